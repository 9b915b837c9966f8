import Derived.Test.YtlbgppijeoonjaaGreatDoorTkX
import Derived.Lib.OthersKept
import Derived.Laws.RangeAny
namespace Go.Proofs.YtlbgppijeoonjaaGreatDoor
open Go.RowKit
set_option linter.unusedVariables false

def B (c : UInt8) : Value := .int .u8 (c.toNat : Int)
theorem Tryz.info5 : (Tryz.prog.info? 5).map (fun i => (i.zero, i.size, i.bytes)) = some (some (.int .u8 0), 1, 1) := by kernel_rfl
theorem conv_nil (w : World) : (convert 110 9 (.slice none 0 0)).run Tryz.prog w = .ok (.string ⟨#[]⟩) w := by kernel_rfl
theorem conv_own {w : World} {base n : Nat} {v : Value} {l : List UInt8} (h : w.ownsRow base 5 1 v n (l.map B)) : (convert 110 9 v).run Tryz.prog w = .ok (.string ⟨l.toArray⟩) w := by
  have hl : l.length = n := by have := h.1; simpa using this
  rcases h.2 with ⟨rfl, h0⟩ | ⟨g, cap, cur, rfl, _⟩
  · have : l = [] := List.eq_nil_of_length_eq_zero (by omega)
    subst this
    exact conv_nil w
  · subst hl
    refine run_convert_bytes_back w 110 9 5 ⟨g, 0, none⟩ cap l Tryz.underlying110 Tryz.underlying5 Tryz.underlying9 (fun j hj => ?_)
    have := h.cellAt j (by omega)
    have e : ((⟨g, 0, none⟩ : Addr).add j) = ⟨g, j, none⟩ := by unfold Addr.add; by_cases h0 : j = 0 <;> simp [h0]
    rw [e, this]; simp [hj, B]
theorem cell_one_new' (w : World) (v : Value) (e : TypeId) : ∀ j u, [v][j]? = some u → (w.alloc (.cells #[v] e)).cell? ((⟨w.heap.size, 0, none⟩ : Addr).add j) = some u := by
  intro j u hj
  match j, hj with
  | 0, hj => simp at hj; subst hj; simp [Addr.add]
theorem grown_alloc {w w' : World} {o : Obj} {row : Option Nat} (h : (w.alloc o).grownBy w' row) : w.grownBy w' row := by
  refine ⟨h.os, h.tape, h.output, ?_, fun k hk hne => ?_⟩
  · have := h.size
    simp at this
    omega
  · rw [h.block k (by simp; omega) hne]
    exact Below.heap_alloc w o k hk
theorem owns_shape {w : World} {base : Nat} {v : Value} {n : Nat} {xs : List Value} (h : w.ownsRow base 5 1 v n xs) : ∃ a cap, v = .slice a n cap := by
  rcases h.2 with ⟨h1, h2⟩ | ⟨g, cap', cur, hv, _⟩
  · exact ⟨none, 0, by rw [h1, h2]⟩
  · exact ⟨_, _, hv⟩
theorem own_iter {w : World} {base k n : Nat} {v : Value} {xs : List Value} (h : w.ownsRow base 5 1 v n xs) (hk : k < base) (x : ByteArray) (pos : Nat) : (w.iterAt k x pos).ownsRow base 5 1 v n xs := by
  obtain ⟨hl, h0 | ⟨g, cap, cur, hv, hb, hh, r⟩⟩ := h
  · exact ⟨hl, .inl h0⟩
  · exact ⟨hl, .inr ⟨g, cap, cur, hv, hb, by rw [Lib.iterAt_other w k g x pos (by omega)]; exact hh, r⟩⟩
/-- Behind a backslash. -/
def quoB (t : List UInt8) (said : List UInt8) (pos : Nat) : QR :=
  match t with
  | [] => .bad pos
  | d :: t' => if escB d = true then quoL t' (said ++ [d]) (pos + 1) else .bad pos
def quoS (bh : Bool) (t : List UInt8) (said : List UInt8) (pos : Nat) : QR := if bh = true then quoB t said pos else quoL t said pos
theorem quo_bs (t : List UInt8) (said : List UInt8) (pos : Nat) : quoL (92 :: t) said pos = quoB t said (pos + 1) := by
  rw [quoL.eq_def]
  simp only
  rw [if_neg (by decide), if_neg (by decide), if_pos trivial]
  cases t with
  | nil => rw [quoB, Nat.add_comm]
  | cons d t' => rw [quoB, Nat.add_comm 1 pos]
theorem quo_done (t : List UInt8) (said : List UInt8) (pos : Nat) : quoL (34 :: t) said pos = .done said pos := by rw [quoL.eq_def]; simp only; rw [if_pos trivial]
theorem quo_bad (c : UInt8) (t : List UInt8) (said : List UInt8) (pos : Nat) (h : sayB c = false) : quoL (c :: t) said pos = .bad (1 + pos) := by
  rw [quoL.eq_def]
  simp only
  rw [if_neg (fun e => by subst e; exact absurd h (by decide)), if_pos h]
theorem quo_say (c : UInt8) (t : List UInt8) (said : List UInt8) (pos : Nat) (h : sayB c = true) (h1 : c ≠ 34) (h2 : c ≠ 92) : quoL (c :: t) said pos = quoL t (said ++ [c]) (pos + 1) := by
  rw [quoL.eq_def]
  simp only
  rw [if_neg h1, if_neg (by rw [h]; decide), if_neg h2]
end Go.Proofs.YtlbgppijeoonjaaGreatDoor
