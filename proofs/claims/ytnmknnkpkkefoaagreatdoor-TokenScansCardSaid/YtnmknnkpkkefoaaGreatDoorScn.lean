import Derived.Test.YtnmknnkpkkefoaaGreatDoorSeu
import Derived.OwnWalk
import Derived.Lib.ItoaMem
namespace Go.Proofs.YtnmknnkpkkefoaaGreatDoor
open Go.RowKit
set_option linter.unusedVariables false

def tkL (t : List UInt8) (x : Tk × Nat) : List Value := (tkC x.1 x.2 (lineN t x.2) (colN t x.2)).toList
def tksL (t : List UInt8) (ts : List (Tk × Nat)) : List Value := ts.flatMap (tkL t)
theorem tksL_snoc (t : List UInt8) (ts : List (Tk × Nat)) (x : Tk × Nat) : tksL t (ts ++ [x]) = tksL t ts ++ tkL t x := by simp [tksL]
theorem Tryz.info34 : (Tryz.prog.info? 34).map (fun i => (i.zero, i.size, i.bytes)) = some (some (.agg zero7), 7, 56) := by kernel_rfl
theorem own_grown {w w' : World} {base e size r n : Nat} {v : Value} {xs : List Value} (h : w.ownsRow base e size v n xs) (hg : w.grownBy w' (some r)) (hr : r < base) : w'.ownsRow base e size v n xs := by
  obtain ⟨hl, h0 | ⟨g, cap, cur, hv, hb, hh, rr⟩⟩ := h
  · exact ⟨hl, .inl h0⟩
  · exact ⟨hl, .inr ⟨g, cap, cur, hv, hb, (hg.block g (heap_lt hh) (fun e => by cases e; omega)).trans hh, rr⟩⟩
theorem cell_new7 (w : World) (vs : Array Value) (t : TypeId) : ∀ j u, vs.toList[j]? = some u → (w.alloc (.cells vs t)).cell? ((⟨w.heap.size, 0, none⟩ : Addr).add j) = some u := by
  intro j u hj
  rw [Lib.add_plain, Nat.zero_add, World.cell?_alloc_new]
  simpa using hj
theorem own_shape7 {w : World} {base : Nat} {v : Value} {n : Nat} {xs : List Value} (h : w.ownsRow base 34 7 v n xs) : ∃ a cap, v = .slice a n cap := by
  rcases h.2 with ⟨h1, h2⟩ | ⟨g, cap', cur, hv, _⟩
  · exact ⟨none, 0, by rw [h1, h2]⟩
  · exact ⟨_, _, hv⟩
theorem own_base {w : World} {base base' e size n : Nat} {v : Value} {xs : List Value} (h : w.ownsRow base e size v n xs) (hb : base' ≤ base) : w.ownsRow base' e size v n xs := by
  obtain ⟨hl, h0 | ⟨g, cap, cur, hv, hb2, hh, rr⟩⟩ := h
  · exact ⟨hl, .inl h0⟩
  · exact ⟨hl, .inr ⟨g, cap, cur, hv, by omega, hh, rr⟩⟩
theorem cell_new7' (w : World) (a : Obj) (vs : Array Value) (t : TypeId) : ∀ j u, vs.toList[j]? = some u → ((w.alloc a).alloc (.cells vs t)).cell? ((⟨w.heap.size + 1, 0, none⟩ : Addr).add j) = some u := by
  have := cell_new7 (w.alloc a) vs t
  rwa [show (w.alloc a).heap.size = w.heap.size + 1 by simp] at this
theorem heap2_0 (w : World) (a b : Obj) : ((w.alloc a).alloc b).heap[w.heap.size]? = some a := by
  show ((w.heap.push a).push b)[w.heap.size]? = some a
  rw [push_lt _ _ _ (by simp), push_at]
theorem one7 (k a b c v : Int) (t : ByteArray) (h : Bool) : ∀ u ∈ [Value.int .i64 k, .int .i64 a, .int .i64 b, .int .i64 c, .string t, .int .u32 v, .bool h], u.oneCell' = true := by
  intro u hu
  simp at hu
  rcases hu with rfl | rfl | rfl | rfl | rfl | rfl | rfl <;> rfl
def zero5 : Array Value := #[.int .i64 0, .int .i64 0, .int .i64 0, .int .i64 0, .string ⟨#[]⟩]
/-- What Scan leaves. -/
def SPost (w : World) (t : List UInt8) (x : (List (Tk × Nat)) ⊕ (Nat × Nat)) (e : Ending) (w' : World) : Prop :=
  match x with
  | .inl ts => ∃ v, e = .returned (.tuple #[v, .agg zero5]) ∧ w'.ownsRow w.heap.size 34 7 v ts.length (tksL t ts) ∧ Below w.heap.size w w'
  | .inr (c, a) => e = .returned (.tuple #[.slice none 0 0, .agg #[.int .i64 (c : Int), .int .i64 (a : Int), .int .i64 (lineN t a : Int), .int .i64 (colN t a : Int), .string ⟨#[]⟩]]) ∧ Below w.heap.size w w'
theorem own_below {w w' : World} {base e size n : Nat} {v : Value} {xs : List Value} (h : w.ownsRow base e size v n xs) (hb : Below w.heap.size w w') : w'.ownsRow base e size v n xs := by
  obtain ⟨hl, h0 | ⟨g, cap, cur, hv, hb1, hh, rr⟩⟩ := h
  · exact ⟨hl, .inl h0⟩
  · exact ⟨hl, .inr ⟨g, cap, cur, hv, hb1, (hb.block g (heap_lt hh)).trans hh, rr⟩⟩
end Go.Proofs.YtnmknnkpkkefoaaGreatDoor
