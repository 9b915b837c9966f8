import Derived.Test.YtpbnpmeigdjfdaaGreatDoorBgl
namespace Go.Proofs.YtpbnpmeigdjfdaaGreatDoor
open Go.RowKit Go.Sort
set_option linter.unusedVariables false
set_option linter.unusedSimpArgs false

def z3r : Array Value := #[.int .u64 0, .int .u64 0, .bool false]
def uL (l : List Nat) : List Value := l.map fun x => U x
theorem uL_len (l : List Nat) : (uL l).length = l.length := by simp [uL]
theorem uL_one (l : List Nat) : ∀ u ∈ uL l, u.oneCell' = true := by
  intro u hu
  obtain ⟨x, _, rfl⟩ := List.mem_map.1 hu
  rfl
theorem uL_cells {w : World} {a : Option Addr} {g off n c : Nat} {l : List Nat} (h : RowsAt w 1 uP ⟨a, n, c⟩ l) (ha : a = some ⟨g, off, none⟩) : ∀ j u, (uL l)[j]? = some u → w.cell? ((⟨g, off, none⟩ : Addr).add j) = some u := by
  intro j u hj
  unfold uL at hj
  rw [List.getElem?_map] at hj
  obtain ⟨x, hx, rfl⟩ := Option.map_eq_some_iff.1 hj
  obtain ⟨g', off', e, _, hc⟩ := nat_at h hx
  have e2 := ha.symm.trans e
  cases e2
  rw [add_row]
  exact hc
theorem own_empty (w : World) : (w.alloc (.cells #[] 38)).ownsRow w.heap.size 38 1 (.slice (some ⟨w.heap.size, 0, none⟩) 0 0) 0 [] := ⟨rfl, .inr ⟨w.heap.size, 0, _, rfl, Nat.le_refl _, heap_alloc_new _ _, Nat.le_refl _, Nat.zero_le _, rfl, rfl⟩⟩
theorem u_rows {w : World} {B n : Nat} {s : Sl} {l : List Nat} (h : w.ownsRow B 38 1 (.slice s.a s.n s.c) n (uL l)) (hn : n = l.length) : RowsAt w 1 uP s l := by
  obtain ⟨sa, sn, sc⟩ := s
  obtain ⟨_, ⟨hv, h0⟩ | ⟨g, cap, cur, hv, hb1, hh, hnc, hcm, hcs, htk⟩⟩ := h
  · cases hv
    have : l = [] := List.eq_nil_of_length_eq_zero (by omega)
    subst this
    exact ⟨rfl, Nat.le_refl _, Nat.zero_le _, fun j x hj => by cases hj⟩
  · cases hv
    refine ⟨hn, hnc, hcm, fun j x hj => ⟨g, 0, rfl, heap_lt hh, fun i hi => ?_⟩⟩
    obtain rfl : i = 0 := by omega
    have hjl := (List.getElem?_eq_some_iff.1 hj).1
    have hc : (uL l)[j]? = some (U x) := by unfold uL; rw [List.getElem?_map, hj]; rfl
    rw [← htk, List.getElem?_take, if_pos (by omega), Array.getElem?_toList] at hc
    exact ⟨_, by rw [cell_at3 hh, show 0 + j * 1 + 0 = j by omega]; exact hc, rfl⟩
theorem idx_mod (which : Int) (n : Nat) (h : 0 < n) (h2 : n ≤ 256) : ∃ k : Nat, k < n ∧ wrap64 ((IntKind.u64.wrap which).tmod (n : Int)) = (k : Int) := by
  have hX : 0 ≤ IntKind.u64.wrap which := by rw [IntKind.wrap_u64]; omega
  obtain ⟨X, hX'⟩ := Int.eq_ofNat_of_zero_le hX
  rw [hX']
  have hm := Nat.mod_lt X h
  refine ⟨X % n, hm, ?_⟩
  show wrap64 (((X % n : Nat)) : Int) = _
  unfold wrap64
  omega
theorem own_some {w : World} {B : Nat} {sa : Option Addr} {n sc : Nat} {xs : List Value} (h : w.ownsRow B 38 1 (.slice sa n sc) n xs) (hn : 0 < n) : ∃ g, sa = some ⟨g, 0, none⟩ := by
  obtain ⟨_, ⟨hv, h0⟩ | ⟨g, cap, cur, hv, _⟩⟩ := h
  · omega
  · cases hv; exact ⟨g, rfl⟩
theorem own_lenB {w : World} {B : Nat} {sa : Option Addr} {n sc : Nat} {xs : List Value} (h : w.ownsRow B 38 1 (.slice sa n sc) n xs) : n ≤ sc ∧ sc ≤ maxLen := by
  obtain ⟨_, ⟨hv, h0⟩ | ⟨g, cap, cur, hv, _, _, h1, h2, _⟩⟩ := h
  · cases hv; exact ⟨Nat.le_refl _, Nat.zero_le _⟩
  · cases hv; exact ⟨h1, h2⟩
theorem infoU : (Tryz.prog.info? 38).map (fun i => (i.zero, i.size, i.bytes)) = some (some (.int .u64 0 : Value), 1, 8) := by kernel_rfl
end Go.Proofs.YtpbnpmeigdjfdaaGreatDoor
