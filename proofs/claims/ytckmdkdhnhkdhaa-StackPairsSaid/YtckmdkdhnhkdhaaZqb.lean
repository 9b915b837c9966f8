import Derived.Test.YtckmdkdhnhkdhaaZba
namespace Go.Proofs.Ytckmdkdhnhkdhaa
open Go.RowKit
set_option linter.unusedVariables false
set_option linter.unusedSimpArgs false

/-! ### Stacks of pairs: two cells each -/
abbrev Pa := Int × ByteArray
def flat : List Pa → List Value
  | [] => []
  | x :: l => I x.1 :: .string x.2 :: flat l
theorem flat_len : ∀ l : List Pa, (flat l).length = l.length * 2
  | [] => rfl
  | x :: l => by simp only [flat, List.length_cons, flat_len l]; omega
theorem flat_at : ∀ (l : List Pa) (i : Nat) (x : Pa), l[i]? = some x → (flat l)[i * 2]? = some (I x.1) ∧ (flat l)[i * 2 + 1]? = some (.string x.2)
  | [], i, x, h => by simp at h
  | y :: l, 0, x, h => by simp at h; subst h; simp [flat]
  | y :: l, i + 1, x, h => by
    have h2 : l[i]? = some x := by simpa using h
    have := flat_at l i x h2
    have e1 : (i + 1) * 2 = i * 2 + 1 + 1 := by omega
    rw [e1]
    simp only [flat, List.getElem?_cons_succ]
    exact this
theorem flat_set : ∀ (l : List Pa) (i : Nat) (x : Pa), flat (l.set i x) = ((flat l).set (i * 2) (I x.1)).set (i * 2 + 1) (.string x.2)
  | [], i, x => by simp [flat]
  | y :: l, 0, x => by simp [flat]
  | y :: l, i + 1, x => by
    have e1 : (i + 1) * 2 = i * 2 + 1 + 1 := by omega
    rw [e1]
    simp only [flat, List.set_cons_succ, flat_set l i x]
/-- A stack of pairs. -/
structure Sq (w : World) (T E : TypeId) (B g n hi : Nat) (R l : List Pa) : Prop where
  o : w.heap[B]? = some (.cells #[.bool true, .slice (some ⟨g, 0, none⟩) n n, I l.length, I hi] T)
  q : w.heap[g]? = some (.cells (flat R).toArray E)
  k : R.length = n
  m : n ≤ 1024
  r : R.take l.length = l
  y : l.length ≤ hi ∧ hi ≤ n
  ne : B ≠ g
section
variable {w : World} {T E : TypeId} {B g n hi : Nat} {R l : List Pa}
theorem Sq.cells (h : Sq w T E B g n hi R l) : w.cell? ⟨B, 0, none⟩ = some (.bool true) ∧ w.cell? ⟨B, 1, none⟩ = some (.slice (some ⟨g, 0, none⟩) n n) ∧ w.cell? ⟨B, 2, none⟩ = some (I l.length) ∧ w.cell? ⟨B, 3, none⟩ = some (I hi) := by
  refine ⟨?_, ?_, ?_, ?_⟩ <;> (rw [cell_of_row w B _ _ _ (0, 0) h.o]; rfl)
theorem Sq.frz (h : Sq w T E B g n hi R l) (j : Nat) : w.frozen? ⟨B, j, none⟩ = false := frozen_of_row w B j _ _ h.o
theorem Sq.frzg (h : Sq w T E B g n hi R l) (j : Nat) : w.frozen? ⟨g, j, none⟩ = false := frozen_of_row w g j _ _ h.q
theorem Sq.atR (h : Sq w T E B g n hi R l) {j : Nat} {v : Pa} (hj : R[j]? = some v) : w.cell? ⟨g, j * 2, none⟩ = some (I v.1) ∧ w.cell? ⟨g, j * 2 + 1, none⟩ = some (.string v.2) := by
  obtain ⟨h1, h2⟩ := flat_at R j v hj
  rw [cell_of_row w g _ _ _ (0, 0) h.q, cell_of_row w g _ _ _ (0, 0) h.q]
  exact ⟨by simpa using h1, by simpa using h2⟩
theorem Sq.at (h : Sq w T E B g n hi R l) {j : Nat} {v : Pa} (hj : l[j]? = some v) : w.cell? ⟨g, j * 2, none⟩ = some (I v.1) ∧ w.cell? ⟨g, j * 2 + 1, none⟩ = some (.string v.2) := by
  refine h.atR ?_
  have hl := (List.getElem?_eq_some_iff.1 hj).1
  rw [← h.r, List.getElem?_take_of_lt hl] at hj
  exact hj
theorem Sq.keptZ (h : Sq w T E B g n hi R l) {M : Nat → Prop} {w' : World} (hf : Fz M w w') (h1 : ¬ M B) (h2 : ¬ M g) : Sq w' T E B g n hi R l :=
  ⟨hf.heap h.o h1, hf.heap h.q h2, h.k, h.m, h.r, h.y, h.ne⟩
theorem Sq.kept (h : Sq w T E B g n hi R l) {bs : List Nat} {w' : World} (hf : Fx bs w w') (h1 : B ∉ bs) (h2 : g ∉ bs) : Sq w' T E B g n hi R l :=
  ⟨hf.heap h.o h1, hf.heap h.q h2, h.k, h.m, h.r, h.y, h.ne⟩
theorem Sq.below (h : Sq w T E B g n hi R l) {w' : World} (hf : Below w.heap.size w w') : Sq w' T E B g n hi R l := h.kept (bs := []) (Fx.of_below hf) (by simp) (by simp)
theorem Sq.drewN (h : Sq w T E B g n hi R l) (q : Nat) : Sq (w.drewN q) T E B g n hi R l := h.below (below_drewN q (Below.refl _ _))
theorem Sq.lts (h : Sq w T E B g n hi R l) : B < w.heap.size ∧ g < w.heap.size := ⟨heap_lt h.o, heap_lt h.q⟩
theorem Sq.lle (h : Sq w T E B g n hi R l) : l.length ≤ n := Nat.le_trans h.y.1 h.y.2
end
end Go.Proofs.Ytckmdkdhnhkdhaa
