import Derived.Test.YtlbkbnhnklaebaaRib
namespace Go.Proofs.Ytlbkbnhnklaebaa
open Go.RowKit
set_option linter.unusedVariables false
set_option linter.unusedSimpArgs false

/-! ### Rings of texts: two cells each -/
abbrev Tx := ByteArray × Int
def flat : List Tx → List Value
  | [] => []
  | x :: l => .string x.1 :: I x.2 :: flat l
theorem flat_len : ∀ l : List Tx, (flat l).length = l.length * 2
  | [] => rfl
  | x :: l => by simp only [flat, List.length_cons, flat_len l]; omega
theorem flat_at : ∀ (l : List Tx) (i : Nat) (x : Tx), l[i]? = some x → (flat l)[i * 2]? = some (.string x.1) ∧ (flat l)[i * 2 + 1]? = some (I x.2)
  | [], i, x, h => by simp at h
  | y :: l, 0, x, h => by simp at h; subst h; simp [flat]
  | y :: l, i + 1, x, h => by
    have h2 : l[i]? = some x := by simpa using h
    have := flat_at l i x h2
    have e1 : (i + 1) * 2 = i * 2 + 1 + 1 := by omega
    have e2 : (i + 1) * 2 + 1 = (i * 2 + 1) + 1 + 1 := by omega
    rw [e1]
    simp only [flat, List.getElem?_cons_succ]
    exact this
theorem flat_set : ∀ (l : List Tx) (i : Nat) (x : Tx), flat (l.set i x) = ((flat l).set (i * 2) (.string x.1)).set (i * 2 + 1) (I x.2)
  | [], i, x => by simp [flat]
  | y :: l, 0, x => by simp [flat]
  | y :: l, i + 1, x => by
    have e1 : (i + 1) * 2 = i * 2 + 1 + 1 := by omega
    have e2 : (i + 1) * 2 + 1 = (i * 2 + 1) + 1 + 1 := by omega
    rw [e1]
    simp only [flat, List.set_cons_succ, flat_set l i x]
/-- A ring of texts. -/
structure Rq (w : World) (T E : TypeId) (B g n f hi : Nat) (R l : List Tx) : Prop where
  o : w.heap[B]? = some (.cells #[.bool true, .slice (some ⟨g, 0, none⟩) n n, I f, I l.length, I hi] T)
  q : w.heap[g]? = some (.cells (flat R).toArray E)
  k : R.length = n
  m : n ≤ 65536
  r : Rw R f l
  y : l.length ≤ hi ∧ hi ≤ n
  ne : B ≠ g
section
variable {w : World} {T E : TypeId} {B g n f hi : Nat} {R l : List Tx}
theorem Rq.cells (h : Rq w T E B g n f hi R l) : w.cell? ⟨B, 0, none⟩ = some (.bool true) ∧ w.cell? ⟨B, 1, none⟩ = some (.slice (some ⟨g, 0, none⟩) n n) ∧ w.cell? ⟨B, 2, none⟩ = some (I f) ∧ w.cell? ⟨B, 3, none⟩ = some (I l.length) ∧ w.cell? ⟨B, 4, none⟩ = some (I hi) := by
  refine ⟨?_, ?_, ?_, ?_, ?_⟩ <;> (rw [cell_of_row w B _ _ _ (0, 0) h.o]; rfl)
theorem Rq.frz (h : Rq w T E B g n f hi R l) (j : Nat) : w.frozen? ⟨B, j, none⟩ = false := frozen_of_row w B j _ _ h.o
theorem Rq.frzg (h : Rq w T E B g n f hi R l) (j : Nat) : w.frozen? ⟨g, j, none⟩ = false := frozen_of_row w g j _ _ h.q
theorem Rq.at (h : Rq w T E B g n f hi R l) {j : Nat} {v : Tx} (hj : R[j]? = some v) : w.cell? ⟨g, j * 2, none⟩ = some (.string v.1) ∧ w.cell? ⟨g, j * 2 + 1, none⟩ = some (I v.2) := by
  obtain ⟨h1, h2⟩ := flat_at R j v hj
  rw [cell_of_row w g _ _ _ (0, 0) h.q, cell_of_row w g _ _ _ (0, 0) h.q]
  exact ⟨by simpa using h1, by simpa using h2⟩
theorem Rq.kept (h : Rq w T E B g n f hi R l) {bs : List Nat} {w' : World} (hf : Fx bs w w') (h1 : B ∉ bs) (h2 : g ∉ bs) : Rq w' T E B g n f hi R l :=
  ⟨hf.heap h.o h1, hf.heap h.q h2, h.k, h.m, h.r, h.y, h.ne⟩
theorem Rq.below (h : Rq w T E B g n f hi R l) {w' : World} (hf : Below w.heap.size w w') : Rq w' T E B g n f hi R l := h.kept (bs := []) (Fx.of_below hf) (by simp) (by simp)
theorem Rq.drewN (h : Rq w T E B g n f hi R l) (q : Nat) : Rq (w.drewN q) T E B g n f hi R l := h.below (below_drewN q (Below.refl _ _))
theorem Rq.flt (h : Rq w T E B g n f hi R l) (hn : 0 < n) : f < n := by have := h.r.lt (by rw [h.k]; exact hn); rw [h.k] at this; exact this
theorem Rq.lts (h : Rq w T E B g n f hi R l) : B < w.heap.size ∧ g < w.heap.size := ⟨heap_lt h.o, heap_lt h.q⟩
theorem Rq.lle (h : Rq w T E B g n f hi R l) : l.length ≤ n := Nat.le_trans h.y.1 h.y.2
end
theorem Rq.mk2 {w2 w3 : World} {T E : TypeId} {B g n p f' hi' : Nat} {R l' : List Tx} {x : Tx} (hg : w2.heap[g]? = some (.cells (flat R).toArray E)) (k : R.length = n) (m : n ≤ 65536) (ne : B ≠ g) (r : Rw (R.set p x) f' l') (y : l'.length ≤ hi' ∧ hi' ≤ n)
    (h3 : w3.heap[B]? = some (.cells #[.bool true, .slice (some ⟨g, 0, none⟩) n n, I f', I l'.length, I hi'] T)) (hF : Fx [B] ((w2.setCell ⟨g, p * 2, none⟩ (.string x.1)).setCell ⟨g, p * 2 + 1, none⟩ (I x.2)) w3) : Rq w3 T E B g n f' hi' (R.set p x) l' := by
  refine ⟨h3, ?_, by simpa using k, m, r, y, ne⟩
  have h4 := heap_setCell_same _ g (p * 2 + 1) _ _ (I x.2) (heap_setCell_same w2 g (p * 2) _ _ (.string x.1) hg)
  have h5 := hF.heap h4 (by simpa using fun e => ne e.symm)
  rw [h5, flat_set]
  simp
end Go.Proofs.Ytlbkbnhnklaebaa
