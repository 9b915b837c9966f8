import Derived.Test.YtlbkbnhnklaebaaRdcp
namespace Go.Proofs.Ytlbkbnhnklaebaa
open Go.RowKit
set_option linter.unusedVariables false
set_option linter.unusedSimpArgs false

theorem iCopyQ {w : World} {B g n hi : Nat} {l : List Int} (h : iQ w B g n hi (intsV l)) : Calls Try.prog 31 #[iP B] w fun e w' => ∃ B' g', e = .returned (iP B') ∧ iQ w' B' g' n hi (intsV l) ∧ w.heap.size ≤ B' ∧ w.heap.size ≤ g' ∧ Below w.heap.size w w' := by
  obtain ⟨f, R, hR⟩ := h
  exact iCopy_any hR (ones2 l)
theorem iClearQ {w : World} {B g n hi : Nat} {l : List Value} (h : iQ w B g n hi l) : Calls Try.prog 33 #[iP B] w fun e w' => e = .returned (I l.length) ∧ iQ w' B g n hi [] ∧ Fx [B, g] w w' := by
  obtain ⟨f, R, hR⟩ := h
  exact iClear_any hR
theorem acts_cell {W : World} {a : Option Addr} {n c : Nat} {l : List (Int × Int)} (h : RowsAt W 2 actP ⟨a, n, c⟩ l) {i : Nat} {kd vv : Int} (hx : l[i]? = some (kd, vv)) : ∃ g off, a = some ⟨g, off, none⟩ ∧ ∀ Z, Below W.heap.size W Z → Z.cell? ⟨g, off + i * 2, none⟩ = some (I kd) ∧ Z.cell? ⟨g, off + i * 2 + 1, none⟩ = some (I vv) := by
  obtain ⟨g, off, e, hg, hr⟩ := h.row i _ hx
  refine ⟨g, off, e, fun Z hZ => ?_⟩
  obtain ⟨u0, h0, p0⟩ := hr 0 (by omega)
  obtain ⟨u1, h1, p1⟩ := hr 1 (by omega)
  have e0 := (p0.1 rfl).1
  have e1 := (p1.2 rfl).1
  subst e0 e1
  exact ⟨(hZ.cell (p := ⟨g, off + i * 2, none⟩) hg).trans (by simpa using h0), (hZ.cell (p := ⟨g, off + i * 2 + 1, none⟩) hg).trans h1⟩
theorem p_act : Try.prog.cellsOf 49 = 2 := by kernel_rfl
end Go.Proofs.Ytlbkbnhnklaebaa
