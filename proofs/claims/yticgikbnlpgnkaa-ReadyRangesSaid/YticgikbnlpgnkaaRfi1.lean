import Derived.Test.YticgikbnlpgnkaaRei1
namespace Go.Proofs.Yticgikbnlpgnkaa
open Go.RowKit
set_option linter.unusedVariables false
set_option linter.unusedSimpArgs false

/-! ### Rings of int: First, Take -/
section
variable {w : World} {B g n f hi : Nat} {R l : List Value}
theorem iFirst_ok (h : iRg w B g n f hi R l) (hc : l.length < n) (x : Int) : Calls Try.prog 36 #[iP B, (Value.int .i64 x)] w fun e w' => e = .returned (I 0) ∧ iRg w' B g n ((f + (n - 1)) % n) (max hi (l.length + 1)) (R.set ((f + (n - 1)) % n) (Value.int .i64 x)) ((Value.int .i64 x) :: l) ∧ Fx [B, g] w w' := by
  have hF := (imayPut_ok h hc)
  have hm := h.m
  have hpl : (f + (n - 1)) % n < n := Nat.mod_lt _ (by omega)
  obtain ⟨old, hold⟩ : ∃ old, R[(f + (n - 1)) % n]? = some old := ⟨_, List.getElem?_eq_getElem (by rw [h.k]; exact hpl)⟩
  have hp : ∀ q, Calls Try.prog 56 #[iP B, I ((n : Int) - 1)] (w.drewN q) fun e w' => e = .returned (I ((f + (n - 1)) % n : Nat)) ∧ iRg w' B g n f hi R l ∧ Fx [B, g] w w' ∧ w'.cell? ⟨B, 2, none⟩ = some (I f) ∧ w'.frozen? ⟨B, 2, none⟩ = false := fun q => by
    have := (iplace_any (h.drewN q) (by omega) (n - 1) (by omega))
    rw [show ((n - 1 : Nat) : Int) = (n : Int) - 1 by omega] at this
    refine this.mono ?_
    rintro e w' ⟨k, q2, rfl⟩
    have h2 := (h.drewN q).drewN q2
    exact ⟨k, h2, ((Fx.refl _ _).drewN q).drewN q2, h2.cells.2.2.1, h2.frz _⟩
  have hb1 := fun q => (h.drewN q).cells.2.1
  have HL : Hid (l.length < n) := hc
  clear hc
  generalize hpp : (f + (n - 1)) % n = p at *
  have HP : Hid ((f + (n - 1)) % n = p) := hpp
  have hx0 : ¬ ((p : Int) < 0) := by omega
  have hx1 : (p : Int) < n := by omega
  clear hpp
  go_enter Try.func36, Try.ntmps36
  go_wp2_with (first | (go_at_call 55; refine hF.mono ?_; rintro e w0 ⟨rfl, q, rfl⟩; have hb9 := hb1 q) | (go_at_call 56; refine (hp q).mono ?_; rintro e w2 ⟨rfl, h2, F2, x2, z2⟩))
  have hNE := h.ne
  have hB3 := heap_setCell_same w2 B 2 _ _ (I p) h2.o
  have hG3 := (heap_setCell_other w2 ⟨B, 2, none⟩ g (I p) (fun e => hNE e.symm)).trans h2.q
  have F3 : Fx [B, g] w (w2.setCell ⟨B, 2, none⟩ (I p)) := F2.set (.inl (by simp)) _ _
  clear x2 z2 hb9 hb1 hp hF
  generalize (w2.setCell ⟨B, 2, none⟩ (I p)) = W at *
  have b1 : W.cell? ⟨B, 1, none⟩ = some (.slice (some ⟨g, 0, none⟩) n n) := by rw [cell_of_row W B _ _ _ (0, 0) hB3]; rfl
  have b2 : W.cell? ⟨B, 2, none⟩ = some (I p) := by rw [cell_of_row W B _ _ _ (0, 0) hB3]; rfl
  have g1 : W.cell? ⟨g, p, none⟩ = some old := by rw [cell_of_row W g _ _ _ (0, 0) hG3]; simpa using hold
  have z1 : W.frozen? ⟨g, p, none⟩ = false := frozen_of_row W g p _ _ hG3
  have H2 : Hid (iRg w2 B g n f hi R l) := h2
  have HB : Hid (W.heap[B]? = some (.cells #[.bool true, .slice (some ⟨g, 0, none⟩) n n, I p, I l.length, I hi] 89)) := hB3
  have HG : Hid (W.heap[g]? = some (.cells R.toArray 3)) := hG3
  clear hold hB3 hG3 h2 h
  go_region_held_law (fun w' => w'.cell? ⟨B, 1, none⟩ = some (.slice (some ⟨g, 0, none⟩) n n) ∧ w'.cell? ⟨B, 2, none⟩ = some (I p))
    (first | exact ⟨b1, b2⟩ | exact ⟨(cell_set_ne hNE).trans b1, (cell_set_ne hNE).trans b2⟩ | (go_keep; done))
    (fail)
  have hB4 : ((W.setCell ⟨g, p, none⟩ (Value.int .i64 x)).drew).heap[B]? = some (.cells #[.bool true, .slice (some ⟨g, 0, none⟩) n n, I p, I l.length, I hi] 89) := (heap_setCell_other W ⟨g, p, none⟩ B _ hNE).trans HB.out
  have hO := ioneMore_any ((W.setCell ⟨g, p, none⟩ (Value.int .i64 x)).drew) B p l.length hi _ (by have := H2.out.lle; omega) (by have := H2.out.y; omega) hB4
  clear b1 b2 g1 z1
  go_wp2_with (go_at_call 57; refine hO.mono ?_; rintro e w5 ⟨rfl, h5, F5⟩)
  go_ret
  have h2 := H2.out
  have hl := HL.out
  have ee : ((Value.int .i64 x) :: l).length = l.length + 1 := by simp
  refine ⟨rfl, Rg.mk2 (w2 := W) HG.out h2.k h2.m hNE ?_ ?_ ?_ (((Fx.refl _ _).drewN 1).trans F5), (((F3.set (b := g) (.inl (by simp)) p (Value.int .i64 x)).drewN 1).trans (F5.mono (by simp)))⟩
  · have := h2.r.first (by rw [h2.k]; exact hl) (Value.int .i64 x)
    rw [h2.k, HP.out] at this
    exact this
  · rw [ee]
    have := h2.y
    omega
  · rw [ee]
    exact h5
end
end Go.Proofs.Yticgikbnlpgnkaa
