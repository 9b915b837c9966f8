import Derived.Test.YticgikbnlpgnkaaRci1
namespace Go.Proofs.Yticgikbnlpgnkaa
open Go.RowKit
set_option linter.unusedVariables false
set_option linter.unusedSimpArgs false

/-! ### Rings of int: New, Last, First, Take, At -/
section
variable {w : World} {B g n f hi : Nat} {R l : List Value}
theorem iFull_any (h : iRg w B g n f hi R l) : Calls Try.prog 54 #[iP B] w fun e w' => e = .returned (.bool (decide (l.length = n))) ∧ ∃ q, w' = w.drewN q := by
  obtain ⟨-, c1, -, c3, -⟩ := h.cells
  have hN := fun q => (inone_any (h.drewN q)).mono (R' := fun e w' => e = .returned (.bool false) ∧ w' = w.drewN q) (fun e w' k => ⟨k.1, k.2.symm⟩)
  have H : Hid (((l.length : Int) == (n : Int)) = decide (l.length = n)) := by
    show _ = _
    rw [Bool.eq_iff_iff]
    simp
    omega
  go_enter Try.func54, Try.ntmps54
  go_wp2
  go_quiet ((go_at_call 58; exact Calls.quiet_of_same (hN _)))
  go_wp2
  go_ret
  exact ⟨ret_bool (by simpa using H.out), nq, rfl⟩
theorem imayPut_ok (h : iRg w B g n f hi R l) (hc : l.length < n) : Calls Try.prog 55 #[iP B] w fun e w' => e = .returned (I 0) ∧ ∃ q, w' = w.drewN q := by
  have hF := (iFull_any h)
  rw [decide_eq_false (by omega)] at hF
  go_enter Try.func55, Try.ntmps55
  go_wp2_with (first | (go_at_call 58; refine (inone_any h).mono ?_; rintro e w1 ⟨rfl, rfl⟩) | (go_at_call 54; refine hF.mono ?_; rintro e w1 ⟨rfl, q, rfl⟩))
  go_ret
  exact ⟨rfl, q, rfl⟩
theorem imayPut_full (h : iRg w B g n f hi R l) (hc : l.length = n) : Calls Try.prog 55 #[iP B] w fun e w' => e = .returned (I 121) ∧ ∃ q, w' = w.drewN q := by
  have hF := (iFull_any h)
  rw [decide_eq_true hc] at hF
  clear hc
  go_enter Try.func55, Try.ntmps55
  go_wp2_with (first | (go_at_call 58; refine (inone_any h).mono ?_; rintro e w1 ⟨rfl, rfl⟩) | (go_at_call 54; refine hF.mono ?_; rintro e w1 ⟨rfl, q, rfl⟩))
  go_ret
  exact ⟨rfl, q, rfl⟩
theorem ioneMore_any (w : World) (B f c hi : Nat) (sl : Value) (hc : c ≤ 65536) (hh : hi ≤ 65536) (h : w.heap[B]? = some (.cells #[.bool true, sl, I f, I c, I hi] 89)) : Calls Try.prog 57 #[iP B] w fun e w' => e = .returned (.tuple #[]) ∧ w'.heap[B]? = some (.cells #[.bool true, sl, I f, I (c + 1 : Nat), I (max hi (c + 1) : Nat)] 89) ∧ Fx [B] w w' := by
  have c3 : w.cell? ⟨B, 3, none⟩ = some (I c) := by rw [cell_of_row w B _ _ _ (0, 0) h]; rfl
  have c4 : w.cell? ⟨B, 4, none⟩ = some (I hi) := by rw [cell_of_row w B _ _ _ (0, 0) h]; rfl
  have fz : ∀ j, w.frozen? ⟨B, j, none⟩ = false := fun j => frozen_of_row w B j _ _ h
  have h2 := heap_setCell_same w B 3 _ _ (I (c + 1 : Nat)) h
  have c34 : (w.setCell ⟨B, 3, none⟩ (I (c + 1 : Nat))).cell? ⟨B, 3, none⟩ = some (I (c + 1 : Nat)) := by rw [cell_of_row _ B _ _ _ (0, 0) h2]; rfl
  have c44 : (w.setCell ⟨B, 3, none⟩ (I (c + 1 : Nat))).cell? ⟨B, 4, none⟩ = some (I hi) := by rw [cell_of_row _ B _ _ _ (0, 0) h2]; rfl
  have fz4 : ∀ j, (w.setCell ⟨B, 3, none⟩ (I (c + 1 : Nat))).frozen? ⟨B, j, none⟩ = false := fun j => frozen_of_row _ B j _ _ h2
  have F2 : Fx [B] w (w.setCell ⟨B, 3, none⟩ (I (c + 1 : Nat))) := (Fx.refl _ _).set (.inl (by simp)) _ _
  have h9 : ∀ x : Int, ((w.setCell ⟨B, 3, none⟩ (I (c + 1 : Nat))).setCell ⟨B, 4, none⟩ (I x)).heap[B]? = some (.cells #[.bool true, sl, I f, I (c + 1 : Nat), I x] 89) := fun x => heap_setCell_same _ B 4 _ _ (I x) h2
  have F9 : ∀ x : Int, Fx [B] w ((w.setCell ⟨B, 3, none⟩ (I (c + 1 : Nat))).setCell ⟨B, 4, none⟩ (I x)) := fun x => F2.set (.inl (by simp)) _ _
  have ec : ((c : Int) + 1) = ((c + 1 : Nat) : Int) := by omega
  have HE : Hid (((c : Int) + 1) = ((c + 1 : Nat) : Int)) := ec
  rw [← ec] at c34 c44 fz4 h9 F9
  rw [← ec]
  clear h2 F2 h ec
  by_cases hx : hi ≤ c
  · have hM : Hid (((max hi (c + 1) : Nat) : Int) = (c : Int) + 1) := by show _ = _; omega
    have h1 : ¬ ((c : Int) + 1 ≤ hi) := by omega
    have h2 : (hi : Int) < (c : Int) + 1 := by omega
    go_enter Try.func57, Try.ntmps57
    go_wp2
    go_region
    all_goals
      go_wp2
      refine bodyPost_end (v := .tuple #[]) (by simp [results, Try.results57, go_sem]) rfl ?_
      rw [hM.out]
      exact ⟨rfl, h9 _, (F9 _).drewN 1⟩
  · have hM : Hid (((max hi (c + 1) : Nat) : Int) = hi) := by show _ = _; omega
    have h1 : ((c : Int) + 1 ≤ hi) := by omega
    have h2 : ¬ (hi : Int) < (c : Int) + 1 := by omega
    go_enter Try.func57, Try.ntmps57
    go_wp2
    go_region
    all_goals
      go_wp2
      refine bodyPost_end (v := .tuple #[]) (by simp [results, Try.results57, go_sem]) rfl ?_
      rw [hM.out]
      exact ⟨rfl, h9 _, (F9 _).drewN 1⟩
theorem iLen_any (h : iRg w B g n f hi R l) : Calls Try.prog 35 #[iP B] w fun e w' => e = .returned (I l.length) ∧ w = w' := by
  obtain ⟨-, c1, -, c3, -⟩ := h.cells
  go_enter Try.func35, Try.ntmps35
  go_wp2_with (go_at_call 58; refine (inone_any h).mono ?_; rintro e w1 ⟨rfl, rfl⟩)
  go_ret
  exact ⟨rfl, rfl⟩
theorem iHigh_any (h : iRg w B g n f hi R l) : Calls Try.prog 61 #[iP B] w fun e w' => e = .returned (I hi) ∧ w = w' := by
  obtain ⟨-, c1, -, c3, c4⟩ := h.cells
  go_enter Try.func61, Try.ntmps61
  go_wp2_with (go_at_call 58; refine (inone_any h).mono ?_; rintro e w1 ⟨rfl, rfl⟩)
  go_ret
  exact ⟨rfl, rfl⟩
end
end Go.Proofs.Yticgikbnlpgnkaa
