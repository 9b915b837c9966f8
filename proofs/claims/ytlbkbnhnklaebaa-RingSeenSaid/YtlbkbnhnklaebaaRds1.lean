import Derived.Test.YtlbkbnhnklaebaaRcs1
namespace Go.Proofs.Ytlbkbnhnklaebaa
open Go.RowKit
set_option linter.unusedVariables false
set_option linter.unusedSimpArgs false

/-! ### Rings of string: New, Last, First, Take, At -/
section
variable {w : World} {B g n f hi : Nat} {R l : List Value}
theorem sFull_any (h : sRg w B g n f hi R l) : Calls Try.prog 42 #[sP B] w fun e w' => e = .returned (.bool (decide (l.length = n))) ∧ ∃ q, w' = w.drewN q := by
  obtain ⟨-, c1, -, c3, -⟩ := h.cells
  have hN := fun q => (snone_any (h.drewN q)).mono (R' := fun e w' => e = .returned (.bool false) ∧ w' = w.drewN q) (fun e w' k => ⟨k.1, k.2.symm⟩)
  have H : Hid (((l.length : Int) == (n : Int)) = decide (l.length = n)) := by
    show _ = _
    rw [Bool.eq_iff_iff]
    simp
    omega
  go_enter Try.func42, Try.ntmps42
  go_wp2
  go_quiet ((go_at_call 63; exact Calls.quiet_of_same (hN _)))
  go_wp2
  go_ret
  exact ⟨ret_bool (by simpa using H.out), nq, rfl⟩
theorem smayPut_ok (h : sRg w B g n f hi R l) (hc : l.length < n) : Calls Try.prog 60 #[sP B] w fun e w' => e = .returned (I 0) ∧ ∃ q, w' = w.drewN q := by
  have hF := (sFull_any h)
  rw [decide_eq_false (by omega)] at hF
  go_enter Try.func60, Try.ntmps60
  go_wp2_with (first | (go_at_call 63; refine (snone_any h).mono ?_; rintro e w1 ⟨rfl, rfl⟩) | (go_at_call 42; refine hF.mono ?_; rintro e w1 ⟨rfl, q, rfl⟩))
  go_ret
  exact ⟨rfl, q, rfl⟩
theorem smayPut_full (h : sRg w B g n f hi R l) (hc : l.length = n) : Calls Try.prog 60 #[sP B] w fun e w' => e = .returned (I 121) ∧ ∃ q, w' = w.drewN q := by
  have hF := (sFull_any h)
  rw [decide_eq_true hc] at hF
  clear hc
  go_enter Try.func60, Try.ntmps60
  go_wp2_with (first | (go_at_call 63; refine (snone_any h).mono ?_; rintro e w1 ⟨rfl, rfl⟩) | (go_at_call 42; refine hF.mono ?_; rintro e w1 ⟨rfl, q, rfl⟩))
  go_ret
  exact ⟨rfl, q, rfl⟩
theorem soneMore_any (w : World) (B f c hi : Nat) (sl : Value) (hc : c ≤ 65536) (hh : hi ≤ 65536) (h : w.heap[B]? = some (.cells #[.bool true, sl, I f, I c, I hi] 93)) : Calls Try.prog 62 #[sP B] w fun e w' => e = .returned (.tuple #[]) ∧ w'.heap[B]? = some (.cells #[.bool true, sl, I f, I (c + 1 : Nat), I (max hi (c + 1) : Nat)] 93) ∧ Fx [B] w w' := by
  have c3 : w.cell? ⟨B, 3, none⟩ = some (I c) := by rw [cell_of_row w B _ _ _ (0, 0) h]; rfl
  have c4 : w.cell? ⟨B, 4, none⟩ = some (I hi) := by rw [cell_of_row w B _ _ _ (0, 0) h]; rfl
  have fz : ∀ j, w.frozen? ⟨B, j, none⟩ = false := fun j => frozen_of_row w B j _ _ h
  have h2 := heap_setCell_same w B 3 _ _ (I (c + 1 : Nat)) h
  have c34 : (w.setCell ⟨B, 3, none⟩ (I (c + 1 : Nat))).cell? ⟨B, 3, none⟩ = some (I (c + 1 : Nat)) := by rw [cell_of_row _ B _ _ _ (0, 0) h2]; rfl
  have c44 : (w.setCell ⟨B, 3, none⟩ (I (c + 1 : Nat))).cell? ⟨B, 4, none⟩ = some (I hi) := by rw [cell_of_row _ B _ _ _ (0, 0) h2]; rfl
  have fz4 : ∀ j, (w.setCell ⟨B, 3, none⟩ (I (c + 1 : Nat))).frozen? ⟨B, j, none⟩ = false := fun j => frozen_of_row _ B j _ _ h2
  have F2 : Fx [B] w (w.setCell ⟨B, 3, none⟩ (I (c + 1 : Nat))) := (Fx.refl _ _).set (.inl (by simp)) _ _
  have h9 : ∀ x : Int, ((w.setCell ⟨B, 3, none⟩ (I (c + 1 : Nat))).setCell ⟨B, 4, none⟩ (I x)).heap[B]? = some (.cells #[.bool true, sl, I f, I (c + 1 : Nat), I x] 93) := fun x => heap_setCell_same _ B 4 _ _ (I x) h2
  have F9 : ∀ x : Int, Fx [B] w ((w.setCell ⟨B, 3, none⟩ (I (c + 1 : Nat))).setCell ⟨B, 4, none⟩ (I x)) := fun x => F2.set (.inl (by simp)) _ _
  have ec : ((c : Int) + 1) = ((c + 1 : Nat) : Int) := by omega
  have HE : Hid (((c : Int) + 1) = ((c + 1 : Nat) : Int)) := ec
  rw [← ec] at c34 c44 fz4 h9 F9
  rw [← ec]
  clear h2 F2 h ec
  by_cases hx : hi ≤ c
  · have hM : Hid (((max hi (c + 1) : Nat) : Int) = (c : Int) + 1) := by show _ = _; omega
    have h1 : ¬ ((c : Int) + 1 ≤ hi) := by omega
    have h2 : (hi : Int) < (c : Int) + 1 := by omega
    go_enter Try.func62, Try.ntmps62
    go_wp2
    go_region
    all_goals
      go_wp2
      refine bodyPost_end (v := .tuple #[]) (by simp [results, Try.results62, go_sem]) rfl ?_
      rw [hM.out]
      exact ⟨rfl, h9 _, (F9 _).drewN 1⟩
  · have hM : Hid (((max hi (c + 1) : Nat) : Int) = hi) := by show _ = _; omega
    have h1 : ((c : Int) + 1 ≤ hi) := by omega
    have h2 : ¬ (hi : Int) < (c : Int) + 1 := by omega
    go_enter Try.func62, Try.ntmps62
    go_wp2
    go_region
    all_goals
      go_wp2
      refine bodyPost_end (v := .tuple #[]) (by simp [results, Try.results62, go_sem]) rfl ?_
      rw [hM.out]
      exact ⟨rfl, h9 _, (F9 _).drewN 1⟩
theorem sLen_any (h : sRg w B g n f hi R l) : Calls Try.prog 45 #[sP B] w fun e w' => e = .returned (I l.length) ∧ w = w' := by
  obtain ⟨-, c1, -, c3, -⟩ := h.cells
  go_enter Try.func45, Try.ntmps45
  go_wp2_with (go_at_call 63; refine (snone_any h).mono ?_; rintro e w1 ⟨rfl, rfl⟩)
  go_ret
  exact ⟨rfl, rfl⟩
theorem sRoom_any (h : sRg w B g n f hi R l) : Calls Try.prog 47 #[sP B] w fun e w' => e = .returned (I n) ∧ w = w' := by
  obtain ⟨-, c1, -, c3, -⟩ := h.cells
  go_enter Try.func47, Try.ntmps47
  go_wp2_with (go_at_call 63; refine (snone_any h).mono ?_; rintro e w1 ⟨rfl, rfl⟩)
  go_ret
  exact ⟨rfl, rfl⟩
theorem sHigh_any (h : sRg w B g n f hi R l) : Calls Try.prog 46 #[sP B] w fun e w' => e = .returned (I hi) ∧ w = w' := by
  obtain ⟨-, c1, -, c3, c4⟩ := h.cells
  go_enter Try.func46, Try.ntmps46
  go_wp2_with (go_at_call 63; refine (snone_any h).mono ?_; rintro e w1 ⟨rfl, rfl⟩)
  go_ret
  exact ⟨rfl, rfl⟩
end
end Go.Proofs.Ytlbkbnhnklaebaa
