import Derived.Test.YtphafnfmkhhamaaVo
namespace Go.Proofs.Ytphafnfmkhhamaa
open Go.RowKit
set_option linter.unusedVariables false
set_option linter.unusedSimpArgs false

section
variable {w w' : World} {D : Nat} {vm vo vw vs : Value} {ms : List Int} {f : Nat → Et}
theorem dClear_any (h : Dt w D vm vo vw vs ms f) (t m : Int) : Calls Try.prog 17 #[dP D, I t, U m] w fun e w' => e = .returned (I (stE ms.length f t)) ∧ Dt w' D vm vo vw vs ms (clrF ms.length f t m) ∧ Fz (Db D vm vo vw vs) w w' := by
  have hM := may_any h t
  by_cases hs : stE ms.length f t = 0
  · obtain ⟨k, rfl, hk, hx⟩ := stE_zero hs
    obtain ⟨gm, cm, go, co, gw, cw, gs, cs, rfl, rfl, rfl, rfl, d0, d1, d2, d3, d4, d5, d6⟩ := h.at hk
    obtain ⟨c0, c1, c2, c3⟩ := h.cells
    have hl := h.l
    have h0 : ¬ ((k : Int) < 0) := by omega
    have h2 : (k : Int) < ms.length := by omega
    rw [hs] at hM
    simp only [clrF, hs, if_true, Int.toNat_natCast]
    have H1 := (h.below ((Below.refl _ _).drew)).setOn k (anU (f k).on m)
    have F1 : Fz (Db D (.slice (some ⟨gm, 0, none⟩) ms.length cm) (.slice (some ⟨go, 0, none⟩) ms.length co) (.slice (some ⟨gw, 0, none⟩) ms.length cw) (.slice (some ⟨gs, 0, none⟩) ms.length cs)) w (w.drew.setCell ⟨go, k, none⟩ (U (anU (f k).on m))) :=
      ((Fz.refl _ w).drewN 1).set (.inl (.inr (.inr (.inl rfl)))) k _
    clear h hs
    go_enter Try.func17, Try.ntmps17
    go_wp2_with (first | (go_at_call 28; refine hM.mono ?_; rintro e w1 ⟨rfl, rfl⟩))
    go_region
    all_goals
      go_wp2
      go_ret
      exact ⟨rfl, H1, F1⟩
  · simp only [clrF, hs, if_false]
    generalize stE ms.length f t = s at *
    go_enter Try.func17, Try.ntmps17
    go_wp2_with (first | (go_at_call 28; refine hM.mono ?_; rintro e w1 ⟨rfl, rfl⟩))
    go_ret
    exact ⟨rfl, h, Fz.refl _ _⟩
theorem dWait_any (h : Dt w D vm vo vw vs ms f) (t m : Int) : Calls Try.prog 19 #[dP D, I t, U m] w fun e w' => e = .returned (.tuple #[.bool (waiB ms.length f t m), I (waiI ms.length f t)]) ∧ Dt w' D vm vo vw vs ms (waiF ms.length f t m) ∧ Fz (Db D vm vo vw vs) w w' := by
  have hM := may_any h t
  by_cases hs : stE ms.length f t = 0
  · obtain ⟨k, rfl, hk, hx⟩ := stE_zero hs
    obtain ⟨gm, cm, go, co, gw, cw, gs, cs, rfl, rfl, rfl, rfl, d0, d1, d2, d3, d4, d5, d6⟩ := h.at hk
    obtain ⟨c0, c1, c2, c3⟩ := h.cells
    have hl := h.l
    have h0 : ¬ ((k : Int) < 0) := by omega
    have h2 : (k : Int) < ms.length := by omega
    rw [hs] at hM
    simp only [waiB, waiI, waiF, hs, if_true, Int.toNat_natCast]
    cases hS : (f k).s with
    | true =>
      rw [show waitE (f k) m = f k by simp [waitE, hS], show waitB (f k) m = false by simp [waitB, hS], show waitI (f k) = 7 by simp [waitI, hS], upf_self]
      have H : Hid (Dt w D _ _ _ _ ms f) := h
      clear h hs
      rw [hS] at d2
      go_enter Try.func19, Try.ntmps19
      go_wp2_with (first | (go_at_call 28; refine hM.mono ?_; rintro e w1 ⟨rfl, rfl⟩))
      go_ret2
      exact ⟨rfl, H.out, Fz.refl _ _⟩
    | false =>
      rw [hS] at d2
      by_cases hz : andU (f k).on m = 0
      · rw [show waitE (f k) m = ⟨true, true, (f k).on, m⟩ by simp [waitE, hS, hz, hx], show waitB (f k) m = true by simp [waitB, hS, hz], show waitI (f k) = 0 by simp [waitI, hS]]
        have H1 := h.setS k true
        have H2 := H1.setWa k m
        rw [upf_same, upf_upf, hx] at H2
        obtain ⟨e0, e1, e2, e3⟩ := H1.cells
        have d1' : (w.setCell ⟨gs, k, none⟩ (.bool true)).cell? ⟨gw, k, none⟩ = some (U (f k).wa) := by
          obtain ⟨_, _, _, _, _, _, _, _, e1, e2, e3, e4, a, b, c, _⟩ := H1.at hk
          cases e3
          rw [b]; simp only [upf_same]
        have F3 : Fz (Db D (.slice (some ⟨gm, 0, none⟩) ms.length cm) (.slice (some ⟨go, 0, none⟩) ms.length co) (.slice (some ⟨gw, 0, none⟩) ms.length cw) (.slice (some ⟨gs, 0, none⟩) ms.length cs)) w ((w.setCell ⟨gs, k, none⟩ (.bool true)).setCell ⟨gw, k, none⟩ (U m)) :=
          ((Fz.refl _ w).set (.inl (.inr (.inr (.inr (.inr rfl))))) k (.bool true)).set (.inl (.inr (.inr (.inr (.inl rfl))))) k (U m)
        clear h hs H1
        simp only [andU] at hz
        go_enter Try.func19, Try.ntmps19
        go_wp2_with (first | (go_at_call 28; refine hM.mono ?_; rintro e w1 ⟨rfl, rfl⟩))
        go_ret2
        exact ⟨rfl, H2, F3⟩
      · rw [show waitE (f k) m = f k by simp [waitE, hS, hz], show waitB (f k) m = false by simp [waitB, hS, hz], show waitI (f k) = 0 by simp [waitI, hS], upf_self]
        have H : Hid (Dt w D _ _ _ _ ms f) := h
        clear h hs
        simp only [andU] at hz
        go_enter Try.func19, Try.ntmps19
        go_wp2_with (first | (go_at_call 28; refine hM.mono ?_; rintro e w1 ⟨rfl, rfl⟩))
        go_ret2
        exact ⟨rfl, H.out, Fz.refl _ _⟩
  · simp only [waiB, waiI, waiF, hs, if_false]
    generalize stE ms.length f t = s at *
    go_enter Try.func19, Try.ntmps19
    go_wp2_with (first | (go_at_call 28; refine hM.mono ?_; rintro e w1 ⟨rfl, rfl⟩))
    go_ret2
    exact ⟨rfl, h, Fz.refl _ _⟩
theorem dSet_f (h : Dt w D vm vo vw vs ms f) (k : Nat) (hk : k < ms.length) (hs : stE ms.length f k = 0) (hx : (f k).x = true) (m : Int) (hS : (f k).s = false) : Calls Try.prog 16 #[dP D, I k, U m] w fun e w' => e = .returned (.tuple #[.bool false, I 0]) ∧ Dt w' D vm vo vw vs ms (upf f k ⟨true, false, orU (f k).on m, (f k).wa⟩) ∧ Fz (Db D vm vo vw vs) w w' := by
  have hM := may_any h k
  rw [hs] at hM
  obtain ⟨gm, cm, go, co, gw, cw, gs, cs, rfl, rfl, rfl, rfl, d0, d1, d2, d3, d4, d5, d6⟩ := h.at hk
  obtain ⟨c0, c1, c2, c3⟩ := h.cells
  have hl := h.l
  have h0 : ¬ ((k : Int) < 0) := by omega
  have h2 : (k : Int) < ms.length := by omega
  have H1 := (h.setOn k (orU (f k).on m)).below ((Below.refl _ _).drew)
  rw [hx, hS] at H1
  have F1 : Fz (Db D (.slice (some ⟨gm, 0, none⟩) ms.length cm) (.slice (some ⟨go, 0, none⟩) ms.length co) (.slice (some ⟨gw, 0, none⟩) ms.length cw) (.slice (some ⟨gs, 0, none⟩) ms.length cs)) w (w.setCell ⟨go, k, none⟩ (U (orU (f k).on m))).drew :=
    ((Fz.refl _ w).set (.inl (.inr (.inr (.inl rfl)))) k _).drewN 1
  clear h hs hx hS d3 d5 d6 d2 d1
  simp only [orU, andU] at *
  go_enter Try.func16, Try.ntmps16
  go_wp2_with (first | (go_at_call 28; refine hM.mono ?_; rintro e w1 ⟨rfl, rfl⟩))
  go_region
  all_goals
    clear c0 c1 c2 c3 d0 d4
    generalize (w.setCell ⟨go, k, none⟩ (U (bits .or .u32 (f k).on m))).drew = w1 at *
    obtain ⟨c0, c1, c2, c3⟩ := H1.cells
    obtain ⟨_, _, _, _, _, _, _, _, e1, e2, e3, e4, d0, d1, d2, d3, d4, d5, d6⟩ := H1.at hk
    cases e1; cases e2; cases e3; cases e4
    rw [upf_same] at d0 d1 d2
    simp only at d0 d1 d2
    clear d3
    go_wp2
    go_region
    all_goals
      have H2 := H1.below ((Below.refl _ _).drew)
      have F2 := F1.trans ((Fz.refl (Db D (.slice (some ⟨gm, 0, none⟩) ms.length cm) (.slice (some ⟨go, 0, none⟩) ms.length co) (.slice (some ⟨gw, 0, none⟩) ms.length cw) (.slice (some ⟨gs, 0, none⟩) ms.length cs)) w1).drewN 1)
      have F2 : Fz (Db D (.slice (some ⟨gm, 0, none⟩) ms.length cm) (.slice (some ⟨go, 0, none⟩) ms.length co) (.slice (some ⟨gw, 0, none⟩) ms.length cw) (.slice (some ⟨gs, 0, none⟩) ms.length cs)) w w1.drew := F2
      clear H1 F1 c0 c1 c2 c3 d0 d1 d2 d4 d5 d6
      generalize w1.drew = w2 at *
      go_wp2
      go_ret2
      exact ⟨rfl, H2, F2⟩
theorem dSet_t (h : Dt w D vm vo vw vs ms f) (k : Nat) (hk : k < ms.length) (hs : stE ms.length f k = 0) (hx : (f k).x = true) (m : Int) (hS : (f k).s = true) (hz : andU (orU (f k).on m) (f k).wa ≠ 0) : Calls Try.prog 16 #[dP D, I k, U m] w fun e w' => e = .returned (.tuple #[.bool true, I 0]) ∧ Dt w' D vm vo vw vs ms (upf f k ⟨true, false, orU (f k).on m, 0⟩) ∧ Fz (Db D vm vo vw vs) w w' := by
  have hM := may_any h k
  rw [hs] at hM
  obtain ⟨gm, cm, go, co, gw, cw, gs, cs, rfl, rfl, rfl, rfl, d0, d1, d2, d3, d4, d5, d6⟩ := h.at hk
  obtain ⟨c0, c1, c2, c3⟩ := h.cells
  have hl := h.l
  have h0 : ¬ ((k : Int) < 0) := by omega
  have h2 : (k : Int) < ms.length := by omega
  have H1 := (h.setOn k (orU (f k).on m)).below ((Below.refl _ _).drew)
  rw [hx, hS] at H1
  have F1 : Fz (Db D (.slice (some ⟨gm, 0, none⟩) ms.length cm) (.slice (some ⟨go, 0, none⟩) ms.length co) (.slice (some ⟨gw, 0, none⟩) ms.length cw) (.slice (some ⟨gs, 0, none⟩) ms.length cs)) w (w.setCell ⟨go, k, none⟩ (U (orU (f k).on m))).drew :=
    ((Fz.refl _ w).set (.inl (.inr (.inr (.inl rfl)))) k _).drewN 1
  clear h hs hx hS d3 d5 d6 d2 d1
  simp only [orU, andU] at *
  go_enter Try.func16, Try.ntmps16
  go_wp2_with (first | (go_at_call 28; refine hM.mono ?_; rintro e w1 ⟨rfl, rfl⟩))
  go_region
  all_goals
    clear c0 c1 c2 c3 d0 d4
    generalize (w.setCell ⟨go, k, none⟩ (U (bits .or .u32 (f k).on m))).drew = w1 at *
    obtain ⟨c0, c1, c2, c3⟩ := H1.cells
    obtain ⟨_, _, _, _, _, _, _, _, e1, e2, e3, e4, d0, d1, d2, d3, d4, d5, d6⟩ := H1.at hk
    cases e1; cases e2; cases e3; cases e4
    rw [upf_same] at d0 d1 d2
    simp only at d0 d1 d2
    clear d3
    go_wp2
    go_region
    all_goals
      have H2 := H1.below ((Below.refl _ _).drew)
      have F2 := F1.trans ((Fz.refl (Db D (.slice (some ⟨gm, 0, none⟩) ms.length cm) (.slice (some ⟨go, 0, none⟩) ms.length co) (.slice (some ⟨gw, 0, none⟩) ms.length cw) (.slice (some ⟨gs, 0, none⟩) ms.length cs)) w1).drewN 1)
      have F2 : Fz (Db D (.slice (some ⟨gm, 0, none⟩) ms.length cm) (.slice (some ⟨go, 0, none⟩) ms.length co) (.slice (some ⟨gw, 0, none⟩) ms.length cw) (.slice (some ⟨gs, 0, none⟩) ms.length cs)) w w1.drew := F2
      clear H1 F1 c0 c1 c2 c3 d0 d1 d2 d4 d5 d6
      generalize w1.drew = w2 at *
      obtain ⟨c0, c1, c2, c3⟩ := H2.cells
      obtain ⟨_, _, _, _, _, _, _, _, e1, e2, e3, e4, d0, d1, d2, d3, d4, d5, d6⟩ := H2.at hk
      cases e1; cases e2; cases e3; cases e4
      rw [upf_same] at d0 d1 d2
      simp only at d0 d1 d2
      clear d3
      have H3 := H2.setS k false
      have H4 := H3.setWa k 0
      rw [upf_same, upf_upf, upf_same, upf_upf] at H4
      obtain ⟨r0, r1, r2, r3⟩ := H3.cells
      have d1' : (w2.setCell ⟨gs, k, none⟩ (.bool false)).cell? ⟨gw, k, none⟩ = some (U (f k).wa) := by
        obtain ⟨_, _, _, _, _, _, _, _, e1, e2, e3, e4, a, b, c, _⟩ := H3.at hk
        cases e3
        rw [b]; simp only [upf_same]
      have F3 := (F2.set (b := gs) (.inl (.inr (.inr (.inr (.inr rfl))))) k (.bool false)).set (b := gw) (.inl (.inr (.inr (.inr (.inl rfl))))) k (U 0)
      clear H3 H2 F2
      go_wp2
      go_ret2
      exact ⟨rfl, H4, F3⟩
theorem dSet_u (h : Dt w D vm vo vw vs ms f) (k : Nat) (hk : k < ms.length) (hs : stE ms.length f k = 0) (hx : (f k).x = true) (m : Int) (hS : (f k).s = true) (hz : andU (orU (f k).on m) (f k).wa = 0) : Calls Try.prog 16 #[dP D, I k, U m] w fun e w' => e = .returned (.tuple #[.bool false, I 0]) ∧ Dt w' D vm vo vw vs ms (upf f k ⟨true, true, orU (f k).on m, (f k).wa⟩) ∧ Fz (Db D vm vo vw vs) w w' := by
  have hM := may_any h k
  rw [hs] at hM
  obtain ⟨gm, cm, go, co, gw, cw, gs, cs, rfl, rfl, rfl, rfl, d0, d1, d2, d3, d4, d5, d6⟩ := h.at hk
  obtain ⟨c0, c1, c2, c3⟩ := h.cells
  have hl := h.l
  have h0 : ¬ ((k : Int) < 0) := by omega
  have h2 : (k : Int) < ms.length := by omega
  have H1 := (h.setOn k (orU (f k).on m)).below ((Below.refl _ _).drew)
  rw [hx, hS] at H1
  have F1 : Fz (Db D (.slice (some ⟨gm, 0, none⟩) ms.length cm) (.slice (some ⟨go, 0, none⟩) ms.length co) (.slice (some ⟨gw, 0, none⟩) ms.length cw) (.slice (some ⟨gs, 0, none⟩) ms.length cs)) w (w.setCell ⟨go, k, none⟩ (U (orU (f k).on m))).drew :=
    ((Fz.refl _ w).set (.inl (.inr (.inr (.inl rfl)))) k _).drewN 1
  clear h hs hx hS d3 d5 d6 d2 d1
  simp only [orU, andU] at *
  go_enter Try.func16, Try.ntmps16
  go_wp2_with (first | (go_at_call 28; refine hM.mono ?_; rintro e w1 ⟨rfl, rfl⟩))
  go_region
  all_goals
    clear c0 c1 c2 c3 d0 d4
    generalize (w.setCell ⟨go, k, none⟩ (U (bits .or .u32 (f k).on m))).drew = w1 at *
    obtain ⟨c0, c1, c2, c3⟩ := H1.cells
    obtain ⟨_, _, _, _, _, _, _, _, e1, e2, e3, e4, d0, d1, d2, d3, d4, d5, d6⟩ := H1.at hk
    cases e1; cases e2; cases e3; cases e4
    rw [upf_same] at d0 d1 d2
    simp only at d0 d1 d2
    clear d3
    go_wp2
    go_region
    all_goals
      have H2 := H1.below ((Below.refl _ _).drew)
      have F2 := F1.trans ((Fz.refl (Db D (.slice (some ⟨gm, 0, none⟩) ms.length cm) (.slice (some ⟨go, 0, none⟩) ms.length co) (.slice (some ⟨gw, 0, none⟩) ms.length cw) (.slice (some ⟨gs, 0, none⟩) ms.length cs)) w1).drewN 1)
      have F2 : Fz (Db D (.slice (some ⟨gm, 0, none⟩) ms.length cm) (.slice (some ⟨go, 0, none⟩) ms.length co) (.slice (some ⟨gw, 0, none⟩) ms.length cw) (.slice (some ⟨gs, 0, none⟩) ms.length cs)) w w1.drew := F2
      clear H1 F1 c0 c1 c2 c3 d0 d1 d2 d4 d5 d6
      generalize w1.drew = w2 at *
      go_wp2
      go_ret2
      exact ⟨rfl, H2, F2⟩
theorem dSet_any (h : Dt w D vm vo vw vs ms f) (t m : Int) : Calls Try.prog 16 #[dP D, I t, U m] w fun e w' => e = .returned (.tuple #[.bool (setB ms.length f t m), I (stE ms.length f t)]) ∧ Dt w' D vm vo vw vs ms (setF ms.length f t m) ∧ Fz (Db D vm vo vw vs) w w' := by
  by_cases hs : stE ms.length f t = 0
  · obtain ⟨k, rfl, hk, hx⟩ := stE_zero hs
    simp only [setB, setF, hs, if_true, Int.toNat_natCast]
    cases hS : (f k).s with
    | false =>
      rw [show setE (f k) m = ⟨true, false, orU (f k).on m, (f k).wa⟩ by simp [setE, dueE, hS, hx], show dueE (f k) m = false by simp [dueE, hS]]
      exact dSet_f h k hk hs hx m hS
    | true =>
      by_cases hz : andU (orU (f k).on m) (f k).wa = 0
      · rw [show setE (f k) m = ⟨true, true, orU (f k).on m, (f k).wa⟩ by simp [setE, dueE, hS, hx, hz], show dueE (f k) m = false by simp [dueE, hS, hz]]
        exact dSet_u h k hk hs hx m hS hz
      · rw [show setE (f k) m = ⟨true, false, orU (f k).on m, 0⟩ by simp [setE, dueE, hS, hx, hz], show dueE (f k) m = true by simp [dueE, hS, hz]]
        exact dSet_t h k hk hs hx m hS hz
  · have hM := may_any h t
    simp only [setB, setF, hs, if_false]
    generalize stE ms.length f t = s at *
    go_enter Try.func16, Try.ntmps16
    go_wp2_with (first | (go_at_call 28; refine hM.mono ?_; rintro e w1 ⟨rfl, rfl⟩))
    go_ret2
    exact ⟨rfl, h, Fz.refl _ _⟩
end
end Go.Proofs.Ytphafnfmkhhamaa
