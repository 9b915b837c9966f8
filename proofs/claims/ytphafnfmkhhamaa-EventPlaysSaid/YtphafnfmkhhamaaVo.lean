import Derived.Test.YtphafnfmkhhamaaVn
import Derived.Deep.Cut
namespace Go.Proofs.Ytphafnfmkhhamaa
open Go.RowKit
set_option linter.unusedVariables false
set_option linter.unusedSimpArgs false

/-! ### The document's calls -/
section
variable {w w' : World} {D : Nat} {vm vo vw vs : Value} {ms : List Int} {f : Nat → Et}
theorem may_out (h : Dt w D vm vo vw vs ms f) (t : Int) (ht : t < 0 ∨ (ms.length : Int) ≤ t) : Calls Try.prog 28 #[dP D, I t] w fun e w' => e = .returned (I 3) ∧ w = w' := by
  obtain ⟨c0, c1, c2, c3⟩ := h.cells
  obtain ⟨am, cm, rfl⟩ := own_sl h.pm
  have hl := h.l
  by_cases h0 : t < 0
  · go_enter Try.func28, Try.ntmps28
    go_wp2
    go_ret
    exact ⟨rfl, rfl⟩
  · have h1 : (ms.length : Int) ≤ t := by omega
    have h2 : ¬ t < (ms.length : Int) := by omega
    go_enter Try.func28, Try.ntmps28
    go_wp2
    go_ret
    exact ⟨rfl, rfl⟩
theorem may_in (h : Dt w D vm vo vw vs ms f) (k : Nat) (hk : k < ms.length) : Calls Try.prog 28 #[dP D, I k] w fun e w' => e = .returned (I (stE ms.length f k)) ∧ w = w' := by
  obtain ⟨v, hv⟩ : ∃ v, ms[k]? = some v := ⟨_, List.getElem?_eq_getElem hk⟩
  have hs : stE ms.length f k = if v ≠ 0 then 0 else 1 := by
    unfold stE
    rw [if_neg (by omega), Int.toNat_natCast, h.x k v hv]
    simp
  obtain ⟨gm, cm, go, co, gw, cw, gs, cs, rfl, rfl, rfl, rfl, -, -, -, d3, -, -, -⟩ := h.at hk
  have d4 := d3 v hv
  clear d3
  obtain ⟨c0, c1, c2, c3⟩ := h.cells
  have hl := h.l
  have h0 : ¬ ((k : Int) < 0) := by omega
  have h1 : ¬ ((ms.length : Int) ≤ k) := by omega
  have h2 : (k : Int) < ms.length := by omega
  rw [hs]
  clear hs
  by_cases hz : v = 0
  · subst hz
    go_enter Try.func28, Try.ntmps28
    go_wp2
    go_ret
    exact ⟨rfl, rfl⟩
  · rw [if_pos hz]
    go_enter Try.func28, Try.ntmps28
    go_wp2
    go_ret
    exact ⟨rfl, rfl⟩
theorem may_any (h : Dt w D vm vo vw vs ms f) (t : Int) : Calls Try.prog 28 #[dP D, I t] w fun e w' => e = .returned (I (stE ms.length f t)) ∧ w = w' := by
  by_cases h1 : t < 0 ∨ (ms.length : Int) ≤ t
  · rw [show stE ms.length f t = 3 by unfold stE; rw [if_pos h1]]
    exact may_out h t h1
  · obtain ⟨k, rfl⟩ := Int.eq_ofNat_of_zero_le (show 0 ≤ t by omega)
    exact may_in h k (by omega)
theorem dGet_any (h : Dt w D vm vo vw vs ms f) (t : Int) : Calls Try.prog 18 #[dP D, I t] w fun e w' => e = .returned (.tuple #[U (getI ms.length f t), I (stE ms.length f t)]) ∧ w = w' := by
  have hM := may_any h t
  by_cases hs : stE ms.length f t = 0
  · obtain ⟨k, rfl, hk, hx⟩ := stE_zero hs
    obtain ⟨gm, cm, go, co, gw, cw, gs, cs, rfl, rfl, rfl, rfl, d0, d1, d2, d3, d4, d5, d6⟩ := h.at hk
    obtain ⟨c0, c1, c2, c3⟩ := h.cells
    have hl := h.l
    have h0 : ¬ ((k : Int) < 0) := by omega
    have h2 : (k : Int) < ms.length := by omega
    rw [hs] at hM
    simp only [getI, hs, if_true, Int.toNat_natCast]
    clear h hs
    go_enter Try.func18, Try.ntmps18
    go_wp2_with (first | (go_at_call 28; refine hM.mono ?_; rintro e w1 ⟨rfl, rfl⟩))
    go_ret2
    exact ⟨rfl, rfl⟩
  · simp only [getI, hs, if_false]
    generalize stE ms.length f t = s at *
    clear h
    go_enter Try.func18, Try.ntmps18
    go_wp2_with (first | (go_at_call 28; refine hM.mono ?_; rintro e w1 ⟨rfl, rfl⟩))
    go_ret2
    exact ⟨rfl, rfl⟩
theorem dWaits_any (h : Dt w D vm vo vw vs ms f) (t : Int) : Calls Try.prog 20 #[dP D, I t] w fun e w' => e = .returned (U (wtsI ms.length f t)) ∧ w = w' := by
  have hM := may_any h t
  by_cases hs : stE ms.length f t = 0
  · obtain ⟨k, rfl, hk, hx⟩ := stE_zero hs
    obtain ⟨gm, cm, go, co, gw, cw, gs, cs, rfl, rfl, rfl, rfl, d0, d1, d2, d3, d4, d5, d6⟩ := h.at hk
    obtain ⟨c0, c1, c2, c3⟩ := h.cells
    have hl := h.l
    have h0 : ¬ ((k : Int) < 0) := by omega
    have h2 : (k : Int) < ms.length := by omega
    rw [hs] at hM
    simp only [wtsI, hs, if_true, Int.toNat_natCast]
    clear h hs
    go_enter Try.func20, Try.ntmps20
    go_wp2_with (first | (go_at_call 28; refine hM.mono ?_; rintro e w1 ⟨rfl, rfl⟩))
    go_ret
    exact ⟨rfl, rfl⟩
  · simp only [wtsI, hs, if_false]
    generalize stE ms.length f t = s at *
    clear h
    go_enter Try.func20, Try.ntmps20
    go_wp2_with (first | (go_at_call 28; refine hM.mono ?_; rintro e w1 ⟨rfl, rfl⟩))
    go_ret
    exact ⟨rfl, rfl⟩
theorem dFresh_any (h : Dt w D vm vo vw vs ms f) (t : Int) : Calls Try.prog 21 #[dP D, I t] w fun e w' => e = .returned (I (stE ms.length f t)) ∧ Dt w' D vm vo vw vs ms (freF ms.length f t) ∧ Fz (Db D vm vo vw vs) w w' := by
  have hM := may_any h t
  by_cases hs : stE ms.length f t = 0
  · obtain ⟨k, rfl, hk, hx⟩ := stE_zero hs
    obtain ⟨gm, cm, go, co, gw, cw, gs, cs, rfl, rfl, rfl, rfl, d0, d1, d2, d3, d4, d5, d6⟩ := h.at hk
    obtain ⟨c0, c1, c2, c3⟩ := h.cells
    have hl := h.l
    have h0 : ¬ ((k : Int) < 0) := by omega
    have h2 : (k : Int) < ms.length := by omega
    rw [hs] at hM
    simp only [freF, hs, if_true, Int.toNat_natCast]
    have H1 := h.setOn k 0
    have H2 := H1.setWa k 0
    have H3 := H2.setS k false
    rw [upf_same, upf_upf, upf_same, upf_upf, hx] at H3
    obtain ⟨e0, e1, e2, e3⟩ := H1.cells
    obtain ⟨g0, g1, g2, g3⟩ := H2.cells
    have d1' : (w.setCell ⟨go, k, none⟩ (U 0)).cell? ⟨gw, k, none⟩ = some (U (f k).wa) := by
      obtain ⟨_, _, _, _, _, _, _, _, e1, e2, e3, e4, a, b, c, _⟩ := H1.at hk
      cases e3
      rw [b]; simp only [upf_same]
    have d2' : ((w.setCell ⟨go, k, none⟩ (U 0)).setCell ⟨gw, k, none⟩ (U 0)).cell? ⟨gs, k, none⟩ = some (.bool (f k).s) := by
      obtain ⟨_, _, _, _, _, _, _, _, e1, e2, e3, e4, a, b, c, _⟩ := H2.at hk
      cases e4
      rw [c]; simp only [upf_same]
    have F3 : Fz (Db D (.slice (some ⟨gm, 0, none⟩) ms.length cm) (.slice (some ⟨go, 0, none⟩) ms.length co) (.slice (some ⟨gw, 0, none⟩) ms.length cw) (.slice (some ⟨gs, 0, none⟩) ms.length cs)) w (((w.setCell ⟨go, k, none⟩ (U 0)).setCell ⟨gw, k, none⟩ (U 0)).setCell ⟨gs, k, none⟩ (.bool false)) :=
      (((Fz.refl _ w).set (.inl (.inr (.inr (.inl rfl)))) k (U 0)).set (.inl (.inr (.inr (.inr (.inl rfl))))) k (U 0)).set (.inl (.inr (.inr (.inr (.inr rfl))))) k (.bool false)
    clear h hs H1 H2
    go_enter Try.func21, Try.ntmps21
    go_wp2_with (first | (go_at_call 28; refine hM.mono ?_; rintro e w1 ⟨rfl, rfl⟩))
    go_ret
    exact ⟨rfl, H3, F3⟩
  · simp only [freF, hs, if_false]
    generalize stE ms.length f t = s at *
    go_enter Try.func21, Try.ntmps21
    go_wp2_with (first | (go_at_call 28; refine hM.mono ?_; rintro e w1 ⟨rfl, rfl⟩))
    go_ret
    exact ⟨rfl, h, Fz.refl _ _⟩
end
end Go.Proofs.Ytphafnfmkhhamaa
