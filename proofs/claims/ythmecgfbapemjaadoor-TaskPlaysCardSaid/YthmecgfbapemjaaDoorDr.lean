import Derived.Test.YthmecgfbapemjaaDoorDq
namespace Go.Proofs.YthmecgfbapemjaaDoor
open Go.RowKit Go.Shelf Go.Sort
set_option linter.unusedVariables false
set_option linter.unusedSimpArgs false

section
variable {w w' : World} {D : Nat} {mk : Bool} {a b c : Value} {rs : List Rw} {ss : List Sd}
set_option maxRecDepth 100000 in
theorem dEnd_any (h : Dk w D true a b c rs ss) (hK : OKs rs ss) : Calls Tryd.prog 36 #[cP D] w fun e w' => e = .returned (.tuple #[I (runI ss), I (endS ss), I (endE ss)]) ∧ Dk w' D true a b c rs (endL ss) ∧ Fz (Db D a b c) w w' := by
  have hM : Calls Tryd.prog 35 #[cP D, I (-1), I 0, I 2] w _ := dLeave_any h (-1) 2 (by omega)
  by_cases hr : runI ss = -1
  · have e0 : leaE rs ss 2 = 180 := by rw [leaE, if_pos hr]
    rw [leaI, leaL, e0, if_neg (by decide), if_neg (by decide)] at hM
    rw [endS, endE, endL, if_pos hr, if_pos hr, if_pos hr, hr]
    clear h hr hK e0
    go_enter Tryd.func36, Tryd.ntmps36
    go_wp2_with (first | (go_at_call 35; refine hM.mono ?_; clear hM; rintro e w3 ⟨rfl, k3, f3⟩))
    go_ret3
    exact ⟨rfl, k3, f3⟩
  · obtain ⟨k, n, r, e, hk, hx, hr2, hn⟩ := hK.runs hr
    have h2 := (hK.le hx).2
    have e0 : leaE rs ss 2 = 0 := by rw [leaE, if_neg hr, if_neg (fun h => by cases h.1)]
    rw [leaI, leaL, e0, if_pos rfl, if_pos rfl, e, sdA_at hx, Int.toNat_natCast] at hM
    rw [endE, endL, endS, if_neg hr, if_neg hr, if_neg hr, e, sdA_at hx, Int.toNat_natCast]
    have hkS : k < ss.length := (List.getElem?_eq_some_iff.1 hx).1
    have hkI : (k : Int) < ss.length := by omega
    have HX : Hid (rs[k]? = some r ∧ (ss.set k (2, n))[k]? = some (2, n) ∧ (ss.set k (2, n)).length = ss.length) := ⟨hr2, by rw [List.getElem?_set_self hkS], List.length_set ..⟩
    have HX2 : Hid ((ss.set k (2, n - 1))[k]? = some (2, n - 1) ∧ (ss.set k (2, n - 1)).length = ss.length ∧ (ss.set k (2, n)).set k (2, n - 1) = ss.set k (2, n - 1) ∧ (ss.set k (2, n - 1)).set k (3, n - 1) = ss.set k (3, n - 1)) := ⟨by rw [List.getElem?_set_self hkS], List.length_set .., List.set_set .., List.set_set ..⟩
    have HE9 : Hid ((n : Int) - 1 = ((n - 1 : Nat) : Int)) := by show _ = _; omega
    clear h hK hr hk hx e0 e hr2 hkS
    go_enter Tryd.func36, Tryd.ntmps36
    go_upto_region 4 with (first | (go_at_call 35; refine hM.mono ?_; clear hM; rintro e w3 ⟨rfl, k3, f3⟩; have H3 : Hid (Dk w3 D true a b c rs (ss.set k (2, n)) ∧ Fz (Db D a b c) w w3) := ⟨k3, f3⟩; clear k3 f3))
    obtain ⟨c0, c1, c2, c3⟩ := H3.out.1.cells
    obtain ⟨g1, k1, g2, k2, g3, k3, e1, e2, e3, q1, q2, q3, q4, q5, q6⟩ := H3.out.1.at HX.out.1 HX.out.2.1
    rw [HX.out.2.2] at e2 e3
    subst e1 e2 e3
    have HP : Hid (Dk (w3.setCell ⟨g3, k, none⟩ (I ((n : Int) - 1))) D true (.slice (some ⟨g1, 0, none⟩) rs.length k1) (.slice (some ⟨g2, 0, none⟩) ss.length k2) (.slice (some ⟨g3, 0, none⟩) ss.length k3) rs (ss.set k (2, n - 1)) ∧ Fz (Db D (.slice (some ⟨g1, 0, none⟩) rs.length k1) (.slice (some ⟨g2, 0, none⟩) ss.length k2) (.slice (some ⟨g3, 0, none⟩) ss.length k3)) w (w3.setCell ⟨g3, k, none⟩ (I ((n : Int) - 1)))) := by
      refine ⟨?_, H3.out.2.trans (dfN _ _ _)⟩
      have hc := H3.out.1
      rw [← HX.out.2.2] at hc
      have := hc.setN HX.out.2.1 (n - 1)
      rw [HX.out.2.2, HX2.out.2.2.1, ← HE9.out] at this
      exact this
    clear H3
    go_upto_region 5 with (first | fail)
    clear q1 q2 q3 q4 q5 q6 c0 c1 c2 c3
    obtain ⟨c0, c1, c2, c3⟩ := HP.out.1.cells
    obtain ⟨g1', k1', g2', k2', g3', k3', e1, e2, e3, q1, q2, q3, q4, q5, q6⟩ := HP.out.1.at HX.out.1 HX2.out.1
    cases e1
    rw [HX2.out.2.1] at e2 e3
    cases e2
    cases e3
    rw [← HE9.out] at q4
    generalize (w3.setCell ⟨g3, k, none⟩ (I ((n : Int) - 1))) = w8 at *
    by_cases h1 : n = 1
    · subst h1
      have HP2 : Hid (Dk (w8.setCell ⟨g2, k, none⟩ (I 3)) D true (.slice (some ⟨g1, 0, none⟩) rs.length k1) (.slice (some ⟨g2, 0, none⟩) ss.length k2) (.slice (some ⟨g3, 0, none⟩) ss.length k3) rs (ss.set k (3, 0)) ∧ Fz (Db D (.slice (some ⟨g1, 0, none⟩) rs.length k1) (.slice (some ⟨g2, 0, none⟩) ss.length k2) (.slice (some ⟨g3, 0, none⟩) ss.length k3)) w (w8.setCell ⟨g2, k, none⟩ (I 3))) := by
        refine ⟨?_, HP.out.2.trans (dfS _ _ _)⟩
        have hc := HP.out.1
        rw [← HX2.out.2.1] at hc
        have := hc.setS HX2.out.1 3
        rw [HX2.out.2.1, HX2.out.2.2.2] at this
        exact this
      have HX3 : Hid ((ss.set k (3, 0))[k]? = some (3, 0) ∧ (ss.set k (3, 0)).length = ss.length) := ⟨by rw [List.getElem?_set_self (by omega)], List.length_set ..⟩
      clear HP
      go_upto_region 7 with (first | fail)
      clear q1 q2 q3 q4 q5 q6 c0 c1 c2 c3
      obtain ⟨c0, c1, c2, c3⟩ := HP2.out.1.cells
      obtain ⟨g1', k1', g2', k2', g3', k3', e1, e2, e3, q1, q2, q3, q4, q5, q6⟩ := HP2.out.1.at HX.out.1 HX3.out.1
      cases e1
      rw [HX3.out.2] at e2 e3
      cases e2
      cases e3
      generalize (w8.setCell ⟨g2, k, none⟩ (I 3)) = w9 at *
      have c2' := cell_regrown c2
      have q3' := cell_regrown (show w9.cell? ⟨g2, k, none⟩ = some (I 3) from q3)
      refine wp_region_quiet_below (by kernel_rfl) (by kernel_rfl) ?_
      repeat (go_big_quiet_step (first | fail))
      refine wpQuiet_nil ?_
      rintro _ ⟨⟨dq, osq⟩, rfl⟩
      dsimp only
      have HD : Hid (Below w9.heap.size w9 (grow (redrawn w9 dq) osq)) := below_regrown w9 dq osq
      clear c2' q3' q1 q2 q3 q4 q5 q6 c0 c1 c2 c3
      generalize grow (redrawn w9 dq) osq = w7 at *
      go_wp2
      go_ret3
      exact ⟨rfl, HP2.out.1.below HD.out, HP2.out.2.trans (Fz.of_below HD.out)⟩
    · have h1b : (((n : Int) - 1) == 0) = false := beq_eq_false_iff_ne.2 (by omega)
      have h1I : ¬ ((n : Int) - 1 = 0) := by omega
      have H1 : Hid (¬ n = 1) := h1
      clear h1
      go_upto_region 7 with (first | fail)
      have c2' := cell_regrown c2
      have q3' := cell_regrown (show w8.cell? ⟨g2, k, none⟩ = some (I 2) from q3)
      refine wp_region_quiet_below (by kernel_rfl) (by kernel_rfl) ?_
      repeat (go_big_quiet_step (first | fail))
      refine wpQuiet_nil ?_
      rintro _ ⟨⟨dq, osq⟩, rfl⟩
      dsimp only
      have HD : Hid (Below w8.heap.size w8 (grow (redrawn w8 dq) osq)) := below_regrown w8 dq osq
      clear c2' q3' q1 q2 q3 q4 q5 q6 c0 c1 c2 c3
      generalize grow (redrawn w8 dq) osq = w7 at *
      go_wp2
      go_ret3
      exact ⟨rfl, HP.out.1.below HD.out, HP.out.2.trans (Fz.of_below HD.out)⟩
set_option maxHeartbeats 2000000 in
set_option maxRecDepth 100000 in
theorem dReset_any (h : Dk w D mk a b c rs ss) : Calls Tryd.prog 37 #[cP D] w fun e w' => e = .returned (.tuple #[]) ∧ Dk w' D mk a b c rs (rstL rs.length) ∧ Fz (Db D a b c) w w' := by
  have hm : ss.length ≤ 256 := by have := h.n; have := h.m; omega
  have HN : Hid (ss.length = rs.length) := h.n
  have HI : Hid (Dk w D mk a b c rs (mixS 0 ss) ∧ Fz (Db D a b c) w w) := ⟨by rw [mixS_zero]; exact h, Fz.refl _ _⟩
  obtain ⟨a2, cc, rfl⟩ := own_sl h.q
  clear h
  go_enter Tryd.func37, Tryd.ntmps37
  go_wp2
  go_loopw [2] (fun v2 wr => ∃ k : Nat, k ≤ ss.length ∧ v2 = I k ∧ Hid (Dk wr D mk a (.slice a2 ss.length cc) c rs (mixS k ss) ∧ Fz (Db D a (.slice a2 ss.length cc) c) w wr)) (fun v2 _ => ss.length - (intOf v2).toNat)
  case atStart => exact ⟨0, by omega, rfl, HI.out⟩
  case round =>
    clear HI
    obtain ⟨k, hk, rfl, HJ⟩ := hrel
    obtain ⟨c0, c1, c2, c3⟩ := HJ.out.1.cells
    by_cases hlt : k < ss.length
    · have hltI : (k : Int) < ss.length := by omega
      obtain ⟨x, hx⟩ : ∃ x, (mixS k ss)[k]? = some x := ⟨_, mixS_at.trans (List.getElem?_eq_getElem hlt)⟩
      obtain ⟨r, hr⟩ : ∃ r, rs[k]? = some r := ⟨_, List.getElem?_eq_getElem (by have := HN.out; omega)⟩
      obtain ⟨g1, k1, g2, k2, g3, k3, e1, e2, e3, -, -, q3, q4, q5, q6⟩ := HJ.out.1.at hr hx
      rw [mixS_len hk] at e2 e3
      cases e2
      subst e3
      have H1 : Hid (Dk (wr.setCell ⟨g2, k, none⟩ (I 3)) D mk a (.slice (some ⟨g2, 0, none⟩) ss.length cc) (.slice (some ⟨g3, 0, none⟩) ss.length k3) rs ((mixS k ss).set k (3, x.2)) ∧ Fz (Db D a (.slice (some ⟨g2, 0, none⟩) ss.length cc) (.slice (some ⟨g3, 0, none⟩) ss.length k3)) w (wr.setCell ⟨g2, k, none⟩ (I 3))) := by
        refine ⟨?_, HJ.out.2.trans (dfS _ _ _)⟩
        have h1 := HJ.out.1
        have ml := mixS_len hk
        rw [← ml] at h1
        have h2 := h1.setS hx 3
        rw [ml] at h2
        exact h2
      have HX : Hid (rs[k]? = some r ∧ ((mixS k ss).set k (3, x.2))[k]? = some (3, x.2) ∧ ((mixS k ss).set k (3, x.2)).length = ss.length ∧ ((mixS k ss).set k (3, x.2)).set k (3, 0) = mixS (k + 1) ss) := ⟨hr, by rw [List.getElem?_set_self (by rw [mixS_len hk]; exact hlt)], by rw [List.length_set, mixS_len hk], by rw [List.set_set, mixS_succ hlt]⟩
      clear HJ hx hr
      go_upto_region 4 with (first | fail)
      clear c0 c1 c2 c3 q3 q4 q5 q6
      obtain ⟨c0, c1, c2, c3⟩ := H1.out.1.cells
      obtain ⟨g1', k1', g2', k2', g3', k3', e1, e2, e3, -, -, q3, q4, q5, q6⟩ := H1.out.1.at HX.out.1 HX.out.2.1
      rw [HX.out.2.2.1] at e2 e3
      cases e2
      cases e3
      generalize (wr.setCell ⟨g2, k, none⟩ (I 3)) = w8 at *
      have H2 : Hid (Dk (w8.setCell ⟨g3, k, none⟩ (I 0)) D mk a (.slice (some ⟨g2, 0, none⟩) ss.length cc) (.slice (some ⟨g3, 0, none⟩) ss.length k3) rs (mixS (k + 1) ss) ∧ Fz (Db D a (.slice (some ⟨g2, 0, none⟩) ss.length cc) (.slice (some ⟨g3, 0, none⟩) ss.length k3)) w (w8.setCell ⟨g3, k, none⟩ (I 0))) := by
        refine ⟨?_, H1.out.2.trans (dfN _ _ _)⟩
        have h1 := H1.out.1
        rw [← HX.out.2.2.1] at h1
        have h2 := h1.setN HX.out.2.1 0
        rw [HX.out.2.2.1, HX.out.2.2.2] at h2
        exact h2
      clear H1 HX
      go_wp2
      go_roundw
      case rel => exact ⟨k + 1, by omega, by go_num, H2.out⟩
      case measure => simp [intOf]; omega
    · obtain rfl : k = ss.length := by omega
      have hge : ¬ ((ss.length : Int) < ss.length) := by omega
      have H9 := HJ.out
      rw [mixS_all, HN.out] at H9
      have H9' : Hid (Dk wr D mk a (.slice a2 ss.length cc) c rs (rstL rs.length) ∧ Fz (Db D a (.slice a2 ss.length cc) c) w wr) := by rw [HN.out]; exact H9
      clear HJ H9
      go_wp2
      refine bodyPost_end (v := .tuple #[]) (by simp [results, Tryd.results37, go_sem]) rfl ?_
      exact ⟨rfl, H9'.out.1, H9'.out.2⟩
end
end Go.Proofs.YthmecgfbapemjaaDoor
