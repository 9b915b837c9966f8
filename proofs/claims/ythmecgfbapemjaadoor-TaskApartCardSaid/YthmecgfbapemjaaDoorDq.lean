import Derived.Test.YthmecgfbapemjaaDoorDp
namespace Go.Proofs.YthmecgfbapemjaaDoor
open Go.RowKit Go.Shelf Go.Sort
set_option linter.unusedVariables false
set_option linter.unusedSimpArgs false

section
variable {w w' : World} {D : Nat} {mk : Bool} {a b c : Value} {rs : List Rw} {ss : List Sd}
set_option maxRecDepth 100000 in
theorem dActivate_any (h : Dk w D mk a b c rs ss) (h255 : ∀ (k : Nat) (x : Sd), ss[k]? = some x → x.2 ≤ 255) (t : Int) : Calls Tryd.prog 34 #[cP D, I t] w fun e w' => e = .returned (.tuple #[.bool (actB rs ss t), I (actS rs ss t)]) ∧ Dk w' D mk a b c rs (actL rs ss t) ∧ Fz (Db D a b c) w w' := by
  have hH := dhas_any h t
  have HH : Hid (Dk w D mk a b c rs ss) := h
  unfold actB actL
  rcases has_cases h.n t with ⟨h0, _⟩ | ⟨k, r, x, rfl, hk, hr, hx⟩
  · have e0 : actS rs ss t = 3 := by rw [actS, h0]; rfl
    rw [e0, if_neg (by decide), show (decide ((3 : Int) = 0) && decide ((sdA ss t).1 = 3)) = false by rfl]
    rw [h0] at hH
    clear e0 h h0 h255
    go_enter Tryd.func34, Tryd.ntmps34
    go_wp2_with (first | (go_at_call 44; refine hH.mono ?_; clear hH; rintro e w1 ⟨rfl, rfl⟩))
    go_ret2
    exact ⟨rfl, HH.out, Fz.refl _ _⟩
  · have e0 : actS rs ss k = if r.1 ≤ (x.2 : Int) then 4 else 0 := by rw [actS, hasB_at hk, if_pos rfl, sdA_at hx, rwA_at hr]
    rw [e0, sdA_at hx, Int.toNat_natCast]
    rw [hasB_at hk] at hH
    have hkI : (k : Int) < ss.length := by have := h.n; omega
    have hkR : (k : Int) < rs.length := by omega
    have hx255 := h255 k x hx
    obtain ⟨c0, c1, c2, c3⟩ := h.cells
    obtain ⟨g1, k1, g2, k2, g3, k3, rfl, rfl, rfl, q1, q2, q3, q4, q5, q6⟩ := h.at hr hx
    have c1' := cell_regrown c1
    have c3' := cell_regrown c3
    have q1' := cell_regrown q1
    have q4' := cell_regrown q4
    by_cases hle : r.1 ≤ (x.2 : Int)
    · rw [if_pos hle, if_neg (by decide), show (decide ((4 : Int) = 0) && decide (x.1 = 3)) = false by rfl]
      have hleb : decide (r.1 ≤ (x.2 : Int)) = true := by simpa using hle
      clear e0 h hr hx hk h255
      go_enter Tryd.func34, Tryd.ntmps34
      go_wp2_with (first | (go_at_call 44; refine hH.mono ?_; clear hH; rintro e w1 ⟨rfl, rfl⟩))
      refine wp_region_quiet_below (by kernel_rfl) (by kernel_rfl) ?_
      repeat (go_big_quiet_step (first | fail))
      refine wpQuiet_nil ?_
      rintro _ ⟨⟨dq, osq⟩, rfl⟩
      dsimp only
      have HD : Hid (Below w.heap.size w (grow (redrawn w dq) osq)) := below_regrown w dq osq
      clear c1' c3' q1' q4' q1 q2 q3 q4 q5 q6 c0 c1 c2 c3
      generalize grow (redrawn w dq) osq = w7 at *
      go_wp2
      go_ret2
      exact ⟨rfl, HH.out.below HD.out, Fz.of_below HD.out⟩
    · rw [if_neg hle, if_pos rfl, show (decide ((0 : Int) = 0) && decide (x.1 = 3)) = decide (x.1 = 3) by simp]
      have hleb : decide (r.1 ≤ (x.2 : Int)) = false := by simpa using hle
      have hkS : k < ss.length := (List.getElem?_eq_some_iff.1 hx).1
      have HX : Hid (rs[k]? = some r ∧ ss[k]? = some x ∧ (ss.set k (x.1, x.2 + 1))[k]? = some (x.1, x.2 + 1) ∧ (ss.set k (x.1, x.2 + 1)).length = ss.length) := ⟨hr, hx, by rw [List.getElem?_set_self hkS], List.length_set ..⟩
      have HSS : Hid ((ss.set k (x.1, x.2 + 1)).set k (2, x.2 + 1) = ss.set k (2, x.2 + 1)) := List.set_set ..
      have hwr : IntKind.i64.wrap ((x.2 : Int) + 1) = (x.2 : Int) + 1 := by rw [IntKind.wrap_i64]; omega
      clear e0 h hr hx hk hkS h255
      go_enter Tryd.func34, Tryd.ntmps34
      go_wp2_with (first | (go_at_call 44; refine hH.mono ?_; clear hH; rintro e w1 ⟨rfl, rfl⟩))
      refine wp_region_quiet_below (by kernel_rfl) (by kernel_rfl) ?_
      repeat (go_big_quiet_step (first | fail))
      refine wpQuiet_nil ?_
      rintro _ ⟨⟨dq, osq⟩, rfl⟩
      dsimp only
      have HD : Hid (Below w.heap.size w (grow (redrawn w dq) osq)) := below_regrown w dq osq
      clear c1' c3' q1' q4' q1 q2 q3 q4 q5 q6 c0 c1 c2 c3
      generalize grow (redrawn w dq) osq = w7 at *
      have K7 := HH.out.below HD.out
      obtain ⟨c0, c1, c2, c3⟩ := K7.cells
      obtain ⟨g1', k1', g2', k2', g3', k3', e1, e2, e3, q1, q2, q3, q4, q5, q6⟩ := K7.at HX.out.1 HX.out.2.1
      cases e1
      cases e2
      cases e3
      have HP : Hid (Dk (w7.setCell ⟨g3, k, none⟩ (I ((x.2 : Int) + 1))) D mk (.slice (some ⟨g1, 0, none⟩) rs.length k1) (.slice (some ⟨g2, 0, none⟩) ss.length k2) (.slice (some ⟨g3, 0, none⟩) ss.length k3) rs (ss.set k (x.1, x.2 + 1))) := K7.setN HX.out.2.1 (x.2 + 1)
      have HF : Hid (Fz (Db D (.slice (some ⟨g1, 0, none⟩) rs.length k1) (.slice (some ⟨g2, 0, none⟩) ss.length k2) (.slice (some ⟨g3, 0, none⟩) ss.length k3)) w (w7.setCell ⟨g3, k, none⟩ (I ((x.2 : Int) + 1)))) := (Fz.of_below HD.out).trans (dfN _ _ _)
      clear K7 HD
      go_upto_region 6 with (first | fail)
      clear q1 q2 q3 q4 q5 q6 c0 c1 c2 c3
      obtain ⟨c0, c1, c2, c3⟩ := HP.out.cells
      obtain ⟨g1', k1', g2', k2', g3', k3', e1, e2, e3, q1, q2, q3, q4, q5, q6⟩ := HP.out.at HX.out.1 HX.out.2.2.1
      cases e1
      rw [HX.out.2.2.2] at e2 e3
      cases e2
      cases e3
      generalize (w7.setCell ⟨g3, k, none⟩ (I ((x.2 : Int) + 1))) = w8 at *
      by_cases h3 : x.1 = 3
      · have H3 : Hid (x.1 = 3) := h3
        have HP2 : Hid (Dk (w8.setCell ⟨g2, k, none⟩ (I 2)) D mk (.slice (some ⟨g1, 0, none⟩) rs.length k1) (.slice (some ⟨g2, 0, none⟩) ss.length k2) (.slice (some ⟨g3, 0, none⟩) ss.length k3) rs (ss.set k (2, x.2 + 1))) := by
          have hc := HP.out
          rw [← HX.out.2.2.2] at hc
          have := hc.setS HX.out.2.2.1 2
          rw [HX.out.2.2.2, HSS.out] at this
          exact this
        have HF2 : Hid (Fz (Db D (.slice (some ⟨g1, 0, none⟩) rs.length k1) (.slice (some ⟨g2, 0, none⟩) ss.length k2) (.slice (some ⟨g3, 0, none⟩) ss.length k3)) w (w8.setCell ⟨g2, k, none⟩ (I 2))) := HF.out.trans (dfS _ _ _)
        have q3' : w8.cell? ⟨g2, k, none⟩ = some (I 3) := by rw [q3]; show some (I ((x.1 : Nat) : Int)) = _; rw [h3]; rfl
        clear HP HX HSS HH q3 h3 HF
        go_wp2
        go_ret2
        simp only [H3.out]
        exact ⟨rfl, HP2.out, HF2.out⟩
      · have H3 : Hid (¬ x.1 = 3) := h3
        have q3' : w8.cell? ⟨g2, k, none⟩ = some (I (x.1 : Int)) := q3
        have h3b : ((x.1 : Int) == 3) = false := beq_eq_false_iff_ne.2 (by omega)
        have h3I : ¬ ((x.1 : Int) = 3) := by omega
        clear HX HSS HH q3 h3
        go_wp2
        go_ret2
        simp only [H3.out]
        exact ⟨rfl, HP.out, HF.out⟩
end
end Go.Proofs.YthmecgfbapemjaaDoor
