import Derived.Test.YthmecgfbapemjaaDoorDf
namespace Go.Proofs.YthmecgfbapemjaaDoor
open Go.RowKit Go.Shelf Go.Sort
set_option linter.unusedVariables false
set_option linter.unusedSimpArgs false

/-! ### End, Activate -/
section
variable {w w' : World} {B : Nat} {v u : Value} {rs : List Rw} {ss : List Sd}
theorem leaE_run {k n : Nat} (e : runI ss = (k : Int)) (hx : ss[k]? = some (0, n)) (to : Nat) (h1 : to ≠ 1) : leaE rs ss to = 0 ∧ leaI rs ss to = k ∧ leaL rs ss to = ss.set k (to, n) := by
  have e0 : leaE rs ss to = 0 := by rw [leaE, e, if_neg (by omega), if_neg (fun h => h1 h.1)]
  refine ⟨e0, ?_, ?_⟩
  · rw [leaI, if_pos e0, e]
  · rw [leaL, if_pos e0, e, sdA_at hx, Int.toNat_natCast]
set_option maxRecDepth 100000 in
theorem End_run (h : Ck w B v u rs ss) (hE : EnvR w) {k n : Nat} (e : runI ss = (k : Int)) (hx : ss[k]? = some (0, n)) (hn : 1 ≤ n) (hn2 : n ≤ 255) (to : Nat) (hto : to = if n = 1 then 3 else 2) : Calls Tryd.prog 20 #[cP B] w fun e w' => e = .returned (.tuple #[I k, I to, I 0]) ∧ Ck w' B v u rs (ss.set k (to, n - 1)) ∧ Fz (Cb B v u) w w' := by
  have hR := Running_any h
  rw [e] at hR
  have hk : k < rs.length := by have := (List.getElem?_eq_some_iff.1 hx).1; have := h.n; omega
  have hA : ∀ W, Below w.heap.size w W → Calls Tryd.prog 19 #[cP B, I k] W fun e w' => e = .returned (I n) ∧ W = w' := fun W hb => by
    have := Active_any (h.below hb) (k : Int)
    rw [actN, if_pos (hasB_at hk), sdA_at hx] at this
    exact this
  obtain ⟨l1, l2, l3⟩ := leaE_run (rs := rs) e hx to (by split at hto <;> omega)
  have hL : ∀ W, Below w.heap.size w W → Calls Tryd.prog 33 #[cP B, I to] W fun e w' => e = .returned (.tuple #[I k, I 0]) ∧ Ck w' B v u rs (ss.set k (to, n)) ∧ Fz (Cb B v u) W w' := fun W hb => by
    have := leave_any (h.below hb) (hE.up hb) to (by split at hto <;> omega)
    rw [l1, l2, l3] at this
    exact this
  obtain ⟨r, hr⟩ : ∃ r, rs[k]? = some r := ⟨_, List.getElem?_eq_getElem hk⟩
  have hkS : k < ss.length := (List.getElem?_eq_some_iff.1 hx).1
  have hkI : (k : Int) < ss.length := by omega
  have HX : Hid (rs[k]? = some r ∧ (ss.set k (to, n))[k]? = some (to, n) ∧ (ss.set k (to, n)).length = ss.length) := ⟨hr, by rw [List.getElem?_set_self hkS], List.length_set ..⟩
  have HS : Hid ((ss.set k (to, n)).set k (to, n - 1) = ss.set k (to, n - 1)) := List.set_set ..
  have e9 : (n : Int) - 1 = ((n - 1 : Nat) : Int) := by omega
  have HE9 : Hid ((n : Int) - 1 = ((n - 1 : Nat) : Int)) := e9
  clear h hE l1 l2 l3 hr hk e e9 hx
  by_cases h1 : n = 1
  · subst h1
    rw [if_pos rfl] at hto
    subst hto
    go_enter Tryd.func20, Tryd.ntmps20
    go_upto_region 7 with (first
      | (go_at_call 13; refine hR.mono ?_; clear hR; rintro e w1 ⟨rfl, b1⟩; have hA1 := hA w1 b1; have hL1 : Calls Tryd.prog 33 #[cP B, I 3] w1 _ := hL w1 b1; have H1 : Hid (Below w.heap.size w w1) := b1; clear b1 hA hL)
      | (go_at_call 19; refine hA1.mono ?_; clear hA1; rintro e w2 ⟨rfl, rfl⟩)
      | (go_at_call 33; refine hL1.mono ?_; clear hL1; rintro e w3 ⟨rfl, k3, f3⟩; have H3 : Hid (Ck w3 B v u rs (ss.set k (3, 1)) ∧ Fz (Cb B v u) w w3) := ⟨k3, (Fz.of_below H1.out).trans f3⟩; clear k3 f3))
    obtain ⟨c0, c1, c2⟩ := H3.out.1.cells
    obtain ⟨g, c, g2, cc2, e1, e2, q1, q2, q3, q4, q5⟩ := H3.out.1.at HX.out.1 HX.out.2.1
    rw [HX.out.2.2] at e2
    subst e1 e2
    have HP : Hid (Ck (w3.setCell ⟨g2, k * 2 + 1, none⟩ (I 0)) B (.slice (some ⟨g, 0, none⟩) rs.length c) (.slice (some ⟨g2, 0, none⟩) ss.length cc2) rs (ss.set k (3, 0))) := by
      have hc := H3.out.1
      rw [← HX.out.2.2] at hc
      have := hc.setA HX.out.2.1 0
      rw [HX.out.2.2, HS.out] at this
      exact this
    have HF : Hid (Fz (Cb B (.slice (some ⟨g, 0, none⟩) rs.length c) (.slice (some ⟨g2, 0, none⟩) ss.length cc2)) w (w3.setCell ⟨g2, k * 2 + 1, none⟩ (I 0))) := H3.out.2.set (.inl (.inr (.inr rfl))) _ _
    clear H3 HX HS q1 q2 q3 c0 c1
    go_wp2
    go_ret3
    exact ⟨rfl, HP.out, HF.out⟩
  · rw [if_neg h1] at hto
    subst hto
    have h1b : ((n : Int) == 1) = false := beq_eq_false_iff_ne.2 (by omega)
    have h1I : ¬ ((n : Int) = 1) := by omega
    clear h1
    go_enter Tryd.func20, Tryd.ntmps20
    go_upto_region 7 with (first
      | (go_at_call 13; refine hR.mono ?_; clear hR; rintro e w1 ⟨rfl, b1⟩; have hA1 := hA w1 b1; have hL1 : Calls Tryd.prog 33 #[cP B, I 2] w1 _ := hL w1 b1; have H1 : Hid (Below w.heap.size w w1) := b1; clear b1 hA hL)
      | (go_at_call 19; refine hA1.mono ?_; clear hA1; rintro e w2 ⟨rfl, rfl⟩)
      | (go_at_call 33; refine hL1.mono ?_; clear hL1; rintro e w3 ⟨rfl, k3, f3⟩; have H3 : Hid (Ck w3 B v u rs (ss.set k (2, n)) ∧ Fz (Cb B v u) w w3) := ⟨k3, (Fz.of_below H1.out).trans f3⟩; clear k3 f3))
    obtain ⟨c0, c1, c2⟩ := H3.out.1.cells
    obtain ⟨g, c, g2, cc2, e1, e2, q1, q2, q3, q4, q5⟩ := H3.out.1.at HX.out.1 HX.out.2.1
    rw [HX.out.2.2] at e2
    subst e1 e2
    have HP : Hid (Ck (w3.setCell ⟨g2, k * 2 + 1, none⟩ (I ((n : Int) - 1))) B (.slice (some ⟨g, 0, none⟩) rs.length c) (.slice (some ⟨g2, 0, none⟩) ss.length cc2) rs (ss.set k (2, n - 1))) := by
      have hc := H3.out.1
      rw [← HX.out.2.2] at hc
      have := hc.setA HX.out.2.1 (n - 1)
      rw [HX.out.2.2, HS.out, ← HE9.out] at this
      exact this
    have HF : Hid (Fz (Cb B (.slice (some ⟨g, 0, none⟩) rs.length c) (.slice (some ⟨g2, 0, none⟩) ss.length cc2)) w (w3.setCell ⟨g2, k * 2 + 1, none⟩ (I ((n : Int) - 1)))) := H3.out.2.set (.inl (.inr (.inr rfl))) _ _
    clear H3 HX HS q1 q2 q3 c0 c1
    go_wp2
    go_ret3
    exact ⟨rfl, HP.out, HF.out⟩
theorem End_any (h : Ck w B v u rs ss) (hK : OKs rs ss) (hE : EnvR w) : Calls Tryd.prog 20 #[cP B] w fun e w' => e = .returned (.tuple #[I (runI ss), I (endS ss), I (endE ss)]) ∧ Ck w' B v u rs (endL ss) ∧ Fz (Cb B v u) w w' := by
  by_cases hr : runI ss = -1
  · rw [endS, endE, endL, if_pos hr, if_pos hr, if_pos hr]
    have hR := Running_any h
    rw [hr] at hR ⊢
    have HH : Hid (Ck w B v u rs ss) := h
    have hA : ∀ W, Below w.heap.size w W → Calls Tryd.prog 19 #[cP B, I (-1)] W fun e w' => e = .returned (I 0) ∧ W = w' := fun W hb => Active_any (h.below hb) (-1)
    have hL : ∀ W, Below w.heap.size w W → Calls Tryd.prog 33 #[cP B, I 2] W fun e w' => e = .returned (.tuple #[I (-1), I 180]) ∧ Ck w' B v u rs ss ∧ Fz (Cb B v u) W w' := fun W hb => by
      have := leave_any (h.below hb) (hE.up hb) 2 (by omega)
      have e0 : leaE rs ss 2 = 180 := by rw [leaE, if_pos hr]
      rw [leaI, leaL, e0, if_neg (by decide), if_neg (by decide)] at this
      exact this
    clear h hE hr hK
    go_enter Tryd.func20, Tryd.ntmps20
    go_wp2_with (first
      | (go_at_call 13; refine hR.mono ?_; clear hR; rintro e w1 ⟨rfl, b1⟩; have hA1 := hA w1 b1; have hL1 := hL w1 b1; have H1 : Hid (Below w.heap.size w w1) := b1; clear b1 hA hL)
      | (go_at_call 19; refine hA1.mono ?_; clear hA1; rintro e w2 ⟨rfl, rfl⟩)
      | (go_at_call 33; refine hL1.mono ?_; clear hL1; rintro e w3 ⟨rfl, k3, f3⟩; have H3 : Hid (Ck w3 B v u rs ss ∧ Fz (Cb B v u) w w3) := ⟨k3, (Fz.of_below H1.out).trans f3⟩; clear k3 f3))
    go_ret3
    exact ⟨rfl, H3.out.1, H3.out.2⟩
  · obtain ⟨k, n, r, e, hk, hx, hr2, hn⟩ := hK.runs hr
    have h2 := (hK.le hx).2
    have := End_run h hE e hx hn h2 (if n = 1 then 3 else 2) rfl
    rw [endE, endL, endS, if_neg hr, if_neg hr, if_neg hr, e, sdA_at hx, Int.toNat_natCast]
    exact this
set_option maxRecDepth 100000 in
theorem Activate_any (h : Ck w B v u rs ss) (hK : OKs rs ss) (hE : EnvR w) (t : Int) : Calls Tryd.prog 11 #[cP B, I t] w fun e w' => e = .returned (.tuple #[.bool (actB rs ss t), I (actS rs ss t)]) ∧ Ck w' B v u rs (actL rs ss t) ∧ Fz (Cb B v u) w w' := by
  have hH := has_any h t
  have HH : Hid (Ck w B v u rs ss) := h
  unfold actB actL
  rcases has_cases h.n t with ⟨h0, _⟩ | ⟨k, r, x, rfl, hk, hr, hx⟩
  · have e0 : actS rs ss t = 3 := by rw [actS, h0]; rfl
    rw [e0, if_neg (by decide), show (decide ((3 : Int) = 0) && decide ((sdA ss t).1 = 3)) = false by rfl]
    rw [h0] at hH
    clear e0 h hE h0 hK
    go_enter Tryd.func11, Tryd.ntmps11
    go_wp2_with (first | (go_at_call 30; refine hH.mono ?_; clear hH; rintro e w1 ⟨rfl, rfl⟩))
    go_ret2
    exact ⟨rfl, HH.out, Fz.refl _ _⟩
  · have e0 : actS rs ss k = if r.1 ≤ (x.2 : Int) then 4 else 0 := by rw [actS, hasB_at hk, if_pos rfl, sdA_at hx, rwA_at hr]
    rw [e0, sdA_at hx, Int.toNat_natCast]
    rw [hasB_at hk] at hH
    have hkI : (k : Int) < ss.length := by have := h.n; omega
    have hkR : (k : Int) < rs.length := by omega
    have h255 := (hK.le hx).2
    obtain ⟨c0, c1, c2⟩ := h.cells
    obtain ⟨g, c, g2, cc2, rfl, rfl, q1, q2, q3, q4, q5⟩ := h.at hr hx
    have c1' := cell_regrown c1
    have q1' := cell_regrown q1
    have q4' := cell_regrown q4
    by_cases hle : r.1 ≤ (x.2 : Int)
    · rw [if_pos hle, if_neg (by decide), show (decide ((4 : Int) = 0) && decide (x.1 = 3)) = false by rfl]
      have hleb : decide (r.1 ≤ (x.2 : Int)) = true := by simpa using hle
      clear e0 h hE hK hr hx hk
      go_enter Tryd.func11, Tryd.ntmps11
      go_wp2_with (first | (go_at_call 30; refine hH.mono ?_; clear hH; rintro e w1 ⟨rfl, rfl⟩))
      refine wp_region_quiet_below (by kernel_rfl) (by kernel_rfl) ?_
      repeat (go_big_quiet_step (first | fail))
      refine wpQuiet_nil ?_
      rintro _ ⟨⟨dq, osq⟩, rfl⟩
      dsimp only
      have HD : Hid (Below w.heap.size w (grow (redrawn w dq) osq)) := below_regrown w dq osq
      clear c1' q1' q4' q1 q2 q3 q4 q5 c0 c1 c2
      generalize grow (redrawn w dq) osq = w7 at *
      go_wp2
      go_ret2
      exact ⟨rfl, HH.out.below HD.out, Fz.of_below HD.out⟩
    · rw [if_neg hle, if_pos rfl, show (decide ((0 : Int) = 0) && decide (x.1 = 3)) = decide (x.1 = 3) by simp]
      have hleb : decide (r.1 ≤ (x.2 : Int)) = false := by simpa using hle
      have hkS : k < ss.length := (List.getElem?_eq_some_iff.1 hx).1
      have HX : Hid (rs[k]? = some r ∧ ss[k]? = some x ∧ (ss.set k (x.1, x.2 + 1))[k]? = some (x.1, x.2 + 1) ∧ (ss.set k (x.1, x.2 + 1)).length = ss.length) := ⟨hr, hx, by rw [List.getElem?_set_self hkS], List.length_set ..⟩
      have HSS : Hid ((ss.set k (x.1, x.2 + 1)).set k (2, x.2 + 1) = ss.set k (2, x.2 + 1)) := List.set_set ..
      have HE : Hid (EnvR w) := hE
      have hwr : IntKind.i64.wrap ((x.2 : Int) + 1) = (x.2 : Int) + 1 := by rw [IntKind.wrap_i64]; omega
      clear e0 h hE hK hr hx hk hkS
      go_enter Tryd.func11, Tryd.ntmps11
      go_wp2_with (first | (go_at_call 30; refine hH.mono ?_; clear hH; rintro e w1 ⟨rfl, rfl⟩))
      refine wp_region_quiet_below (by kernel_rfl) (by kernel_rfl) ?_
      repeat (go_big_quiet_step (first | fail))
      refine wpQuiet_nil ?_
      rintro _ ⟨⟨dq, osq⟩, rfl⟩
      dsimp only
      have HD : Hid (Below w.heap.size w (grow (redrawn w dq) osq)) := below_regrown w dq osq
      clear c1' q1' q4' q1 q2 q3 q4 q5 c0 c1 c2
      generalize grow (redrawn w dq) osq = w7 at *
      have K7 := HH.out.below HD.out
      obtain ⟨g', c', g2', cc2', e1, e2, q1, q2, q3, q4, q5⟩ := K7.at HX.out.1 HX.out.2.1
      cases e1
      cases e2
      have HP : Hid (Ck (w7.setCell ⟨g2, k * 2 + 1, none⟩ (I ((x.2 : Int) + 1))) B (.slice (some ⟨g, 0, none⟩) rs.length c) (.slice (some ⟨g2, 0, none⟩) ss.length cc2) rs (ss.set k (x.1, x.2 + 1)) ∧ EnvR (w7.setCell ⟨g2, k * 2 + 1, none⟩ (I ((x.2 : Int) + 1)))) := by
        exact ⟨K7.setA HX.out.2.1 (x.2 + 1), K7.env (HE.out.up HD.out) ((Fz.refl _ w7).set (.inl (.inr (.inr rfl))) _ _)⟩
      have HF : Hid (Fz (Cb B (.slice (some ⟨g, 0, none⟩) rs.length c) (.slice (some ⟨g2, 0, none⟩) ss.length cc2)) w (w7.setCell ⟨g2, k * 2 + 1, none⟩ (I ((x.2 : Int) + 1)))) := (Fz.of_below HD.out).set (.inl (.inr (.inr rfl))) _ _
      clear K7 HD
      by_cases h3 : x.1 = 3
      · have H3 : Hid (x.1 = 3) := h3
        have hS : Calls Tryd.prog 31 #[cP B, I k, .agg #[I 3, I 2]] (w7.setCell ⟨g2, k * 2 + 1, none⟩ (I ((x.2 : Int) + 1))) fun e w' => e = .returned (I 0) ∧ Ck w' B (.slice (some ⟨g, 0, none⟩) rs.length c) (.slice (some ⟨g2, 0, none⟩) ss.length cc2) rs (ss.set k (2, x.2 + 1)) ∧ Fz (Cb B (.slice (some ⟨g, 0, none⟩) rs.length c) (.slice (some ⟨g2, 0, none⟩) ss.length cc2)) (w7.setCell ⟨g2, k * 2 + 1, none⟩ (I ((x.2 : Int) + 1))) w' := by
          have := shift_ok HP.out.1 HX.out.1 HX.out.2.2.1 2 HP.out.2 (fun _ => true) (by rw [show (x.1, x.2 + 1).1 = 3 from h3]; exact mv_32) rfl
          rw [show (x.1, x.2 + 1).1 = 3 from h3, List.set_set] at this
          exact this
        clear h3 HP HX HSS HH HE
        go_wp2_with (first | (go_at_call 31; refine hS.mono ?_; clear hS; rintro e w8 ⟨rfl, k8, f8⟩))
        go_ret2
        exact ⟨rfl, k8, HF.out.trans f8⟩
      · have H3 : Hid (¬ x.1 = 3) := h3
        have hS : Calls Tryd.prog 31 #[cP B, I k, .agg #[I 3, I 2]] (w7.setCell ⟨g2, k * 2 + 1, none⟩ (I ((x.2 : Int) + 1))) fun e w' => e = .returned (I 180) ∧ Below (w7.setCell ⟨g2, k * 2 + 1, none⟩ (I ((x.2 : Int) + 1))).heap.size (w7.setCell ⟨g2, k * 2 + 1, none⟩ (I ((x.2 : Int) + 1))) w' := shift_no HP.out.1 HX.out.1 HX.out.2.2.1 3 2 h3
        clear h3 HX HSS HH HE
        go_wp2_with (first | (go_at_call 31; refine hS.mono ?_; clear hS; rintro e w8 ⟨rfl, b8⟩))
        go_ret2
        exact ⟨rfl, HP.out.1.below b8, HF.out.trans (Fz.of_below b8)⟩
end
end Go.Proofs.YthmecgfbapemjaaDoor
