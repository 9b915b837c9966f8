import Derived.Test.YthmecgfbapemjaaDoorDn
namespace Go.Proofs.YthmecgfbapemjaaDoor
open Go.RowKit Go.Shelf Go.Sort
set_option linter.unusedVariables false
set_option linter.unusedSimpArgs false

/-! ### The document's calls -/
section
variable {w w' : World} {D : Nat} {mk : Bool} {a b c : Value} {rs : List Rw} {ss : List Sd}
set_option maxHeartbeats 4000000 in
set_option maxRecDepth 100000 in
theorem dThose_any (h : Dk w D mk a b c rs ss) (s : Int) : Calls Tryd.prog 41 #[cP D, I s] w fun e w' => ∃ a c, e = .returned (.slice a (thF s 0 ss).length c) ∧ w'.ownsRow w.heap.size 3 1 (.slice a (thF s 0 ss).length c) (thF s 0 ss).length (inL (thF s 0 ss)) ∧ Below w.heap.size w w' := by
  obtain ⟨i0, hi0, hz0, hz1, hz2⟩ := info_parts iinfo
  have HH : Hid (Dk w D mk a b c rs ss) := h
  obtain ⟨a2, cc, rfl⟩ := own_sl h.q
  have hl : ss.length ≤ 256 := by have := h.n; have := h.m; omega
  have HI : Hid (w.ownsRow w.heap.size 3 1 (.slice none 0 0) (thF s 0 (ss.take 0)).length (inL (thF s 0 (ss.take 0))) ∧ Below w.heap.size w w) := ⟨by simpa [thF, inL] using World.ownsRow_nil w _ _ _, Below.refl _ _⟩
  clear h
  go_enter Tryd.func41, Tryd.ntmps41
  go_wp2
  go_loopw [5, 6] (fun v5 v6 wr => ∃ k : Nat, k ≤ ss.length ∧ v6 = I k ∧ Hid (wr.ownsRow w.heap.size 3 1 v5 (thF s 0 (ss.take k)).length (inL (thF s 0 (ss.take k))) ∧ Below w.heap.size w wr)) (fun _ v6 _ => ss.length - (intOf v6).toNat)
  case atStart => exact ⟨0, by omega, rfl, HI.out⟩
  case round =>
    clear HI
    obtain ⟨k, hk, rfl, HJ⟩ := hrel
    obtain ⟨c0, c1, c2, c3⟩ := (HH.out.below HJ.out.2).cells
    by_cases hlt : k < ss.length
    · have hltI : (k : Int) < ss.length := by omega
      obtain ⟨x, hx⟩ : ∃ x, ss[k]? = some x := ⟨_, List.getElem?_eq_getElem hlt⟩
      obtain ⟨r, hr⟩ : ∃ r, rs[k]? = some r := ⟨_, List.getElem?_eq_getElem (by have := HH.out.n; omega)⟩
      obtain ⟨g1, k1, g2, k2, g3, k3, e1, e2, e3, -, -, q3, -, -, -⟩ := (HH.out.below HJ.out.2).at hr hx
      cases e2
      have HD : Hid (thF s 0 (ss.take (k + 1)) = thF s 0 (ss.take k) ++ (if (x.1 : Int) = s then [k] else [])) := by
        show _ = _
        rw [take_snoc hx, thF_snoc, List.length_take, show min k ss.length = k by omega, Nat.zero_add]
      have hlen : (thF s 0 (ss.take k)).length ≤ 256 := by
        have := thF_len s (ss.take k) 0
        rw [List.length_take] at this
        omega
      by_cases h0 : (x.1 : Int) = s
      · have h0b : ((x.1 : Int) == s) = true := by simpa using h0
        have HD2 : Hid (thF s 0 (ss.take (k + 1)) = thF s 0 (ss.take k) ++ [k]) := by show _ = _; rw [HD.out, if_pos h0]
        have hW : w.heap.size ≤ wr.heap.size := HJ.out.2.size
        have hO2 := HJ.out.1.alloc (.cells #[I (k : Int)] 3)
        have H1 : Hid (wr.ownsRow w.heap.size 3 1 u5 (thF s 0 (ss.take k)).length (inL (thF s 0 (ss.take k))) ∧ Below w.heap.size w wr) := HJ.out
        rw [h0] at q3
        clear HJ h0 hx hr HD h0b
        go_wp2_with (first
          | (at_builtin; refine wpList_append_own _ rfl (.tmp 25) (.tmp 27) 46 rfl w.heap.size 3 i0 (.int .i64 0) 1 8 Tryd.underlying46 hi0 hz0 hz1 hz2 rfl (by decide) _ _ _ rfl hO2 ⟨wr.heap.size, 0, none⟩ 1 1 [I (k : Int)] rfl rfl (cell_one_new _ _ _) (by intro u hu; simp at hu; subst hu; rfl) (by unfold maxLen; omega) (by omega) (by simp; omega) ?_))
        intro v6 w6 ho6 hg6 _
        have f6 : Below w.heap.size w w6 := H1.out.2.trans (((below_alloc wr _).mono hW).trans (Fz.below (M := fun b => u5.ownBlock = some b) ⟨hg6.os, hg6.tape, hg6.output, hg6.size, fun i hi hne => hg6.block i hi (fun e => hne e.symm)⟩ (by simp; omega) (fun b e => (H1.out.1.lt b e).1)))
        have H6 : Hid (w6.ownsRow w.heap.size 3 1 v6 (thF s 0 (ss.take (k + 1))).length (inL (thF s 0 (ss.take (k + 1)))) ∧ Below w.heap.size w w6) := by
          refine ⟨?_, f6⟩
          rw [HD2.out, List.length_append]
          unfold inL
          rw [List.map_append]
          exact ho6
        clear ho6 hg6 f6 hO2 H1 HD2
        go_wp2
        go_roundw
        case rel => exact ⟨k + 1, by omega, by go_num, H6.out⟩
        case measure => simp [intOf]; omega
      · have h0b : ((x.1 : Int) == s) = false := by simpa using h0
        have HD2 : Hid (thF s 0 (ss.take (k + 1)) = thF s 0 (ss.take k)) := by show _ = _; rw [HD.out, if_neg h0]; simp
        clear HD hx hr
        go_wp2
        go_roundw
        case rel => exact ⟨k + 1, by omega, by go_num, by rw [HD2.out]; exact HJ.out.1, HJ.out.2⟩
        case measure => simp [intOf]; omega
    · obtain rfl : k = ss.length := by omega
      have hge : ¬ ((ss.length : Int) < ss.length) := by omega
      obtain ⟨a5, c5, e5⟩ := own_sl HJ.out.1
      have H9 := HJ.out
      rw [List.take_length] at H9 e5
      subst e5
      have H9' : Hid (wr.ownsRow w.heap.size 3 1 (.slice a5 (thF s 0 ss).length c5) (thF s 0 ss).length (inL (thF s 0 ss)) ∧ Below w.heap.size w wr) := H9
      clear HJ H9
      go_wp2
      go_ret
      exact ⟨_, _, rfl, H9'.out.1, H9'.out.2⟩
/-- a move of the running task -/
theorem dLeave_any (h : Dk w D true a b c rs ss) (i : Int) (to : Nat) (hto : to = 1 ∨ to = 2) : Calls Tryd.prog 35 #[cP D, I i, I 0, I to] w fun e w' => e = .returned (.tuple #[I (leaI rs ss to), I (leaE rs ss to)]) ∧ Dk w' D true a b c rs (leaL rs ss to) ∧ Fz (Db D a b c) w w' := by
  have hR := dRunning_any h
  obtain ⟨c0, c1, c2, c3⟩ := h.cells
  rcases run_cases ss with ⟨e, _⟩ | ⟨k, n, e, hx⟩
  · have hE0 : leaE rs ss to = 180 := by rw [leaE, if_pos e]
    rw [leaI, leaL, hE0, if_neg (by decide), if_neg (by decide)]
    rw [e] at hR
    clear hE0 e hto
    go_enter Tryd.func35, Tryd.ntmps35
    go_wp2_with (first | (go_at_call 38; refine hR.mono ?_; clear hR; rintro e w2 ⟨rfl, rfl⟩))
    go_ret2
    exact ⟨rfl, h, Fz.refl _ _⟩
  · have hk : k < rs.length := by have := (List.getElem?_eq_some_iff.1 hx).1; have := h.n; omega
    obtain ⟨r, hr⟩ : ∃ r, rs[k]? = some r := ⟨_, List.getElem?_eq_getElem hk⟩
    have hne : ¬ ((k : Int) = -1) := by omega
    have hkR : (k : Int) < rs.length := by omega
    have hkS : (k : Int) < ss.length := by have := h.n; omega
    have hk0 : ¬ ((k : Int) < 0) := by omega
    have hL : leaE rs ss to = if to = 1 ∧ r.2 = false then 180 else 0 := by rw [leaE, e, if_neg hne, rwA_at hr]
    rw [leaI, leaL, hL, e, sdA_at hx, Int.toNat_natCast]
    rw [e] at hR
    have HH : Hid (Dk w D true a b c rs ss) := h
    have HX : Hid (ss[k]? = some (0, n)) := hx
    obtain ⟨g1, k1, g2, k2, g3, k3, rfl, rfl, rfl, q1, q2, q3, q4, q5, q6⟩ := h.at hr hx
    rcases hto with rfl | rfl
    · cases hb : r.2 with
      | false =>
        rw [if_pos (show 1 = 1 ∧ false = false from ⟨rfl, rfl⟩), if_neg (by decide), if_neg (by decide)]
        rw [hb] at q2
        clear h hL e hr hx hk
        go_enter Tryd.func35, Tryd.ntmps35
        go_wp2_with (first | (go_at_call 38; refine hR.mono ?_; clear hR; rintro e w2 ⟨rfl, rfl⟩))
        go_ret2
        exact ⟨rfl, HH.out, Fz.refl _ _⟩
      | true =>
        rw [if_neg (show ¬ (1 = 1 ∧ true = false) by decide), if_pos rfl, if_pos rfl]
        rw [hb] at q2
        have HP : Hid (Dk (w.setCell ⟨g2, k, none⟩ (I 1)) D true (.slice (some ⟨g1, 0, none⟩) rs.length k1) (.slice (some ⟨g2, 0, none⟩) ss.length k2) (.slice (some ⟨g3, 0, none⟩) ss.length k3) rs (ss.set k (1, n))) := h.setS hx 1
        clear h hL e hr hx hk
        go_enter Tryd.func35, Tryd.ntmps35
        go_wp2_with (first | (go_at_call 38; refine hR.mono ?_; clear hR; rintro e w2 ⟨rfl, rfl⟩))
        go_ret2
        exact ⟨rfl, HP.out, dfS _ _ _⟩
    · rw [if_neg (show ¬ (2 = 1 ∧ r.2 = false) from fun h => by cases h.1), if_pos rfl, if_pos rfl]
      have HP : Hid (Dk (w.setCell ⟨g2, k, none⟩ (I 2)) D true (.slice (some ⟨g1, 0, none⟩) rs.length k1) (.slice (some ⟨g2, 0, none⟩) ss.length k2) (.slice (some ⟨g3, 0, none⟩) ss.length k3) rs (ss.set k (2, n))) := h.setS hx 2
      clear h hL e hr hx hk
      go_enter Tryd.func35, Tryd.ntmps35
      go_wp2_with (first | (go_at_call 38; refine hR.mono ?_; clear hR; rintro e w2 ⟨rfl, rfl⟩))
      go_ret2
      exact ⟨rfl, HP.out, dfS _ _ _⟩
theorem dStart_any (h : Dk w D true a b c rs ss) (t : Int) : Calls Tryd.prog 35 #[cP D, I t, I 2, I 0] w fun e w' => (∃ z, e = .returned (.tuple #[I z, I (staE rs ss t)])) ∧ Dk w' D true a b c rs (staL rs ss t) ∧ Fz (Db D a b c) w w' := by
  have hR := dRunning_any h
  have hH := dhas_any h t
  obtain ⟨c0, c1, c2, c3⟩ := h.cells
  unfold staL
  rcases has_cases h.n t with ⟨h0, _⟩ | ⟨k, r, x, rfl, hk, hr, hx⟩
  · have e0 : staE rs ss t = 2 := by rw [staE, h0]; rfl
    rw [e0, if_neg (by decide)]
    rw [h0] at hH
    clear e0 h0
    go_enter Tryd.func35, Tryd.ntmps35
    go_wp2_with (first | (go_at_call 44; refine hH.mono ?_; clear hH; rintro e w1 ⟨rfl, rfl⟩))
    go_ret2
    exact ⟨⟨_, rfl⟩, h, Fz.refl _ _⟩
  · have e0 : staE rs ss k = if runI ss = -1 then (if x.1 = 2 then 0 else 180) else 181 := by rw [staE, hasB_at hk, if_pos rfl, sdA_at hx]
    rw [e0, sdA_at hx, Int.toNat_natCast]
    rw [hasB_at hk] at hH
    have hkS : (k : Int) < ss.length := by have := h.n; omega
    have HH : Hid (Dk w D true a b c rs ss) := h
    obtain ⟨g1, k1, g2, k2, g3, k3, rfl, rfl, rfl, q1, q2, q3, q4, q5, q6⟩ := h.at hr hx
    rcases run_cases ss with ⟨e, _⟩ | ⟨k9, n, e, hx9⟩
    · rw [if_pos e]
      rw [e] at hR
      by_cases h2 : x.1 = 2
      · rw [if_pos h2, if_pos rfl]
        have HP : Hid (Dk (w.setCell ⟨g2, k, none⟩ (I 0)) D true (.slice (some ⟨g1, 0, none⟩) rs.length k1) (.slice (some ⟨g2, 0, none⟩) ss.length k2) (.slice (some ⟨g3, 0, none⟩) ss.length k3) rs (ss.set k (0, x.2))) := h.setS hx 0
        rw [h2] at q3
        clear h e hr hx hk h2 e0
        go_enter Tryd.func35, Tryd.ntmps35
        go_wp2_with (first | (go_at_call 44; refine hH.mono ?_; clear hH; rintro e w1 ⟨rfl, rfl⟩) | (go_at_call 38; refine hR.mono ?_; clear hR; rintro e w2 ⟨rfl, rfl⟩))
        go_ret2
        exact ⟨⟨_, rfl⟩, HP.out, dfS _ _ _⟩
      · rw [if_neg h2, if_neg (by decide)]
        have h2b : ((x.1 : Int) == 2) = false := beq_eq_false_iff_ne.2 (by omega)
        have h2I : ¬ ((x.1 : Int) = 2) := by omega
        clear h e hr hx hk h2 e0
        go_enter Tryd.func35, Tryd.ntmps35
        go_wp2_with (first | (go_at_call 44; refine hH.mono ?_; clear hH; rintro e w1 ⟨rfl, rfl⟩) | (go_at_call 38; refine hR.mono ?_; clear hR; rintro e w2 ⟨rfl, rfl⟩))
        go_ret2
        exact ⟨⟨_, rfl⟩, HH.out, Fz.refl _ _⟩
    · rw [if_neg (by omega), if_neg (by decide)]
      rw [e] at hR
      have h9 : (0 : Int) ≤ k9 := by omega
      clear h e hr hx hk e0 hx9
      go_enter Tryd.func35, Tryd.ntmps35
      go_wp2_with (first | (go_at_call 44; refine hH.mono ?_; clear hH; rintro e w1 ⟨rfl, rfl⟩) | (go_at_call 38; refine hR.mono ?_; clear hR; rintro e w2 ⟨rfl, rfl⟩))
      go_ret2
      exact ⟨⟨_, rfl⟩, HH.out, Fz.refl _ _⟩
theorem dRelease_any (h : Dk w D true a b c rs ss) (t : Int) : Calls Tryd.prog 35 #[cP D, I t, I 1, I 2] w fun e w' => (∃ z, e = .returned (.tuple #[I z, I (relE rs ss t)])) ∧ Dk w' D true a b c rs (relL rs ss t) ∧ Fz (Db D a b c) w w' := by
  have hH := dhas_any h t
  obtain ⟨c0, c1, c2, c3⟩ := h.cells
  unfold relL
  rcases has_cases h.n t with ⟨h0, _⟩ | ⟨k, r, x, rfl, hk, hr, hx⟩
  · have e0 : relE rs ss t = 2 := by rw [relE, h0]; rfl
    rw [e0, if_neg (by decide)]
    rw [h0] at hH
    clear e0 h0
    go_enter Tryd.func35, Tryd.ntmps35
    go_wp2_with (first | (go_at_call 44; refine hH.mono ?_; clear hH; rintro e w1 ⟨rfl, rfl⟩))
    go_ret2
    exact ⟨⟨_, rfl⟩, h, Fz.refl _ _⟩
  · have e0 : relE rs ss k = if x.1 = 1 then 0 else 180 := by rw [relE, hasB_at hk, if_pos rfl, sdA_at hx]
    rw [e0, sdA_at hx, Int.toNat_natCast]
    rw [hasB_at hk] at hH
    have hkS : (k : Int) < ss.length := by have := h.n; omega
    have HH : Hid (Dk w D true a b c rs ss) := h
    obtain ⟨g1, k1, g2, k2, g3, k3, rfl, rfl, rfl, q1, q2, q3, q4, q5, q6⟩ := h.at hr hx
    by_cases h2 : x.1 = 1
    · rw [if_pos h2, if_pos rfl]
      have HP : Hid (Dk (w.setCell ⟨g2, k, none⟩ (I 2)) D true (.slice (some ⟨g1, 0, none⟩) rs.length k1) (.slice (some ⟨g2, 0, none⟩) ss.length k2) (.slice (some ⟨g3, 0, none⟩) ss.length k3) rs (ss.set k (2, x.2))) := h.setS hx 2
      rw [h2] at q3
      clear h hr hx hk h2 e0
      go_enter Tryd.func35, Tryd.ntmps35
      go_wp2_with (first | (go_at_call 44; refine hH.mono ?_; clear hH; rintro e w1 ⟨rfl, rfl⟩))
      go_ret2
      exact ⟨⟨_, rfl⟩, HP.out, dfS _ _ _⟩
    · rw [if_neg h2, if_neg (by decide)]
      have h2b : ((x.1 : Int) == 1) = false := beq_eq_false_iff_ne.2 (by omega)
      have h2I : ¬ ((x.1 : Int) = 1) := by omega
      clear h hr hx hk h2 e0
      go_enter Tryd.func35, Tryd.ntmps35
      go_wp2_with (first | (go_at_call 44; refine hH.mono ?_; clear hH; rintro e w1 ⟨rfl, rfl⟩))
      go_ret2
      exact ⟨⟨_, rfl⟩, HH.out, Fz.refl _ _⟩
theorem dMove_no (h : Dk w D false a b c rs ss) (t f k : Int) : Calls Tryd.prog 35 #[cP D, I t, I f, I k] w fun e w' => e = .returned (.tuple #[I (-1), I 1]) ∧ w = w' := by
  obtain ⟨c0, c1, c2, c3⟩ := h.cells
  go_enter Tryd.func35, Tryd.ntmps35
  go_wp2
  go_ret2
  exact ⟨rfl, rfl⟩
theorem dEnd_no (h : Dk w D false a b c rs ss) : Calls Tryd.prog 36 #[cP D] w fun e w' => e = .returned (.tuple #[I (-1), I 0, I 1]) ∧ w = w' := by
  have hM := dMove_no h (-1) 0 2
  go_enter Tryd.func36, Tryd.ntmps36
  go_wp2_with (first | (go_at_call 35; refine hM.mono ?_; clear hM; rintro e w1 ⟨rfl, rfl⟩))
  go_ret3
  exact ⟨rfl, rfl⟩
end
end Go.Proofs.YthmecgfbapemjaaDoor
