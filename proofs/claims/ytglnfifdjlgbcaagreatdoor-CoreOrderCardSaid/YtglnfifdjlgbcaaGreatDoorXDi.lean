import Derived.Test.YtglnfifdjlgbcaaGreatDoorXDf
namespace Go.Proofs.YtglnfifdjlgbcaaGreatDoor.Tk
open Go.RowKit Go.Shelf Go.Sort
set_option linter.unusedVariables false
set_option linter.unusedSimpArgs false

/-! ### End, Activate -/
section
variable {w w' : World} {B : Nat} {v u : Value} {rs : List Rw} {ss : List Sd}
theorem leaE_run {k n : Nat} (e : runI ss = (k : Int)) (hx : ss[k]? = some (0, n)) (to : Nat) (h1 : to ≠ 1) : leaE rs ss to = 0 ∧ leaI rs ss to = k ∧ leaL rs ss to = ss.set k (to, n) := by
  have e0 : leaE rs ss to = 0 := by rw [leaE, e, if_neg (by omega), if_neg (fun h => h1 h.1)]
  refine ⟨e0, ?_, ?_⟩
  · rw [leaI, if_pos e0, e]
  · rw [leaL, if_pos e0, e, sdA_at hx, Int.toNat_natCast]
set_option maxRecDepth 100000 in
theorem End_run (h : Ck w B v u rs ss) (hE : EnvR w) {k n : Nat} (e : runI ss = (k : Int)) (hx : ss[k]? = some (0, n)) (hn : 1 ≤ n) (hn2 : n ≤ 255) (to : Nat) (hto : to = if n = 1 then 3 else 2) : Calls Tryz.prog 221 #[cP B] w fun e w' => e = .returned (.tuple #[I k, I to, I 0]) ∧ Ck w' B v u rs (ss.set k (to, n - 1)) ∧ Fz (Cb B v u) w w' := by
  have hR := Running_any h
  rw [e] at hR
  have hk : k < rs.length := by have := (List.getElem?_eq_some_iff.1 hx).1; have := h.n; omega
  have hA : ∀ W, Below w.heap.size w W → Calls Tryz.prog 166 #[cP B, I k] W fun e w' => e = .returned (I n) ∧ W = w' := fun W hb => by
    have := Active_any (h.below hb) (k : Int)
    rw [actN, if_pos (hasB_at hk), sdA_at hx] at this
    exact this
  obtain ⟨l1, l2, l3⟩ := leaE_run (rs := rs) e hx to (by split at hto <;> omega)
  have hL : ∀ W, Below w.heap.size w W → Calls Tryz.prog 266 #[cP B, I to] W fun e w' => e = .returned (.tuple #[I k, I 0]) ∧ Ck w' B v u rs (ss.set k (to, n)) ∧ Fz (Cb B v u) W w' := fun W hb => by
    have := leave_any (h.below hb) (hE.up hb) to (by split at hto <;> omega)
    rw [l1, l2, l3] at this
    exact this
  obtain ⟨r, hr⟩ : ∃ r, rs[k]? = some r := ⟨_, List.getElem?_eq_getElem hk⟩
  have hkS : k < ss.length := (List.getElem?_eq_some_iff.1 hx).1
  have hkI : (k : Int) < ss.length := by omega
  have HX : Hid (rs[k]? = some r ∧ (ss.set k (to, n))[k]? = some (to, n) ∧ (ss.set k (to, n)).length = ss.length) := ⟨hr, by rw [List.getElem?_set_self hkS], List.length_set ..⟩
  have HS : Hid ((ss.set k (to, n)).set k (to, n - 1) = ss.set k (to, n - 1)) := List.set_set ..
  have e9 : (n : Int) - 1 = ((n - 1 : Nat) : Int) := by omega
  have HE9 : Hid ((n : Int) - 1 = ((n - 1 : Nat) : Int)) := e9
  clear h hE l1 l2 l3 hr hk e e9 hx
  by_cases h1 : n = 1
  · subst h1
    rw [if_pos rfl] at hto
    subst hto
    go_enter Tryz.func221, Tryz.ntmps221
    go_upto_region 7 with (first
      | (go_at_call 42; refine hR.mono ?_; clear hR; rintro e w1 ⟨rfl, b1⟩; have hA1 := hA w1 b1; have hL1 : Calls Tryz.prog 266 #[cP B, I 3] w1 _ := hL w1 b1; have H1 : Hid (Below w.heap.size w w1) := b1; clear b1 hA hL)
      | (go_at_call 166; refine hA1.mono ?_; clear hA1; rintro e w2 ⟨rfl, rfl⟩)
      | (go_at_call 266; refine hL1.mono ?_; clear hL1; rintro e w3 ⟨rfl, k3, f3⟩; have H3 : Hid (Ck w3 B v u rs (ss.set k (3, 1)) ∧ Fz (Cb B v u) w w3) := ⟨k3, (Fz.of_below H1.out).trans f3⟩; clear k3 f3))
    obtain ⟨c0, c1, c2⟩ := H3.out.1.cells
    obtain ⟨g, c, g2, cc2, e1, e2, q1, q2, q3, q4, q5⟩ := H3.out.1.at HX.out.1 HX.out.2.1
    rw [HX.out.2.2] at e2
    subst e1 e2
    have HP : Hid (Ck (w3.setCell ⟨g2, k * 2 + 1, none⟩ (I 0)) B (.slice (some ⟨g, 0, none⟩) rs.length c) (.slice (some ⟨g2, 0, none⟩) ss.length cc2) rs (ss.set k (3, 0))) := by
      have hc := H3.out.1
      rw [← HX.out.2.2] at hc
      have := hc.setA HX.out.2.1 0
      rw [HX.out.2.2, HS.out] at this
      exact this
    have HF : Hid (Fz (Cb B (.slice (some ⟨g, 0, none⟩) rs.length c) (.slice (some ⟨g2, 0, none⟩) ss.length cc2)) w (w3.setCell ⟨g2, k * 2 + 1, none⟩ (I 0))) := H3.out.2.set (.inl (.inr (.inr rfl))) _ _
    clear H3 HX HS q1 q2 q3 c0 c1
    go_wp2
    go_ret3
    exact ⟨rfl, HP.out, HF.out⟩
  · rw [if_neg h1] at hto
    subst hto
    have h1b : ((n : Int) == 1) = false := beq_eq_false_iff_ne.2 (by omega)
    have h1I : ¬ ((n : Int) = 1) := by omega
    clear h1
    go_enter Tryz.func221, Tryz.ntmps221
    go_upto_region 7 with (first
      | (go_at_call 42; refine hR.mono ?_; clear hR; rintro e w1 ⟨rfl, b1⟩; have hA1 := hA w1 b1; have hL1 : Calls Tryz.prog 266 #[cP B, I 2] w1 _ := hL w1 b1; have H1 : Hid (Below w.heap.size w w1) := b1; clear b1 hA hL)
      | (go_at_call 166; refine hA1.mono ?_; clear hA1; rintro e w2 ⟨rfl, rfl⟩)
      | (go_at_call 266; refine hL1.mono ?_; clear hL1; rintro e w3 ⟨rfl, k3, f3⟩; have H3 : Hid (Ck w3 B v u rs (ss.set k (2, n)) ∧ Fz (Cb B v u) w w3) := ⟨k3, (Fz.of_below H1.out).trans f3⟩; clear k3 f3))
    obtain ⟨c0, c1, c2⟩ := H3.out.1.cells
    obtain ⟨g, c, g2, cc2, e1, e2, q1, q2, q3, q4, q5⟩ := H3.out.1.at HX.out.1 HX.out.2.1
    rw [HX.out.2.2] at e2
    subst e1 e2
    have HP : Hid (Ck (w3.setCell ⟨g2, k * 2 + 1, none⟩ (I ((n : Int) - 1))) B (.slice (some ⟨g, 0, none⟩) rs.length c) (.slice (some ⟨g2, 0, none⟩) ss.length cc2) rs (ss.set k (2, n - 1))) := by
      have hc := H3.out.1
      rw [← HX.out.2.2] at hc
      have := hc.setA HX.out.2.1 (n - 1)
      rw [HX.out.2.2, HS.out, ← HE9.out] at this
      exact this
    have HF : Hid (Fz (Cb B (.slice (some ⟨g, 0, none⟩) rs.length c) (.slice (some ⟨g2, 0, none⟩) ss.length cc2)) w (w3.setCell ⟨g2, k * 2 + 1, none⟩ (I ((n : Int) - 1)))) := H3.out.2.set (.inl (.inr (.inr rfl))) _ _
    clear H3 HX HS q1 q2 q3 c0 c1
    go_wp2
    go_ret3
    exact ⟨rfl, HP.out, HF.out⟩
theorem End_any (h : Ck w B v u rs ss) (hK : OKs rs ss) (hE : EnvR w) : Calls Tryz.prog 221 #[cP B] w fun e w' => e = .returned (.tuple #[I (runI ss), I (endS ss), I (endE ss)]) ∧ Ck w' B v u rs (endL ss) ∧ Fz (Cb B v u) w w' := by
  by_cases hr : runI ss = -1
  · rw [endS, endE, endL, if_pos hr, if_pos hr, if_pos hr]
    have hR := Running_any h
    rw [hr] at hR ⊢
    have HH : Hid (Ck w B v u rs ss) := h
    have hA : ∀ W, Below w.heap.size w W → Calls Tryz.prog 166 #[cP B, I (-1)] W fun e w' => e = .returned (I 0) ∧ W = w' := fun W hb => Active_any (h.below hb) (-1)
    have hL : ∀ W, Below w.heap.size w W → Calls Tryz.prog 266 #[cP B, I 2] W fun e w' => e = .returned (.tuple #[I (-1), I 180]) ∧ Ck w' B v u rs ss ∧ Fz (Cb B v u) W w' := fun W hb => by
      have := leave_any (h.below hb) (hE.up hb) 2 (by omega)
      have e0 : leaE rs ss 2 = 180 := by rw [leaE, if_pos hr]
      rw [leaI, leaL, e0, if_neg (by decide), if_neg (by decide)] at this
      exact this
    clear h hE hr hK
    go_enter Tryz.func221, Tryz.ntmps221
    go_wp2_with (first
      | (go_at_call 42; refine hR.mono ?_; clear hR; rintro e w1 ⟨rfl, b1⟩; have hA1 := hA w1 b1; have hL1 := hL w1 b1; have H1 : Hid (Below w.heap.size w w1) := b1; clear b1 hA hL)
      | (go_at_call 166; refine hA1.mono ?_; clear hA1; rintro e w2 ⟨rfl, rfl⟩)
      | (go_at_call 266; refine hL1.mono ?_; clear hL1; rintro e w3 ⟨rfl, k3, f3⟩; have H3 : Hid (Ck w3 B v u rs ss ∧ Fz (Cb B v u) w w3) := ⟨k3, (Fz.of_below H1.out).trans f3⟩; clear k3 f3))
    go_ret3
    exact ⟨rfl, H3.out.1, H3.out.2⟩
  · obtain ⟨k, n, r, e, hk, hx, hr2, hn⟩ := hK.runs hr
    have h2 := (hK.le hx).2
    have := End_run h hE e hx hn h2 (if n = 1 then 3 else 2) rfl
    rw [endE, endL, endS, if_neg hr, if_neg hr, if_neg hr, e, sdA_at hx, Int.toNat_natCast]
    exact this
set_option maxRecDepth 100000 in
theorem Activate_any (h : Ck w B v u rs ss) (hK : OKs rs ss) (hE : EnvR w) (t : Int) : Calls Tryz.prog 39 #[cP B, I t] w fun e w' => e = .returned (.tuple #[.bool (actB rs ss t), I (actS rs ss t)]) ∧ Ck w' B v u rs (actL rs ss t) ∧ Fz (Cb B v u) w w' := by
  have hH := has_any h t
  have HH : Hid (Ck w B v u rs ss) := h
  unfold actB actL
  rcases has_cases h.n t with ⟨h0, _⟩ | ⟨k, r, x, rfl, hk, hr, hx⟩
  · have e0 : actS rs ss t = 3 := by rw [actS, h0]; rfl
    rw [e0, if_neg (by decide), show (decide ((3 : Int) = 0) && decide ((sdA ss t).1 = 3)) = false by rfl]
    rw [h0] at hH
    clear e0 h hE h0 hK
    go_enter Tryz.func39, Tryz.ntmps39
    go_wp2_with (first | (go_at_call 114; refine hH.mono ?_; clear hH; rintro e w1 ⟨rfl, rfl⟩))
    go_ret2
    exact ⟨rfl, HH.out, Fz.refl _ _⟩
  · have e0 : actS rs ss k = if r.1 ≤ (x.2 : Int) then 4 else 0 := by rw [actS, hasB_at hk, if_pos rfl, sdA_at hx, rwA_at hr]
    rw [e0, sdA_at hx, Int.toNat_natCast]
    rw [hasB_at hk] at hH
    have hkI : (k : Int) < ss.length := by have := h.n; omega
    have hkR : (k : Int) < rs.length := by omega
    have h255 := (hK.le hx).2
    obtain ⟨c0, c1, c2⟩ := h.cells
    obtain ⟨g, c, g2, cc2, rfl, rfl, q1, q2, q3, q4, q5⟩ := h.at hr hx
    have c1' := cell_regrown c1
    have q1' := cell_regrown q1
    have q4' := cell_regrown q4
    by_cases hle : r.1 ≤ (x.2 : Int)
    · rw [if_pos hle, if_neg (by decide), show (decide ((4 : Int) = 0) && decide (x.1 = 3)) = false by rfl]
      have hleb : decide (r.1 ≤ (x.2 : Int)) = true := by simpa using hle
      clear e0 h hE hK hr hx hk
      go_enter Tryz.func39, Tryz.ntmps39
      go_wp2_with (first | (go_at_call 114; refine hH.mono ?_; clear hH; rintro e w1 ⟨rfl, rfl⟩))
      refine wp_region_quiet_below (by kernel_rfl) (by kernel_rfl) ?_
      repeat (go_big_quiet_step (first | fail))
      refine wpQuiet_nil ?_
      rintro _ ⟨⟨dq, osq⟩, rfl⟩
      dsimp only
      have HD : Hid (Below w.heap.size w (grow (redrawn w dq) osq)) := below_regrown w dq osq
      clear c1' q1' q4' q1 q2 q3 q4 q5 c0 c1 c2
      generalize grow (redrawn w dq) osq = w7 at *
      go_wp2
      go_ret2
      exact ⟨rfl, HH.out.below HD.out, Fz.of_below HD.out⟩
    · rw [if_neg hle, if_pos rfl, show (decide ((0 : Int) = 0) && decide (x.1 = 3)) = decide (x.1 = 3) by simp]
      have hleb : decide (r.1 ≤ (x.2 : Int)) = false := by simpa using hle
      have hkS : k < ss.length := (List.getElem?_eq_some_iff.1 hx).1
      have HX : Hid (rs[k]? = some r ∧ ss[k]? = some x ∧ (ss.set k (x.1, x.2 + 1))[k]? = some (x.1, x.2 + 1) ∧ (ss.set k (x.1, x.2 + 1)).length = ss.length) := ⟨hr, hx, by rw [List.getElem?_set_self hkS], List.length_set ..⟩
      have HSS : Hid ((ss.set k (x.1, x.2 + 1)).set k (2, x.2 + 1) = ss.set k (2, x.2 + 1)) := List.set_set ..
      have HE : Hid (EnvR w) := hE
      have hwr : IntKind.i64.wrap ((x.2 : Int) + 1) = (x.2 : Int) + 1 := by rw [IntKind.wrap_i64]; omega
      clear e0 h hE hK hr hx hk hkS
      go_enter Tryz.func39, Tryz.ntmps39
      go_wp2_with (first | (go_at_call 114; refine hH.mono ?_; clear hH; rintro e w1 ⟨rfl, rfl⟩))
      refine wp_region_quiet_below (by kernel_rfl) (by kernel_rfl) ?_
      repeat (go_big_quiet_step (first | fail))
      refine wpQuiet_nil ?_
      rintro _ ⟨⟨dq, osq⟩, rfl⟩
      dsimp only
      have HD : Hid (Below w.heap.size w (grow (redrawn w dq) osq)) := below_regrown w dq osq
      clear c1' q1' q4' q1 q2 q3 q4 q5 c0 c1 c2
      generalize grow (redrawn w dq) osq = w7 at *
      have K7 := HH.out.below HD.out
      obtain ⟨g', c', g2', cc2', e1, e2, q1, q2, q3, q4, q5⟩ := K7.at HX.out.1 HX.out.2.1
      cases e1
      cases e2
      have HP : Hid (Ck (w7.setCell ⟨g2, k * 2 + 1, none⟩ (I ((x.2 : Int) + 1))) B (.slice (some ⟨g, 0, none⟩) rs.length c) (.slice (some ⟨g2, 0, none⟩) ss.length cc2) rs (ss.set k (x.1, x.2 + 1)) ∧ EnvR (w7.setCell ⟨g2, k * 2 + 1, none⟩ (I ((x.2 : Int) + 1)))) := by
        exact ⟨K7.setA HX.out.2.1 (x.2 + 1), K7.env (HE.out.up HD.out) ((Fz.refl _ w7).set (.inl (.inr (.inr rfl))) _ _)⟩
      have HF : Hid (Fz (Cb B (.slice (some ⟨g, 0, none⟩) rs.length c) (.slice (some ⟨g2, 0, none⟩) ss.length cc2)) w (w7.setCell ⟨g2, k * 2 + 1, none⟩ (I ((x.2 : Int) + 1)))) := (Fz.of_below HD.out).set (.inl (.inr (.inr rfl))) _ _
      clear K7 HD
      by_cases h3 : x.1 = 3
      · have H3 : Hid (x.1 = 3) := h3
        have hS : Calls Tryz.prog 115 #[cP B, I k, .agg #[I 3, I 2]] (w7.setCell ⟨g2, k * 2 + 1, none⟩ (I ((x.2 : Int) + 1))) fun e w' => e = .returned (I 0) ∧ Ck w' B (.slice (some ⟨g, 0, none⟩) rs.length c) (.slice (some ⟨g2, 0, none⟩) ss.length cc2) rs (ss.set k (2, x.2 + 1)) ∧ Fz (Cb B (.slice (some ⟨g, 0, none⟩) rs.length c) (.slice (some ⟨g2, 0, none⟩) ss.length cc2)) (w7.setCell ⟨g2, k * 2 + 1, none⟩ (I ((x.2 : Int) + 1))) w' := by
          have := shift_ok HP.out.1 HX.out.1 HX.out.2.2.1 2 HP.out.2 (fun _ => true) (by rw [show (x.1, x.2 + 1).1 = 3 from h3]; exact mv_32) rfl
          rw [show (x.1, x.2 + 1).1 = 3 from h3, List.set_set] at this
          exact this
        clear h3 HP HX HSS HH HE
        go_wp2_with (first | (go_at_call 115; refine hS.mono ?_; clear hS; rintro e w8 ⟨rfl, k8, f8⟩))
        go_ret2
        exact ⟨rfl, k8, HF.out.trans f8⟩
      · have H3 : Hid (¬ x.1 = 3) := h3
        have hS : Calls Tryz.prog 115 #[cP B, I k, .agg #[I 3, I 2]] (w7.setCell ⟨g2, k * 2 + 1, none⟩ (I ((x.2 : Int) + 1))) fun e w' => e = .returned (I 180) ∧ Below (w7.setCell ⟨g2, k * 2 + 1, none⟩ (I ((x.2 : Int) + 1))).heap.size (w7.setCell ⟨g2, k * 2 + 1, none⟩ (I ((x.2 : Int) + 1))) w' := shift_no HP.out.1 HX.out.1 HX.out.2.2.1 3 2 h3
        clear h3 HX HSS HH HE
        go_wp2_with (first | (go_at_call 115; refine hS.mono ?_; clear hS; rintro e w8 ⟨rfl, b8⟩))
        go_ret2
        exact ⟨rfl, HP.out.1.below b8, HF.out.trans (Fz.of_below b8)⟩
end
end Go.Proofs.YtglnfifdjlgbcaaGreatDoor.Tk

namespace Go.Proofs.YtglnfifdjlgbcaaGreatDoor.Tk
open Go.RowKit Go.Shelf Go.Sort
set_option linter.unusedVariables false
set_option linter.unusedSimpArgs false

/-! ### Rows that are made and copied -/
theorem rinfo : (Tryz.prog.info? 167).map (fun i => (i.zero, i.size, i.bytes)) = some (some (.agg #[.int .i64 0, .bool false]), 2, 16) := by kernel_rfl
theorem sinfo : (Tryz.prog.info? 202).map (fun i => (i.zero, i.size, i.bytes)) = some (some (.agg #[.int .i64 0, .int .i64 0]), 2, 16) := by kernel_rfl
theorem fz_none {w w' : World} (h : w.grownBy w' none) (M : Nat → Prop) : Fz M w w' := ⟨h.os, h.tape, h.output, h.size, fun b hb _ => h.block b hb (by simp)⟩
theorem own_base {w : World} {b b' e k n : Nat} {v : Value} {xs : List Value} (h : w.ownsRow b e k v n xs) (hb : b' ≤ b) : w.ownsRow b' e k v n xs := by
  obtain ⟨hl, h0 | ⟨g, cap, cur, hv, hb1, hh, rr⟩⟩ := h
  · exact ⟨hl, .inl h0⟩
  · exact ⟨hl, .inr ⟨g, cap, cur, hv, by omega, hh, rr⟩⟩
/-- a row that can be read -/
def Src (w : World) (k : Nat) (v : Value) (n : Nat) (ys : List Value) : Prop := ys.length = n * k ∧ ((∃ a c, v = .slice a 0 c ∧ n = 0) ∨ ∃ g off c, v = .slice (some ⟨g, off, none⟩) n c ∧ g < w.heap.size ∧ ∀ (j : Nat) (y : Value), ys[j]? = some y → w.cell? ⟨g, off + j, none⟩ = some y)
theorem Src.own {w : World} {b e k n : Nat} {v : Value} {ys : List Value} (h : w.ownsRow b e k v n ys) : Src w k v n ys := by
  refine ⟨h.1, ?_⟩
  rcases h.2 with ⟨h1, h0⟩ | ⟨g, cap, cur, h1, _⟩
  · exact .inl ⟨none, 0, h1, h0⟩
  · subst h1
    refine .inr ⟨g, 0, cap, rfl, (h.lt g rfl).2, fun j y hy => ?_⟩
    have hj : j < n * k := by have := (List.getElem?_eq_some_iff.1 hy).1; have := h.1; omega
    rw [Nat.zero_add, h.cellAt j hj]
    exact hy
theorem Src.up {w w' : World} {k n : Nat} {v : Value} {ys : List Value} (h : Src w k v n ys) (hb : Below w.heap.size w w') : Src w' k v n ys := by
  refine ⟨h.1, ?_⟩
  rcases h.2 with h1 | ⟨g, off, c, e, hg, hc⟩
  · exact .inl h1
  · exact .inr ⟨g, off, c, e, Nat.lt_of_lt_of_le hg hb.size, fun j y hy => (World.cell?_of_block (hb.block g hg)).trans (hc j y hy)⟩
theorem Src.sl {w : World} {k n : Nat} {v : Value} {ys : List Value} (h : Src w k v n ys) : ∃ a c, v = .slice a n c := by
  rcases h.2 with ⟨a, c, h1, h0⟩ | ⟨g, off, c, e, _⟩
  · exact ⟨a, c, by rw [h0]; exact h1⟩
  · exact ⟨_, _, e⟩
theorem Src.at {w : World} {v : Value} {rs : List Rw} (h : Src w 2 v rs.length (flR rs)) {k : Nat} {r : Rw} (hr : rs[k]? = some r) : ∃ g off c, v = .slice (some ⟨g, off, none⟩) rs.length c ∧ w.cell? ⟨g, off + k * 2, none⟩ = some (I r.1) ∧ w.cell? ⟨g, off + k * 2 + 1, none⟩ = some (.bool r.2) := by
  have hk : k < rs.length := (List.getElem?_eq_some_iff.1 hr).1
  obtain ⟨e1, e2⟩ := flR_at hr
  rcases h.2 with ⟨a, c, h1, h0⟩ | ⟨g, off, c, e, hg, hc⟩
  · omega
  · exact ⟨g, off, c, e, hc _ _ e1, hc _ _ e2⟩
/-- a store over all of a row that is one's own -/
theorem own_over {P : Program} {w : World} {b e k g n cap : Nat} {xs vs : List Value} (h : w.ownsRow b e k (.slice (some ⟨g, 0, none⟩) n cap) n xs) (hl : vs.length = n * k) (h1 : ∀ v ∈ vs, v.oneCell' = true) :
    ∃ w', (storeCells ⟨g, 0, none⟩ vs 0).run P w = .ok () w' ∧ w'.ownsRow b e k (.slice (some ⟨g, 0, none⟩) n cap) n vs ∧ Fz (fun x => x = g) w w' := by
  rcases h.2 with ⟨h', _⟩ | ⟨g', cap', cur, h', hb, hg, hnc, hcm, hcs, htake⟩
  · simp at h'
  · simp only [Value.slice.injEq, Option.some.injEq, Addr.mk.injEq, and_true, true_and] at h'
    obtain ⟨rfl, rfl⟩ := h'
    have hle : n * k ≤ cap * k := Nat.mul_le_mul_right _ hnc
    have hr := run_storeCells_at P g 0 e vs 0 cur w hg (by rw [hl, hcs]; omega) h1
    refine ⟨_, hr, ⟨hl, .inr ⟨g, cap, _, rfl, hb, setRow_heap w g cur _ e _ hg, hnc, hcm, ?_, ?_⟩⟩, ⟨rfl, rfl, rfl, by simp [World.setRow], fun i _ hi => setRow_other w g i _ hi⟩⟩
    · simp only [List.size_toArray, List.length_append, List.length_take, List.length_drop, Array.length_toList]
      rw [hl, hcs]; omega
    · simp only [Nat.add_zero, List.take_zero, List.nil_append]
      rw [← hl]
      exact List.take_left
theorem run_copy_src {P : Program} {w : World} {b e k g n cap : Nat} {v : Value} {xs ys : List Value} (dT ty : TypeId) (hu : P.underlying dT = some (.slice e)) (hs : (P.info? e).map (·.size) = some k)
    (h : w.ownsRow b e k (.slice (some ⟨g, 0, none⟩) n cap) n xs) (hv : Src w k v n ys) (h1 : ∀ v ∈ ys, v.oneCell' = true) :
    ∃ w', (Builtin.copy_ #[dT, dT] ty #[.slice (some ⟨g, 0, none⟩) n cap, v]).run P w = .ok (goInt n) w' ∧ w'.ownsRow b e k (.slice (some ⟨g, 0, none⟩) n cap) n ys ∧ Fz (fun x => x = g) w w' := by
  obtain ⟨w', hst, ho, hf⟩ := own_over (P := P) h hv.1 h1
  refine ⟨w', ?_, ho, hf⟩
  cases hq : P.info? e with
  | none => simp [hq] at hs
  | some i =>
    have hi : i.size = k := by simpa [hq] using hs
    rcases hv.2 with ⟨av, cv, rfl, rfl⟩ | ⟨gv, off, capv, rfl, hgv, hcv⟩
    · have hy : ys = [] := List.eq_nil_of_length_eq_zero (by have := hv.1; simpa using this)
      subst hy
      have e1 : w' = w := by simp [storeCells] at hst; exact hst.symm
      subst e1
      cases av with
      | none => simp [Builtin.copy_, run_underlying hu, Builtin.lenOf, Builtin.firstCells, sizeOf, typeInfo, hq, storeCells]
      | some ad =>
        have hl0 : (loadCells ad 0).run P w' = .ok #[] w' := run_loadCells_list (P := P) w' ad [] (fun j y hy => by simp at hy)
        simp [Builtin.copy_, run_underlying hu, Builtin.lenOf, Builtin.firstCells, sizeOf, typeInfo, hq, storeCells, hl0]
    · have hl := run_loadCells_list (P := P) w ⟨gv, off, none⟩ ys (fun j y hy => by rw [addr_add]; exact hcv j y hy)
      rw [hv.1] at hl
      simp [Builtin.copy_, run_underlying hu, Builtin.lenOf, Builtin.firstCells, sizeOf, typeInfo, hq, hi, hl, hst]
set_option maxRecDepth 100000 in
theorem copiedR_any {w : World} {v : Value} {rs : List Rw} (hl : rs.length ≤ 256) (h : Src w 2 v rs.length (flR rs)) : Calls Tryz.prog 105 #[v] w fun e w' => e = .returned (.slice (some ⟨w.heap.size, 0, none⟩) rs.length rs.length) ∧ w'.ownsRow w.heap.size 167 2 (.slice (some ⟨w.heap.size, 0, none⟩) rs.length rs.length) rs.length (flR rs) ∧ Below w.heap.size w w' := by
  obtain ⟨i0, hi0, hz0, hz1, hz2⟩ := info_parts rinfo
  obtain ⟨w1, hmk, ho1, hg1⟩ := run_make_full (P := Tryz.prog) w w.heap.size 86 167 i0 _ 2 Tryz.underlying86 hi0 hz0 hz1 .i64 .i64 rs.length (by rw [hz2]; omega) (by unfold maxLen; omega) (Nat.le_refl _)
  have hsz : (Tryz.prog.info? 167).map (·.size) = some 2 := by rw [hi0]; simp [hz1]
  have b1 : Below w.heap.size w w1 := ⟨hg1.os, hg1.tape, hg1.output, hg1.size, fun i hi => hg1.block i hi (by simp)⟩
  have h2 := h.up b1
  obtain ⟨a, c, rfl⟩ := h.sl
  obtain ⟨w2, hcp, ho2, hf2⟩ := run_copy_src (P := Tryz.prog) 86 3 Tryz.underlying86 hsz ho1 h2 (flR_one rs)
  have b2 := b1.trans (hf2.below b1.size (by rintro x rfl; exact Nat.le_refl _))
  have HO : Hid (w2.ownsRow w.heap.size 167 2 (.slice (some ⟨w.heap.size, 0, none⟩) rs.length rs.length) rs.length (flR rs) ∧ Below w.heap.size w w2) := ⟨ho2, b2⟩
  clear ho1 hg1 h2 b1 h ho2 hf2 b2
  generalize rs.length = n at *
  go_enter Tryz.func105, Tryz.ntmps105
  go_wp2
  go_ret
  exact ⟨rfl, HO.out.1, HO.out.2⟩
set_option maxRecDepth 100000 in
theorem copiedS_any {w : World} {v : Value} {ss : List Sd} (hl : ss.length ≤ 256) (h : Src w 2 v ss.length (flS ss)) : Calls Tryz.prog 180 #[v] w fun e w' => e = .returned (.slice (some ⟨w.heap.size, 0, none⟩) ss.length ss.length) ∧ w'.ownsRow w.heap.size 202 2 (.slice (some ⟨w.heap.size, 0, none⟩) ss.length ss.length) ss.length (flS ss) ∧ Below w.heap.size w w' := by
  obtain ⟨i0, hi0, hz0, hz1, hz2⟩ := info_parts sinfo
  obtain ⟨w1, hmk, ho1, hg1⟩ := run_make_full (P := Tryz.prog) w w.heap.size 178 202 i0 _ 2 Tryz.underlying178 hi0 hz0 hz1 .i64 .i64 ss.length (by rw [hz2]; omega) (by unfold maxLen; omega) (Nat.le_refl _)
  have hsz : (Tryz.prog.info? 202).map (·.size) = some 2 := by rw [hi0]; simp [hz1]
  have b1 : Below w.heap.size w w1 := ⟨hg1.os, hg1.tape, hg1.output, hg1.size, fun i hi => hg1.block i hi (by simp)⟩
  have h2 := h.up b1
  obtain ⟨a, c, rfl⟩ := h.sl
  obtain ⟨w2, hcp, ho2, hf2⟩ := run_copy_src (P := Tryz.prog) 178 3 Tryz.underlying178 hsz ho1 h2 (flS_one ss)
  have b2 := b1.trans (hf2.below b1.size (by rintro x rfl; exact Nat.le_refl _))
  have HO : Hid (w2.ownsRow w.heap.size 202 2 (.slice (some ⟨w.heap.size, 0, none⟩) ss.length ss.length) ss.length (flS ss) ∧ Below w.heap.size w w2) := ⟨ho2, b2⟩
  clear ho1 hg1 h2 b1 h ho2 hf2 b2
  generalize ss.length = n at *
  go_enter Tryz.func180, Tryz.ntmps180
  go_wp2
  go_ret
  exact ⟨rfl, HO.out.1, HO.out.2⟩
theorem mayBe_any (w : World) (x : Rw) : Calls Tryz.prog 104 #[.agg #[I x.1, .bool x.2]] w fun e w' => e = .returned (.bool (mayR x)) ∧ Below w.heap.size w w' := by
  have hb := fun o => below_alloc w o
  obtain ⟨l, b⟩ := x
  unfold mayR
  dsimp only
  cases b with
  | true =>
    rw [if_pos rfl]
    go_enter Tryz.func104, Tryz.ntmps104
    go_wp2
    go_ret
    exact ⟨rfl, hb _⟩
  | false =>
    rw [if_neg (by decide)]
    by_cases h0 : 1 ≤ l
    · have h0b : decide (1 ≤ l) = true := by simpa using h0
      rw [h0b, Bool.true_and]
      go_enter Tryz.func104, Tryz.ntmps104
      go_wp2
      go_ret
      exact ⟨rfl, hb _⟩
    · have h0b : decide (1 ≤ l) = false := by simpa using h0
      rw [h0b, Bool.false_and]
      go_enter Tryz.func104, Tryz.ntmps104
      go_wp2
      go_ret
      exact ⟨rfl, hb _⟩
end Go.Proofs.YtglnfifdjlgbcaaGreatDoor.Tk

namespace Go.Proofs.YtglnfifdjlgbcaaGreatDoor.Tk
open Go.RowKit Go.Shelf Go.Sort
set_option linter.unusedVariables false
set_option linter.unusedSimpArgs false

/-! ### Reset, New, Copy -/
def mixS (k : Nat) (ss : List Sd) : List Sd := List.replicate k (3, 0) ++ ss.drop k
theorem mixS_zero (ss : List Sd) : mixS 0 ss = ss := by simp [mixS]
theorem mixS_len {k : Nat} {ss : List Sd} (h : k ≤ ss.length) : (mixS k ss).length = ss.length := by simp [mixS]; omega
theorem mixS_at {k : Nat} {ss : List Sd} : (mixS k ss)[k]? = ss[k]? := by
  unfold mixS
  rw [List.getElem?_append_right (by simp), List.length_replicate, Nat.sub_self, List.getElem?_drop, Nat.add_zero]
theorem mixS_all (ss : List Sd) : mixS ss.length ss = rstL ss.length := by simp [mixS, rstL]
theorem mixS_succ {k : Nat} {ss : List Sd} (h : k < ss.length) : (mixS k ss).set k (3, 0) = mixS (k + 1) ss := by
  unfold mixS
  rw [List.set_append, if_neg (by simp), List.length_replicate, Nat.sub_self, List.drop_eq_getElem_cons h, List.set_cons_zero, List.replicate_succ', List.append_assoc]
  rfl
section
variable {w w' : World} {B : Nat} {v u : Value} {rs : List Rw} {ss : List Sd}
theorem row_set {w : World} {b g n c k : Nat} {ss : List Sd} (h : w.ownsRow b 202 2 (.slice (some ⟨g, 0, none⟩) n c) n (flS ss)) (y : Sd) : ((w.setCell ⟨g, k * 2, none⟩ (I y.1)).setCell ⟨g, k * 2 + 1, none⟩ (I y.2)).ownsRow b 202 2 (.slice (some ⟨g, 0, none⟩) n c) n (flS (ss.set k y)) := by
  rw [flS_set]
  exact (((h.stored (k * 2) (I y.1)).1).stored (k * 2 + 1) (I y.2)).1
theorem fz_set2 (w : World) (g i j : Nat) (u v : Value) : Fz (fun b => b = g) w ((w.setCell ⟨g, i, none⟩ u).setCell ⟨g, j, none⟩ v) := ((Fz.refl (fun b => b = g) w).set (.inl rfl) i u).set (.inl rfl) j v
theorem Ck.setB {g c : Nat} (h : Ck w B v (.slice (some ⟨g, 0, none⟩) ss.length c) rs ss) (k : Nat) (y : Sd) : Ck ((w.setCell ⟨g, k * 2, none⟩ (I y.1)).setCell ⟨g, k * 2 + 1, none⟩ (I y.2)) B v (.slice (some ⟨g, 0, none⟩) ss.length c) rs (ss.set k y) :=
  h.put (fz_set2 w g _ _ _ _) (List.length_set ..) (row_set h.q y)
set_option maxHeartbeats 2000000 in
set_option maxRecDepth 100000 in
theorem Reset_any (h : Ck w B v u rs ss) : Calls Tryz.prog 89 #[cP B] w fun e w' => e = .returned (.tuple #[]) ∧ Ck w' B v u rs (rstL rs.length) ∧ Fz (Cb B v u) w w' := by
  have hN := none_any h
  have hm : ss.length ≤ 256 := by have := h.n; have := h.m; omega
  have HN : Hid (ss.length = rs.length) := h.n
  have HI : Hid (Ck w B v u rs (mixS 0 ss) ∧ Fz (Cb B v u) w w) := ⟨by rw [mixS_zero]; exact h, Fz.refl _ _⟩
  obtain ⟨c0, c1, c2⟩ := h.cells
  obtain ⟨a, cc, rfl⟩ := own_sl h.q
  clear h
  go_enter Tryz.func89, Tryz.ntmps89
  go_wp2_with (first | (go_at_call 118; refine hN.mono ?_; clear hN; rintro e w1 ⟨rfl, rfl⟩))
  go_loopw [2, 10] (fun _ v10 wr => ∃ k : Nat, k ≤ ss.length ∧ v10 = I k ∧ Hid (Ck wr B v (.slice a ss.length cc) rs (mixS k ss) ∧ Fz (Cb B v (.slice a ss.length cc)) w wr)) (fun _ v10 _ => ss.length - (intOf v10).toNat)
  case atStart => exact ⟨0, by omega, rfl, HI.out⟩
  case round =>
    clear HI c0 c1 c2
    obtain ⟨k, hk, rfl, HJ⟩ := hrel
    by_cases hlt : k < ss.length
    · have hltI : (k : Int) < ss.length := by omega
      obtain ⟨c0, c1, c2⟩ := HJ.out.1.cells
      obtain ⟨x, hx⟩ : ∃ x, (mixS k ss)[k]? = some x := ⟨_, mixS_at.trans (List.getElem?_eq_getElem hlt)⟩
      obtain ⟨r, hr⟩ : ∃ r, rs[k]? = some r := ⟨_, List.getElem?_eq_getElem (by have := HN.out; omega)⟩
      obtain ⟨g, c, g2, cc2, e1, e2, -, -, q3, q4, q5⟩ := HJ.out.1.at hr hx
      rw [mixS_len hk] at e2
      cases e2
      have q6 : (wr.setCell ⟨g2, k * 2, none⟩ (I 3)).cell? ⟨g2, k * 2 + 1, none⟩ = some (I x.2) := cell_set_off q4 (by omega)
      have H2 : Hid (Ck ((wr.setCell ⟨g2, k * 2, none⟩ (I 3)).setCell ⟨g2, k * 2 + 1, none⟩ (I 0)) B v (.slice (some ⟨g2, 0, none⟩) ss.length cc) rs (mixS (k + 1) ss) ∧ Fz (Cb B v (.slice (some ⟨g2, 0, none⟩) ss.length cc)) w ((wr.setCell ⟨g2, k * 2, none⟩ (I 3)).setCell ⟨g2, k * 2 + 1, none⟩ (I 0))) := by
        refine ⟨?_, HJ.out.2.trans ((fz_set2 wr g2 _ _ _ _).mono (by rintro b rfl; exact .inr (.inr rfl)))⟩
        have h1 := HJ.out.1
        rw [← mixS_len hk] at h1
        have h2 := h1.setB k (3, 0)
        rw [mixS_succ hlt, mixS_len hk] at h2
        exact h2
      clear HJ hx hr
      go_wp2
      go_roundw
      case rel => exact ⟨k + 1, by omega, by go_num, H2.out⟩
      case measure => simp [intOf]; omega
    · obtain rfl : k = ss.length := by omega
      have hge : ¬ ((ss.length : Int) < ss.length) := by omega
      have H9 := HJ.out
      rw [mixS_all, HN.out] at H9
      have H9' : Hid (Ck wr B v (.slice a ss.length cc) rs (rstL rs.length) ∧ Fz (Cb B v (.slice a ss.length cc)) w wr) := by rw [HN.out]; exact H9
      clear HJ H9
      go_wp2
      refine bodyPost_end (v := .tuple #[]) (by simp [results, Tryz.results89, go_sem]) rfl ?_
      exact ⟨rfl, H9'.out.1, H9'.out.2⟩
end
end Go.Proofs.YtglnfifdjlgbcaaGreatDoor.Tk

