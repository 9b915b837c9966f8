import Derived.Test.YthmecgfbapemjaaDoorDe
namespace Go.Proofs.YthmecgfbapemjaaDoor
open Go.RowKit Go.Shelf Go.Sort
set_option linter.unusedVariables false
set_option linter.unusedSimpArgs false

/-! ### Moves -/
theorem mv_32 : MvP 3 2 (fun _ => true) := fun w x hE => allowed_32 w hE x
theorem mv_20 : MvP 2 0 (fun _ => true) := fun w x hE => allowed_20 w hE x
theorem mv_12 : MvP 1 2 (fun b => b) := fun w x hE => allowed_12 w hE x
theorem mv_out (to : Nat) (hto : to = 1 ∨ to = 2 ∨ to = 3) : MvP 0 to (fun b => if to = 1 then b else true) := by
  rcases hto with rfl | rfl | rfl
  · exact fun w x hE => allowed_01 w hE x
  · exact fun w x hE => allowed_02 w hE x
  · exact fun w x hE => allowed_03 w hE x
section
variable {w w' : World} {B : Nat} {v u : Value} {rs : List Rw} {ss : List Sd}
theorem leave_any (h : Ck w B v u rs ss) (hE : EnvR w) (to : Nat) (hto : to = 1 ∨ to = 2 ∨ to = 3) : Calls Tryd.prog 33 #[cP B, I to] w fun e w' => e = .returned (.tuple #[I (leaI rs ss to), I (leaE rs ss to)]) ∧ Ck w' B v u rs (leaL rs ss to) ∧ Fz (Cb B v u) w w' := by
  have hN := none_any h
  have hR := Running_any h
  have HH : Hid (Ck w B v u rs ss ∧ EnvR w) := ⟨h, hE⟩
  rcases run_cases ss with ⟨e, _⟩ | ⟨k, n, e, hx⟩
  · have hE0 : leaE rs ss to = 180 := by rw [leaE, if_pos e]
    rw [leaI, leaL, hE0, if_neg (by decide), if_neg (by decide)]
    rw [e] at hR
    clear hE0 e h hE hto
    go_enter Tryd.func33, Tryd.ntmps33
    go_wp2_with (first | (go_at_call 32; refine hN.mono ?_; clear hN; rintro e w1 ⟨rfl, rfl⟩) | (go_at_call 13; refine hR.mono ?_; clear hR; rintro e w2 ⟨rfl, b2⟩; have H2 : Hid (Below w.heap.size w w2) := b2; clear b2))
    go_ret2
    exact ⟨rfl, HH.out.1.below H2.out, Fz.of_below H2.out⟩
  · have hk : k < rs.length := by have := (List.getElem?_eq_some_iff.1 hx).1; have := h.n; omega
    obtain ⟨r, hr⟩ : ∃ r, rs[k]? = some r := ⟨_, List.getElem?_eq_getElem hk⟩
    have hne : ¬ ((k : Int) = -1) := by omega
    have hneb : ((k : Int) == -1) = false := beq_eq_false_iff_ne.2 hne
    have hL : leaE rs ss to = if to = 1 ∧ r.2 = false then 180 else 0 := by rw [leaE, e, if_neg hne, rwA_at hr]
    rw [leaI, leaL, hL, e, sdA_at hx, Int.toNat_natCast]
    rw [e] at hR
    cases hal : (if to = 1 then r.2 else true) with
    | false =>
      have h1 : to = 1 := by
        by_cases h1 : to = 1
        · exact h1
        · rw [if_neg h1] at hal; cases hal
      rw [if_pos h1] at hal
      rw [if_pos (show to = 1 ∧ r.2 = false from ⟨h1, hal⟩), if_neg (by decide), if_neg (by decide)]
      have hS : ∀ W, Below w.heap.size w W → Calls Tryd.prog 31 #[cP B, I k, .agg #[I 0, I to]] W fun e w' => e = .returned (I 180) ∧ Below W.heap.size W w' := fun W hb => shift_bar (HH.out.1.below hb) hr hx to (HH.out.2.up hb) _ (mv_out to hto) (by show (if to = 1 then r.2 else true) = false; rw [if_pos h1]; exact hal)
      clear h hE hto h1 hal hL hr hx e hk
      go_enter Tryd.func33, Tryd.ntmps33
      go_wp2_with (first | (go_at_call 32; refine hN.mono ?_; clear hN; rintro e w1 ⟨rfl, rfl⟩) | (go_at_call 13; refine hR.mono ?_; clear hR; rintro e w2 ⟨rfl, b2⟩; have hS2 := hS w2 b2; have H2 : Hid (Below w.heap.size w w2) := b2; clear b2 hS) | (go_at_call 31; refine hS2.mono ?_; clear hS2; rintro e w3 ⟨rfl, b3⟩; have H3 : Hid (Below w.heap.size w w3) := H2.out.trans (b3.mono H2.out.size); clear b3))
      go_ret2
      exact ⟨rfl, HH.out.1.below H3.out, Fz.of_below H3.out⟩
    | true =>
      have h1 : ¬ (to = 1 ∧ r.2 = false) := by
        rintro ⟨h1, h2⟩
        rw [if_pos h1, h2] at hal; cases hal
      rw [if_neg h1, if_pos rfl, if_pos rfl]
      have hS : ∀ W, Below w.heap.size w W → Calls Tryd.prog 31 #[cP B, I k, .agg #[I 0, I to]] W fun e w' => e = .returned (I 0) ∧ Ck w' B v u rs (ss.set k (to, n)) ∧ Fz (Cb B v u) W w' := fun W hb => shift_ok (HH.out.1.below hb) hr hx to (HH.out.2.up hb) _ (mv_out to hto) hal
      clear h hE hto h1 hal hL hr hx e hk
      go_enter Tryd.func33, Tryd.ntmps33
      go_wp2_with (first | (go_at_call 32; refine hN.mono ?_; clear hN; rintro e w1 ⟨rfl, rfl⟩) | (go_at_call 13; refine hR.mono ?_; clear hR; rintro e w2 ⟨rfl, b2⟩; have hS2 := hS w2 b2; have H2 : Hid (Below w.heap.size w w2) := b2; clear b2 hS) | (go_at_call 31; refine hS2.mono ?_; clear hS2; rintro e w3 ⟨rfl, k3, f3⟩; have H3 : Hid (Ck w3 B v u rs (ss.set k (to, n)) ∧ Fz (Cb B v u) w w3) := ⟨k3, (Fz.of_below H2.out).trans f3⟩; clear k3 f3))
      go_ret2
      exact ⟨rfl, H3.out.1, H3.out.2⟩
theorem Preempt_any (h : Ck w B v u rs ss) (hE : EnvR w) : Calls Tryd.prog 17 #[cP B] w fun e w' => e = .returned (.tuple #[I (leaI rs ss 2), I (leaE rs ss 2)]) ∧ Ck w' B v u rs (leaL rs ss 2) ∧ Fz (Cb B v u) w w' := by
  have hL : Calls Tryd.prog 33 #[cP B, I 2] w _ := leave_any h hE 2 (by omega)
  clear h hE
  go_enter Tryd.func17, Tryd.ntmps17
  go_wp2_with (first | (go_at_call 33; refine hL.mono ?_; clear hL; rintro e w1 ⟨rfl, k1, f1⟩))
  go_ret2
  exact ⟨rfl, k1, f1⟩
theorem Again_any (h : Ck w B v u rs ss) (hE : EnvR w) : Calls Tryd.prog 18 #[cP B] w fun e w' => e = .returned (.tuple #[I (leaI rs ss 2), I (leaE rs ss 2)]) ∧ Ck w' B v u rs (leaL rs ss 2) ∧ Fz (Cb B v u) w w' := by
  have hL : Calls Tryd.prog 33 #[cP B, I 2] w _ := leave_any h hE 2 (by omega)
  clear h hE
  go_enter Tryd.func18, Tryd.ntmps18
  go_wp2_with (first | (go_at_call 33; refine hL.mono ?_; clear hL; rintro e w1 ⟨rfl, k1, f1⟩))
  go_ret2
  exact ⟨rfl, k1, f1⟩
theorem Wait_any (h : Ck w B v u rs ss) (hE : EnvR w) : Calls Tryd.prog 14 #[cP B] w fun e w' => e = .returned (.tuple #[I (leaI rs ss 1), I (leaE rs ss 1)]) ∧ Ck w' B v u rs (leaL rs ss 1) ∧ Fz (Cb B v u) w w' := by
  have hL : Calls Tryd.prog 33 #[cP B, I 1] w _ := leave_any h hE 1 (by omega)
  clear h hE
  go_enter Tryd.func14, Tryd.ntmps14
  go_wp2_with (first | (go_at_call 33; refine hL.mono ?_; clear hL; rintro e w1 ⟨rfl, k1, f1⟩))
  go_ret2
  exact ⟨rfl, k1, f1⟩
theorem Start_any (h : Ck w B v u rs ss) (hE : EnvR w) (t : Int) : Calls Tryd.prog 12 #[cP B, I t] w fun e w' => e = .returned (I (staE rs ss t)) ∧ Ck w' B v u rs (staL rs ss t) ∧ Fz (Cb B v u) w w' := by
  have hN := none_any h
  have hH := has_any h t
  have hR := Running_any h
  have HH : Hid (Ck w B v u rs ss ∧ EnvR w) := ⟨h, hE⟩
  unfold staL
  rcases has_cases h.n t with ⟨h0, _⟩ | ⟨k, r, x, rfl, hk, hr, hx⟩
  · have e0 : staE rs ss t = 2 := by rw [staE, h0]; rfl
    rw [e0, if_neg (by decide)]
    rw [h0] at hH
    clear e0 h hE h0
    go_enter Tryd.func12, Tryd.ntmps12
    go_wp2_with (first | (go_at_call 32; refine hN.mono ?_; clear hN; rintro e w1 ⟨rfl, rfl⟩) | (go_at_call 30; refine hH.mono ?_; clear hH; rintro e w1 ⟨rfl, rfl⟩))
    go_ret
    exact ⟨rfl, HH.out.1, Fz.refl _ _⟩
  · have e0 : staE rs ss k = if runI ss = -1 then (if x.1 = 2 then 0 else 180) else 181 := by rw [staE, hasB_at hk, if_pos rfl, sdA_at hx]
    rw [e0, sdA_at hx, Int.toNat_natCast]
    rw [hasB_at hk] at hH
    by_cases hr1 : runI ss = -1
    · rw [if_pos hr1]
      rw [hr1] at hR
      by_cases h2 : x.1 = 2
      · rw [if_pos h2, if_pos rfl]
        have hS : ∀ W, Below w.heap.size w W → Calls Tryd.prog 31 #[cP B, I k, .agg #[I 2, I 0]] W fun e w' => e = .returned (I 0) ∧ Ck w' B v u rs (ss.set k (0, x.2)) ∧ Fz (Cb B v u) W w' := fun W hb => by
          have := shift_ok (HH.out.1.below hb) hr hx 0 (HH.out.2.up hb) (fun _ => true) (by rw [h2]; exact mv_20) rfl
          rw [h2] at this
          exact this
        clear h hE h2 hr1 e0 hr hx hk
        go_enter Tryd.func12, Tryd.ntmps12
        go_wp2_with (first | (go_at_call 32; refine hN.mono ?_; clear hN; rintro e w1 ⟨rfl, rfl⟩) | (go_at_call 30; refine hH.mono ?_; clear hH; rintro e w1 ⟨rfl, rfl⟩) | (go_at_call 13; refine hR.mono ?_; clear hR; rintro e w2 ⟨rfl, b2⟩; have hS2 := hS w2 b2; have H2 : Hid (Below w.heap.size w w2) := b2; clear b2 hS) | (go_at_call 31; refine hS2.mono ?_; clear hS2; rintro e w3 ⟨rfl, k3, f3⟩; have H3 : Hid (Ck w3 B v u rs (ss.set k (0, x.2)) ∧ Fz (Cb B v u) w w3) := ⟨k3, (Fz.of_below H2.out).trans f3⟩; clear k3 f3))
        go_ret
        exact ⟨rfl, H3.out.1, H3.out.2⟩
      · rw [if_neg h2, if_neg (by decide)]
        have hS : ∀ W, Below w.heap.size w W → Calls Tryd.prog 31 #[cP B, I k, .agg #[I 2, I 0]] W fun e w' => e = .returned (I 180) ∧ Below W.heap.size W w' := fun W hb => shift_no (HH.out.1.below hb) hr hx 2 0 h2
        clear h hE h2 hr1 e0 hr hx hk
        go_enter Tryd.func12, Tryd.ntmps12
        go_wp2_with (first | (go_at_call 32; refine hN.mono ?_; clear hN; rintro e w1 ⟨rfl, rfl⟩) | (go_at_call 30; refine hH.mono ?_; clear hH; rintro e w1 ⟨rfl, rfl⟩) | (go_at_call 13; refine hR.mono ?_; clear hR; rintro e w2 ⟨rfl, b2⟩; have hS2 := hS w2 b2; have H2 : Hid (Below w.heap.size w w2) := b2; clear b2 hS) | (go_at_call 31; refine hS2.mono ?_; clear hS2; rintro e w3 ⟨rfl, b3⟩; have H3 : Hid (Below w.heap.size w w3) := H2.out.trans (b3.mono H2.out.size); clear b3))
        go_ret
        exact ⟨rfl, HH.out.1.below H3.out, Fz.of_below H3.out⟩
    · rw [if_neg hr1, if_neg (by decide)]
      have hb : (runI ss == -1) = false := beq_eq_false_iff_ne.2 hr1
      generalize runI ss = q at *
      clear h hE e0 hr hx hk
      go_enter Tryd.func12, Tryd.ntmps12
      go_wp2_with (first | (go_at_call 32; refine hN.mono ?_; clear hN; rintro e w1 ⟨rfl, rfl⟩) | (go_at_call 30; refine hH.mono ?_; clear hH; rintro e w1 ⟨rfl, rfl⟩) | (go_at_call 13; refine hR.mono ?_; clear hR; rintro e w2 ⟨rfl, b2⟩; have H2 : Hid (Below w.heap.size w w2) := b2; clear b2))
      go_ret
      exact ⟨rfl, HH.out.1.below H2.out, Fz.of_below H2.out⟩
theorem Release_any (h : Ck w B v u rs ss) (hK : OKs rs ss) (hE : EnvR w) (t : Int) : Calls Tryd.prog 16 #[cP B, I t] w fun e w' => e = .returned (I (relE rs ss t)) ∧ Ck w' B v u rs (relL rs ss t) ∧ Fz (Cb B v u) w w' := by
  have hN := none_any h
  have hH := has_any h t
  have HH : Hid (Ck w B v u rs ss ∧ EnvR w) := ⟨h, hE⟩
  unfold relL
  rcases has_cases h.n t with ⟨h0, _⟩ | ⟨k, r, x, rfl, hk, hr, hx⟩
  · have e0 : relE rs ss t = 2 := by rw [relE, h0]; rfl
    rw [e0, if_neg (by decide)]
    rw [h0] at hH
    clear e0 h hE h0
    go_enter Tryd.func16, Tryd.ntmps16
    go_wp2_with (first | (go_at_call 32; refine hN.mono ?_; clear hN; rintro e w1 ⟨rfl, rfl⟩) | (go_at_call 30; refine hH.mono ?_; clear hH; rintro e w1 ⟨rfl, rfl⟩))
    go_ret
    exact ⟨rfl, HH.out.1, Fz.refl _ _⟩
  · have e0 : relE rs ss k = if x.1 = 1 then 0 else 180 := by rw [relE, hasB_at hk, if_pos rfl, sdA_at hx]
    rw [e0, sdA_at hx, Int.toNat_natCast]
    rw [hasB_at hk] at hH
    by_cases h2 : x.1 = 1
    · rw [if_pos h2, if_pos rfl]
      have hext : r.2 = true := (hK.s k r x hr hx).2.2.2 h2
      have hS : Calls Tryd.prog 31 #[cP B, I k, .agg #[I 1, I 2]] w fun e w' => e = .returned (I 0) ∧ Ck w' B v u rs (ss.set k (2, x.2)) ∧ Fz (Cb B v u) w w' := by
        have := shift_ok HH.out.1 hr hx 2 HH.out.2 (fun b => b) (by rw [h2]; exact mv_12) hext
        rw [h2] at this
        exact this
      clear h hE h2 e0 hr hx hk hK hext
      go_enter Tryd.func16, Tryd.ntmps16
      go_wp2_with (first | (go_at_call 32; refine hN.mono ?_; clear hN; rintro e w1 ⟨rfl, rfl⟩) | (go_at_call 30; refine hH.mono ?_; clear hH; rintro e w1 ⟨rfl, rfl⟩) | (go_at_call 31; refine hS.mono ?_; clear hS; rintro e w3 ⟨rfl, k3, f3⟩))
      go_ret
      exact ⟨rfl, k3, f3⟩
    · rw [if_neg h2, if_neg (by decide)]
      have hS : Calls Tryd.prog 31 #[cP B, I k, .agg #[I 1, I 2]] w fun e w' => e = .returned (I 180) ∧ Below w.heap.size w w' := shift_no HH.out.1 hr hx 1 2 h2
      clear h hE h2 e0 hr hx hk hK
      go_enter Tryd.func16, Tryd.ntmps16
      go_wp2_with (first | (go_at_call 32; refine hN.mono ?_; clear hN; rintro e w1 ⟨rfl, rfl⟩) | (go_at_call 30; refine hH.mono ?_; clear hH; rintro e w1 ⟨rfl, rfl⟩) | (go_at_call 31; refine hS.mono ?_; clear hS; rintro e w3 ⟨rfl, b3⟩))
      go_ret
      exact ⟨rfl, HH.out.1.below b3, Fz.of_below b3⟩
end
end Go.Proofs.YthmecgfbapemjaaDoor
