import Derived.Test.YtidhjajobacnaaaGreatDoorKvl
namespace Go.Proofs.YtidhjajobacnaaaGreatDoor
open Go.RowKit Go.Sort
set_option linter.unusedVariables false

/-! ### ClassRoots -/
/-- A whole variable read where a guard lets it be. -/
theorem wpList_load_row_g {P : Program} {ops : Array Oper} {rest : List Oper} {o : Oper} {a : Act} {w : World} {Q : Exit → Act → World → Prop} (ty : TypeId) (x : Operand) (ho : o.op = .load ty x)
    (g : Nat) (hx : a.eval x = .pointer (some ⟨g, 0, none⟩)) (t : TypeId) (cs : Array Value) (fr : Nat × Nat) (d : TypeDesc) (hg : w.heap[g]? = some (.cells cs t fr))
    (hu : P.underlying ty = some d) (hd : (match d with | .struct _ | .array _ _ => true | _ => false) = true) (hi : (P.info? ty).map (·.size) = some cs.size) (hgd : Region.wanted o (yielded ops a.tmps) = true)
    (h : wpList P ops Q rest (a.put o.dst (.agg cs)) w) : wpList P ops Q (o :: rest) a w :=
  wpList_step fun K hK => by rw [if_pos hgd]; exact wp_load_row ty x ho g hx t cs fr d hg hu hd hi (hK _ _ h)
set_option maxHeartbeats 4000000 in
set_option maxRecDepth 100000 in
theorem roots_any (w : World) (c : Cf) (v : Vs) (h : CfAt w c v) (hl : LensOK c) (hE : EnvE w) : Calls Tryz.prog 4 #[.agg (cfC c v)] w fun e w' => Ans w true e w' := by
  have hi18 : (Tryz.prog.info? 33).map (·.size) = some (cfC c v).size := by rw [show (cfC c v).size = 18 from rfl]; kernel_rfl
  have hV0 := heap_alloc_new w (.cells (cfC c v) 33)
  have hbw := below_alloc w (.cells (cfC c v) 33)
  have kc := check_any _ c v (h.below hbw) hl (hE.below hbw)
  have f12 : ∀ h : 12 < (cfC c v).size, (cfC c v)[12] = .slice v.r.a v.r.n v.r.c := fun _ => rfl
  have hs18 : (cfC c v).size = 18 := rfl
  have kh := fun W (hW : Below w.heap.size w W) => heads_any W (hE.below hW)
  have kr := fun W (hW : Below w.heap.size w W) r => root_any W c v (h.below hW) r
  cases ho : allF c with
  | some r =>
    obtain ⟨cd, wd, ix⟩ := r
    have hcd := allF_code ho
    have hcd2 : (cd == 0) = false := by simpa using hcd
    rw [ho] at kc
    clear ho h kr
    generalize cfC c v = C at *
    go_enter Tryz.func4, Tryz.ntmps4
    go_wp2_with (first | (refine wpList_load_row rfl 33 _ rfl w.heap.size rfl 33 _ (0, 0) _ hV0 Tryz.underlying33 rfl hi18 ?_) | (go_at_call 7; refine kc.mono ?_; rintro e w1 ⟨he, hb1⟩; obtain rfl : e = .returned (.agg #[I cd, S wd, I ix]) := he; have hbw1 := hbw.trans (hb1.mono hbw.size)) | (go_at_call 8; refine (kh w1 hbw1).mono ?_; rintro e w2 ⟨rfl, hb2⟩))
    go_ret
    exact ⟨rfl, hbw1.trans (hb2.mono hbw1.size)⟩
  | none =>
    have hM := may_of ho
    rw [ho] at kc
    have HM : Hid (May c) := hM
    have HC : Hid (CfAt w c v) := h
    have HN : Hid (v.r.n = c.ress.length) := h.r.n
    have hcap : v.r.n ≤ v.r.c := h.r.c
    have hmax : v.r.c ≤ maxLen := h.r.m
    unfold maxLen at hmax
    have hV12 : ∀ W : World, W.heap[w.heap.size]? = some (.cells (cfC c v) 33 (0, 0)) → W.cell? ⟨w.heap.size, 12, none⟩ = some (.slice v.r.a v.r.n v.r.c) := fun W hW => by rw [cell_of_row W w.heap.size 12 _ _ (0, 0) hW]; rfl
    clear ho h hM
    generalize cfC c v = C at *
    replace f12 := f12 (by omega)
    go_enter Tryz.func4, Tryz.ntmps4
    go_wp2_with (first | (refine wpList_load_row rfl 33 _ rfl w.heap.size rfl 33 _ (0, 0) _ hV0 Tryz.underlying33 rfl hi18 ?_) | (go_at_call 7; refine kc.mono ?_; rintro e w1 ⟨he, hb1⟩; obtain rfl : e = .returned (.agg #[I 0, S [], I 0]) := he; have hbw1 := hbw.trans (hb1.mono hbw.size); have hV1 := (hb1.block _ (heap_lt hV0)).trans hV0))
    have hgr := heap_lt hV1
    clear kc hbw hb1 hV0
    go_loopw [3, 4] (fun iv _ wr => ∃ j : Nat, j ≤ v.r.n ∧ iv = .int .i64 j ∧ Hid (Below w1.heap.size w1 wr)) (fun iv _ _ => v.r.n - (intOf iv).toNat)
    case atStart => exact ⟨0, by omega, rfl, Below.refl _ _⟩
    case round =>
      obtain ⟨j, hj, rfl, HB⟩ := hrel
      have hB := HB.out
      have hbwr := hbw1.trans (hB.mono hbw1.size)
      have hVr := (hB.block _ (heap_lt hV1)).trans hV1
      have r12 := hV12 wr hVr
      by_cases hlt : j < v.r.n
      · have hlt' : (j : Int) < v.r.n := by omega
        obtain ⟨x, hx⟩ : ∃ x, c.ress[j]? = some x := ⟨_, List.getElem?_eq_getElem (by rw [← HN.out]; exact hlt)⟩
        obtain ⟨p, y, hp, hy, hyk, hlk, hns⟩ := may_root HM.out j x hx
        have k1 := kr wr hbwr j
        rw [hp] at k1
        have hpl : (p : Int) < v.r.n := by have := (List.getElem?_eq_some_iff.1 hy).1; have := HN.out; omega
        have hpn : ¬ v.r.n ≤ p := by omega
        have hp0 : ¬ (p : Int) < 0 := by omega
        have hyk2 : (y.kind == 2) = false := by simpa using hyk
        have HLK : Hid (x.kind = 2 → rootF c c.ress.length x.link = (p : Int)) := hlk
        have HNS : Hid (x.kind ≠ 2 → p = j) := hns
        have HX : Hid (c.ress[j]? = some x) := hx
        clear HB hp hlk hns hx hyk
        go_wp2_with (first | (refine wpList_load_row rfl 33 _ rfl w.heap.size rfl 33 _ (0, 0) _ hVr Tryz.underlying33 rfl hi18 ?_) | (go_at_call 9; refine k1.mono ?_; rintro e w5 ⟨rfl, hb5⟩; have hbw5 := hbwr.trans (hb5.mono hbwr.size); have hV5 := (hb5.block _ (heap_lt hVr)).trans hVr; have s12 := hV12 w5 hV5; obtain ⟨g, off, e5, hg5, a0, a1, a2⟩ := rs_at (HC.out.below hbw5) hy; rw [e5] at s12))
        have hB5 : Hid (Below w1.heap.size w1 w5) := hB.trans (hb5.mono hB.size)
        obtain ⟨g', off', e', hg', b0, b1, b2⟩ := rs_at (HC.out.below hbw5) HX.out
        rw [e5] at e'
        obtain ⟨rfl, rfl⟩ : g = g' ∧ off = off' := by cases e'; exact ⟨rfl, rfl⟩
        have q12 := cell_regrown s12
        have q1 := cell_regrown b1
        have q2 := cell_regrown b2
        clear hb5 hB hVr r12 k1 a0 a1 a2 b0 b1 b2 s12 e' e5 HX
        cases hk : x.kind == 2 with
        | true =>
          have hk2 : (x.kind != 2) = false := by simp [bne, hk]
          have hlk := HLK.out (by simpa using hk)
          have k2 : ∀ d os, Calls Tryz.prog 9 #[.agg C, I x.link] (grow (redrawn w5 d) os) fun e w'' => e = .returned (I (p : Int)) ∧ ∃ p : Regrown, w'' = grow (redrawn w5 p.d) p.os := fun d os => by
            have := kr _ (hbw5.trans ((below_regrown w5 d os).mono hbw5.size)) x.link
            rw [hlk] at this
            exact Calls.regrown_of this
          clear HLK HNS hlk kr
          refine wp_region_quiet_below (by kernel_rfl) (by kernel_rfl) ?_
          repeat (go_big_quiet_step (first | exact k2 _ _))
          refine wpQuiet_load_row rfl 33 _ rfl w.heap.size rfl 33 _ (0, 0) _ (heap_regrown hV5) Tryz.underlying33 rfl hi18 ?_
          quiet_step (fail)
          repeat (go_big_quiet_step (first | exact k2 _ _))
          refine wpQuiet_nil ?_
          intro _ hw'
          obtain ⟨⟨dq, osq⟩, hw''⟩ := hw'
          subst hw''
          go_wp2
          go_roundw
          case rel => exact ⟨j + 1, by omega, by go_num, hB5.out.trans ((below_regrown w5 dq osq).mono hB5.out.size)⟩
          case measure => simp [intOf]; omega
        | false =>
          have hk2 : (x.kind != 2) = true := by simp [bne, hk]
          obtain rfl := HNS.out (by simpa using hk)
          clear HLK HNS kr
          have k2 : True := trivial
          refine wp_region_quiet_below (by kernel_rfl) (by kernel_rfl) ?_
          repeat (go_big_quiet_step (first | exact k2 _ _))
          refine wpQuiet_nil ?_
          intro _ hw'
          obtain ⟨⟨dq, osq⟩, hw''⟩ := hw'
          subst hw''
          go_wp2
          go_roundw
          case rel => exact ⟨p + 1, by omega, by go_num, hB5.out.trans ((below_regrown w5 dq osq).mono hB5.out.size)⟩
          case measure => simp [intOf]; omega
      · obtain rfl : j = v.r.n := by omega
        have hlt' : ¬ ((v.r.n : Nat) : Int) < (v.r.n : Nat) := by omega
        have k1 := kr wr hbwr v.r.n
        rw [root_out c _ _ (by rw [HN.out]; simp [isId])] at k1
        have k2 := fun W hW => kr W hW (-1)
        rw [root_out c _ (-1) (by simp [isId])] at k2
        clear HB kr
        go_wp2_with (first | (refine wpList_load_row rfl 33 _ rfl w.heap.size rfl 33 _ (0, 0) _ hVr Tryz.underlying33 rfl hi18 ?_) | (go_at_call 9; refine k1.mono ?_; rintro e w5 ⟨rfl, hb5⟩; have hbw5 := hbwr.trans (hb5.mono hbwr.size); have hV5 := (hb5.block _ (heap_lt hVr)).trans hVr) | (refine wpList_load_row_g 33 _ rfl w.heap.size rfl 33 _ (0, 0) _ hV5 Tryz.underlying33 rfl hi18 (by kernel_rfl) ?_; simp only [Act.put, List.setIfInBounds_toArray, List.set_cons_succ, List.set_cons_zero]; go_wp2_with (first | (go_at_call 9; refine (k2 w5 hbw5).mono ?_; rintro e w6 ⟨rfl, hb6⟩; have hbw6 := hbw5.trans (hb6.mono hbw5.size)) | (go_at_call 8; refine (kh w6 hbw6).mono ?_; rintro e w7 ⟨rfl, hb7⟩))))
        go_ret
        exact ⟨rfl, hbw6.trans (hb7.mono hbw6.size)⟩
end Go.Proofs.YtidhjajobacnaaaGreatDoor
