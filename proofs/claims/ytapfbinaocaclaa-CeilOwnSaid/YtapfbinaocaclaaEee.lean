import Derived.Test.YtapfbinaocaclaaEed
namespace Go.Proofs.Ytapfbinaocaclaa
open Go.RowKit Go.Sort
set_option linter.unusedVariables false
set_option linter.unusedSimpArgs false

/-! ### The document's Check -/
theorem taken_int (c : Cf) (l : List Int) : l.length = (takenL c l).length + intN c l := by
  unfold takenL intN
  induction l with
  | nil => rfl
  | cons x r ih =>
    rw [List.filter_cons, List.filter_cons, List.length_cons]
    cases h : rkind c x == 3 with
    | true =>
      have h2 : (rkind c x != 3) = false := by simp only [bne, h]; rfl
      rw [h2, if_neg (by decide), if_pos rfl, List.length_cons]
      omega
    | false =>
      have h2 : (rkind c x != 3) = true := by simp only [bne, h]; rfl
      rw [h2, if_pos rfl, if_neg (by decide), List.length_cons]
      omega
theorem fitU_task (c : Cf) (l : List Int) : fitU c false l = decide (intN c l ≤ 1) := by
  have := taken_int c l
  unfold fitU
  refine decide_eq_decide.2 ?_
  simp only [Bool.false_eq_true, if_false]
  omega
theorem fitU_isr (c : Cf) (l : List Int) : fitU c true l = l.all (fun y => !(rkind c y == 3)) := by
  have h := taken_int c l
  have e : fitU c true l = decide (intN c l = 0) := by
    unfold fitU
    refine decide_eq_decide.2 ?_
    simp only [if_true]
    omega
  rw [e]
  unfold intN
  clear h e
  induction l with
  | nil => rfl
  | cons x r ih =>
    rw [List.all_cons, ← ih, List.filter_cons]
    cases h : rkind c x == 3 with
    | true => rw [if_pos rfl, List.length_cons]; simp
    | false => rw [if_neg (by decide)]; simp
theorem intN_le (c : Cf) (l : List Int) : intN c l ≤ l.length := by
  have := taken_int c l
  omega
set_option maxHeartbeats 16000000 in
set_option maxRecDepth 100000 in
theorem rcheck_any (w : World) (c : Cf) (v : Vs) (h : CfAt w c v) (hn : c.ress.length ≤ 8796093022208) : Calls Try.prog 17 #[.agg (cfC c v)] w fun e w' => e = .returned (I (lookE c)) ∧ Below w.heap.size w w' := by
  have hi18 : (Try.prog.info? 33).map (·.size) = some (cfC c v).size := by rw [show (cfC c v).size = 18 from rfl]; kernel_rfl
  have hV0 := heap_alloc_new w (.cells (cfC c v) 33)
  have hb := below_alloc w (.cells (cfC c v) 33)
  have HNT : Hid (v.t.n = c.tasks.length) := h.t.n
  have HNI : Hid (v.i.n = c.isrs.length) := h.i.n
  have HNR : Hid (v.r.n = c.ress.length) := h.r.n
  have hct : v.t.n ≤ v.t.c := h.t.c
  have hmtt : v.t.c ≤ maxLen := h.t.m
  have hci : v.i.n ≤ v.i.c := h.i.c
  have hmi : v.i.c ≤ maxLen := h.i.m
  have hcr : v.r.n ≤ v.r.c := h.r.c
  have hmr : v.r.c ≤ maxLen := h.r.m
  unfold maxLen at hmtt hmi hmr
  have HRF : Hid (∀ W, Below w.heap.size w W → Calls Try.prog 40 #[.agg (cfC c v)] W fun e w' => Ans W (meetB c && lkB c) e w') := fun W hW => rrefs_any W c v (h.below hW)
  have HK : Hid (lkB c = true → ∀ W, Below w.heap.size w W → ∀ q : Nat, q < c.ress.length → Calls Try.prog 41 #[.agg (cfC c v), I (q : Int)] W fun e w' => e = .returned (I (rootN c (q : Int))) ∧ Below W.heap.size W w') := fun hlk W hW q hq => rroot8_any W c v (h.below hW) hn (lk_links hlk) q hq
  have HIN : Hid (∀ W, Below w.heap.size w W → ∀ q : Nat, q < c.ress.length → Calls Try.prog 39 #[.agg (cfC c v), I (q : Int)] W fun e w' => e = .returned (.bool (rkind c (q : Int) == 3)) ∧ Below W.heap.size W w') := fun W hW q hq => rinternal_any W c v (h.below hW) q hq
  have hcv : ∀ W : World, W.heap[w.heap.size]? = some (.cells (cfC c v) 33 (0, 0)) → W.cell? ⟨w.heap.size, 11, none⟩ = some (.slice v.t.a v.t.n v.t.c) ∧ W.cell? ⟨w.heap.size, 12, none⟩ = some (.slice v.r.a v.r.n v.r.c) ∧ W.cell? ⟨w.heap.size, 16, none⟩ = some (.slice v.i.a v.i.n v.i.c) := fun W hW => by
    obtain ⟨_, h10, h11, h12, h13, h14, h15, h16, h17⟩ := var18_all hW
    exact ⟨h11, h12, h16⟩
  generalize cfC c v = C at *
  have HF : Hid (∀ W, Below (w.alloc (.cells C 33)).heap.size (w.alloc (.cells C 33)) W → W.heap[w.heap.size]? = some (.cells C 33 (0, 0)) ∧ W.cell? ⟨w.heap.size, 11, none⟩ = some (.slice v.t.a v.t.n v.t.c) ∧ W.cell? ⟨w.heap.size, 12, none⟩ = some (.slice v.r.a v.r.n v.r.c) ∧ W.cell? ⟨w.heap.size, 16, none⟩ = some (.slice v.i.a v.i.n v.i.c) ∧ CfAt W c v ∧ Below w.heap.size w W) := fun W hW => by
    have hVW := (hW.block _ (heap_lt hV0)).trans hV0
    have hbW := hb.trans (hW.mono hb.size)
    exact ⟨hVW, (hcv W hVW).1, (hcv W hVW).2.1, (hcv W hVW).2.2, h.below hbW, hbW⟩
  obtain ⟨R, hR⟩ : ∃ R, R = lookE c := ⟨_, rfl⟩
  rw [← hR]
  unfold lookE at hR
  have HRR : Hid (R = _) := hR
  have krf := HRF.out _ hb
  have HB1 : Hid (∀ W, Below (w.alloc (.cells C 33)).heap.size (w.alloc (.cells C 33)) W → Below w.heap.size w W) := fun W hW => hb.trans (hW.mono hb.size)
  clear h hb hcv hR HRF
  cases hm : (meetB c && lkB c) with
  | false =>
    have HE : Hid (R = 80) := by show _ = _; rw [HRR.out, hm]; rfl
    rw [hm] at krf
    clear HRR HK HIN HF
    go_enter Try.func17, Try.ntmps17
    go_wp2_with (first | (refine wpList_load_row rfl 33 _ rfl w.heap.size rfl 33 _ (0, 0) _ hV0 Try.underlying33 rfl hi18 ?_) | (go_at_call 40; refine krf.mono ?_; rintro e w1 ⟨rfl, hb1⟩; clear krf))
    go_ret
    exact ⟨ret_int HE.out.symm, HB1.out _ hb1⟩
  | true =>
    have hmk : meetB c = true ∧ lkB c = true := by simpa using hm
    have HMT : Hid (meetB c = true) := hmk.1
    have HK2 : Hid (∀ W, Below w.heap.size w W → ∀ q : Nat, q < c.ress.length → Calls Try.prog 41 #[.agg C, I (q : Int)] W fun e w' => e = .returned (I (rootN c (q : Int))) ∧ Below W.heap.size W w') := HK.out hmk.2
    have HR1 : Hid (endsB c = false → R = 81) := fun hf => by rw [HRR.out, hm, hf]; rfl
    have HR2 : Hid (endsB c = true → linksB c = false → R = 82) := fun h1 hf => by rw [HRR.out, hm, h1, hf]; rfl
    have HR3 : Hid (endsB c = true → fitB c = false → R = 82) := fun h1 hf => by rw [HRR.out, hm, h1, hf, Bool.and_false]; rfl
    have HR0 : Hid (endsB c = true → linksB c = true → fitB c = true → R = 0) := fun h1 h2 h3 => by rw [HRR.out, hm, h1, h2, h3]; rfl
    rw [hm] at krf
    clear HRR HK hmk hm
    go_enter Try.func17, Try.ntmps17
    go_wp2_with (first | (refine wpList_load_row rfl 33 _ rfl w.heap.size rfl 33 _ (0, 0) _ hV0 Try.underlying33 rfl hi18 ?_) | (go_at_call 40; refine krf.mono ?_; rintro e w1 ⟨rfl, hb1⟩; have HW1 : Hid (Below (w.alloc (.cells C 33)).heap.size (w.alloc (.cells C 33)) w1) := hb1; clear krf hb1))
    clear hV0
    generalize w.alloc (.cells C 33) = W0 at *
    go_loopw [3] (fun iv wr => ∃ j : Nat, j ≤ v.r.n ∧ iv = .int .i64 j ∧ Hid (Below W0.heap.size W0 wr ∧ ((List.range c.ress.length).take j).all (fun i => decide (0 ≤ rootN c (i : Int))) = true)) (fun iv _ => v.r.n - (intOf iv).toNat)
    case atStart => exact ⟨0, by omega, rfl, HW1.out, by simp⟩
    case round =>
      obtain ⟨j, hj, rfl, HJ⟩ := hrel
      obtain ⟨hV, y11, y12, y16, hCf, hbw⟩ := HF.out _ HJ.out.1
      by_cases hlt : j < v.r.n
      · have hlt' : (j : Int) < v.r.n := by omega
        have hjn : j < c.ress.length := by rw [← HNR.out]; exact hlt
        have HT : Hid (((List.range c.ress.length).take (j + 1)).all (fun i => decide (0 ≤ rootN c (i : Int))) = decide (0 ≤ rootN c (j : Int))) := by show _ = _; rw [range_take hjn, HJ.out.2, Bool.true_and]
        have HFF : Hid (rootN c (j : Int) < 0 → R = 81) := fun hf => HR1.out (endsB_not hjn (by rcases root_range c (j : Int) with h | h <;> omega))
        have c1 := HK2.out wr hbw j hjn
        have HB0 : Hid (Below W0.heap.size W0 wr) := HJ.out.1
        clear hCf hbw HJ y11 y16 hjn
        generalize rootN c (j : Int) = rj at *
        by_cases hr : rj < 0
        · have HE : Hid (R = 81) := HFF.out hr
          clear HFF HT
          go_wp2_with (first | (refine wpList_load_row rfl 33 _ rfl w.heap.size rfl 33 _ (0, 0) _ hV Try.underlying33 rfl hi18 ?_) | (go_at_call 41; refine c1.mono ?_; rintro e w5 ⟨rfl, hb5⟩; have Hb5 : Hid (Below W0.heap.size W0 w5) := HB0.out.trans (hb5.mono HB0.out.size); clear c1 hb5 HB0))
          go_ret
          exact ⟨ret_int HE.out.symm, HB1.out _ Hb5.out⟩
        · have HT2 : Hid (((List.range c.ress.length).take (j + 1)).all (fun i => decide (0 ≤ rootN c (i : Int))) = true) := by show _ = _; rw [HT.out]; exact decide_eq_true (by omega)
          clear HFF HT
          go_wp2_with (first | (refine wpList_load_row rfl 33 _ rfl w.heap.size rfl 33 _ (0, 0) _ hV Try.underlying33 rfl hi18 ?_) | (go_at_call 41; refine c1.mono ?_; rintro e w5 ⟨rfl, hb5⟩; have Hb5 : Hid (Below W0.heap.size W0 w5) := HB0.out.trans (hb5.mono HB0.out.size); clear c1 hb5 HB0))
          go_roundw
          case rel => exact ⟨j + 1, by omega, by go_num, Hb5.out, HT2.out⟩
          case measure => simp [intOf]; omega
      · obtain rfl : j = v.r.n := by omega
        have hlt' : ¬ ((v.r.n : Nat) : Int) < (v.r.n : Nat) := by omega
        have HEN : Hid (endsB c = true) := by show _ = _; unfold endsB; rw [← HJ.out.2, List.take_of_length_le (by rw [List.length_range, HNR.out]; exact Nat.le_refl _)]
        have HW2 : Hid (Below W0.heap.size W0 wr) := HJ.out.1
        clear hCf hbw hV HJ y11 y16 HW1
        go_wp2
        clear y12
        go_loopw [4] (fun iv wr => ∃ j : Nat, j ≤ v.r.n ∧ iv = .int .i64 j ∧ Hid (Below W0.heap.size W0 wr ∧ ((List.range c.ress.length).take j).all (lfB c) = true)) (fun iv _ => v.r.n - (intOf iv).toNat)
        case atStart => exact ⟨0, by omega, rfl, HW2.out, by simp⟩
        case round =>
          obtain ⟨j, hj, rfl, HJ⟩ := hrel
          obtain ⟨hV, y11, y12, y16, hCf, hbw⟩ := HF.out _ HJ.out.1
          have Hbw : Hid (Below w.heap.size w wr) := hbw
          by_cases hlt : j < v.r.n
          · have hlt' : (j : Int) < v.r.n := by omega
            have hjn : j < c.ress.length := by rw [← HNR.out]; exact hlt
            obtain ⟨x, hx⟩ : ∃ x, c.ress[j]? = some x := ⟨_, List.getElem?_eq_getElem hjn⟩
            obtain ⟨g, off, e, hg, a0, a1, a2⟩ := rs_at hCf hx
            have hr0 := endsB_at HEN.out hjn
            have hrl := rootF_lt c c.ress.length (j : Int)
            obtain ⟨q, hq⟩ := Int.eq_ofNat_of_zero_le hr0
            have hql : q < c.ress.length := by have : rootN c (j : Int) < c.ress.length := hrl; omega
            have HB : Hid (lfB c j = !(x.kind == 2 && rkind c (q : Int) == 3)) := by show _ = _; unfold lfB; rw [rkind_at hx, hq]
            have HT : Hid (((List.range c.ress.length).take (j + 1)).all (lfB c) = lfB c j) := by show _ = _; rw [range_take hjn, HJ.out.2, Bool.true_and]
            have HFF : Hid (lfB c j = false → R = 82) := fun hf => HR2.out HEN.out (by rw [linksB, List.all_eq_false]; exact ⟨j, List.mem_range.2 hjn, by rw [hf]; decide⟩)
            have cr1 := cell_regrown y12
            have cr2 := cell_regrown a1
            rw [e] at cr1 y12
            have c1 : ∀ d os, Calls Try.prog 41 #[.agg C, I (j : Int)] (grow (redrawn wr d) os) fun e w'' => e = .returned (I (q : Int)) ∧ ∃ p : Regrown, w'' = grow (redrawn wr p.d) p.os := fun d os => Calls.regrown_of (by rw [← hq]; exact HK2.out _ (Hbw.out.trans ((below_regrown _ d os).mono Hbw.out.size)) j hjn)
            have c2 : ∀ d os, Calls Try.prog 39 #[.agg C, I (q : Int)] (grow (redrawn wr d) os) fun e w'' => e = .returned (.bool (rkind c (q : Int) == 3)) ∧ ∃ p : Regrown, w'' = grow (redrawn wr p.d) p.os := fun d os => Calls.regrown_of (HIN.out _ (Hbw.out.trans ((below_regrown _ d os).mono Hbw.out.size)) q hql)
            have HB0 : Hid (Below W0.heap.size W0 wr) := HJ.out.1
            clear hx hCf hbw HJ e hr0 hrl hq y11 y16 a0 a2 hjn
            generalize lfB c j = B at *
            generalize (rkind c (q : Int) == 3) = i3 at *
            cases hk : x.kind == 2 with
            | false =>
              have HT2 : Hid (((List.range c.ress.length).take (j + 1)).all (lfB c) = true) := by show _ = _; rw [HT.out, HB.out, hk]; rfl
              clear HT HB HFF c1 c2
              go_wp2
              go_quiet (fail)
              go_wp2
              go_roundw
              case rel => exact ⟨j + 1, by omega, by go_num, below_drewN HB0.out _, HT2.out⟩
              case measure => simp [intOf]; omega
            | true =>
              have hi : i3 = true ∨ i3 = false := by cases i3 <;> simp
              rcases hi with rfl | rfl
              · have HE : Hid (R = 82) := HFF.out (by rw [HB.out, hk]; rfl)
                clear HT HB HFF
                go_wp2
                refine wp_region_quiet_below (by kernel_rfl) (by kernel_rfl) ?_
                repeat (go_big_quiet_step (fail))
                refine wpQuiet_load_row rfl 33 _ rfl w.heap.size rfl 33 _ (0, 0) _ (heap_regrown hV) Try.underlying33 rfl hi18 ?_
                simp only [Act.put, List.getElem_toArray, List.getElem_cons_succ, List.getElem_cons_zero, List.setIfInBounds_toArray, List.set_cons_zero, List.set_cons_succ]
                refine wpQuiet_load_row rfl 33 _ rfl w.heap.size rfl 33 _ (0, 0) _ (heap_regrown hV) Try.underlying33 rfl hi18 ?_
                quiet_step (fail)
                repeat (go_big_quiet_step (first | exact c1 _ _ | exact c2 _ _))
                refine wpQuiet_nil ?_
                rintro _ ⟨⟨dq, osq⟩, rfl⟩
                dsimp only
                have hb4 := below_regrown wr dq osq
                have HB4 : Hid (Below W0.heap.size W0 (grow (redrawn wr dq) osq)) := HB0.out.trans (hb4.mono HB0.out.size)
                clear c1 c2 cr1 cr2 hb4 hV HB0 Hbw
                generalize grow (redrawn wr dq) osq = w4 at *
                go_wp2
                go_ret
                exact ⟨ret_int HE.out.symm, HB1.out _ HB4.out⟩
              · have HT2 : Hid (((List.range c.ress.length).take (j + 1)).all (lfB c) = true) := by show _ = _; rw [HT.out, HB.out, hk]; rfl
                clear HT HB HFF
                go_wp2
                refine wp_region_quiet_below (by kernel_rfl) (by kernel_rfl) ?_
                repeat (go_big_quiet_step (fail))
                refine wpQuiet_load_row rfl 33 _ rfl w.heap.size rfl 33 _ (0, 0) _ (heap_regrown hV) Try.underlying33 rfl hi18 ?_
                simp only [Act.put, List.getElem_toArray, List.getElem_cons_succ, List.getElem_cons_zero, List.setIfInBounds_toArray, List.set_cons_zero, List.set_cons_succ]
                refine wpQuiet_load_row rfl 33 _ rfl w.heap.size rfl 33 _ (0, 0) _ (heap_regrown hV) Try.underlying33 rfl hi18 ?_
                quiet_step (fail)
                repeat (go_big_quiet_step (first | exact c1 _ _ | exact c2 _ _))
                refine wpQuiet_nil ?_
                rintro _ ⟨⟨dq, osq⟩, rfl⟩
                dsimp only
                have hb4 := below_regrown wr dq osq
                have HB4 : Hid (Below W0.heap.size W0 (grow (redrawn wr dq) osq)) := HB0.out.trans (hb4.mono HB0.out.size)
                clear c1 c2 cr1 cr2 hb4 hV HB0 Hbw
                generalize grow (redrawn wr dq) osq = w4 at *
                go_wp2
                go_roundw
                case rel => exact ⟨j + 1, by omega, by go_num, HB4.out, HT2.out⟩
                case measure => simp [intOf]; omega
          · obtain rfl : j = v.r.n := by omega
            have hlt' : ¬ ((v.r.n : Nat) : Int) < (v.r.n : Nat) := by omega
            have HLI : Hid (linksB c = true) := by show _ = _; unfold linksB; rw [← HJ.out.2, List.take_of_length_le (by rw [List.length_range, HNR.out]; exact Nat.le_refl _)]
            have HW3 : Hid (Below W0.heap.size W0 wr) := HJ.out.1
            clear hCf hbw hV HJ y11 y16 HW2 Hbw
            go_wp2
            clear y12
            go_loopw [5, 6, 7] (fun iv _ _ wr => ∃ j : Nat, j ≤ v.t.n ∧ iv = .int .i64 j ∧ Hid (Below W0.heap.size W0 wr ∧ (c.tasks.take j).all (fun x => fitU c false x.res) = true)) (fun iv _ _ _ => v.t.n - (intOf iv).toNat)
            case atStart => exact ⟨0, by omega, rfl, HW3.out, by simp⟩
            case round =>
              obtain ⟨j, hj, rfl, HJ⟩ := hrel
              obtain ⟨hV, y11, y12, y16, hCf, hbw⟩ := HF.out _ HJ.out.1
              by_cases hlt : j < v.t.n
              · have hlt' : (j : Int) < v.t.n := by omega
                obtain ⟨x, hx⟩ : ∃ x, c.tasks[j]? = some x := ⟨_, List.getElem?_eq_getElem (by rw [← HNT.out]; exact hlt)⟩
                have hmx := meet_task HMT.out hn (List.mem_of_getElem? hx)
                have HID : Hid (∀ y ∈ x.res, isId y c.ress.length = true) := hmx.1
                have hlen := hmx.2
                have HX : Hid (c.tasks[j]? = some x) := hx
                have HT : Hid ((c.tasks.take (j + 1)).all (fun x => fitU c false x.res) = fitU c false x.res) := by show _ = _; rw [all_take _ _ j x hx, HJ.out.2, Bool.true_and]
                have HFF : Hid (fitU c false x.res = false → R = 82) := fun hf => HR3.out HEN.out (by unfold fitB; rw [show c.tasks.all (fun x => fitU c false x.res) = false from by rw [List.all_eq_false]; exact ⟨x, List.mem_of_getElem? hx, by show ¬ fitU c false x.res = true; rw [hf]; decide⟩, Bool.false_and])
                have HJ0 : Hid (Below W0.heap.size W0 wr) := HJ.out.1
                clear hx hmx HJ hV hCf hbw y12 y16
                go_wp2
                clear y11
                go_loopw [6, 7] (fun nv kv wr => ∃ (k m : Nat), k ≤ x.res.length ∧ m ≤ k ∧ kv = .int .i64 k ∧ nv = .int .i64 m ∧ Hid (Below W0.heap.size W0 wr ∧ m = intN c (x.res.take k))) (fun nv kv _ => x.res.length - (intOf kv).toNat)
                case atStart => exact ⟨0, 0, by omega, by omega, rfl, rfl, HJ0.out, rfl⟩
                case round =>
                  obtain ⟨k, m, hk, hmk, rfl, rfl, HJ⟩ := hrel
                  obtain ⟨hV, y11, y12, y16, hCf, hbw⟩ := HF.out _ HJ.out.1
                  have Hbw : Hid (Below w.heap.size w wr) := hbw
                  obtain ⟨g, off, s4, s5, s6, s7, e, hg, a0, a1, a2, a3, a4, a5, a6, a7, r4, r5, r6, r7⟩ := tk_at hCf HX.out
                  have HS5 : Hid (s5.n = x.res.length) := r5.n
                  rw [e] at y11
                  have HB0 : Hid (Below W0.heap.size W0 wr) := HJ.out.1
                  by_cases hkt : k < x.res.length
                  · have hkt' : (k : Int) < s5.n := by rw [HS5.out]; omega
                    obtain ⟨xi, hxi⟩ : ∃ y, x.res[k]? = some y := ⟨_, List.getElem?_eq_getElem hkt⟩
                    have hbd : 0 ≤ xi ∧ xi < c.ress.length := by simpa [isId] using HID.out xi (List.mem_of_getElem? hxi)
                    obtain ⟨q, rfl⟩ := Int.eq_ofNat_of_zero_le hbd.1
                    have hql : q < c.ress.length := by omega
                    obtain ⟨g5, o5, e5, hg5, b5⟩ := ints_at r5 hxi
                    have c2 : ∀ d os, Calls Try.prog 39 #[.agg C, I (q : Int)] (grow (redrawn wr d) os) fun e w'' => e = .returned (.bool (rkind c (q : Int) == 3)) ∧ ∃ p : Regrown, w'' = grow (redrawn wr p.d) p.os := fun d os => Calls.regrown_of (HIN.out _ (Hbw.out.trans ((below_regrown _ d os).mono Hbw.out.size)) q hql)
                    have HM : Hid (intN c (x.res.take (k + 1)) = m + (if rkind c (q : Int) == 3 then 1 else 0)) := by show _ = _; rw [intN_snoc c x.res k _ hxi, ← HJ.out.2]
                    rw [e5] at a5
                    have cr1 := cell_regrown y11
                    have cr2 := cell_regrown a5
                    have cr3 := cell_regrown b5
                    clear hxi hbd hql e e5 hCf hbw HJ HS5 y12 y16 r4 r5 r6 r7 a0 a1 a2 a3 a4 a6 a7
                    generalize (rkind c (q : Int) == 3) = i3 at *
                    have hi : i3 = true ∨ i3 = false := by cases i3 <;> simp
                    rcases hi with rfl | rfl
                    · have HM2 : Hid (m + 1 = intN c (x.res.take (k + 1))) := by show _ = _; rw [HM.out, if_pos rfl]
                      clear HM
                      go_wp2
                      refine wp_region_quiet_below (by kernel_rfl) (by kernel_rfl) ?_
                      refine wpQuiet_load_row rfl 33 _ rfl w.heap.size rfl 33 _ (0, 0) _ (heap_regrown hV) Try.underlying33 rfl hi18 ?_
                      quiet_step (fail)
                      repeat (go_big_quiet_step (first | exact c2 _ _))
                      refine wpQuiet_nil ?_
                      rintro _ ⟨⟨dq, osq⟩, rfl⟩
                      dsimp only
                      have hb4 := below_regrown wr dq osq
                      have HB4 : Hid (Below W0.heap.size W0 (grow (redrawn wr dq) osq)) := HB0.out.trans (hb4.mono HB0.out.size)
                      clear c2 cr1 cr2 cr3 y11 a5 b5 hb4 hV HB0 Hbw
                      generalize grow (redrawn wr dq) osq = w4 at *
                      go_wp2
                      go_roundw
                      case rel => exact ⟨k + 1, m + 1, by omega, by omega, by go_num, by go_num, HB4.out, HM2.out⟩
                      case measure => simp [intOf]; omega
                    · have HM2 : Hid (m = intN c (x.res.take (k + 1))) := by show _ = _; rw [HM.out, if_neg (by decide)]; rfl
                      clear HM
                      go_wp2
                      refine wp_region_quiet_below (by kernel_rfl) (by kernel_rfl) ?_
                      refine wpQuiet_load_row rfl 33 _ rfl w.heap.size rfl 33 _ (0, 0) _ (heap_regrown hV) Try.underlying33 rfl hi18 ?_
                      quiet_step (fail)
                      repeat (go_big_quiet_step (first | exact c2 _ _))
                      refine wpQuiet_nil ?_
                      rintro _ ⟨⟨dq, osq⟩, rfl⟩
                      dsimp only
                      have hb4 := below_regrown wr dq osq
                      have HB4 : Hid (Below W0.heap.size W0 (grow (redrawn wr dq) osq)) := HB0.out.trans (hb4.mono HB0.out.size)
                      clear c2 cr1 cr2 cr3 y11 a5 b5 hb4 hV HB0 Hbw
                      generalize grow (redrawn wr dq) osq = w4 at *
                      go_wp2
                      go_roundw
                      case rel => exact ⟨k + 1, m, by omega, by omega, by go_num, rfl, HB4.out, HM2.out⟩
                      case measure => simp [intOf]; omega
                  · obtain rfl : k = x.res.length := by omega
                    have hkt' : ¬ ((x.res.length : Nat) : Int) < s5.n := by rw [HS5.out]; omega
                    have HM : Hid (m = intN c x.res) := by show _ = _; rw [HJ.out.2, List.take_of_length_le (Nat.le_refl _)]
                    clear e hCf hbw HJ HS5 y12 y16 r4 r5 r6 r7 a0 a1 a2 a3 a4 a6 a7
                    by_cases hm1 : 1 < m
                    · have hm1' : (1 : Int) < m := by omega
                      have HE : Hid (R = 82) := HFF.out (by rw [fitU_task, ← HM.out]; exact decide_eq_false (by omega))
                      clear HM HFF HT
                      go_wp2
                      go_ret
                      exact ⟨ret_int HE.out.symm, Hbw.out⟩
                    · have hm1' : ¬ (1 : Int) < m := by omega
                      have HT2 : Hid ((c.tasks.take (j + 1)).all (fun x => fitU c false x.res) = true) := by show _ = _; rw [HT.out, fitU_task, ← HM.out]; exact decide_eq_true (by omega)
                      clear HM HFF HT
                      go_wp2
                      go_roundw
                      case rel => exact ⟨j + 1, by omega, by go_num, HB0.out, HT2.out⟩
                      case measure => simp [intOf]; omega

              · obtain rfl : j = v.t.n := by omega
                have hlt' : ¬ ((v.t.n : Nat) : Int) < (v.t.n : Nat) := by omega
                have HAT : Hid (c.tasks.all (fun x => fitU c false x.res) = true) := by have := HJ.out.2; rw [List.take_of_length_le (by rw [HNT.out]; exact Nat.le_refl _)] at this; exact this
                have HWT : Hid (Below W0.heap.size W0 wr) := HJ.out.1
                clear hCf hbw hV HJ y12 y16 HW3
                go_wp2
                clear y11
                go_loopw [8, 9] (fun iv _ wr => ∃ j : Nat, j ≤ v.i.n ∧ iv = .int .i64 j ∧ Hid (Below W0.heap.size W0 wr ∧ (c.isrs.take j).all (fun x => fitU c true x.res) = true)) (fun iv _ _ => v.i.n - (intOf iv).toNat)
                case atStart => exact ⟨0, by omega, rfl, HWT.out, by simp⟩
                case round =>
                  obtain ⟨j, hj, rfl, HJ⟩ := hrel
                  obtain ⟨hV, y11, y12, y16, hCf, hbw⟩ := HF.out _ HJ.out.1
                  by_cases hlt : j < v.i.n
                  · have hlt' : (j : Int) < v.i.n := by omega
                    obtain ⟨x, hx⟩ : ∃ x, c.isrs[j]? = some x := ⟨_, List.getElem?_eq_getElem (by rw [← HNI.out]; exact hlt)⟩
                    have hmx := meet_isr HMT.out hn (List.mem_of_getElem? hx)
                    have HID : Hid (∀ y ∈ x.res, isId y c.ress.length = true) := hmx.1
                    have hlen := hmx.2
                    have HX : Hid (c.isrs[j]? = some x) := hx
                    have HT : Hid ((c.isrs.take (j + 1)).all (fun x => fitU c true x.res) = fitU c true x.res) := by show _ = _; rw [all_take _ _ j x hx, HJ.out.2, Bool.true_and]
                    have HFF : Hid (fitU c true x.res = false → R = 82) := fun hf => HR3.out HEN.out (by unfold fitB; rw [show c.isrs.all (fun x => fitU c true x.res) = false from by rw [List.all_eq_false]; exact ⟨x, List.mem_of_getElem? hx, by show ¬ fitU c true x.res = true; rw [hf]; decide⟩, Bool.and_false])
                    have HJ0 : Hid (Below W0.heap.size W0 wr) := HJ.out.1
                    clear hx hmx HJ hV hCf hbw y11 y12
                    go_wp2
                    clear y16
                    go_loopw [9] (fun kv wr => ∃ k : Nat, k ≤ x.res.length ∧ kv = .int .i64 k ∧ Hid (Below W0.heap.size W0 wr ∧ (x.res.take k).all (fun y => !(rkind c y == 3)) = true)) (fun kv _ => x.res.length - (intOf kv).toNat)
                    case atStart => exact ⟨0, by omega, rfl, HJ0.out, by simp⟩
                    case round =>
                      obtain ⟨k, hk, rfl, HJ⟩ := hrel
                      obtain ⟨hV, y11, y12, y16, hCf, hbw⟩ := HF.out _ HJ.out.1
                      have Hbw : Hid (Below w.heap.size w wr) := hbw
                      obtain ⟨g, off, s3, s4, e, hg, a0, a1, a2, a3, a4, r3, r4⟩ := is_at hCf HX.out
                      have HS5 : Hid (s3.n = x.res.length) := r3.n
                      rw [e] at y16
                      have HB0 : Hid (Below W0.heap.size W0 wr) := HJ.out.1
                      by_cases hkt : k < x.res.length
                      · have hkt' : (k : Int) < s3.n := by rw [HS5.out]; omega
                        obtain ⟨xi, hxi⟩ : ∃ y, x.res[k]? = some y := ⟨_, List.getElem?_eq_getElem hkt⟩
                        have hbd : 0 ≤ xi ∧ xi < c.ress.length := by simpa [isId] using HID.out xi (List.mem_of_getElem? hxi)
                        obtain ⟨q, rfl⟩ := Int.eq_ofNat_of_zero_le hbd.1
                        have hql : q < c.ress.length := by omega
                        obtain ⟨g5, o5, e5, hg5, b5⟩ := ints_at r3 hxi
                        have c2 : ∀ d os, Calls Try.prog 39 #[.agg C, I (q : Int)] (grow (redrawn wr d) os) fun e w'' => e = .returned (.bool (rkind c (q : Int) == 3)) ∧ ∃ p : Regrown, w'' = grow (redrawn wr p.d) p.os := fun d os => Calls.regrown_of (HIN.out _ (Hbw.out.trans ((below_regrown _ d os).mono Hbw.out.size)) q hql)
                        have HM : Hid ((x.res.take (k + 1)).all (fun y => !(rkind c y == 3)) = !(rkind c (q : Int) == 3)) := by show _ = _; rw [all_take _ _ k _ hxi, HJ.out.2, Bool.true_and]
                        have HM3 : Hid ((rkind c (q : Int) == 3) = true → R = 82) := fun ht => HFF.out (by rw [fitU_isr, List.all_eq_false]; exact ⟨_, List.mem_of_getElem? hxi, by rw [ht]; decide⟩)
                        rw [e5] at a3
                        have cr1 := cell_regrown y16
                        have cr2 := cell_regrown a3
                        have cr3 := cell_regrown b5
                        clear hxi hbd hql e e5 hCf hbw HJ HS5 y11 y12 r3 r4 a0 a1 a2 a4
                        generalize (rkind c (q : Int) == 3) = i3 at *
                        have hi : i3 = true ∨ i3 = false := by cases i3 <;> simp
                        rcases hi with rfl | rfl
                        · have HE : Hid (R = 82) := HM3.out rfl
                          clear HM HM3
                          go_wp2
                          refine wp_region_quiet_below (by kernel_rfl) (by kernel_rfl) ?_
                          refine wpQuiet_load_row rfl 33 _ rfl w.heap.size rfl 33 _ (0, 0) _ (heap_regrown hV) Try.underlying33 rfl hi18 ?_
                          quiet_step (fail)
                          repeat (go_big_quiet_step (first | exact c2 _ _))
                          refine wpQuiet_nil ?_
                          rintro _ ⟨⟨dq, osq⟩, rfl⟩
                          dsimp only
                          have hb4 := below_regrown wr dq osq
                          have HB4 : Hid (Below W0.heap.size W0 (grow (redrawn wr dq) osq)) := HB0.out.trans (hb4.mono HB0.out.size)
                          clear c2 cr1 cr2 cr3 y16 a3 b5 hb4 hV HB0 Hbw
                          generalize grow (redrawn wr dq) osq = w4 at *
                          go_wp2
                          go_ret
                          exact ⟨ret_int HE.out.symm, HB1.out _ HB4.out⟩
                        · have HM2 : Hid ((x.res.take (k + 1)).all (fun y => !(rkind c y == 3)) = true) := HM.out
                          clear HM HM3
                          go_wp2
                          refine wp_region_quiet_below (by kernel_rfl) (by kernel_rfl) ?_
                          refine wpQuiet_load_row rfl 33 _ rfl w.heap.size rfl 33 _ (0, 0) _ (heap_regrown hV) Try.underlying33 rfl hi18 ?_
                          quiet_step (fail)
                          repeat (go_big_quiet_step (first | exact c2 _ _))
                          refine wpQuiet_nil ?_
                          rintro _ ⟨⟨dq, osq⟩, rfl⟩
                          dsimp only
                          have hb4 := below_regrown wr dq osq
                          have HB4 : Hid (Below W0.heap.size W0 (grow (redrawn wr dq) osq)) := HB0.out.trans (hb4.mono HB0.out.size)
                          clear c2 cr1 cr2 cr3 y16 a3 b5 hb4 hV HB0 Hbw
                          generalize grow (redrawn wr dq) osq = w4 at *
                          go_wp2
                          go_roundw
                          case rel => exact ⟨k + 1, by omega, by go_num, HB4.out, HM2.out⟩
                          case measure => simp [intOf]; omega
                      · obtain rfl : k = x.res.length := by omega
                        have hkt' : ¬ ((x.res.length : Nat) : Int) < s3.n := by rw [HS5.out]; omega
                        have HT2 : Hid ((c.isrs.take (j + 1)).all (fun x => fitU c true x.res) = true) := by show _ = _; rw [HT.out, fitU_isr, ← HJ.out.2, List.take_of_length_le (Nat.le_refl _)]
                        clear e hCf hbw HJ HS5 y11 y12 r3 r4 a0 a1 a2 a4 HFF HT
                        go_wp2
                        go_roundw
                        case rel => exact ⟨j + 1, by omega, by go_num, HB0.out, HT2.out⟩
                        case measure => simp [intOf]; omega

                  · obtain rfl : j = v.i.n := by omega
                    have hlt' : ¬ ((v.i.n : Nat) : Int) < (v.i.n : Nat) := by omega
                    have HAI : Hid (c.isrs.all (fun x => fitU c true x.res) = true) := by have := HJ.out.2; rw [List.take_of_length_le (by rw [HNI.out]; exact Nat.le_refl _)] at this; exact this
                    have HWI : Hid (Below W0.heap.size W0 wr) := HJ.out.1
                    have HE : Hid (R = 0) := HR0.out HEN.out HLI.out (by unfold fitB; rw [HAT.out, HAI.out]; rfl)
                    clear hCf hV HJ y11 y12 HWT
                    go_wp2
                    go_ret
                    exact ⟨ret_int HE.out.symm, hbw⟩
end Go.Proofs.Ytapfbinaocaclaa
