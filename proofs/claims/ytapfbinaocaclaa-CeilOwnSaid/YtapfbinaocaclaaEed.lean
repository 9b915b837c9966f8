import Derived.Test.YtapfbinaocaclaaEec
namespace Go.Proofs.Ytapfbinaocaclaa
open Go.RowKit Go.Sort
set_option linter.unusedVariables false
set_option linter.unusedSimpArgs false

/-! ### The document's refs -/
set_option maxHeartbeats 8000000 in
set_option maxRecDepth 100000 in
theorem rrefs_any (w : World) (c : Cf) (v : Vs) (h : CfAt w c v) : Calls Try.prog 40 #[.agg (cfC c v)] w fun e w' => Ans w (meetB c && lkB c) e w' := by
  have hi18 : (Try.prog.info? 33).map (·.size) = some (cfC c v).size := by rw [show (cfC c v).size = 18 from rfl]; kernel_rfl
  have hV0 := heap_alloc_new w (.cells (cfC c v) 33)
  have hb := below_alloc w (.cells (cfC c v) 33)
  have HNT : Hid (v.t.n = c.tasks.length) := h.t.n
  have HNI : Hid (v.i.n = c.isrs.length) := h.i.n
  have HNR : Hid (v.r.n = c.ress.length) := h.r.n
  have hct : v.t.n ≤ v.t.c := h.t.c
  have hmtt : v.t.c ≤ maxLen := h.t.m
  have hci : v.i.n ≤ v.i.c := h.i.c
  have hmi : v.i.c ≤ maxLen := h.i.m
  have hcr : v.r.n ≤ v.r.c := h.r.c
  have hmr : v.r.c ≤ maxLen := h.r.m
  unfold maxLen at hmtt hmi hmr
  have HU : Hid (∀ W, Below w.heap.size w W → ∀ (s : Sl) (l : List Int), RowsAt W 1 intP s l → Calls Try.prog 57 #[.agg (cfC c v), .slice s.a s.n s.c] W fun e w' => e = .returned (.bool (risF (-1) l c.ress.length)) ∧ Below W.heap.size W w') := fun W hW s l hl => rrising_any W c v (h.below hW) s l hl
  have hcv : ∀ W : World, W.heap[w.heap.size]? = some (.cells (cfC c v) 33 (0, 0)) → W.cell? ⟨w.heap.size, 11, none⟩ = some (.slice v.t.a v.t.n v.t.c) ∧ W.cell? ⟨w.heap.size, 12, none⟩ = some (.slice v.r.a v.r.n v.r.c) ∧ W.cell? ⟨w.heap.size, 16, none⟩ = some (.slice v.i.a v.i.n v.i.c) := fun W hW => by
    obtain ⟨_, h10, h11, h12, h13, h14, h15, h16, h17⟩ := var18_all hW
    exact ⟨h11, h12, h16⟩
  generalize cfC c v = C at *
  have HF : Hid (∀ W, Below (w.alloc (.cells C 33)).heap.size (w.alloc (.cells C 33)) W → W.heap[w.heap.size]? = some (.cells C 33 (0, 0)) ∧ W.cell? ⟨w.heap.size, 11, none⟩ = some (.slice v.t.a v.t.n v.t.c) ∧ W.cell? ⟨w.heap.size, 12, none⟩ = some (.slice v.r.a v.r.n v.r.c) ∧ W.cell? ⟨w.heap.size, 16, none⟩ = some (.slice v.i.a v.i.n v.i.c) ∧ CfAt W c v ∧ Below w.heap.size w W) := fun W hW => by
    have hVW := (hW.block _ (heap_lt hV0)).trans hV0
    have hbW := hb.trans (hW.mono hb.size)
    exact ⟨hVW, (hcv W hVW).1, (hcv W hVW).2.1, (hcv W hVW).2.2, h.below hbW, hbW⟩
  obtain ⟨R, hR⟩ : ∃ R, R = (meetB c && lkB c) := ⟨_, rfl⟩
  rw [← hR]
  have HRT : Hid (c.tasks.all (risT c) = false → R = false) := fun hf => by rw [hR]; unfold meetB; rw [hf]; rfl
  have HRI : Hid (c.isrs.all (risI c) = false → R = false) := fun hf => by rw [hR]; unfold meetB; rw [hf, Bool.and_false]; rfl
  have HRR : Hid (c.ress.all (lmB c.ress.length) = false → R = false) := fun hf => by rw [hR]; unfold lkB; rw [hf, Bool.and_false]
  have HRA : Hid (c.tasks.all (risT c) = true → c.isrs.all (risI c) = true → c.ress.all (lmB c.ress.length) = true → R = true) := fun h1 h2 h3 => by rw [hR]; unfold meetB lkB; rw [h1, h2, h3]; rfl
  clear h hb hV0 hcv hR
  go_enter Try.func40, Try.ntmps40
  go_wp2
  generalize w.alloc (.cells C 33) = W0 at *
  go_loopw [3] (fun iv wr => ∃ j : Nat, j ≤ v.t.n ∧ iv = .int .i64 j ∧ Hid (Below W0.heap.size W0 wr ∧ (c.tasks.take j).all (risT c) = true)) (fun iv _ => v.t.n - (intOf iv).toNat)
  case atStart => exact ⟨0, by omega, rfl, Below.refl _ _, by simp⟩
  case round =>
    obtain ⟨j, hj, rfl, HJ⟩ := hrel
    obtain ⟨hV, y11, y12, y16, hCf, hbw⟩ := HF.out _ HJ.out.1
    have Hbw : Hid (Below w.heap.size w wr) := hbw
    by_cases hlt : j < v.t.n
    · have hlt' : (j : Int) < v.t.n := by omega
      obtain ⟨x, hx⟩ : ∃ x, c.tasks[j]? = some x := ⟨_, List.getElem?_eq_getElem (by rw [← HNT.out]; exact hlt)⟩
      obtain ⟨g, off, s4, s5, s6, s7, e, hg, a0, a1, a2, a3, a4, a5, a6, a7, r4, r5, r6, r7⟩ := tk_at hCf hx
      have cr1 := cell_regrown y11
      have cr3 := cell_regrown a5
      rw [e] at cr1
      have c1 : ∀ d os, Calls Try.prog 57 #[.agg C, .slice s5.a s5.n s5.c] (grow (redrawn wr d) os) fun e w'' => e = .returned (.bool (risF (-1) x.res c.ress.length)) ∧ ∃ p : Regrown, w'' = grow (redrawn wr p.d) p.os := fun d os => Calls.regrown_of (HU.out _ (Hbw.out.trans ((below_regrown _ d os).mono Hbw.out.size)) s5 x.res (r5.below (below_regrown _ d os) (fun _ _ _ _ h => h)))
      have HB0 : Hid (Below W0.heap.size W0 wr) := HJ.out.1
      have HS : Hid ((c.tasks.take (j + 1)).all (risT c) = risF (-1) x.res c.ress.length) := by show _ = _; rw [all_take _ _ j x hx, HJ.out.2, Bool.true_and]; rfl
      have HE : Hid (risF (-1) x.res c.ress.length = false → R = false) := fun hf => HRT.out (by rw [List.all_eq_false]; exact ⟨x, List.mem_of_getElem? hx, by show ¬ risF (-1) x.res c.ress.length = true; rw [hf]; decide⟩)
      rw [e] at y11
      clear hx hCf hbw HJ e y12 y16 r4 r5 r6 r7 a0 a1 a2 a3 a4 a5 a6 a7
      generalize risF (-1) x.res c.ress.length = ub at *
      have hub : ub = true ∨ ub = false := by cases ub <;> simp
      rcases hub with rfl | rfl
      · have HS2 : Hid ((c.tasks.take (j + 1)).all (risT c) = true) := HS.out
        clear HS HE
        go_wp2
        refine wp_region_quiet_below (by kernel_rfl) (by kernel_rfl) ?_
        refine wpQuiet_load_row rfl 33 _ rfl w.heap.size rfl 33 _ (0, 0) _ (heap_regrown hV) Try.underlying33 rfl hi18 ?_
        quiet_step (fail)
        repeat (go_big_quiet_step (first | exact c1 _ _))
        refine wpQuiet_nil ?_
        rintro _ ⟨⟨dq, osq⟩, rfl⟩
        dsimp only
        have hb4 := below_regrown wr dq osq
        have HB4 : Hid (Below W0.heap.size W0 (grow (redrawn wr dq) osq)) := HB0.out.trans (hb4.mono HB0.out.size)
        have Hbw4 : Hid (Below w.heap.size w (grow (redrawn wr dq) osq)) := Hbw.out.trans (hb4.mono Hbw.out.size)
        clear c1 cr1 cr3 hb4 hV HB0 Hbw y11
        generalize grow (redrawn wr dq) osq = w4 at *
        clear Hbw4
        go_wp2
        go_roundw
        case rel => exact ⟨j + 1, by omega, by go_num, HB4.out, HS2.out⟩
        case measure => simp [intOf]; omega
      · have HE2 : Hid (R = false) := HE.out rfl
        clear HS HE
        go_wp2
        refine wp_region_quiet_below (by kernel_rfl) (by kernel_rfl) ?_
        refine wpQuiet_load_row rfl 33 _ rfl w.heap.size rfl 33 _ (0, 0) _ (heap_regrown hV) Try.underlying33 rfl hi18 ?_
        quiet_step (fail)
        repeat (go_big_quiet_step (first | exact c1 _ _))
        refine wpQuiet_nil ?_
        rintro _ ⟨⟨dq, osq⟩, rfl⟩
        dsimp only
        have hb4 := below_regrown wr dq osq
        have HB4 : Hid (Below W0.heap.size W0 (grow (redrawn wr dq) osq)) := HB0.out.trans (hb4.mono HB0.out.size)
        have Hbw4 : Hid (Below w.heap.size w (grow (redrawn wr dq) osq)) := Hbw.out.trans (hb4.mono Hbw.out.size)
        clear c1 cr1 cr3 hb4 hV HB0 Hbw y11
        generalize grow (redrawn wr dq) osq = w4 at *
        go_wp2
        go_ret
        exact ⟨ret_bool HE2.out.symm, Hbw4.out⟩
    · obtain rfl : j = v.t.n := by omega
      have hlt' : ¬ ((v.t.n : Nat) : Int) < (v.t.n : Nat) := by omega
      have HAT : Hid (c.tasks.all (risT c) = true) := by show _ = _; rw [← HJ.out.2, List.take_of_length_le (by rw [HNT.out]; exact Nat.le_refl _)]
      have HBT : Hid (Below W0.heap.size W0 wr) := HJ.out.1
      clear hCf hbw hV HJ Hbw y12 y16
      go_wp2
      clear y11

      go_loopw [4] (fun iv wr => ∃ j : Nat, j ≤ v.i.n ∧ iv = .int .i64 j ∧ Hid (Below W0.heap.size W0 wr ∧ (c.isrs.take j).all (risI c) = true)) (fun iv _ => v.i.n - (intOf iv).toNat)
      case atStart => exact ⟨0, by omega, rfl, HBT.out, by simp⟩
      case round =>
        obtain ⟨j, hj, rfl, HJ⟩ := hrel
        obtain ⟨hV, y11, y12, y16, hCf, hbw⟩ := HF.out _ HJ.out.1
        have Hbw : Hid (Below w.heap.size w wr) := hbw
        by_cases hlt : j < v.i.n
        · have hlt' : (j : Int) < v.i.n := by omega
          obtain ⟨x, hx⟩ : ∃ x, c.isrs[j]? = some x := ⟨_, List.getElem?_eq_getElem (by rw [← HNI.out]; exact hlt)⟩
          obtain ⟨g, off, s3, s4, e, hg, a0, a1, a2, a3, a4, r3, r4⟩ := is_at hCf hx
          have cr1 := cell_regrown y16
          have cr3 := cell_regrown a3
          rw [e] at cr1
          have c1 : ∀ d os, Calls Try.prog 57 #[.agg C, .slice s3.a s3.n s3.c] (grow (redrawn wr d) os) fun e w'' => e = .returned (.bool (risF (-1) x.res c.ress.length)) ∧ ∃ p : Regrown, w'' = grow (redrawn wr p.d) p.os := fun d os => Calls.regrown_of (HU.out _ (Hbw.out.trans ((below_regrown _ d os).mono Hbw.out.size)) s3 x.res (r3.below (below_regrown _ d os) (fun _ _ _ _ h => h)))
          have HB0 : Hid (Below W0.heap.size W0 wr) := HJ.out.1
          have HS : Hid ((c.isrs.take (j + 1)).all (risI c) = risF (-1) x.res c.ress.length) := by show _ = _; rw [all_take _ _ j x hx, HJ.out.2, Bool.true_and]; rfl
          have HE : Hid (risF (-1) x.res c.ress.length = false → R = false) := fun hf => HRI.out (by rw [List.all_eq_false]; exact ⟨x, List.mem_of_getElem? hx, by show ¬ risF (-1) x.res c.ress.length = true; rw [hf]; decide⟩)
          rw [e] at y16
          clear hx hCf hbw HJ e y11 y12 r3 r4 a0 a1 a2 a3 a4
          generalize risF (-1) x.res c.ress.length = ub at *
          have hub : ub = true ∨ ub = false := by cases ub <;> simp
          rcases hub with rfl | rfl
          · have HS2 : Hid ((c.isrs.take (j + 1)).all (risI c) = true) := HS.out
            clear HS HE
            go_wp2
            refine wp_region_quiet_below (by kernel_rfl) (by kernel_rfl) ?_
            refine wpQuiet_load_row rfl 33 _ rfl w.heap.size rfl 33 _ (0, 0) _ (heap_regrown hV) Try.underlying33 rfl hi18 ?_
            quiet_step (fail)
            repeat (go_big_quiet_step (first | exact c1 _ _))
            refine wpQuiet_nil ?_
            rintro _ ⟨⟨dq, osq⟩, rfl⟩
            dsimp only
            have hb4 := below_regrown wr dq osq
            have HB4 : Hid (Below W0.heap.size W0 (grow (redrawn wr dq) osq)) := HB0.out.trans (hb4.mono HB0.out.size)
            have Hbw4 : Hid (Below w.heap.size w (grow (redrawn wr dq) osq)) := Hbw.out.trans (hb4.mono Hbw.out.size)
            clear c1 cr1 cr3 hb4 hV HB0 Hbw y16
            generalize grow (redrawn wr dq) osq = w4 at *
            clear Hbw4
            go_wp2
            go_roundw
            case rel => exact ⟨j + 1, by omega, by go_num, HB4.out, HS2.out⟩
            case measure => simp [intOf]; omega
          · have HE2 : Hid (R = false) := HE.out rfl
            clear HS HE
            go_wp2
            refine wp_region_quiet_below (by kernel_rfl) (by kernel_rfl) ?_
            refine wpQuiet_load_row rfl 33 _ rfl w.heap.size rfl 33 _ (0, 0) _ (heap_regrown hV) Try.underlying33 rfl hi18 ?_
            quiet_step (fail)
            repeat (go_big_quiet_step (first | exact c1 _ _))
            refine wpQuiet_nil ?_
            rintro _ ⟨⟨dq, osq⟩, rfl⟩
            dsimp only
            have hb4 := below_regrown wr dq osq
            have HB4 : Hid (Below W0.heap.size W0 (grow (redrawn wr dq) osq)) := HB0.out.trans (hb4.mono HB0.out.size)
            have Hbw4 : Hid (Below w.heap.size w (grow (redrawn wr dq) osq)) := Hbw.out.trans (hb4.mono Hbw.out.size)
            clear c1 cr1 cr3 hb4 hV HB0 Hbw y16
            generalize grow (redrawn wr dq) osq = w4 at *
            go_wp2
            go_ret
            exact ⟨ret_bool HE2.out.symm, Hbw4.out⟩
        · obtain rfl : j = v.i.n := by omega
          have hlt' : ¬ ((v.i.n : Nat) : Int) < (v.i.n : Nat) := by omega
          have HAI : Hid (c.isrs.all (risI c) = true) := by show _ = _; rw [← HJ.out.2, List.take_of_length_le (by rw [HNI.out]; exact Nat.le_refl _)]
          have HBI : Hid (Below W0.heap.size W0 wr) := HJ.out.1
          clear hCf hbw hV HJ Hbw y11 y12
          go_wp2
          clear y16

          go_loopw [5, 6] (fun iv _ wr => ∃ j : Nat, j ≤ v.r.n ∧ iv = .int .i64 j ∧ Hid (Below W0.heap.size W0 wr ∧ (c.ress.take j).all (lmB c.ress.length) = true)) (fun iv _ _ => v.r.n - (intOf iv).toNat)
          case atStart => exact ⟨0, by omega, rfl, HBI.out, by simp⟩
          case round =>
            obtain ⟨j, hj, rfl, HJ⟩ := hrel
            obtain ⟨hV, y11, y12, y16, hCf, hbw⟩ := HF.out _ HJ.out.1
            by_cases hlt : j < v.r.n
            · have hlt' : (j : Int) < v.r.n := by omega
              obtain ⟨x, hx⟩ : ∃ x, c.ress[j]? = some x := ⟨_, List.getElem?_eq_getElem (by rw [← HNR.out]; exact hlt)⟩
              obtain ⟨g, off, e, hg, a0, a1, a2⟩ := rs_at hCf hx
              have hng : g ≠ wr.heap.size := Nat.ne_of_lt hg
              have hvl := heap_lt hV
              have hng2 : w.heap.size ≠ wr.heap.size := Nat.ne_of_lt hvl
              have HT : Hid ((c.ress.take (j + 1)).all (lmB c.ress.length) = lmB c.ress.length x) := by show _ = _; rw [all_take _ _ j x hx, HJ.out.2, Bool.true_and]
              have HFF : Hid (lmB c.ress.length x = false → R = false) := fun hf => HRR.out (by rw [List.all_eq_false]; exact ⟨x, List.mem_of_getElem? hx, by rw [hf]; decide⟩)
              have HL : Hid (lmB c.ress.length x = (x.kind == 1 || x.kind == 3 || (x.kind == 2 && isId x.link v.r.n))) := by show _ = _; rw [HNR.out]; rfl
              have hst : (storeCells ⟨wr.heap.size, 0, none⟩ [S x.name, I x.kind, I x.link] 0).run Try.prog (wr.alloc (.cells #[.string ⟨#[]⟩, .int .i64 0, .int .i64 0] 89)) = .ok () (wr.alloc (.cells #[S x.name, I x.kind, I x.link] 89)) :=
                run_storeCells_new (P := Try.prog) wr 89 #[.string ⟨#[]⟩, .int .i64 0, .int .i64 0] #[S x.name, I x.kind, I x.link] (by kernel_rfl) rfl (by simp [Value.oneCell'])
              have Hal : Hid (∀ o, Below w.heap.size w (wr.alloc o)) := fun o => hbw.trans ((below_alloc wr o).mono hbw.size)
              have Hal0 : Hid (∀ o, Below W0.heap.size W0 (wr.alloc o)) := fun o => HJ.out.1.trans ((below_alloc wr o).mono HJ.out.1.size)
              rw [e] at y12
              clear hx hbw hCf hV HJ y11 y16
              generalize lmB c.ress.length x = B at *
              have hsp : ((x.kind == 1) = true ∧ (x.kind == 2) = false) ∨ ((x.kind == 1) = false ∧ (x.kind == 3) = true ∧ (x.kind == 2) = false) ∨ ((x.kind == 1) = false ∧ (x.kind == 3) = false ∧ (x.kind == 2) = false) ∨ ((x.kind == 1) = false ∧ (x.kind == 3) = false ∧ (x.kind == 2) = true) := by
                by_cases h1 : x.kind = 1
                · left; rw [h1]; exact ⟨rfl, rfl⟩
                · by_cases h3 : x.kind = 3
                  · right; left; rw [h3]; exact ⟨rfl, rfl, rfl⟩
                  · have e1 : (x.kind == 1) = false := by simpa using h1
                    have e3 : (x.kind == 3) = false := by simpa using h3
                    cases h2 : x.kind == 2 with
                    | false => right; right; left; exact ⟨e1, e3, rfl⟩
                    | true => right; right; right; exact ⟨e1, e3, rfl⟩
              rcases hsp with ⟨k1, k2⟩ | ⟨k1, k3, k2⟩ | ⟨k1, k3, k2⟩ | ⟨k1, k3, k2⟩
              · have n1 : (x.kind != 1) = false := by simp only [bne, k1]; rfl
                have HT2 : Hid ((c.ress.take (j + 1)).all (lmB c.ress.length) = true) := by show _ = _; rw [HT.out, HL.out, k1]; rfl
                clear HT HL HFF
                go_wp2
                go_roundw
                case rel => exact ⟨j + 1, by omega, by go_num, Hal0.out _, HT2.out⟩
                case measure => simp [intOf]; omega
              · have n1 : (x.kind != 1) = true := by simp only [bne, k1]; rfl
                have n2 : (x.kind != 2) = true := by simp only [bne, k2]; rfl
                have n3 : (x.kind != 3) = false := by simp only [bne, k3]; rfl
                have HT2 : Hid ((c.ress.take (j + 1)).all (lmB c.ress.length) = true) := by show _ = _; rw [HT.out, HL.out, k1, k3]; rfl
                clear HT HL HFF
                go_wp2
                go_roundw
                case rel => exact ⟨j + 1, by omega, by go_num, Hal0.out _, HT2.out⟩
                case measure => simp [intOf]; omega
              · have n1 : (x.kind != 1) = true := by simp only [bne, k1]; rfl
                have n2 : (x.kind != 2) = true := by simp only [bne, k2]; rfl
                have n3 : (x.kind != 3) = true := by simp only [bne, k3]; rfl
                have HE : Hid (R = false) := HFF.out (by rw [HL.out, k1, k3, k2]; rfl)
                clear HT HL HFF
                go_wp2
                go_ret
                exact ⟨ret_bool HE.out.symm, Hal.out _⟩
              · have n1 : (x.kind != 1) = true := by simp only [bne, k1]; rfl
                have n2 : (x.kind != 2) = false := by simp only [bne, k2]; rfl
                have HB : Hid (B = isId x.link v.r.n) := by show _ = _; rw [HL.out, k1, k3, k2]; rfl
                by_cases l0 : x.link < 0
                · have HE : Hid (R = false) := HFF.out (by rw [HB.out, isId, decide_eq_false (show ¬ 0 ≤ x.link by omega)]; rfl)
                  clear HT HL HFF HB
                  go_wp2
                  go_ret
                  exact ⟨ret_bool HE.out.symm, Hal.out _⟩
                · by_cases l1 : x.link ≥ (v.r.n : Int)
                  · have HE : Hid (R = false) := HFF.out (by rw [HB.out, isId, decide_eq_false (show ¬ x.link < v.r.n by omega), Bool.and_false])
                    clear HT HL HFF HB
                    go_wp2
                    go_ret
                    exact ⟨ret_bool HE.out.symm, Hal.out _⟩
                  · have HT2 : Hid ((c.ress.take (j + 1)).all (lmB c.ress.length) = true) := by show _ = _; rw [HT.out, HB.out, isId, decide_eq_true (show 0 ≤ x.link by omega), decide_eq_true (show x.link < v.r.n by omega)]; rfl
                    clear HT HL HFF HB
                    go_wp2
                    go_roundw
                    case rel => exact ⟨j + 1, by omega, by go_num, Hal0.out _, HT2.out⟩
                    case measure => simp [intOf]; omega
            · obtain rfl : j = v.r.n := by omega
              have hlt' : ¬ ((v.r.n : Nat) : Int) < (v.r.n : Nat) := by omega
              have HE : Hid (R = true) := HRA.out HAT.out HAI.out (by rw [← HJ.out.2, List.take_of_length_le (by rw [HNR.out]; exact Nat.le_refl _)])
              clear hCf hV HJ y11 y16
              go_wp2
              go_ret
              exact ⟨ret_bool HE.out.symm, hbw⟩

end Go.Proofs.Ytapfbinaocaclaa
