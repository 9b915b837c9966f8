import Derived.Test.YthhckhifaolmkaaGreatXTda
namespace Go.Proofs.YthhckhifaolmkaaGreat
open Go.RowKit Go.Shelf Go.Sort
set_option linter.unusedVariables false
set_option linter.unusedSimpArgs false

/-! ### The document's isrs -/
theorem wpList_load_row9 {P : Program} {ops : Array Oper} {rest : List Oper} {o : Oper} {a : Act} {w : World} {Q : Exit → Act → World → Prop} (hgd : Region.wanted o (yielded ops a.tmps) = true) (ty : TypeId) (x : Operand) (ho : o.op = .load ty x)
    (g : Nat) (hx : a.eval x = .pointer (some ⟨g, 0, none⟩)) (t : TypeId) (cs : Array Value) (fr : Nat × Nat) (d : TypeDesc) (hg : w.heap[g]? = some (.cells cs t fr))
    (hu : P.underlying ty = some d) (hd : (match d with | .struct _ | .array _ _ => true | _ => false) = true) (hi : (P.info? ty).map (·.size) = some cs.size)
    (h : wpList P ops Q rest (a.put o.dst (.agg cs)) w) : wpList P ops Q (o :: rest) a w :=
  BigFrame.wpList_want hgd fun _ hK => wp_load_row ty x ho g hx t cs fr d hg hu hd hi (hK _ _ h)
set_option maxHeartbeats 16000000 in
set_option maxRecDepth 100000 in
theorem isrs_any9 (tb : Tb) (v : Ts) (w : World) (h : TbAt w tb v) : Calls Tryz.prog 80 #[.agg (tbC tb v)] w fun e w' => e = .returned (.bool (isrsG tb [] tb.isrs)) ∧ Below w.heap.size w w' := by
  have hb := below_alloc w (.cells (tbC tb v) 37)
  have hV0 := heap_alloc_new w (.cells (tbC tb v) 37)
  have HT : Hid (TbAt (w.alloc (.cells (tbC tb v) 37)) tb v) := h.below hb
  have HB0 : Hid (Below w.heap.size w (w.alloc (.cells (tbC tb v) 37))) := hb
  have HV0 : Hid ((w.alloc (.cells (tbC tb v) 37)).heap[w.heap.size]? = some (.cells (tbC tb v) 37)) := hV0
  have HIn : Hid (v.i.n = tb.isrs.length) := h.i.n
  have hic : v.i.n ≤ v.i.c := h.i.c
  have him : v.i.c ≤ maxLen := h.i.m
  unfold maxLen at him
  obtain ⟨R, hR⟩ : ∃ R, R = isrsG tb [] tb.isrs := ⟨_, rfl⟩
  rw [← hR]
  have HR : Hid (R = isrsG tb (tb.isrs.take 0) (tb.isrs.drop 0)) := hR
  have HO : Hid (∀ (W : World) (x : IsR) (s : Sl), TbAt W tb v → RowsAt W 1 intP s x.own → Calls Tryz.prog 124 #[.agg (tbC tb v), .slice s.a s.n s.c, I x.prio] W fun e w' => e = .returned (.bool (ownG tb x.prio (-1) x.own)) ∧ Below W.heap.size W w') := fun W x s hT hs => owned_any tb v W hT s x.own hs x.prio
  have hi30 : (Tryz.prog.info? 37).map (·.size) = some (tbC tb v).size := by kernel_rfl
  clear h hR hb hV0
  unfold tbC at *
  go_enter Tryz.func80, Tryz.ntmps80
  generalize hW : w.alloc (.cells #[I tb.uses, I tb.modes, .slice v.t.a v.t.n v.t.c, .slice v.g.a v.g.n v.g.c, .slice v.r.a v.r.n v.r.c, .slice v.k.a v.k.n v.k.c, .slice v.a.a v.a.n v.a.c, .slice v.i.a v.i.n v.i.c, .slice v.s.a v.s.n v.s.c, I tb.depth, I tb.frames, I tb.errors, I tb.calls] 37) = W1 at *
  go_upto_region 1 with fail
  clear hW
  go_wp2
  go_loopw [3] (fun iv wr => ∃ j : Nat, j ≤ v.i.n ∧ iv = .int .i64 j ∧ Hid (R = isrsG tb (tb.isrs.take j) (tb.isrs.drop j) ∧ Below W1.heap.size W1 wr)) (fun iv _ => v.i.n - (intOf iv).toNat)
  case atStart => exact ⟨0, by omega, rfl, HR.out, Below.refl _ _⟩
  case round =>
    clear HR
    obtain ⟨j, hj, rfl, HJ⟩ := hrel
    have HBW : Hid (Below w.heap.size w wr) := HB0.out.trans (HJ.out.2.mono HB0.out.size)
    have HTW : Hid (TbAt wr tb v) := HT.out.below HJ.out.2
    have HVW : Hid (wr.heap[w.heap.size]? = some (.cells #[I tb.uses, I tb.modes, .slice v.t.a v.t.n v.t.c, .slice v.g.a v.g.n v.g.c, .slice v.r.a v.r.n v.r.c, .slice v.k.a v.k.n v.k.c, .slice v.a.a v.a.n v.a.c, .slice v.i.a v.i.n v.i.c, .slice v.s.a v.s.n v.s.c, I tb.depth, I tb.frames, I tb.errors, I tb.calls] 37)) := (HJ.out.2.block _ (heap_lt HV0.out)).trans HV0.out
    obtain ⟨_, _, _, _, _, _, _, c7, _⟩ := var13 HVW.out
    by_cases hlt : j < v.i.n
    · have hlt' : (j : Int) < v.i.n := by omega
      obtain ⟨x, hx⟩ : ∃ x, tb.isrs[j]? = some x := ⟨_, List.getElem?_eq_getElem (by rw [← HIn.out]; exact hlt)⟩
      obtain ⟨g5, o5, s2, e5, hg5, q0, q1, q2, r2⟩ := isr_at HTW.out hx
      have HX : Hid (R = (isB tb x && (tb.isrs.take j).all (fun a => apartB a x) && isrsG tb (tb.isrs.take (j + 1)) (tb.isrs.drop (j + 1)))) := by
        have h9 := HJ.out.1
        rw [drop_at hx, isrsG] at h9
        show _ = _
        rw [h9, List.take_add_one, hx]
        rfl
      obtain ⟨xc, hxc⟩ : ∃ xc, xc = x.cat := ⟨_, rfl⟩
      obtain ⟨xp, hxp⟩ : ∃ xp, xp = x.prio := ⟨_, rfl⟩
      obtain ⟨ow, how⟩ : ∃ ow, ow = ownG tb x.prio (-1) x.own := ⟨_, rfl⟩
      have kO := HO.out (wr.alloc (.cells #[I xc, I xp, .slice s2.a s2.n s2.c] 88)) x s2 (HTW.out.below (below_alloc wr _)) (r2.below (below_alloc wr _) (fun _ _ _ _ h => h))
      have HBI : Hid (isB tb x = (inI xc 1 2 && inI xp 64 127 && (xc == 2 || (s2.n == 0)) && ow)) := by
        show _ = _
        unfold isB
        rw [hxc, hxp, how, r2.n]
        congr 2
        cases x.own <;> rfl
      rw [← how, ← hxp] at kO
      rw [← hxc] at q0
      rw [← hxp] at q1
      have HXC : Hid (x.cat = xc ∧ x.prio = xp) := ⟨hxc.symm, hxp.symm⟩
      have HBX : Hid (Below wr.heap.size wr (wr.alloc (.cells #[I xc, I xp, .slice s2.a s2.n s2.c] 88))) := below_alloc wr _
      have hXN : (wr.alloc (.cells #[I xc, I xp, .slice s2.a s2.n s2.c] 88)).heap[wr.heap.size]? = some (.cells #[I xc, I xp, .slice s2.a s2.n s2.c] 88) := heap_alloc_new wr _
      have hVX : (wr.alloc (.cells #[I xc, I xp, .slice s2.a s2.n s2.c] 88)).heap[w.heap.size]? = some (.cells #[I tb.uses, I tb.modes, .slice v.t.a v.t.n v.t.c, .slice v.g.a v.g.n v.g.c, .slice v.r.a v.r.n v.r.c, .slice v.k.a v.k.n v.k.c, .slice v.a.a v.a.n v.a.c, .slice v.i.a v.i.n v.i.c, .slice v.s.a v.s.n v.s.c, I tb.depth, I tb.frames, I tb.errors, I tb.calls] 37) := ((below_alloc wr _).block _ (heap_lt HVW.out)).trans HVW.out
      have HB1 : Hid (Below W1.heap.size W1 wr) := HJ.out.2
      have HE5 : Hid (v.i.a = some ⟨g5, o5, none⟩) := e5
      rw [e5] at c7
      rw [HBI.out] at HX
      clear hx HJ r2 hg5 HVW hxc hxp how HBI e5
      go_upto_region 5 with fail
      generalize (wr.alloc (.cells #[I xc, I xp, .slice s2.a s2.n s2.c] 88)) = W5 at *
      have HXX : Hid (∀ W, Below W5.heap.size W5 W → W.cell? ⟨wr.heap.size, 0, none⟩ = some (I xc) ∧ W.cell? ⟨wr.heap.size, 1, none⟩ = some (I xp) ∧ W.cell? ⟨wr.heap.size, 2, none⟩ = some (.slice s2.a s2.n s2.c) ∧ W.cell? ⟨w.heap.size, 7, none⟩ = some (.slice (some ⟨g5, o5, none⟩) v.i.n v.i.c)) := fun W hW => by
        have h1 := (hW.block _ (heap_lt hXN)).trans hXN
        have h2 := (hW.block _ (heap_lt hVX)).trans hVX
        obtain ⟨_, _, _, _, _, _, _, e7, _⟩ := var13 h2
        rw [HE5.out] at e7
        exact ⟨by rw [cell_of_row W _ 0 _ _ (0, 0) h1]; rfl, by rw [cell_of_row W _ 1 _ _ (0, 0) h1]; rfl, by rw [cell_of_row W _ 2 _ _ (0, 0) h1]; rfl, e7⟩
      obtain ⟨x0, x1, x2, _⟩ := HXX.out W5 (Below.refl _ _)
      have HB5 : Hid (Below w.heap.size w W5) := HBW.out.trans (HBX.out.mono HBW.out.size)
      have HB15 : Hid (Below W1.heap.size W1 W5) := HB1.out.trans (HBX.out.mono HB1.out.size)
      clear hXN c7 q0 q1 q2
      by_cases g1 : xc < 1
      · have HE : Hid (R = false) := by
          show _ = _
          rw [HX.out]
          have : inI xc 1 2 = false := by unfold inI; simp; omega
          rw [this]; rfl
        clear HX
        go_wp2
        go_ret
        exact ⟨ret_bool' (by rw [HE.out]), HB5.out⟩
      by_cases g2 : 2 < xc
      · have HE : Hid (R = false) := by
          show _ = _
          rw [HX.out]
          have : inI xc 1 2 = false := by unfold inI; simp; omega
          rw [this]; rfl
        clear HX
        go_wp2
        go_ret
        exact ⟨ret_bool' (by rw [HE.out]), HB5.out⟩
      have HG : Hid (inI xc 1 2 = true) := by show _ = _; unfold inI; simp; omega
      by_cases g3 : xp < 64
      · have HE : Hid (R = false) := by
          show _ = _
          rw [HX.out]
          have : inI xp 64 127 = false := by unfold inI; simp; omega
          rw [this]; simp
        clear HX
        go_wp2
        go_ret
        exact ⟨ret_bool' (by rw [HE.out]), HB5.out⟩
      by_cases g4 : 127 < xp
      · have HE : Hid (R = false) := by
          show _ = _
          rw [HX.out]
          have : inI xp 64 127 = false := by unfold inI; simp; omega
          rw [this]; simp
        clear HX
        go_wp2
        go_ret
        exact ⟨ret_bool' (by rw [HE.out]), HB5.out⟩
      have HG2 : Hid (inI xp 64 127 = true) := by show _ = _; unfold inI; simp; omega
      rw [HG.out, HG2.out] at HX
      cases ow with
      | false =>
        have HE : Hid (R = false) := by show _ = _; rw [HX.out]; simp
        clear HX
        go_wp2_with (first | (refine wpList_load_row9 (by kernel_rfl) 37 _ rfl w.heap.size rfl 37 _ (0, 0) _ hVX Tryz.underlying37 rfl hi30 ?_; simp only [Act.put, List.getElem_toArray, List.getElem_cons_succ, List.getElem_cons_zero, List.setIfInBounds_toArray, List.set_cons_zero, List.set_cons_succ]))
        refine kO.mono ?_
        clear kO
        rintro e w6 ⟨rfl, hb6⟩
        obtain ⟨z0, z1, z2, z7⟩ := HXX.out w6 hb6
        have HB6 : Hid (Below W5.heap.size W5 w6) := hb6
        clear hb6 hVX x0 x1 x2
        go_wp2
        go_ret
        exact ⟨ret_bool' (by rw [HE.out]), HB5.out.trans (HB6.out.mono HB5.out.size)⟩
      | true =>
        by_cases g5 : xc = 1 ∧ 0 < s2.n
        · obtain ⟨e1, e2⟩ := g5
          have HE : Hid (R = false) := by
            show _ = _
            rw [HX.out, e1]
            have : (s2.n == 0) = false := by simp; omega
            rw [this]; rfl
          have e3 : (0 : Int) < (s2.n : Int) := by omega
          clear HX HXC HG
          subst e1
          go_wp2_with (first | (refine wpList_load_row9 (by kernel_rfl) 37 _ rfl w.heap.size rfl 37 _ (0, 0) _ hVX Tryz.underlying37 rfl hi30 ?_; simp only [Act.put, List.getElem_toArray, List.getElem_cons_succ, List.getElem_cons_zero, List.setIfInBounds_toArray, List.set_cons_zero, List.set_cons_succ]))
          refine kO.mono ?_
          clear kO
          rintro e w6 ⟨rfl, hb6⟩
          obtain ⟨z0, z1, z2, z7⟩ := HXX.out w6 hb6
          have HB6 : Hid (Below W5.heap.size W5 w6) := hb6
          clear hb6 hVX x0 x1 x2
          go_wp2
          go_ret
          exact ⟨ret_bool' (by rw [HE.out]), HB5.out.trans (HB6.out.mono HB5.out.size)⟩
        · have hcase : xc = 2 ∨ (xc = 1 ∧ s2.n = 0) := by omega
          clear g5
          rcases hcase with e1 | ⟨e1, e2⟩
          · subst e1
            have HXD : Hid (R = ((tb.isrs.take j).all (fun a => apartB a x) && isrsG tb (tb.isrs.take (j + 1)) (tb.isrs.drop (j + 1)))) := by show _ = _; rw [HX.out]; simp
            clear HX
            go_wp2_with (first | (refine wpList_load_row9 (by kernel_rfl) 37 _ rfl w.heap.size rfl 37 _ (0, 0) _ hVX Tryz.underlying37 rfl hi30 ?_; simp only [Act.put, List.getElem_toArray, List.getElem_cons_succ, List.getElem_cons_zero, List.setIfInBounds_toArray, List.set_cons_zero, List.set_cons_succ]))
            refine kO.mono ?_
            clear kO
            rintro e w6 ⟨rfl, hb6⟩
            obtain ⟨z0, z1, z2, z7⟩ := HXX.out w6 hb6
            have HB6 : Hid (Below W5.heap.size W5 w6) := hb6
            clear hb6 hVX x0 x1 x2
            go_wp2
            have HNX : Hid (R = ((tb.isrs.take j).all (fun a => apartB a x) && isrsG tb (tb.isrs.take (j + 1)) (tb.isrs.drop (j + 1)))) := HXD.out
            clear HXD z0 z1 z2 z7
            go_loopw [5] (fun kv wr3 => ∃ k : Nat, k ≤ j ∧ kv = .int .i64 k ∧ Hid ((tb.isrs.take k).all (fun a => apartB a x) = true ∧ Below w6.heap.size w6 wr3)) (fun kv _ => j - (intOf kv).toNat)
            case atStart => exact ⟨0, by omega, rfl, rfl, Below.refl _ _⟩
            case round =>
              obtain ⟨k, hk, rfl, HK⟩ := hrel
              rename World => wr3
              have HB53 : Hid (Below W5.heap.size W5 wr3) := HB6.out.trans (HK.out.2.mono HB6.out.size)
              by_cases hlk : k < j
              · have hlk' : (k : Int) < j := by omega
                have hlk2 : (k : Int) < v.i.n := by omega
                obtain ⟨y, hy⟩ : ∃ y, tb.isrs[k]? = some y := ⟨_, List.getElem?_eq_getElem (by rw [← HIn.out]; omega)⟩
                obtain ⟨g6, o6, s3, e6, hg6, y0, y1, y2, _⟩ := isr_at ((HTW.out.below HBX.out).below HB53.out) hy
                have e7 := HE5.out.symm.trans e6
                cases e7
                obtain ⟨z0, z1, z2, z7⟩ := HXX.out wr3 HB53.out
                have HTT : Hid (apartB y x = false → R = false) := fun ht => by
                  rw [HNX.out, all_false9 (p := fun a => apartB a x) (l := tb.isrs.take j) (j := k) (x := y) (by rw [List.getElem?_take, if_pos hlk]; exact hy) ht]
                  rfl
                have HAA : Hid (apartB y x = true → (tb.isrs.take (k + 1)).all (fun a => apartB a x) = true) := fun ht => by
                  rw [all_take9 _ _ k _ hy, HK.out.1]
                  simpa using ht
                obtain ⟨yc, hyc⟩ : ∃ yc, yc = y.cat := ⟨_, rfl⟩
                obtain ⟨yp, hyp⟩ : ∃ yp, yp = y.prio := ⟨_, rfl⟩
                rw [← hyc] at y0
                rw [← hyp] at y1
                have HYC : Hid (y.cat = yc ∧ y.prio = yp) := ⟨hyc.symm, hyp.symm⟩
                have HBY : Hid (Below wr3.heap.size wr3 (wr3.alloc (.cells #[I yc, I yp, .slice s3.a s3.n s3.c] 88))) := below_alloc wr3 _
                have HYN : Hid ((wr3.alloc (.cells #[I yc, I yp, .slice s3.a s3.n s3.c] 88)).heap[wr3.heap.size]? = some (.cells #[I yc, I yp, .slice s3.a s3.n s3.c] 88)) := heap_alloc_new wr3 _
                have HB67 : Hid (Below w6.heap.size w6 (wr3.alloc (.cells #[I yc, I yp, .slice s3.a s3.n s3.c] 88))) := HK.out.2.trans ((below_alloc wr3 _).mono HK.out.2.size)
                have HB57 : Hid (Below W5.heap.size W5 (wr3.alloc (.cells #[I yc, I yp, .slice s3.a s3.n s3.c] 88))) := HB53.out.trans ((below_alloc wr3 _).mono HB53.out.size)
                clear hy e6 hg6 hyc hyp HK
                go_upto_region 11 with fail
                generalize (wr3.alloc (.cells #[I yc, I yp, .slice s3.a s3.n s3.c] 88)) = W7 at *
                clear z0 z1 z2 z7 y0 y1 y2
                obtain ⟨z0, z1, z2, z7⟩ := HXX.out W7 HB57.out
                have y0 : W7.cell? ⟨wr3.heap.size, 0, none⟩ = some (I yc) := by rw [cell_of_row W7 _ 0 _ _ (0, 0) HYN.out]; rfl
                have y1 : W7.cell? ⟨wr3.heap.size, 1, none⟩ = some (I yp) := by rw [cell_of_row W7 _ 1 _ _ (0, 0) HYN.out]; rfl
                clear z7 z2
                by_cases p0 : yp = xp
                · have p0' : (yp == xp) = true := by simpa using p0
                  have HE : Hid (R = false) := HTT.out (by rw [Bool.eq_false_iff]; intro h; unfold apartB at h; rw [HYC.out.1, HYC.out.2, HXC.out.1, HXC.out.2] at h; simp at h; omega)
                  clear HTT HAA
                  go_wp2
                  go_ret
                  exact ⟨ret_bool' (by rw [HE.out]), HB5.out.trans (HB57.out.mono HB5.out.size)⟩
                · have p0' : (yp == xp) = false := by simpa using p0
                  by_cases p1 : xp < yp
                  · have p2 : ¬ yp < xp := by omega
                    by_cases c1 : 2 < yc
                    · have c2 : ¬ yc < 2 := by omega
                      · have HE : Hid (R = false) := HTT.out (by rw [Bool.eq_false_iff]; intro h; unfold apartB at h; rw [HYC.out.1, HYC.out.2, HXC.out.1, HXC.out.2] at h; simp at h; omega)
                        clear HTT HAA
                        go_wp2
                        go_ret
                        exact ⟨ret_bool' (by rw [HE.out]), HB5.out.trans (HB57.out.mono HB5.out.size)⟩
                    · by_cases c2 : yc < 2
                      · have HA2 : Hid ((tb.isrs.take (k + 1)).all (fun a => apartB a x) = true) := HAA.out (by unfold apartB; rw [HYC.out.1, HYC.out.2, HXC.out.1, HXC.out.2]; simp; omega)
                        clear HTT HAA
                        go_wp2
                        go_roundw
                        case rel => exact ⟨k + 1, by omega, by go_num, HA2.out, HB67.out⟩
                        case measure => simp [intOf]; omega
                      · have HA2 : Hid ((tb.isrs.take (k + 1)).all (fun a => apartB a x) = true) := HAA.out (by unfold apartB; rw [HYC.out.1, HYC.out.2, HXC.out.1, HXC.out.2]; simp; omega)
                        clear HTT HAA
                        go_wp2
                        go_roundw
                        case rel => exact ⟨k + 1, by omega, by go_num, HA2.out, HB67.out⟩
                        case measure => simp [intOf]; omega
                  · have p2 : yp < xp := by omega
                    by_cases c1 : 2 < yc
                    · have c2 : ¬ yc < 2 := by omega
                      · have HA2 : Hid ((tb.isrs.take (k + 1)).all (fun a => apartB a x) = true) := HAA.out (by unfold apartB; rw [HYC.out.1, HYC.out.2, HXC.out.1, HXC.out.2]; simp; omega)
                        clear HTT HAA
                        go_wp2
                        go_roundw
                        case rel => exact ⟨k + 1, by omega, by go_num, HA2.out, HB67.out⟩
                        case measure => simp [intOf]; omega
                    · by_cases c2 : yc < 2
                      · have HE : Hid (R = false) := HTT.out (by rw [Bool.eq_false_iff]; intro h; unfold apartB at h; rw [HYC.out.1, HYC.out.2, HXC.out.1, HXC.out.2] at h; simp at h; omega)
                        clear HTT HAA
                        go_wp2
                        go_ret
                        exact ⟨ret_bool' (by rw [HE.out]), HB5.out.trans (HB57.out.mono HB5.out.size)⟩
                      · have HA2 : Hid ((tb.isrs.take (k + 1)).all (fun a => apartB a x) = true) := HAA.out (by unfold apartB; rw [HYC.out.1, HYC.out.2, HXC.out.1, HXC.out.2]; simp; omega)
                        clear HTT HAA
                        go_wp2
                        go_roundw
                        case rel => exact ⟨k + 1, by omega, by go_num, HA2.out, HB67.out⟩
                        case measure => simp [intOf]; omega
              · obtain rfl : k = j := by omega
                have hlk' : ¬ ((k : Nat) : Int) < (k : Nat) := by omega
                have HN : Hid (R = isrsG tb (tb.isrs.take (k + 1)) (tb.isrs.drop (k + 1))) := by show _ = _; rw [HNX.out, HK.out.1]; rfl
                have HB13 : Hid (Below W1.heap.size W1 wr3) := HB15.out.trans (HB53.out.mono HB15.out.size)
                clear HK HNX
                go_wp2
                go_roundw
                case rel => exact ⟨k + 1, by omega, by go_num, HN.out, HB13.out⟩
                case measure => simp [intOf]; omega
          · subst e1
            have HXD : Hid (R = ((tb.isrs.take j).all (fun a => apartB a x) && isrsG tb (tb.isrs.take (j + 1)) (tb.isrs.drop (j + 1)))) := by show _ = _; rw [HX.out, e2]; simp
            have e3 : ¬ (0 : Int) < (s2.n : Int) := by omega
            have e4 : ¬ 0 < s2.n := by omega
            clear HX e2
            go_wp2_with (first | (refine wpList_load_row9 (by kernel_rfl) 37 _ rfl w.heap.size rfl 37 _ (0, 0) _ hVX Tryz.underlying37 rfl hi30 ?_; simp only [Act.put, List.getElem_toArray, List.getElem_cons_succ, List.getElem_cons_zero, List.setIfInBounds_toArray, List.set_cons_zero, List.set_cons_succ]))
            refine kO.mono ?_
            clear kO
            rintro e w6 ⟨rfl, hb6⟩
            obtain ⟨z0, z1, z2, z7⟩ := HXX.out w6 hb6
            have HB6 : Hid (Below W5.heap.size W5 w6) := hb6
            clear hb6 hVX x0 x1 x2
            go_wp2
            have HNX : Hid (R = ((tb.isrs.take j).all (fun a => apartB a x) && isrsG tb (tb.isrs.take (j + 1)) (tb.isrs.drop (j + 1)))) := HXD.out
            clear HXD z0 z1 z2 z7
            go_loopw [5] (fun kv wr3 => ∃ k : Nat, k ≤ j ∧ kv = .int .i64 k ∧ Hid ((tb.isrs.take k).all (fun a => apartB a x) = true ∧ Below w6.heap.size w6 wr3)) (fun kv _ => j - (intOf kv).toNat)
            case atStart => exact ⟨0, by omega, rfl, rfl, Below.refl _ _⟩
            case round =>
              obtain ⟨k, hk, rfl, HK⟩ := hrel
              rename World => wr3
              have HB53 : Hid (Below W5.heap.size W5 wr3) := HB6.out.trans (HK.out.2.mono HB6.out.size)
              by_cases hlk : k < j
              · have hlk' : (k : Int) < j := by omega
                have hlk2 : (k : Int) < v.i.n := by omega
                obtain ⟨y, hy⟩ : ∃ y, tb.isrs[k]? = some y := ⟨_, List.getElem?_eq_getElem (by rw [← HIn.out]; omega)⟩
                obtain ⟨g6, o6, s3, e6, hg6, y0, y1, y2, _⟩ := isr_at ((HTW.out.below HBX.out).below HB53.out) hy
                have e7 := HE5.out.symm.trans e6
                cases e7
                obtain ⟨z0, z1, z2, z7⟩ := HXX.out wr3 HB53.out
                have HTT : Hid (apartB y x = false → R = false) := fun ht => by
                  rw [HNX.out, all_false9 (p := fun a => apartB a x) (l := tb.isrs.take j) (j := k) (x := y) (by rw [List.getElem?_take, if_pos hlk]; exact hy) ht]
                  rfl
                have HAA : Hid (apartB y x = true → (tb.isrs.take (k + 1)).all (fun a => apartB a x) = true) := fun ht => by
                  rw [all_take9 _ _ k _ hy, HK.out.1]
                  simpa using ht
                obtain ⟨yc, hyc⟩ : ∃ yc, yc = y.cat := ⟨_, rfl⟩
                obtain ⟨yp, hyp⟩ : ∃ yp, yp = y.prio := ⟨_, rfl⟩
                rw [← hyc] at y0
                rw [← hyp] at y1
                have HYC : Hid (y.cat = yc ∧ y.prio = yp) := ⟨hyc.symm, hyp.symm⟩
                have HBY : Hid (Below wr3.heap.size wr3 (wr3.alloc (.cells #[I yc, I yp, .slice s3.a s3.n s3.c] 88))) := below_alloc wr3 _
                have HYN : Hid ((wr3.alloc (.cells #[I yc, I yp, .slice s3.a s3.n s3.c] 88)).heap[wr3.heap.size]? = some (.cells #[I yc, I yp, .slice s3.a s3.n s3.c] 88)) := heap_alloc_new wr3 _
                have HB67 : Hid (Below w6.heap.size w6 (wr3.alloc (.cells #[I yc, I yp, .slice s3.a s3.n s3.c] 88))) := HK.out.2.trans ((below_alloc wr3 _).mono HK.out.2.size)
                have HB57 : Hid (Below W5.heap.size W5 (wr3.alloc (.cells #[I yc, I yp, .slice s3.a s3.n s3.c] 88))) := HB53.out.trans ((below_alloc wr3 _).mono HB53.out.size)
                clear hy e6 hg6 hyc hyp HK
                go_upto_region 11 with fail
                generalize (wr3.alloc (.cells #[I yc, I yp, .slice s3.a s3.n s3.c] 88)) = W7 at *
                clear z0 z1 z2 z7 y0 y1 y2
                obtain ⟨z0, z1, z2, z7⟩ := HXX.out W7 HB57.out
                have y0 : W7.cell? ⟨wr3.heap.size, 0, none⟩ = some (I yc) := by rw [cell_of_row W7 _ 0 _ _ (0, 0) HYN.out]; rfl
                have y1 : W7.cell? ⟨wr3.heap.size, 1, none⟩ = some (I yp) := by rw [cell_of_row W7 _ 1 _ _ (0, 0) HYN.out]; rfl
                clear z7 z2
                by_cases p0 : yp = xp
                · have p0' : (yp == xp) = true := by simpa using p0
                  have HE : Hid (R = false) := HTT.out (by rw [Bool.eq_false_iff]; intro h; unfold apartB at h; rw [HYC.out.1, HYC.out.2, HXC.out.1, HXC.out.2] at h; simp at h; omega)
                  clear HTT HAA
                  go_wp2
                  go_ret
                  exact ⟨ret_bool' (by rw [HE.out]), HB5.out.trans (HB57.out.mono HB5.out.size)⟩
                · have p0' : (yp == xp) = false := by simpa using p0
                  by_cases p1 : xp < yp
                  · have p2 : ¬ yp < xp := by omega
                    by_cases c1 : 1 < yc
                    · have c2 : ¬ yc < 1 := by omega
                      · have HE : Hid (R = false) := HTT.out (by rw [Bool.eq_false_iff]; intro h; unfold apartB at h; rw [HYC.out.1, HYC.out.2, HXC.out.1, HXC.out.2] at h; simp at h; omega)
                        clear HTT HAA
                        go_wp2
                        go_ret
                        exact ⟨ret_bool' (by rw [HE.out]), HB5.out.trans (HB57.out.mono HB5.out.size)⟩
                    · by_cases c2 : yc < 1
                      · have HA2 : Hid ((tb.isrs.take (k + 1)).all (fun a => apartB a x) = true) := HAA.out (by unfold apartB; rw [HYC.out.1, HYC.out.2, HXC.out.1, HXC.out.2]; simp; omega)
                        clear HTT HAA
                        go_wp2
                        go_roundw
                        case rel => exact ⟨k + 1, by omega, by go_num, HA2.out, HB67.out⟩
                        case measure => simp [intOf]; omega
                      · have HA2 : Hid ((tb.isrs.take (k + 1)).all (fun a => apartB a x) = true) := HAA.out (by unfold apartB; rw [HYC.out.1, HYC.out.2, HXC.out.1, HXC.out.2]; simp; omega)
                        clear HTT HAA
                        go_wp2
                        go_roundw
                        case rel => exact ⟨k + 1, by omega, by go_num, HA2.out, HB67.out⟩
                        case measure => simp [intOf]; omega
                  · have p2 : yp < xp := by omega
                    by_cases c1 : 1 < yc
                    · have c2 : ¬ yc < 1 := by omega
                      · have HA2 : Hid ((tb.isrs.take (k + 1)).all (fun a => apartB a x) = true) := HAA.out (by unfold apartB; rw [HYC.out.1, HYC.out.2, HXC.out.1, HXC.out.2]; simp; omega)
                        clear HTT HAA
                        go_wp2
                        go_roundw
                        case rel => exact ⟨k + 1, by omega, by go_num, HA2.out, HB67.out⟩
                        case measure => simp [intOf]; omega
                    · by_cases c2 : yc < 1
                      · have HE : Hid (R = false) := HTT.out (by rw [Bool.eq_false_iff]; intro h; unfold apartB at h; rw [HYC.out.1, HYC.out.2, HXC.out.1, HXC.out.2] at h; simp at h; omega)
                        clear HTT HAA
                        go_wp2
                        go_ret
                        exact ⟨ret_bool' (by rw [HE.out]), HB5.out.trans (HB57.out.mono HB5.out.size)⟩
                      · have HA2 : Hid ((tb.isrs.take (k + 1)).all (fun a => apartB a x) = true) := HAA.out (by unfold apartB; rw [HYC.out.1, HYC.out.2, HXC.out.1, HXC.out.2]; simp; omega)
                        clear HTT HAA
                        go_wp2
                        go_roundw
                        case rel => exact ⟨k + 1, by omega, by go_num, HA2.out, HB67.out⟩
                        case measure => simp [intOf]; omega
              · obtain rfl : k = j := by omega
                have hlk' : ¬ ((k : Nat) : Int) < (k : Nat) := by omega
                have HN : Hid (R = isrsG tb (tb.isrs.take (k + 1)) (tb.isrs.drop (k + 1))) := by show _ = _; rw [HNX.out, HK.out.1]; rfl
                have HB13 : Hid (Below W1.heap.size W1 wr3) := HB15.out.trans (HB53.out.mono HB15.out.size)
                clear HK HNX
                go_wp2
                go_roundw
                case rel => exact ⟨k + 1, by omega, by go_num, HN.out, HB13.out⟩
                case measure => simp [intOf]; omega
    · obtain rfl : j = v.i.n := by omega
      have hlt' : ¬ ((v.i.n : Nat) : Int) < (v.i.n : Nat) := by omega
      have HE : Hid (R = true) := by
        have h9 := HJ.out.1
        rw [HIn.out, List.drop_length, isrsG] at h9
        exact h9
      clear HJ HVW HTW
      go_wp2
      go_ret
      exact ⟨ret_bool' (by rw [HE.out]), HBW.out⟩
end Go.Proofs.YthhckhifaolmkaaGreat

namespace Go.Proofs.YthhckhifaolmkaaGreat
open Go.RowKit Go.Shelf Go.Sort
set_option linter.unusedVariables false
set_option linter.unusedSimpArgs false

/-! ### The document's actionRow -/
set_option maxHeartbeats 16000000 in
set_option maxRecDepth 100000 in
theorem actionRow_any (tb : Tb) (v : Ts) (a : AcR) (lo hi : Int) (w : World) (h : TbAt w tb v) : Calls Tryz.prog 125 #[.agg (tbC tb v), .agg (acrC a), I lo, I hi] w fun e w' => e = .returned (.bool (acB tb a lo hi)) ∧ Below w.heap.size w w' := by
  have hb : Below w.heap.size w ((w.alloc (.cells (tbC tb v) 37)).alloc (.cells (acrC a) 93)) := (below_alloc w _).trans ((below_alloc _ _).mono (by simp))
  have hV1 : ((w.alloc (.cells (tbC tb v) 37)).alloc (.cells (acrC a) 93)).heap[w.heap.size]? = some (.cells (tbC tb v) 37) := by
    rw [heap_alloc_old _ _ (by simp)]; exact heap_alloc_new w _
  have hV2 : ((w.alloc (.cells (tbC tb v) 37)).alloc (.cells (acrC a) 93)).heap[w.heap.size + 1]? = some (.cells (acrC a) 93) := by
    have := heap_alloc_new (w.alloc (.cells (tbC tb v) 37)) (.cells (acrC a) 93)
    rw [World.size_alloc] at this
    exact this
  have HT : Hid (TbAt ((w.alloc (.cells (tbC tb v) 37)).alloc (.cells (acrC a) 93)) tb v) := h.below hb
  have HB0 : Hid (Below w.heap.size w ((w.alloc (.cells (tbC tb v) 37)).alloc (.cells (acrC a) 93))) := hb
  have HN : Hid (v.t.n = tb.tasks.length) := h.t.n
  have htc : v.t.n ≤ v.t.c := h.t.c
  have htm : v.t.c ≤ maxLen := h.t.m
  unfold maxLen at htm
  obtain ⟨R, hR⟩ : ∃ R, R = acB tb a lo hi := ⟨_, rfl⟩
  rw [← hR]
  have HR : Hid (R = (inI a.kind lo hi && (if a.kind = 1 then idB a.task v.t.n && (a.mask == 0) else if a.kind = 2 then idB a.task v.t.n && (a.mask != 0) && (bits BinOp.andNot IntKind.u32 (a.mask : Int) (maskOf tb a.task : Int) == 0) else (a.task == 0) && (a.mask == 0)))) := by
    show _ = _
    rw [hR, HN.out]
    rfl
  clear hR h hb
  unfold acrC tbC at *
  generalize a.kind = ak at *
  generalize a.task = at_ at *
  generalize a.mask = am at *
  go_enter Tryz.func125, Tryz.ntmps125
  go_upto_region 1 with fail
  generalize ((w.alloc (.cells #[I tb.uses, I tb.modes, .slice v.t.a v.t.n v.t.c, .slice v.g.a v.g.n v.g.c, .slice v.r.a v.r.n v.r.c, .slice v.k.a v.k.n v.k.c, .slice v.a.a v.a.n v.a.c, .slice v.i.a v.i.n v.i.c, .slice v.s.a v.s.n v.s.c, I tb.depth, I tb.frames, I tb.errors, I tb.calls] 37)).alloc (.cells #[I ak, I at_, .int .u32 (am : Int)] 93)) = W0 at *
  have z2 := cell_of_row _ w.heap.size 2 _ _ (0, 0) hV1
  have y0 := cell_of_row _ (w.heap.size + 1) 0 _ _ (0, 0) hV2
  have y1 := cell_of_row _ (w.heap.size + 1) 1 _ _ (0, 0) hV2
  have y2 := cell_of_row _ (w.heap.size + 1) 2 _ _ (0, 0) hV2
  simp at z2 y0 y1 y2
  clear hV1 hV2
  by_cases g1 : ak < lo
  · have HE : Hid (R = false) := by
      show _ = _
      rw [HR.out]
      have : inI ak lo hi = false := by unfold inI; simp; omega
      rw [this]; rfl
    clear HR
    go_wp2
    go_ret
    exact ⟨ret_bool' (by rw [HE.out]), HB0.out⟩
  by_cases g2 : hi < ak
  · have HE : Hid (R = false) := by
      show _ = _
      rw [HR.out]
      have : inI ak lo hi = false := by unfold inI; simp; omega
      rw [this]; rfl
    clear HR
    go_wp2
    go_ret
    exact ⟨ret_bool' (by rw [HE.out]), HB0.out⟩
  have HI : Hid (inI ak lo hi = true) := by show _ = _; unfold inI; simp; omega
  by_cases k1 : ak = 1
  · subst k1
    rw [HI.out] at HR
    by_cases t0 : at_ < 0
    · have HE : Hid (R = false) := by
        show _ = _
        rw [HR.out]
        have : idB at_ v.t.n = false := by unfold idB; simp; omega
        simp [this]
      clear HR HI
      go_wp2
      go_ret
      exact ⟨ret_bool' (by rw [HE.out]), HB0.out⟩
    · obtain ⟨k, rfl⟩ := Int.eq_ofNat_of_zero_le (show 0 ≤ at_ by omega)
      by_cases t1 : v.t.n ≤ k
      · have HE : Hid (R = false) := by
          show _ = _
          rw [HR.out]
          have : idB (k : Int) v.t.n = false := by unfold idB; simp; omega
          simp [this]
        clear HR HI
        go_wp2
        go_ret
        exact ⟨ret_bool' (by rw [HE.out]), HB0.out⟩
      · have HE : Hid (R = (am == 0)) := by
          show _ = _
          rw [HR.out]
          have : idB (k : Int) v.t.n = true := by unfold idB; simp; omega
          simp [this]
        clear HR HI
        go_wp2
        go_ret
        exact ⟨ret_bool' (by rw [HE.out, Bool.eq_iff_iff]; simp), HB0.out⟩
  have k1' : (ak == 1) = false := by simpa using k1
  by_cases k2 : ak = 2
  · subst k2
    rw [HI.out] at HR
    by_cases t0 : at_ < 0
    · have HE : Hid (R = false) := by
        show _ = _
        rw [HR.out]
        have : idB at_ v.t.n = false := by unfold idB; simp; omega
        simp [this]
      clear HR HI
      go_wp2
      go_ret
      exact ⟨ret_bool' (by rw [HE.out]), HB0.out⟩
    · obtain ⟨k, rfl⟩ := Int.eq_ofNat_of_zero_le (show 0 ≤ at_ by omega)
      by_cases t1 : v.t.n ≤ k
      · have HE : Hid (R = false) := by
          show _ = _
          rw [HR.out]
          have : idB (k : Int) v.t.n = false := by unfold idB; simp; omega
          simp [this]
        clear HR HI
        go_wp2
        go_ret
        exact ⟨ret_bool' (by rw [HE.out]), HB0.out⟩
      · obtain ⟨x, hx⟩ : ∃ x, tb.tasks[k]? = some x := ⟨_, List.getElem?_eq_getElem (by rw [← HN.out]; omega)⟩
        obtain ⟨g5, o5, s6, e5, hg5, q0, q1, q2, q3, q4, q5, q6, q7, r6⟩ := tkr_at HT.out hx
        have HE : Hid (R = ((am != 0) && (bits BinOp.andNot IntKind.u32 (am : Int) (x.mask : Int) == 0))) := by
          show _ = _
          rw [HR.out]
          have h1 : idB (k : Int) v.t.n = true := by unfold idB; simp; omega
          have h2 : maskOf tb (k : Int) = x.mask := by unfold maskOf; rw [Int.toNat_natCast, hx]
          simp [h1, h2]
        rw [e5] at z2
        have t2 : (k : Int) < v.t.n := by omega
        clear HR HI hx e5 q0 q1 q2 q3 q5 q6 q7 r6 hg5
        generalize x.mask = xm at *
        have x2 := cell_regrown z2
        have x0 := cell_regrown y0
        have x1 := cell_regrown y1
        have x5 := cell_regrown y2
        have xm4 := cell_regrown q4
        cases m0 : ((am : Int) != 0) with
        | false =>
          have m1 : am = 0 := by simp at m0; omega
          go_wp2
          refine wp_region_quiet_below (by kernel_rfl) (by kernel_rfl) ?_
          repeat (go_big_quiet_step (first | fail))
          refine wpQuiet_nil ?_
          rintro _ ⟨⟨dq, osq⟩, rfl⟩
          dsimp only
          have HB9 : Hid (Below w.heap.size w (grow (redrawn W0 dq) osq)) := HB0.out.trans ((below_regrown W0 dq osq).mono HB0.out.size)
          clear x2 x0 x1 x5 xm4
          generalize grow (redrawn W0 dq) osq = w9 at *
          go_wp2
          go_ret
          exact ⟨ret_bool' (by rw [HE.out, m1]; rfl), HB9.out⟩
        | true =>
          have HM : Hid ((am != 0) = true) := by show _ = _; simp at m0; simp; omega
          go_wp2
          refine wp_region_quiet_below (by kernel_rfl) (by kernel_rfl) ?_
          repeat (go_big_quiet_step (first | fail))
          refine wpQuiet_nil ?_
          rintro _ ⟨⟨dq, osq⟩, rfl⟩
          dsimp only
          have HB9 : Hid (Below w.heap.size w (grow (redrawn W0 dq) osq)) := HB0.out.trans ((below_regrown W0 dq osq).mono HB0.out.size)
          clear x2 x0 x1 x5 xm4
          generalize grow (redrawn W0 dq) osq = w9 at *
          go_wp2
          go_ret
          exact ⟨ret_bool' (by rw [HE.out, HM.out]; simp), HB9.out⟩
  have k2' : (ak == 2) = false := by simpa using k2
  rw [if_neg k1, if_neg k2, HI.out] at HR
  by_cases t0 : at_ = 0
  · subst t0
    have HE : Hid (R = (am == 0)) := by show _ = _; rw [HR.out]; simp
    clear HR HI
    go_wp2
    go_ret
    exact ⟨ret_bool' (by rw [HE.out, Bool.eq_iff_iff]; simp), HB0.out⟩
  · have t0' : (at_ == 0) = false := by simpa using t0
    have HE : Hid (R = false) := by show _ = _; rw [HR.out, t0']; rfl
    clear HR HI
    go_wp2
    go_ret
    exact ⟨ret_bool' (by rw [HE.out]), HB0.out⟩
end Go.Proofs.YthhckhifaolmkaaGreat

