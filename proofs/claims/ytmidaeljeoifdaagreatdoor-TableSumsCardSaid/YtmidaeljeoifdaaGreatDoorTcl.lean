import Derived.Test.YtmidaeljeoifdaaGreatDoorTcw
namespace Go.Proofs.YtmidaeljeoifdaaGreatDoor
set_option maxRecDepth 100000
set_option maxHeartbeats 16000000
open Go.RowKit Go.Shelf Go.Sort
set_option linter.unusedVariables false
set_option linter.unusedSimpArgs false
theorem alarmsFit1_any (tb : Tb) (v : Ts) (x : AlR) (V : Nat) (w : World) (h : TbAt w tb v) (hV : w.heap[V]? = some (.cells (tbC tb v) 30)) (ha : x.auto < 4294967296) (hm : 1 ≤ tb.modes ∧ tb.modes ≤ 8) :
  Calls Tryz.prog 61 #[.agg (alrC x), .pointer (some ⟨V, 0, none⟩)] w fun e w' => e = .returned (.bool (alB tb x)) ∧ Below w.heap.size w w' := by
 have hb := below_alloc w (.cells (alrC x) 95)
 have hX := heap_alloc_new w (.cells (alrC x) 95)
 have hV0 : (w.alloc (.cells (alrC x) 95)).heap[V]? = some (.cells (tbC tb v) 30) := (hb.block V (heap_lt hV)).trans hV
 have hT0 := h.below hb
 have HB0 : Hid (Below w.heap.size w (w.alloc (.cells (alrC x) 95))) := hb
 have HN : Hid (v.k.n = tb.ctrs.length) := h.k.n
 have hgc : v.k.n ≤ v.k.c := h.k.c
 have hgm : v.k.c ≤ maxLen := h.k.m
 unfold maxLen at hgm
 have hi30 : (Tryz.prog.info? 30).map (·.size) = some (tbC tb v).size := by kernel_rfl
 have hi82 : (Tryz.prog.info? 95).map (·.size) = some (alrC x).size := by kernel_rfl
 obtain ⟨R, hR⟩ : ∃ R, R = alB tb x := ⟨_, rfl⟩
 rw [← hR]
 have HX : Hid (R = (idB x.ctr v.k.n && acB tb x.ac 1 3 && autoB tb x.auto && timesB x (ctOf tb x.ctr))) := by
  show _ = _
  rw [hR, HN.out]
  rfl
 clear hR h hV hb
 go_enter Tryz.func61, Tryz.ntmps61
 unfold alrC tbC at *
 go_upto_region 1 with fail
 generalize (w.alloc (.cells #[I x.ctr, I x.ac.kind, I x.ac.task, .int .u32 (x.ac.mask : Int), .int .u32 (x.auto : Int), .int .u32 (x.time : Int), .int .u32 (x.cycle : Int)] 95)) = W0 at *
 have cI : ∀ d os, Calls Tryz.prog 62 #[I x.ctr, .slice v.k.a v.k.n v.k.c] (grow (redrawn W0 d) os) fun e w'' => e = .returned (.bool (idB x.ctr v.k.n)) ∧ ∃ p : Regrown, w'' = grow (redrawn W0 p.d) p.os := regrown_bel9 (fun W hW => calls_bel9 (isID_ctrs x.ctr v.k W))
 have cF : ∀ d os, Calls Tryz.prog 63 #[.agg #[I tb.uses, I tb.modes, .slice v.t.a v.t.n v.t.c, .slice v.g.a v.g.n v.g.c, .slice v.r.a v.r.n v.r.c, .slice v.k.a v.k.n v.k.c, .slice v.a.a v.a.n v.a.c, .slice v.i.a v.i.n v.i.c, .slice v.s.a v.s.n v.s.c, I tb.depth, I tb.frames, I tb.errors, I tb.calls], .agg #[I x.ac.kind, I x.ac.task, .int .u32 (x.ac.mask : Int)], I 1, I 3] (grow (redrawn W0 d) os) fun e w'' => e = .returned (.bool (acB tb x.ac 1 3)) ∧ ∃ p : Regrown, w'' = grow (redrawn W0 p.d) p.os := regrown_bel9 (fun W hW => actionFits_any tb v x.ac 1 3 W (hT0.below hW))
 have cA : ∀ d os, Calls Tryz.prog 56 #[.agg #[I tb.uses, I tb.modes, .slice v.t.a v.t.n v.t.c, .slice v.g.a v.g.n v.g.c, .slice v.r.a v.r.n v.r.c, .slice v.k.a v.k.n v.k.c, .slice v.a.a v.a.n v.a.c, .slice v.i.a v.i.n v.i.c, .slice v.s.a v.s.n v.s.c, I tb.depth, I tb.frames, I tb.errors, I tb.calls], .int .u32 (x.auto : Int)] (grow (redrawn W0 d) os) fun e w'' => e = .returned (.bool (autoB tb x.auto)) ∧ ∃ p : Regrown, w'' = grow (redrawn W0 p.d) p.os := regrown_bel9 (fun W hW => autoFits_any tb v x.auto ha hm W)
 have z5 := cell_regrown (var13 hV0).2.2.2.2.2.1
 have x0 := cell_of_row _ w.heap.size 0 _ _ (0, 0) hX
 have x1 := cell_of_row _ w.heap.size 1 _ _ (0, 0) hX
 have x2 := cell_of_row _ w.heap.size 2 _ _ (0, 0) hX
 have x3 := cell_of_row _ w.heap.size 3 _ _ (0, 0) hX
 have x4 := cell_of_row _ w.heap.size 4 _ _ (0, 0) hX
 simp at x0 x1 x2 x3 x4
 have y0 := cell_regrown x0
 have y1 := cell_regrown x1
 have y2 := cell_regrown x2
 have y3 := cell_regrown x3
 have y4 := cell_regrown x4
 have hRX := heap_regrown9 hX
 have hRV := heap_regrown9 hV0
 clear hX hV0 x0 x1 x2 x3 x4 ha hm
 cases b1 : idB x.ctr v.k.n with
 | false =>
  rw [b1] at cI HX
  refine wp_region_quiet_below (by kernel_rfl) (by kernel_rfl) ?_
  repeat (first | (go_big_quiet_step (first | exact cI _ _)) | (refine wpQuiet_load_row9 (by kernel_rfl) 95 _ rfl w.heap.size rfl 95 _ (0, 0) _ hRX Tryz.underlying95 rfl hi82 ?_; simp only [Act.put, List.getElem_toArray, List.getElem_cons_succ, List.getElem_cons_zero, List.setIfInBounds_toArray, List.set_cons_zero, List.set_cons_succ]) | (refine wpQuiet_load_row9 (by kernel_rfl) 30 _ rfl V rfl 30 _ (0, 0) _ hRV Tryz.underlying30 rfl hi30 ?_; simp only [Act.put, List.getElem_toArray, List.getElem_cons_succ, List.getElem_cons_zero, List.setIfInBounds_toArray, List.set_cons_zero, List.set_cons_succ]))
  refine wpQuiet_nil ?_
  rintro _ ⟨⟨dq, osq⟩, rfl⟩
  dsimp only
  have HB9 : Hid (Below w.heap.size w (grow (redrawn W0 dq) osq)) := HB0.out.trans ((below_regrown W0 dq osq).mono HB0.out.size)
  clear cI cF cA z5 y0 y1 y2 y3 y4 hRX hRV
  generalize grow (redrawn W0 dq) osq = w9 at *
  go_wp2
  go_ret
  exact ⟨ret_bool' (by rw [HX.out]; simp), HB9.out⟩
 | true =>
  rw [b1] at cI HX
  cases b2 : acB tb x.ac 1 3 with
  | false =>
   rw [b2] at cF HX
   refine wp_region_quiet_below (by kernel_rfl) (by kernel_rfl) ?_
   repeat (first | (go_big_quiet_step (first | exact cI _ _ | exact cF _ _)) | (refine wpQuiet_load_row9 (by kernel_rfl) 95 _ rfl w.heap.size rfl 95 _ (0, 0) _ hRX Tryz.underlying95 rfl hi82 ?_; simp only [Act.put, List.getElem_toArray, List.getElem_cons_succ, List.getElem_cons_zero, List.setIfInBounds_toArray, List.set_cons_zero, List.set_cons_succ]) | (refine wpQuiet_load_row9 (by kernel_rfl) 30 _ rfl V rfl 30 _ (0, 0) _ hRV Tryz.underlying30 rfl hi30 ?_; simp only [Act.put, List.getElem_toArray, List.getElem_cons_succ, List.getElem_cons_zero, List.setIfInBounds_toArray, List.set_cons_zero, List.set_cons_succ]))
   refine wpQuiet_nil ?_
   rintro _ ⟨⟨dq, osq⟩, rfl⟩
   dsimp only
   have HB9 : Hid (Below w.heap.size w (grow (redrawn W0 dq) osq)) := HB0.out.trans ((below_regrown W0 dq osq).mono HB0.out.size)
   clear cI cF cA z5 y0 y1 y2 y3 y4 hRX hRV
   generalize grow (redrawn W0 dq) osq = w9 at *
   go_wp2
   go_ret
   exact ⟨ret_bool' (by rw [HX.out]; simp), HB9.out⟩
  | true =>
   rw [b2] at cF HX
   cases b3 : autoB tb x.auto with
   | false =>
    rw [b3] at cA HX
    refine wp_region_quiet_below (by kernel_rfl) (by kernel_rfl) ?_
    repeat (first | (go_big_quiet_step (first | exact cI _ _ | exact cF _ _ | exact cA _ _)) | (refine wpQuiet_load_row9 (by kernel_rfl) 95 _ rfl w.heap.size rfl 95 _ (0, 0) _ hRX Tryz.underlying95 rfl hi82 ?_; simp only [Act.put, List.getElem_toArray, List.getElem_cons_succ, List.getElem_cons_zero, List.setIfInBounds_toArray, List.set_cons_zero, List.set_cons_succ]) | (refine wpQuiet_load_row9 (by kernel_rfl) 30 _ rfl V rfl 30 _ (0, 0) _ hRV Tryz.underlying30 rfl hi30 ?_; simp only [Act.put, List.getElem_toArray, List.getElem_cons_succ, List.getElem_cons_zero, List.setIfInBounds_toArray, List.set_cons_zero, List.set_cons_succ]))
    refine wpQuiet_nil ?_
    rintro _ ⟨⟨dq, osq⟩, rfl⟩
    dsimp only
    have HB9 : Hid (Below w.heap.size w (grow (redrawn W0 dq) osq)) := HB0.out.trans ((below_regrown W0 dq osq).mono HB0.out.size)
    clear cI cF cA z5 y0 y1 y2 y3 y4 hRX hRV
    generalize grow (redrawn W0 dq) osq = w9 at *
    go_wp2
    go_ret
    exact ⟨ret_bool' (by rw [HX.out]; simp), HB9.out⟩
   | true =>
    rw [b3] at cA HX
    have hid2 : 0 ≤ x.ctr ∧ x.ctr < (v.k.n : Int) := by unfold idB at b1; simpa using b1
    obtain ⟨k, hk⟩ := Int.eq_ofNat_of_zero_le hid2.1
    obtain ⟨r, hr⟩ : ∃ r, tb.ctrs[k]? = some r := ⟨_, List.getElem?_eq_getElem (by rw [← HN.out]; omega)⟩
    obtain ⟨gr, orr, er, hgr, t0, t1, t2⟩ := ctr_at hT0 hr
    have HP : Hid (ctOf tb x.ctr = r) := by
     show _ = _
     unfold ctOf
     rw [hk, Int.toNat_natCast, hr]
    have hk1 : (k : Int) < v.k.n := by omega
    have u0 := cell_regrown t0
    have u1 := cell_regrown t1
    have u2 := cell_regrown t2
    have cT : ∀ d os, Calls Tryz.prog 64 #[.agg #[I x.ctr, I x.ac.kind, I x.ac.task, .int .u32 (x.ac.mask : Int), .int .u32 (x.auto : Int), .int .u32 (x.time : Int), .int .u32 (x.cycle : Int)], .agg #[.int .u32 (r.max : Int), .int .u32 (r.base : Int), .int .u32 (r.min : Int)]] (grow (redrawn W0 d) os) fun e w'' => e = .returned (.bool (timesB x r)) ∧ ∃ p : Regrown, w'' = grow (redrawn W0 p.d) p.os := regrown_bel9 (fun W hW => timesFit_any x r W)
    rw [HP.out] at HX
    generalize timesB x r = bb at *
    rw [er] at z5 cI
    clear hr er b1 hid2 t0 t1 t2 hT0 HP
    generalize x.ctr = xc at *
    subst hk
    refine wp_region_quiet_below (by kernel_rfl) (by kernel_rfl) ?_
    repeat (first | (go_big_quiet_step (first | exact cI _ _ | exact cF _ _ | exact cA _ _ | exact cT _ _)) | (refine wpQuiet_load_row9 (by kernel_rfl) 95 _ rfl w.heap.size rfl 95 _ (0, 0) _ hRX Tryz.underlying95 rfl hi82 ?_; simp only [Act.put, List.getElem_toArray, List.getElem_cons_succ, List.getElem_cons_zero, List.setIfInBounds_toArray, List.set_cons_zero, List.set_cons_succ]) | (refine wpQuiet_load_row9 (by kernel_rfl) 30 _ rfl V rfl 30 _ (0, 0) _ hRV Tryz.underlying30 rfl hi30 ?_; simp only [Act.put, List.getElem_toArray, List.getElem_cons_succ, List.getElem_cons_zero, List.setIfInBounds_toArray, List.set_cons_zero, List.set_cons_succ]))
    refine wpQuiet_nil ?_
    rintro _ ⟨⟨dq, osq⟩, rfl⟩
    dsimp only
    have HB9 : Hid (Below w.heap.size w (grow (redrawn W0 dq) osq)) := HB0.out.trans ((below_regrown W0 dq osq).mono HB0.out.size)
    clear cI cF cA z5 y0 y1 y2 y3 y4 hRX hRV u0 u1 u2 cT
    generalize grow (redrawn W0 dq) osq = w9 at *
    go_wp2
    go_ret
    exact ⟨ret_bool' (by rw [HX.out]; simp), HB9.out⟩
theorem alarmsFit_any (tb : Tb) (v : Ts) (w : World) (h : TbAt w tb v) (hw : WfT tb) (hm : 1 ≤ tb.modes ∧ tb.modes ≤ 8) : Calls Tryz.prog 22 #[.agg (tbC tb v)] w fun e w' => e = .returned (.bool (tb.als.all (alB tb))) ∧ Below w.heap.size w w' := by
 have hb := below_alloc w (.cells (tbC tb v) 30)
 have hV := heap_alloc_new w (.cells (tbC tb v) 30)
 have ke := every_alr (w.alloc (.cells (tbC tb v) 30)) v.a tb.als (fun W hW => (h.below (hb.trans (hW.mono hb.size))).a) 61 #[.pointer (some ⟨w.heap.size, 0, none⟩)] (enters_of Tryz.func61 (by kernel_rfl) rfl) (alB tb) (fun W hW x hx => alarmsFit1_any tb v x w.heap.size W (h.below (hb.trans (hW.mono hb.size))) ((hW.block w.heap.size (heap_lt hV)).trans hV) (hw.a x hx).2.1 hm)
 have c2 := (var13 hV).2.2.2.2.2.2.1
 unfold tbC at *
 clear h hV hw hm
 generalize hR : tb.als.all (alB tb) = R at *
 go_enter Tryz.func22, Tryz.ntmps22
 go_wp2_with (go_at_call 60; refine ke.mono ?_; clear ke; rintro e w' ⟨rfl, hb2⟩)
 go_ret
 exact ⟨rfl, hb.trans (hb2.mono hb.size)⟩
end Go.Proofs.YtmidaeljeoifdaaGreatDoor
