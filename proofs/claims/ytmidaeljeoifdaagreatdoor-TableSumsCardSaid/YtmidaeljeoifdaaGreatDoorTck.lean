import Derived.Test.YtmidaeljeoifdaaGreatDoorTcw
namespace Go.Proofs.YtmidaeljeoifdaaGreatDoor
set_option maxRecDepth 100000
set_option maxHeartbeats 16000000
open Go.RowKit Go.Shelf Go.Sort
set_option linter.unusedVariables false
set_option linter.unusedSimpArgs false
theorem tasksFit1_any (tb : Tb) (v : Ts) (x : TkR) (s6 : Sl) (V : Nat) (w : World) (h : TbAt w tb v) (hs : RowsAt w 1 intP s6 x.own) (hV : w.heap[V]? = some (.cells (tbC tb v) 30)) (ha : x.auto < 4294967296) (hm : 1 ≤ tb.modes ∧ tb.modes ≤ 8) :
  Calls Tryz.prog 52 #[.agg (tkrC x s6), .pointer (some ⟨V, 0, none⟩)] w fun e w' => e = .returned (.bool (tkB tb x)) ∧ Below w.heap.size w w' := by
 have hb := below_alloc w (.cells (tkrC x s6) 56)
 have hX := heap_alloc_new w (.cells (tkrC x s6) 56)
 have hV0 : (w.alloc (.cells (tkrC x s6) 56)).heap[V]? = some (.cells (tbC tb v) 30) := (hb.block V (heap_lt hV)).trans hV
 have hT0 := h.below hb
 have hs0 := hs.below hb (fun _ _ _ _ h => h)
 have HB0 : Hid (Below w.heap.size w (w.alloc (.cells (tkrC x s6) 56))) := hb
 have HN : Hid (v.g.n = tb.rings.length) := h.g.n
 have hgc : v.g.n ≤ v.g.c := h.g.c
 have hgm : v.g.c ≤ maxLen := h.g.m
 unfold maxLen at hgm
 have hi30 : (Tryz.prog.info? 30).map (·.size) = some (tbC tb v).size := by kernel_rfl
 have hi67 : (Tryz.prog.info? 56).map (·.size) = some (tkrC x s6).size := by kernel_rfl
 obtain ⟨R, hR⟩ : ∃ R, R = tkB tb x := ⟨_, rfl⟩
 rw [← hR]
 have HX : Hid (R = (idB x.ring v.g.n && (prioAt tb.rings x.ring == x.prio) && limitB x && ((x.inner == -1 || inI x.inner x.prio 127) && ownG tb x.prio (-1) x.own && autoB tb x.auto))) := by
  show _ = _
  rw [hR, HN.out]
  rfl
 clear hR h hs hV hb
 go_enter Tryz.func52, Tryz.ntmps52
 unfold tkrC tbC at *
 go_upto_region 1 with fail
 generalize (w.alloc (.cells #[I x.prio, I x.ring, .bool x.full, I x.limit, .int .u32 (x.mask : Int), I x.inner, .slice s6.a s6.n s6.c, .int .u32 (x.auto : Int)] 56)) = W0 at *
 have cI : ∀ d os, Calls Tryz.prog 53 #[I x.ring, .slice v.g.a v.g.n v.g.c] (grow (redrawn W0 d) os) fun e w'' => e = .returned (.bool (idB x.ring v.g.n)) ∧ ∃ p : Regrown, w'' = grow (redrawn W0 p.d) p.os := regrown_bel9 (fun W hW => calls_bel9 (isID_rings x.ring v.g W))
 have cL : ∀ d os, Calls Tryz.prog 54 #[.agg #[I x.prio, I x.ring, .bool x.full, I x.limit, .int .u32 (x.mask : Int), I x.inner, .slice s6.a s6.n s6.c, .int .u32 (x.auto : Int)]] (grow (redrawn W0 d) os) fun e w'' => e = .returned (.bool (limitB x)) ∧ ∃ p : Regrown, w'' = grow (redrawn W0 p.d) p.os := regrown_bel9 (fun W hW => limitFits_any x s6 W)
 have cW : ∀ d os, Calls Tryz.prog 46 #[I x.inner, I x.prio, I 127] (grow (redrawn W0 d) os) fun e w'' => e = .returned (.bool (inI x.inner x.prio 127)) ∧ ∃ p : Regrown, w'' = grow (redrawn W0 p.d) p.os := regrown_bel9 (fun W hW => calls_bel9 (withinI_any x.inner x.prio 127 W))
 have cO : ∀ d os, Calls Tryz.prog 55 #[.agg #[I tb.uses, I tb.modes, .slice v.t.a v.t.n v.t.c, .slice v.g.a v.g.n v.g.c, .slice v.r.a v.r.n v.r.c, .slice v.k.a v.k.n v.k.c, .slice v.a.a v.a.n v.a.c, .slice v.i.a v.i.n v.i.c, .slice v.s.a v.s.n v.s.c, I tb.depth, I tb.frames, I tb.errors, I tb.calls], .slice s6.a s6.n s6.c, I x.prio] (grow (redrawn W0 d) os) fun e w'' => e = .returned (.bool (ownG tb x.prio (-1) x.own)) ∧ ∃ p : Regrown, w'' = grow (redrawn W0 p.d) p.os := regrown_bel9 (fun W hW => ownFits_any tb v W (hT0.below hW) s6 x.own (hs0.below hW (fun _ _ _ _ h => h)) x.prio)
 have cA : ∀ d os, Calls Tryz.prog 56 #[.agg #[I tb.uses, I tb.modes, .slice v.t.a v.t.n v.t.c, .slice v.g.a v.g.n v.g.c, .slice v.r.a v.r.n v.r.c, .slice v.k.a v.k.n v.k.c, .slice v.a.a v.a.n v.a.c, .slice v.i.a v.i.n v.i.c, .slice v.s.a v.s.n v.s.c, I tb.depth, I tb.frames, I tb.errors, I tb.calls], .int .u32 (x.auto : Int)] (grow (redrawn W0 d) os) fun e w'' => e = .returned (.bool (autoB tb x.auto)) ∧ ∃ p : Regrown, w'' = grow (redrawn W0 p.d) p.os := regrown_bel9 (fun W hW => autoFits_any tb v x.auto ha hm W)
 have z3 := cell_regrown (var13 hV0).2.2.2.1
 have xc := cell_of_row _ w.heap.size 0 _ _ (0, 0) hX
 have xr := cell_of_row _ w.heap.size 1 _ _ (0, 0) hX
 have xi := cell_of_row _ w.heap.size 5 _ _ (0, 0) hX
 have xo := cell_of_row _ w.heap.size 6 _ _ (0, 0) hX
 have xa := cell_of_row _ w.heap.size 7 _ _ (0, 0) hX
 simp at xc xr xi xo xa
 have y0 := cell_regrown xc
 have y1 := cell_regrown xr
 have y5 := cell_regrown xi
 have y6 := cell_regrown xo
 have y7 := cell_regrown xa
 have hRX := heap_regrown9 hX
 have hRV := heap_regrown9 hV0
 clear hs0 hX hV0 xc xr xi xo xa ha hm
 cases b1 : idB x.ring v.g.n with
 | false =>
  rw [b1] at cI HX
  refine wp_region_quiet_below (by kernel_rfl) (by kernel_rfl) ?_
  repeat (first | (go_big_quiet_step (first | exact cI _ _)) | (refine wpQuiet_load_row9 (by kernel_rfl) 56 _ rfl w.heap.size rfl 56 _ (0, 0) _ hRX Tryz.underlying56 rfl hi67 ?_; simp only [Act.put, List.getElem_toArray, List.getElem_cons_succ, List.getElem_cons_zero, List.setIfInBounds_toArray, List.set_cons_zero, List.set_cons_succ]) | (refine wpQuiet_load_row9 (by kernel_rfl) 30 _ rfl V rfl 30 _ (0, 0) _ hRV Tryz.underlying30 rfl hi30 ?_; simp only [Act.put, List.getElem_toArray, List.getElem_cons_succ, List.getElem_cons_zero, List.setIfInBounds_toArray, List.set_cons_zero, List.set_cons_succ]))
  refine wpQuiet_nil ?_
  rintro _ ⟨⟨dq, osq⟩, rfl⟩
  dsimp only
  have HB9 : Hid (Below w.heap.size w (grow (redrawn W0 dq) osq)) := HB0.out.trans ((below_regrown W0 dq osq).mono HB0.out.size)
  clear cI cL cW cO cA z3 y0 y1 y5 y6 y7 hRX hRV
  generalize grow (redrawn W0 dq) osq = w9 at *
  go_wp2
  go_ret
  exact ⟨ret_bool' (by rw [HX.out]; simp), HB9.out⟩
 | true =>
  rw [b1] at cI HX
  have hid2 : 0 ≤ x.ring ∧ x.ring < (v.g.n : Int) := by unfold idB at b1; simpa using b1
  obtain ⟨k, hk⟩ := Int.eq_ofNat_of_zero_le hid2.1
  obtain ⟨r, hr⟩ : ∃ r, tb.rings[k]? = some r := ⟨_, List.getElem?_eq_getElem (by rw [← HN.out]; omega)⟩
  obtain ⟨gr, orr, er, hgr, t0, t1⟩ := rgr_at hT0 hr
  have HP : Hid (prioAt tb.rings x.ring = r.prio) := by
   show _ = _
   unfold prioAt
   rw [hk, Int.toNat_natCast, hr]
  have hk1 : (k : Int) < v.g.n := by omega
  have x5 := cell_regrown t0
  rw [HP.out] at HX
  rw [er] at z3 cI
  clear hr er b1 hid2 t0 t1 hT0 HP
  generalize x.ring = xr at *
  subst hk
  cases b2 : (r.prio == x.prio) with
  | false =>
   rw [b2] at HX
   refine wp_region_quiet_below (by kernel_rfl) (by kernel_rfl) ?_
   repeat (first | (go_big_quiet_step (first | exact cI _ _)) | (refine wpQuiet_load_row9 (by kernel_rfl) 56 _ rfl w.heap.size rfl 56 _ (0, 0) _ hRX Tryz.underlying56 rfl hi67 ?_; simp only [Act.put, List.getElem_toArray, List.getElem_cons_succ, List.getElem_cons_zero, List.setIfInBounds_toArray, List.set_cons_zero, List.set_cons_succ]) | (refine wpQuiet_load_row9 (by kernel_rfl) 30 _ rfl V rfl 30 _ (0, 0) _ hRV Tryz.underlying30 rfl hi30 ?_; simp only [Act.put, List.getElem_toArray, List.getElem_cons_succ, List.getElem_cons_zero, List.setIfInBounds_toArray, List.set_cons_zero, List.set_cons_succ]))
   refine wpQuiet_nil ?_
   rintro _ ⟨⟨dq, osq⟩, rfl⟩
   dsimp only
   have HB9 : Hid (Below w.heap.size w (grow (redrawn W0 dq) osq)) := HB0.out.trans ((below_regrown W0 dq osq).mono HB0.out.size)
   clear cI cL cW cO cA z3 y0 y1 y5 y6 y7 hRX hRV x5
   generalize grow (redrawn W0 dq) osq = w9 at *
   go_wp2
   go_ret
   exact ⟨ret_bool' (by rw [HX.out]; simp), HB9.out⟩
  | true =>
   rw [b2] at HX
   cases b3 : limitB x with
   | false =>
    rw [b3] at cL HX
    refine wp_region_quiet_below (by kernel_rfl) (by kernel_rfl) ?_
    repeat (first | (go_big_quiet_step (first | exact cI _ _ | exact cL _ _)) | (refine wpQuiet_load_row9 (by kernel_rfl) 56 _ rfl w.heap.size rfl 56 _ (0, 0) _ hRX Tryz.underlying56 rfl hi67 ?_; simp only [Act.put, List.getElem_toArray, List.getElem_cons_succ, List.getElem_cons_zero, List.setIfInBounds_toArray, List.set_cons_zero, List.set_cons_succ]) | (refine wpQuiet_load_row9 (by kernel_rfl) 30 _ rfl V rfl 30 _ (0, 0) _ hRV Tryz.underlying30 rfl hi30 ?_; simp only [Act.put, List.getElem_toArray, List.getElem_cons_succ, List.getElem_cons_zero, List.setIfInBounds_toArray, List.set_cons_zero, List.set_cons_succ]))
    refine wpQuiet_nil ?_
    rintro _ ⟨⟨dq, osq⟩, rfl⟩
    dsimp only
    have HB9 : Hid (Below w.heap.size w (grow (redrawn W0 dq) osq)) := HB0.out.trans ((below_regrown W0 dq osq).mono HB0.out.size)
    clear cI cL cW cO cA z3 y0 y1 y5 y6 y7 hRX hRV x5
    generalize grow (redrawn W0 dq) osq = w9 at *
    go_wp2
    go_ret
    exact ⟨ret_bool' (by rw [HX.out]; simp), HB9.out⟩
   | true =>
    rw [b3] at cL HX
    cases b4 : (x.inner == -1) with
    | true =>
     rw [b4] at HX
     cases b5 : ownG tb x.prio (-1) x.own with
     | false =>
      rw [b5] at cO HX
      refine wp_region_quiet_below (by kernel_rfl) (by kernel_rfl) ?_
      repeat (first | (go_big_quiet_step (first | exact cI _ _ | exact cL _ _ | exact cO _ _)) | (refine wpQuiet_load_row9 (by kernel_rfl) 56 _ rfl w.heap.size rfl 56 _ (0, 0) _ hRX Tryz.underlying56 rfl hi67 ?_; simp only [Act.put, List.getElem_toArray, List.getElem_cons_succ, List.getElem_cons_zero, List.setIfInBounds_toArray, List.set_cons_zero, List.set_cons_succ]) | (refine wpQuiet_load_row9 (by kernel_rfl) 30 _ rfl V rfl 30 _ (0, 0) _ hRV Tryz.underlying30 rfl hi30 ?_; simp only [Act.put, List.getElem_toArray, List.getElem_cons_succ, List.getElem_cons_zero, List.setIfInBounds_toArray, List.set_cons_zero, List.set_cons_succ]))
      refine wpQuiet_nil ?_
      rintro _ ⟨⟨dq, osq⟩, rfl⟩
      dsimp only
      have HB9 : Hid (Below w.heap.size w (grow (redrawn W0 dq) osq)) := HB0.out.trans ((below_regrown W0 dq osq).mono HB0.out.size)
      clear cI cL cW cO cA z3 y0 y1 y5 y6 y7 hRX hRV x5
      generalize grow (redrawn W0 dq) osq = w9 at *
      go_wp2
      go_ret
      exact ⟨ret_bool' (by rw [HX.out]; simp), HB9.out⟩
     | true =>
      rw [b5] at cO HX
      generalize autoB tb x.auto = bb at *
      refine wp_region_quiet_below (by kernel_rfl) (by kernel_rfl) ?_
      repeat (first | (go_big_quiet_step (first | exact cI _ _ | exact cL _ _ | exact cO _ _ | exact cA _ _)) | (refine wpQuiet_load_row9 (by kernel_rfl) 56 _ rfl w.heap.size rfl 56 _ (0, 0) _ hRX Tryz.underlying56 rfl hi67 ?_; simp only [Act.put, List.getElem_toArray, List.getElem_cons_succ, List.getElem_cons_zero, List.setIfInBounds_toArray, List.set_cons_zero, List.set_cons_succ]) | (refine wpQuiet_load_row9 (by kernel_rfl) 30 _ rfl V rfl 30 _ (0, 0) _ hRV Tryz.underlying30 rfl hi30 ?_; simp only [Act.put, List.getElem_toArray, List.getElem_cons_succ, List.getElem_cons_zero, List.setIfInBounds_toArray, List.set_cons_zero, List.set_cons_succ]))
      refine wpQuiet_nil ?_
      rintro _ ⟨⟨dq, osq⟩, rfl⟩
      dsimp only
      have HB9 : Hid (Below w.heap.size w (grow (redrawn W0 dq) osq)) := HB0.out.trans ((below_regrown W0 dq osq).mono HB0.out.size)
      clear cI cL cW cO cA z3 y0 y1 y5 y6 y7 hRX hRV x5
      generalize grow (redrawn W0 dq) osq = w9 at *
      go_wp2
      go_ret
      exact ⟨ret_bool' (by rw [HX.out]; simp), HB9.out⟩
    | false =>
     rw [b4] at HX
     cases b6 : inI x.inner x.prio 127 with
     | false =>
      rw [b6] at cW HX
      refine wp_region_quiet_below (by kernel_rfl) (by kernel_rfl) ?_
      repeat (first | (go_big_quiet_step (first | exact cI _ _ | exact cL _ _ | exact cW _ _)) | (refine wpQuiet_load_row9 (by kernel_rfl) 56 _ rfl w.heap.size rfl 56 _ (0, 0) _ hRX Tryz.underlying56 rfl hi67 ?_; simp only [Act.put, List.getElem_toArray, List.getElem_cons_succ, List.getElem_cons_zero, List.setIfInBounds_toArray, List.set_cons_zero, List.set_cons_succ]) | (refine wpQuiet_load_row9 (by kernel_rfl) 30 _ rfl V rfl 30 _ (0, 0) _ hRV Tryz.underlying30 rfl hi30 ?_; simp only [Act.put, List.getElem_toArray, List.getElem_cons_succ, List.getElem_cons_zero, List.setIfInBounds_toArray, List.set_cons_zero, List.set_cons_succ]))
      refine wpQuiet_nil ?_
      rintro _ ⟨⟨dq, osq⟩, rfl⟩
      dsimp only
      have HB9 : Hid (Below w.heap.size w (grow (redrawn W0 dq) osq)) := HB0.out.trans ((below_regrown W0 dq osq).mono HB0.out.size)
      clear cI cL cW cO cA z3 y0 y1 y5 y6 y7 hRX hRV x5
      generalize grow (redrawn W0 dq) osq = w9 at *
      go_wp2
      go_ret
      exact ⟨ret_bool' (by rw [HX.out]; simp), HB9.out⟩
     | true =>
      rw [b6] at cW HX
      cases b5 : ownG tb x.prio (-1) x.own with
      | false =>
       rw [b5] at cO HX
       refine wp_region_quiet_below (by kernel_rfl) (by kernel_rfl) ?_
       repeat (first | (go_big_quiet_step (first | exact cI _ _ | exact cL _ _ | exact cW _ _ | exact cO _ _)) | (refine wpQuiet_load_row9 (by kernel_rfl) 56 _ rfl w.heap.size rfl 56 _ (0, 0) _ hRX Tryz.underlying56 rfl hi67 ?_; simp only [Act.put, List.getElem_toArray, List.getElem_cons_succ, List.getElem_cons_zero, List.setIfInBounds_toArray, List.set_cons_zero, List.set_cons_succ]) | (refine wpQuiet_load_row9 (by kernel_rfl) 30 _ rfl V rfl 30 _ (0, 0) _ hRV Tryz.underlying30 rfl hi30 ?_; simp only [Act.put, List.getElem_toArray, List.getElem_cons_succ, List.getElem_cons_zero, List.setIfInBounds_toArray, List.set_cons_zero, List.set_cons_succ]))
       refine wpQuiet_nil ?_
       rintro _ ⟨⟨dq, osq⟩, rfl⟩
       dsimp only
       have HB9 : Hid (Below w.heap.size w (grow (redrawn W0 dq) osq)) := HB0.out.trans ((below_regrown W0 dq osq).mono HB0.out.size)
       clear cI cL cW cO cA z3 y0 y1 y5 y6 y7 hRX hRV x5
       generalize grow (redrawn W0 dq) osq = w9 at *
       go_wp2
       go_ret
       exact ⟨ret_bool' (by rw [HX.out]; simp), HB9.out⟩
      | true =>
       rw [b5] at cO HX
       generalize autoB tb x.auto = bb at *
       refine wp_region_quiet_below (by kernel_rfl) (by kernel_rfl) ?_
       repeat (first | (go_big_quiet_step (first | exact cI _ _ | exact cL _ _ | exact cW _ _ | exact cO _ _ | exact cA _ _)) | (refine wpQuiet_load_row9 (by kernel_rfl) 56 _ rfl w.heap.size rfl 56 _ (0, 0) _ hRX Tryz.underlying56 rfl hi67 ?_; simp only [Act.put, List.getElem_toArray, List.getElem_cons_succ, List.getElem_cons_zero, List.setIfInBounds_toArray, List.set_cons_zero, List.set_cons_succ]) | (refine wpQuiet_load_row9 (by kernel_rfl) 30 _ rfl V rfl 30 _ (0, 0) _ hRV Tryz.underlying30 rfl hi30 ?_; simp only [Act.put, List.getElem_toArray, List.getElem_cons_succ, List.getElem_cons_zero, List.setIfInBounds_toArray, List.set_cons_zero, List.set_cons_succ]))
       refine wpQuiet_nil ?_
       rintro _ ⟨⟨dq, osq⟩, rfl⟩
       dsimp only
       have HB9 : Hid (Below w.heap.size w (grow (redrawn W0 dq) osq)) := HB0.out.trans ((below_regrown W0 dq osq).mono HB0.out.size)
       clear cI cL cW cO cA z3 y0 y1 y5 y6 y7 hRX hRV x5
       generalize grow (redrawn W0 dq) osq = w9 at *
       go_wp2
       go_ret
       exact ⟨ret_bool' (by rw [HX.out]; simp), HB9.out⟩
theorem tasksFit_any (tb : Tb) (v : Ts) (w : World) (h : TbAt w tb v) (hw : WfT tb) (hm : 1 ≤ tb.modes ∧ tb.modes ≤ 8) : Calls Tryz.prog 20 #[.agg (tbC tb v)] w fun e w' => e = .returned (.bool (tb.tasks.all (tkB tb))) ∧ Below w.heap.size w w' := by
 have hb := below_alloc w (.cells (tbC tb v) 30)
 have hV := heap_alloc_new w (.cells (tbC tb v) 30)
 have ke := every_tkr (w.alloc (.cells (tbC tb v) 30)) v.t tb.tasks (fun W hW => (h.below (hb.trans (hW.mono hb.size))).t) 52 #[.pointer (some ⟨w.heap.size, 0, none⟩)] (enters_of Tryz.func52 (by kernel_rfl) rfl) (tkB tb) (fun W hW x hx s6 hs => tasksFit1_any tb v x s6 w.heap.size W (h.below (hb.trans (hW.mono hb.size))) hs ((hW.block w.heap.size (heap_lt hV)).trans hV) (hw.t x hx).2 hm)
 have c2 := (var13 hV).2.2.1
 unfold tbC at *
 clear h hV hw hm
 generalize hR : tb.tasks.all (tkB tb) = R at *
 go_enter Tryz.func20, Tryz.ntmps20
 go_wp2_with (go_at_call 51; refine ke.mono ?_; clear ke; rintro e w' ⟨rfl, hb2⟩)
 go_ret
 exact ⟨rfl, hb.trans (hb2.mono hb.size)⟩
end Go.Proofs.YtmidaeljeoifdaaGreatDoor
