import Derived.Test.YtijgopkhdjaolaaGreatXTcw
import Derived.Test.YtijgopkhdjaolaaGreatXTcx
import Derived.Test.YtijgopkhdjaolaaGreatXTco
import Derived.Test.YtijgopkhdjaolaaGreatXTcf
import Derived.Test.YtijgopkhdjaolaaGreatXTcc
import Derived.Test.YtijgopkhdjaolaaGreatXTcq
import Derived.Maps.AppendAt
import Derived.Test.YtijgopkhdjaolaaGreatXKat
namespace Go.Proofs.YtijgopkhdjaolaaGreat
open Go.RowKit Go.Shelf Go.Sort
set_option linter.unusedSimpArgs false
set_option linter.unusedVariables false
set_option maxHeartbeats 16000000
set_option maxRecDepth 100000
theorem qft (tb : Tb) (v : Ts) (x : TkR) (s6 : Sl) (V : Nat) (w : World) (h : TbAt w tb v) (hs : RowsAt w 1 intP s6 x.own) (hV : w.heap[V]? = some (.cells (tbC tb v) 30)) (ha : x.auto < 4294967296) (hm : 1 ≤ tb.modes ∧ tb.modes ≤ 8) :
  Calls Tryz.prog 78 #[.agg (tkrC x s6), .pointer (some ⟨V,0,none⟩)] w fun e w' => e = .returned (.bool (tkB tb x)) ∧ Below w.heap.size w w' := by
 have hb := qa0 w (.cells (tkrC x s6) 61)
 have hX := heap_alloc_new w (.cells (tkrC x s6) 61)
 have hV0 : (w.alloc (.cells (tkrC x s6) 61)).heap[V]? = some (.cells (tbC tb v) 30) := (hb.block V (qay hV)).trans hV
 have hT0 := h.below hb
 have hs0 := hs.below hb (fun _ _ _ _ h => h)
 have HB0 : Hid (Below w.heap.size w (w.alloc (.cells (tkrC x s6) 61))) := hb
 have HN : Hid (v.g.n = tb.rings.length) := h.g.n
 have hgc : v.g.n ≤ v.g.c := h.g.c
 have hgm : v.g.c ≤ maxLen := h.g.m
 unfold maxLen at hgm
 have hi30 : (Tryz.prog.info? 30).map (·.size) = some (tbC tb v).size := by kernel_rfl
 have hi67 : (Tryz.prog.info? 61).map (·.size) = some (tkrC x s6).size := by kernel_rfl
 obtain ⟨R,hR⟩ : ∃ R,R = tkB tb x := ⟨_,rfl⟩
 rw [← hR]
 have HX : Hid (R = (idB x.ring v.g.n && (qdd tb.rings x.ring == x.prio) && qcr x && ((x.inner == -1 || inI x.inner x.prio 127) && ownG tb x.prio (-1) x.own && qc5 tb x.auto))) := by
  show _ = _
  rw [hR,HN.out]
  rfl
 clear hR h hs hV hb
 go_enter Tryz.func78,Tryz.ntmps78
 unfold tkrC tbC at *
 go_upto_region 1 with fail
 generalize (w.alloc (.cells #[I x.prio,I x.ring, .bool x.full,I x.limit, .int .u32 (x.mask : Int),I x.inner, .slice s6.a s6.n s6.c, .int .u32 (x.auto : Int)] 61)) = W0 at *
 have cI : ∀ d os,Calls Tryz.prog 79 #[I x.ring, .slice v.g.a v.g.n v.g.c] (grow (redrawn W0 d) os) fun e w'' => e = .returned (.bool (idB x.ring v.g.n)) ∧ ∃ p : Regrown,w'' = grow (redrawn W0 p.d) p.os := qaz (fun W hW => qdk (qi0 x.ring v.g W))
 have cL : ∀ d os,Calls Tryz.prog 80 #[.agg #[I x.prio,I x.ring, .bool x.full,I x.limit, .int .u32 (x.mask : Int),I x.inner, .slice s6.a s6.n s6.c, .int .u32 (x.auto : Int)]] (grow (redrawn W0 d) os) fun e w'' => e = .returned (.bool (qcr x)) ∧ ∃ p : Regrown,w'' = grow (redrawn W0 p.d) p.os := qaz (fun W hW => qfn x s6 W)
 have cW : ∀ d os,Calls Tryz.prog 72 #[I x.inner,I x.prio,I 127] (grow (redrawn W0 d) os) fun e w'' => e = .returned (.bool (inI x.inner x.prio 127)) ∧ ∃ p : Regrown,w'' = grow (redrawn W0 p.d) p.os := qaz (fun W hW => qdk (qba x.inner x.prio 127 W))
 have cO : ∀ d os,Calls Tryz.prog 81 #[.agg #[I tb.uses,I tb.modes, .slice v.t.a v.t.n v.t.c, .slice v.g.a v.g.n v.g.c, .slice v.r.a v.r.n v.r.c, .slice v.k.a v.k.n v.k.c, .slice v.a.a v.a.n v.a.c, .slice v.i.a v.i.n v.i.c, .slice v.s.a v.s.n v.s.c,I tb.depth,I tb.frames,I tb.errors,I tb.calls], .slice s6.a s6.n s6.c,I x.prio] (grow (redrawn W0 d) os) fun e w'' => e = .returned (.bool (ownG tb x.prio (-1) x.own)) ∧ ∃ p : Regrown,w'' = grow (redrawn W0 p.d) p.os := qaz (fun W hW => qe8 tb v W (hT0.below hW) s6 x.own (hs0.below hW (fun _ _ _ _ h => h)) x.prio)
 have cA : ∀ d os,Calls Tryz.prog 82 #[.agg #[I tb.uses,I tb.modes, .slice v.t.a v.t.n v.t.c, .slice v.g.a v.g.n v.g.c, .slice v.r.a v.r.n v.r.c, .slice v.k.a v.k.n v.k.c, .slice v.a.a v.a.n v.a.c, .slice v.i.a v.i.n v.i.c, .slice v.s.a v.s.n v.s.c,I tb.depth,I tb.frames,I tb.errors,I tb.calls], .int .u32 (x.auto : Int)] (grow (redrawn W0 d) os) fun e w'' => e = .returned (.bool (qc5 tb x.auto)) ∧ ∃ p : Regrown,w'' = grow (redrawn W0 p.d) p.os := qaz (fun W hW => qdw tb v x.auto ha hm W)
 have z3 := cell_regrown (qbx hV0).2.2.2.1
 have xc := cell_of_row _ w.heap.size 0 _ _ (0,0) hX
 have xr := cell_of_row _ w.heap.size 1 _ _ (0,0) hX
 have xi := cell_of_row _ w.heap.size 5 _ _ (0,0) hX
 have xo := cell_of_row _ w.heap.size 6 _ _ (0,0) hX
 have xa := cell_of_row _ w.heap.size 7 _ _ (0,0) hX
 simp at xc xr xi xo xa
 have y0 := cell_regrown xc
 have y1 := cell_regrown xr
 have y5 := cell_regrown xi
 have y6 := cell_regrown xo
 have y7 := cell_regrown xa
 have hRX := qbk hX
 have hRV := qbk hV0
 clear hs0 hX hV0 xc xr xi xo xa ha hm
 cases b1 : idB x.ring v.g.n with
 | false =>
  rw [b1] at cI HX
  refine wp_region_quiet_below (by kernel_rfl) (by kernel_rfl) ?_
  repeat (first | (go_big_quiet_step (first | exact cI _ _)) | (refine qaa (by kernel_rfl) 61 _ rfl w.heap.size rfl 61 _ (0,0) _ hRX Tryz.underlying61 rfl hi67 ?_; simp only [Act.put,q7a,q7b,q7c,q7d,q7e,q7f]) | (refine qaa (by kernel_rfl) 30 _ rfl V rfl 30 _ (0,0) _ hRV Tryz.underlying30 rfl hi30 ?_; simp only [Act.put,q7a,q7b,q7c,q7d,q7e,q7f]))
  refine wpQuiet_nil ?_
  rintro _ ⟨⟨dq,osq⟩,rfl⟩
  dsimp only
  have HB9 : Hid (Below w.heap.size w (grow (redrawn W0 dq) osq)) := HB0.out.trans ((below_regrown W0 dq osq).mono HB0.out.size)
  clear cI cL cW cO cA z3 y0 y1 y5 y6 y7 hRX hRV
  generalize grow (redrawn W0 dq) osq = w9 at *
  go_wp2
  go_ret
  exact ⟨qa5 (by rw [HX.out]; simp),HB9.out⟩
 | true =>
  rw [b1] at cI HX
  have hid2 : 0 ≤ x.ring ∧ x.ring < (v.g.n : Int) := by unfold idB at b1; simpa using b1
  obtain ⟨k,hk⟩ := Int.eq_ofNat_of_zero_le hid2.1
  obtain ⟨r,hr⟩ : ∃ r,tb.rings[k]? = some r := ⟨_,List.getElem?_eq_getElem (by rw [← HN.out]; omega)⟩
  obtain ⟨gr,orr,er,hgr,t0,t1⟩ := qg0 hT0 hr
  have HP : Hid (qdd tb.rings x.ring = r.prio) := by
   show _ = _
   unfold qdd
   rw [hk,Int.toNat_natCast,hr]
  have hk1 : (k : Int) < v.g.n := by omega
  have x5 := cell_regrown t0
  rw [HP.out] at HX
  rw [er] at z3 cI
  clear hr er b1 hid2 t0 t1 hT0 HP
  generalize x.ring = xr at *
  subst hk
  cases b2 : (r.prio == x.prio) with
  | false =>
   rw [b2] at HX
   refine wp_region_quiet_below (by kernel_rfl) (by kernel_rfl) ?_
   repeat (first | (go_big_quiet_step (first | exact cI _ _)) | (refine qaa (by kernel_rfl) 61 _ rfl w.heap.size rfl 61 _ (0,0) _ hRX Tryz.underlying61 rfl hi67 ?_; simp only [Act.put,q7a,q7b,q7c,q7d,q7e,q7f]) | (refine qaa (by kernel_rfl) 30 _ rfl V rfl 30 _ (0,0) _ hRV Tryz.underlying30 rfl hi30 ?_; simp only [Act.put,q7a,q7b,q7c,q7d,q7e,q7f]))
   refine wpQuiet_nil ?_
   rintro _ ⟨⟨dq,osq⟩,rfl⟩
   dsimp only
   have HB9 : Hid (Below w.heap.size w (grow (redrawn W0 dq) osq)) := HB0.out.trans ((below_regrown W0 dq osq).mono HB0.out.size)
   clear cI cL cW cO cA z3 y0 y1 y5 y6 y7 hRX hRV x5
   generalize grow (redrawn W0 dq) osq = w9 at *
   go_wp2
   go_ret
   exact ⟨qa5 (by rw [HX.out]; simp),HB9.out⟩
  | true =>
   rw [b2] at HX
   cases b3 : qcr x with
   | false =>
    rw [b3] at cL HX
    refine wp_region_quiet_below (by kernel_rfl) (by kernel_rfl) ?_
    repeat (first | (go_big_quiet_step (first | exact cI _ _ | exact cL _ _)) | (refine qaa (by kernel_rfl) 61 _ rfl w.heap.size rfl 61 _ (0,0) _ hRX Tryz.underlying61 rfl hi67 ?_; simp only [Act.put,q7a,q7b,q7c,q7d,q7e,q7f]) | (refine qaa (by kernel_rfl) 30 _ rfl V rfl 30 _ (0,0) _ hRV Tryz.underlying30 rfl hi30 ?_; simp only [Act.put,q7a,q7b,q7c,q7d,q7e,q7f]))
    refine wpQuiet_nil ?_
    rintro _ ⟨⟨dq,osq⟩,rfl⟩
    dsimp only
    have HB9 : Hid (Below w.heap.size w (grow (redrawn W0 dq) osq)) := HB0.out.trans ((below_regrown W0 dq osq).mono HB0.out.size)
    clear cI cL cW cO cA z3 y0 y1 y5 y6 y7 hRX hRV x5
    generalize grow (redrawn W0 dq) osq = w9 at *
    go_wp2
    go_ret
    exact ⟨qa5 (by rw [HX.out]; simp),HB9.out⟩
   | true =>
    rw [b3] at cL HX
    cases b4 : (x.inner == -1) with
    | true =>
     rw [b4] at HX
     cases b5 : ownG tb x.prio (-1) x.own with
     | false =>
      rw [b5] at cO HX
      refine wp_region_quiet_below (by kernel_rfl) (by kernel_rfl) ?_
      repeat (first | (go_big_quiet_step (first | exact cI _ _ | exact cL _ _ | exact cO _ _)) | (refine qaa (by kernel_rfl) 61 _ rfl w.heap.size rfl 61 _ (0,0) _ hRX Tryz.underlying61 rfl hi67 ?_; simp only [Act.put,q7a,q7b,q7c,q7d,q7e,q7f]) | (refine qaa (by kernel_rfl) 30 _ rfl V rfl 30 _ (0,0) _ hRV Tryz.underlying30 rfl hi30 ?_; simp only [Act.put,q7a,q7b,q7c,q7d,q7e,q7f]))
      refine wpQuiet_nil ?_
      rintro _ ⟨⟨dq,osq⟩,rfl⟩
      dsimp only
      have HB9 : Hid (Below w.heap.size w (grow (redrawn W0 dq) osq)) := HB0.out.trans ((below_regrown W0 dq osq).mono HB0.out.size)
      clear cI cL cW cO cA z3 y0 y1 y5 y6 y7 hRX hRV x5
      generalize grow (redrawn W0 dq) osq = w9 at *
      go_wp2
      go_ret
      exact ⟨qa5 (by rw [HX.out]; simp),HB9.out⟩
     | true =>
      rw [b5] at cO HX
      generalize qc5 tb x.auto = bb at *
      refine wp_region_quiet_below (by kernel_rfl) (by kernel_rfl) ?_
      repeat (first | (go_big_quiet_step (first | exact cI _ _ | exact cL _ _ | exact cO _ _ | exact cA _ _)) | (refine qaa (by kernel_rfl) 61 _ rfl w.heap.size rfl 61 _ (0,0) _ hRX Tryz.underlying61 rfl hi67 ?_; simp only [Act.put,q7a,q7b,q7c,q7d,q7e,q7f]) | (refine qaa (by kernel_rfl) 30 _ rfl V rfl 30 _ (0,0) _ hRV Tryz.underlying30 rfl hi30 ?_; simp only [Act.put,q7a,q7b,q7c,q7d,q7e,q7f]))
      refine wpQuiet_nil ?_
      rintro _ ⟨⟨dq,osq⟩,rfl⟩
      dsimp only
      have HB9 : Hid (Below w.heap.size w (grow (redrawn W0 dq) osq)) := HB0.out.trans ((below_regrown W0 dq osq).mono HB0.out.size)
      clear cI cL cW cO cA z3 y0 y1 y5 y6 y7 hRX hRV x5
      generalize grow (redrawn W0 dq) osq = w9 at *
      go_wp2
      go_ret
      exact ⟨qa5 (by rw [HX.out]; simp),HB9.out⟩
    | false =>
     rw [b4] at HX
     cases b6 : inI x.inner x.prio 127 with
     | false =>
      rw [b6] at cW HX
      refine wp_region_quiet_below (by kernel_rfl) (by kernel_rfl) ?_
      repeat (first | (go_big_quiet_step (first | exact cI _ _ | exact cL _ _ | exact cW _ _)) | (refine qaa (by kernel_rfl) 61 _ rfl w.heap.size rfl 61 _ (0,0) _ hRX Tryz.underlying61 rfl hi67 ?_; simp only [Act.put,q7a,q7b,q7c,q7d,q7e,q7f]) | (refine qaa (by kernel_rfl) 30 _ rfl V rfl 30 _ (0,0) _ hRV Tryz.underlying30 rfl hi30 ?_; simp only [Act.put,q7a,q7b,q7c,q7d,q7e,q7f]))
      refine wpQuiet_nil ?_
      rintro _ ⟨⟨dq,osq⟩,rfl⟩
      dsimp only
      have HB9 : Hid (Below w.heap.size w (grow (redrawn W0 dq) osq)) := HB0.out.trans ((below_regrown W0 dq osq).mono HB0.out.size)
      clear cI cL cW cO cA z3 y0 y1 y5 y6 y7 hRX hRV x5
      generalize grow (redrawn W0 dq) osq = w9 at *
      go_wp2
      go_ret
      exact ⟨qa5 (by rw [HX.out]; simp),HB9.out⟩
     | true =>
      rw [b6] at cW HX
      cases b5 : ownG tb x.prio (-1) x.own with
      | false =>
       rw [b5] at cO HX
       refine wp_region_quiet_below (by kernel_rfl) (by kernel_rfl) ?_
       repeat (first | (go_big_quiet_step (first | exact cI _ _ | exact cL _ _ | exact cW _ _ | exact cO _ _)) | (refine qaa (by kernel_rfl) 61 _ rfl w.heap.size rfl 61 _ (0,0) _ hRX Tryz.underlying61 rfl hi67 ?_; simp only [Act.put,q7a,q7b,q7c,q7d,q7e,q7f]) | (refine qaa (by kernel_rfl) 30 _ rfl V rfl 30 _ (0,0) _ hRV Tryz.underlying30 rfl hi30 ?_; simp only [Act.put,q7a,q7b,q7c,q7d,q7e,q7f]))
       refine wpQuiet_nil ?_
       rintro _ ⟨⟨dq,osq⟩,rfl⟩
       dsimp only
       have HB9 : Hid (Below w.heap.size w (grow (redrawn W0 dq) osq)) := HB0.out.trans ((below_regrown W0 dq osq).mono HB0.out.size)
       clear cI cL cW cO cA z3 y0 y1 y5 y6 y7 hRX hRV x5
       generalize grow (redrawn W0 dq) osq = w9 at *
       go_wp2
       go_ret
       exact ⟨qa5 (by rw [HX.out]; simp),HB9.out⟩
      | true =>
       rw [b5] at cO HX
       generalize qc5 tb x.auto = bb at *
       refine wp_region_quiet_below (by kernel_rfl) (by kernel_rfl) ?_
       repeat (first | (go_big_quiet_step (first | exact cI _ _ | exact cL _ _ | exact cW _ _ | exact cO _ _ | exact cA _ _)) | (refine qaa (by kernel_rfl) 61 _ rfl w.heap.size rfl 61 _ (0,0) _ hRX Tryz.underlying61 rfl hi67 ?_; simp only [Act.put,q7a,q7b,q7c,q7d,q7e,q7f]) | (refine qaa (by kernel_rfl) 30 _ rfl V rfl 30 _ (0,0) _ hRV Tryz.underlying30 rfl hi30 ?_; simp only [Act.put,q7a,q7b,q7c,q7d,q7e,q7f]))
       refine wpQuiet_nil ?_
       rintro _ ⟨⟨dq,osq⟩,rfl⟩
       dsimp only
       have HB9 : Hid (Below w.heap.size w (grow (redrawn W0 dq) osq)) := HB0.out.trans ((below_regrown W0 dq osq).mono HB0.out.size)
       clear cI cL cW cO cA z3 y0 y1 y5 y6 y7 hRX hRV x5
       generalize grow (redrawn W0 dq) osq = w9 at *
       go_wp2
       go_ret
       exact ⟨qa5 (by rw [HX.out]; simp),HB9.out⟩
theorem qgd (tb : Tb) (v : Ts) (w : World) (h : TbAt w tb v) (hw : WfT tb) (hm : 1 ≤ tb.modes ∧ tb.modes ≤ 8) : Calls Tryz.prog 28 #[.agg (tbC tb v)] w fun e w' => e = .returned (.bool (tb.tasks.all (tkB tb))) ∧ Below w.heap.size w w' := by
 have hb := qa0 w (.cells (tbC tb v) 30)
 have hV := heap_alloc_new w (.cells (tbC tb v) 30)
 have ke := qj6 (w.alloc (.cells (tbC tb v) 30)) v.t tb.tasks (fun W hW => (h.below (hb.trans (hW.mono hb.size))).t) 78 #[.pointer (some ⟨w.heap.size,0,none⟩)] (enters_of Tryz.func78 (by kernel_rfl) rfl) (tkB tb) (fun W hW x hx s6 hs => qft tb v x s6 w.heap.size W (h.below (hb.trans (hW.mono hb.size))) hs ((hW.block w.heap.size (qay hV)).trans hV) (hw.t x hx).2 hm)
 have c2 := (qbx hV).2.2.1
 unfold tbC at *
 clear h hV hw hm
 generalize hR : tb.tasks.all (tkB tb) = R at *
 go_enter Tryz.func28,Tryz.ntmps28
 go_wp2_with (go_at_call 77; refine ke.mono ?_; clear ke; rintro e w' ⟨rfl,hb2⟩)
 go_ret
 exact ⟨rfl,hb.trans (hb2.mono hb.size)⟩
theorem qf5 (tb : Tb) (v : Ts) (x : AlR) (V : Nat) (w : World) (h : TbAt w tb v) (hV : w.heap[V]? = some (.cells (tbC tb v) 30)) (ha : x.auto < 4294967296) (hm : 1 ≤ tb.modes ∧ tb.modes ≤ 8) :
  Calls Tryz.prog 87 #[.agg (alrC x), .pointer (some ⟨V,0,none⟩)] w fun e w' => e = .returned (.bool (alB tb x)) ∧ Below w.heap.size w w' := by
 have hb := qa0 w (.cells (alrC x) 85)
 have hX := heap_alloc_new w (.cells (alrC x) 85)
 have hV0 : (w.alloc (.cells (alrC x) 85)).heap[V]? = some (.cells (tbC tb v) 30) := (hb.block V (qay hV)).trans hV
 have hT0 := h.below hb
 have HB0 : Hid (Below w.heap.size w (w.alloc (.cells (alrC x) 85))) := hb
 have HN : Hid (v.k.n = tb.ctrs.length) := h.k.n
 have hgc : v.k.n ≤ v.k.c := h.k.c
 have hgm : v.k.c ≤ maxLen := h.k.m
 unfold maxLen at hgm
 have hi30 : (Tryz.prog.info? 30).map (·.size) = some (tbC tb v).size := by kernel_rfl
 have hi82 : (Tryz.prog.info? 85).map (·.size) = some (alrC x).size := by kernel_rfl
 obtain ⟨R,hR⟩ : ∃ R,R = alB tb x := ⟨_,rfl⟩
 rw [← hR]
 have HX : Hid (R = (idB x.ctr v.k.n && acB tb x.ac 1 3 && qc5 tb x.auto && qde x (ctOf tb x.ctr))) := by
  show _ = _
  rw [hR,HN.out]
  rfl
 clear hR h hV hb
 go_enter Tryz.func87,Tryz.ntmps87
 unfold alrC tbC at *
 go_upto_region 1 with fail
 generalize (w.alloc (.cells #[I x.ctr,I x.ac.kind,I x.ac.task, .int .u32 (x.ac.mask : Int), .int .u32 (x.auto : Int), .int .u32 (x.time : Int), .int .u32 (x.cycle : Int)] 85)) = W0 at *
 have cI : ∀ d os,Calls Tryz.prog 88 #[I x.ctr, .slice v.k.a v.k.n v.k.c] (grow (redrawn W0 d) os) fun e w'' => e = .returned (.bool (idB x.ctr v.k.n)) ∧ ∃ p : Regrown,w'' = grow (redrawn W0 p.d) p.os := qaz (fun W hW => qdk (qj3 x.ctr v.k W))
 have cF : ∀ d os,Calls Tryz.prog 89 #[.agg #[I tb.uses,I tb.modes, .slice v.t.a v.t.n v.t.c, .slice v.g.a v.g.n v.g.c, .slice v.r.a v.r.n v.r.c, .slice v.k.a v.k.n v.k.c, .slice v.a.a v.a.n v.a.c, .slice v.i.a v.i.n v.i.c, .slice v.s.a v.s.n v.s.c,I tb.depth,I tb.frames,I tb.errors,I tb.calls], .agg #[I x.ac.kind,I x.ac.task, .int .u32 (x.ac.mask : Int)],I 1,I 3] (grow (redrawn W0 d) os) fun e w'' => e = .returned (.bool (acB tb x.ac 1 3)) ∧ ∃ p : Regrown,w'' = grow (redrawn W0 p.d) p.os := qaz (fun W hW => qcl tb v x.ac 1 3 W (hT0.below hW))
 have cA : ∀ d os,Calls Tryz.prog 82 #[.agg #[I tb.uses,I tb.modes, .slice v.t.a v.t.n v.t.c, .slice v.g.a v.g.n v.g.c, .slice v.r.a v.r.n v.r.c, .slice v.k.a v.k.n v.k.c, .slice v.a.a v.a.n v.a.c, .slice v.i.a v.i.n v.i.c, .slice v.s.a v.s.n v.s.c,I tb.depth,I tb.frames,I tb.errors,I tb.calls], .int .u32 (x.auto : Int)] (grow (redrawn W0 d) os) fun e w'' => e = .returned (.bool (qc5 tb x.auto)) ∧ ∃ p : Regrown,w'' = grow (redrawn W0 p.d) p.os := qaz (fun W hW => qdw tb v x.auto ha hm W)
 have z5 := cell_regrown (qbx hV0).2.2.2.2.2.1
 have x0 := cell_of_row _ w.heap.size 0 _ _ (0,0) hX
 have x1 := cell_of_row _ w.heap.size 1 _ _ (0,0) hX
 have x2 := cell_of_row _ w.heap.size 2 _ _ (0,0) hX
 have x3 := cell_of_row _ w.heap.size 3 _ _ (0,0) hX
 have x4 := cell_of_row _ w.heap.size 4 _ _ (0,0) hX
 simp at x0 x1 x2 x3 x4
 have y0 := cell_regrown x0
 have y1 := cell_regrown x1
 have y2 := cell_regrown x2
 have y3 := cell_regrown x3
 have y4 := cell_regrown x4
 have hRX := qbk hX
 have hRV := qbk hV0
 clear hX hV0 x0 x1 x2 x3 x4 ha hm
 cases b1 : idB x.ctr v.k.n with
 | false =>
  rw [b1] at cI HX
  refine wp_region_quiet_below (by kernel_rfl) (by kernel_rfl) ?_
  repeat (first | (go_big_quiet_step (first | exact cI _ _)) | (refine qaa (by kernel_rfl) 85 _ rfl w.heap.size rfl 85 _ (0,0) _ hRX Tryz.underlying85 rfl hi82 ?_; simp only [Act.put,q7a,q7b,q7c,q7d,q7e,q7f]) | (refine qaa (by kernel_rfl) 30 _ rfl V rfl 30 _ (0,0) _ hRV Tryz.underlying30 rfl hi30 ?_; simp only [Act.put,q7a,q7b,q7c,q7d,q7e,q7f]))
  refine wpQuiet_nil ?_
  rintro _ ⟨⟨dq,osq⟩,rfl⟩
  dsimp only
  have HB9 : Hid (Below w.heap.size w (grow (redrawn W0 dq) osq)) := HB0.out.trans ((below_regrown W0 dq osq).mono HB0.out.size)
  clear cI cF cA z5 y0 y1 y2 y3 y4 hRX hRV
  generalize grow (redrawn W0 dq) osq = w9 at *
  go_wp2
  go_ret
  exact ⟨qa5 (by rw [HX.out]; simp),HB9.out⟩
 | true =>
  rw [b1] at cI HX
  cases b2 : acB tb x.ac 1 3 with
  | false =>
   rw [b2] at cF HX
   refine wp_region_quiet_below (by kernel_rfl) (by kernel_rfl) ?_
   repeat (first | (go_big_quiet_step (first | exact cI _ _ | exact cF _ _)) | (refine qaa (by kernel_rfl) 85 _ rfl w.heap.size rfl 85 _ (0,0) _ hRX Tryz.underlying85 rfl hi82 ?_; simp only [Act.put,q7a,q7b,q7c,q7d,q7e,q7f]) | (refine qaa (by kernel_rfl) 30 _ rfl V rfl 30 _ (0,0) _ hRV Tryz.underlying30 rfl hi30 ?_; simp only [Act.put,q7a,q7b,q7c,q7d,q7e,q7f]))
   refine wpQuiet_nil ?_
   rintro _ ⟨⟨dq,osq⟩,rfl⟩
   dsimp only
   have HB9 : Hid (Below w.heap.size w (grow (redrawn W0 dq) osq)) := HB0.out.trans ((below_regrown W0 dq osq).mono HB0.out.size)
   clear cI cF cA z5 y0 y1 y2 y3 y4 hRX hRV
   generalize grow (redrawn W0 dq) osq = w9 at *
   go_wp2
   go_ret
   exact ⟨qa5 (by rw [HX.out]; simp),HB9.out⟩
  | true =>
   rw [b2] at cF HX
   cases b3 : qc5 tb x.auto with
   | false =>
    rw [b3] at cA HX
    refine wp_region_quiet_below (by kernel_rfl) (by kernel_rfl) ?_
    repeat (first | (go_big_quiet_step (first | exact cI _ _ | exact cF _ _ | exact cA _ _)) | (refine qaa (by kernel_rfl) 85 _ rfl w.heap.size rfl 85 _ (0,0) _ hRX Tryz.underlying85 rfl hi82 ?_; simp only [Act.put,q7a,q7b,q7c,q7d,q7e,q7f]) | (refine qaa (by kernel_rfl) 30 _ rfl V rfl 30 _ (0,0) _ hRV Tryz.underlying30 rfl hi30 ?_; simp only [Act.put,q7a,q7b,q7c,q7d,q7e,q7f]))
    refine wpQuiet_nil ?_
    rintro _ ⟨⟨dq,osq⟩,rfl⟩
    dsimp only
    have HB9 : Hid (Below w.heap.size w (grow (redrawn W0 dq) osq)) := HB0.out.trans ((below_regrown W0 dq osq).mono HB0.out.size)
    clear cI cF cA z5 y0 y1 y2 y3 y4 hRX hRV
    generalize grow (redrawn W0 dq) osq = w9 at *
    go_wp2
    go_ret
    exact ⟨qa5 (by rw [HX.out]; simp),HB9.out⟩
   | true =>
    rw [b3] at cA HX
    have hid2 : 0 ≤ x.ctr ∧ x.ctr < (v.k.n : Int) := by unfold idB at b1; simpa using b1
    obtain ⟨k,hk⟩ := Int.eq_ofNat_of_zero_le hid2.1
    obtain ⟨r,hr⟩ : ∃ r,tb.ctrs[k]? = some r := ⟨_,List.getElem?_eq_getElem (by rw [← HN.out]; omega)⟩
    obtain ⟨gr,orr,er,hgr,t0,t1,t2⟩ := qj1 hT0 hr
    have HP : Hid (ctOf tb x.ctr = r) := by
     show _ = _
     unfold ctOf
     rw [hk,Int.toNat_natCast,hr]
    have hk1 : (k : Int) < v.k.n := by omega
    have u0 := cell_regrown t0
    have u1 := cell_regrown t1
    have u2 := cell_regrown t2
    have cT : ∀ d os,Calls Tryz.prog 90 #[.agg #[I x.ctr,I x.ac.kind,I x.ac.task, .int .u32 (x.ac.mask : Int), .int .u32 (x.auto : Int), .int .u32 (x.time : Int), .int .u32 (x.cycle : Int)], .agg #[.int .u32 (r.max : Int), .int .u32 (r.base : Int), .int .u32 (r.min : Int)]] (grow (redrawn W0 d) os) fun e w'' => e = .returned (.bool (qde x r)) ∧ ∃ p : Regrown,w'' = grow (redrawn W0 p.d) p.os := qaz (fun W hW => qg2 x r W)
    rw [HP.out] at HX
    generalize qde x r = bb at *
    rw [er] at z5 cI
    clear hr er b1 hid2 t0 t1 t2 hT0 HP
    generalize x.ctr = xc at *
    subst hk
    refine wp_region_quiet_below (by kernel_rfl) (by kernel_rfl) ?_
    repeat (first | (go_big_quiet_step (first | exact cI _ _ | exact cF _ _ | exact cA _ _ | exact cT _ _)) | (refine qaa (by kernel_rfl) 85 _ rfl w.heap.size rfl 85 _ (0,0) _ hRX Tryz.underlying85 rfl hi82 ?_; simp only [Act.put,q7a,q7b,q7c,q7d,q7e,q7f]) | (refine qaa (by kernel_rfl) 30 _ rfl V rfl 30 _ (0,0) _ hRV Tryz.underlying30 rfl hi30 ?_; simp only [Act.put,q7a,q7b,q7c,q7d,q7e,q7f]))
    refine wpQuiet_nil ?_
    rintro _ ⟨⟨dq,osq⟩,rfl⟩
    dsimp only
    have HB9 : Hid (Below w.heap.size w (grow (redrawn W0 dq) osq)) := HB0.out.trans ((below_regrown W0 dq osq).mono HB0.out.size)
    clear cI cF cA z5 y0 y1 y2 y3 y4 hRX hRV u0 u1 u2 cT
    generalize grow (redrawn W0 dq) osq = w9 at *
    go_wp2
    go_ret
    exact ⟨qa5 (by rw [HX.out]; simp),HB9.out⟩
theorem qfu (tb : Tb) (v : Ts) (w : World) (h : TbAt w tb v) (hw : WfT tb) (hm : 1 ≤ tb.modes ∧ tb.modes ≤ 8) : Calls Tryz.prog 30 #[.agg (tbC tb v)] w fun e w' => e = .returned (.bool (tb.als.all (alB tb))) ∧ Below w.heap.size w w' := by
 have hb := qa0 w (.cells (tbC tb v) 30)
 have hV := heap_alloc_new w (.cells (tbC tb v) 30)
 have ke := qj9 (w.alloc (.cells (tbC tb v) 30)) v.a tb.als (fun W hW => (h.below (hb.trans (hW.mono hb.size))).a) 87 #[.pointer (some ⟨w.heap.size,0,none⟩)] (enters_of Tryz.func87 (by kernel_rfl) rfl) (alB tb) (fun W hW x hx => qf5 tb v x w.heap.size W (h.below (hb.trans (hW.mono hb.size))) ((hW.block w.heap.size (qay hV)).trans hV) (hw.a x hx).2.1 hm)
 have c2 := (qbx hV).2.2.2.2.2.2.1
 unfold tbC at *
 clear h hV hw hm
 generalize hR : tb.als.all (alB tb) = R at *
 go_enter Tryz.func30,Tryz.ntmps30
 go_wp2_with (go_at_call 86; refine ke.mono ?_; clear ke; rintro e w' ⟨rfl,hb2⟩)
 go_ret
 exact ⟨rfl,hb.trans (hb2.mono hb.size)⟩
def chL (tb : Tb) : List Bool := [qbv tb,tb.ress.all (fun r => inI r.ceil (-1) 127),qbs tb.tasks 64 tb.rings,tb.tasks.all (tkB tb),tb.ctrs.all ctB,tb.als.all (alB tb),qc8 tb [] tb.isrs,(tb.msgs.all fldB && tb.msgs.all (msB tb)),rmB tb]
theorem qhg (tb : Tb) : (chL tb).all id = chkP tb := by
 unfold chL chkP rmB
 simp only [List.all_cons,List.all_nil,id,Bool.and_true,Bool.and_assoc]
def fnL : List Nat := [25,26,27,28,29,30,31,32,33]
theorem qji {tb : Tb} (h0 : qbv tb = true) (h5 : tb.als.all (alB tb) = true) (h7 : (tb.msgs.all fldB && tb.msgs.all (msB tb)) = true) : RoomOK tb := by
 refine ⟨fun x hx => ?_,fun x hx hk => ?_, ?_⟩
 ·have := List.all_eq_true.1 h5 x hx
  unfold alB idB at this
  simp at this
  omega
 ·rw [Bool.and_eq_true] at h7
  have := List.all_eq_true.1 h7.2 x hx
  unfold msB at this
  rw [if_neg hk] at this
  unfold sndB idB at this
  simp at this
  omega
 ·unfold qbv at h0
  simp at h0
  omega
theorem qge {tb : Tb} (h0 : qbv tb = true) : 1 ≤ tb.modes ∧ tb.modes ≤ 8 := by
 unfold qbv inI at h0
 simp at h0
 omega
theorem qlx (tb : Tb) (v : Ts) (W : World) (h : TbAt W tb v) (hw : WfT tb) (k f : Nat) (b : Bool) (hf : fnL[k]? = some f) (hb : (chL tb)[k]? = some b) (hp : ((chL tb).take k).all id = true) :
  Calls Tryz.prog f #[.agg (tbC tb v)] W fun e w' => e = .returned (.bool b) ∧ Below W.heap.size W w' := by
 unfold fnL at hf
 unfold chL at hb hp
 match k,hf,hb,hp with
 | 0,hf,hb,hp => cases hf; cases hb; exact qfo tb v W h
 | 1,hf,hb,hp => cases hf; cases hb; exact qeb tb v W h
 | 2,hf,hb,hp => cases hf; cases hb; exact qg7 tb v W h
 | 3,hf,hb,hp => cases hf; cases hb; simp at hp; exact qgd tb v W h hw (qge hp.1)
 | 4,hf,hb,hp => cases hf; cases hb; exact qem tb v W h
 | 5,hf,hb,hp => cases hf; cases hb; simp only [List.take_succ_cons,List.all_cons,Bool.and_eq_true,id] at hp; exact qfu tb v W h hw (qge hp.1)
 | 6,hf,hb,hp => cases hf; cases hb; exact qh7 tb v W h
 | 7,hf,hb,hp => cases hf; cases hb; exact qep tb v W h hw
 | 8,hf,hb,hp => cases hf; cases hb; simp only [List.take_succ_cons,List.all_cons,Bool.and_eq_true,id] at hp; exact qgb tb v W h (qji hp.1 hp.2.2.2.2.2.1 (by rw [Bool.and_eq_true]; exact hp.2.2.2.2.2.2.2.1))
 | n + 9,hf,hb,hp => simp at hf
theorem qi6 (k f : Nat) (hf : fnL[k]? = some f) : ∀ args W,(callFunc f args).run Tryz.prog W = .ok (.enter f args) W := by
 unfold fnL at hf
 match k,hf with
 | 0,hf => cases hf; exact enters_of Tryz.func25 (by kernel_rfl) rfl
 | 1,hf => cases hf; exact enters_of Tryz.func26 (by kernel_rfl) rfl
 | 2,hf => cases hf; exact enters_of Tryz.func27 (by kernel_rfl) rfl
 | 3,hf => cases hf; exact enters_of Tryz.func28 (by kernel_rfl) rfl
 | 4,hf => cases hf; exact enters_of Tryz.func29 (by kernel_rfl) rfl
 | 5,hf => cases hf; exact enters_of Tryz.func30 (by kernel_rfl) rfl
 | 6,hf => cases hf; exact enters_of Tryz.func31 (by kernel_rfl) rfl
 | 7,hf => cases hf; exact enters_of Tryz.func32 (by kernel_rfl) rfl
 | 8,hf => cases hf; exact enters_of Tryz.func33 (by kernel_rfl) rfl
 | n + 9,hf => simp at hf
def fvA : Array Value := #[.func (.func 25) #[] #[], .func (.func 26) #[] #[], .func (.func 27) #[] #[], .func (.func 28) #[] #[], .func (.func 29) #[] #[], .func (.func 30) #[] #[], .func (.func 31) #[] #[], .func (.func 32) #[] #[], .func (.func 33) #[] #[]]
theorem qo1 (k f : Nat) (hf : fnL[k]? = some f) : fvA[k]? = some (.func (.func f) #[] #[]) := by
 unfold fnL at hf
 match k,hf with
 | 0,hf => cases hf; rfl
 | 1,hf => cases hf; rfl
 | 2,hf => cases hf; rfl
 | 3,hf => cases hf; rfl
 | 4,hf => cases hf; rfl
 | 5,hf => cases hf; rfl
 | 6,hf => cases hf; rfl
 | 7,hf => cases hf; rfl
 | 8,hf => cases hf; rfl
 | n + 9,hf => simp at hf
theorem qfi (tb : Tb) (v : Ts) (w : World) (h : TbAt w tb v) (hw : WfT tb) : Calls Tryz.prog 14 #[.agg (tbC tb v)] w fun e w' => e = .returned (I (if chkP tb then 0 else 90)) ∧ Below w.heap.size w w' := by
 have hb1 : Below w.heap.size w ((w.alloc (.cells (tbC tb v) 30)).alloc (.cells fvA 47)) := (qa0 w _).trans ((qa0 _ _).mono (by simp))
 have hV0 : ((w.alloc (.cells (tbC tb v) 30)).alloc (.cells fvA 47)).heap[w.heap.size]? = some (.cells (tbC tb v) 30) := by
  rw [heap_alloc_old _ _ (by simp)]; exact heap_alloc_new w _
 have hG0 : ((w.alloc (.cells (tbC tb v) 30)).alloc (.cells fvA 47)).heap[w.heap.size + 1]? = some (.cells fvA 47) := by
  have := heap_alloc_new (w.alloc (.cells (tbC tb v) 30)) (.cells fvA 47)
  rw [World.size_alloc] at this
  exact this
 have HT : Hid (TbAt ((w.alloc (.cells (tbC tb v) 30)).alloc (.cells fvA 47)) tb v) := h.below hb1
 have HW : Hid (WfT tb) := hw
 have hi30 : (Tryz.prog.info? 30).map (·.size) = some (tbC tb v).size := by kernel_rfl
 obtain ⟨Z,hZ⟩ : ∃ Z : Int,Z = if chkP tb then 0 else 90 := ⟨_,rfl⟩
 rw [← hZ]
 have HZ : Hid (Z = if chkP tb then 0 else 90) := hZ
 have HC : Hid (∀ (W : World) (k f : Nat) (b : Bool),TbAt W tb v → fnL[k]? = some f → (chL tb)[k]? = some b → ((chL tb).take k).all id = true → Calls Tryz.prog f #[.agg (tbC tb v)] W fun e w' => e = .returned (.bool b) ∧ Below W.heap.size W w') := fun W k f b hT hf hb hp => qlx tb v W hT hw k f b hf hb hp
 have HFV : Hid (∀ W : World,W.heap[w.heap.size + 1]? = some (.cells fvA 47) → ∀ k f : Nat,fnL[k]? = some f → W.cell? ⟨w.heap.size + 1,k,none⟩ = some (.func (.func f) #[] #[])) := fun W hW k f hf => by
  rw [cell_of_row W _ k _ _ (0,0) hW]; exact qo1 k f hf
 have HB0 : Hid (Below w.heap.size w ((w.alloc (.cells (tbC tb v) 30)).alloc (.cells fvA 47))) := hb1
 have HV0 : Hid (((w.alloc (.cells (tbC tb v) 30)).alloc (.cells fvA 47)).heap[w.heap.size]? = some (.cells (tbC tb v) 30) ∧ ((w.alloc (.cells (tbC tb v) 30)).alloc (.cells fvA 47)).heap[w.heap.size + 1]? = some (.cells fvA 47)) := ⟨hV0,hG0⟩
 clear h hw hZ hb1 hV0 hG0
 unfold tbC at *
 unfold fvA at HT HV0 HB0
 go_enter Tryz.func14,Tryz.ntmps14
 go_wp2
 generalize ((w.alloc (.cells #[I tb.uses,I tb.modes, .slice v.t.a v.t.n v.t.c, .slice v.g.a v.g.n v.g.c, .slice v.r.a v.r.n v.r.c, .slice v.k.a v.k.n v.k.c, .slice v.a.a v.a.n v.a.c, .slice v.i.a v.i.n v.i.c, .slice v.s.a v.s.n v.s.c,I tb.depth,I tb.frames,I tb.errors,I tb.calls] 30)).alloc (.cells #[.func (.func 25) #[] #[], .func (.func 26) #[] #[], .func (.func 27) #[] #[], .func (.func 28) #[] #[], .func (.func 29) #[] #[], .func (.func 30) #[] #[], .func (.func 31) #[] #[], .func (.func 32) #[] #[], .func (.func 33) #[] #[]] 47)) = W0 at *
 go_loopw [4,7] (fun _ iv wr => ∃ j : Nat,j ≤ 9 ∧ iv = .int .i64 j ∧ Hid (((chL tb).take j).all id = true ∧ Below W0.heap.size W0 wr)) (fun _ iv _ => 9 - (intOf iv).toNat)
 case atStart => exact ⟨0,by omega,rfl,by simp,Below.refl _ _⟩
 case round =>
  obtain ⟨j,hj,rfl,HJ⟩ := hrel
  by_cases hlt : j < 9
  ·have hlt' : (j : Int) < 9 := by omega
   obtain ⟨f,hf⟩ : ∃ f,fnL[j]? = some f := ⟨_,List.getElem?_eq_getElem (by exact hlt)⟩
   obtain ⟨b,hbx⟩ : ∃ b,(chL tb)[j]? = some b := ⟨_,List.getElem?_eq_getElem (by exact hlt)⟩
   have eg := qi6 j f hf
   have hV : wr.heap[w.heap.size]? = some (.cells #[I tb.uses,I tb.modes, .slice v.t.a v.t.n v.t.c, .slice v.g.a v.g.n v.g.c, .slice v.r.a v.r.n v.r.c, .slice v.k.a v.k.n v.k.c, .slice v.a.a v.a.n v.a.c, .slice v.i.a v.i.n v.i.c, .slice v.s.a v.s.n v.s.c,I tb.depth,I tb.frames,I tb.errors,I tb.calls] 30) := (HJ.out.2.block _ (qay HV0.out.1)).trans HV0.out.1
   have hG := (HJ.out.2.block _ (qay HV0.out.2)).trans HV0.out.2
   have hc := HFV.out wr (by unfold fvA; exact hG) j f hf
   have cx := HC.out wr j f b (HT.out.below HJ.out.2) hf hbx HJ.out.1
   have HTT : Hid (b = false → Z = 90) := fun ht => by rw [HZ.out, ← qhg,qbp (p := id) hbx ht]; rfl
   have HA : Hid (b = true → ((chL tb).take (j + 1)).all id = true) := fun ht => by rw [qbz _ _ j _ hbx,HJ.out.1,ht]; rfl
   have HBW : Hid (Below W0.heap.size W0 wr) := HJ.out.2
   clear hbx HJ hf hG
   cases b with
   | false =>
    have HE : Hid (Z = 90) := HTT.out rfl
    clear HTT HA
    go_wp2_with (first | (refine wpList_load_row rfl 30 _ rfl w.heap.size rfl 30 _ (0,0) _ hV Tryz.underlying30 rfl hi30 ?_))
    refine cx.mono ?_
    clear cx
    rintro e7 w7 ⟨rfl,hb7⟩
    have HB7 : Hid (Below W0.heap.size W0 w7) := HBW.out.trans (hb7.mono HBW.out.size)
    clear hb7 hV hc eg
    go_wp2
    go_ret
    exact ⟨by rw [HE.out]; rfl,HB0.out.trans (HB7.out.mono HB0.out.size)⟩
   | true =>
    have HA2 : Hid (((chL tb).take (j + 1)).all id = true) := HA.out rfl
    clear HTT HA
    go_wp2_with (first | (refine wpList_load_row rfl 30 _ rfl w.heap.size rfl 30 _ (0,0) _ hV Tryz.underlying30 rfl hi30 ?_))
    refine cx.mono ?_
    clear cx
    rintro e7 w7 ⟨rfl,hb7⟩
    have HB7 : Hid (Below W0.heap.size W0 w7) := HBW.out.trans (hb7.mono HBW.out.size)
    clear hb7 hV hc eg
    go_wp2
    go_roundw
    case rel => exact ⟨j + 1,by omega,by go_num,HA2.out,HB7.out⟩
    case measure => simp [intOf]; omega
  ·obtain rfl : j = 9 := by omega
   have HE : Hid (Z = 0) := by
    show _ = _
    have := HJ.out.1
    rw [List.take_of_length_le (by exact Nat.le_refl 9),qhg] at this
    rw [HZ.out,this]
    rfl
   have HB : Hid (Below w.heap.size w wr) := HB0.out.trans (HJ.out.2.mono HB0.out.size)
   clear HJ
   go_wp2
   go_ret
   exact ⟨by rw [HE.out]; rfl,HB.out⟩
end Go.Proofs.YtijgopkhdjaolaaGreat
namespace Go.Proofs.YtijgopkhdjaolaaGreat
open Go.Maps Go.RowKit Go.Shelf Go.Sort
set_option linter.unusedSimpArgs false
set_option linter.unusedVariables false
set_option maxHeartbeats 16000000
set_option maxRecDepth 100000
structure Two9 (B E k : Nat) (w : World) (u1 : Value) (n : Nat) (xs : List Value) (u2 : Value) (m : Nat) (ys : List Value) : Prop where
 o1 : w.ownsRow B E k u1 n xs
 o2 : w.ownsRow B E k u2 m ys
 ap : ∀ g,u1.ownBlock = some g → u2.ownBlock ≠ some g
theorem Two9.symm {B E k : Nat} {w : World} {u1 u2 : Value} {n m : Nat} {xs ys : List Value} (h : Two9 B E k w u1 n xs u2 m ys) : Two9 B E k w u2 m ys u1 n xs := ⟨h.o2,h.o1,fun g e e' => h.ap g e' e⟩
theorem Two9.below {B E k : Nat} {w w' : World} {u1 u2 : Value} {n m : Nat} {xs ys : List Value} (h : Two9 B E k w u1 n xs u2 m ys) (hb : Below w.heap.size w w') : Two9 B E k w' u1 n xs u2 m ys := ⟨qa2 h.o1 hb,qa2 h.o2 hb,h.ap⟩
theorem qi7 {w : World} {base n : Nat} {s : Sl} {l : List Int} (hn : n = l.length) (ho : w.ownsRow base 3 1 (.slice s.a s.n s.c) n (l.map fun x => I x)) : RowsAt w 1 intP s l := by
 subst hn
 refine RwX.rows (P := intP) ho ⟨by simp,fun j x hj i hi => ⟨I x, ?_,rfl⟩⟩
 obtain rfl : i = 0 := by omega
 rw [Nat.mul_one,Nat.add_zero,List.getElem?_map,hj]
 rfl
theorem qcc {W W' : World} {b1 b2 E1 E2 k1 k2 n m : Nat} {u v : Value} {xs ys : List Value} (h : W.ownsRow b1 E1 k1 u n xs) (h2 : W.ownsRow b2 E2 k2 v m ys) (hne : E1 ≠ E2) (hg : W.grownBy W' v.ownBlock) : W'.ownsRow b1 E1 k1 u n xs := by
 refine h.kept hg ?_
 rcases h.2 with ⟨h0,_⟩ | ⟨g,cap,cur,hv,_,hh,_⟩
 ·rw [h0]; exact .inl rfl
 ·right
  intro e
  rcases h2.2 with ⟨h0,_⟩ | ⟨g',cap',cur',hv',_,hh',_⟩
  ·rw [h0,hv] at e; cases e
  ·rw [hv,hv'] at e
   have e3 : g = g' := Option.some.inj e
   rw [e3,hh'] at hh
   injection hh with hh
   injection hh with _ e4
   exact hne e4.symm
def qbt (w : World) (base : Nat) (l : List Int) (u : Value) : Prop := w.ownsRow base 3 1 u l.length (l.map fun x => I x)
theorem qcj {w w' : World} {base : Nat} {l : List Int} {u : Value} (h : qbt w base l u) (hb : Below w.heap.size w w') : qbt w' base l u := qa2 h hb
theorem qc0 {w w' : World} {base b2 E2 k2 m : Nat} {l : List Int} {u v : Value} {ys : List Value} (h : qbt w base l u) (h2 : w.ownsRow b2 E2 k2 v m ys) (hg : w.grownBy w' v.ownBlock) (hne : 3 ≠ E2) : qbt w' base l u := qcc h h2 hne hg
theorem qgf {w : World} {base : Nat} {l : List Int} {u : Value} (h : qbt w base l u) : IntsV w l u := by
 obtain ⟨a,c,rfl⟩ := qan h
 exact ⟨⟨a,l.length,c⟩,rfl,qi7 (s := ⟨a,l.length,c⟩) rfl h⟩
def tkO9 (w : World) (base : Nat) (x : TkR) (i : Nat) (u : Value) : Prop := match i with | 0 => u = I x.prio | 1 => u = I x.ring | 2 => u = .bool x.full | 3 => u = I x.limit | 4 => u = .int .u32 (x.mask : Int) | 5 => u = I x.inner | 6 => qbt w base x.own u | _ => u = .int .u32 (x.auto : Int)
def isO9 (w : World) (base : Nat) (x : IsR) (i : Nat) (u : Value) : Prop := match i with | 0 => u = I x.cat | 1 => u = I x.prio | _ => qbt w base x.own u
theorem qeq {w w' : World} {base : Nat} {x : TkR} {i : Nat} {u : Value} (h : tkO9 w base x i u) (hb : Below w.heap.size w w') : tkO9 w' base x i u := by
 unfold tkO9 at h ⊢
 split at h <;> first | exact h | exact qcj h hb
theorem qer {w w' : World} {base : Nat} {x : IsR} {i : Nat} {u : Value} (h : isO9 w base x i u) (hb : Below w.heap.size w w') : isO9 w' base x i u := by
 unfold isO9 at h ⊢
 split at h <;> first | exact h | exact qcj h hb
theorem qi8 {w w' : World} {base b2 k2 m : Nat} {x : TkR} {i : Nat} {u v : Value} {ys : List Value} (h : tkO9 w base x i u) (h2 : w.ownsRow b2 61 k2 v m ys) (hg : w.grownBy w' v.ownBlock) : tkO9 w' base x i u := by
 unfold tkO9 at h ⊢
 split at h <;> first | exact h | exact qc0 h h2 hg (by decide)
theorem qi9 {w w' : World} {base b2 k2 m : Nat} {x : IsR} {i : Nat} {u v : Value} {ys : List Value} (h : isO9 w base x i u) (h2 : w.ownsRow b2 87 k2 v m ys) (hg : w.grownBy w' v.ownBlock) : isO9 w' base x i u := by
 unfold isO9 at h ⊢
 split at h <;> first | exact h | exact qc0 h h2 hg (by decide)
theorem qmp {w : World} {base : Nat} {x : TkR} {u : Value} : ∀ {i : Nat},tkO9 w base x i u → tkrP w x i u
 | 0,h => h
 | 1,h => h
 | 2,h => h
 | 3,h => h
 | 4,h => h
 | 5,h => h
 | 6,h => qgf h
 | _ + 7,h => h
theorem qmq {w : World} {base : Nat} {x : IsR} {u : Value} : ∀ {i : Nat},isO9 w base x i u → isrP w x i u
 | 0,h => h
 | 1,h => h
 | _ + 2,h => qgf h
end Go.Proofs.YtijgopkhdjaolaaGreat
