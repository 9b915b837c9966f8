import Derived.Test.YtmidaeljeoifdaaGreatDoorTcv
namespace Go.Proofs.YtmidaeljeoifdaaGreatDoor
set_option maxRecDepth 100000
set_option maxHeartbeats 16000000
open Go.RowKit Go.Shelf Go.Sort
set_option linter.unusedVariables false
set_option linter.unusedSimpArgs false
def rmB (tb : Tb) : Bool := roomB tb (max (crowdL (tb.als.map fun x => x.ctr)) (crowdL (rcvL tb)))
theorem roomFits_any (tb : Tb) (v : Ts) (w : World) (h : TbAt w tb v) (hr : RoomOK tb) : Calls Tryz.prog 25 #[.agg (tbC tb v)] w fun e w' => e = .returned (.bool (rmB tb)) ∧ Below w.heap.size w w' := by
 have hb := below_alloc w (.cells (tbC tb v) 30)
 have hV0 := heap_alloc_new w (.cells (tbC tb v) 30)
 have hT0 := h.below hb
 have HB0 : Hid (Below w.heap.size w (w.alloc (.cells (tbC tb v) 30))) := hb
 have hi30 : (Tryz.prog.info? 30).map (·.size) = some (tbC tb v).size := by kernel_rfl
 obtain ⟨p0, p1, p2, p3, hp, hB⟩ : ∃ p0 p1 p2 p3 : Int, rmC tb = #[I p0, I p1, I p2, I p3] ∧ rmB tb = ((tb.depth == p0) && (tb.frames == p1) && (tb.errors == p2) && (tb.calls == p3)) := ⟨_, _, _, _, rfl, rfl⟩
 obtain ⟨R, hR⟩ : ∃ R, R = rmB tb := ⟨_, rfl⟩
 have HX : Hid (R = ((tb.depth == p0) && (tb.frames == p1) && (tb.errors == p2) && (tb.calls == p3))) := hR.trans hB
 rw [← hR]
 have kR := fun W hW => reckon_any9 tb v W (hT0.below hW) hr
 rw [hp] at kR
 clear h hb hB hR hp
 go_enter Tryz.func25, Tryz.ntmps25
 unfold tbC at *
 go_upto_region 1 with fail
 generalize (w.alloc (.cells #[I tb.uses, I tb.modes, .slice v.t.a v.t.n v.t.c, .slice v.g.a v.g.n v.g.c, .slice v.r.a v.r.n v.r.c, .slice v.k.a v.k.n v.k.c, .slice v.a.a v.a.n v.a.c, .slice v.i.a v.i.n v.i.c, .slice v.s.a v.s.n v.s.c, I tb.depth, I tb.frames, I tb.errors, I tb.calls] 30)) = W0 at *
 have cR : ∀ d os, Calls Tryz.prog 73 #[.agg #[I tb.uses, I tb.modes, .slice v.t.a v.t.n v.t.c, .slice v.g.a v.g.n v.g.c, .slice v.r.a v.r.n v.r.c, .slice v.k.a v.k.n v.k.c, .slice v.a.a v.a.n v.a.c, .slice v.i.a v.i.n v.i.c, .slice v.s.a v.s.n v.s.c, I tb.depth, I tb.frames, I tb.errors, I tb.calls]] (grow (redrawn W0 d) os) fun e w'' => e = .returned (.agg #[I p0, I p1, I p2, I p3]) ∧ ∃ p : Regrown, w'' = grow (redrawn W0 p.d) p.os := regrown_bel9 kR
 have hRV := heap_regrown9 hV0
 have x9 := cell_of_row _ w.heap.size 9 _ _ (0, 0) hV0
 have x10 := cell_of_row _ w.heap.size 10 _ _ (0, 0) hV0
 have x11 := cell_of_row _ w.heap.size 11 _ _ (0, 0) hV0
 have x12 := cell_of_row _ w.heap.size 12 _ _ (0, 0) hV0
 simp at x9 x10 x11 x12
 have y9 := cell_regrown x9
 have y10 := cell_regrown x10
 have y11 := cell_regrown x11
 have y12 := cell_regrown x12
 clear kR hT0 hr hV0 x9 x10 x11 x12
 by_cases b0 : p0 = tb.depth
 rotate_left
 ·refine wp_region_quiet_below (by kernel_rfl) (by kernel_rfl) ?_
  repeat (first | (go_big_quiet_step (first | exact cR _ _)) | (refine wpQuiet_load_row9 (by kernel_rfl) 30 _ rfl w.heap.size rfl 30 _ (0, 0) _ hRV Tryz.underlying30 rfl hi30 ?_; simp only [Act.put, List.getElem_toArray, List.getElem_cons_succ, List.getElem_cons_zero, List.setIfInBounds_toArray, List.set_cons_zero, List.set_cons_succ]))
  refine wpQuiet_nil ?_
  rintro _ ⟨⟨dq, osq⟩, rfl⟩
  dsimp only
  have HB9 : Hid (Below w.heap.size w (grow (redrawn W0 dq) osq)) := HB0.out.trans ((below_regrown W0 dq osq).mono HB0.out.size)
  clear cR y9 y10 y11 y12 hRV
  generalize grow (redrawn W0 dq) osq = w9 at *
  go_wp2
  go_ret
  exact ⟨ret_bool' (by rw [HX.out, Bool.eq_iff_iff]; simp; try omega), HB9.out⟩
 subst b0
 by_cases b1 : p1 = tb.frames
 rotate_left
 ·refine wp_region_quiet_below (by kernel_rfl) (by kernel_rfl) ?_
  repeat (first | (go_big_quiet_step (first | exact cR _ _)) | (refine wpQuiet_load_row9 (by kernel_rfl) 30 _ rfl w.heap.size rfl 30 _ (0, 0) _ hRV Tryz.underlying30 rfl hi30 ?_; simp only [Act.put, List.getElem_toArray, List.getElem_cons_succ, List.getElem_cons_zero, List.setIfInBounds_toArray, List.set_cons_zero, List.set_cons_succ]))
  refine wpQuiet_nil ?_
  rintro _ ⟨⟨dq, osq⟩, rfl⟩
  dsimp only
  have HB9 : Hid (Below w.heap.size w (grow (redrawn W0 dq) osq)) := HB0.out.trans ((below_regrown W0 dq osq).mono HB0.out.size)
  clear cR y9 y10 y11 y12 hRV
  generalize grow (redrawn W0 dq) osq = w9 at *
  go_wp2
  go_ret
  exact ⟨ret_bool' (by rw [HX.out, Bool.eq_iff_iff]; simp; try omega), HB9.out⟩
 subst b1
 by_cases b2 : p2 = tb.errors
 rotate_left
 ·refine wp_region_quiet_below (by kernel_rfl) (by kernel_rfl) ?_
  repeat (first | (go_big_quiet_step (first | exact cR _ _)) | (refine wpQuiet_load_row9 (by kernel_rfl) 30 _ rfl w.heap.size rfl 30 _ (0, 0) _ hRV Tryz.underlying30 rfl hi30 ?_; simp only [Act.put, List.getElem_toArray, List.getElem_cons_succ, List.getElem_cons_zero, List.setIfInBounds_toArray, List.set_cons_zero, List.set_cons_succ]))
  refine wpQuiet_nil ?_
  rintro _ ⟨⟨dq, osq⟩, rfl⟩
  dsimp only
  have HB9 : Hid (Below w.heap.size w (grow (redrawn W0 dq) osq)) := HB0.out.trans ((below_regrown W0 dq osq).mono HB0.out.size)
  clear cR y9 y10 y11 y12 hRV
  generalize grow (redrawn W0 dq) osq = w9 at *
  go_wp2
  go_ret
  exact ⟨ret_bool' (by rw [HX.out, Bool.eq_iff_iff]; simp; try omega), HB9.out⟩
 subst b2
 by_cases b3 : p3 = tb.calls
 rotate_left
 ·refine wp_region_quiet_below (by kernel_rfl) (by kernel_rfl) ?_
  repeat (first | (go_big_quiet_step (first | exact cR _ _)) | (refine wpQuiet_load_row9 (by kernel_rfl) 30 _ rfl w.heap.size rfl 30 _ (0, 0) _ hRV Tryz.underlying30 rfl hi30 ?_; simp only [Act.put, List.getElem_toArray, List.getElem_cons_succ, List.getElem_cons_zero, List.setIfInBounds_toArray, List.set_cons_zero, List.set_cons_succ]))
  refine wpQuiet_nil ?_
  rintro _ ⟨⟨dq, osq⟩, rfl⟩
  dsimp only
  have HB9 : Hid (Below w.heap.size w (grow (redrawn W0 dq) osq)) := HB0.out.trans ((below_regrown W0 dq osq).mono HB0.out.size)
  clear cR y9 y10 y11 y12 hRV
  generalize grow (redrawn W0 dq) osq = w9 at *
  go_wp2
  go_ret
  exact ⟨ret_bool' (by rw [HX.out, Bool.eq_iff_iff]; simp; try omega), HB9.out⟩
 subst b3
 refine wp_region_quiet_below (by kernel_rfl) (by kernel_rfl) ?_
 repeat (first | (go_big_quiet_step (first | exact cR _ _)) | (refine wpQuiet_load_row9 (by kernel_rfl) 30 _ rfl w.heap.size rfl 30 _ (0, 0) _ hRV Tryz.underlying30 rfl hi30 ?_; simp only [Act.put, List.getElem_toArray, List.getElem_cons_succ, List.getElem_cons_zero, List.setIfInBounds_toArray, List.set_cons_zero, List.set_cons_succ]))
 refine wpQuiet_nil ?_
 rintro _ ⟨⟨dq, osq⟩, rfl⟩
 dsimp only
 have HB9 : Hid (Below w.heap.size w (grow (redrawn W0 dq) osq)) := HB0.out.trans ((below_regrown W0 dq osq).mono HB0.out.size)
 clear cR y9 y10 y11 y12 hRV
 generalize grow (redrawn W0 dq) osq = w9 at *
 go_wp2
 go_ret
 exact ⟨ret_bool' (by rw [HX.out, Bool.eq_iff_iff]; simp; try omega), HB9.out⟩
end Go.Proofs.YtmidaeljeoifdaaGreatDoor
