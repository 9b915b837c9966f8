import Derived.Test.YtmidaeljeoifdaaGreatDoorTcf
import Derived.Lib.QuietBelow
namespace Go.Proofs.YtmidaeljeoifdaaGreatDoor
set_option maxRecDepth 100000
set_option maxHeartbeats 16000000
open Go.RowKit Go.Shelf Go.Sort
set_option linter.unusedVariables false
set_option linter.unusedSimpArgs false
theorem actionFits_any (tb : Tb) (v : Ts) (a : AcR) (lo hi : Int) (w : World) (h : TbAt w tb v) : Calls Tryz.prog 63 #[.agg (tbC tb v), .agg (acrC a), I lo, I hi] w fun e w' => e = .returned (.bool (acB tb a lo hi)) ∧ Below w.heap.size w w' := by
 have hb : ∀ o p, Below w.heap.size w ((w.alloc o).alloc p) := fun o p => ((Below.refl w.heap.size w).alloc (Nat.le_refl _) o).alloc (by simp) p
 have k1 := withinK_any a.kind lo hi
 have k2 := isID_tasks a.task v.t
 have HN : Hid (v.t.n = tb.tasks.length) := h.t.n
 obtain ⟨R, hR⟩ : ∃ R, R = acB tb a lo hi := ⟨_, rfl⟩
 rw [← hR]
 have HR : Hid (R = (inI a.kind lo hi && (if a.kind = 1 then idB a.task v.t.n && (a.mask == 0) else if a.kind = 2 then idB a.task v.t.n && (a.mask != 0) && (bits BinOp.andNot IntKind.u32 (a.mask : Int) (maskOf tb a.task : Int) == 0) else (a.task == 0) && (a.mask == 0)))) := by
  show _ = _
  rw [hR, HN.out]
  rfl
 have HT : Hid (∀ o p, TbAt ((w.alloc o).alloc p) tb v) := fun o p => h.below (hb o p)
 clear hR h
 unfold acrC tbC
 cases hi1 : inI a.kind lo hi with
 | false =>
  rw [hi1] at k1 HR
  go_enter Tryz.func63, Tryz.ntmps63
  go_wp2_with (first | (go_at_call 108; refine (k1 _).mono ?_; clear k1; rintro e w' ⟨rfl, rfl⟩))
  go_ret
  exact ⟨ret_bool' (by rw [HR.out]; simp), hb _ _⟩
 | true =>
  rw [hi1] at k1 HR
  clear hi1
  by_cases g1 : a.kind = 1
  ·have g1' : (a.kind == 1) = true := by simpa using g1
   rw [if_pos g1] at HR
   clear g1
   cases hid : idB a.task v.t.n with
   | false =>
    rw [hid] at k2 HR
    go_enter Tryz.func63, Tryz.ntmps63
    go_wp2_with (first | (go_at_call 108; refine (k1 _).mono ?_; clear k1; rintro e w' ⟨rfl, rfl⟩) | (go_at_call 109; refine (k2 _).mono ?_; clear k2; rintro e w' ⟨rfl, rfl⟩))
    go_ret
    exact ⟨ret_bool' (by rw [HR.out]; simp), hb _ _⟩
   | true =>
    rw [hid] at k2 HR
    go_enter Tryz.func63, Tryz.ntmps63
    go_wp2_with (first | (go_at_call 108; refine (k1 _).mono ?_; clear k1; rintro e w' ⟨rfl, rfl⟩) | (go_at_call 109; refine (k2 _).mono ?_; clear k2; rintro e w' ⟨rfl, rfl⟩))
    go_ret
    exact ⟨ret_bool' (by rw [HR.out, Bool.eq_iff_iff]; simp), hb _ _⟩
  ·have g1' : (a.kind == 1) = false := by simpa using g1
   rw [if_neg g1] at HR
   by_cases g2 : a.kind = 2
   ·have g2' : (a.kind == 2) = true := by simpa using g2
    rw [if_pos g2] at HR
    clear g1 g2
    go_enter Tryz.func63, Tryz.ntmps63
    go_wp2_with (first | (go_at_call 108; refine (k1 _).mono ?_; clear k1; rintro e w' ⟨rfl, rfl⟩))
    have HT1 := HT.out (.cells #[I tb.uses, I tb.modes, .slice v.t.a v.t.n v.t.c, .slice v.g.a v.g.n v.g.c, .slice v.r.a v.r.n v.r.c, .slice v.k.a v.k.n v.k.c, .slice v.a.a v.a.n v.a.c, .slice v.i.a v.i.n v.i.c, .slice v.s.a v.s.n v.s.c, I tb.depth, I tb.frames, I tb.errors, I tb.calls] 30) (.cells #[I a.kind, I a.task, .int .u32 (a.mask : Int)] 93)
    have HB1 := hb (.cells #[I tb.uses, I tb.modes, .slice v.t.a v.t.n v.t.c, .slice v.g.a v.g.n v.g.c, .slice v.r.a v.r.n v.r.c, .slice v.k.a v.k.n v.k.c, .slice v.a.a v.a.n v.a.c, .slice v.i.a v.i.n v.i.c, .slice v.s.a v.s.n v.s.c, I tb.depth, I tb.frames, I tb.errors, I tb.calls] 30) (.cells #[I a.kind, I a.task, .int .u32 (a.mask : Int)] 93)
    have hV1 : ((w.alloc (.cells #[I tb.uses, I tb.modes, .slice v.t.a v.t.n v.t.c, .slice v.g.a v.g.n v.g.c, .slice v.r.a v.r.n v.r.c, .slice v.k.a v.k.n v.k.c, .slice v.a.a v.a.n v.a.c, .slice v.i.a v.i.n v.i.c, .slice v.s.a v.s.n v.s.c, I tb.depth, I tb.frames, I tb.errors, I tb.calls] 30)).alloc (.cells #[I a.kind, I a.task, .int .u32 (a.mask : Int)] 93)).heap[w.heap.size]? = some (.cells #[I tb.uses, I tb.modes, .slice v.t.a v.t.n v.t.c, .slice v.g.a v.g.n v.g.c, .slice v.r.a v.r.n v.r.c, .slice v.k.a v.k.n v.k.c, .slice v.a.a v.a.n v.a.c, .slice v.i.a v.i.n v.i.c, .slice v.s.a v.s.n v.s.c, I tb.depth, I tb.frames, I tb.errors, I tb.calls] 30 (0, 0)) := ((below_alloc (w.alloc (.cells #[I tb.uses, I tb.modes, .slice v.t.a v.t.n v.t.c, .slice v.g.a v.g.n v.g.c, .slice v.r.a v.r.n v.r.c, .slice v.k.a v.k.n v.k.c, .slice v.a.a v.a.n v.a.c, .slice v.i.a v.i.n v.i.c, .slice v.s.a v.s.n v.s.c, I tb.depth, I tb.frames, I tb.errors, I tb.calls] 30)) (.cells #[I a.kind, I a.task, .int .u32 (a.mask : Int)] 93)).block w.heap.size (by simp)).trans (heap_alloc_new w _)
    have hV2 : ((w.alloc (.cells #[I tb.uses, I tb.modes, .slice v.t.a v.t.n v.t.c, .slice v.g.a v.g.n v.g.c, .slice v.r.a v.r.n v.r.c, .slice v.k.a v.k.n v.k.c, .slice v.a.a v.a.n v.a.c, .slice v.i.a v.i.n v.i.c, .slice v.s.a v.s.n v.s.c, I tb.depth, I tb.frames, I tb.errors, I tb.calls] 30)).alloc (.cells #[I a.kind, I a.task, .int .u32 (a.mask : Int)] 93)).heap[w.heap.size + 1]? = some (.cells #[I a.kind, I a.task, .int .u32 (a.mask : Int)] 93 (0, 0)) := by
     have := heap_alloc_new (w.alloc (.cells #[I tb.uses, I tb.modes, .slice v.t.a v.t.n v.t.c, .slice v.g.a v.g.n v.g.c, .slice v.r.a v.r.n v.r.c, .slice v.k.a v.k.n v.k.c, .slice v.a.a v.a.n v.a.c, .slice v.i.a v.i.n v.i.c, .slice v.s.a v.s.n v.s.c, I tb.depth, I tb.frames, I tb.errors, I tb.calls] 30)) (.cells #[I a.kind, I a.task, .int .u32 (a.mask : Int)] 93)
     rw [World.size_alloc] at this
     exact this
    clear HT hb
    generalize ((w.alloc (.cells #[I tb.uses, I tb.modes, .slice v.t.a v.t.n v.t.c, .slice v.g.a v.g.n v.g.c, .slice v.r.a v.r.n v.r.c, .slice v.k.a v.k.n v.k.c, .slice v.a.a v.a.n v.a.c, .slice v.i.a v.i.n v.i.c, .slice v.s.a v.s.n v.s.c, I tb.depth, I tb.frames, I tb.errors, I tb.calls] 30)).alloc (.cells #[I a.kind, I a.task, .int .u32 (a.mask : Int)] 93)) = W0 at *
    have z2 := cell_of_row _ w.heap.size 2 _ _ (0, 0) hV1
    have y1 := cell_of_row _ (w.heap.size + 1) 1 _ _ (0, 0) hV2
    have y2 := cell_of_row _ (w.heap.size + 1) 2 _ _ (0, 0) hV2
    simp at z2 y1 y2
    clear hV1 hV2
    have cI : ∀ d os, Calls Tryz.prog 109 #[I a.task, .slice v.t.a v.t.n v.t.c] (grow (redrawn W0 d) os) fun e w'' => e = .returned (.bool (idB a.task v.t.n)) ∧ ∃ p : Regrown, w'' = grow (redrawn W0 p.d) p.os := fun d os => Calls.regrown_of ((k2 _).mono (fun e w' h => ⟨h.1, by rw [h.2]; exact Below.refl _ _⟩))
    clear k2
    have x2 := cell_regrown z2
    have x3 := cell_regrown y1
    have x4 := cell_regrown y2
    cases hid : idB a.task v.t.n with
    | false =>
     rw [hid] at cI HR
     refine wp_region_quiet_below (by kernel_rfl) (by kernel_rfl) ?_
     repeat (go_big_quiet_step (first | exact cI _ _))
     refine wpQuiet_nil ?_
     rintro _ ⟨⟨dq, osq⟩, rfl⟩
     dsimp only
     have HB9 := HB1.trans ((below_regrown W0 dq osq).mono HB1.size)
     generalize grow (redrawn W0 dq) osq = w9 at *
     go_wp2
     go_ret
     exact ⟨ret_bool' (by rw [HR.out]; simp), HB9⟩
    | true =>
     rw [hid] at cI HR
     have hid2 : 0 ≤ a.task ∧ a.task < (v.t.n : Int) := by unfold idB at hid; simpa using hid
     obtain ⟨k, hk⟩ := Int.eq_ofNat_of_zero_le hid2.1
     obtain ⟨x, hx⟩ : ∃ x, tb.tasks[k]? = some x := ⟨_, List.getElem?_eq_getElem (by rw [← HN.out]; omega)⟩
     obtain ⟨gr, orr, s6, er, hgr, t0, t1, t2, t3, t4, t5, t6, t7, _⟩ := tkr_at HT1 hx
     have HM : Hid (maskOf tb a.task = x.mask) := by
      show _ = _
      unfold maskOf
      rw [hk, Int.toNat_natCast, hx]
     have hk1 : (k : Int) < v.t.n := by omega
     have x5 := cell_regrown t4
     rw [hk] at x3 cI
     rw [er] at x2 cI
     clear hx er hid hid2 t0 t1 t2 t3 t4 t5 t6 t7 z2 y1 y2
     cases h5 : ((a.mask : Int) != 0) with
     | false =>
      refine wp_region_quiet_below (by kernel_rfl) (by kernel_rfl) ?_
      repeat (go_big_quiet_step (first | exact cI _ _))
      refine wpQuiet_nil ?_
      rintro _ ⟨⟨dq, osq⟩, rfl⟩
      dsimp only
      have HB9 := HB1.trans ((below_regrown W0 dq osq).mono HB1.size)
      generalize grow (redrawn W0 dq) osq = w9 at *
      go_wp2
      go_ret
      exact ⟨ret_bool' (by rw [HR.out]; simp at h5; simp [h5]), HB9⟩
     | true =>
      refine wp_region_quiet_below (by kernel_rfl) (by kernel_rfl) ?_
      repeat (go_big_quiet_step (first | exact cI _ _))
      refine wpQuiet_nil ?_
      rintro _ ⟨⟨dq, osq⟩, rfl⟩
      dsimp only
      have HB9 := HB1.trans ((below_regrown W0 dq osq).mono HB1.size)
      have HX : Hid (R = (bits BinOp.andNot IntKind.u32 (a.mask : Int) (x.mask : Int) == 0)) := by
       show R = _
       rw [HR.out, HM.out]
       simp at h5
       simp [h5]
      generalize grow (redrawn W0 dq) osq = w9 at *
      generalize (bits BinOp.andNot IntKind.u32 (a.mask : Int) (x.mask : Int) == 0) = bb at *
      go_wp2
      go_ret
      exact ⟨ret_bool' HX.out.symm, HB9⟩
   ·have g2' : (a.kind == 2) = false := by simpa using g2
    rw [if_neg g2] at HR
    clear g1 g2
    go_enter Tryz.func63, Tryz.ntmps63
    cases h5 : (a.task == 0)
    ·go_wp2_with (first | (go_at_call 108; refine (k1 _).mono ?_; clear k1; rintro e w' ⟨rfl, rfl⟩))
     go_ret
     exact ⟨ret_bool' (by rw [HR.out, h5]; simp), hb _ _⟩
    ·go_wp2_with (first | (go_at_call 108; refine (k1 _).mono ?_; clear k1; rintro e w' ⟨rfl, rfl⟩))
     go_ret
     exact ⟨ret_bool' (by rw [HR.out, h5, Bool.eq_iff_iff]; simp), hb _ _⟩
end Go.Proofs.YtmidaeljeoifdaaGreatDoor
