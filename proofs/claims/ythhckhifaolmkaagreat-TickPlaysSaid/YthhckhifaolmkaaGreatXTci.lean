import Derived.Test.YthhckhifaolmkaaGreatXTce
import Derived.Shelf.Abstract
import Derived.Lib.QuietBelow
namespace Go.Proofs.YthhckhifaolmkaaGreat
open Go.RowKit Go.Shelf
set_option linter.unusedVariables false
set_option linter.unusedSimpArgs false

set_option maxRecDepth 100000 in
theorem resourcesFit1_any (x : RsR) (w : World) : Calls Tryz.prog 88 #[.agg #[.bool x.inner, I x.ceil]] w fun e w' => e = .returned (.bool (inI x.ceil (-1) 127)) ∧ Below w.heap.size w w' := by
  have hb : ∀ o, Below w.heap.size w (w.alloc o) := fun o => below_alloc w o
  have k1 := withinI_any x.ceil (-1) 127
  go_enter Tryz.func88, Tryz.ntmps88
  go_wp2_with (go_at_call 86; refine (k1 _).mono ?_; clear k1; rintro e w' ⟨rfl, rfl⟩)
  go_ret
  exact ⟨rfl, hb _⟩
set_option maxHeartbeats 4000000 in
set_option maxRecDepth 100000 in
theorem resourcesFit_any (tb : Tb) (v : Ts) (w : World) (h : TbAt w tb v) : Calls Tryz.prog 61 #[.agg (tbC tb v)] w fun e w' => e = .returned (.bool (tb.ress.all (fun r => inI r.ceil (-1) 127))) ∧ Below w.heap.size w w' := by
  have hb : ∀ o, Below w.heap.size w (w.alloc o) := fun o => below_alloc w o
  have ke := fun o => every_rsr (w.alloc o) v.r tb.ress (fun W hW => (h.below ((hb o).trans (hW.mono (hb o).size))).r) 88 #[] (enters_of Tryz.func88 (by kernel_rfl) rfl) (fun r => inI r.ceil (-1) 127) (fun W hW x hx => resourcesFit1_any x W)
  unfold tbC
  go_enter Tryz.func61, Tryz.ntmps61
  go_wp2_with (go_at_call 87; refine (ke _).mono ?_; clear ke; rintro e w' ⟨rfl, hb2⟩)
  go_ret
  exact ⟨rfl, (hb _).trans (hb2.mono (hb _).size)⟩
theorem ctB_eq (x : CtR) : ctB x = ((decide (1 ≤ x.max) && decide (x.max ≤ 2147483647)) && (decide (1 ≤ x.base) && decide (x.base ≤ 2147483647)) && (decide (1 ≤ x.min) && decide (x.min ≤ x.max))) := by
  unfold ctB
  rw [Bool.eq_iff_iff]
  simp
  omega
set_option maxHeartbeats 4000000 in
set_option maxRecDepth 100000 in
theorem countersFit1_any (x : CtR) (w : World) : Calls Tryz.prog 98 #[.agg #[.int .u32 (x.max : Int), .int .u32 (x.base : Int), .int .u32 (x.min : Int)]] w fun e w' => e = .returned (.bool (ctB x)) ∧ Below w.heap.size w w' := by
  have hb : ∀ o, Below w.heap.size w (w.alloc o) := fun o => below_alloc w o
  have k1 := withinU_any x.max 1 2147483647
  have k2 := withinU_any x.base 1 2147483647
  have k3 := withinU_any x.min 1 x.max
  rw [ctB_eq]
  generalize (decide (1 ≤ x.max) && decide (x.max ≤ 2147483647)) = b1 at *
  generalize (decide (1 ≤ x.base) && decide (x.base ≤ 2147483647)) = b2 at *
  generalize (decide (1 ≤ x.min) && decide (x.min ≤ x.max)) = b3 at *
  go_enter Tryz.func98, Tryz.ntmps98
  cases b1
  · go_wp2_with (first | (go_at_call 99; refine (k1 _).mono ?_; clear k1; rintro e w' ⟨rfl, rfl⟩))
    go_ret
    exact ⟨rfl, hb _⟩
  · cases b2
    · go_wp2_with (first | (go_at_call 99; refine (k1 _).mono ?_; clear k1; rintro e w' ⟨rfl, rfl⟩) | (go_at_call 99; refine (k2 _).mono ?_; clear k2; rintro e w' ⟨rfl, rfl⟩))
      go_ret
      exact ⟨rfl, hb _⟩
    · go_wp2_with (first | (go_at_call 99; refine (k1 _).mono ?_; clear k1; rintro e w' ⟨rfl, rfl⟩) | (go_at_call 99; refine (k2 _).mono ?_; clear k2; rintro e w' ⟨rfl, rfl⟩) | (go_at_call 99; refine (k3 _).mono ?_; clear k3; rintro e w' ⟨rfl, rfl⟩))
      go_ret
      exact ⟨ret_bool' (by simp), hb _⟩
set_option maxHeartbeats 4000000 in
set_option maxRecDepth 100000 in
theorem countersFit_any (tb : Tb) (v : Ts) (w : World) (h : TbAt w tb v) : Calls Tryz.prog 64 #[.agg (tbC tb v)] w fun e w' => e = .returned (.bool (tb.ctrs.all ctB)) ∧ Below w.heap.size w w' := by
  have hb : ∀ o, Below w.heap.size w (w.alloc o) := fun o => below_alloc w o
  have ke := fun o => every_ctr (w.alloc o) v.k tb.ctrs (fun W hW => (h.below ((hb o).trans (hW.mono (hb o).size))).k) 98 #[] (enters_of Tryz.func98 (by kernel_rfl) rfl) ctB (fun W hW x hx => countersFit1_any x W)
  unfold tbC
  go_enter Tryz.func64, Tryz.ntmps64
  go_wp2_with (go_at_call 97; refine (ke _).mono ?_; clear ke; rintro e w' ⟨rfl, hb2⟩)
  go_ret
  exact ⟨rfl, (hb _).trans (hb2.mono (hb _).size)⟩
set_option maxHeartbeats 8000000 in
set_option maxRecDepth 100000 in
theorem isrFits_any (tb : Tb) (v : Ts) (x : IsR) (s : Sl) (w : World) (h : TbAt w tb v) (hs : RowsAt w 1 intP s x.own) : Calls Tryz.prog 105 #[.agg (tbC tb v), .agg (isrC x s)] w fun e w' => e = .returned (.bool (isB tb x)) ∧ Below w.heap.size w w' := by
  have hb : ∀ o p, Below w.heap.size w ((w.alloc o).alloc p) := fun o p => ((Below.refl w.heap.size w).alloc (Nat.le_refl _) o).alloc (by simp) p
  have k1 := withinI_any x.cat 1 2
  have k2 := withinI_any x.prio 64 127
  have ko := fun o p => ownFits_any tb v ((w.alloc o).alloc p) (h.below (hb o p)) s x.own (hs.below (hb o p) (fun _ _ _ _ h => h)) x.prio
  have HN : Hid (x.own.isEmpty = ((s.n : Int) == 0)) := by
    show _ = _
    rw [hs.n]
    cases x.own <;> simp
    omega
  obtain ⟨R, hR⟩ : ∃ R, R = isB tb x := ⟨_, rfl⟩
  rw [← hR]
  have HR : Hid (R = (inI x.cat 1 2 && inI x.prio 64 127 && (x.cat == 2 || ((s.n : Int) == 0)) && ownG tb x.prio (-1) x.own)) := by
    show _ = _
    rw [hR]
    unfold isB
    rw [HN.out]
  clear hR HN h hs
  generalize inI x.cat 1 2 = b1 at *
  generalize inI x.prio 64 127 = b2 at *
  generalize ownG tb x.prio (-1) x.own = b4 at *
  unfold isrC tbC at *
  generalize x.cat = xc at *
  generalize x.prio = xp at *
  go_enter Tryz.func105, Tryz.ntmps105
  cases b1
  · go_wp2_with (first | (go_at_call 86; refine (k1 _).mono ?_; clear k1; rintro e w' ⟨rfl, rfl⟩))
    go_ret
    exact ⟨ret_bool' (by rw [HR.out]; simp), hb _ _⟩
  · cases b2
    · go_wp2_with (first | (go_at_call 86; refine (k1 _).mono ?_; clear k1; rintro e w' ⟨rfl, rfl⟩) | (go_at_call 86; refine (k2 _).mono ?_; clear k2; rintro e w' ⟨rfl, rfl⟩))
      go_ret
      exact ⟨ret_bool' (by rw [HR.out]; simp), hb _ _⟩
    · cases h3 : (xc == 2)
      · cases h4 : ((s.n : Int) == 0)
        · go_wp2_with (first | (go_at_call 86; refine (k1 _).mono ?_; clear k1; rintro e w' ⟨rfl, rfl⟩) | (go_at_call 86; refine (k2 _).mono ?_; clear k2; rintro e w' ⟨rfl, rfl⟩))
          go_ret
          exact ⟨ret_bool' (by rw [HR.out, h3, h4]; simp), hb _ _⟩
        · go_wp2_with (first | (go_at_call 86; refine (k1 _).mono ?_; clear k1; rintro e w' ⟨rfl, rfl⟩) | (go_at_call 86; refine (k2 _).mono ?_; clear k2; rintro e w' ⟨rfl, rfl⟩) | (go_at_call 95; refine (ko _ _).mono ?_; clear ko; rintro e w' ⟨rfl, hb2⟩))
          go_ret
          exact ⟨ret_bool' (by rw [HR.out, h3, h4]; simp), (hb _ _).trans (hb2.mono (hb _ _).size)⟩
      · go_wp2_with (first | (go_at_call 86; refine (k1 _).mono ?_; clear k1; rintro e w' ⟨rfl, rfl⟩) | (go_at_call 86; refine (k2 _).mono ?_; clear k2; rintro e w' ⟨rfl, rfl⟩) | (go_at_call 95; refine (ko _ _).mono ?_; clear ko; rintro e w' ⟨rfl, hb2⟩))
        go_ret
        exact ⟨ret_bool' (by rw [HR.out, h3]; simp), (hb _ _).trans (hb2.mono (hb _ _).size)⟩
end Go.Proofs.YthhckhifaolmkaaGreat

namespace Go.Proofs.YthhckhifaolmkaaGreat
open Go.RowKit Go.Shelf Go.Sort
set_option linter.unusedVariables false
set_option linter.unusedSimpArgs false

set_option maxHeartbeats 8000000 in
set_option maxRecDepth 100000 in
theorem actionFits_any (tb : Tb) (v : Ts) (a : AcR) (lo hi : Int) (w : World) (h : TbAt w tb v) : Calls Tryz.prog 103 #[.agg (tbC tb v), .agg (acrC a), I lo, I hi] w fun e w' => e = .returned (.bool (acB tb a lo hi)) ∧ Below w.heap.size w w' := by
  have hb : ∀ o p, Below w.heap.size w ((w.alloc o).alloc p) := fun o p => ((Below.refl w.heap.size w).alloc (Nat.le_refl _) o).alloc (by simp) p
  have k1 := withinK_any a.kind lo hi
  have k2 := isID_tasks a.task v.t
  have HN : Hid (v.t.n = tb.tasks.length) := h.t.n
  obtain ⟨R, hR⟩ : ∃ R, R = acB tb a lo hi := ⟨_, rfl⟩
  rw [← hR]
  have HR : Hid (R = (inI a.kind lo hi && (if a.kind = 1 then idB a.task v.t.n && (a.mask == 0) else if a.kind = 2 then idB a.task v.t.n && (a.mask != 0) && (bits BinOp.andNot IntKind.u32 (a.mask : Int) (maskOf tb a.task : Int) == 0) else (a.task == 0) && (a.mask == 0)))) := by
    show _ = _
    rw [hR, HN.out]
    rfl
  have HT : Hid (∀ o p, TbAt ((w.alloc o).alloc p) tb v) := fun o p => h.below (hb o p)
  clear hR h
  unfold acrC tbC
  cases hi1 : inI a.kind lo hi with
  | false =>
    rw [hi1] at k1 HR
    go_enter Tryz.func103, Tryz.ntmps103
    go_wp2_with (first | (go_at_call 132; refine (k1 _).mono ?_; clear k1; rintro e w' ⟨rfl, rfl⟩))
    go_ret
    exact ⟨ret_bool' (by rw [HR.out]; simp), hb _ _⟩
  | true =>
    rw [hi1] at k1 HR
    clear hi1
    by_cases g1 : a.kind = 1
    · have g1' : (a.kind == 1) = true := by simpa using g1
      rw [if_pos g1] at HR
      clear g1
      cases hid : idB a.task v.t.n with
      | false =>
        rw [hid] at k2 HR
        go_enter Tryz.func103, Tryz.ntmps103
        go_wp2_with (first | (go_at_call 132; refine (k1 _).mono ?_; clear k1; rintro e w' ⟨rfl, rfl⟩) | (go_at_call 133; refine (k2 _).mono ?_; clear k2; rintro e w' ⟨rfl, rfl⟩))
        go_ret
        exact ⟨ret_bool' (by rw [HR.out]; simp), hb _ _⟩
      | true =>
        rw [hid] at k2 HR
        go_enter Tryz.func103, Tryz.ntmps103
        go_wp2_with (first | (go_at_call 132; refine (k1 _).mono ?_; clear k1; rintro e w' ⟨rfl, rfl⟩) | (go_at_call 133; refine (k2 _).mono ?_; clear k2; rintro e w' ⟨rfl, rfl⟩))
        go_ret
        exact ⟨ret_bool' (by rw [HR.out, Bool.eq_iff_iff]; simp), hb _ _⟩
    · have g1' : (a.kind == 1) = false := by simpa using g1
      rw [if_neg g1] at HR
      by_cases g2 : a.kind = 2
      · have g2' : (a.kind == 2) = true := by simpa using g2
        rw [if_pos g2] at HR
        clear g1 g2
        go_enter Tryz.func103, Tryz.ntmps103
        go_wp2_with (first | (go_at_call 132; refine (k1 _).mono ?_; clear k1; rintro e w' ⟨rfl, rfl⟩))
        have HT1 := HT.out (.cells #[I tb.uses, I tb.modes, .slice v.t.a v.t.n v.t.c, .slice v.g.a v.g.n v.g.c, .slice v.r.a v.r.n v.r.c, .slice v.k.a v.k.n v.k.c, .slice v.a.a v.a.n v.a.c, .slice v.i.a v.i.n v.i.c, .slice v.s.a v.s.n v.s.c, I tb.depth, I tb.frames, I tb.errors, I tb.calls] 37) (.cells #[I a.kind, I a.task, .int .u32 (a.mask : Int)] 93)
        have HB1 := hb (.cells #[I tb.uses, I tb.modes, .slice v.t.a v.t.n v.t.c, .slice v.g.a v.g.n v.g.c, .slice v.r.a v.r.n v.r.c, .slice v.k.a v.k.n v.k.c, .slice v.a.a v.a.n v.a.c, .slice v.i.a v.i.n v.i.c, .slice v.s.a v.s.n v.s.c, I tb.depth, I tb.frames, I tb.errors, I tb.calls] 37) (.cells #[I a.kind, I a.task, .int .u32 (a.mask : Int)] 93)
        have hV1 : ((w.alloc (.cells #[I tb.uses, I tb.modes, .slice v.t.a v.t.n v.t.c, .slice v.g.a v.g.n v.g.c, .slice v.r.a v.r.n v.r.c, .slice v.k.a v.k.n v.k.c, .slice v.a.a v.a.n v.a.c, .slice v.i.a v.i.n v.i.c, .slice v.s.a v.s.n v.s.c, I tb.depth, I tb.frames, I tb.errors, I tb.calls] 37)).alloc (.cells #[I a.kind, I a.task, .int .u32 (a.mask : Int)] 93)).heap[w.heap.size]? = some (.cells #[I tb.uses, I tb.modes, .slice v.t.a v.t.n v.t.c, .slice v.g.a v.g.n v.g.c, .slice v.r.a v.r.n v.r.c, .slice v.k.a v.k.n v.k.c, .slice v.a.a v.a.n v.a.c, .slice v.i.a v.i.n v.i.c, .slice v.s.a v.s.n v.s.c, I tb.depth, I tb.frames, I tb.errors, I tb.calls] 37 (0, 0)) := ((below_alloc (w.alloc (.cells #[I tb.uses, I tb.modes, .slice v.t.a v.t.n v.t.c, .slice v.g.a v.g.n v.g.c, .slice v.r.a v.r.n v.r.c, .slice v.k.a v.k.n v.k.c, .slice v.a.a v.a.n v.a.c, .slice v.i.a v.i.n v.i.c, .slice v.s.a v.s.n v.s.c, I tb.depth, I tb.frames, I tb.errors, I tb.calls] 37)) (.cells #[I a.kind, I a.task, .int .u32 (a.mask : Int)] 93)).block w.heap.size (by simp)).trans (heap_alloc_new w _)
        have hV2 : ((w.alloc (.cells #[I tb.uses, I tb.modes, .slice v.t.a v.t.n v.t.c, .slice v.g.a v.g.n v.g.c, .slice v.r.a v.r.n v.r.c, .slice v.k.a v.k.n v.k.c, .slice v.a.a v.a.n v.a.c, .slice v.i.a v.i.n v.i.c, .slice v.s.a v.s.n v.s.c, I tb.depth, I tb.frames, I tb.errors, I tb.calls] 37)).alloc (.cells #[I a.kind, I a.task, .int .u32 (a.mask : Int)] 93)).heap[w.heap.size + 1]? = some (.cells #[I a.kind, I a.task, .int .u32 (a.mask : Int)] 93 (0, 0)) := by
          have := heap_alloc_new (w.alloc (.cells #[I tb.uses, I tb.modes, .slice v.t.a v.t.n v.t.c, .slice v.g.a v.g.n v.g.c, .slice v.r.a v.r.n v.r.c, .slice v.k.a v.k.n v.k.c, .slice v.a.a v.a.n v.a.c, .slice v.i.a v.i.n v.i.c, .slice v.s.a v.s.n v.s.c, I tb.depth, I tb.frames, I tb.errors, I tb.calls] 37)) (.cells #[I a.kind, I a.task, .int .u32 (a.mask : Int)] 93)
          rw [World.size_alloc] at this
          exact this
        clear HT hb
        generalize ((w.alloc (.cells #[I tb.uses, I tb.modes, .slice v.t.a v.t.n v.t.c, .slice v.g.a v.g.n v.g.c, .slice v.r.a v.r.n v.r.c, .slice v.k.a v.k.n v.k.c, .slice v.a.a v.a.n v.a.c, .slice v.i.a v.i.n v.i.c, .slice v.s.a v.s.n v.s.c, I tb.depth, I tb.frames, I tb.errors, I tb.calls] 37)).alloc (.cells #[I a.kind, I a.task, .int .u32 (a.mask : Int)] 93)) = W0 at *
        have z2 := cell_of_row _ w.heap.size 2 _ _ (0, 0) hV1
        have y1 := cell_of_row _ (w.heap.size + 1) 1 _ _ (0, 0) hV2
        have y2 := cell_of_row _ (w.heap.size + 1) 2 _ _ (0, 0) hV2
        simp at z2 y1 y2
        clear hV1 hV2
        have cI : ∀ d os, Calls Tryz.prog 133 #[I a.task, .slice v.t.a v.t.n v.t.c] (grow (redrawn W0 d) os) fun e w'' => e = .returned (.bool (idB a.task v.t.n)) ∧ ∃ p : Regrown, w'' = grow (redrawn W0 p.d) p.os := fun d os => Calls.regrown_of ((k2 _).mono (fun e w' h => ⟨h.1, by rw [h.2]; exact Below.refl _ _⟩))
        clear k2
        have x2 := cell_regrown z2
        have x3 := cell_regrown y1
        have x4 := cell_regrown y2
        cases hid : idB a.task v.t.n with
        | false =>
          rw [hid] at cI HR
          refine wp_region_quiet_below (by kernel_rfl) (by kernel_rfl) ?_
          repeat (go_big_quiet_step (first | exact cI _ _))
          refine wpQuiet_nil ?_
          rintro _ ⟨⟨dq, osq⟩, rfl⟩
          dsimp only
          have HB9 := HB1.trans ((below_regrown W0 dq osq).mono HB1.size)
          generalize grow (redrawn W0 dq) osq = w9 at *
          go_wp2
          go_ret
          exact ⟨ret_bool' (by rw [HR.out]; simp), HB9⟩
        | true =>
          rw [hid] at cI HR
          have hid2 : 0 ≤ a.task ∧ a.task < (v.t.n : Int) := by unfold idB at hid; simpa using hid
          obtain ⟨k, hk⟩ := Int.eq_ofNat_of_zero_le hid2.1
          obtain ⟨x, hx⟩ : ∃ x, tb.tasks[k]? = some x := ⟨_, List.getElem?_eq_getElem (by rw [← HN.out]; omega)⟩
          obtain ⟨gr, orr, s6, er, hgr, t0, t1, t2, t3, t4, t5, t6, t7, _⟩ := tkr_at HT1 hx
          have HM : Hid (maskOf tb a.task = x.mask) := by
            show _ = _
            unfold maskOf
            rw [hk, Int.toNat_natCast, hx]
          have hk1 : (k : Int) < v.t.n := by omega
          have x5 := cell_regrown t4
          rw [hk] at x3 cI
          rw [er] at x2 cI
          clear hx er hid hid2 t0 t1 t2 t3 t4 t5 t6 t7 z2 y1 y2
          cases h5 : ((a.mask : Int) != 0) with
          | false =>
            refine wp_region_quiet_below (by kernel_rfl) (by kernel_rfl) ?_
            repeat (go_big_quiet_step (first | exact cI _ _))
            refine wpQuiet_nil ?_
            rintro _ ⟨⟨dq, osq⟩, rfl⟩
            dsimp only
            have HB9 := HB1.trans ((below_regrown W0 dq osq).mono HB1.size)
            generalize grow (redrawn W0 dq) osq = w9 at *
            go_wp2
            go_ret
            exact ⟨ret_bool' (by rw [HR.out]; simp at h5; simp [h5]), HB9⟩
          | true =>
            refine wp_region_quiet_below (by kernel_rfl) (by kernel_rfl) ?_
            repeat (go_big_quiet_step (first | exact cI _ _))
            refine wpQuiet_nil ?_
            rintro _ ⟨⟨dq, osq⟩, rfl⟩
            dsimp only
            have HB9 := HB1.trans ((below_regrown W0 dq osq).mono HB1.size)
            have HX : Hid (R = (bits BinOp.andNot IntKind.u32 (a.mask : Int) (x.mask : Int) == 0)) := by
              show R = _
              rw [HR.out, HM.out]
              simp at h5
              simp [h5]
            generalize grow (redrawn W0 dq) osq = w9 at *
            generalize (bits BinOp.andNot IntKind.u32 (a.mask : Int) (x.mask : Int) == 0) = bb at *
            go_wp2
            go_ret
            exact ⟨ret_bool' HX.out.symm, HB9⟩
      · have g2' : (a.kind == 2) = false := by simpa using g2
        rw [if_neg g2] at HR
        clear g1 g2
        go_enter Tryz.func103, Tryz.ntmps103
        cases h5 : (a.task == 0)
        · go_wp2_with (first | (go_at_call 132; refine (k1 _).mono ?_; clear k1; rintro e w' ⟨rfl, rfl⟩))
          go_ret
          exact ⟨ret_bool' (by rw [HR.out, h5]; simp), hb _ _⟩
        · go_wp2_with (first | (go_at_call 132; refine (k1 _).mono ?_; clear k1; rintro e w' ⟨rfl, rfl⟩))
          go_ret
          exact ⟨ret_bool' (by rw [HR.out, h5, Bool.eq_iff_iff]; simp), hb _ _⟩
end Go.Proofs.YthhckhifaolmkaaGreat

namespace Go.Proofs.YthhckhifaolmkaaGreat
open Go.RowKit Go.Shelf
set_option linter.unusedVariables false
set_option linter.unusedSimpArgs false

/-! ### The room of a ring -/
theorem ret_i {a b : Int} (h : a = b) : Ending.returned (I a) = Ending.returned (I b) := by rw [h]
def sumZ {α : Type} (h : α → Int) : List α → Int
  | [] => 0
  | x :: l => h x + sumZ h l
theorem sumZ_snoc {α : Type} (h : α → Int) (l : List α) (x : α) : sumZ h (l ++ [x]) = sumZ h l + h x := by
  induction l with
  | nil => simp [sumZ]
  | cons y l ih => rw [List.cons_append, sumZ, ih, sumZ]; omega
theorem sumZ_cap (p : Int) : ∀ l : List TkR, sumZ (fun x : TkR => if x.prio = p then x.limit else 0) l = capN l p
  | [] => rfl
  | x :: l => by rw [sumZ, capN, sumZ_cap p l]
set_option maxHeartbeats 8000000 in
set_option maxRecDepth 100000 in
theorem sum_tkr (w : World) (s : Sl) (l : List TkR) (hl : ∀ W, Below w.heap.size w W → RowsAt W 8 (tkrP W) s l) (f : Nat) (caps : Array Value) (eg : ∀ args W, (callFunc f args).run Tryz.prog W = .ok (.enter f args) W) (p : TkR → Int)
    (hf : ∀ W, Below w.heap.size w W → ∀ x ∈ l, ∀ (s6 : Sl), RowsAt W 1 intP s6 x.own → Calls Tryz.prog f (#[.agg #[I x.prio, I x.ring, .bool x.full, I x.limit, .int .u32 (x.mask : Int), I x.inner, .slice s6.a s6.n s6.c, .int .u32 (x.auto : Int)]] ++ caps) W fun e w' => e = .returned (I (p x)) ∧ Below W.heap.size W w') :
    Calls Tryz.prog 129 #[.slice s.a s.n s.c, .func (.func f) #[] caps] w fun e w' => e = .returned (I (IntKind.i64.wrap (sumZ p l))) ∧ Below w.heap.size w w' := by
  have h0 := hl w (Below.refl _ _)
  have HS : Hid (s.n = l.length) := h0.n
  have hsc : s.n ≤ s.c := h0.c
  have hsm : s.c ≤ maxLen := h0.m
  unfold maxLen at hsm
  have HH : Hid (∀ W, Below w.heap.size w W → RowsAt W 8 (tkrP W) s l) := hl
  have HFF : Hid (∀ W, Below w.heap.size w W → ∀ x ∈ l, ∀ (s6 : Sl), RowsAt W 1 intP s6 x.own → Calls Tryz.prog f (#[.agg #[I x.prio, I x.ring, .bool x.full, I x.limit, .int .u32 (x.mask : Int), I x.inner, .slice s6.a s6.n s6.c, .int .u32 (x.auto : Int)]] ++ caps) W fun e w' => e = .returned (I (p x)) ∧ Below W.heap.size W w') := hf
  obtain ⟨R, hR⟩ : ∃ R, R = IntKind.i64.wrap (sumZ p l) := ⟨_, rfl⟩
  rw [← hR]
  have HR : Hid (R = IntKind.i64.wrap (sumZ p l)) := hR
  clear hl hR hf h0
  go_enter Tryz.func129, Tryz.ntmps129
  go_wp2
  go_loopw [5, 7, 10] (fun tv _ iv wr => ∃ (j : Nat) (t : Int), j ≤ s.n ∧ iv = .int .i64 j ∧ tv = .int .i64 t ∧ Hid (t = IntKind.i64.wrap (sumZ p (l.take j)) ∧ Below w.heap.size w wr)) (fun _ _ iv _ => s.n - (intOf iv).toNat)
  case atStart => exact ⟨0, 0, by omega, rfl, rfl, by simp [sumZ, IntKind.wrap_i64], Below.refl _ _⟩
  case round =>
    obtain ⟨j, t, hj, rfl, rfl, HJ⟩ := hrel
    by_cases hlt : j < s.n
    · have hlt' : (j : Int) < s.n := by omega
      obtain ⟨x, hx⟩ : ∃ x, l[j]? = some x := ⟨_, List.getElem?_eq_getElem (by rw [← HS.out]; exact hlt)⟩
      obtain ⟨g5, o5, e5, hg5, hr5⟩ := (HH.out _ HJ.out.2).row j x hx
      obtain ⟨u0, a0, q0⟩ := hr5 0 (by omega)
      obtain ⟨u1, a1, q1⟩ := hr5 1 (by omega)
      obtain ⟨u2, a2, q2⟩ := hr5 2 (by omega)
      obtain ⟨u3, a3, q3⟩ := hr5 3 (by omega)
      obtain ⟨u4, a4, q4⟩ := hr5 4 (by omega)
      obtain ⟨u5, a5, q5⟩ := hr5 5 (by omega)
      obtain ⟨u6, a6, q6⟩ := hr5 6 (by omega)
      obtain ⟨u7, a7, q7⟩ := hr5 7 (by omega)
      have e0 : u0 = I x.prio := q0
      have e1 : u1 = I x.ring := q1
      have e2 : u2 = .bool x.full := q2
      have e3 : u3 = I x.limit := q3
      have e4 : u4 = .int .u32 (x.mask : Int) := q4
      have e6 : u5 = I x.inner := q5
      obtain ⟨s6, e7, r6⟩ := (show IntsV wr x.own u6 from q6)
      have e8 : u7 = .int .u32 (x.auto : Int) := q7
      subst e0 e1 e2 e3 e4 e6 e7 e8
      rw [Nat.add_zero] at a0
      have HB : Hid (Below w.heap.size w (wr.alloc (.cells #[I x.prio, I x.ring, .bool x.full, I x.limit, .int .u32 (x.mask : Int), I x.inner, .slice s6.a s6.n s6.c, .int .u32 (x.auto : Int)] 95))) := HJ.out.2.trans ((below_alloc wr _).mono HJ.out.2.size)
      have cx := HFF.out _ HB.out x (List.mem_of_getElem? hx) s6 (r6.below (below_alloc wr _) (fun _ _ _ _ h => h))
      have HA : Hid (IntKind.i64.wrap (t + p x) = IntKind.i64.wrap (sumZ p (l.take (j + 1)))) := by
        show _ = _
        rw [List.take_add_one, hx, Option.toList_some, sumZ_snoc, HJ.out.1]
        simp only [IntKind.wrap_i64]
        omega
      rw [e5]
      clear hx e5 HJ hr5 q0 q1 q2 q3 q4 q5 q6 q7 r6
      generalize p x = px at *
      go_wp2
      refine cx.mono ?_
      clear cx
      rintro e7 w7 ⟨rfl, hb7⟩
      have HB7 : Hid (Below w.heap.size w w7) := HB.out.trans (hb7.mono HB.out.size)
      clear hb7
      go_wp2
      go_roundw
      case rel => exact ⟨j + 1, IntKind.i64.wrap (t + px), by omega, by go_num, by simp [IntKind.wrap_i64, wrap64], HA.out, HB7.out⟩
      case measure => simp [intOf]; omega
    · obtain rfl : j = s.n := by omega
      have hlt' : ¬ ((s.n : Nat) : Int) < (s.n : Nat) := by omega
      have HE : Hid (t = R) := by
        show _ = _
        rw [HR.out, HJ.out.1, List.take_of_length_le (by rw [HS.out]; exact Nat.le_refl _)]
      have HB : Hid (Below w.heap.size w wr) := HJ.out.2
      clear HR HJ
      go_wp2
      go_ret
      exact ⟨ret_i HE.out, HB.out⟩
end Go.Proofs.YthhckhifaolmkaaGreat

namespace Go.Proofs.YthhckhifaolmkaaGreat
open Go.RowKit Go.Shelf
set_option linter.unusedVariables false
set_option linter.unusedSimpArgs false

/-! ### capacity, hasTask -/
set_option maxRecDepth 100000 in
theorem capacity1_any (x : TkR) (s6 : Sl) (p : Int) (B : Nat) (w : World) (hp : w.cell? ⟨B, 0, none⟩ = some (I p)) : Calls Tryz.prog 130 #[.agg (tkrC x s6), .pointer (some ⟨B, 0, none⟩)] w fun e w' => e = .returned (I (if x.prio = p then x.limit else 0)) ∧ Below w.heap.size w w' := by
  have hb : ∀ o, Below w.heap.size w (w.alloc o) := fun o => below_alloc w o
  have hp2 : ∀ o, (w.alloc o).cell? ⟨B, 0, none⟩ = some (I p) := fun o => ((hb o).cell (p := ⟨B, 0, none⟩) (World.block_lt_of_cell? _ _ hp)).trans hp
  clear hp
  by_cases h : x.prio = p
  · rw [if_pos h]
    have h1 : (x.prio == p) = true := by simpa using h
    clear h
    unfold tkrC
    go_enter Tryz.func130, Tryz.ntmps130
    go_wp2
    go_ret
    exact ⟨rfl, hb _⟩
  · rw [if_neg h]
    have h1 : (x.prio == p) = false := by simpa using h
    clear h
    unfold tkrC
    go_enter Tryz.func130, Tryz.ntmps130
    go_wp2
    go_ret
    exact ⟨rfl, hb _⟩
set_option maxRecDepth 100000 in
theorem capacity_any (w : World) (s : Sl) (l : List TkR) (hl : ∀ W, Below w.heap.size w W → RowsAt W 8 (tkrP W) s l) (p : Int) : Calls Tryz.prog 90 #[.slice s.a s.n s.c, I p] w fun e w' => e = .returned (I (IntKind.i64.wrap (capN l p))) ∧ Below w.heap.size w w' := by
  have hb := below_alloc w (.cells #[I p] 3)
  have hc : (w.alloc (.cells #[I p] 3)).cell? ⟨w.heap.size, 0, none⟩ = some (I p) := by rw [cell_of_row _ _ _ _ _ (0, 0) (heap_alloc_new w _)]; rfl
  have hsz : w.heap.size < (w.alloc (.cells #[I p] 3)).heap.size := by simp
  have ks := sum_tkr (w.alloc (.cells #[I p] 3)) s l (fun W hW => hl W (hb.trans (hW.mono hb.size))) 130 #[.pointer (some ⟨w.heap.size, 0, none⟩)] (enters_of Tryz.func130 (by kernel_rfl) rfl) (fun x => if x.prio = p then x.limit else 0) (fun W hW x hx s6 _ => capacity1_any x s6 p w.heap.size W ((hW.cell (p := ⟨w.heap.size, 0, none⟩) hsz).trans hc))
  rw [sumZ_cap] at ks
  clear hc hl hsz
  go_enter Tryz.func90, Tryz.ntmps90
  go_wp2_with (go_at_call 129; refine ks.mono ?_; clear ks; rintro e w' ⟨rfl, hb2⟩)
  go_ret
  exact ⟨rfl, hb.trans (hb2.mono hb.size)⟩
set_option maxRecDepth 100000 in
theorem hasTask1_any (x : TkR) (s6 : Sl) (p : Int) (B : Nat) (w : World) (hp : w.cell? ⟨B, 0, none⟩ = some (I p)) : Calls Tryz.prog 128 #[.agg (tkrC x s6), .pointer (some ⟨B, 0, none⟩)] w fun e w' => e = .returned (.bool (x.prio == p)) ∧ Below w.heap.size w w' := by
  have hb : ∀ o, Below w.heap.size w (w.alloc o) := fun o => below_alloc w o
  have hp2 : ∀ o, (w.alloc o).cell? ⟨B, 0, none⟩ = some (I p) := fun o => ((hb o).cell (p := ⟨B, 0, none⟩) (World.block_lt_of_cell? _ _ hp)).trans hp
  clear hp
  unfold tkrC
  go_enter Tryz.func128, Tryz.ntmps128
  go_wp2
  go_ret
  exact ⟨rfl, hb _⟩
set_option maxHeartbeats 8000000 in
set_option maxRecDepth 100000 in
theorem idxf_tkr (w : World) (s : Sl) (l : List TkR) (hl : ∀ W, Below w.heap.size w W → RowsAt W 8 (tkrP W) s l) (f : Nat) (caps : Array Value) (eg : ∀ args W, (callFunc f args).run Tryz.prog W = .ok (.enter f args) W) (p : TkR → Bool)
    (hf : ∀ W, Below w.heap.size w W → ∀ x ∈ l, ∀ (s6 : Sl), RowsAt W 1 intP s6 x.own → Calls Tryz.prog f (#[.agg (tkrC x s6)] ++ caps) W fun e w' => e = .returned (.bool (p x)) ∧ Below W.heap.size W w') :
    Calls Tryz.prog 149 #[.slice s.a s.n s.c, .func (.func f) #[] caps] w fun e w' => (∃ i : Int, e = .returned (I i) ∧ decide (0 ≤ i) = l.any p) ∧ Below w.heap.size w w' := by
  have h0 := hl w (Below.refl _ _)
  have HS : Hid (s.n = l.length) := h0.n
  have hsc : s.n ≤ s.c := h0.c
  have hsm : s.c ≤ maxLen := h0.m
  unfold maxLen at hsm
  have HH : Hid (∀ W, Below w.heap.size w W → RowsAt W 8 (tkrP W) s l) := hl
  have HFF : Hid (∀ W, Below w.heap.size w W → ∀ x ∈ l, ∀ (s6 : Sl), RowsAt W 1 intP s6 x.own → Calls Tryz.prog f (#[.agg (tkrC x s6)] ++ caps) W fun e w' => e = .returned (.bool (p x)) ∧ Below W.heap.size W w') := hf
  obtain ⟨R, hR⟩ : ∃ R, R = l.any p := ⟨_, rfl⟩
  rw [← hR]
  have HR : Hid (R = l.any p) := hR
  clear hl hR hf h0
  go_enter Tryz.func149, Tryz.ntmps149
  go_wp2
  go_loopw [5, 8] (fun _ iv wr => ∃ j : Nat, j ≤ s.n ∧ iv = .int .i64 j ∧ Hid ((l.take j).any p = false ∧ Below w.heap.size w wr)) (fun _ iv _ => s.n - (intOf iv).toNat)
  case atStart => exact ⟨0, by omega, rfl, by simp, Below.refl _ _⟩
  case round =>
    obtain ⟨j, hj, rfl, HJ⟩ := hrel
    by_cases hlt : j < s.n
    · have hlt' : (j : Int) < s.n := by omega
      obtain ⟨x, hx⟩ : ∃ x, l[j]? = some x := ⟨_, List.getElem?_eq_getElem (by rw [← HS.out]; exact hlt)⟩
      obtain ⟨g5, o5, e5, hg5, hr5⟩ := (HH.out _ HJ.out.2).row j x hx
      obtain ⟨u0, a0, q0⟩ := hr5 0 (by omega)
      obtain ⟨u1, a1, q1⟩ := hr5 1 (by omega)
      obtain ⟨u2, a2, q2⟩ := hr5 2 (by omega)
      obtain ⟨u3, a3, q3⟩ := hr5 3 (by omega)
      obtain ⟨u4, a4, q4⟩ := hr5 4 (by omega)
      obtain ⟨u5, a5, q5⟩ := hr5 5 (by omega)
      obtain ⟨u6, a6, q6⟩ := hr5 6 (by omega)
      obtain ⟨u7, a7, q7⟩ := hr5 7 (by omega)
      have e0 : u0 = I x.prio := q0
      have e1 : u1 = I x.ring := q1
      have e2 : u2 = .bool x.full := q2
      have e3 : u3 = I x.limit := q3
      have e4 : u4 = .int .u32 (x.mask : Int) := q4
      have e6 : u5 = I x.inner := q5
      obtain ⟨s6, e7, r6⟩ := (show IntsV wr x.own u6 from q6)
      have e8 : u7 = .int .u32 (x.auto : Int) := q7
      subst e0 e1 e2 e3 e4 e6 e7 e8
      rw [Nat.add_zero] at a0
      have HB : Hid (Below w.heap.size w wr) := HJ.out.2
      have cx := HFF.out _ HB.out x (List.mem_of_getElem? hx) s6 r6
      have HT : Hid (p x = true → R = true) := fun ht => by
        rw [HR.out, List.any_eq_true]
        exact ⟨x, List.mem_of_getElem? hx, ht⟩
      have HA : Hid (p x = false → (l.take (j + 1)).any p = false) := fun ht => by
        rw [List.take_add_one, hx, Option.toList_some, List.any_append, HJ.out.1]
        simp [ht]
      rw [e5]
      unfold tkrC at cx
      clear hx e5 HJ hr5 q0 q1 q2 q3 q4 q5 q6 q7 r6
      cases he : p x with
      | true =>
        rw [he] at cx
        have HE : Hid (R = true) := HT.out he
        clear HT HA he
        go_wp2
        refine cx.mono ?_
        clear cx
        rintro e7 w7 ⟨rfl, hb7⟩
        have HB7 : Hid (Below w.heap.size w w7) := HB.out.trans (hb7.mono HB.out.size)
        clear hb7
        go_wp2
        go_ret
        exact ⟨⟨j, rfl, by rw [HE.out]; simp⟩, HB7.out⟩
      | false =>
        rw [he] at cx
        have HA2 : Hid ((l.take (j + 1)).any p = false) := HA.out he
        clear HT HA he
        go_wp2
        refine cx.mono ?_
        clear cx
        rintro e7 w7 ⟨rfl, hb7⟩
        have HB7 : Hid (Below w.heap.size w w7) := HB.out.trans (hb7.mono HB.out.size)
        clear hb7
        go_wp2
        go_roundw
        case rel => exact ⟨j + 1, by omega, by go_num, HA2.out, HB7.out⟩
        case measure => simp [intOf]; omega
    · obtain rfl : j = s.n := by omega
      have hlt' : ¬ ((s.n : Nat) : Int) < (s.n : Nat) := by omega
      have HE : Hid (R = false) := by
        show _ = _
        rw [HR.out]
        have := HJ.out.1
        rwa [List.take_of_length_le (by rw [HS.out]; exact Nat.le_refl _)] at this
      have HB : Hid (Below w.heap.size w wr) := HJ.out.2
      clear HR HJ
      go_wp2
      go_ret
      exact ⟨⟨-1, rfl, by rw [HE.out]; rfl⟩, HB.out⟩
set_option maxRecDepth 100000 in
theorem contf_tkr (w : World) (s : Sl) (l : List TkR) (hl : ∀ W, Below w.heap.size w W → RowsAt W 8 (tkrP W) s l) (f : Nat) (caps : Array Value) (eg : ∀ args W, (callFunc f args).run Tryz.prog W = .ok (.enter f args) W) (p : TkR → Bool)
    (hf : ∀ W, Below w.heap.size w W → ∀ x ∈ l, ∀ (s6 : Sl), RowsAt W 1 intP s6 x.own → Calls Tryz.prog f (#[.agg (tkrC x s6)] ++ caps) W fun e w' => e = .returned (.bool (p x)) ∧ Below W.heap.size W w') :
    Calls Tryz.prog 127 #[.slice s.a s.n s.c, .func (.func f) #[] caps] w fun e w' => e = .returned (.bool (l.any p)) ∧ Below w.heap.size w w' := by
  have k := idxf_tkr w s l hl f caps eg p hf
  obtain ⟨R, hR⟩ : ∃ R, R = l.any p := ⟨_, rfl⟩
  rw [← hR] at k ⊢
  clear hl hf eg hR
  go_enter Tryz.func127, Tryz.ntmps127
  go_wp2_with (go_at_call 149; refine k.mono ?_; clear k; rintro e w' ⟨⟨i, rfl, hi⟩, hb2⟩)
  go_ret
  exact ⟨rfl, hb2⟩
set_option maxRecDepth 100000 in
theorem hasTask_any (tb : Tb) (v : Ts) (w : World) (h : TbAt w tb v) (p : Int) : Calls Tryz.prog 89 #[.agg (tbC tb v), I p] w fun e w' => e = .returned (.bool (tb.tasks.any (fun x => x.prio == p))) ∧ Below w.heap.size w w' := by
  have hb : ∀ o q, Below w.heap.size w ((w.alloc o).alloc q) := fun o q => ((Below.refl w.heap.size w).alloc (Nat.le_refl _) o).alloc (by simp) q
  have ks : ∀ o, Calls Tryz.prog 127 #[.slice v.t.a v.t.n v.t.c, .func (.func 128) #[] #[.pointer (some ⟨w.heap.size + 1, 0, none⟩)]] ((w.alloc o).alloc (.cells #[I p] 3)) fun e w' => e = .returned (.bool (tb.tasks.any (fun x => x.prio == p))) ∧ Below ((w.alloc o).alloc (.cells #[I p] 3)).heap.size ((w.alloc o).alloc (.cells #[I p] 3)) w' := fun o => by
    have hc : ((w.alloc o).alloc (.cells #[I p] 3)).cell? ⟨w.heap.size + 1, 0, none⟩ = some (I p) := by
      have := heap_alloc_new (w.alloc o) (.cells #[I p] 3)
      rw [World.size_alloc] at this
      rw [cell_of_row _ _ _ _ _ (0, 0) this]; rfl
    have hsz : w.heap.size + 1 < ((w.alloc o).alloc (.cells #[I p] 3)).heap.size := by simp
    exact contf_tkr ((w.alloc o).alloc (.cells #[I p] 3)) v.t tb.tasks (fun W hW => (h.below ((hb _ _).trans (hW.mono (hb _ _).size))).t) 128 #[.pointer (some ⟨w.heap.size + 1, 0, none⟩)] (enters_of Tryz.func128 (by kernel_rfl) rfl) (fun x => x.prio == p) (fun W hW x hx s6 _ => hasTask1_any x s6 p (w.heap.size + 1) W ((hW.cell (p := ⟨w.heap.size + 1, 0, none⟩) hsz).trans hc))
  clear h
  unfold tbC
  go_enter Tryz.func89, Tryz.ntmps89
  go_wp2_with (go_at_call 127; refine (ks _).mono ?_; clear ks; rintro e w' ⟨rfl, hb2⟩)
  go_ret
  exact ⟨rfl, (hb _ _).trans (hb2.mono (hb _ _).size)⟩
end Go.Proofs.YthhckhifaolmkaaGreat

