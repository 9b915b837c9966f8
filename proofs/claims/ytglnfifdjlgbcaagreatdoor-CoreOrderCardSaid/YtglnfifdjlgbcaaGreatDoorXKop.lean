import Derived.Test.YtglnfifdjlgbcaaGreatDoorXTcp
import Derived.Test.YtglnfifdjlgbcaaGreatDoorXTcx
import Derived.Test.YtglnfifdjlgbcaaGreatDoorXTck
import Derived.Test.YtglnfifdjlgbcaaGreatDoorXTci
import Derived.Test.YtglnfifdjlgbcaaGreatDoorXTce
import Derived.Test.YtglnfifdjlgbcaaGreatDoorKba
import Derived.OpenShut
import Derived.Deep.Strs
import Derived.SizedLaws
import Derived.ChangeOld
namespace Go.Proofs.YtglnfifdjlgbcaaGreatDoor
open Go.RowKit Go.Shelf Go.Sort
set_option linter.unusedVariables false
set_option linter.unusedSimpArgs false

/-! ### alarmsFit -/
set_option maxHeartbeats 16000000 in
set_option maxRecDepth 100000 in
theorem alarmsFit1_any (tb : Tb) (v : Ts) (x : AlR) (V : Nat) (w : World) (h : TbAt w tb v) (hV : w.heap[V]? = some (.cells (tbC tb v) 30)) (ha : x.auto < 4294967296) (hm : 1 ≤ tb.modes ∧ tb.modes ≤ 8) :
    Calls Tryz.prog 200 #[.agg (alrC x), .pointer (some ⟨V, 0, none⟩)] w fun e w' => e = .returned (.bool (alB tb x)) ∧ Below w.heap.size w w' := by
  have hb := below_alloc w (.cells (alrC x) 158)
  have hX := heap_alloc_new w (.cells (alrC x) 158)
  have hV0 : (w.alloc (.cells (alrC x) 158)).heap[V]? = some (.cells (tbC tb v) 30) := (hb.block V (heap_lt hV)).trans hV
  have hT0 := h.below hb
  have HB0 : Hid (Below w.heap.size w (w.alloc (.cells (alrC x) 158))) := hb
  have HN : Hid (v.k.n = tb.ctrs.length) := h.k.n
  have hgc : v.k.n ≤ v.k.c := h.k.c
  have hgm : v.k.c ≤ maxLen := h.k.m
  unfold maxLen at hgm
  have hi30 : (Tryz.prog.info? 30).map (·.size) = some (tbC tb v).size := by kernel_rfl
  have hi82 : (Tryz.prog.info? 158).map (·.size) = some (alrC x).size := by kernel_rfl
  obtain ⟨R, hR⟩ : ∃ R, R = alB tb x := ⟨_, rfl⟩
  rw [← hR]
  have HX : Hid (R = (idB x.ctr v.k.n && acB tb x.ac 1 3 && autoB tb x.auto && timesB x (ctOf tb x.ctr))) := by
    show _ = _
    rw [hR, HN.out]
    rfl
  clear hR h hV hb
  go_enter Tryz.func200, Tryz.ntmps200
  unfold alrC tbC at *
  go_upto_region 1 with fail
  generalize (w.alloc (.cells #[I x.ctr, I x.ac.kind, I x.ac.task, .int .u32 (x.ac.mask : Int), .int .u32 (x.auto : Int), .int .u32 (x.time : Int), .int .u32 (x.cycle : Int)] 158)) = W0 at *
  have cI : ∀ d os, Calls Tryz.prog 201 #[I x.ctr, .slice v.k.a v.k.n v.k.c] (grow (redrawn W0 d) os) fun e w'' => e = .returned (.bool (idB x.ctr v.k.n)) ∧ ∃ p : Regrown, w'' = grow (redrawn W0 p.d) p.os := regrown_bel9 (fun W hW => calls_bel9 (isID_ctrs x.ctr v.k W))
  have cF : ∀ d os, Calls Tryz.prog 202 #[.agg #[I tb.uses, I tb.modes, .slice v.t.a v.t.n v.t.c, .slice v.g.a v.g.n v.g.c, .slice v.r.a v.r.n v.r.c, .slice v.k.a v.k.n v.k.c, .slice v.a.a v.a.n v.a.c, .slice v.i.a v.i.n v.i.c, .slice v.s.a v.s.n v.s.c, I tb.depth, I tb.frames, I tb.errors, I tb.calls], .agg #[I x.ac.kind, I x.ac.task, .int .u32 (x.ac.mask : Int)], I 1, I 3] (grow (redrawn W0 d) os) fun e w'' => e = .returned (.bool (acB tb x.ac 1 3)) ∧ ∃ p : Regrown, w'' = grow (redrawn W0 p.d) p.os := regrown_bel9 (fun W hW => actionFits_any tb v x.ac 1 3 W (hT0.below hW))
  have cA : ∀ d os, Calls Tryz.prog 195 #[.agg #[I tb.uses, I tb.modes, .slice v.t.a v.t.n v.t.c, .slice v.g.a v.g.n v.g.c, .slice v.r.a v.r.n v.r.c, .slice v.k.a v.k.n v.k.c, .slice v.a.a v.a.n v.a.c, .slice v.i.a v.i.n v.i.c, .slice v.s.a v.s.n v.s.c, I tb.depth, I tb.frames, I tb.errors, I tb.calls], .int .u32 (x.auto : Int)] (grow (redrawn W0 d) os) fun e w'' => e = .returned (.bool (autoB tb x.auto)) ∧ ∃ p : Regrown, w'' = grow (redrawn W0 p.d) p.os := regrown_bel9 (fun W hW => autoFits_any tb v x.auto ha hm W)
  have z5 := cell_regrown (var13 hV0).2.2.2.2.2.1
  have x0 := cell_of_row _ w.heap.size 0 _ _ (0, 0) hX
  have x1 := cell_of_row _ w.heap.size 1 _ _ (0, 0) hX
  have x2 := cell_of_row _ w.heap.size 2 _ _ (0, 0) hX
  have x3 := cell_of_row _ w.heap.size 3 _ _ (0, 0) hX
  have x4 := cell_of_row _ w.heap.size 4 _ _ (0, 0) hX
  simp at x0 x1 x2 x3 x4
  have y0 := cell_regrown x0
  have y1 := cell_regrown x1
  have y2 := cell_regrown x2
  have y3 := cell_regrown x3
  have y4 := cell_regrown x4
  have hRX := heap_regrown9 hX
  have hRV := heap_regrown9 hV0
  clear hX hV0 x0 x1 x2 x3 x4 ha hm
  cases b1 : idB x.ctr v.k.n with
  | false =>
    rw [b1] at cI HX
    refine wp_region_quiet_below (by kernel_rfl) (by kernel_rfl) ?_
    repeat (first | (go_big_quiet_step (first | exact cI _ _)) | (refine wpQuiet_load_row9 (by kernel_rfl) 158 _ rfl w.heap.size rfl 158 _ (0, 0) _ hRX Tryz.underlying158 rfl hi82 ?_; simp only [Act.put, List.getElem_toArray, List.getElem_cons_succ, List.getElem_cons_zero, List.setIfInBounds_toArray, List.set_cons_zero, List.set_cons_succ]) | (refine wpQuiet_load_row9 (by kernel_rfl) 30 _ rfl V rfl 30 _ (0, 0) _ hRV Tryz.underlying30 rfl hi30 ?_; simp only [Act.put, List.getElem_toArray, List.getElem_cons_succ, List.getElem_cons_zero, List.setIfInBounds_toArray, List.set_cons_zero, List.set_cons_succ]))
    refine wpQuiet_nil ?_
    rintro _ ⟨⟨dq, osq⟩, rfl⟩
    dsimp only
    have HB9 : Hid (Below w.heap.size w (grow (redrawn W0 dq) osq)) := HB0.out.trans ((below_regrown W0 dq osq).mono HB0.out.size)
    clear cI cF cA z5 y0 y1 y2 y3 y4 hRX hRV
    generalize grow (redrawn W0 dq) osq = w9 at *
    go_wp2
    go_ret
    exact ⟨ret_bool' (by rw [HX.out]; simp), HB9.out⟩
  | true =>
    rw [b1] at cI HX
    cases b2 : acB tb x.ac 1 3 with
    | false =>
      rw [b2] at cF HX
      refine wp_region_quiet_below (by kernel_rfl) (by kernel_rfl) ?_
      repeat (first | (go_big_quiet_step (first | exact cI _ _ | exact cF _ _)) | (refine wpQuiet_load_row9 (by kernel_rfl) 158 _ rfl w.heap.size rfl 158 _ (0, 0) _ hRX Tryz.underlying158 rfl hi82 ?_; simp only [Act.put, List.getElem_toArray, List.getElem_cons_succ, List.getElem_cons_zero, List.setIfInBounds_toArray, List.set_cons_zero, List.set_cons_succ]) | (refine wpQuiet_load_row9 (by kernel_rfl) 30 _ rfl V rfl 30 _ (0, 0) _ hRV Tryz.underlying30 rfl hi30 ?_; simp only [Act.put, List.getElem_toArray, List.getElem_cons_succ, List.getElem_cons_zero, List.setIfInBounds_toArray, List.set_cons_zero, List.set_cons_succ]))
      refine wpQuiet_nil ?_
      rintro _ ⟨⟨dq, osq⟩, rfl⟩
      dsimp only
      have HB9 : Hid (Below w.heap.size w (grow (redrawn W0 dq) osq)) := HB0.out.trans ((below_regrown W0 dq osq).mono HB0.out.size)
      clear cI cF cA z5 y0 y1 y2 y3 y4 hRX hRV
      generalize grow (redrawn W0 dq) osq = w9 at *
      go_wp2
      go_ret
      exact ⟨ret_bool' (by rw [HX.out]; simp), HB9.out⟩
    | true =>
      rw [b2] at cF HX
      cases b3 : autoB tb x.auto with
      | false =>
        rw [b3] at cA HX
        refine wp_region_quiet_below (by kernel_rfl) (by kernel_rfl) ?_
        repeat (first | (go_big_quiet_step (first | exact cI _ _ | exact cF _ _ | exact cA _ _)) | (refine wpQuiet_load_row9 (by kernel_rfl) 158 _ rfl w.heap.size rfl 158 _ (0, 0) _ hRX Tryz.underlying158 rfl hi82 ?_; simp only [Act.put, List.getElem_toArray, List.getElem_cons_succ, List.getElem_cons_zero, List.setIfInBounds_toArray, List.set_cons_zero, List.set_cons_succ]) | (refine wpQuiet_load_row9 (by kernel_rfl) 30 _ rfl V rfl 30 _ (0, 0) _ hRV Tryz.underlying30 rfl hi30 ?_; simp only [Act.put, List.getElem_toArray, List.getElem_cons_succ, List.getElem_cons_zero, List.setIfInBounds_toArray, List.set_cons_zero, List.set_cons_succ]))
        refine wpQuiet_nil ?_
        rintro _ ⟨⟨dq, osq⟩, rfl⟩
        dsimp only
        have HB9 : Hid (Below w.heap.size w (grow (redrawn W0 dq) osq)) := HB0.out.trans ((below_regrown W0 dq osq).mono HB0.out.size)
        clear cI cF cA z5 y0 y1 y2 y3 y4 hRX hRV
        generalize grow (redrawn W0 dq) osq = w9 at *
        go_wp2
        go_ret
        exact ⟨ret_bool' (by rw [HX.out]; simp), HB9.out⟩
      | true =>
        rw [b3] at cA HX
        have hid2 : 0 ≤ x.ctr ∧ x.ctr < (v.k.n : Int) := by unfold idB at b1; simpa using b1
        obtain ⟨k, hk⟩ := Int.eq_ofNat_of_zero_le hid2.1
        obtain ⟨r, hr⟩ : ∃ r, tb.ctrs[k]? = some r := ⟨_, List.getElem?_eq_getElem (by rw [← HN.out]; omega)⟩
        obtain ⟨gr, orr, er, hgr, t0, t1, t2⟩ := ctr_at hT0 hr
        have HP : Hid (ctOf tb x.ctr = r) := by
          show _ = _
          unfold ctOf
          rw [hk, Int.toNat_natCast, hr]
        have hk1 : (k : Int) < v.k.n := by omega
        have u0 := cell_regrown t0
        have u1 := cell_regrown t1
        have u2 := cell_regrown t2
        have cT : ∀ d os, Calls Tryz.prog 203 #[.agg #[I x.ctr, I x.ac.kind, I x.ac.task, .int .u32 (x.ac.mask : Int), .int .u32 (x.auto : Int), .int .u32 (x.time : Int), .int .u32 (x.cycle : Int)], .agg #[.int .u32 (r.max : Int), .int .u32 (r.base : Int), .int .u32 (r.min : Int)]] (grow (redrawn W0 d) os) fun e w'' => e = .returned (.bool (timesB x r)) ∧ ∃ p : Regrown, w'' = grow (redrawn W0 p.d) p.os := regrown_bel9 (fun W hW => timesFit_any x r W)
        rw [HP.out] at HX
        generalize timesB x r = bb at *
        rw [er] at z5 cI
        clear hr er b1 hid2 t0 t1 t2 hT0 HP
        generalize x.ctr = xc at *
        subst hk
        refine wp_region_quiet_below (by kernel_rfl) (by kernel_rfl) ?_
        repeat (first | (go_big_quiet_step (first | exact cI _ _ | exact cF _ _ | exact cA _ _ | exact cT _ _)) | (refine wpQuiet_load_row9 (by kernel_rfl) 158 _ rfl w.heap.size rfl 158 _ (0, 0) _ hRX Tryz.underlying158 rfl hi82 ?_; simp only [Act.put, List.getElem_toArray, List.getElem_cons_succ, List.getElem_cons_zero, List.setIfInBounds_toArray, List.set_cons_zero, List.set_cons_succ]) | (refine wpQuiet_load_row9 (by kernel_rfl) 30 _ rfl V rfl 30 _ (0, 0) _ hRV Tryz.underlying30 rfl hi30 ?_; simp only [Act.put, List.getElem_toArray, List.getElem_cons_succ, List.getElem_cons_zero, List.setIfInBounds_toArray, List.set_cons_zero, List.set_cons_succ]))
        refine wpQuiet_nil ?_
        rintro _ ⟨⟨dq, osq⟩, rfl⟩
        dsimp only
        have HB9 : Hid (Below w.heap.size w (grow (redrawn W0 dq) osq)) := HB0.out.trans ((below_regrown W0 dq osq).mono HB0.out.size)
        clear cI cF cA z5 y0 y1 y2 y3 y4 hRX hRV u0 u1 u2 cT
        generalize grow (redrawn W0 dq) osq = w9 at *
        go_wp2
        go_ret
        exact ⟨ret_bool' (by rw [HX.out]; simp), HB9.out⟩
set_option maxRecDepth 100000 in
theorem alarmsFit_any (tb : Tb) (v : Ts) (w : World) (h : TbAt w tb v) (hw : WfT tb) (hm : 1 ≤ tb.modes ∧ tb.modes ≤ 8) : Calls Tryz.prog 98 #[.agg (tbC tb v)] w fun e w' => e = .returned (.bool (tb.als.all (alB tb))) ∧ Below w.heap.size w w' := by
  have hb := below_alloc w (.cells (tbC tb v) 30)
  have hV := heap_alloc_new w (.cells (tbC tb v) 30)
  have ke := every_alr (w.alloc (.cells (tbC tb v) 30)) v.a tb.als (fun W hW => (h.below (hb.trans (hW.mono hb.size))).a) 200 #[.pointer (some ⟨w.heap.size, 0, none⟩)] (enters_of Tryz.func200 (by kernel_rfl) rfl) (alB tb) (fun W hW x hx => alarmsFit1_any tb v x w.heap.size W (h.below (hb.trans (hW.mono hb.size))) ((hW.block w.heap.size (heap_lt hV)).trans hV) (hw.a x hx).2.1 hm)
  have c2 := (var13 hV).2.2.2.2.2.2.1
  unfold tbC at *
  clear h hV hw hm
  generalize hR : tb.als.all (alB tb) = R at *
  go_enter Tryz.func98, Tryz.ntmps98
  go_wp2_with (go_at_call 199; refine ke.mono ?_; clear ke; rintro e w' ⟨rfl, hb2⟩)
  go_ret
  exact ⟨rfl, hb.trans (hb2.mono hb.size)⟩
end Go.Proofs.YtglnfifdjlgbcaaGreatDoor

namespace Go.Proofs.YtglnfifdjlgbcaaGreatDoor
open Go.RowKit Go.Shelf Go.Sort
set_option linter.unusedVariables false
set_option linter.unusedSimpArgs false

/-! ### Check -/
def chL (tb : Tb) : List Bool := [countsB tb, tb.ress.all (fun r => inI r.ceil (-1) 127), ringsW tb.tasks 64 tb.rings, tb.tasks.all (tkB tb), tb.ctrs.all ctB, tb.als.all (alB tb), isrsG tb [] tb.isrs, (tb.msgs.all fldB && tb.msgs.all (msB tb)), rmB tb]
theorem chL_all (tb : Tb) : (chL tb).all id = chkP tb := by
  unfold chL chkP rmB
  simp only [List.all_cons, List.all_nil, id, Bool.and_true, Bool.and_assoc]
def fnL : List Nat := [93, 94, 95, 96, 97, 98, 99, 100, 101]
theorem roomOK_of {tb : Tb} (h0 : countsB tb = true) (h5 : tb.als.all (alB tb) = true) (h7 : (tb.msgs.all fldB && tb.msgs.all (msB tb)) = true) : RoomOK tb := by
  refine ⟨fun x hx => ?_, fun x hx hk => ?_, ?_⟩
  · have := List.all_eq_true.1 h5 x hx
    unfold alB idB at this
    simp at this
    omega
  · rw [Bool.and_eq_true] at h7
    have := List.all_eq_true.1 h7.2 x hx
    unfold msB at this
    rw [if_neg hk] at this
    unfold sndB idB at this
    simp at this
    omega
  · unfold countsB at h0
    simp at h0
    omega
theorem modes_of {tb : Tb} (h0 : countsB tb = true) : 1 ≤ tb.modes ∧ tb.modes ≤ 8 := by
  unfold countsB inI at h0
  simp at h0
  omega
theorem one_any (tb : Tb) (v : Ts) (W : World) (h : TbAt W tb v) (hw : WfT tb) (k f : Nat) (b : Bool) (hf : fnL[k]? = some f) (hb : (chL tb)[k]? = some b) (hp : ((chL tb).take k).all id = true) :
    Calls Tryz.prog f #[.agg (tbC tb v)] W fun e w' => e = .returned (.bool b) ∧ Below W.heap.size W w' := by
  unfold fnL at hf
  unfold chL at hb hp
  match k, hf, hb, hp with
  | 0, hf, hb, hp => cases hf; cases hb; exact countsFit_any tb v W h
  | 1, hf, hb, hp => cases hf; cases hb; exact resourcesFit_any tb v W h
  | 2, hf, hb, hp => cases hf; cases hb; exact ringsFit_any tb v W h
  | 3, hf, hb, hp => cases hf; cases hb; simp at hp; exact tasksFit_any tb v W h hw (modes_of hp.1)
  | 4, hf, hb, hp => cases hf; cases hb; exact countersFit_any tb v W h
  | 5, hf, hb, hp => cases hf; cases hb; simp only [List.take_succ_cons, List.all_cons, Bool.and_eq_true, id] at hp; exact alarmsFit_any tb v W h hw (modes_of hp.1)
  | 6, hf, hb, hp => cases hf; cases hb; exact isrsFit_any tb v W h
  | 7, hf, hb, hp => cases hf; cases hb; exact messagesFit_any tb v W h hw
  | 8, hf, hb, hp => cases hf; cases hb; simp only [List.take_succ_cons, List.all_cons, Bool.and_eq_true, id] at hp; exact roomFits_any tb v W h (roomOK_of hp.1 hp.2.2.2.2.2.1 (by rw [Bool.and_eq_true]; exact hp.2.2.2.2.2.2.2.1))
  | n + 9, hf, hb, hp => simp at hf
theorem one_enters (k f : Nat) (hf : fnL[k]? = some f) : ∀ args W, (callFunc f args).run Tryz.prog W = .ok (.enter f args) W := by
  unfold fnL at hf
  match k, hf with
  | 0, hf => cases hf; exact enters_of Tryz.func93 (by kernel_rfl) rfl
  | 1, hf => cases hf; exact enters_of Tryz.func94 (by kernel_rfl) rfl
  | 2, hf => cases hf; exact enters_of Tryz.func95 (by kernel_rfl) rfl
  | 3, hf => cases hf; exact enters_of Tryz.func96 (by kernel_rfl) rfl
  | 4, hf => cases hf; exact enters_of Tryz.func97 (by kernel_rfl) rfl
  | 5, hf => cases hf; exact enters_of Tryz.func98 (by kernel_rfl) rfl
  | 6, hf => cases hf; exact enters_of Tryz.func99 (by kernel_rfl) rfl
  | 7, hf => cases hf; exact enters_of Tryz.func100 (by kernel_rfl) rfl
  | 8, hf => cases hf; exact enters_of Tryz.func101 (by kernel_rfl) rfl
  | n + 9, hf => simp at hf
def fvA : Array Value := #[.func (.func 93) #[] #[], .func (.func 94) #[] #[], .func (.func 95) #[] #[], .func (.func 96) #[] #[], .func (.func 97) #[] #[], .func (.func 98) #[] #[], .func (.func 99) #[] #[], .func (.func 100) #[] #[], .func (.func 101) #[] #[]]
theorem fv_at (k f : Nat) (hf : fnL[k]? = some f) : fvA[k]? = some (.func (.func f) #[] #[]) := by
  unfold fnL at hf
  match k, hf with
  | 0, hf => cases hf; rfl
  | 1, hf => cases hf; rfl
  | 2, hf => cases hf; rfl
  | 3, hf => cases hf; rfl
  | 4, hf => cases hf; rfl
  | 5, hf => cases hf; rfl
  | 6, hf => cases hf; rfl
  | 7, hf => cases hf; rfl
  | 8, hf => cases hf; rfl
  | n + 9, hf => simp at hf
set_option maxHeartbeats 16000000 in
set_option maxRecDepth 100000 in
theorem check_any (tb : Tb) (v : Ts) (w : World) (h : TbAt w tb v) (hw : WfT tb) : Calls Tryz.prog 27 #[.agg (tbC tb v)] w fun e w' => e = .returned (I (if chkP tb then 0 else 90)) ∧ Below w.heap.size w w' := by
  have hb1 : Below w.heap.size w ((w.alloc (.cells (tbC tb v) 30)).alloc (.cells fvA 164)) := (below_alloc w _).trans ((below_alloc _ _).mono (by simp))
  have hV0 : ((w.alloc (.cells (tbC tb v) 30)).alloc (.cells fvA 164)).heap[w.heap.size]? = some (.cells (tbC tb v) 30) := by
    rw [heap_alloc_old _ _ (by simp)]; exact heap_alloc_new w _
  have hG0 : ((w.alloc (.cells (tbC tb v) 30)).alloc (.cells fvA 164)).heap[w.heap.size + 1]? = some (.cells fvA 164) := by
    have := heap_alloc_new (w.alloc (.cells (tbC tb v) 30)) (.cells fvA 164)
    rw [World.size_alloc] at this
    exact this
  have HT : Hid (TbAt ((w.alloc (.cells (tbC tb v) 30)).alloc (.cells fvA 164)) tb v) := h.below hb1
  have HW : Hid (WfT tb) := hw
  have hi30 : (Tryz.prog.info? 30).map (·.size) = some (tbC tb v).size := by kernel_rfl
  obtain ⟨Z, hZ⟩ : ∃ Z : Int, Z = if chkP tb then 0 else 90 := ⟨_, rfl⟩
  rw [← hZ]
  have HZ : Hid (Z = if chkP tb then 0 else 90) := hZ
  have HC : Hid (∀ (W : World) (k f : Nat) (b : Bool), TbAt W tb v → fnL[k]? = some f → (chL tb)[k]? = some b → ((chL tb).take k).all id = true → Calls Tryz.prog f #[.agg (tbC tb v)] W fun e w' => e = .returned (.bool b) ∧ Below W.heap.size W w') := fun W k f b hT hf hb hp => one_any tb v W hT hw k f b hf hb hp
  have HFV : Hid (∀ W : World, W.heap[w.heap.size + 1]? = some (.cells fvA 164) → ∀ k f : Nat, fnL[k]? = some f → W.cell? ⟨w.heap.size + 1, k, none⟩ = some (.func (.func f) #[] #[])) := fun W hW k f hf => by
    rw [cell_of_row W _ k _ _ (0, 0) hW]; exact fv_at k f hf
  have HB0 : Hid (Below w.heap.size w ((w.alloc (.cells (tbC tb v) 30)).alloc (.cells fvA 164))) := hb1
  have HV0 : Hid (((w.alloc (.cells (tbC tb v) 30)).alloc (.cells fvA 164)).heap[w.heap.size]? = some (.cells (tbC tb v) 30) ∧ ((w.alloc (.cells (tbC tb v) 30)).alloc (.cells fvA 164)).heap[w.heap.size + 1]? = some (.cells fvA 164)) := ⟨hV0, hG0⟩
  clear h hw hZ hb1 hV0 hG0
  unfold tbC at *
  unfold fvA at HT HV0 HB0
  go_enter Tryz.func27, Tryz.ntmps27
  go_wp2
  generalize ((w.alloc (.cells #[I tb.uses, I tb.modes, .slice v.t.a v.t.n v.t.c, .slice v.g.a v.g.n v.g.c, .slice v.r.a v.r.n v.r.c, .slice v.k.a v.k.n v.k.c, .slice v.a.a v.a.n v.a.c, .slice v.i.a v.i.n v.i.c, .slice v.s.a v.s.n v.s.c, I tb.depth, I tb.frames, I tb.errors, I tb.calls] 30)).alloc (.cells #[.func (.func 93) #[] #[], .func (.func 94) #[] #[], .func (.func 95) #[] #[], .func (.func 96) #[] #[], .func (.func 97) #[] #[], .func (.func 98) #[] #[], .func (.func 99) #[] #[], .func (.func 100) #[] #[], .func (.func 101) #[] #[]] 164)) = W0 at *
  go_loopw [4, 7] (fun _ iv wr => ∃ j : Nat, j ≤ 9 ∧ iv = .int .i64 j ∧ Hid (((chL tb).take j).all id = true ∧ Below W0.heap.size W0 wr)) (fun _ iv _ => 9 - (intOf iv).toNat)
  case atStart => exact ⟨0, by omega, rfl, by simp, Below.refl _ _⟩
  case round =>
    obtain ⟨j, hj, rfl, HJ⟩ := hrel
    by_cases hlt : j < 9
    · have hlt' : (j : Int) < 9 := by omega
      obtain ⟨f, hf⟩ : ∃ f, fnL[j]? = some f := ⟨_, List.getElem?_eq_getElem (by exact hlt)⟩
      obtain ⟨b, hbx⟩ : ∃ b, (chL tb)[j]? = some b := ⟨_, List.getElem?_eq_getElem (by exact hlt)⟩
      have eg := one_enters j f hf
      have hV : wr.heap[w.heap.size]? = some (.cells #[I tb.uses, I tb.modes, .slice v.t.a v.t.n v.t.c, .slice v.g.a v.g.n v.g.c, .slice v.r.a v.r.n v.r.c, .slice v.k.a v.k.n v.k.c, .slice v.a.a v.a.n v.a.c, .slice v.i.a v.i.n v.i.c, .slice v.s.a v.s.n v.s.c, I tb.depth, I tb.frames, I tb.errors, I tb.calls] 30) := (HJ.out.2.block _ (heap_lt HV0.out.1)).trans HV0.out.1
      have hG := (HJ.out.2.block _ (heap_lt HV0.out.2)).trans HV0.out.2
      have hc := HFV.out wr (by unfold fvA; exact hG) j f hf
      have cx := HC.out wr j f b (HT.out.below HJ.out.2) hf hbx HJ.out.1
      have HTT : Hid (b = false → Z = 90) := fun ht => by rw [HZ.out, ← chL_all, all_false9 (p := id) hbx ht]; rfl
      have HA : Hid (b = true → ((chL tb).take (j + 1)).all id = true) := fun ht => by rw [all_take9 _ _ j _ hbx, HJ.out.1, ht]; rfl
      have HBW : Hid (Below W0.heap.size W0 wr) := HJ.out.2
      clear hbx HJ hf hG
      cases b with
      | false =>
        have HE : Hid (Z = 90) := HTT.out rfl
        clear HTT HA
        go_wp2_with (first | (refine wpList_load_row rfl 30 _ rfl w.heap.size rfl 30 _ (0, 0) _ hV Tryz.underlying30 rfl hi30 ?_))
        refine cx.mono ?_
        clear cx
        rintro e7 w7 ⟨rfl, hb7⟩
        have HB7 : Hid (Below W0.heap.size W0 w7) := HBW.out.trans (hb7.mono HBW.out.size)
        clear hb7 hV hc eg
        go_wp2
        go_ret
        exact ⟨by rw [HE.out]; rfl, HB0.out.trans (HB7.out.mono HB0.out.size)⟩
      | true =>
        have HA2 : Hid (((chL tb).take (j + 1)).all id = true) := HA.out rfl
        clear HTT HA
        go_wp2_with (first | (refine wpList_load_row rfl 30 _ rfl w.heap.size rfl 30 _ (0, 0) _ hV Tryz.underlying30 rfl hi30 ?_))
        refine cx.mono ?_
        clear cx
        rintro e7 w7 ⟨rfl, hb7⟩
        have HB7 : Hid (Below W0.heap.size W0 w7) := HBW.out.trans (hb7.mono HBW.out.size)
        clear hb7 hV hc eg
        go_wp2
        go_roundw
        case rel => exact ⟨j + 1, by omega, by go_num, HA2.out, HB7.out⟩
        case measure => simp [intOf]; omega
    · obtain rfl : j = 9 := by omega
      have HE : Hid (Z = 0) := by
        show _ = _
        have := HJ.out.1
        rw [List.take_of_length_le (by exact Nat.le_refl 9), chL_all] at this
        rw [HZ.out, this]
        rfl
      have HB : Hid (Below w.heap.size w wr) := HB0.out.trans (HJ.out.2.mono HB0.out.size)
      clear HJ
      go_wp2
      go_ret
      exact ⟨by rw [HE.out]; rfl, HB.out⟩
end Go.Proofs.YtglnfifdjlgbcaaGreatDoor

namespace Go.Proofs.YtglnfifdjlgbcaaGreatDoor
open Go.RowKit Go.ChangeShapes Go.WideShapes
set_option linter.unusedVariables false

/-! ### A configuration that came in, opened -/
def Sized (l : List Nat) : Prop := ∀ n, n ∈ l → n ≤ reachBytes
theorem sized_of_all {l : List Nat} (h : l.all (· ≤ reachBytes) = true) : Sized l := fun n hn => by simpa using List.all_eq_true.1 h n hn
theorem sized_rows {H : Type} {P : Program} {t e : TypeId} {es sp : List (DataW H)} (hu : P.underlying t = some (.slice e)) (h : Sized (DataW.weights P t (.slice es sp))) : es.length * P.bytesOf e ≤ reachBytes := by
  unfold DataW.weights at h
  simp only [hu] at h
  exact Nat.le_trans (Nat.mul_le_mul_right _ (Nat.le_add_right _ _)) (h _ (List.mem_cons_self ..))
theorem sized_field {H : Type} {P : Program} {t : TypeId} {fs : Array Field} {parts : List (DataW H)} (hu : P.underlying t = some (.struct fs)) (h : Sized (DataW.weights P t (.agg parts))) {j : Nat} {u : TypeId} {d : DataW H} (hj : (fs.toList.map (·.type))[j]? = some u) (hd : parts[j]? = some d) : Sized (d.weights P u) := by
  unfold DataW.weights at h
  simp only [hu] at h
  exact fun n hn => h n (DataW.weights_mem_each hj hd n hn)
theorem S_eq (s : ByteArray) : Value.string s = S s.data.toList := by cases s; simp [S]
theorem rows_open {α : Type} (inh : Inhabited α) {H : Type} {enc : TypeId × Value → H} {w : World} {spare : Nat → Bool} {held : Bool} {fuel : Nat} {T E : TypeId} {k : Nat} (hk : 0 < k) (hu : Tryz.prog.underlying T = some (.slice E)) (hc : Tryz.prog.cellsOf E = k) {P : α → Nat → Value → Prop} {v : Value} {y : DataW H × List MemPlace}
    (h : DataW.trod enc Tryz.prog w 0 spare held fuel T [v] = some y)
    (one : ∀ n cs z, cs.length = k → DataW.trod enc Tryz.prog w 0 spare held n E cs = some z → ∃ x : α, ∀ i, i < k → ∃ u, cs[i]? = some u ∧ P x i u) :
    ∃ (s : Sl) (l : List α), v = .slice s.a s.n s.c ∧ RowsAt w k P s l ∧ (Sized (y.1.weights Tryz.prog T) → l.length * Tryz.prog.bytesOf E ≤ reachBytes) := by
  rcases DataW.trod_slice hu h with ⟨hcs, _⟩ | ⟨a, len, cap, elems, rest, n, hfu, hcs, hx, _, hlc, hcm, hel, hV, _, _⟩
  · simp at hcs
    subst hcs
    exact ⟨⟨none, 0, 0⟩, [], rfl, ⟨rfl, Nat.le_refl _, Nat.zero_le _, fun j x hj => by simp at hj⟩, fun _ => by simp⟩
  · simp at hcs
    subst hcs
    rw [hc] at hV
    obtain ⟨L, hL⟩ := Go.Deep.choose_lt (α := α) (n := len) (p := fun i x => ∃ cs, w.cells? 0 (a.add (i * k)) k = some cs ∧ ∀ t, t < k → ∃ u, cs[t]? = some u ∧ P x t u) (fun i hi => by
      have hVi := hV i hi
      rw [List.getElem?_eq_getElem (by omega : i < elems.length)] at hVi
      obtain ⟨cs', h1, h2⟩ := Option.bind_eq_some_iff.1 hVi
      obtain ⟨_, hcl, _⟩ := World.cells?_some h1
      obtain ⟨x, hx⟩ := one n cs' _ hcl h2
      exact ⟨x, cs', h1, hx⟩)
    obtain ⟨b, off, spot⟩ := a
    refine ⟨⟨some ⟨b, off, spot⟩, len, cap⟩, (List.range len).map L, rfl, ⟨by simp, hlc, hcm, fun j x hj => ?_⟩, fun hz => ?_⟩
    · rw [List.getElem?_map] at hj
      obtain ⟨i, hi, rfl⟩ := Option.map_eq_some_iff.1 hj
      have hjl : j < len := by have := (List.getElem?_eq_some_iff.1 hi).1; simpa using this
      obtain rfl : j = i := by rw [List.getElem?_range hjl] at hi; exact Option.some.inj hi
      obtain ⟨cs, h1, h2⟩ := hL j hjl
      obtain ⟨_, hcl, hcc⟩ := World.cells?_some h1
      have hspot : spot = none := by
        obtain ⟨cs0, g1, g2⟩ := hL 0 (by omega)
        obtain ⟨_, gl, gc⟩ := World.cells?_some g1
        obtain ⟨u, gu, _⟩ := g2 0 hk
        have := World.cell?_spot ((gc 0 hk).trans gu)
        simpa [Addr.add] using this
      subst hspot
      refine ⟨b, off, rfl, ?_, fun t ht => ?_⟩
      · have := World.cells?_block h1 hk
        rw [WideShapes.add_plain] at this
        exact this
      · obtain ⟨u, hu1, hu2⟩ := h2 t ht
        have := (hcc t ht).trans hu1
        rw [WideShapes.add_plain, WideShapes.add_plain] at this
        exact ⟨u, this, hu2⟩
    · rw [hx] at hz
      have := sized_rows hu hz
      rw [List.length_map, hel] at this
      simpa using this
def evP2 (x : Ev) (i : Nat) (u : Value) : Prop := evP x i u ∧ x.mask < 4294967296
theorem p_int : Tryz.prog.cellsOf 3 = 1 := by kernel_rfl
theorem p_string : Tryz.prog.cellsOf 9 = 1 := by kernel_rfl
theorem p_bool : Tryz.prog.cellsOf 4 = 1 := by kernel_rfl
theorem p_uint32 : Tryz.prog.cellsOf 40 = 1 := by kernel_rfl
theorem p_uint64 : Tryz.prog.cellsOf 116 = 1 := by kernel_rfl
theorem p_Lint : Tryz.prog.cellsOf 31 = 1 := by kernel_rfl
theorem p_apiActionKind : Tryz.prog.cellsOf 154 = 1 := by kernel_rfl
theorem p_apiMessageKind : Tryz.prog.cellsOf 159 = 1 := by kernel_rfl
theorem one_int {H : Type} {enc : TypeId × Value → H} {w : World} {spare : Nat → Bool} {held : Bool} (n : Nat) (cs : List Value) (z : DataW H × List MemPlace) (hl : cs.length = 1) (h : DataW.trod enc Tryz.prog w 0 spare held n 3 cs = some z) : ∃ x : Int, ∀ i, i < 1 → ∃ u, cs[i]? = some u ∧ intP x i u := by
  obtain ⟨x, rfl, _, _⟩ := DataW.trod_int Tryz.underlying3 h
  exact ⟨x, fun i hi => by obtain rfl : i = 0 := (by omega); exact ⟨_, rfl, rfl⟩⟩
theorem one_str {H : Type} {enc : TypeId × Value → H} {w : World} {spare : Nat → Bool} {held : Bool} (n : Nat) (cs : List Value) (z : DataW H × List MemPlace) (hl : cs.length = 1) (h : DataW.trod enc Tryz.prog w 0 spare held n 9 cs = some z) : ∃ x : List UInt8, ∀ i, i < 1 → ∃ u, cs[i]? = some u ∧ strP x i u := by
  obtain ⟨x, rfl, _, _⟩ := DataW.trod_string Tryz.underlying9 h
  exact ⟨x.data.toList, fun i hi => by obtain rfl : i = 0 := (by omega); exact ⟨_, rfl, S_eq x⟩⟩
theorem ints_open {H : Type} {enc : TypeId × Value → H} {w : World} {spare : Nat → Bool} {held : Bool} {fuel : Nat} {v : Value} {y : DataW H × List MemPlace} (h : DataW.trod enc Tryz.prog w 0 spare held fuel 31 [v] = some y) : ∃ l, IntsV w l v := by
  obtain ⟨s, l, e, hr, _⟩ := rows_open ⟨0⟩ (by omega) Tryz.underlying31 p_int h one_int
  exact ⟨l, s, e, hr⟩
theorem list3 {α : Type} {l : List α} (h : l.length = 3) : ∃ c0 c1 c2, l = [c0, c1, c2] := by
  match l, h with
  | [c0, c1, c2], _ => exact ⟨c0, c1, c2, rfl⟩
theorem list4 {α : Type} {l : List α} (h : l.length = 4) : ∃ c0 c1 c2 c3, l = [c0, c1, c2, c3] := by
  match l, h with
  | [c0, c1, c2, c3], _ => exact ⟨c0, c1, c2, c3, rfl⟩
theorem list5 {α : Type} {l : List α} (h : l.length = 5) : ∃ c0 c1 c2 c3 c4, l = [c0, c1, c2, c3, c4] := by
  match l, h with
  | [c0, c1, c2, c3, c4], _ => exact ⟨c0, c1, c2, c3, c4, rfl⟩
theorem list8 {α : Type} {l : List α} (h : l.length = 8) : ∃ c0 c1 c2 c3 c4 c5 c6 c7, l = [c0, c1, c2, c3, c4, c5, c6, c7] := by
  match l, h with
  | [c0, c1, c2, c3, c4, c5, c6, c7], _ => exact ⟨c0, c1, c2, c3, c4, c5, c6, c7, rfl⟩
theorem list9 {α : Type} {l : List α} (h : l.length = 9) : ∃ c0 c1 c2 c3 c4 c5 c6 c7 c8, l = [c0, c1, c2, c3, c4, c5, c6, c7, c8] := by
  match l, h with
  | [c0, c1, c2, c3, c4, c5, c6, c7, c8], _ => exact ⟨c0, c1, c2, c3, c4, c5, c6, c7, c8, rfl⟩
theorem list10 {α : Type} {l : List α} (h : l.length = 10) : ∃ c0 c1 c2 c3 c4 c5 c6 c7 c8 c9, l = [c0, c1, c2, c3, c4, c5, c6, c7, c8, c9] := by
  match l, h with
  | [c0, c1, c2, c3, c4, c5, c6, c7, c8, c9], _ => exact ⟨c0, c1, c2, c3, c4, c5, c6, c7, c8, c9, rfl⟩
theorem list18 {α : Type} {l : List α} (h : l.length = 18) : ∃ c0 c1 c2 c3 c4 c5 c6 c7 c8 c9 c10 c11 c12 c13 c14 c15 c16 c17, l = [c0, c1, c2, c3, c4, c5, c6, c7, c8, c9, c10, c11, c12, c13, c14, c15, c16, c17] := by
  match l, h with
  | [c0, c1, c2, c3, c4, c5, c6, c7, c8, c9, c10, c11, c12, c13, c14, c15, c16, c17], _ => exact ⟨c0, c1, c2, c3, c4, c5, c6, c7, c8, c9, c10, c11, c12, c13, c14, c15, c16, c17, rfl⟩
end Go.Proofs.YtglnfifdjlgbcaaGreatDoor

