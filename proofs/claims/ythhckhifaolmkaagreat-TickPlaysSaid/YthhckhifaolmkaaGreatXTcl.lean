import Derived.Test.YthhckhifaolmkaaGreatXTcn
import Derived.Test.YthhckhifaolmkaaGreatXTcq
namespace Go.Proofs.YthhckhifaolmkaaGreat
open Go.RowKit Go.Shelf Go.Sort
set_option linter.unusedVariables false
set_option linter.unusedSimpArgs false

/-! ### senderFits -/
set_option maxHeartbeats 16000000 in
set_option maxRecDepth 100000 in
theorem senderFits_any (tb : Tb) (v : Ts) (x : MsR) (w : World) (h : TbAt w tb v) (hx : x.init < 18446744073709551616) (hf : tb.msgs.all fldB = true) :
    Calls Tryz.prog 112 #[.agg (tbC tb v), .agg (msrC x)] w fun e w' => e = .returned (.bool (sndB tb x)) ∧ Below w.heap.size w w' := by
  have hb : Below w.heap.size w ((w.alloc (.cells (tbC tb v) 37)).alloc (.cells (msrC x) 184)) := (below_alloc w _).trans ((below_alloc _ _).mono (by simp))
  have hV0 : ((w.alloc (.cells (tbC tb v) 37)).alloc (.cells (msrC x) 184)).heap[w.heap.size]? = some (.cells (tbC tb v) 37) := by
    rw [heap_alloc_old _ _ (by simp)]; exact heap_alloc_new w _
  have hX : ((w.alloc (.cells (tbC tb v) 37)).alloc (.cells (msrC x) 184)).heap[w.heap.size + 1]? = some (.cells (msrC x) 184) := by
    have := heap_alloc_new (w.alloc (.cells (tbC tb v) 37)) (.cells (msrC x) 184)
    rw [World.size_alloc] at this
    exact this
  have hT0 := h.below hb
  have HB0 : Hid (Below w.heap.size w ((w.alloc (.cells (tbC tb v) 37)).alloc (.cells (msrC x) 184))) := hb
  have HN : Hid (v.s.n = tb.msgs.length) := h.s.n
  have hgc : v.s.n ≤ v.s.c := h.s.c
  have hgm : v.s.c ≤ maxLen := h.s.m
  unfold maxLen at hgm
  obtain ⟨R, hR⟩ : ∃ R, R = sndB tb x := ⟨_, rfl⟩
  rw [← hR]
  have HX : Hid (R = (idB x.frm v.s.n && ((msOf tb x.frm).kind == 1) && decide (x.init < 2 ^ (8 * (msOf tb x.frm).len.toNat)))) := by
    show _ = _
    rw [hR, HN.out]
    rfl
  have kI := fun W => isID_msgs x.frm v.s W
  clear hR h hb
  go_enter Tryz.func112, Tryz.ntmps112
  unfold tbC msrC at *
  go_upto_region 1 with fail
  generalize ((w.alloc (.cells #[I tb.uses, I tb.modes, .slice v.t.a v.t.n v.t.c, .slice v.g.a v.g.n v.g.c, .slice v.r.a v.r.n v.r.c, .slice v.k.a v.k.n v.k.c, .slice v.a.a v.a.n v.a.c, .slice v.i.a v.i.n v.i.c, .slice v.s.a v.s.n v.s.c, I tb.depth, I tb.frames, I tb.errors, I tb.calls] 37)).alloc (.cells #[I x.kind, I x.len, I x.frm, .int .u64 (x.init : Int), I x.queue, I x.ac.kind, I x.ac.task, .int .u32 (x.ac.mask : Int)] 184)) = W0 at *
  have z8 := (var13 hV0).2.2.2.2.2.2.2.2.1
  have x2 := cell_of_row _ (w.heap.size + 1) 2 _ _ (0, 0) hX
  have x3 := cell_of_row _ (w.heap.size + 1) 3 _ _ (0, 0) hX
  simp at x2 x3
  clear hX hV0
  cases b1 : idB x.frm v.s.n with
  | false =>
    rw [b1] at HX
    go_wp2_with (first | (go_at_call 135; refine (kI _).mono ?_; clear kI; rw [b1]; rintro e w' ⟨rfl, rfl⟩))
    go_ret
    exact ⟨ret_bool' (by rw [HX.out]; simp), HB0.out⟩
  | true =>
    rw [b1] at HX
    have hid2 : 0 ≤ x.frm ∧ x.frm < (v.s.n : Int) := by unfold idB at b1; simpa using b1
    obtain ⟨k, hk⟩ := Int.eq_ofNat_of_zero_le hid2.1
    obtain ⟨r, hr⟩ : ∃ r, tb.msgs[k]? = some r := ⟨_, List.getElem?_eq_getElem (by rw [← HN.out]; omega)⟩
    obtain ⟨gr, orr, er, hgr, t0, t1, t2, t3, t4, t5, t6, t7⟩ := msr_at hT0 hr
    have HP : Hid (msOf tb x.frm = r) := by
      show _ = _
      unfold msOf
      rw [hk, Int.toNat_natCast, hr]
    have hfr := List.all_eq_true.1 hf r (List.mem_of_getElem? hr)
    have hk1 : (k : Int) < v.s.n := by omega
    have kJ : ∀ W, Calls Tryz.prog 135 #[I k, .slice (some ⟨gr, orr, none⟩) v.s.n v.s.c] W fun e w' => e = .returned (.bool true) ∧ w' = W := fun W => by
      have := kI W
      rw [b1, hk, er] at this
      exact this
    rw [HP.out] at HX
    rw [hk] at x2
    rw [er] at z8
    clear kI hr er b1 hid2 t2 t3 t4 t5 t6 t7 hT0 hf hk
    cases b2 : (r.kind == 1) with
    | false =>
      rw [b2] at HX
      go_wp2_with (first | (go_at_call 135; refine (kJ _).mono ?_; clear kJ; rintro e w' ⟨rfl, rfl⟩))
      go_ret
      exact ⟨ret_bool' (by rw [HX.out]; simp), HB0.out⟩
    | true =>
      rw [b2] at HX
      have hlen : r.len = 1 ∨ r.len = 2 ∨ r.len = 4 ∨ r.len = 8 := by
        unfold fldB at hfr
        rw [if_pos (by simpa using b2)] at hfr
        simp at hfr
        omega
      clear hfr
      rcases hlen with e | e | e | e
      all_goals
        rw [e] at t1 HX
        go_wp2_with (first | (go_at_call 135; refine (kJ _).mono ?_; clear kJ; rintro e w' ⟨rfl, rfl⟩))
        go_region
        all_goals
          go_wp2
          go_ret
          exact ⟨ret_bool' (by rw [HX.out, Bool.eq_iff_iff]; simp; omega), HB0.out.drew⟩
/-! ### messagesFit -/
set_option maxHeartbeats 16000000 in
set_option maxRecDepth 100000 in
theorem messagesFit1_any (tb : Tb) (v : Ts) (x : MsR) (V : Nat) (w : World) (h : TbAt w tb v) (hV : w.heap[V]? = some (.cells (tbC tb v) 37)) (hx : x.init < 18446744073709551616) (hf : tb.msgs.all fldB = true) :
    Calls Tryz.prog 111 #[.agg (msrC x), .pointer (some ⟨V, 0, none⟩)] w fun e w' => e = .returned (.bool (msB tb x)) ∧ Below w.heap.size w w' := by
  have hb := below_alloc w (.cells (msrC x) 184)
  have hX := heap_alloc_new w (.cells (msrC x) 184)
  have hV0 : (w.alloc (.cells (msrC x) 184)).heap[V]? = some (.cells (tbC tb v) 37) := (hb.block V (heap_lt hV)).trans hV
  have hT0 := h.below hb
  have HB0 : Hid (Below w.heap.size w (w.alloc (.cells (msrC x) 184))) := hb
  have hi30 : (Tryz.prog.info? 37).map (·.size) = some (tbC tb v).size := by kernel_rfl
  have hi97 : (Tryz.prog.info? 184).map (·.size) = some (msrC x).size := by kernel_rfl
  have k0 := fun W hW => actionFits_any tb v x.ac 0 0 W (hT0.below hW)
  have k4 := fun W hW => actionFits_any tb v x.ac 0 4 W (hT0.below hW)
  have kS := senderFits_any tb v x (w.alloc (.cells (msrC x) 184)) hT0 hx hf
  obtain ⟨R, hR⟩ : ∃ R, R = msB tb x := ⟨_, rfl⟩
  rw [← hR]
  unfold msB at hR
  clear h hV hb hx hf hT0
  go_enter Tryz.func111, Tryz.ntmps111
  unfold tbC msrC acrC at *
  go_upto_region 1 with fail
  generalize (w.alloc (.cells #[I x.kind, I x.len, I x.frm, .int .u64 (x.init : Int), I x.queue, I x.ac.kind, I x.ac.task, .int .u32 (x.ac.mask : Int)] 184)) = W0 at *
  have HV : Hid (∀ W, Below W0.heap.size W0 W → W.heap[V]? = some (.cells #[I tb.uses, I tb.modes, .slice v.t.a v.t.n v.t.c, .slice v.g.a v.g.n v.g.c, .slice v.r.a v.r.n v.r.c, .slice v.k.a v.k.n v.k.c, .slice v.a.a v.a.n v.a.c, .slice v.i.a v.i.n v.i.c, .slice v.s.a v.s.n v.s.c, I tb.depth, I tb.frames, I tb.errors, I tb.calls] 37)) := fun W hW => (hW.block V (heap_lt hV0)).trans hV0
  have HXX : Hid (∀ W, Below W0.heap.size W0 W → W.heap[w.heap.size]? = some (.cells #[I x.kind, I x.len, I x.frm, .int .u64 (x.init : Int), I x.queue, I x.ac.kind, I x.ac.task, .int .u32 (x.ac.mask : Int)] 184)) := fun W hW => (hW.block w.heap.size (heap_lt hX)).trans hX
  have y0 := cell_of_row _ w.heap.size 0 _ _ (0, 0) hX
  have y5 := cell_of_row _ w.heap.size 5 _ _ (0, 0) hX
  have y6 := cell_of_row _ w.heap.size 6 _ _ (0, 0) hX
  have y7 := cell_of_row _ w.heap.size 7 _ _ (0, 0) hX
  simp at y0 y5 y6 y7
  have kA0 := k0 W0 (Below.refl _ _)
  clear k0
  by_cases b1 : x.kind = 1
  · have b1' : (x.kind == 1) = true := by simpa using b1
    rw [if_pos b1] at hR
    have HX : Hid (R = acB tb x.ac 0 0) := hR
    clear hR b1 kS k4
    go_wp2_with (first
      | (refine wpList_load_row rfl 37 _ rfl V rfl 37 _ (0, 0) _ hV0 Tryz.underlying37 rfl hi30 ?_)
      | (go_at_call 103; refine kA0.mono ?_; clear kA0; rintro e w' ⟨rfl, hb2⟩))
    go_ret
    exact ⟨ret_bool' HX.out.symm, HB0.out.trans (hb2.mono HB0.out.size)⟩
  · have b1' : (x.kind == 1) = false := by simpa using b1
    rw [if_neg b1] at hR
    have HX : Hid (R = (sndB tb x && acB tb x.ac 0 4)) := hR
    clear hR b1 kA0
    cases b2 : sndB tb x with
    | false =>
      rw [b2] at kS HX
      go_wp2_with (first
      | (refine wpList_load_row rfl 37 _ rfl V rfl 37 _ (0, 0) _ hV0 Tryz.underlying37 rfl hi30 ?_)
      | (refine wpList_load_row rfl 184 _ rfl w.heap.size rfl 184 _ (0, 0) _ hX Tryz.underlying184 rfl hi97 ?_)
      | (go_at_call 112; refine kS.mono ?_; clear kS; rintro e w2 ⟨rfl, hb2⟩))
      go_ret
      exact ⟨ret_bool' (by rw [HX.out]; simp), HB0.out.trans (hb2.mono HB0.out.size)⟩
    | true =>
      rw [b2] at kS HX
      go_wp2_with (first
      | (refine wpList_load_row rfl 37 _ rfl V rfl 37 _ (0, 0) _ hV0 Tryz.underlying37 rfl hi30 ?_)
      | (refine wpList_load_row rfl 184 _ rfl w.heap.size rfl 184 _ (0, 0) _ hX Tryz.underlying184 rfl hi97 ?_)
      | (go_at_call 112; refine kS.mono ?_; clear kS y0 y5 y6 y7; rintro e w2 ⟨rfl, hb2⟩; obtain ⟨d0, d1, d2, d3, d4, d5, d6, d7, d8, d9, d10, d11, d12⟩ := var13 (HV.out w2 hb2); have hX2 := HXX.out w2 hb2; have f5 := cell_of_row _ w.heap.size 5 _ _ (0, 0) hX2; have f6 := cell_of_row _ w.heap.size 6 _ _ (0, 0) hX2; have f7 := cell_of_row _ w.heap.size 7 _ _ (0, 0) hX2; simp at f5 f6 f7; have kA := k4 w2 hb2; clear hX2 k4)
      | (go_at_call 103; refine kA.mono ?_; clear kA; rintro e w3 ⟨rfl, hb3⟩))
      go_ret
      exact ⟨ret_bool' (by rw [HX.out]; simp), HB0.out.trans ((hb2.trans (hb3.mono hb2.size)).mono HB0.out.size)⟩
set_option maxRecDepth 100000 in
theorem messagesFit_any (tb : Tb) (v : Ts) (w : World) (h : TbAt w tb v) (hw : WfT tb) : Calls Tryz.prog 67 #[.agg (tbC tb v)] w fun e w' => e = .returned (.bool (tb.msgs.all fldB && tb.msgs.all (msB tb))) ∧ Below w.heap.size w w' := by
  have hb := below_alloc w (.cells (tbC tb v) 37)
  have hV := heap_alloc_new w (.cells (tbC tb v) 37)
  have k1 := every_msr (w.alloc (.cells (tbC tb v) 37)) v.s tb.msgs (fun W hW => (h.below (hb.trans (hW.mono hb.size))).s) 110 #[] (enters_of Tryz.func110 (by kernel_rfl) rfl) fldB (fun W hW x hx => fieldsFit_any x W)
  have k2 : tb.msgs.all fldB = true → ∀ W2, Below (w.alloc (.cells (tbC tb v) 37)).heap.size (w.alloc (.cells (tbC tb v) 37)) W2 → Calls Tryz.prog 109 #[.slice v.s.a v.s.n v.s.c, .func (.func 111) #[] #[.pointer (some ⟨w.heap.size, 0, none⟩)]] W2 fun e w' => e = .returned (.bool (tb.msgs.all (msB tb))) ∧ Below W2.heap.size W2 w' := fun hf W2 hW2 =>
    every_msr W2 v.s tb.msgs (fun W hW => (h.below (hb.trans ((hW2.trans (hW.mono hW2.size)).mono hb.size))).s) 111 #[.pointer (some ⟨w.heap.size, 0, none⟩)] (enters_of Tryz.func111 (by kernel_rfl) rfl) (msB tb) (fun W hW x hx => messagesFit1_any tb v x w.heap.size W (h.below (hb.trans ((hW2.trans (hW.mono hW2.size)).mono hb.size))) (((hW2.trans (hW.mono hW2.size)).block w.heap.size (heap_lt hV)).trans hV) (hw.s x hx).1 hf)
  have c8 := (var13 hV).2.2.2.2.2.2.2.2.1
  have HV8 : Hid (∀ W, Below (w.alloc (.cells (tbC tb v) 37)).heap.size (w.alloc (.cells (tbC tb v) 37)) W → W.cell? ⟨w.heap.size, 8, none⟩ = some (.slice v.s.a v.s.n v.s.c)) := fun W hW => (var13 ((hW.block w.heap.size (heap_lt hV)).trans hV)).2.2.2.2.2.2.2.2.1
  unfold tbC at *
  clear h hV hw
  generalize hR1 : tb.msgs.all fldB = R1 at *
  generalize hR2 : tb.msgs.all (msB tb) = R2 at *
  go_enter Tryz.func67, Tryz.ntmps67
  go_upto_region 1 with fail
  generalize (w.alloc (.cells #[I tb.uses, I tb.modes, .slice v.t.a v.t.n v.t.c, .slice v.g.a v.g.n v.g.c, .slice v.r.a v.r.n v.r.c, .slice v.k.a v.k.n v.k.c, .slice v.a.a v.a.n v.a.c, .slice v.i.a v.i.n v.i.c, .slice v.s.a v.s.n v.s.c, I tb.depth, I tb.frames, I tb.errors, I tb.calls] 37)) = W0 at *
  cases R1
  · go_wp2_with (first | (go_at_call 109; refine k1.mono ?_; clear k1; rintro e w2 ⟨rfl, hb2⟩))
    go_ret
    exact ⟨rfl, hb.trans (hb2.mono hb.size)⟩
  · go_wp2_with (first
      | (go_at_call 109; refine k1.mono ?_; clear k1; rintro e w2 ⟨rfl, hb2⟩; have q8 := HV8.out w2 hb2; have kg := k2 rfl w2 hb2; clear k2)
      | (go_at_call 109; refine kg.mono ?_; clear kg; rintro e w3 ⟨rfl, hb3⟩))
    go_ret
    exact ⟨ret_bool' (by simp), hb.trans ((hb2.trans (hb3.mono hb2.size)).mono hb.size)⟩
end Go.Proofs.YthhckhifaolmkaaGreat

namespace Go.Proofs.YthhckhifaolmkaaGreat
open Go.RowKit Go.Shelf Go.Sort
set_option linter.unusedVariables false
set_option linter.unusedSimpArgs false

/-! ### tasksFit -/
set_option maxHeartbeats 16000000 in
set_option maxRecDepth 100000 in
theorem tasksFit1_any (tb : Tb) (v : Ts) (x : TkR) (s6 : Sl) (V : Nat) (w : World) (h : TbAt w tb v) (hs : RowsAt w 1 intP s6 x.own) (hV : w.heap[V]? = some (.cells (tbC tb v) 37)) (ha : x.auto < 4294967296) (hm : 1 ≤ tb.modes ∧ tb.modes ≤ 8) :
    Calls Tryz.prog 92 #[.agg (tkrC x s6), .pointer (some ⟨V, 0, none⟩)] w fun e w' => e = .returned (.bool (tkB tb x)) ∧ Below w.heap.size w w' := by
  have hb := below_alloc w (.cells (tkrC x s6) 95)
  have hX := heap_alloc_new w (.cells (tkrC x s6) 95)
  have hV0 : (w.alloc (.cells (tkrC x s6) 95)).heap[V]? = some (.cells (tbC tb v) 37) := (hb.block V (heap_lt hV)).trans hV
  have hT0 := h.below hb
  have hs0 := hs.below hb (fun _ _ _ _ h => h)
  have HB0 : Hid (Below w.heap.size w (w.alloc (.cells (tkrC x s6) 95))) := hb
  have HN : Hid (v.g.n = tb.rings.length) := h.g.n
  have hgc : v.g.n ≤ v.g.c := h.g.c
  have hgm : v.g.c ≤ maxLen := h.g.m
  unfold maxLen at hgm
  have hi30 : (Tryz.prog.info? 37).map (·.size) = some (tbC tb v).size := by kernel_rfl
  have hi67 : (Tryz.prog.info? 95).map (·.size) = some (tkrC x s6).size := by kernel_rfl
  obtain ⟨R, hR⟩ : ∃ R, R = tkB tb x := ⟨_, rfl⟩
  rw [← hR]
  have HX : Hid (R = (idB x.ring v.g.n && (prioAt tb.rings x.ring == x.prio) && limitB x && ((x.inner == -1 || inI x.inner x.prio 127) && ownG tb x.prio (-1) x.own && autoB tb x.auto))) := by
    show _ = _
    rw [hR, HN.out]
    rfl
  clear hR h hs hV hb
  go_enter Tryz.func92, Tryz.ntmps92
  unfold tkrC tbC at *
  go_upto_region 1 with fail
  generalize (w.alloc (.cells #[I x.prio, I x.ring, .bool x.full, I x.limit, .int .u32 (x.mask : Int), I x.inner, .slice s6.a s6.n s6.c, .int .u32 (x.auto : Int)] 95)) = W0 at *
  have cI : ∀ d os, Calls Tryz.prog 93 #[I x.ring, .slice v.g.a v.g.n v.g.c] (grow (redrawn W0 d) os) fun e w'' => e = .returned (.bool (idB x.ring v.g.n)) ∧ ∃ p : Regrown, w'' = grow (redrawn W0 p.d) p.os := regrown_bel9 (fun W hW => calls_bel9 (isID_rings x.ring v.g W))
  have cL : ∀ d os, Calls Tryz.prog 94 #[.agg #[I x.prio, I x.ring, .bool x.full, I x.limit, .int .u32 (x.mask : Int), I x.inner, .slice s6.a s6.n s6.c, .int .u32 (x.auto : Int)]] (grow (redrawn W0 d) os) fun e w'' => e = .returned (.bool (limitB x)) ∧ ∃ p : Regrown, w'' = grow (redrawn W0 p.d) p.os := regrown_bel9 (fun W hW => limitFits_any x s6 W)
  have cW : ∀ d os, Calls Tryz.prog 86 #[I x.inner, I x.prio, I 127] (grow (redrawn W0 d) os) fun e w'' => e = .returned (.bool (inI x.inner x.prio 127)) ∧ ∃ p : Regrown, w'' = grow (redrawn W0 p.d) p.os := regrown_bel9 (fun W hW => calls_bel9 (withinI_any x.inner x.prio 127 W))
  have cO : ∀ d os, Calls Tryz.prog 95 #[.agg #[I tb.uses, I tb.modes, .slice v.t.a v.t.n v.t.c, .slice v.g.a v.g.n v.g.c, .slice v.r.a v.r.n v.r.c, .slice v.k.a v.k.n v.k.c, .slice v.a.a v.a.n v.a.c, .slice v.i.a v.i.n v.i.c, .slice v.s.a v.s.n v.s.c, I tb.depth, I tb.frames, I tb.errors, I tb.calls], .slice s6.a s6.n s6.c, I x.prio] (grow (redrawn W0 d) os) fun e w'' => e = .returned (.bool (ownG tb x.prio (-1) x.own)) ∧ ∃ p : Regrown, w'' = grow (redrawn W0 p.d) p.os := regrown_bel9 (fun W hW => ownFits_any tb v W (hT0.below hW) s6 x.own (hs0.below hW (fun _ _ _ _ h => h)) x.prio)
  have cA : ∀ d os, Calls Tryz.prog 96 #[.agg #[I tb.uses, I tb.modes, .slice v.t.a v.t.n v.t.c, .slice v.g.a v.g.n v.g.c, .slice v.r.a v.r.n v.r.c, .slice v.k.a v.k.n v.k.c, .slice v.a.a v.a.n v.a.c, .slice v.i.a v.i.n v.i.c, .slice v.s.a v.s.n v.s.c, I tb.depth, I tb.frames, I tb.errors, I tb.calls], .int .u32 (x.auto : Int)] (grow (redrawn W0 d) os) fun e w'' => e = .returned (.bool (autoB tb x.auto)) ∧ ∃ p : Regrown, w'' = grow (redrawn W0 p.d) p.os := regrown_bel9 (fun W hW => autoFits_any tb v x.auto ha hm W)
  have z3 := cell_regrown (var13 hV0).2.2.2.1
  have xc := cell_of_row _ w.heap.size 0 _ _ (0, 0) hX
  have xr := cell_of_row _ w.heap.size 1 _ _ (0, 0) hX
  have xi := cell_of_row _ w.heap.size 5 _ _ (0, 0) hX
  have xo := cell_of_row _ w.heap.size 6 _ _ (0, 0) hX
  have xa := cell_of_row _ w.heap.size 7 _ _ (0, 0) hX
  simp at xc xr xi xo xa
  have y0 := cell_regrown xc
  have y1 := cell_regrown xr
  have y5 := cell_regrown xi
  have y6 := cell_regrown xo
  have y7 := cell_regrown xa
  have hRX := heap_regrown9 hX
  have hRV := heap_regrown9 hV0
  clear hs0 hX hV0 xc xr xi xo xa ha hm
  cases b1 : idB x.ring v.g.n with
  | false =>
    rw [b1] at cI HX
    refine wp_region_quiet_below (by kernel_rfl) (by kernel_rfl) ?_
    repeat (first | (go_big_quiet_step (first | exact cI _ _)) | (refine wpQuiet_load_row9 (by kernel_rfl) 95 _ rfl w.heap.size rfl 95 _ (0, 0) _ hRX Tryz.underlying95 rfl hi67 ?_; simp only [Act.put, List.getElem_toArray, List.getElem_cons_succ, List.getElem_cons_zero, List.setIfInBounds_toArray, List.set_cons_zero, List.set_cons_succ]) | (refine wpQuiet_load_row9 (by kernel_rfl) 37 _ rfl V rfl 37 _ (0, 0) _ hRV Tryz.underlying37 rfl hi30 ?_; simp only [Act.put, List.getElem_toArray, List.getElem_cons_succ, List.getElem_cons_zero, List.setIfInBounds_toArray, List.set_cons_zero, List.set_cons_succ]))
    refine wpQuiet_nil ?_
    rintro _ ⟨⟨dq, osq⟩, rfl⟩
    dsimp only
    have HB9 : Hid (Below w.heap.size w (grow (redrawn W0 dq) osq)) := HB0.out.trans ((below_regrown W0 dq osq).mono HB0.out.size)
    clear cI cL cW cO cA z3 y0 y1 y5 y6 y7 hRX hRV
    generalize grow (redrawn W0 dq) osq = w9 at *
    go_wp2
    go_ret
    exact ⟨ret_bool' (by rw [HX.out]; simp), HB9.out⟩
  | true =>
    rw [b1] at cI HX
    have hid2 : 0 ≤ x.ring ∧ x.ring < (v.g.n : Int) := by unfold idB at b1; simpa using b1
    obtain ⟨k, hk⟩ := Int.eq_ofNat_of_zero_le hid2.1
    obtain ⟨r, hr⟩ : ∃ r, tb.rings[k]? = some r := ⟨_, List.getElem?_eq_getElem (by rw [← HN.out]; omega)⟩
    obtain ⟨gr, orr, er, hgr, t0, t1⟩ := rgr_at hT0 hr
    have HP : Hid (prioAt tb.rings x.ring = r.prio) := by
      show _ = _
      unfold prioAt
      rw [hk, Int.toNat_natCast, hr]
    have hk1 : (k : Int) < v.g.n := by omega
    have x5 := cell_regrown t0
    rw [HP.out] at HX
    rw [er] at z3 cI
    clear hr er b1 hid2 t0 t1 hT0 HP
    generalize x.ring = xr at *
    subst hk
    cases b2 : (r.prio == x.prio) with
    | false =>
      rw [b2] at HX
      refine wp_region_quiet_below (by kernel_rfl) (by kernel_rfl) ?_
      repeat (first | (go_big_quiet_step (first | exact cI _ _)) | (refine wpQuiet_load_row9 (by kernel_rfl) 95 _ rfl w.heap.size rfl 95 _ (0, 0) _ hRX Tryz.underlying95 rfl hi67 ?_; simp only [Act.put, List.getElem_toArray, List.getElem_cons_succ, List.getElem_cons_zero, List.setIfInBounds_toArray, List.set_cons_zero, List.set_cons_succ]) | (refine wpQuiet_load_row9 (by kernel_rfl) 37 _ rfl V rfl 37 _ (0, 0) _ hRV Tryz.underlying37 rfl hi30 ?_; simp only [Act.put, List.getElem_toArray, List.getElem_cons_succ, List.getElem_cons_zero, List.setIfInBounds_toArray, List.set_cons_zero, List.set_cons_succ]))
      refine wpQuiet_nil ?_
      rintro _ ⟨⟨dq, osq⟩, rfl⟩
      dsimp only
      have HB9 : Hid (Below w.heap.size w (grow (redrawn W0 dq) osq)) := HB0.out.trans ((below_regrown W0 dq osq).mono HB0.out.size)
      clear cI cL cW cO cA z3 y0 y1 y5 y6 y7 hRX hRV x5
      generalize grow (redrawn W0 dq) osq = w9 at *
      go_wp2
      go_ret
      exact ⟨ret_bool' (by rw [HX.out]; simp), HB9.out⟩
    | true =>
      rw [b2] at HX
      cases b3 : limitB x with
      | false =>
        rw [b3] at cL HX
        refine wp_region_quiet_below (by kernel_rfl) (by kernel_rfl) ?_
        repeat (first | (go_big_quiet_step (first | exact cI _ _ | exact cL _ _)) | (refine wpQuiet_load_row9 (by kernel_rfl) 95 _ rfl w.heap.size rfl 95 _ (0, 0) _ hRX Tryz.underlying95 rfl hi67 ?_; simp only [Act.put, List.getElem_toArray, List.getElem_cons_succ, List.getElem_cons_zero, List.setIfInBounds_toArray, List.set_cons_zero, List.set_cons_succ]) | (refine wpQuiet_load_row9 (by kernel_rfl) 37 _ rfl V rfl 37 _ (0, 0) _ hRV Tryz.underlying37 rfl hi30 ?_; simp only [Act.put, List.getElem_toArray, List.getElem_cons_succ, List.getElem_cons_zero, List.setIfInBounds_toArray, List.set_cons_zero, List.set_cons_succ]))
        refine wpQuiet_nil ?_
        rintro _ ⟨⟨dq, osq⟩, rfl⟩
        dsimp only
        have HB9 : Hid (Below w.heap.size w (grow (redrawn W0 dq) osq)) := HB0.out.trans ((below_regrown W0 dq osq).mono HB0.out.size)
        clear cI cL cW cO cA z3 y0 y1 y5 y6 y7 hRX hRV x5
        generalize grow (redrawn W0 dq) osq = w9 at *
        go_wp2
        go_ret
        exact ⟨ret_bool' (by rw [HX.out]; simp), HB9.out⟩
      | true =>
        rw [b3] at cL HX
        cases b4 : (x.inner == -1) with
        | true =>
          rw [b4] at HX
          cases b5 : ownG tb x.prio (-1) x.own with
          | false =>
            rw [b5] at cO HX
            refine wp_region_quiet_below (by kernel_rfl) (by kernel_rfl) ?_
            repeat (first | (go_big_quiet_step (first | exact cI _ _ | exact cL _ _ | exact cO _ _)) | (refine wpQuiet_load_row9 (by kernel_rfl) 95 _ rfl w.heap.size rfl 95 _ (0, 0) _ hRX Tryz.underlying95 rfl hi67 ?_; simp only [Act.put, List.getElem_toArray, List.getElem_cons_succ, List.getElem_cons_zero, List.setIfInBounds_toArray, List.set_cons_zero, List.set_cons_succ]) | (refine wpQuiet_load_row9 (by kernel_rfl) 37 _ rfl V rfl 37 _ (0, 0) _ hRV Tryz.underlying37 rfl hi30 ?_; simp only [Act.put, List.getElem_toArray, List.getElem_cons_succ, List.getElem_cons_zero, List.setIfInBounds_toArray, List.set_cons_zero, List.set_cons_succ]))
            refine wpQuiet_nil ?_
            rintro _ ⟨⟨dq, osq⟩, rfl⟩
            dsimp only
            have HB9 : Hid (Below w.heap.size w (grow (redrawn W0 dq) osq)) := HB0.out.trans ((below_regrown W0 dq osq).mono HB0.out.size)
            clear cI cL cW cO cA z3 y0 y1 y5 y6 y7 hRX hRV x5
            generalize grow (redrawn W0 dq) osq = w9 at *
            go_wp2
            go_ret
            exact ⟨ret_bool' (by rw [HX.out]; simp), HB9.out⟩
          | true =>
            rw [b5] at cO HX
            generalize autoB tb x.auto = bb at *
            refine wp_region_quiet_below (by kernel_rfl) (by kernel_rfl) ?_
            repeat (first | (go_big_quiet_step (first | exact cI _ _ | exact cL _ _ | exact cO _ _ | exact cA _ _)) | (refine wpQuiet_load_row9 (by kernel_rfl) 95 _ rfl w.heap.size rfl 95 _ (0, 0) _ hRX Tryz.underlying95 rfl hi67 ?_; simp only [Act.put, List.getElem_toArray, List.getElem_cons_succ, List.getElem_cons_zero, List.setIfInBounds_toArray, List.set_cons_zero, List.set_cons_succ]) | (refine wpQuiet_load_row9 (by kernel_rfl) 37 _ rfl V rfl 37 _ (0, 0) _ hRV Tryz.underlying37 rfl hi30 ?_; simp only [Act.put, List.getElem_toArray, List.getElem_cons_succ, List.getElem_cons_zero, List.setIfInBounds_toArray, List.set_cons_zero, List.set_cons_succ]))
            refine wpQuiet_nil ?_
            rintro _ ⟨⟨dq, osq⟩, rfl⟩
            dsimp only
            have HB9 : Hid (Below w.heap.size w (grow (redrawn W0 dq) osq)) := HB0.out.trans ((below_regrown W0 dq osq).mono HB0.out.size)
            clear cI cL cW cO cA z3 y0 y1 y5 y6 y7 hRX hRV x5
            generalize grow (redrawn W0 dq) osq = w9 at *
            go_wp2
            go_ret
            exact ⟨ret_bool' (by rw [HX.out]; simp), HB9.out⟩
        | false =>
          rw [b4] at HX
          cases b6 : inI x.inner x.prio 127 with
          | false =>
            rw [b6] at cW HX
            refine wp_region_quiet_below (by kernel_rfl) (by kernel_rfl) ?_
            repeat (first | (go_big_quiet_step (first | exact cI _ _ | exact cL _ _ | exact cW _ _)) | (refine wpQuiet_load_row9 (by kernel_rfl) 95 _ rfl w.heap.size rfl 95 _ (0, 0) _ hRX Tryz.underlying95 rfl hi67 ?_; simp only [Act.put, List.getElem_toArray, List.getElem_cons_succ, List.getElem_cons_zero, List.setIfInBounds_toArray, List.set_cons_zero, List.set_cons_succ]) | (refine wpQuiet_load_row9 (by kernel_rfl) 37 _ rfl V rfl 37 _ (0, 0) _ hRV Tryz.underlying37 rfl hi30 ?_; simp only [Act.put, List.getElem_toArray, List.getElem_cons_succ, List.getElem_cons_zero, List.setIfInBounds_toArray, List.set_cons_zero, List.set_cons_succ]))
            refine wpQuiet_nil ?_
            rintro _ ⟨⟨dq, osq⟩, rfl⟩
            dsimp only
            have HB9 : Hid (Below w.heap.size w (grow (redrawn W0 dq) osq)) := HB0.out.trans ((below_regrown W0 dq osq).mono HB0.out.size)
            clear cI cL cW cO cA z3 y0 y1 y5 y6 y7 hRX hRV x5
            generalize grow (redrawn W0 dq) osq = w9 at *
            go_wp2
            go_ret
            exact ⟨ret_bool' (by rw [HX.out]; simp), HB9.out⟩
          | true =>
            rw [b6] at cW HX
            cases b5 : ownG tb x.prio (-1) x.own with
            | false =>
              rw [b5] at cO HX
              refine wp_region_quiet_below (by kernel_rfl) (by kernel_rfl) ?_
              repeat (first | (go_big_quiet_step (first | exact cI _ _ | exact cL _ _ | exact cW _ _ | exact cO _ _)) | (refine wpQuiet_load_row9 (by kernel_rfl) 95 _ rfl w.heap.size rfl 95 _ (0, 0) _ hRX Tryz.underlying95 rfl hi67 ?_; simp only [Act.put, List.getElem_toArray, List.getElem_cons_succ, List.getElem_cons_zero, List.setIfInBounds_toArray, List.set_cons_zero, List.set_cons_succ]) | (refine wpQuiet_load_row9 (by kernel_rfl) 37 _ rfl V rfl 37 _ (0, 0) _ hRV Tryz.underlying37 rfl hi30 ?_; simp only [Act.put, List.getElem_toArray, List.getElem_cons_succ, List.getElem_cons_zero, List.setIfInBounds_toArray, List.set_cons_zero, List.set_cons_succ]))
              refine wpQuiet_nil ?_
              rintro _ ⟨⟨dq, osq⟩, rfl⟩
              dsimp only
              have HB9 : Hid (Below w.heap.size w (grow (redrawn W0 dq) osq)) := HB0.out.trans ((below_regrown W0 dq osq).mono HB0.out.size)
              clear cI cL cW cO cA z3 y0 y1 y5 y6 y7 hRX hRV x5
              generalize grow (redrawn W0 dq) osq = w9 at *
              go_wp2
              go_ret
              exact ⟨ret_bool' (by rw [HX.out]; simp), HB9.out⟩
            | true =>
              rw [b5] at cO HX
              generalize autoB tb x.auto = bb at *
              refine wp_region_quiet_below (by kernel_rfl) (by kernel_rfl) ?_
              repeat (first | (go_big_quiet_step (first | exact cI _ _ | exact cL _ _ | exact cW _ _ | exact cO _ _ | exact cA _ _)) | (refine wpQuiet_load_row9 (by kernel_rfl) 95 _ rfl w.heap.size rfl 95 _ (0, 0) _ hRX Tryz.underlying95 rfl hi67 ?_; simp only [Act.put, List.getElem_toArray, List.getElem_cons_succ, List.getElem_cons_zero, List.setIfInBounds_toArray, List.set_cons_zero, List.set_cons_succ]) | (refine wpQuiet_load_row9 (by kernel_rfl) 37 _ rfl V rfl 37 _ (0, 0) _ hRV Tryz.underlying37 rfl hi30 ?_; simp only [Act.put, List.getElem_toArray, List.getElem_cons_succ, List.getElem_cons_zero, List.setIfInBounds_toArray, List.set_cons_zero, List.set_cons_succ]))
              refine wpQuiet_nil ?_
              rintro _ ⟨⟨dq, osq⟩, rfl⟩
              dsimp only
              have HB9 : Hid (Below w.heap.size w (grow (redrawn W0 dq) osq)) := HB0.out.trans ((below_regrown W0 dq osq).mono HB0.out.size)
              clear cI cL cW cO cA z3 y0 y1 y5 y6 y7 hRX hRV x5
              generalize grow (redrawn W0 dq) osq = w9 at *
              go_wp2
              go_ret
              exact ⟨ret_bool' (by rw [HX.out]; simp), HB9.out⟩
set_option maxRecDepth 100000 in
theorem tasksFit_any (tb : Tb) (v : Ts) (w : World) (h : TbAt w tb v) (hw : WfT tb) (hm : 1 ≤ tb.modes ∧ tb.modes ≤ 8) : Calls Tryz.prog 63 #[.agg (tbC tb v)] w fun e w' => e = .returned (.bool (tb.tasks.all (tkB tb))) ∧ Below w.heap.size w w' := by
  have hb := below_alloc w (.cells (tbC tb v) 37)
  have hV := heap_alloc_new w (.cells (tbC tb v) 37)
  have ke := every_tkr (w.alloc (.cells (tbC tb v) 37)) v.t tb.tasks (fun W hW => (h.below (hb.trans (hW.mono hb.size))).t) 92 #[.pointer (some ⟨w.heap.size, 0, none⟩)] (enters_of Tryz.func92 (by kernel_rfl) rfl) (tkB tb) (fun W hW x hx s6 hs => tasksFit1_any tb v x s6 w.heap.size W (h.below (hb.trans (hW.mono hb.size))) hs ((hW.block w.heap.size (heap_lt hV)).trans hV) (hw.t x hx).2 hm)
  have c2 := (var13 hV).2.2.1
  unfold tbC at *
  clear h hV hw hm
  generalize hR : tb.tasks.all (tkB tb) = R at *
  go_enter Tryz.func63, Tryz.ntmps63
  go_wp2_with (go_at_call 91; refine ke.mono ?_; clear ke; rintro e w' ⟨rfl, hb2⟩)
  go_ret
  exact ⟨rfl, hb.trans (hb2.mono hb.size)⟩
end Go.Proofs.YthhckhifaolmkaaGreat

namespace Go.Proofs.YthhckhifaolmkaaGreat
open Go.RowKit Go.Shelf Go.Sort
set_option linter.unusedVariables false
set_option linter.unusedSimpArgs false

/-! ### alarmsFit -/
set_option maxHeartbeats 16000000 in
set_option maxRecDepth 100000 in
theorem alarmsFit1_any (tb : Tb) (v : Ts) (x : AlR) (V : Nat) (w : World) (h : TbAt w tb v) (hV : w.heap[V]? = some (.cells (tbC tb v) 37)) (ha : x.auto < 4294967296) (hm : 1 ≤ tb.modes ∧ tb.modes ≤ 8) :
    Calls Tryz.prog 101 #[.agg (alrC x), .pointer (some ⟨V, 0, none⟩)] w fun e w' => e = .returned (.bool (alB tb x)) ∧ Below w.heap.size w w' := by
  have hb := below_alloc w (.cells (alrC x) 99)
  have hX := heap_alloc_new w (.cells (alrC x) 99)
  have hV0 : (w.alloc (.cells (alrC x) 99)).heap[V]? = some (.cells (tbC tb v) 37) := (hb.block V (heap_lt hV)).trans hV
  have hT0 := h.below hb
  have HB0 : Hid (Below w.heap.size w (w.alloc (.cells (alrC x) 99))) := hb
  have HN : Hid (v.k.n = tb.ctrs.length) := h.k.n
  have hgc : v.k.n ≤ v.k.c := h.k.c
  have hgm : v.k.c ≤ maxLen := h.k.m
  unfold maxLen at hgm
  have hi30 : (Tryz.prog.info? 37).map (·.size) = some (tbC tb v).size := by kernel_rfl
  have hi82 : (Tryz.prog.info? 99).map (·.size) = some (alrC x).size := by kernel_rfl
  obtain ⟨R, hR⟩ : ∃ R, R = alB tb x := ⟨_, rfl⟩
  rw [← hR]
  have HX : Hid (R = (idB x.ctr v.k.n && acB tb x.ac 1 3 && autoB tb x.auto && timesB x (ctOf tb x.ctr))) := by
    show _ = _
    rw [hR, HN.out]
    rfl
  clear hR h hV hb
  go_enter Tryz.func101, Tryz.ntmps101
  unfold alrC tbC at *
  go_upto_region 1 with fail
  generalize (w.alloc (.cells #[I x.ctr, I x.ac.kind, I x.ac.task, .int .u32 (x.ac.mask : Int), .int .u32 (x.auto : Int), .int .u32 (x.time : Int), .int .u32 (x.cycle : Int)] 99)) = W0 at *
  have cI : ∀ d os, Calls Tryz.prog 102 #[I x.ctr, .slice v.k.a v.k.n v.k.c] (grow (redrawn W0 d) os) fun e w'' => e = .returned (.bool (idB x.ctr v.k.n)) ∧ ∃ p : Regrown, w'' = grow (redrawn W0 p.d) p.os := regrown_bel9 (fun W hW => calls_bel9 (isID_ctrs x.ctr v.k W))
  have cF : ∀ d os, Calls Tryz.prog 103 #[.agg #[I tb.uses, I tb.modes, .slice v.t.a v.t.n v.t.c, .slice v.g.a v.g.n v.g.c, .slice v.r.a v.r.n v.r.c, .slice v.k.a v.k.n v.k.c, .slice v.a.a v.a.n v.a.c, .slice v.i.a v.i.n v.i.c, .slice v.s.a v.s.n v.s.c, I tb.depth, I tb.frames, I tb.errors, I tb.calls], .agg #[I x.ac.kind, I x.ac.task, .int .u32 (x.ac.mask : Int)], I 1, I 3] (grow (redrawn W0 d) os) fun e w'' => e = .returned (.bool (acB tb x.ac 1 3)) ∧ ∃ p : Regrown, w'' = grow (redrawn W0 p.d) p.os := regrown_bel9 (fun W hW => actionFits_any tb v x.ac 1 3 W (hT0.below hW))
  have cA : ∀ d os, Calls Tryz.prog 96 #[.agg #[I tb.uses, I tb.modes, .slice v.t.a v.t.n v.t.c, .slice v.g.a v.g.n v.g.c, .slice v.r.a v.r.n v.r.c, .slice v.k.a v.k.n v.k.c, .slice v.a.a v.a.n v.a.c, .slice v.i.a v.i.n v.i.c, .slice v.s.a v.s.n v.s.c, I tb.depth, I tb.frames, I tb.errors, I tb.calls], .int .u32 (x.auto : Int)] (grow (redrawn W0 d) os) fun e w'' => e = .returned (.bool (autoB tb x.auto)) ∧ ∃ p : Regrown, w'' = grow (redrawn W0 p.d) p.os := regrown_bel9 (fun W hW => autoFits_any tb v x.auto ha hm W)
  have z5 := cell_regrown (var13 hV0).2.2.2.2.2.1
  have x0 := cell_of_row _ w.heap.size 0 _ _ (0, 0) hX
  have x1 := cell_of_row _ w.heap.size 1 _ _ (0, 0) hX
  have x2 := cell_of_row _ w.heap.size 2 _ _ (0, 0) hX
  have x3 := cell_of_row _ w.heap.size 3 _ _ (0, 0) hX
  have x4 := cell_of_row _ w.heap.size 4 _ _ (0, 0) hX
  simp at x0 x1 x2 x3 x4
  have y0 := cell_regrown x0
  have y1 := cell_regrown x1
  have y2 := cell_regrown x2
  have y3 := cell_regrown x3
  have y4 := cell_regrown x4
  have hRX := heap_regrown9 hX
  have hRV := heap_regrown9 hV0
  clear hX hV0 x0 x1 x2 x3 x4 ha hm
  cases b1 : idB x.ctr v.k.n with
  | false =>
    rw [b1] at cI HX
    refine wp_region_quiet_below (by kernel_rfl) (by kernel_rfl) ?_
    repeat (first | (go_big_quiet_step (first | exact cI _ _)) | (refine wpQuiet_load_row9 (by kernel_rfl) 99 _ rfl w.heap.size rfl 99 _ (0, 0) _ hRX Tryz.underlying99 rfl hi82 ?_; simp only [Act.put, List.getElem_toArray, List.getElem_cons_succ, List.getElem_cons_zero, List.setIfInBounds_toArray, List.set_cons_zero, List.set_cons_succ]) | (refine wpQuiet_load_row9 (by kernel_rfl) 37 _ rfl V rfl 37 _ (0, 0) _ hRV Tryz.underlying37 rfl hi30 ?_; simp only [Act.put, List.getElem_toArray, List.getElem_cons_succ, List.getElem_cons_zero, List.setIfInBounds_toArray, List.set_cons_zero, List.set_cons_succ]))
    refine wpQuiet_nil ?_
    rintro _ ⟨⟨dq, osq⟩, rfl⟩
    dsimp only
    have HB9 : Hid (Below w.heap.size w (grow (redrawn W0 dq) osq)) := HB0.out.trans ((below_regrown W0 dq osq).mono HB0.out.size)
    clear cI cF cA z5 y0 y1 y2 y3 y4 hRX hRV
    generalize grow (redrawn W0 dq) osq = w9 at *
    go_wp2
    go_ret
    exact ⟨ret_bool' (by rw [HX.out]; simp), HB9.out⟩
  | true =>
    rw [b1] at cI HX
    cases b2 : acB tb x.ac 1 3 with
    | false =>
      rw [b2] at cF HX
      refine wp_region_quiet_below (by kernel_rfl) (by kernel_rfl) ?_
      repeat (first | (go_big_quiet_step (first | exact cI _ _ | exact cF _ _)) | (refine wpQuiet_load_row9 (by kernel_rfl) 99 _ rfl w.heap.size rfl 99 _ (0, 0) _ hRX Tryz.underlying99 rfl hi82 ?_; simp only [Act.put, List.getElem_toArray, List.getElem_cons_succ, List.getElem_cons_zero, List.setIfInBounds_toArray, List.set_cons_zero, List.set_cons_succ]) | (refine wpQuiet_load_row9 (by kernel_rfl) 37 _ rfl V rfl 37 _ (0, 0) _ hRV Tryz.underlying37 rfl hi30 ?_; simp only [Act.put, List.getElem_toArray, List.getElem_cons_succ, List.getElem_cons_zero, List.setIfInBounds_toArray, List.set_cons_zero, List.set_cons_succ]))
      refine wpQuiet_nil ?_
      rintro _ ⟨⟨dq, osq⟩, rfl⟩
      dsimp only
      have HB9 : Hid (Below w.heap.size w (grow (redrawn W0 dq) osq)) := HB0.out.trans ((below_regrown W0 dq osq).mono HB0.out.size)
      clear cI cF cA z5 y0 y1 y2 y3 y4 hRX hRV
      generalize grow (redrawn W0 dq) osq = w9 at *
      go_wp2
      go_ret
      exact ⟨ret_bool' (by rw [HX.out]; simp), HB9.out⟩
    | true =>
      rw [b2] at cF HX
      cases b3 : autoB tb x.auto with
      | false =>
        rw [b3] at cA HX
        refine wp_region_quiet_below (by kernel_rfl) (by kernel_rfl) ?_
        repeat (first | (go_big_quiet_step (first | exact cI _ _ | exact cF _ _ | exact cA _ _)) | (refine wpQuiet_load_row9 (by kernel_rfl) 99 _ rfl w.heap.size rfl 99 _ (0, 0) _ hRX Tryz.underlying99 rfl hi82 ?_; simp only [Act.put, List.getElem_toArray, List.getElem_cons_succ, List.getElem_cons_zero, List.setIfInBounds_toArray, List.set_cons_zero, List.set_cons_succ]) | (refine wpQuiet_load_row9 (by kernel_rfl) 37 _ rfl V rfl 37 _ (0, 0) _ hRV Tryz.underlying37 rfl hi30 ?_; simp only [Act.put, List.getElem_toArray, List.getElem_cons_succ, List.getElem_cons_zero, List.setIfInBounds_toArray, List.set_cons_zero, List.set_cons_succ]))
        refine wpQuiet_nil ?_
        rintro _ ⟨⟨dq, osq⟩, rfl⟩
        dsimp only
        have HB9 : Hid (Below w.heap.size w (grow (redrawn W0 dq) osq)) := HB0.out.trans ((below_regrown W0 dq osq).mono HB0.out.size)
        clear cI cF cA z5 y0 y1 y2 y3 y4 hRX hRV
        generalize grow (redrawn W0 dq) osq = w9 at *
        go_wp2
        go_ret
        exact ⟨ret_bool' (by rw [HX.out]; simp), HB9.out⟩
      | true =>
        rw [b3] at cA HX
        have hid2 : 0 ≤ x.ctr ∧ x.ctr < (v.k.n : Int) := by unfold idB at b1; simpa using b1
        obtain ⟨k, hk⟩ := Int.eq_ofNat_of_zero_le hid2.1
        obtain ⟨r, hr⟩ : ∃ r, tb.ctrs[k]? = some r := ⟨_, List.getElem?_eq_getElem (by rw [← HN.out]; omega)⟩
        obtain ⟨gr, orr, er, hgr, t0, t1, t2⟩ := ctr_at hT0 hr
        have HP : Hid (ctOf tb x.ctr = r) := by
          show _ = _
          unfold ctOf
          rw [hk, Int.toNat_natCast, hr]
        have hk1 : (k : Int) < v.k.n := by omega
        have u0 := cell_regrown t0
        have u1 := cell_regrown t1
        have u2 := cell_regrown t2
        have cT : ∀ d os, Calls Tryz.prog 104 #[.agg #[I x.ctr, I x.ac.kind, I x.ac.task, .int .u32 (x.ac.mask : Int), .int .u32 (x.auto : Int), .int .u32 (x.time : Int), .int .u32 (x.cycle : Int)], .agg #[.int .u32 (r.max : Int), .int .u32 (r.base : Int), .int .u32 (r.min : Int)]] (grow (redrawn W0 d) os) fun e w'' => e = .returned (.bool (timesB x r)) ∧ ∃ p : Regrown, w'' = grow (redrawn W0 p.d) p.os := regrown_bel9 (fun W hW => timesFit_any x r W)
        rw [HP.out] at HX
        generalize timesB x r = bb at *
        rw [er] at z5 cI
        clear hr er b1 hid2 t0 t1 t2 hT0 HP
        generalize x.ctr = xc at *
        subst hk
        refine wp_region_quiet_below (by kernel_rfl) (by kernel_rfl) ?_
        repeat (first | (go_big_quiet_step (first | exact cI _ _ | exact cF _ _ | exact cA _ _ | exact cT _ _)) | (refine wpQuiet_load_row9 (by kernel_rfl) 99 _ rfl w.heap.size rfl 99 _ (0, 0) _ hRX Tryz.underlying99 rfl hi82 ?_; simp only [Act.put, List.getElem_toArray, List.getElem_cons_succ, List.getElem_cons_zero, List.setIfInBounds_toArray, List.set_cons_zero, List.set_cons_succ]) | (refine wpQuiet_load_row9 (by kernel_rfl) 37 _ rfl V rfl 37 _ (0, 0) _ hRV Tryz.underlying37 rfl hi30 ?_; simp only [Act.put, List.getElem_toArray, List.getElem_cons_succ, List.getElem_cons_zero, List.setIfInBounds_toArray, List.set_cons_zero, List.set_cons_succ]))
        refine wpQuiet_nil ?_
        rintro _ ⟨⟨dq, osq⟩, rfl⟩
        dsimp only
        have HB9 : Hid (Below w.heap.size w (grow (redrawn W0 dq) osq)) := HB0.out.trans ((below_regrown W0 dq osq).mono HB0.out.size)
        clear cI cF cA z5 y0 y1 y2 y3 y4 hRX hRV u0 u1 u2 cT
        generalize grow (redrawn W0 dq) osq = w9 at *
        go_wp2
        go_ret
        exact ⟨ret_bool' (by rw [HX.out]; simp), HB9.out⟩
set_option maxRecDepth 100000 in
theorem alarmsFit_any (tb : Tb) (v : Ts) (w : World) (h : TbAt w tb v) (hw : WfT tb) (hm : 1 ≤ tb.modes ∧ tb.modes ≤ 8) : Calls Tryz.prog 65 #[.agg (tbC tb v)] w fun e w' => e = .returned (.bool (tb.als.all (alB tb))) ∧ Below w.heap.size w w' := by
  have hb := below_alloc w (.cells (tbC tb v) 37)
  have hV := heap_alloc_new w (.cells (tbC tb v) 37)
  have ke := every_alr (w.alloc (.cells (tbC tb v) 37)) v.a tb.als (fun W hW => (h.below (hb.trans (hW.mono hb.size))).a) 101 #[.pointer (some ⟨w.heap.size, 0, none⟩)] (enters_of Tryz.func101 (by kernel_rfl) rfl) (alB tb) (fun W hW x hx => alarmsFit1_any tb v x w.heap.size W (h.below (hb.trans (hW.mono hb.size))) ((hW.block w.heap.size (heap_lt hV)).trans hV) (hw.a x hx).2.1 hm)
  have c2 := (var13 hV).2.2.2.2.2.2.1
  unfold tbC at *
  clear h hV hw hm
  generalize hR : tb.als.all (alB tb) = R at *
  go_enter Tryz.func65, Tryz.ntmps65
  go_wp2_with (go_at_call 100; refine ke.mono ?_; clear ke; rintro e w' ⟨rfl, hb2⟩)
  go_ret
  exact ⟨rfl, hb.trans (hb2.mono hb.size)⟩
end Go.Proofs.YthhckhifaolmkaaGreat

