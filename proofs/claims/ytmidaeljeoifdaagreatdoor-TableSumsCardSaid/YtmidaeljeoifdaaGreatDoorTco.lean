import Derived.Test.YtmidaeljeoifdaaGreatDoorTcn
namespace Go.Proofs.YtmidaeljeoifdaaGreatDoor
set_option maxRecDepth 100000
set_option maxHeartbeats 16000000
open Go.RowKit Go.Shelf Go.Sort
set_option linter.unusedVariables false
set_option linter.unusedSimpArgs false
theorem senderFits_any (tb : Tb) (v : Ts) (x : MsR) (w : World) (h : TbAt w tb v) (hx : x.init < 18446744073709551616) (hf : tb.msgs.all fldB = true) :
  Calls Tryz.prog 72 #[.agg (tbC tb v), .agg (msrC x)] w fun e w' => e = .returned (.bool (sndB tb x)) ∧ Below w.heap.size w w' := by
 have hb : Below w.heap.size w ((w.alloc (.cells (tbC tb v) 30)).alloc (.cells (msrC x) 99)) := (below_alloc w _).trans ((below_alloc _ _).mono (by simp))
 have hV0 : ((w.alloc (.cells (tbC tb v) 30)).alloc (.cells (msrC x) 99)).heap[w.heap.size]? = some (.cells (tbC tb v) 30) := by
  rw [heap_alloc_old _ _ (by simp)]; exact heap_alloc_new w _
 have hX : ((w.alloc (.cells (tbC tb v) 30)).alloc (.cells (msrC x) 99)).heap[w.heap.size + 1]? = some (.cells (msrC x) 99) := by
  have := heap_alloc_new (w.alloc (.cells (tbC tb v) 30)) (.cells (msrC x) 99)
  rw [World.size_alloc] at this
  exact this
 have hT0 := h.below hb
 have HB0 : Hid (Below w.heap.size w ((w.alloc (.cells (tbC tb v) 30)).alloc (.cells (msrC x) 99))) := hb
 have HN : Hid (v.s.n = tb.msgs.length) := h.s.n
 have hgc : v.s.n ≤ v.s.c := h.s.c
 have hgm : v.s.c ≤ maxLen := h.s.m
 unfold maxLen at hgm
 obtain ⟨R, hR⟩ : ∃ R, R = sndB tb x := ⟨_, rfl⟩
 rw [← hR]
 have HX : Hid (R = (idB x.frm v.s.n && ((msOf tb x.frm).kind == 1) && decide (x.init < 2 ^ (8 * (msOf tb x.frm).len.toNat)))) := by
  show _ = _
  rw [hR, HN.out]
  rfl
 have kI := fun W => isID_msgs x.frm v.s W
 clear hR h hb
 go_enter Tryz.func72, Tryz.ntmps72
 unfold tbC msrC at *
 go_upto_region 1 with fail
 generalize ((w.alloc (.cells #[I tb.uses, I tb.modes, .slice v.t.a v.t.n v.t.c, .slice v.g.a v.g.n v.g.c, .slice v.r.a v.r.n v.r.c, .slice v.k.a v.k.n v.k.c, .slice v.a.a v.a.n v.a.c, .slice v.i.a v.i.n v.i.c, .slice v.s.a v.s.n v.s.c, I tb.depth, I tb.frames, I tb.errors, I tb.calls] 30)).alloc (.cells #[I x.kind, I x.len, I x.frm, .int .u64 (x.init : Int), I x.queue, I x.ac.kind, I x.ac.task, .int .u32 (x.ac.mask : Int)] 99)) = W0 at *
 have z8 := (var13 hV0).2.2.2.2.2.2.2.2.1
 have x2 := cell_of_row _ (w.heap.size + 1) 2 _ _ (0, 0) hX
 have x3 := cell_of_row _ (w.heap.size + 1) 3 _ _ (0, 0) hX
 simp at x2 x3
 clear hX hV0
 cases b1 : idB x.frm v.s.n with
 | false =>
  rw [b1] at HX
  go_wp2_with (first | (go_at_call 111; refine (kI _).mono ?_; clear kI; rw [b1]; rintro e w' ⟨rfl, rfl⟩))
  go_ret
  exact ⟨ret_bool' (by rw [HX.out]; simp), HB0.out⟩
 | true =>
  rw [b1] at HX
  have hid2 : 0 ≤ x.frm ∧ x.frm < (v.s.n : Int) := by unfold idB at b1; simpa using b1
  obtain ⟨k, hk⟩ := Int.eq_ofNat_of_zero_le hid2.1
  obtain ⟨r, hr⟩ : ∃ r, tb.msgs[k]? = some r := ⟨_, List.getElem?_eq_getElem (by rw [← HN.out]; omega)⟩
  obtain ⟨gr, orr, er, hgr, t0, t1, t2, t3, t4, t5, t6, t7⟩ := msr_at hT0 hr
  have HP : Hid (msOf tb x.frm = r) := by
   show _ = _
   unfold msOf
   rw [hk, Int.toNat_natCast, hr]
  have hfr := List.all_eq_true.1 hf r (List.mem_of_getElem? hr)
  have hk1 : (k : Int) < v.s.n := by omega
  have kJ : ∀ W, Calls Tryz.prog 111 #[I k, .slice (some ⟨gr, orr, none⟩) v.s.n v.s.c] W fun e w' => e = .returned (.bool true) ∧ w' = W := fun W => by
   have := kI W
   rw [b1, hk, er] at this
   exact this
  rw [HP.out] at HX
  rw [hk] at x2
  rw [er] at z8
  clear kI hr er b1 hid2 t2 t3 t4 t5 t6 t7 hT0 hf hk
  cases b2 : (r.kind == 1) with
  | false =>
   rw [b2] at HX
   go_wp2_with (first | (go_at_call 111; refine (kJ _).mono ?_; clear kJ; rintro e w' ⟨rfl, rfl⟩))
   go_ret
   exact ⟨ret_bool' (by rw [HX.out]; simp), HB0.out⟩
  | true =>
   rw [b2] at HX
   have hlen : r.len = 1 ∨ r.len = 2 ∨ r.len = 4 ∨ r.len = 8 := by
    unfold fldB at hfr
    rw [if_pos (by simpa using b2)] at hfr
    simp at hfr
    omega
   clear hfr
   rcases hlen with e | e | e | e
   all_goals
    rw [e] at t1 HX
    go_wp2_with (first | (go_at_call 111; refine (kJ _).mono ?_; clear kJ; rintro e w' ⟨rfl, rfl⟩))
    go_region
    all_goals
     go_wp2
     go_ret
     exact ⟨ret_bool' (by rw [HX.out, Bool.eq_iff_iff]; simp; omega), HB0.out.drew⟩
theorem messagesFit1_any (tb : Tb) (v : Ts) (x : MsR) (V : Nat) (w : World) (h : TbAt w tb v) (hV : w.heap[V]? = some (.cells (tbC tb v) 30)) (hx : x.init < 18446744073709551616) (hf : tb.msgs.all fldB = true) :
  Calls Tryz.prog 71 #[.agg (msrC x), .pointer (some ⟨V, 0, none⟩)] w fun e w' => e = .returned (.bool (msB tb x)) ∧ Below w.heap.size w w' := by
 have hb := below_alloc w (.cells (msrC x) 99)
 have hX := heap_alloc_new w (.cells (msrC x) 99)
 have hV0 : (w.alloc (.cells (msrC x) 99)).heap[V]? = some (.cells (tbC tb v) 30) := (hb.block V (heap_lt hV)).trans hV
 have hT0 := h.below hb
 have HB0 : Hid (Below w.heap.size w (w.alloc (.cells (msrC x) 99))) := hb
 have hi30 : (Tryz.prog.info? 30).map (·.size) = some (tbC tb v).size := by kernel_rfl
 have hi97 : (Tryz.prog.info? 99).map (·.size) = some (msrC x).size := by kernel_rfl
 have k0 := fun W hW => actionFits_any tb v x.ac 0 0 W (hT0.below hW)
 have k4 := fun W hW => actionFits_any tb v x.ac 0 4 W (hT0.below hW)
 have kS := senderFits_any tb v x (w.alloc (.cells (msrC x) 99)) hT0 hx hf
 obtain ⟨R, hR⟩ : ∃ R, R = msB tb x := ⟨_, rfl⟩
 rw [← hR]
 unfold msB at hR
 clear h hV hb hx hf hT0
 go_enter Tryz.func71, Tryz.ntmps71
 unfold tbC msrC acrC at *
 go_upto_region 1 with fail
 generalize (w.alloc (.cells #[I x.kind, I x.len, I x.frm, .int .u64 (x.init : Int), I x.queue, I x.ac.kind, I x.ac.task, .int .u32 (x.ac.mask : Int)] 99)) = W0 at *
 have HV : Hid (∀ W, Below W0.heap.size W0 W → W.heap[V]? = some (.cells #[I tb.uses, I tb.modes, .slice v.t.a v.t.n v.t.c, .slice v.g.a v.g.n v.g.c, .slice v.r.a v.r.n v.r.c, .slice v.k.a v.k.n v.k.c, .slice v.a.a v.a.n v.a.c, .slice v.i.a v.i.n v.i.c, .slice v.s.a v.s.n v.s.c, I tb.depth, I tb.frames, I tb.errors, I tb.calls] 30)) := fun W hW => (hW.block V (heap_lt hV0)).trans hV0
 have HXX : Hid (∀ W, Below W0.heap.size W0 W → W.heap[w.heap.size]? = some (.cells #[I x.kind, I x.len, I x.frm, .int .u64 (x.init : Int), I x.queue, I x.ac.kind, I x.ac.task, .int .u32 (x.ac.mask : Int)] 99)) := fun W hW => (hW.block w.heap.size (heap_lt hX)).trans hX
 have y0 := cell_of_row _ w.heap.size 0 _ _ (0, 0) hX
 have y5 := cell_of_row _ w.heap.size 5 _ _ (0, 0) hX
 have y6 := cell_of_row _ w.heap.size 6 _ _ (0, 0) hX
 have y7 := cell_of_row _ w.heap.size 7 _ _ (0, 0) hX
 simp at y0 y5 y6 y7
 have kA0 := k0 W0 (Below.refl _ _)
 clear k0
 by_cases b1 : x.kind = 1
 ·have b1' : (x.kind == 1) = true := by simpa using b1
  rw [if_pos b1] at hR
  have HX : Hid (R = acB tb x.ac 0 0) := hR
  clear hR b1 kS k4
  go_wp2_with (first
   | (refine wpList_load_row rfl 30 _ rfl V rfl 30 _ (0, 0) _ hV0 Tryz.underlying30 rfl hi30 ?_)
   | (go_at_call 63; refine kA0.mono ?_; clear kA0; rintro e w' ⟨rfl, hb2⟩))
  go_ret
  exact ⟨ret_bool' HX.out.symm, HB0.out.trans (hb2.mono HB0.out.size)⟩
 ·have b1' : (x.kind == 1) = false := by simpa using b1
  rw [if_neg b1] at hR
  have HX : Hid (R = (sndB tb x && acB tb x.ac 0 4)) := hR
  clear hR b1 kA0
  cases b2 : sndB tb x with
  | false =>
   rw [b2] at kS HX
   go_wp2_with (first
   | (refine wpList_load_row rfl 30 _ rfl V rfl 30 _ (0, 0) _ hV0 Tryz.underlying30 rfl hi30 ?_)
   | (refine wpList_load_row rfl 99 _ rfl w.heap.size rfl 99 _ (0, 0) _ hX Tryz.underlying99 rfl hi97 ?_)
   | (go_at_call 72; refine kS.mono ?_; clear kS; rintro e w2 ⟨rfl, hb2⟩))
   go_ret
   exact ⟨ret_bool' (by rw [HX.out]; simp), HB0.out.trans (hb2.mono HB0.out.size)⟩
  | true =>
   rw [b2] at kS HX
   go_wp2_with (first
   | (refine wpList_load_row rfl 30 _ rfl V rfl 30 _ (0, 0) _ hV0 Tryz.underlying30 rfl hi30 ?_)
   | (refine wpList_load_row rfl 99 _ rfl w.heap.size rfl 99 _ (0, 0) _ hX Tryz.underlying99 rfl hi97 ?_)
   | (go_at_call 72; refine kS.mono ?_; clear kS y0 y5 y6 y7; rintro e w2 ⟨rfl, hb2⟩; obtain ⟨d0, d1, d2, d3, d4, d5, d6, d7, d8, d9, d10, d11, d12⟩ := var13 (HV.out w2 hb2); have hX2 := HXX.out w2 hb2; have f5 := cell_of_row _ w.heap.size 5 _ _ (0, 0) hX2; have f6 := cell_of_row _ w.heap.size 6 _ _ (0, 0) hX2; have f7 := cell_of_row _ w.heap.size 7 _ _ (0, 0) hX2; simp at f5 f6 f7; have kA := k4 w2 hb2; clear hX2 k4)
   | (go_at_call 63; refine kA.mono ?_; clear kA; rintro e w3 ⟨rfl, hb3⟩))
   go_ret
   exact ⟨ret_bool' (by rw [HX.out]; simp), HB0.out.trans ((hb2.trans (hb3.mono hb2.size)).mono HB0.out.size)⟩
theorem messagesFit_any (tb : Tb) (v : Ts) (w : World) (h : TbAt w tb v) (hw : WfT tb) : Calls Tryz.prog 24 #[.agg (tbC tb v)] w fun e w' => e = .returned (.bool (tb.msgs.all fldB && tb.msgs.all (msB tb))) ∧ Below w.heap.size w w' := by
 have hb := below_alloc w (.cells (tbC tb v) 30)
 have hV := heap_alloc_new w (.cells (tbC tb v) 30)
 have k1 := every_msr (w.alloc (.cells (tbC tb v) 30)) v.s tb.msgs (fun W hW => (h.below (hb.trans (hW.mono hb.size))).s) 70 #[] (enters_of Tryz.func70 (by kernel_rfl) rfl) fldB (fun W hW x hx => fieldsFit_any x W)
 have k2 : tb.msgs.all fldB = true → ∀ W2, Below (w.alloc (.cells (tbC tb v) 30)).heap.size (w.alloc (.cells (tbC tb v) 30)) W2 → Calls Tryz.prog 69 #[.slice v.s.a v.s.n v.s.c, .func (.func 71) #[] #[.pointer (some ⟨w.heap.size, 0, none⟩)]] W2 fun e w' => e = .returned (.bool (tb.msgs.all (msB tb))) ∧ Below W2.heap.size W2 w' := fun hf W2 hW2 =>
  every_msr W2 v.s tb.msgs (fun W hW => (h.below (hb.trans ((hW2.trans (hW.mono hW2.size)).mono hb.size))).s) 71 #[.pointer (some ⟨w.heap.size, 0, none⟩)] (enters_of Tryz.func71 (by kernel_rfl) rfl) (msB tb) (fun W hW x hx => messagesFit1_any tb v x w.heap.size W (h.below (hb.trans ((hW2.trans (hW.mono hW2.size)).mono hb.size))) (((hW2.trans (hW.mono hW2.size)).block w.heap.size (heap_lt hV)).trans hV) (hw.s x hx).1 hf)
 have c8 := (var13 hV).2.2.2.2.2.2.2.2.1
 have HV8 : Hid (∀ W, Below (w.alloc (.cells (tbC tb v) 30)).heap.size (w.alloc (.cells (tbC tb v) 30)) W → W.cell? ⟨w.heap.size, 8, none⟩ = some (.slice v.s.a v.s.n v.s.c)) := fun W hW => (var13 ((hW.block w.heap.size (heap_lt hV)).trans hV)).2.2.2.2.2.2.2.2.1
 unfold tbC at *
 clear h hV hw
 generalize hR1 : tb.msgs.all fldB = R1 at *
 generalize hR2 : tb.msgs.all (msB tb) = R2 at *
 go_enter Tryz.func24, Tryz.ntmps24
 go_upto_region 1 with fail
 generalize (w.alloc (.cells #[I tb.uses, I tb.modes, .slice v.t.a v.t.n v.t.c, .slice v.g.a v.g.n v.g.c, .slice v.r.a v.r.n v.r.c, .slice v.k.a v.k.n v.k.c, .slice v.a.a v.a.n v.a.c, .slice v.i.a v.i.n v.i.c, .slice v.s.a v.s.n v.s.c, I tb.depth, I tb.frames, I tb.errors, I tb.calls] 30)) = W0 at *
 cases R1
 ·go_wp2_with (first | (go_at_call 69; refine k1.mono ?_; clear k1; rintro e w2 ⟨rfl, hb2⟩))
  go_ret
  exact ⟨rfl, hb.trans (hb2.mono hb.size)⟩
 ·go_wp2_with (first
   | (go_at_call 69; refine k1.mono ?_; clear k1; rintro e w2 ⟨rfl, hb2⟩; have q8 := HV8.out w2 hb2; have kg := k2 rfl w2 hb2; clear k2)
   | (go_at_call 69; refine kg.mono ?_; clear kg; rintro e w3 ⟨rfl, hb3⟩))
  go_ret
  exact ⟨ret_bool' (by simp), hb.trans ((hb2.trans (hb3.mono hb2.size)).mono hb.size)⟩
end Go.Proofs.YtmidaeljeoifdaaGreatDoor
