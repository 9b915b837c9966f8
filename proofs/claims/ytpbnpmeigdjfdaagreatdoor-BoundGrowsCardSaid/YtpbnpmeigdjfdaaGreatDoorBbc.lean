import Derived.Test.YtpbnpmeigdjfdaaGreatDoorXBbb
import Derived.Test.YtpbnpmeigdjfdaaGreatDoorXKve
import Derived.Deep.Cut
namespace Go.Proofs.YtpbnpmeigdjfdaaGreatDoor
open Go.RowKit Go.Sort
set_option linter.unusedSimpArgs false
set_option linter.unusedVariables false
set_option maxHeartbeats 16000000
set_option maxRecDepth 100000
theorem cell_at3 {w : World} {g : Nat} {cs : Array Value} {t : TypeId} (h : w.heap[g]? = some (.cells cs t (0, 0))) (i : Nat) : w.cell? ⟨g, i, none⟩ = cs[i]? := cell_of_row w g i _ _ (0, 0) h
def MeetR (c : Cf) : Prop := ∀ (t : Nat) (x : Tk), c.tasks[t]? = some x → ∀ z ∈ x.res, 0 ≤ z ∧ z < (c.ress.length : Int)
theorem sectionsFit_any (w : World) (c : Cf) (v : Vs) (h : CfAt w c v) (f : Fg) (vf : Vf) (hf : FgAt w f vf) (hm : MeetR c) (hl : f.w.length = c.tasks.length) :
  Calls Tryz.prog 27 #[.agg (cfC c v), .agg (fgC vf)] w fun e w' => Ans w (f.s.all (secB c f)) e w' := by
 have hb2 : Below w.heap.size w ((w.alloc (.cells (cfC c v) 33)).alloc (.cells (fgC vf) 37)) := ((Below.refl w.heap.size w).alloc (Nat.le_refl _) _).alloc (by simp) _
 have hV0 := heap_two0 w (.cells (cfC c v) 33) (.cells (fgC vf) 37)
 have hV1 := heap_two w (.cells (cfC c v) 33) (.cells (fgC vf) 37)
 have hi18 : (Tryz.prog.info? 33).map (·.size) = some (cfC c v).size := by rw [show (cfC c v).size = 18 from rfl]; kernel_rfl
 have hsz2 : Hid (((w.alloc (.cells (cfC c v) 33)).alloc (.cells (fgC vf) 37)).heap.size = w.heap.size + 2) := by show _ = _; simp
 have HN : Hid (v.t.n = c.tasks.length) := h.t.n
 have HSN : Hid (vf.s.n = f.s.length) := hf.s.n
 have HWN : Hid (vf.w.n = v.t.n) := by show _ = _; rw [hf.k.n, hl, h.t.n]
 have HCf : Hid (CfAt w c v) := h
 have HFg : Hid (FgAt w f vf) := hf
 have HM : Hid (MeetR c) := hm
 have HMT : Hid (∀ W, Below w.heap.size w W → ∀ (t : Nat) (x : Tk), c.tasks[t]? = some x → ∀ r, Calls Tryz.prog 43 #[.agg (cfC c v), I t, I r] W fun e w' => Ans W (takB c x.res r) e w') := fun W hW t x ht r => mayTake_any W c v (h.below hW) t x ht (hm t x ht) r
 have hcs : vf.s.n ≤ vf.s.c := hf.s.c
 have hms : vf.s.c ≤ maxLen := hf.s.m
 have hct : v.t.n ≤ v.t.c := h.t.c
 have hmt : v.t.c ≤ maxLen := h.t.m
 have hcw : vf.w.n ≤ vf.w.c := hf.k.c
 have hmw : vf.w.c ≤ maxLen := hf.k.m
 unfold maxLen at hms hmt hmw
 obtain ⟨R, hR⟩ : ∃ R, R = f.s.all (secB c f) := ⟨_, rfl⟩
 rw [← hR]
 have HR0 : Hid (R = f.s.all (secB c f)) := hR
 have HF : Hid (∀ W, Below ((w.alloc (.cells (cfC c v) 33)).alloc (.cells (fgC vf) 37)).heap.size ((w.alloc (.cells (cfC c v) 33)).alloc (.cells (fgC vf) 37)) W → W.heap[w.heap.size]? = some (.cells (cfC c v) 33 (0, 0)) ∧ W.cell? ⟨w.heap.size, 11, none⟩ = some (.slice v.t.a v.t.n v.t.c) ∧ W.cell? ⟨w.heap.size + 1, 0, none⟩ = some (.slice vf.w.a vf.w.n vf.w.c) ∧ W.cell? ⟨w.heap.size + 1, 4, none⟩ = some (.slice vf.s.a vf.s.n vf.s.c) ∧ Below w.heap.size w W) := fun W hW => by
  have q0 := (hW.block w.heap.size (by rw [hsz2.out]; omega)).trans hV0
  have q1 := (hW.block (w.heap.size + 1) (by rw [hsz2.out]; omega)).trans hV1
  exact ⟨q0, cell_at3 q0 11, cell_at3 q1 0, cell_at3 q1 4, hb2.trans (hW.mono hb2.size)⟩
 generalize hCC : cfC c v = C at *
 unfold fgC at *
 clear h hf hm hR hl hb2 hV0 hV1
 go_enter Tryz.func27, Tryz.ntmps27
 go_upto_region 1 with fail
 generalize (w.alloc (.cells C 33)).alloc (.cells #[.slice vf.w.a vf.w.n vf.w.c, .slice vf.p.a vf.p.n vf.p.c, .slice vf.i.a vf.i.n vf.i.c, .slice vf.e.a vf.e.n vf.e.c, .slice vf.s.a vf.s.n vf.s.c] 37) = W2 at *
 obtain ⟨_, _, _, z4, _⟩ := HF.out W2 (Below.refl _ _)
 go_wp2
 clear z4
 go_loopw [6, 10] (fun _ iv wr => ∃ j : Nat, j ≤ vf.s.n ∧ iv = .int .i64 j ∧ Hid (Below W2.heap.size W2 wr ∧ R = (f.s.drop j).all (secB c f))) (fun _ iv _ => vf.s.n - (intOf iv).toNat)
 case atStart => exact ⟨0, by omega, rfl, Below.refl _ _, HR0.out⟩
 case round =>
  obtain ⟨j, hj, rfl, HJ⟩ := hrel
  by_cases hlt : j < vf.s.n
  ·have hlt' : (j : Int) < vf.s.n := by omega
   have hjl : j < f.s.length := by rw [← HSN.out]; exact hlt
   obtain ⟨x, hx⟩ : ∃ x, f.s[j]? = some x := ⟨_, List.getElem?_eq_getElem hjl⟩
   obtain ⟨_, _, _, _, hbw⟩ := HF.out _ HJ.out.1
   obtain ⟨g, off, e, hg, a0, a1, a2⟩ := sc_at (HFg.out.s.belowS hbw) hx
   have hng : g ≠ wr.heap.size := Nat.ne_of_lt hg
   have HE : Hid (R = (secB c f x && (f.s.drop (j + 1)).all (secB c f))) := by
    show _ = _
    rw [HJ.out.2, List.drop_eq_getElem_cons hjl, List.all_cons]
    rw [List.getElem?_eq_getElem hjl] at hx
    rw [Option.some.inj hx]
   have hal := below_alloc wr (.cells #[I x.task, I x.res, U x.len] 84)
   have H3 : Hid (Below W2.heap.size W2 (wr.alloc (.cells #[I x.task, I x.res, U x.len] 84)) ∧ (wr.alloc (.cells #[I x.task, I x.res, U x.len] 84)).heap[wr.heap.size]? = some (.cells #[I x.task, I x.res, U x.len] 84 (0, 0))) := ⟨HJ.out.1.trans (hal.mono HJ.out.1.size), heap_alloc_new _ _⟩
   rw [e]
   clear hx hjl HJ hal hbw e
   go_upto_region 4 with fail
   clear a0 a1 a2 hng hg
   generalize wr.alloc (.cells #[I x.task, I x.res, U x.len] 84) = w3 at *
   generalize wr.heap.size = T at *
   obtain ⟨hb3, hT⟩ := H3.out
   have HB3 : Hid (Below W2.heap.size W2 w3) := hb3
   obtain ⟨hVr, y11, y0, _, hbw⟩ := HF.out _ hb3
   have b0 := cell_at3 hT 0
   have b1 := cell_at3 hT 1
   have b2 := cell_at3 hT 2
   simp at b0 b1 b2
   have r0 := cell_regrown b0
   have r1 := cell_regrown b1
   have r2 := cell_regrown b2
   have r11 := cell_regrown y11
   have rw0 := cell_regrown y0
   have hRV := heap_regrown hVr
   have HB9 : Hid (∀ W, Below w3.heap.size w3 W → Below W2.heap.size W2 W ∧ Below w.heap.size w W) := fun W hW => ⟨hb3.trans (hW.mono hb3.size), hbw.trans (hW.mono hbw.size)⟩
   have HX : Hid (secB c f x = (decide (0 ≤ x.task) && (match c.tasks[x.task.toNat]? with | some t => takB c t.res x.res | none => false) && (match f.w[x.task.toNat]? with | some n => decide (x.len ≤ n) | none => false))) := rfl
   by_cases g1 : x.task < 0
   ·have d1 : decide (x.task < 0) = true := decide_eq_true g1
    have HE2 : Hid (R = false) := by show _ = _; rw [HE.out, HX.out, show decide (0 ≤ x.task) = false from decide_eq_false (by omega)]; rfl
    clear HE HX g1 H3 hT hb3 hbw hVr y11 y0 b0 b1 b2
    refine wp_region_quiet_below (by kernel_rfl) (by kernel_rfl) ?_
    repeat (go_big_quiet_step (fail))
    refine wpQuiet_nil ?_
    rintro _ ⟨⟨dq, osq⟩, rfl⟩
    dsimp only
    have HB4 := (HB9.out _ (below_regrown w3 dq osq)).2
    clear r0 r1 r2 r11 rw0 hRV
    generalize grow (redrawn w3 dq) osq = w4 at *
    go_wp2
    go_ret
    exact ⟨ret_bool HE2.out.symm, HB4⟩
   ·by_cases g2 : (v.t.n : Int) ≤ x.task
    ·have d1 : decide (x.task < 0) = false := decide_eq_false g1
     have d2 : decide ((v.t.n : Int) ≤ x.task) = true := decide_eq_true g2
     have HE2 : Hid (R = false) := by
      show _ = _
      rw [HE.out, HX.out, List.getElem?_eq_none (by have := HN.out; omega)]
      simp
     clear HE HX g1 g2 H3 hT hb3 hbw hVr y11 y0 b0 b1 b2
     refine wp_region_quiet_below (by kernel_rfl) (by kernel_rfl) ?_
     repeat (go_big_quiet_step (fail))
     refine wpQuiet_nil ?_
     rintro _ ⟨⟨dq, osq⟩, rfl⟩
     dsimp only
     have HB4 := (HB9.out _ (below_regrown w3 dq osq)).2
     clear r0 r1 r2 r11 rw0 hRV
     generalize grow (redrawn w3 dq) osq = w4 at *
     go_wp2
     go_ret
     exact ⟨ret_bool HE2.out.symm, HB4⟩
    ·obtain ⟨q, hq⟩ := Int.eq_ofNat_of_zero_le (show 0 ≤ x.task by omega)
     have hqn : q < v.t.n := by omega
     obtain ⟨y, hy⟩ : ∃ y, c.tasks[q]? = some y := ⟨_, List.getElem?_eq_getElem (by rw [← HN.out]; exact hqn)⟩
     obtain ⟨wk, hwk⟩ : ∃ wk, f.w[q]? = some wk := ⟨_, List.getElem?_eq_getElem (by have := HFg.out.k.n; have := HWN.out; omega)⟩
     obtain ⟨g5, o5, e5, hg5, d5⟩ := nat_at (HFg.out.k.belowS hbw) hwk
     have HX2 : Hid (secB c f x = (takB c y.res x.res && decide (x.len ≤ wk))) := by
      show _ = _
      rw [HX.out, hq]
      simp only [Int.toNat_natCast]
      rw [hy, hwk, decide_eq_true (by omega : (0 : Int) ≤ (q : Int))]
      simp
     have hqv : (q : Int) < vf.w.n := by have := HWN.out; omega
     have d1 : decide (((q : Nat) : Int) < 0) = false := decide_eq_false (by omega)
     have d2 : decide ((v.t.n : Int) ≤ (q : Int)) = false := decide_eq_false (by omega)
     have d2n : decide (v.t.n ≤ q) = false := decide_eq_false (by omega)
     have cM : ∀ d os, Calls Tryz.prog 43 #[.agg C, I (q : Int), I x.res] (grow (redrawn w3 d) os) fun e w'' => e = .returned (.bool (takB c y.res x.res)) ∧ ∃ p : Regrown, w'' = grow (redrawn w3 p.d) p.os := fun d os => Calls.regrown_of (HMT.out _ (hbw.trans ((below_regrown _ d os).mono hbw.size)) q y hy x.res)
     have rd5 := cell_regrown d5
     rw [hq] at r0 b0
     rw [e5] at rw0
     clear HX g1 g2 H3 hT hb3 hbw hVr y11 y0 b0 b1 b2 hy hwk e5 d5
     generalize takB c y.res x.res = tk at *
     cases tk with
     | false =>
      have HE2 : Hid (R = false) := by show _ = _; rw [HE.out, HX2.out]; rfl
      clear HE HX2
      refine wp_region_quiet_below (by kernel_rfl) (by kernel_rfl) ?_
      repeat (first | (go_big_quiet_step (first | exact cM _ _)) | (refine wpQuiet_load_row (by kernel_rfl) 33 _ rfl w.heap.size rfl 33 _ (0, 0) _ hRV Tryz.underlying33 rfl hi18 ?_; simp only [Act.put, q7a, q7b, q7c, q7d, q7e, q7f]))
      refine wpQuiet_nil ?_
      rintro _ ⟨⟨dq, osq⟩, rfl⟩
      dsimp only
      have HB4 := (HB9.out _ (below_regrown w3 dq osq)).2
      clear r0 r1 r2 r11 rw0 hRV rd5 cM
      generalize grow (redrawn w3 dq) osq = w4 at *
      go_wp2
      go_ret
      exact ⟨ret_bool HE2.out.symm, HB4⟩
     | true =>
      by_cases g3 : wk < x.len
      ·have d3 : decide (wk < x.len) = true := decide_eq_true (by omega)
       have HE2 : Hid (R = false) := by show _ = _; rw [HE.out, HX2.out, show decide (x.len ≤ wk) = false from decide_eq_false (by omega)]; rfl
       clear HE HX2 g3
       refine wp_region_quiet_below (by kernel_rfl) (by kernel_rfl) ?_
       repeat (first | (go_big_quiet_step (first | exact cM _ _)) | (refine wpQuiet_load_row (by kernel_rfl) 33 _ rfl w.heap.size rfl 33 _ (0, 0) _ hRV Tryz.underlying33 rfl hi18 ?_; simp only [Act.put, q7a, q7b, q7c, q7d, q7e, q7f]))
       refine wpQuiet_nil ?_
       rintro _ ⟨⟨dq, osq⟩, rfl⟩
       dsimp only
       have HB4 := (HB9.out _ (below_regrown w3 dq osq)).2
       clear r0 r1 r2 r11 rw0 hRV rd5 cM
       generalize grow (redrawn w3 dq) osq = w4 at *
       go_wp2
       go_ret
       exact ⟨ret_bool HE2.out.symm, HB4⟩
      ·have d3 : decide (wk < x.len) = false := decide_eq_false (by omega)
       have HE2 : Hid (R = (f.s.drop (j + 1)).all (secB c f)) := by show _ = _; rw [HE.out, HX2.out, show decide (x.len ≤ wk) = true from decide_eq_true (by omega)]; rfl
       clear HE HX2 g3
       refine wp_region_quiet_below (by kernel_rfl) (by kernel_rfl) ?_
       repeat (first | (go_big_quiet_step (first | exact cM _ _)) | (refine wpQuiet_load_row (by kernel_rfl) 33 _ rfl w.heap.size rfl 33 _ (0, 0) _ hRV Tryz.underlying33 rfl hi18 ?_; simp only [Act.put, q7a, q7b, q7c, q7d, q7e, q7f]))
       refine wpQuiet_nil ?_
       rintro _ ⟨⟨dq, osq⟩, rfl⟩
       dsimp only
       have HB4 : Hid _ := (HB9.out _ (below_regrown w3 dq osq)).1
       clear r0 r1 r2 r11 rw0 hRV rd5 cM
       generalize grow (redrawn w3 dq) osq = w4 at *
       go_wp2
       go_roundw
       case rel => exact ⟨j + 1, by omega, by go_num, HB4.out, HE2.out⟩
       case measure => simp [intOf]; omega
  ·obtain rfl : j = vf.s.n := by omega
   have hlt' : ¬ ((vf.s.n : Nat) : Int) < (vf.s.n : Nat) := by omega
   have HE2 : Hid (R = true) := by show _ = _; rw [HJ.out.2, List.drop_eq_nil_of_le (by rw [← HSN.out]; exact Nat.le_refl _)]; rfl
   have HB4 : Hid (Below w.heap.size w wr) := (HF.out _ HJ.out.1).2.2.2.2
   go_wp2
   go_ret
   exact ⟨ret_bool HE2.out.symm, HB4.out⟩
end Go.Proofs.YtpbnpmeigdjfdaaGreatDoor
