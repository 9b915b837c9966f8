import Derived.Test.YtglnfifdjlgbcaaGreatDoorXJj
import Derived.Test.YtglnfifdjlgbcaaGreatDoorQs
namespace Go.Proofs.YtglnfifdjlgbcaaGreatDoor
open Go.RowKit Go.Maps Go.Shelf Go.Sort
open Go.Proofs.YtglnfifdjlgbcaaGreatDoor.St (Fx Fz iQ iP iV)
set_option linter.unusedVariables false
set_option linter.unusedSimpArgs false
set_option maxRecDepth 100000
set_option maxHeartbeats 8000000
def offC (s : Cs) : Cs := { s with lv := 0, ak := 0 }
section
variable {W w w' : World} {zn : Nat → Nat} {tb : Tb} {p : Pl} {s : Cs}
theorem Co.off (h : Co W w zn tb p s) : Co W ((w.setCell ⟨p.C, 7, none⟩ (I 0)).setCell ⟨p.C, 8, none⟩ (U 0)) zn tb p (offC s) ∧ Fz (Zn zn) w ((w.setCell ⟨p.C, 7, none⟩ (I 0)).setCell ⟨p.C, 8, none⟩ (U 0)) := by
  obtain ⟨h1, f1⟩ := h.setLv 0
  obtain ⟨h2, f2⟩ := h1.setAk 0
  exact ⟨h2, f1.trans f2⟩
theorem cCarry_no (h : Co W w zn tb p s) (h0 : s.lv = 0) : Calls Tryz.prog 13 #[lp p.C] w fun e w' => e = .returned (.tuple #[I (-1), I 201]) ∧ Below w.heap.size w w' := by
  obtain ⟨-, -, -, -, -, -, -, c7, -⟩ := h.cells
  have hN := cNone h
  rw [h0] at c7
  have hO : ∀ W', Below w.heap.size w W' → Calls Tryz.prog 47 #[] W' fun e w' => ∃ m, e = .returned (.map (some m)) ∧ (Instr.lookup 114 (.map (some m)) (.int .i64 0) true).run Tryz.prog w' = .ok (.tuple #[.nilFunc, .bool false]) w' ∧ w'.cell? ⟨p.C, 7, none⟩ = some (I 0) ∧ Below w.heap.size w w' := fun W' hb => (outcomes_any W').mono (by
    rintro e w' ⟨rfl, rfl⟩
    have hbb := below_alloc W' (.map (enF 0 outs).toArray 5)
    have hc := ((h.below hb).below hbb).cells.2.2.2.2.2.2.2.1
    rw [h0] at hc
    exact ⟨_, rfl, get_none _ _ _ 5 (heap_alloc_new W' _) 0 (by rfl), hc, hb.trans (hbb.mono hb.size)⟩)
  clear h h0
  go_enter Tryz.func13, Tryz.ntmps13
  go_upto_region 3 with (first | (go_at_call 38; refine hN.mono ?_; clear hN; rintro e w2 ⟨rfl, rfl⟩))
  go_region_held_law (fun W' => W'.cell? ⟨p.C, 7, none⟩ = some (I 0)) (first | exact c7 | exact d3 | (go_keep; done)) (first
    | (go_at_call 47; refine (hO _ (by first | exact (Below.refl _ _).drew | exact Below.refl _ _ | exact (Below.refl _ _).drew.drew)).mono ?_; rintro e w3 ⟨m, rfl, g3, d3, b3⟩))
  have HB : Hid (Below w.heap.size w w3) := b3
  clear d3 g3 b3 c7 hO
  go_wp2
  go_ret2
  exact ⟨rfl, HB.out⟩
theorem cCarry_1 (h : Co W w zn tb p s) (h0 : s.lv = 1) (hr : Tk.runI s.ss ≠ -1) : Calls Tryz.prog 13 #[lp p.C] w fun e w' => e = .returned (.tuple #[I (Tk.runI s.ss), I 0]) ∧ Co W w' zn tb p (offC (endC tb s (Tk.runI s.ss))) ∧ Fz (Zn zn) w w' := by
  obtain ⟨-, -, -, -, -, -, -, c7, -⟩ := h.cells
  have hN := cNone h
  rw [h0] at c7
  have hO : ∀ W', Below w.heap.size w W' → Calls Tryz.prog 47 #[] W' fun e w' => ∃ m, e = .returned (.map (some m)) ∧ (Instr.lookup 114 (.map (some m)) (.int .i64 1) true).run Tryz.prog w' = .ok (.tuple #[fnV 124, .bool true]) w' ∧ w'.cell? ⟨p.C, 7, none⟩ = some (I 1) ∧ Below w.heap.size w w' := fun W' hb => (outcomes_any W').mono (by
    rintro e w' ⟨rfl, rfl⟩
    have hbb := below_alloc W' (.map (enF 0 outs).toArray 5)
    have hc := ((h.below hb).below hbb).cells.2.2.2.2.2.2.2.1
    rw [h0] at hc
    exact ⟨_, rfl, get_out _ _ _ 5 (heap_alloc_new W' _) 1 0 _ (by rfl), hc, hb.trans (hbb.mono hb.size)⟩)
  obtain ⟨kt, nt, x, hk, hx, -, -⟩ := h.runs hr
  have ht : (tkO (kt : Int)).wf := h.wfN (x := (kt : Int)) (by have := (List.getElem?_eq_some_iff.1 hx).1; omega)
  have H : Hid (Co W w zn tb p s) := h
  have HX : Hid (tb.tasks[kt]? = some x ∧ (tkO (kt : Int)).wf ∧ Tk.runI s.ss = (kt : Int)) := ⟨hx, ht, hk⟩
  rw [hk]
  unfold fnV at hO
  clear h h0 hx ht hk hr
  go_enter Tryz.func13, Tryz.ntmps13
  go_upto_region 3 with (first | (go_at_call 38; refine hN.mono ?_; clear hN; rintro e w2 ⟨rfl, rfl⟩))
  go_region_held_law (fun W' => W'.cell? ⟨p.C, 7, none⟩ = some (I 1)) (first | exact c7 | exact d3 | (go_keep; done)) (first
    | (go_at_call 47; refine (hO _ (by first | exact (Below.refl _ _).drew | exact Below.refl _ _ | exact (Below.refl _ _).drew.drew)).mono ?_; rintro e w3 ⟨m, rfl, g3, d3, b3⟩))
  have h3 := H.out.below b3
  obtain ⟨-, -, -, c3, -, -, -, -, -⟩ := h3.cells
  have hR : Calls Tryz.prog 42 #[Tk.cP p.T] w3 fun e w' => e = .returned (I kt) ∧ Co W w' zn tb p s ∧ Below w3.heap.size w3 w' := (Tk.tRunning h3.t).mono (fun e w' q => ⟨by rw [q.1, HX.out.2.2], h3.below q.2.2, q.2.2⟩)
  have F3 : Hid (Fz (Zn zn) w w3) := Fz.of_below b3
  clear d3 g3 b3 c7 hO h3
  go_wp2_with (first
    | (go_at_call 42; refine hR.mono ?_; clear hR c3; rintro e w4 ⟨rfl, k4, b4⟩; have hF := cEnd k4 kt HX.out.2.1; have F4 : Hid (Fz (Zn zn) w w4) := F3.out.trans (Fz.of_below b4); clear k4 b4)
    | (go_at_call 124; refine hF.mono ?_; clear hF; rintro e w5 ⟨rfl, k5, f5⟩; obtain ⟨-, -, -, -, -, -, -, c7, c8⟩ := k5.cells; have fr := k5.frz; have HK : Hid _ := k5.off; have F5 : Hid (Fz (Zn zn) w w5) := F4.out.trans f5; clear k5 f5))
  go_ret2
  exact ⟨rfl, HK.out.1, F5.out.trans HK.out.2⟩
theorem cCarry_2 (h : Co W w zn tb p s) (h0 : s.lv = 2) (hr : Tk.runI s.ss ≠ -1) : Calls Tryz.prog 13 #[lp p.C] w fun e w' => e = .returned (.tuple #[I (Tk.runI s.ss), I 0]) ∧ Co W w' zn tb p (offC (agnC tb s (Tk.runI s.ss))) ∧ Fz (Zn zn) w w' := by
  obtain ⟨-, -, -, -, -, -, -, c7, -⟩ := h.cells
  have hN := cNone h
  rw [h0] at c7
  have hO : ∀ W', Below w.heap.size w W' → Calls Tryz.prog 47 #[] W' fun e w' => ∃ m, e = .returned (.map (some m)) ∧ (Instr.lookup 114 (.map (some m)) (.int .i64 2) true).run Tryz.prog w' = .ok (.tuple #[fnV 125, .bool true]) w' ∧ w'.cell? ⟨p.C, 7, none⟩ = some (I 2) ∧ Below w.heap.size w w' := fun W' hb => (outcomes_any W').mono (by
    rintro e w' ⟨rfl, rfl⟩
    have hbb := below_alloc W' (.map (enF 0 outs).toArray 5)
    have hc := ((h.below hb).below hbb).cells.2.2.2.2.2.2.2.1
    rw [h0] at hc
    exact ⟨_, rfl, get_out _ _ _ 5 (heap_alloc_new W' _) 2 1 _ (by rfl), hc, hb.trans (hbb.mono hb.size)⟩)
  obtain ⟨kt, nt, x, hk, hx, -, -⟩ := h.runs hr
  have ht : (tkO (kt : Int)).wf := h.wfN (x := (kt : Int)) (by have := (List.getElem?_eq_some_iff.1 hx).1; omega)
  have H : Hid (Co W w zn tb p s) := h
  have HX : Hid (tb.tasks[kt]? = some x ∧ (tkO (kt : Int)).wf ∧ Tk.runI s.ss = (kt : Int)) := ⟨hx, ht, hk⟩
  rw [hk]
  unfold fnV at hO
  clear h h0 hx ht hk hr
  go_enter Tryz.func13, Tryz.ntmps13
  go_upto_region 3 with (first | (go_at_call 38; refine hN.mono ?_; clear hN; rintro e w2 ⟨rfl, rfl⟩))
  go_region_held_law (fun W' => W'.cell? ⟨p.C, 7, none⟩ = some (I 2)) (first | exact c7 | exact d3 | (go_keep; done)) (first
    | (go_at_call 47; refine (hO _ (by first | exact (Below.refl _ _).drew | exact Below.refl _ _ | exact (Below.refl _ _).drew.drew)).mono ?_; rintro e w3 ⟨m, rfl, g3, d3, b3⟩))
  have h3 := H.out.below b3
  obtain ⟨-, -, -, c3, -, -, -, -, -⟩ := h3.cells
  have hR : Calls Tryz.prog 42 #[Tk.cP p.T] w3 fun e w' => e = .returned (I kt) ∧ Co W w' zn tb p s ∧ Below w3.heap.size w3 w' := (Tk.tRunning h3.t).mono (fun e w' q => ⟨by rw [q.1, HX.out.2.2], h3.below q.2.2, q.2.2⟩)
  have F3 : Hid (Fz (Zn zn) w w3) := Fz.of_below b3
  clear d3 g3 b3 c7 hO h3
  go_wp2_with (first
    | (go_at_call 42; refine hR.mono ?_; clear hR c3; rintro e w4 ⟨rfl, k4, b4⟩; have hF := cAgain k4 HX.out.1; have F4 : Hid (Fz (Zn zn) w w4) := F3.out.trans (Fz.of_below b4); clear k4 b4)
    | (go_at_call 125; refine hF.mono ?_; clear hF; rintro e w5 ⟨rfl, k5, f5⟩; obtain ⟨-, -, -, -, -, -, -, c7, c8⟩ := k5.cells; have fr := k5.frz; have HK : Hid _ := k5.off; have F5 : Hid (Fz (Zn zn) w w5) := F4.out.trans f5; clear k5 f5))
  go_ret2
  exact ⟨rfl, HK.out.1, F5.out.trans HK.out.2⟩
theorem cCarry_3 (h : Co W w zn tb p s) (h0 : s.lv = 3) (hr : Tk.runI s.ss ≠ -1) : Calls Tryz.prog 13 #[lp p.C] w fun e w' => e = .returned (.tuple #[I (Tk.runI s.ss), I 0]) ∧ Co W w' zn tb p (offC (waiC tb s (Tk.runI s.ss))) ∧ Fz (Zn zn) w w' := by
  obtain ⟨-, -, -, -, -, -, -, c7, -⟩ := h.cells
  have hN := cNone h
  rw [h0] at c7
  have hO : ∀ W', Below w.heap.size w W' → Calls Tryz.prog 47 #[] W' fun e w' => ∃ m, e = .returned (.map (some m)) ∧ (Instr.lookup 114 (.map (some m)) (.int .i64 3) true).run Tryz.prog w' = .ok (.tuple #[fnV 126, .bool true]) w' ∧ w'.cell? ⟨p.C, 7, none⟩ = some (I 3) ∧ Below w.heap.size w w' := fun W' hb => (outcomes_any W').mono (by
    rintro e w' ⟨rfl, rfl⟩
    have hbb := below_alloc W' (.map (enF 0 outs).toArray 5)
    have hc := ((h.below hb).below hbb).cells.2.2.2.2.2.2.2.1
    rw [h0] at hc
    exact ⟨_, rfl, get_out _ _ _ 5 (heap_alloc_new W' _) 3 2 _ (by rfl), hc, hb.trans (hbb.mono hb.size)⟩)
  obtain ⟨kt, nt, x, hk, hx, -, -⟩ := h.runs hr
  have ht : (tkO (kt : Int)).wf := h.wfN (x := (kt : Int)) (by have := (List.getElem?_eq_some_iff.1 hx).1; omega)
  have H : Hid (Co W w zn tb p s) := h
  have HX : Hid (tb.tasks[kt]? = some x ∧ (tkO (kt : Int)).wf ∧ Tk.runI s.ss = (kt : Int)) := ⟨hx, ht, hk⟩
  rw [hk]
  unfold fnV at hO
  clear h h0 hx ht hk hr
  go_enter Tryz.func13, Tryz.ntmps13
  go_upto_region 3 with (first | (go_at_call 38; refine hN.mono ?_; clear hN; rintro e w2 ⟨rfl, rfl⟩))
  go_region_held_law (fun W' => W'.cell? ⟨p.C, 7, none⟩ = some (I 3)) (first | exact c7 | exact d3 | (go_keep; done)) (first
    | (go_at_call 47; refine (hO _ (by first | exact (Below.refl _ _).drew | exact Below.refl _ _ | exact (Below.refl _ _).drew.drew)).mono ?_; rintro e w3 ⟨m, rfl, g3, d3, b3⟩))
  have h3 := H.out.below b3
  obtain ⟨-, -, -, c3, -, -, -, -, -⟩ := h3.cells
  have hR : Calls Tryz.prog 42 #[Tk.cP p.T] w3 fun e w' => e = .returned (I kt) ∧ Co W w' zn tb p s ∧ Below w3.heap.size w3 w' := (Tk.tRunning h3.t).mono (fun e w' q => ⟨by rw [q.1, HX.out.2.2], h3.below q.2.2, q.2.2⟩)
  have F3 : Hid (Fz (Zn zn) w w3) := Fz.of_below b3
  clear d3 g3 b3 c7 hO h3
  go_wp2_with (first
    | (go_at_call 42; refine hR.mono ?_; clear hR c3; rintro e w4 ⟨rfl, k4, b4⟩; have hF := cWait k4 HX.out.1; have F4 : Hid (Fz (Zn zn) w w4) := F3.out.trans (Fz.of_below b4); clear k4 b4)
    | (go_at_call 126; refine hF.mono ?_; clear hF; rintro e w5 ⟨rfl, k5, f5⟩; obtain ⟨-, -, -, -, -, -, -, c7, c8⟩ := k5.cells; have fr := k5.frz; have HK : Hid _ := k5.off; have F5 : Hid (Fz (Zn zn) w w5) := F4.out.trans f5; clear k5 f5))
  go_ret2
  exact ⟨rfl, HK.out.1, F5.out.trans HK.out.2⟩
theorem cCarry_4 (h : Co W w zn tb p s) (h0 : s.lv = 4) (hr : Tk.runI s.ss ≠ -1) : Calls Tryz.prog 13 #[lp p.C] w fun e w' => e = .returned (.tuple #[I (Tk.runI s.ss), I 0]) ∧ Co W w' zn tb p (offC (asdC p.d tb s (Tk.runI s.ss))) ∧ Fz (Zn zn) w w' := by
  obtain ⟨-, -, -, -, -, -, -, c7, -⟩ := h.cells
  have hN := cNone h
  rw [h0] at c7
  have hO : ∀ W', Below w.heap.size w W' → Calls Tryz.prog 47 #[] W' fun e w' => ∃ m, e = .returned (.map (some m)) ∧ (Instr.lookup 114 (.map (some m)) (.int .i64 4) true).run Tryz.prog w' = .ok (.tuple #[fnV 127, .bool true]) w' ∧ w'.cell? ⟨p.C, 7, none⟩ = some (I 4) ∧ Below w.heap.size w w' := fun W' hb => (outcomes_any W').mono (by
    rintro e w' ⟨rfl, rfl⟩
    have hbb := below_alloc W' (.map (enF 0 outs).toArray 5)
    have hc := ((h.below hb).below hbb).cells.2.2.2.2.2.2.2.1
    rw [h0] at hc
    exact ⟨_, rfl, get_out _ _ _ 5 (heap_alloc_new W' _) 4 3 _ (by rfl), hc, hb.trans (hbb.mono hb.size)⟩)
  obtain ⟨kt, nt, x, hk, hx, -, -⟩ := h.runs hr
  have ht : (tkO (kt : Int)).wf := h.wfN (x := (kt : Int)) (by have := (List.getElem?_eq_some_iff.1 hx).1; omega)
  have H : Hid (Co W w zn tb p s) := h
  have HX : Hid (tb.tasks[kt]? = some x ∧ (tkO (kt : Int)).wf ∧ Tk.runI s.ss = (kt : Int)) := ⟨hx, ht, hk⟩
  rw [hk]
  unfold fnV at hO
  clear h h0 hx ht hk hr
  go_enter Tryz.func13, Tryz.ntmps13
  go_upto_region 3 with (first | (go_at_call 38; refine hN.mono ?_; clear hN; rintro e w2 ⟨rfl, rfl⟩))
  go_region_held_law (fun W' => W'.cell? ⟨p.C, 7, none⟩ = some (I 4)) (first | exact c7 | exact d3 | (go_keep; done)) (first
    | (go_at_call 47; refine (hO _ (by first | exact (Below.refl _ _).drew | exact Below.refl _ _ | exact (Below.refl _ _).drew.drew)).mono ?_; rintro e w3 ⟨m, rfl, g3, d3, b3⟩))
  have h3 := H.out.below b3
  obtain ⟨-, -, -, c3, -, -, -, -, -⟩ := h3.cells
  have hR : Calls Tryz.prog 42 #[Tk.cP p.T] w3 fun e w' => e = .returned (I kt) ∧ Co W w' zn tb p s ∧ Below w3.heap.size w3 w' := (Tk.tRunning h3.t).mono (fun e w' q => ⟨by rw [q.1, HX.out.2.2], h3.below q.2.2, q.2.2⟩)
  have F3 : Hid (Fz (Zn zn) w w3) := Fz.of_below b3
  clear d3 g3 b3 c7 hO h3
  go_wp2_with (first
    | (go_at_call 42; refine hR.mono ?_; clear hR c3; rintro e w4 ⟨rfl, k4, b4⟩; have hF := cAside k4 kt; have F4 : Hid (Fz (Zn zn) w w4) := F3.out.trans (Fz.of_below b4); clear k4 b4)
    | (go_at_call 127; refine hF.mono ?_; clear hF; rintro e w5 ⟨rfl, k5, f5⟩; obtain ⟨-, -, -, -, -, -, -, c7, c8⟩ := k5.cells; have fr := k5.frz; have HK : Hid _ := k5.off; have F5 : Hid (Fz (Zn zn) w w5) := F4.out.trans f5; clear k5 f5))
  go_ret2
  exact ⟨rfl, HK.out.1, F5.out.trans HK.out.2⟩
theorem cCarry_5 (h : Co W w zn tb p s) (h0 : s.lv = 5) (hr : Tk.runI s.ss ≠ -1) : Calls Tryz.prog 13 #[lp p.C] w fun e w' => e = .returned (.tuple #[I (Tk.runI s.ss), I 0]) ∧ Co W w' zn tb p (offC (yldC p.d tb s (Tk.runI s.ss))) ∧ Fz (Zn zn) w w' := by
  obtain ⟨-, -, -, -, -, -, -, c7, -⟩ := h.cells
  have hN := cNone h
  rw [h0] at c7
  have hO : ∀ W', Below w.heap.size w W' → Calls Tryz.prog 47 #[] W' fun e w' => ∃ m, e = .returned (.map (some m)) ∧ (Instr.lookup 114 (.map (some m)) (.int .i64 5) true).run Tryz.prog w' = .ok (.tuple #[fnV 128, .bool true]) w' ∧ w'.cell? ⟨p.C, 7, none⟩ = some (I 5) ∧ Below w.heap.size w w' := fun W' hb => (outcomes_any W').mono (by
    rintro e w' ⟨rfl, rfl⟩
    have hbb := below_alloc W' (.map (enF 0 outs).toArray 5)
    have hc := ((h.below hb).below hbb).cells.2.2.2.2.2.2.2.1
    rw [h0] at hc
    exact ⟨_, rfl, get_out _ _ _ 5 (heap_alloc_new W' _) 5 4 _ (by rfl), hc, hb.trans (hbb.mono hb.size)⟩)
  obtain ⟨kt, nt, x, hk, hx, -, -⟩ := h.runs hr
  have ht : (tkO (kt : Int)).wf := h.wfN (x := (kt : Int)) (by have := (List.getElem?_eq_some_iff.1 hx).1; omega)
  have H : Hid (Co W w zn tb p s) := h
  have HX : Hid (tb.tasks[kt]? = some x ∧ (tkO (kt : Int)).wf ∧ Tk.runI s.ss = (kt : Int)) := ⟨hx, ht, hk⟩
  rw [hk]
  unfold fnV at hO
  clear h h0 hx ht hk hr
  go_enter Tryz.func13, Tryz.ntmps13
  go_upto_region 3 with (first | (go_at_call 38; refine hN.mono ?_; clear hN; rintro e w2 ⟨rfl, rfl⟩))
  go_region_held_law (fun W' => W'.cell? ⟨p.C, 7, none⟩ = some (I 5)) (first | exact c7 | exact d3 | (go_keep; done)) (first
    | (go_at_call 47; refine (hO _ (by first | exact (Below.refl _ _).drew | exact Below.refl _ _ | exact (Below.refl _ _).drew.drew)).mono ?_; rintro e w3 ⟨m, rfl, g3, d3, b3⟩))
  have h3 := H.out.below b3
  obtain ⟨-, -, -, c3, -, -, -, -, -⟩ := h3.cells
  have hR : Calls Tryz.prog 42 #[Tk.cP p.T] w3 fun e w' => e = .returned (I kt) ∧ Co W w' zn tb p s ∧ Below w3.heap.size w3 w' := (Tk.tRunning h3.t).mono (fun e w' q => ⟨by rw [q.1, HX.out.2.2], h3.below q.2.2, q.2.2⟩)
  have F3 : Hid (Fz (Zn zn) w w3) := Fz.of_below b3
  clear d3 g3 b3 c7 hO h3
  go_wp2_with (first
    | (go_at_call 42; refine hR.mono ?_; clear hR c3; rintro e w4 ⟨rfl, k4, b4⟩; have hF := cYield k4 kt HX.out.2.1; have F4 : Hid (Fz (Zn zn) w w4) := F3.out.trans (Fz.of_below b4); clear k4 b4)
    | (go_at_call 128; refine hF.mono ?_; clear hF; rintro e w5 ⟨rfl, k5, f5⟩; obtain ⟨-, -, -, -, -, -, -, c7, c8⟩ := k5.cells; have fr := k5.frz; have HK : Hid _ := k5.off; have F5 : Hid (Fz (Zn zn) w w5) := F4.out.trans f5; clear k5 f5))
  go_ret2
  exact ⟨rfl, HK.out.1, F5.out.trans HK.out.2⟩
end
end Go.Proofs.YtglnfifdjlgbcaaGreatDoor

namespace Go.Proofs.YtglnfifdjlgbcaaGreatDoor
open Go.RowKit Go.Maps Go.Shelf Go.Sort
open Go.Proofs.YtglnfifdjlgbcaaGreatDoor.St (Fx Fz iQ iP iV)
set_option linter.unusedVariables false
set_option linter.unusedSimpArgs false
set_option maxRecDepth 100000
set_option maxHeartbeats 8000000
def preS (s : Cs) : Cs := if callA s = 0 then { s with lv := 4 } else s
def preA (s : Cs) : Int := if callA s = 0 then 0 else 180
def hevA (tb : Tb) (s : Cs) (t : Int) : Int := match tb.tasks[t.toNat]? with | some x => if 0 ≤ t then (if x.mask = 0 then 1 else if (Tk.sdA s.ss t).1 = 3 then 7 else 0) else 3 | none => 3
def sevS (tb : Tb) (s : Cs) (t m : Int) : Cs := if hevA tb s t = 0 then (if Ev.setB tb.tasks.length s.ef t m = true then { s with ef := Ev.setF tb.tasks.length s.ef t m, ss := Tk.relL (actR tb) s.ss t, rq := joinQ s.rq (prT tb t) t } else { s with ef := Ev.setF tb.tasks.length s.ef t m }) else s
def wevA (tb : Tb) (s : Cs) : Int := if callA s = 0 then (if Ev.stE tb.tasks.length s.ef (callO s) = 0 then (if heldB s ⟨false, callO s⟩ = true then 6 else 0) else Ev.stE tb.tasks.length s.ef (callO s)) else callA s
def wevS (tb : Tb) (s : Cs) (m : Int) : Cs := if wevA tb s = 0 then (if Ev.andU (Ev.getI tb.tasks.length s.ef (callO s)) m = 0 then { s with lv := 3, ak := m } else s) else s
section
variable {W w w' : World} {zn : Nat → Nat} {tb : Tb} {p : Pl} {s : Cs}
theorem cPreempt (h : Co W w zn tb p s) : Calls Tryz.prog 18 #[lp p.C] w fun e w' => e = .returned (I (preA s)) ∧ Co W w' zn tb p (preS s) ∧ Fz (Zn zn) w w' := by
  have hN := cNone h
  have hF := cCaller h
  have H : Hid (Co W w zn tb p s) := h
  unfold preA preS
  clear h
  by_cases h0 : callA s = 0
  · rw [if_pos h0, if_pos h0]
    rw [h0] at hF
    clear h0
    go_enter Tryz.func18, Tryz.ntmps18
    go_upto_region 4 with (first
      | (go_at_call 38; refine hN.mono ?_; clear hN; rintro e w2 ⟨rfl, rfl⟩)
      | (go_at_call 52; refine hF.mono ?_; clear hF; rintro e w2 ⟨rfl, b2⟩))
    have b3 := b2.trans ((below_alloc w2 (.cells #[.bool false, I (callO s)] 109)).mono b2.size)
    generalize w2.alloc (.cells #[.bool false, I (callO s)] 109) = w3 at *
    have h3 := H.out.below b3
    obtain ⟨-, -, -, -, -, -, -, c7, -⟩ := h3.cells
    have fr := h3.frz 7
    have HK : Hid _ := h3.setLv 4
    have HB : Hid (Below w.heap.size w w3) := b3
    clear b2 b3 h3
    go_wp2
    go_ret
    exact ⟨rfl, HK.out.1, (Fz.of_below HB.out).trans HK.out.2⟩
  · rw [if_neg h0, if_neg h0]
    generalize callA s = A at *
    have h2 : (A == 0) = false := beq_eq_false_iff_ne.2 h0
    clear h0
    go_enter Tryz.func18, Tryz.ntmps18
    go_upto_region 4 with (first
      | (go_at_call 38; refine hN.mono ?_; clear hN; rintro e w2 ⟨rfl, rfl⟩)
      | (go_at_call 52; refine hF.mono ?_; clear hF; rintro e w2 ⟨rfl, b2⟩))
    have b3 := b2.trans ((below_alloc w2 (.cells #[.bool false, I (callO s)] 109)).mono b2.size)
    generalize w2.alloc (.cells #[.bool false, I (callO s)] 109) = w3 at *
    have HB : Hid (Below w.heap.size w w3) := b3
    clear b2 b3
    go_wp2
    go_ret
    exact ⟨rfl, H.out.below HB.out, Fz.of_below HB.out⟩
theorem cState (h : Co W w zn tb p s) (t : Int) : Calls Tryz.prog 78 #[lp p.C, I t] w fun e w' => e = .returned (.tuple #[I (Tk.staS tb.tasks.length s.ss t), I (Tk.eidS tb.tasks.length t)]) ∧ w = w' := by
  obtain ⟨-, -, -, c3, -, -, -, -, -⟩ := h.cells
  have hN := cNone h
  have hS := Tk.State_any h.t.c t
  rw [h.nA] at hS
  clear h
  go_enter Tryz.func78, Tryz.ntmps78
  go_wp2_with (first
    | (go_at_call 38; refine hN.mono ?_; clear hN; rintro e w2 ⟨rfl, rfl⟩)
    | (go_at_call 165; refine hS.mono ?_; clear hS; rintro e w2 ⟨rfl, rfl⟩))
  go_ret2
  exact ⟨rfl, rfl⟩
theorem cHas (h : Co W w zn tb p s) (t : Int) : Calls Tryz.prog 111 #[lp p.C, I t] w fun e w' => e = .returned (I (hevA tb s t)) ∧ w = w' := by
  have hS := cState h t
  obtain ⟨-, c1, -, -, -, -, -, -, -⟩ := h.cells
  unfold hevA
  by_cases hb : Tk.hasB tb.tasks.length t = true
  · have hb2 := hb
    unfold Tk.hasB at hb2
    simp at hb2
    obtain ⟨k, rfl⟩ := Int.eq_ofNat_of_zero_le hb2.1
    obtain ⟨x, hx⟩ : ∃ x, tb.tasks[k]? = some x := ⟨_, List.getElem?_eq_getElem (by omega)⟩
    obtain ⟨g, cc, e1, -, -, r2⟩ := h.row hx
    rw [e1] at c1
    have e2 : Tk.staS tb.tasks.length s.ss k = ((Tk.sdA s.ss k).1 : Int) := by unfold Tk.staS; rw [if_pos hb]
    have e3 : Tk.eidS tb.tasks.length k = 0 := by unfold Tk.eidS; rw [if_pos hb]
    rw [e2, e3] at hS
    rw [Int.toNat_natCast, hx]
    simp only [Int.natCast_nonneg, if_true]
    have hkI : (k : Int) < tb.tasks.length := hb2.2
    generalize (Tk.sdA s.ss k).1 = st at *
    clear h hb hb2 e1 e2 e3 hx
    by_cases hm : x.mask = 0
    · rw [if_pos hm]
      have hm2 : decide (x.mask ≠ 0) = false := by simp [hm]
      rw [hm2] at r2
      clear hm hm2
      go_enter Tryz.func111, Tryz.ntmps111
      go_wp2_with (first | (go_at_call 78; refine hS.mono ?_; clear hS; rintro e w2 ⟨rfl, rfl⟩))
      go_ret
      exact ⟨rfl, rfl⟩
    · rw [if_neg hm]
      have hm2 : decide (x.mask ≠ 0) = true := by simp [hm]
      rw [hm2] at r2
      clear hm hm2
      by_cases hs : st = 3
      · subst hs
        rw [if_pos rfl]
        go_enter Tryz.func111, Tryz.ntmps111
        go_wp2_with (first | (go_at_call 78; refine hS.mono ?_; clear hS; rintro e w2 ⟨rfl, rfl⟩))
        go_ret
        exact ⟨rfl, rfl⟩
      · rw [if_neg hs]
        have hs2 : ((st : Int) == 3) = false := beq_eq_false_iff_ne.2 (by omega)
        clear hs
        go_enter Tryz.func111, Tryz.ntmps111
        go_wp2_with (first | (go_at_call 78; refine hS.mono ?_; clear hS; rintro e w2 ⟨rfl, rfl⟩))
        go_ret
        exact ⟨rfl, rfl⟩
  · have e3 : Tk.eidS tb.tasks.length t = 3 := by unfold Tk.eidS; rw [if_neg hb]
    rw [e3] at hS
    have e4 : (match tb.tasks[t.toNat]? with | some x => if 0 ≤ t then (if x.mask = 0 then (1 : Int) else if (Tk.sdA s.ss t).1 = 3 then 7 else 0) else 3 | none => 3) = 3 := by
      unfold Tk.hasB at hb
      simp at hb
      by_cases h0 : 0 ≤ t
      · have h1 := hb h0
        rw [List.getElem?_eq_none (by omega)]
      · cases tb.tasks[t.toNat]? with
        | none => rfl
        | some x => simp only; rw [if_neg h0]
    rw [e4]
    clear h hb e3 e4 c1
    go_enter Tryz.func111, Tryz.ntmps111
    go_wp2_with (first | (go_at_call 78; refine hS.mono ?_; clear hS; rintro e w2 ⟨rfl, rfl⟩))
    go_ret
    exact ⟨rfl, rfl⟩
end
end Go.Proofs.YtglnfifdjlgbcaaGreatDoor

namespace Go.Proofs.YtglnfifdjlgbcaaGreatDoor
open Go.RowKit Go.Maps Go.Shelf Go.Sort
open Go.Proofs.YtglnfifdjlgbcaaGreatDoor.St (Fx Fz iQ iP iV)
set_option linter.unusedVariables false
set_option linter.unusedSimpArgs false
set_option maxRecDepth 100000
set_option maxHeartbeats 8000000
section
variable {W w w' : World} {zn : Nat → Nat} {tb : Tb} {p : Pl} {s : Cs}
theorem hev_k {tb : Tb} {s : Cs} {t : Int} (h : hevA tb s t = 0) : ∃ (k : Nat) (x : TkR), t = (k : Int) ∧ tb.tasks[k]? = some x := by
  unfold hevA at h
  cases hx : tb.tasks[t.toNat]? with
  | none => rw [hx] at h; simp at h
  | some x =>
    rw [hx] at h
    by_cases h0 : 0 ≤ t
    · obtain ⟨k, rfl⟩ := Int.eq_ofNat_of_zero_le h0
      exact ⟨k, x, rfl, by simpa using hx⟩
    · simp only at h; rw [if_neg h0] at h; cases h
theorem cSetEvent (h : Co W w zn tb p s) (t m : Int) : Calls Tryz.prog 37 #[lp p.C, I t, U m] w fun e w' => e = .returned (I (hevA tb s t)) ∧ Co W w' zn tb p (sevS tb s t m) ∧ Fz (Zn zn) w w' := by
  have hS := cHas h t
  obtain ⟨-, -, -, -, -, c5, -, -, -⟩ := h.cells
  have H : Hid (Co W w zn tb p s) := h
  unfold sevS
  by_cases h0 : hevA tb s t = 0
  · obtain ⟨k, x, rfl, hx⟩ := hev_k h0
    rw [if_pos h0, h0]
    rw [h0] at hS
    have hp : prT tb k = x.prio := by unfold prT; rw [Int.toNat_natCast, hx]
    rw [hp]
    have HX : Hid (tb.tasks[k]? = some x) := hx
    have hE : Calls Tryz.prog 112 #[Ev.eP p.E, I k, U m] w fun e w' => (∃ v, e = .returned (.tuple #[.bool (Ev.setB tb.tasks.length s.ef k m), v])) ∧ Co W w' zn tb p { s with ef := Ev.setF tb.tasks.length s.ef k m } ∧ Fz (Zn zn) w w' := (Ev.Set_any h.e k m).mono (fun e w' q => ⟨⟨_, q.1⟩, h.setE q.2.1 q.2.2⟩)
    clear h h0 hx hp
    cases hB : Ev.setB tb.tasks.length s.ef k m with
    | false =>
      rw [hB] at hE
      simp only [Bool.false_eq_true, if_false]
      clear hB
      go_enter Tryz.func37, Tryz.ntmps37
      go_wp2_with (first
        | (go_at_call 111; refine hS.mono ?_; clear hS; rintro e w2 ⟨rfl, rfl⟩)
        | (go_at_call 112; refine hE.mono ?_; clear hE c5; rintro e w3 ⟨⟨vv, rfl⟩, k3, f3⟩; have HK : Hid (Co W w3 zn tb p { s with ef := Ev.setF tb.tasks.length s.ef k m } ∧ Fz (Zn zn) w w3) := ⟨k3, f3⟩; clear k3 f3))
      go_ret
      exact ⟨rfl, HK.out⟩
    | true =>
      rw [hB] at hE
      simp only [if_true]
      clear hB
      go_enter Tryz.func37, Tryz.ntmps37
      go_wp2_with (first
        | (go_at_call 111; refine hS.mono ?_; clear hS; rintro e w2 ⟨rfl, rfl⟩)
        | (go_at_call 112; refine hE.mono ?_; clear hE c5; rintro e w3 ⟨⟨vv, rfl⟩, k3, f3⟩; obtain ⟨-, -, -, c3, -, -, -, -, -⟩ := k3.cells; have hA : Calls Tryz.prog 113 #[Tk.cP p.T, I k] w3 fun e w' => (∃ v, e = .returned v) ∧ Co W w' zn tb p { s with ef := Ev.setF tb.tasks.length s.ef k m, ss := Tk.relL (actR tb) s.ss k } ∧ Fz (Zn zn) w3 w' := ((Tk.tRelease k3.t k).mono (fun e w' q => ⟨⟨_, q.1⟩, k3.setT q.2.1 q.2.2⟩)); have F3 : Hid (Fz (Zn zn) w w3) := f3; clear k3 f3)
        | (go_at_call 113; refine hA.mono ?_; clear hA c3; rintro e w5 ⟨⟨vv, rfl⟩, k5, f5⟩; have hJ := cJoin k5 HX.out; have F5 : Hid (Fz (Zn zn) w w5) := F3.out.trans f5; clear k5 f5)
        | (go_at_call 41; refine hJ.mono ?_; clear hJ; rintro e w6 ⟨rfl, k6, f6⟩; have HK : Hid (Co W w6 zn tb p { s with ef := Ev.setF tb.tasks.length s.ef k m, ss := Tk.relL (actR tb) s.ss k, rq := joinQ s.rq x.prio k } ∧ Fz (Zn zn) w w6) := ⟨k6, F5.out.trans f6⟩; clear k6 f6))
      go_ret
      exact ⟨rfl, HK.out⟩
  · rw [if_neg h0]
    generalize hevA tb s t = A at *
    have h2 : (A == 0) = false := beq_eq_false_iff_ne.2 h0
    clear h h0 c5
    go_enter Tryz.func37, Tryz.ntmps37
    go_wp2_with (first
      | (go_at_call 111; refine hS.mono ?_; clear hS; rintro e w2 ⟨rfl, rfl⟩))
    go_ret
    exact ⟨rfl, H.out, Fz.refl _ _⟩
theorem cWaitEvent (h : Co W w zn tb p s) (m : Int) : Calls Tryz.prog 35 #[lp p.C, U m] w fun e w' => e = .returned (I (wevA tb s)) ∧ Co W w' zn tb p (wevS tb s m) ∧ Fz (Zn zn) w w' := by
  have hF := cCaller h
  have hwf := h.wfr
  have H : Hid (Co W w zn tb p s) := h
  obtain ⟨rA, hA⟩ : ∃ z, z = wevA tb s := ⟨_, rfl⟩
  obtain ⟨rS, hS⟩ : ∃ z, z = wevS tb s m := ⟨_, rfl⟩
  rw [← hA, ← hS]
  unfold wevS at hS
  rw [← hA] at hS
  unfold wevA at hA
  have HA : Hid (rA = if callA s = 0 then (if Ev.stE tb.tasks.length s.ef (callO s) = 0 then (if heldB s ⟨false, callO s⟩ = true then 6 else 0) else Ev.stE tb.tasks.length s.ef (callO s)) else callA s) := hA
  have HS : Hid (rS = if rA = 0 then (if Ev.andU (Ev.getI tb.tasks.length s.ef (callO s)) m = 0 then { s with lv := 3, ak := m } else s) else s) := hS
  clear h hA hS
  by_cases h0 : callA s = 0
  · rw [h0] at hF
    go_enter Tryz.func35, Tryz.ntmps35
    go_upto_region 2 with (first
      | (go_at_call 52; refine hF.mono ?_; clear hF; rintro e w2 ⟨rfl, b2⟩))
    have b3 := b2.trans ((below_alloc w2 (.cells #[.bool false, I (callO s)] 109)).mono b2.size)
    have hb2 := below_alloc w2 (.cells #[.bool false, I (callO s)] 109)
    obtain ⟨y0, y1⟩ := box_own w2 ⟨false, callO s⟩
    dsimp only at y0 y1
    have hlt : w2.heap.size < (w2.alloc (.cells #[.bool false, I (callO s)] 109)).heap.size := by simp
    generalize w2.alloc (.cells #[.bool false, I (callO s)] 109) = w3 at *
    generalize w2.heap.size = Y at *
    have h3 := H.out.below b3
    obtain ⟨-, -, -, -, -, c5, -, -, -⟩ := h3.cells
    have HY : Hid (∀ W', Below w3.heap.size w3 W' → W'.cell? ⟨Y, 0, none⟩ = some (.bool false) ∧ W'.cell? ⟨Y, 1, none⟩ = some (I (callO s)) ∧ Co W W' zn tb p s ∧ Below w.heap.size w W') := fun W' hb => ⟨(cell_below hb _ _ hlt).trans y0, (cell_below hb _ _ hlt).trans y1, h3.below hb, b3.trans (hb.mono b3.size)⟩
    have hG : ∀ W', Below w3.heap.size w3 W' → Calls Tryz.prog 109 #[Ev.eP p.E, I (callO s)] W' fun e w' => e = .returned (.tuple #[U (Ev.getI tb.tasks.length s.ef (callO s)), I (Ev.stE tb.tasks.length s.ef (callO s))]) ∧ Below w3.heap.size w3 w' := fun W' hb => (Ev.Get_any (h3.below hb).e (callO s)).mono (fun e w' q => ⟨q.1, by rw [← q.2]; exact hb⟩)
    clear b2 b3 hb2 hlt h3
    generalize Ev.stE tb.tasks.length s.ef (callO s) = sE at *
    generalize Ev.getI tb.tasks.length s.ef (callO s) = gI at *
    go_upto_region 4 with fail
    go_region_held_law (fun W' => W'.cell? ⟨p.C, 5, none⟩ = some (Ev.eP p.E) ∧ W'.cell? ⟨Y, 1, none⟩ = some (I (callO s))) (first | exact ⟨c5, y1⟩ | exact d4 | (go_keep; done)) (first
      | (go_at_call 109; refine (hG _ (by first | exact (Below.refl _ _).drew | exact Below.refl _ _ | exact (Below.refl _ _).drew.drew)).mono ?_; rintro e w4 ⟨rfl, b4⟩; have d4 : w4.cell? ⟨p.C, 5, none⟩ = some (Ev.eP p.E) ∧ w4.cell? ⟨Y, 1, none⟩ = some (I (callO s)) := ⟨(HY.out _ b4).2.2.1.cells.2.2.2.2.2.1, (HY.out _ b4).2.1⟩))
    clear hG y0 y1 c5 d4
    obtain ⟨y0, y1, h4, bw⟩ := HY.out _ b4
    have HB : Hid (Below w.heap.size w w4 ∧ Below w3.heap.size w3 w4) := ⟨bw, b4⟩
    have hHo := cHolds h4 ⟨false, callO s⟩ hwf
    clear h4 bw b4
    by_cases hs : sE = 0
    · subst hs
      have hA1 := HA.out
      rw [if_pos h0, if_pos rfl] at hA1
      cases hB : heldB s ⟨false, callO s⟩ with
      | true =>
        rw [hB] at hA1 hHo
        simp only [if_true] at hA1
        subst hA1
        obtain rfl : rS = s := by rw [HS.out]; rfl
        clear hB h0
        go_wp2_with (first
          | (go_at_call 110; refine hHo.mono ?_; clear hHo; rintro e w5 ⟨rfl, b5⟩; have HK : Hid (Below w.heap.size w w5) := HB.out.1.trans (b5.mono HB.out.1.size); clear b5))
        go_ret
        exact ⟨rfl, H.out.below HK.out, Fz.of_below HK.out⟩
      | false =>
        rw [hB] at hA1 hHo
        simp only [Bool.false_eq_true, if_false] at hA1
        subst hA1
        have hS1 := HS.out
        rw [if_pos rfl] at hS1
        clear hB h0
        by_cases hz : Ev.andU gI m = 0
        · rw [if_pos hz] at hS1
          subst hS1
          simp only [Ev.andU] at hz
          go_wp2_with (first
            | (go_at_call 110; refine hHo.mono ?_; clear hHo; rintro e w5 ⟨rfl, b5⟩; have HK : Hid (Below w.heap.size w w5) := HB.out.1.trans (b5.mono HB.out.1.size); have h5 := H.out.below HK.out; obtain ⟨-, -, -, -, -, -, -, c7, c8⟩ := h5.cells; have fr := h5.frz; have HL : Hid (Co W ((w5.setCell ⟨p.C, 7, none⟩ (I 3)).setCell ⟨p.C, 8, none⟩ (U m)) zn tb p { s with lv := 3, ak := m } ∧ Fz (Zn zn) w5 ((w5.setCell ⟨p.C, 7, none⟩ (I 3)).setCell ⟨p.C, 8, none⟩ (U m))) := ⟨((h5.setLv 3).1.setAk m).1, (h5.setLv 3).2.trans ((h5.setLv 3).1.setAk m).2⟩; clear b5 h5))
          go_ret
          exact ⟨rfl, HL.out.1, (Fz.of_below HK.out).trans HL.out.2⟩
        · rw [if_neg hz] at hS1
          subst hS1
          have hz2 : (bits .and .u32 gI m == 0) = false := beq_eq_false_iff_ne.2 hz
          simp only [Ev.andU] at hz
          go_wp2_with (first
            | (go_at_call 110; refine hHo.mono ?_; clear hHo; rintro e w5 ⟨rfl, b5⟩; have HK : Hid (Below w.heap.size w w5) := HB.out.1.trans (b5.mono HB.out.1.size); clear b5))
          go_ret
          exact ⟨rfl, H.out.below HK.out, Fz.of_below HK.out⟩
    · have hA1 := HA.out
      rw [if_pos h0, if_neg hs] at hA1
      subst hA1
      have hS1 := HS.out
      rw [if_neg hs] at hS1
      subst hS1
      have hs2 : (rA == 0) = false := beq_eq_false_iff_ne.2 hs
      clear h0 hHo
      go_wp2
      go_ret
      exact ⟨rfl, H.out.below HB.out.1, Fz.of_below HB.out.1⟩
  · have hA1 := HA.out
    rw [if_neg h0] at hA1
    have hS1 := HS.out
    rw [hA1, if_neg h0] at hS1
    subst hS1
    rw [← hA1] at hF h0
    have h2 : (rA == 0) = false := beq_eq_false_iff_ne.2 h0
    clear hA1 h0
    go_enter Tryz.func35, Tryz.ntmps35
    go_upto_region 2 with (first
      | (go_at_call 52; refine hF.mono ?_; clear hF; rintro e w2 ⟨rfl, b2⟩))
    have b3 := b2.trans ((below_alloc w2 (.cells #[.bool false, I (callO rS)] 109)).mono b2.size)
    generalize w2.alloc (.cells #[.bool false, I (callO rS)] 109) = w3 at *
    have HB : Hid (Below w.heap.size w w3) := b3
    clear b2 b3
    go_wp2
    go_ret
    exact ⟨rfl, H.out.below HB.out, Fz.of_below HB.out⟩
end
end Go.Proofs.YtglnfifdjlgbcaaGreatDoor

namespace Go.Proofs.YtglnfifdjlgbcaaGreatDoor
open Go.RowKit Go.Maps Go.Shelf Go.Sort
open Go.Proofs.YtglnfifdjlgbcaaGreatDoor.St (Fx Fz iQ iP iV)
set_option linter.unusedVariables false
set_option linter.unusedSimpArgs false
set_option maxRecDepth 100000
set_option maxHeartbeats 8000000
theorem step_append_at20 {P : Program} {ops : Array Oper} {o : Oper} {a : Act} {w : World} {K : Act → World → Prop} {Q : Exit → Act → World → Prop} {F : Prop}
    (hgd : o.guard = none) (s x : Operand) (t : TypeId) (ho : o.op = .call { callee := .builtin .append, args := #[s, x], argTypes := #[t, t] })
    (base : Nat) (e : TypeId) (i : TypeInfo) (z : Value) (size bytes : Nat) (ht : P.underlying t = some (.slice e)) (hi : P.info? e = some i) (hz : i.zero = some z)
    (hsize : i.size = size) (hby : i.bytes = bytes) (hzs : z.cells.size = size) (hsz : 0 < size)
    (v : Value) (n : Nat) (xs : List Value) (hs : a.eval s = v) (hown : w.ownsRow base e size v n xs)
    (ad : Addr) (m c : Nat) (news : List Value) (hx : a.eval x = .slice (some ad) m c) (hl : news.length = m * size) (hnews : ∀ j u, news[j]? = some u → w.cell? (ad.add j) = some u) (h1 : ∀ u ∈ news, u.oneCell' = true)
    (h63 : n + m ≤ maxLen) (hbytes : (n + m) * bytes ≤ 140737488355328) (hbase : base ≤ w.heap.size)
    (h : ∀ v' w', w'.ownsRow base e size v' (n + m) (xs ++ news) → w.grownBy w' v.ownBlock → K (a.put o.dst v') w') :
    if Region.wanted o (yielded ops a.tmps) = true then Oper.wp P o a w K Q else F := by
  have hw : Region.wanted o (yielded ops a.tmps) = true := by simp [Region.wanted, hgd]
  rw [if_pos hw]
  obtain ⟨v', w', hr, h2, h3, h4⟩ := run_append_own (P := P) w base t o.type e i z size bytes ht hi hz hsize hby hzs hsz v n xs hown ad m c news hl hnews h1 h63 hbytes hbase
  unfold Oper.wp execOp
  simp only [ho, resolve, invoke, builtin, Sem.run_bind, Sem.run_pure, Result.andThen_ok, List.map_toArray, List.map_cons, List.map_nil, hs, hx, hr]
  exact h v' w' h2 h3
theorem own_ne20 {w : World} {b1 b2 e1 e2 k1 k2 n1 n2 : Nat} {v1 v2 : Value} {x1 x2 : List Value} (h1 : w.ownsRow b1 e1 k1 v1 n1 x1) (h2 : w.ownsRow b2 e2 k2 v2 n2 x2) (he : e1 ≠ e2) {g : Nat} (hg : v1.ownBlock = some g) : v2.ownBlock ≠ some g := by
  intro hg2
  rcases h1.2 with ⟨rfl, _⟩ | ⟨g1, c1, cur1, rfl, _, hh1, _⟩
  · cases hg
  · rcases h2.2 with ⟨rfl, _⟩ | ⟨g2, c2, cur2, rfl, _, hh2, _⟩
    · cases hg2
    · cases hg
      cases hg2
      rw [hh1] at hh2
      injection hh2 with hh2
      injection hh2 with _ hh3
      exact he hh3
theorem own_neP20 {w : World} {b e k n P T : Nat} {u : Value} {xs : List Value} {C : Array Value} (h : w.ownsRow b e k u n xs) (hP : w.heap[P]? = some (.cells C T)) (he : T ≠ e) : u.ownBlock ≠ some P := by
  intro hg
  rcases h.2 with ⟨rfl, _⟩ | ⟨g1, c1, cur1, rfl, _, hh1, _⟩
  · cases hg
  · cases hg
    rw [hP] at hh1
    injection hh1 with hh1
    injection hh1 with _ hh3
    exact he hh3
theorem fz_own20 {w w' : World} {v : Value} (h : w.grownBy w' v.ownBlock) : Fz (fun x => v.ownBlock = some x) w w' := ⟨h.os, h.tape, h.output, h.size, fun b hb hne => h.block b hb (fun e => hne e.symm)⟩
/-- the cells of a core that is being made -/
def coC (a0 vr vg a3 a4 a5 a6 : Value) : Array Value := #[a0, vr, vg, a3, a4, a5, a6, I 0, U 0]
def mkV (l : List TkR) : List Value := l.map (fun x => U (x.mask : Int))
structure Rd (w0 w : World) (C : Nat) (vg vr u6 u7 : Value) (l1 l2 l3 : List TkR) : Prop where
  o : w.heap[C]? = some (.cells (coC (.pointer none) vr vg (.pointer none) (.pointer none) (.pointer none) (.pointer none)) 85)
  r : w.ownsRow w0.heap.size 120 3 vr l1.length (flC l1)
  a : w.ownsRow w0.heap.size 167 2 u6 l2.length (Tk.flR (l2.map (fun x => (x.limit, decide (x.mask ≠ 0)))))
  m : w.ownsRow w0.heap.size 40 1 u7 l3.length (mkV l3)
  f : Fz (fun x => x = C) w0 w
  c : C < w0.heap.size
section
variable {w0 w w' : World} {C : Nat} {vg vr u6 u7 u : Value} {l1 l2 l3 l' : List TkR}
theorem Rd.below (h : Rd w0 w C vg vr u6 u7 l1 l2 l3) (hb : Below w.heap.size w w') : Rd w0 w' C vg vr u6 u7 l1 l2 l3 :=
  ⟨(hb.block C (heap_lt h.o)).trans h.o, own_below h.r hb, own_below h.a hb, own_below h.m hb, h.f.trans (Fz.of_below hb), h.c⟩
theorem Rd.up (h : Rd w0 w C vg vr u6 u7 l1 l2 l3) {N : Nat → Prop} (hf : Fz N w w') (hN : ∀ x, N x → w0.heap.size ≤ x) : Fz (fun x => x = C) w0 w' :=
  h.f.step hf (fun x hx => .inr (hN x hx))
theorem Rd.mid (h : Rd w0 w C vg vr u6 u7 l1 l2 l3) (hf : Fz (fun x => vr.ownBlock = some x) w w') : w'.heap[C]? = some (.cells (coC (.pointer none) vr vg (.pointer none) (.pointer none) (.pointer none) (.pointer none)) 85) := hf.heap h.o (fun e => own_neP20 h.r h.o (by decide) e)
theorem Rd.row (h : Rd w0 w C vg vr u6 u7 l1 l2 l3) (hf : Fz (fun x => vr.ownBlock = some x) w w') (hv : w'.ownsRow w0.heap.size 120 3 u l'.length (flC l')) : Rd w0 (w'.setCell ⟨C, 1, none⟩ u) C vg u u6 u7 l' l2 l3 := by
  have ho := h.mid hf
  have fs : Fz (fun x => x = C) w' (w'.setCell ⟨C, 1, none⟩ u) := (Fz.refl (fun b => b = C) w').set (.inl rfl) _ _
  have ha := hf.own h.a (fun x e e2 => own_ne20 h.a h.r (by decide) e e2)
  have hm := hf.own h.m (fun x e e2 => own_ne20 h.m h.r (by decide) e e2)
  exact ⟨heap_setCell_same w' C 1 _ _ u ho, fs.own hv (fun x e e2 => own_neP20 hv ho (by decide) (by rw [← e2]; exact e)), fs.own ha (fun x e e2 => own_neP20 ha ho (by decide) (by rw [← e2]; exact e)), fs.own hm (fun x e e2 => own_neP20 hm ho (by decide) (by rw [← e2]; exact e)), (h.up hf (fun x e => (h.r.lt x e).1)).trans fs, h.c⟩
theorem Rd.act (h : Rd w0 w C vg vr u6 u7 l1 l2 l3) (hf : Fz (fun x => u6.ownBlock = some x) w w') (hv : w'.ownsRow w0.heap.size 167 2 u l'.length (Tk.flR (l'.map (fun x => (x.limit, decide (x.mask ≠ 0)))))) : Rd w0 w' C vg vr u u7 l1 l' l3 :=
  ⟨hf.heap h.o (fun e => own_neP20 h.a h.o (by decide) e), hf.own h.r (fun x e e2 => own_ne20 h.r h.a (by decide) e e2), hv, hf.own h.m (fun x e e2 => own_ne20 h.m h.a (by decide) e e2), h.up hf (fun x e => (h.a.lt x e).1), h.c⟩
theorem Rd.msk (h : Rd w0 w C vg vr u6 u7 l1 l2 l3) (hf : Fz (fun x => u7.ownBlock = some x) w w') (hv : w'.ownsRow w0.heap.size 40 1 u l'.length (mkV l')) : Rd w0 w' C vg vr u6 u l1 l2 l' :=
  ⟨hf.heap h.o (fun e => own_neP20 h.m h.o (by decide) e), hf.own h.r (fun x e e2 => own_ne20 h.r h.m (by decide) e e2), hf.own h.a (fun x e e2 => own_ne20 h.a h.m (by decide) e e2), hv, h.up hf (fun x e => (h.m.lt x e).1), h.c⟩
end
theorem flR_app : ∀ a b : List Tk.Rw, Tk.flR (a ++ b) = Tk.flR a ++ Tk.flR b
  | [], b => rfl
  | x :: a, b => by simp [Tk.flR, flR_app a b]
theorem cinfo20 : (Tryz.prog.info? 120).map (fun i => (i.zero, i.size, i.bytes)) = some (some (.agg #[.int .i64 0, .bool false, .bool false]), 3, 16) := by kernel_rfl
theorem ainfo20 : (Tryz.prog.info? 167).map (fun i => (i.zero, i.size, i.bytes)) = some (some (.agg #[.int .i64 0, .bool false]), 2, 16) := by kernel_rfl
theorem uinfo20 : (Tryz.prog.info? 40).map (fun i => (i.zero, i.size, i.bytes)) = some (some (.int .u32 0), 1, 4) := by kernel_rfl
end Go.Proofs.YtglnfifdjlgbcaaGreatDoor

