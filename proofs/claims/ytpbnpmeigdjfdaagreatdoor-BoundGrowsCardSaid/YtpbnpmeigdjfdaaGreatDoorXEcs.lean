import Derived.Test.YtpbnpmeigdjfdaaGreatDoorXEcq
import Derived.Shelf.Abstract
namespace Go.Proofs.YtpbnpmeigdjfdaaGreatDoor.Ce
open Go.Maps Go.RowKit
set_option linter.unusedSimpArgs false
set_option linter.unusedVariables false
set_option maxHeartbeats 16000000
set_option maxRecDepth 100000
def usC (isr : Bool) (id : Nat) (prio : Int) (s : Sl) : Array Value := #[.bool isr, I (id : Int), I prio, .slice s.a s.n s.c]
theorem eachUser_any (w : World) (c : Cf) (v : Vs) (f : Nat) (caps : Array Value) (eg : ∀ args W, (callFunc f args).run Tryz.prog W = .ok (.enter f args) W)
  (IT II : Nat → World → Prop) (sT : ∀ j W W', IT j W → Below W.heap.size W W' → IT j W') (sI : ∀ j W W', II j W → Below W.heap.size W W' → II j W')
  (cT : ∀ j W, IT j W → CfAt W c v) (cI : ∀ j W, II j W → CfAt W c v) (h0 : IT 0 w) (hTI : ∀ W, IT c.tasks.length W → II 0 W)
  (dT : ∀ (j : Nat) (x : Tk) (s : Sl) (W : World), c.tasks[j]? = some x → RowsAt W 1 intP s x.res → IT j W → w.heap.size < W.heap.size → Calls Tryz.prog f (#[.agg (usC false j x.prio s)] ++ caps) W fun e w' => e = .returned (.tuple #[]) ∧ IT (j + 1) w' ∧ w'.heap[w.heap.size]? = W.heap[w.heap.size]? ∧ W.heap.size ≤ w'.heap.size)
  (dI : ∀ (j : Nat) (x : Is) (s : Sl) (W : World), c.isrs[j]? = some x → RowsAt W 1 intP s x.res → II j W → w.heap.size < W.heap.size → Calls Tryz.prog f (#[.agg (usC true j x.prio s)] ++ caps) W fun e w' => e = .returned (.tuple #[]) ∧ II (j + 1) w' ∧ w'.heap[w.heap.size]? = W.heap[w.heap.size]? ∧ W.heap.size ≤ w'.heap.size) :
  Calls Tryz.prog 103 #[.agg (cfC c v), .func (.func f) #[] caps] w fun e w' => e = .returned (.tuple #[]) ∧ II c.isrs.length w' := by
 have h := cT 0 w h0
 have HNT : Hid (v.t.n = c.tasks.length) := h.t.n
 have HNI : Hid (v.i.n = c.isrs.length) := h.i.n
 have hct : v.t.n ≤ v.t.c := h.t.c
 have hmt : v.t.c ≤ maxLen := h.t.m
 have hci : v.i.n ≤ v.i.c := h.i.c
 have hmi : v.i.c ≤ maxLen := h.i.m
 unfold maxLen at hmt hmi
 have hV0 := heap_alloc_new w (.cells (cfC c v) 33)
 have hb := below_alloc w (.cells (cfC c v) 33)
 have HI0 : Hid (IT 0 (w.alloc (.cells (cfC c v) 33))) := sT 0 _ _ h0 hb
 have f11 : ∀ h : 11 < (cfC c v).size, (cfC c v)[11] = .slice v.t.a v.t.n v.t.c := fun _ => rfl
 have hcv : ∀ W : World, W.heap[w.heap.size]? = some (.cells (cfC c v) 33 (0, 0)) → W.cell? ⟨w.heap.size, 16, none⟩ = some (.slice v.i.a v.i.n v.i.c) := fun W hW => by
  obtain ⟨_, h10, h11, h12, h13, h14, h15, h16, h17⟩ := var18_all hW
  exact h16
 have hs18 : (cfC c v).size = 18 := rfl
 generalize cfC c v = C at *
 replace f11 := f11 (by omega)
 have HV0 : Hid ((w.alloc (.cells C 33)).heap[w.heap.size]? = some (.cells C 33 (0, 0))) := hV0
 have HCV : Hid (∀ W : World, W.heap[w.heap.size]? = some (.cells C 33 (0, 0)) → W.cell? ⟨w.heap.size, 16, none⟩ = some (.slice v.i.a v.i.n v.i.c)) := hcv
 have HST : Hid (∀ j W W', IT j W → Below W.heap.size W W' → IT j W') := sT
 have HSI : Hid (∀ j W W', II j W → Below W.heap.size W W' → II j W') := sI
 have HCT : Hid (∀ j W, IT j W → CfAt W c v) := cT
 have HCI : Hid (∀ j W, II j W → CfAt W c v) := cI
 have HTI : Hid (∀ W, IT c.tasks.length W → II 0 W) := hTI
 have HDT : Hid (∀ (j : Nat) (x : Tk) (s : Sl) (W : World), c.tasks[j]? = some x → RowsAt W 1 intP s x.res → IT j W → w.heap.size < W.heap.size → Calls Tryz.prog f (#[.agg (usC false j x.prio s)] ++ caps) W fun e w' => e = .returned (.tuple #[]) ∧ IT (j + 1) w' ∧ w'.heap[w.heap.size]? = W.heap[w.heap.size]? ∧ W.heap.size ≤ w'.heap.size) := dT
 have HDI : Hid (∀ (j : Nat) (x : Is) (s : Sl) (W : World), c.isrs[j]? = some x → RowsAt W 1 intP s x.res → II j W → w.heap.size < W.heap.size → Calls Tryz.prog f (#[.agg (usC true j x.prio s)] ++ caps) W fun e w' => e = .returned (.tuple #[]) ∧ II (j + 1) w' ∧ w'.heap[w.heap.size]? = W.heap[w.heap.size]? ∧ W.heap.size ≤ w'.heap.size) := dI
 clear h h0 hb hV0 hcv sT sI cT cI hTI dT dI
 go_enter Tryz.func103, Tryz.ntmps103
 go_wp2
 clear f11
 go_loopw [4, 5, 11] (fun _ _ iv wr => ∃ j : Nat, j ≤ v.t.n ∧ iv = .int .i64 j ∧ Hid (IT j wr ∧ wr.heap[w.heap.size]? = some (.cells C 33 (0, 0)))) (fun _ _ iv _ => v.t.n - (intOf iv).toNat)
 case atStart => exact ⟨0, by omega, rfl, HI0.out, HV0.out⟩
 case round =>
  clear HI0 HV0
  obtain ⟨j, hj, rfl, HJ⟩ := hrel
  by_cases hlt : j < v.t.n
  ·have hlt' : (j : Int) < v.t.n := by omega
   obtain ⟨x, hx⟩ : ∃ x, c.tasks[j]? = some x := ⟨_, List.getElem?_eq_getElem (by rw [← HNT.out]; exact hlt)⟩
   obtain ⟨g, off, s4, s5, s6, s7, e, hg, a0, a1, a2, a3, a4, a5, a6, a7, r4, r5, r6, r7⟩ := tk_at (HCT.out _ _ HJ.out.1) hx
   have hng : g ≠ wr.heap.size := Nat.ne_of_lt hg
   have hst : (storeCells ⟨wr.heap.size, 0, none⟩ [S x.name, I x.prio, .bool x.full, I x.act, .slice s4.a s4.n s4.c, .slice s5.a s5.n s5.c, .slice s6.a s6.n s6.c, .slice s7.a s7.n s7.c] 0).run Tryz.prog (wr.alloc (.cells #[.string ⟨#[]⟩, .int .i64 0, .bool false, .int .i64 0, .slice none 0 0, .slice none 0 0, .slice none 0 0, .slice none 0 0] 79)) = .ok () (wr.alloc (.cells #[S x.name, I x.prio, .bool x.full, I x.act, .slice s4.a s4.n s4.c, .slice s5.a s5.n s5.c, .slice s6.a s6.n s6.c, .slice s7.a s7.n s7.c] 79)) :=
    run_storeCells_new (P := Tryz.prog) wr 79 #[.string ⟨#[]⟩, .int .i64 0, .bool false, .int .i64 0, .slice none 0 0, .slice none 0 0, .slice none 0 0, .slice none 0 0] #[S x.name, I x.prio, .bool x.full, I x.act, .slice s4.a s4.n s4.c, .slice s5.a s5.n s5.c, .slice s6.a s6.n s6.c, .slice s7.a s7.n s7.c] (by kernel_rfl) rfl (by simp [Value.oneCell'])
   have hal := below_alloc wr (.cells #[S x.name, I x.prio, .bool x.full, I x.act, .slice s4.a s4.n s4.c, .slice s5.a s5.n s5.c, .slice s6.a s6.n s6.c, .slice s7.a s7.n s7.c] 79)
   have hwl := heap_lt HJ.out.2
   have cx := HDT.out j x s5 _ hx (r5.below hal (fun _ _ _ _ h => h)) (HST.out _ _ _ HJ.out.1 hal) (Nat.lt_of_lt_of_le hwl hal.size)
   have HB : Hid ((wr.alloc (.cells #[S x.name, I x.prio, .bool x.full, I x.act, .slice s4.a s4.n s4.c, .slice s5.a s5.n s5.c, .slice s6.a s6.n s6.c, .slice s7.a s7.n s7.c] 79)).heap[w.heap.size]? = some (.cells C 33 (0, 0))) := heap_over _ _ HJ.out.2
   unfold usC at cx
   rw [e]
   clear hx e HJ hal r4 r5 r6 r7
   go_wp2
   refine cx.mono ?_
   clear cx
   rintro e5 w5 ⟨rfl, hi5, hb5, hs5⟩
   have HJ5 : Hid (IT (j + 1) w5 ∧ w5.heap[w.heap.size]? = some (.cells C 33 (0, 0))) := ⟨hi5, hb5.trans HB.out⟩
   clear hi5 hb5 hs5 HB
   go_wp2
   go_roundw
   case rel => exact ⟨j + 1, by omega, by go_num, HJ5.out⟩
   case measure => simp [intOf]; omega
  ·obtain rfl : j = v.t.n := by omega
   have hlt' : ¬ ((v.t.n : Nat) : Int) < (v.t.n : Nat) := by omega
   have c16 := HCV.out _ HJ.out.2
   have HI1 : Hid (II 0 wr ∧ wr.heap[w.heap.size]? = some (.cells C 33 (0, 0))) := ⟨HTI.out _ (by rw [← HNT.out]; exact HJ.out.1), HJ.out.2⟩
   clear HJ HDT HST HCT
   go_wp2
   clear c16
   go_loopw [6, 7, 28] (fun _ _ iv wr => ∃ j : Nat, j ≤ v.i.n ∧ iv = .int .i64 j ∧ Hid (II j wr ∧ wr.heap[w.heap.size]? = some (.cells C 33 (0, 0)))) (fun _ _ iv _ => v.i.n - (intOf iv).toNat)
   case atStart => exact ⟨0, by omega, rfl, HI1.out⟩
   case round =>
    clear HI1
    obtain ⟨j, hj, rfl, HJ⟩ := hrel
    by_cases hlt : j < v.i.n
    ·have hlt' : (j : Int) < v.i.n := by omega
     obtain ⟨x, hx⟩ : ∃ x, c.isrs[j]? = some x := ⟨_, List.getElem?_eq_getElem (by rw [← HNI.out]; exact hlt)⟩
     obtain ⟨g, off, s3, s4, e, hg, a0, a1, a2, a3, a4, r3, r4⟩ := is_at (HCI.out _ _ HJ.out.1) hx
     have hng : g ≠ wr.heap.size := Nat.ne_of_lt hg
     have hst : (storeCells ⟨wr.heap.size, 0, none⟩ [S x.name, I x.cat, I x.prio, .slice s3.a s3.n s3.c, .slice s4.a s4.n s4.c] 0).run Tryz.prog (wr.alloc (.cells #[.string ⟨#[]⟩, .int .i64 0, .int .i64 0, .slice none 0 0, .slice none 0 0] 103)) = .ok () (wr.alloc (.cells #[S x.name, I x.cat, I x.prio, .slice s3.a s3.n s3.c, .slice s4.a s4.n s4.c] 103)) :=
      run_storeCells_new (P := Tryz.prog) wr 103 #[.string ⟨#[]⟩, .int .i64 0, .int .i64 0, .slice none 0 0, .slice none 0 0] #[S x.name, I x.cat, I x.prio, .slice s3.a s3.n s3.c, .slice s4.a s4.n s4.c] (by kernel_rfl) rfl (by simp [Value.oneCell'])
     have hal := below_alloc wr (.cells #[S x.name, I x.cat, I x.prio, .slice s3.a s3.n s3.c, .slice s4.a s4.n s4.c] 103)
     have hwl := heap_lt HJ.out.2
     have cx := HDI.out j x s3 _ hx (r3.below hal (fun _ _ _ _ h => h)) (HSI.out _ _ _ HJ.out.1 hal) (Nat.lt_of_lt_of_le hwl hal.size)
     have HB : Hid ((wr.alloc (.cells #[S x.name, I x.cat, I x.prio, .slice s3.a s3.n s3.c, .slice s4.a s4.n s4.c] 103)).heap[w.heap.size]? = some (.cells C 33 (0, 0))) := heap_over _ _ HJ.out.2
     unfold usC at cx
     rw [e]
     clear hx e HJ hal r3 r4
     go_wp2
     refine cx.mono ?_
     clear cx
     rintro e5 w5 ⟨rfl, hi5, hb5, hs5⟩
     have HJ5 : Hid (II (j + 1) w5 ∧ w5.heap[w.heap.size]? = some (.cells C 33 (0, 0))) := ⟨hi5, hb5.trans HB.out⟩
     clear hi5 hb5 hs5 HB
     go_wp2
     go_roundw
     case rel => exact ⟨j + 1, by omega, by go_num, HJ5.out⟩
     case measure => simp [intOf]; omega
    ·obtain rfl : j = v.i.n := by omega
     have hlt' : ¬ ((v.i.n : Nat) : Int) < (v.i.n : Nat) := by omega
     go_wp2
     refine bodyPost_end (v := .tuple #[]) (by simp [results, Tryz.results103, go_sem]) rfl ?_
     exact ⟨rfl, by rw [← HNI.out]; exact HJ.out.1⟩
def BoxB (w : World) (b : Nat) (m : Bool) : Prop := w.heap[b]? = some (.cells #[.bool m] 4 (0, 0))
def BoxC (w : World) (b : Nat) (c : Cf) (v : Vs) : Prop := w.heap[b]? = some (.cells (cfC c v) 33 (0, 0))
theorem heap_kept {w w' : World} {r : Option Nat} {g : Nat} {o : Obj} (h : w.heap[g]? = some o) (hg : w.grownBy w' r) (hne : some g ≠ r) : w'.heap[g]? = some o := (hg.block g (heap_lt h) hne).trans h
theorem boxed_set {w : World} {b : Nat} {m : Bool} (h : BoxB w b m) (o : Obj) (m' : Bool) : w.grownBy ((w.setCell ⟨b, 0, none⟩ (.bool m')).alloc o) (some b) ∧ BoxB ((w.setCell ⟨b, 0, none⟩ (.bool m')).alloc o) b m' := by
 have h1 := heap_setCell_same w b 0 _ _ (.bool m') h
 refine ⟨grown_same (grown_set w b 0 _) (World.grownBy_alloc _ o (some b)), heap_over _ o h1⟩
theorem namesMeet1_any (W : World) (c : Cf) (v : Vs) (isr : Bool) (id : Nat) (prio : Int) (s : Sl) (l : List Int) (hl : RowsAt W 1 intP s l) (bm bc : Nat) (m : Bool) (hm : BoxB W bm m) (hc : BoxC W bc c v) :
  Calls Tryz.prog 159 #[.agg (usC isr id prio s), .pointer (some ⟨bm, 0, none⟩), .pointer (some ⟨bc, 0, none⟩)] W fun e w' => e = .returned (.tuple #[]) ∧ W.grownBy w' (some bm) ∧ BoxB w' bm (m && risF (-1) l v.r.n) := by
 have hbl := heap_lt hm
 have hcl := heap_lt hc
 have x0 : W.cell? ⟨bm, 0, none⟩ = some (.bool m) := by rw [cell_of_row W bm 0 _ _ (0, 0) hm]; rfl
 have x1 : W.frozen? ⟨bm, 0, none⟩ = false := frozen_of_row W bm 0 _ _ hm
 have y12 : W.cell? ⟨bc, 12, none⟩ = some (.slice v.r.a v.r.n v.r.c) := by
  obtain ⟨_, h10, h11, h12, h13, h14, h15, h16, h17⟩ := var18_all hc
  exact h12
 have hset := boxed_set hm (.cells (usC isr id prio s) 181)
 have cr := fun W' (hW : Below W.heap.size W W') => crises_any W' s l (hl.below hW (fun _ _ _ _ h => h)) v.r.n
 have hb := below_alloc W (.cells (usC isr id prio s) 181)
 have k1 := cr _ hb
 have hnb : bm ≠ W.heap.size := Nat.ne_of_lt hbl
 have hnc : bc ≠ W.heap.size := Nat.ne_of_lt hcl
 generalize risF (-1) l v.r.n = br at *
 unfold usC at *
 clear hl hm hc cr hb
 cases m with
 | false =>
  have HS : Hid _ := hset false
  clear hset k1
  go_enter Tryz.func159, Tryz.ntmps159
  go_wp2
  refine bodyPost_end (v := .tuple #[]) (by simp [results, Tryz.results159, go_sem]) rfl ?_
  exact ⟨rfl, HS.out⟩
 | true =>
  have HS : Hid _ := hset br
  clear hset
  go_enter Tryz.func159, Tryz.ntmps159
  go_wp2_with (go_at_call 160; refine k1.mono ?_; clear k1; rintro e w' ⟨rfl, rfl⟩)
  refine bodyPost_end (v := .tuple #[]) (by simp [results, Tryz.results159, go_sem]) rfl ?_
  exact ⟨rfl, HS.out⟩
def risT (c : Cf) (x : Tk) : Bool := risF (-1) x.res c.ress.length
def risI (c : Cf) (x : Is) : Bool := risF (-1) x.res c.ress.length
def meetB (c : Cf) : Bool := c.tasks.all (risT c) && c.isrs.all (risI c)
theorem namesMeet_any (w : World) (c : Cf) (v : Vs) (h : CfAt w c v) : Calls Tryz.prog 98 #[.agg (cfC c v)] w fun e w' => Ans w (meetB c) e w' := by
 have hi18 : (Tryz.prog.info? 33).map (·.size) = some (cfC c v).size := by rw [show (cfC c v).size = 18 from rfl]; kernel_rfl
 have hV2 := heap_two0 w (.cells (cfC c v) 33) (.cells #[.bool true] 4)
 have hM2 := heap_two w (.cells (cfC c v) 33) (.cells #[.bool true] 4)
 have hb2 : Below w.heap.size w ((w.alloc (.cells (cfC c v) 33)).alloc (.cells #[.bool true] 4)) := ((Below.refl w.heap.size w).alloc (Nat.le_refl _) _).alloc (by simp) _
 have hs2 : ((w.alloc (.cells (cfC c v) 33)).alloc (.cells #[.bool true] 4)).heap.size = w.heap.size + 2 := by simp
 have HNR : Hid (v.r.n = c.ress.length) := h.r.n
 have hst : (storeCells ⟨w.heap.size + 1, 0, none⟩ [.bool true] 0).run Tryz.prog ((w.alloc (.cells (cfC c v) 33)).alloc (.cells #[.bool false] 4)) = .ok () ((w.alloc (.cells (cfC c v) 33)).alloc (.cells #[.bool true] 4)) := by
  have := run_storeCells_new (P := Tryz.prog) (w.alloc (.cells (cfC c v) 33)) 4 #[.bool false] #[.bool true] (by kernel_rfl) rfl (by simp [Value.oneCell'])
  rwa [show (w.alloc (.cells (cfC c v) 33)).heap.size = w.heap.size + 1 by simp] at this
 have ke : Calls Tryz.prog 103 #[.agg (cfC c v), .func (.func 159) #[] #[.pointer (some ⟨w.heap.size + 1, 0, none⟩), .pointer (some ⟨w.heap.size, 0, none⟩)]] ((w.alloc (.cells (cfC c v) 33)).alloc (.cells #[.bool true] 4)) fun e w' => e = .returned (.tuple #[]) ∧ BoxB w' (w.heap.size + 1) (meetB c) ∧ Below w.heap.size w w' := by
  refine (eachUser_any _ c v 159 #[.pointer (some ⟨w.heap.size + 1, 0, none⟩), .pointer (some ⟨w.heap.size, 0, none⟩)] (enters_of Tryz.func159 (by kernel_rfl) rfl)
   (fun j W => BoxB W (w.heap.size + 1) ((c.tasks.take j).all (risT c)) ∧ BoxC W w.heap.size c v ∧ Below w.heap.size w W)
   (fun j W => BoxB W (w.heap.size + 1) (c.tasks.all (risT c) && (c.isrs.take j).all (risI c)) ∧ BoxC W w.heap.size c v ∧ Below w.heap.size w W)
   (fun j W W' ⟨h1, h2, h3⟩ hb => ⟨(hb.block _ (heap_lt h1)).trans h1, (hb.block _ (heap_lt h2)).trans h2, h3.trans (hb.mono h3.size)⟩)
   (fun j W W' ⟨h1, h2, h3⟩ hb => ⟨(hb.block _ (heap_lt h1)).trans h1, (hb.block _ (heap_lt h2)).trans h2, h3.trans (hb.mono h3.size)⟩)
   (fun j W ⟨_, _, h3⟩ => h.below h3) (fun j W ⟨_, _, h3⟩ => h.below h3) ⟨hM2, hV2, hb2⟩ (fun W ⟨h1, h2, h3⟩ => ⟨by rw [List.take_of_length_le (Nat.le_refl _)] at h1; simpa using h1, h2, h3⟩) ?_ ?_).mono ?_
  ·intro j x s W hx hr ⟨h1, h2, h3⟩ hlt
   refine (namesMeet1_any W c v false j x.prio s x.res hr (w.heap.size + 1) w.heap.size _ h1 h2).mono ?_
   rintro e w' ⟨rfl, hg, hb⟩
   refine ⟨rfl, ⟨?_, heap_kept h2 hg (fun e => by have := Option.some.inj e; omega), h3.grown hg h3.size (fun k e => by cases e; omega)⟩, ?_, hg.size⟩
   ·rw [all_take _ _ j x hx]
    rw [HNR.out] at hb
    exact hb
   ·rw [hs2]
    exact hg.block _ (by rw [hs2] at hlt; exact hlt) (fun e => by have := Option.some.inj e; omega)
  ·intro j x s W hx hr ⟨h1, h2, h3⟩ hlt
   refine (namesMeet1_any W c v true j x.prio s x.res hr (w.heap.size + 1) w.heap.size _ h1 h2).mono ?_
   rintro e w' ⟨rfl, hg, hb⟩
   refine ⟨rfl, ⟨?_, heap_kept h2 hg (fun e => by have := Option.some.inj e; omega), h3.grown hg h3.size (fun k e => by cases e; omega)⟩, ?_, hg.size⟩
   ·rw [all_take _ _ j x hx, ← Bool.and_assoc]
    rw [HNR.out] at hb
    exact hb
   ·rw [hs2]
    exact hg.block _ (by rw [hs2] at hlt; exact hlt) (fun e => by have := Option.some.inj e; omega)
  ·rintro e w' ⟨rfl, h1, h2, h3⟩
   refine ⟨rfl, ?_, h3⟩
   rw [List.take_of_length_le (Nat.le_refl _)] at h1
   exact h1
 generalize meetB c = mb at *
 generalize cfC c v = C at *
 clear hM2 hb2 hs2 h
 go_enter Tryz.func98, Tryz.ntmps98
 go_wp2_with (first | (refine wpList_load_row rfl 33 _ rfl w.heap.size rfl 33 _ (0, 0) _ hV2 Tryz.underlying33 rfl hi18 ?_) | (go_at_call 103; refine ke.mono ?_; clear ke; rintro e w1 ⟨rfl, hb1, hbw1⟩; have z0 : w1.cell? ⟨w.heap.size + 1, 0, none⟩ = some (.bool mb) := (by rw [cell_of_row w1 _ 0 _ _ (0, 0) hb1]; rfl)))
 go_ret
 exact ⟨rfl, hbw1⟩
end Go.Proofs.YtpbnpmeigdjfdaaGreatDoor.Ce
