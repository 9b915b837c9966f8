import Derived.Test.YtmidaeljeoifdaaGreatDoorEcq
namespace Go.Proofs.YtmidaeljeoifdaaGreatDoor.Ce
set_option maxRecDepth 100000
set_option maxHeartbeats 16000000
open Go.RowKit Go.Maps
set_option linter.unusedVariables false
def usC (isr : Bool) (id : Nat) (prio : Int) (s : Sl) : Array Value := #[.bool isr, I (id : Int), I prio, .slice s.a s.n s.c]
theorem eachUser_any (w : World) (c : Cf) (v : Vs) (f : Nat) (caps : Array Value) (eg : ∀ args W, (callFunc f args).run Tryz.prog W = .ok (.enter f args) W)
  (IT II : Nat → World → Prop) (sT : ∀ j W W', IT j W → Below W.heap.size W W' → IT j W') (sI : ∀ j W W', II j W → Below W.heap.size W W' → II j W')
  (cT : ∀ j W, IT j W → CfAt W c v) (cI : ∀ j W, II j W → CfAt W c v) (h0 : IT 0 w) (hTI : ∀ W, IT c.tasks.length W → II 0 W)
  (dT : ∀ (j : Nat) (x : Tk) (s : Sl) (W : World), c.tasks[j]? = some x → RowsAt W 1 intP s x.res → IT j W → w.heap.size < W.heap.size → Calls Tryz.prog f (#[.agg (usC false j x.prio s)] ++ caps) W fun e w' => e = .returned (.tuple #[]) ∧ IT (j + 1) w' ∧ w'.heap[w.heap.size]? = W.heap[w.heap.size]? ∧ W.heap.size ≤ w'.heap.size)
  (dI : ∀ (j : Nat) (x : Is) (s : Sl) (W : World), c.isrs[j]? = some x → RowsAt W 1 intP s x.res → II j W → w.heap.size < W.heap.size → Calls Tryz.prog f (#[.agg (usC true j x.prio s)] ++ caps) W fun e w' => e = .returned (.tuple #[]) ∧ II (j + 1) w' ∧ w'.heap[w.heap.size]? = W.heap[w.heap.size]? ∧ W.heap.size ≤ w'.heap.size) :
  Calls Tryz.prog 130 #[.agg (cfC c v), .func (.func f) #[] caps] w fun e w' => e = .returned (.tuple #[]) ∧ II c.isrs.length w' := by
 have h := cT 0 w h0
 have HNT : Hid (v.t.n = c.tasks.length) := h.t.n
 have HNI : Hid (v.i.n = c.isrs.length) := h.i.n
 have hct : v.t.n ≤ v.t.c := h.t.c
 have hmt : v.t.c ≤ maxLen := h.t.m
 have hci : v.i.n ≤ v.i.c := h.i.c
 have hmi : v.i.c ≤ maxLen := h.i.m
 unfold maxLen at hmt hmi
 have hV0 := heap_alloc_new w (.cells (cfC c v) 47)
 have hb := below_alloc w (.cells (cfC c v) 47)
 have HI0 : Hid (IT 0 (w.alloc (.cells (cfC c v) 47))) := sT 0 _ _ h0 hb
 have f11 : ∀ h : 11 < (cfC c v).size, (cfC c v)[11] = .slice v.t.a v.t.n v.t.c := fun _ => rfl
 have hcv : ∀ W : World, W.heap[w.heap.size]? = some (.cells (cfC c v) 47 (0, 0)) → W.cell? ⟨w.heap.size, 16, none⟩ = some (.slice v.i.a v.i.n v.i.c) := fun W hW => by
  obtain ⟨_, h10, h11, h12, h13, h14, h15, h16, h17⟩ := var18_all hW
  exact h16
 have hs18 : (cfC c v).size = 18 := rfl
 generalize cfC c v = C at *
 replace f11 := f11 (by omega)
 have HV0 : Hid ((w.alloc (.cells C 47)).heap[w.heap.size]? = some (.cells C 47 (0, 0))) := hV0
 have HCV : Hid (∀ W : World, W.heap[w.heap.size]? = some (.cells C 47 (0, 0)) → W.cell? ⟨w.heap.size, 16, none⟩ = some (.slice v.i.a v.i.n v.i.c)) := hcv
 have HST : Hid (∀ j W W', IT j W → Below W.heap.size W W' → IT j W') := sT
 have HSI : Hid (∀ j W W', II j W → Below W.heap.size W W' → II j W') := sI
 have HCT : Hid (∀ j W, IT j W → CfAt W c v) := cT
 have HCI : Hid (∀ j W, II j W → CfAt W c v) := cI
 have HTI : Hid (∀ W, IT c.tasks.length W → II 0 W) := hTI
 have HDT : Hid (∀ (j : Nat) (x : Tk) (s : Sl) (W : World), c.tasks[j]? = some x → RowsAt W 1 intP s x.res → IT j W → w.heap.size < W.heap.size → Calls Tryz.prog f (#[.agg (usC false j x.prio s)] ++ caps) W fun e w' => e = .returned (.tuple #[]) ∧ IT (j + 1) w' ∧ w'.heap[w.heap.size]? = W.heap[w.heap.size]? ∧ W.heap.size ≤ w'.heap.size) := dT
 have HDI : Hid (∀ (j : Nat) (x : Is) (s : Sl) (W : World), c.isrs[j]? = some x → RowsAt W 1 intP s x.res → II j W → w.heap.size < W.heap.size → Calls Tryz.prog f (#[.agg (usC true j x.prio s)] ++ caps) W fun e w' => e = .returned (.tuple #[]) ∧ II (j + 1) w' ∧ w'.heap[w.heap.size]? = W.heap[w.heap.size]? ∧ W.heap.size ≤ w'.heap.size) := dI
 clear h h0 hb hV0 hcv sT sI cT cI hTI dT dI
 go_enter Tryz.func130, Tryz.ntmps130
 go_wp2
 clear f11
 go_loopw [4, 5, 11] (fun _ _ iv wr => ∃ j : Nat, j ≤ v.t.n ∧ iv = .int .i64 j ∧ Hid (IT j wr ∧ wr.heap[w.heap.size]? = some (.cells C 47 (0, 0)))) (fun _ _ iv _ => v.t.n - (intOf iv).toNat)
 case atStart => exact ⟨0, by omega, rfl, HI0.out, HV0.out⟩
 case round =>
  clear HI0 HV0
  obtain ⟨j, hj, rfl, HJ⟩ := hrel
  by_cases hlt : j < v.t.n
  ·have hlt' : (j : Int) < v.t.n := by omega
   obtain ⟨x, hx⟩ : ∃ x, c.tasks[j]? = some x := ⟨_, List.getElem?_eq_getElem (by rw [← HNT.out]; exact hlt)⟩
   obtain ⟨g, off, s4, s5, s6, s7, e, hg, a0, a1, a2, a3, a4, a5, a6, a7, r4, r5, r6, r7⟩ := tk_at (HCT.out _ _ HJ.out.1) hx
   have hng : g ≠ wr.heap.size := Nat.ne_of_lt hg
   have hst : (storeCells ⟨wr.heap.size, 0, none⟩ [S x.name, I x.prio, .bool x.full, I x.act, .slice s4.a s4.n s4.c, .slice s5.a s5.n s5.c, .slice s6.a s6.n s6.c, .slice s7.a s7.n s7.c] 0).run Tryz.prog (wr.alloc (.cells #[.string ⟨#[]⟩, .int .i64 0, .bool false, .int .i64 0, .slice none 0 0, .slice none 0 0, .slice none 0 0, .slice none 0 0] 58)) = .ok () (wr.alloc (.cells #[S x.name, I x.prio, .bool x.full, I x.act, .slice s4.a s4.n s4.c, .slice s5.a s5.n s5.c, .slice s6.a s6.n s6.c, .slice s7.a s7.n s7.c] 58)) :=
    run_storeCells_new (P := Tryz.prog) wr 58 #[.string ⟨#[]⟩, .int .i64 0, .bool false, .int .i64 0, .slice none 0 0, .slice none 0 0, .slice none 0 0, .slice none 0 0] #[S x.name, I x.prio, .bool x.full, I x.act, .slice s4.a s4.n s4.c, .slice s5.a s5.n s5.c, .slice s6.a s6.n s6.c, .slice s7.a s7.n s7.c] (by kernel_rfl) rfl (by simp [Value.oneCell'])
   have hal := below_alloc wr (.cells #[S x.name, I x.prio, .bool x.full, I x.act, .slice s4.a s4.n s4.c, .slice s5.a s5.n s5.c, .slice s6.a s6.n s6.c, .slice s7.a s7.n s7.c] 58)
   have hwl := heap_lt HJ.out.2
   have cx := HDT.out j x s5 _ hx (r5.below hal (fun _ _ _ _ h => h)) (HST.out _ _ _ HJ.out.1 hal) (Nat.lt_of_lt_of_le hwl hal.size)
   have HB : Hid ((wr.alloc (.cells #[S x.name, I x.prio, .bool x.full, I x.act, .slice s4.a s4.n s4.c, .slice s5.a s5.n s5.c, .slice s6.a s6.n s6.c, .slice s7.a s7.n s7.c] 58)).heap[w.heap.size]? = some (.cells C 47 (0, 0))) := heap_over _ _ HJ.out.2
   unfold usC at cx
   rw [e]
   clear hx e HJ hal r4 r5 r6 r7
   go_wp2
   refine cx.mono ?_
   clear cx
   rintro e5 w5 ⟨rfl, hi5, hb5, hs5⟩
   have HJ5 : Hid (IT (j + 1) w5 ∧ w5.heap[w.heap.size]? = some (.cells C 47 (0, 0))) := ⟨hi5, hb5.trans HB.out⟩
   clear hi5 hb5 hs5 HB
   go_wp2
   go_roundw
   case rel => exact ⟨j + 1, by omega, by go_num, HJ5.out⟩
   case measure => simp [intOf]; omega
  ·obtain rfl : j = v.t.n := by omega
   have hlt' : ¬ ((v.t.n : Nat) : Int) < (v.t.n : Nat) := by omega
   have c16 := HCV.out _ HJ.out.2
   have HI1 : Hid (II 0 wr ∧ wr.heap[w.heap.size]? = some (.cells C 47 (0, 0))) := ⟨HTI.out _ (by rw [← HNT.out]; exact HJ.out.1), HJ.out.2⟩
   clear HJ HDT HST HCT
   go_wp2
   clear c16
   go_loopw [6, 7, 28] (fun _ _ iv wr => ∃ j : Nat, j ≤ v.i.n ∧ iv = .int .i64 j ∧ Hid (II j wr ∧ wr.heap[w.heap.size]? = some (.cells C 47 (0, 0)))) (fun _ _ iv _ => v.i.n - (intOf iv).toNat)
   case atStart => exact ⟨0, by omega, rfl, HI1.out⟩
   case round =>
    clear HI1
    obtain ⟨j, hj, rfl, HJ⟩ := hrel
    by_cases hlt : j < v.i.n
    ·have hlt' : (j : Int) < v.i.n := by omega
     obtain ⟨x, hx⟩ : ∃ x, c.isrs[j]? = some x := ⟨_, List.getElem?_eq_getElem (by rw [← HNI.out]; exact hlt)⟩
     obtain ⟨g, off, s3, s4, e, hg, a0, a1, a2, a3, a4, r3, r4⟩ := is_at (HCI.out _ _ HJ.out.1) hx
     have hng : g ≠ wr.heap.size := Nat.ne_of_lt hg
     have hst : (storeCells ⟨wr.heap.size, 0, none⟩ [S x.name, I x.cat, I x.prio, .slice s3.a s3.n s3.c, .slice s4.a s4.n s4.c] 0).run Tryz.prog (wr.alloc (.cells #[.string ⟨#[]⟩, .int .i64 0, .int .i64 0, .slice none 0 0, .slice none 0 0] 88)) = .ok () (wr.alloc (.cells #[S x.name, I x.cat, I x.prio, .slice s3.a s3.n s3.c, .slice s4.a s4.n s4.c] 88)) :=
      run_storeCells_new (P := Tryz.prog) wr 88 #[.string ⟨#[]⟩, .int .i64 0, .int .i64 0, .slice none 0 0, .slice none 0 0] #[S x.name, I x.cat, I x.prio, .slice s3.a s3.n s3.c, .slice s4.a s4.n s4.c] (by kernel_rfl) rfl (by simp [Value.oneCell'])
     have hal := below_alloc wr (.cells #[S x.name, I x.cat, I x.prio, .slice s3.a s3.n s3.c, .slice s4.a s4.n s4.c] 88)
     have hwl := heap_lt HJ.out.2
     have cx := HDI.out j x s3 _ hx (r3.below hal (fun _ _ _ _ h => h)) (HSI.out _ _ _ HJ.out.1 hal) (Nat.lt_of_lt_of_le hwl hal.size)
     have HB : Hid ((wr.alloc (.cells #[S x.name, I x.cat, I x.prio, .slice s3.a s3.n s3.c, .slice s4.a s4.n s4.c] 88)).heap[w.heap.size]? = some (.cells C 47 (0, 0))) := heap_over _ _ HJ.out.2
     unfold usC at cx
     rw [e]
     clear hx e HJ hal r3 r4
     go_wp2
     refine cx.mono ?_
     clear cx
     rintro e5 w5 ⟨rfl, hi5, hb5, hs5⟩
     have HJ5 : Hid (II (j + 1) w5 ∧ w5.heap[w.heap.size]? = some (.cells C 47 (0, 0))) := ⟨hi5, hb5.trans HB.out⟩
     clear hi5 hb5 hs5 HB
     go_wp2
     go_roundw
     case rel => exact ⟨j + 1, by omega, by go_num, HJ5.out⟩
     case measure => simp [intOf]; omega
    ·obtain rfl : j = v.i.n := by omega
     have hlt' : ¬ ((v.i.n : Nat) : Int) < (v.i.n : Nat) := by omega
     go_wp2
     refine bodyPost_end (v := .tuple #[]) (by simp [results, Tryz.results130, go_sem]) rfl ?_
     exact ⟨rfl, by rw [← HNI.out]; exact HJ.out.1⟩
end Go.Proofs.YtmidaeljeoifdaaGreatDoor.Ce
