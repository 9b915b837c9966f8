import Derived.Test.YtmidaeljeoifdaaGreatDoorTcw
namespace Go.Proofs.YtmidaeljeoifdaaGreatDoor
set_option maxRecDepth 100000
set_option maxHeartbeats 16000000
open Go.RowKit Go.Shelf Go.Sort
set_option linter.unusedVariables false
set_option linter.unusedSimpArgs false
theorem sum_alr (w : World) (s : Sl) (l : List AlR) (hl : ∀ W, Below w.heap.size w W → RowsAt W 7 alrP s l) (f : Nat) (caps : Array Value) (eg : ∀ args W, (callFunc f args).run Tryz.prog W = .ok (.enter f args) W) (p : AlR → Int)
  (hf : ∀ W, Below w.heap.size w W → ∀ x ∈ l, Calls Tryz.prog f (#[.agg #[I x.ctr, I x.ac.kind, I x.ac.task, .int .u32 (x.ac.mask : Int), .int .u32 (x.auto : Int), .int .u32 (x.time : Int), .int .u32 (x.cycle : Int)]] ++ caps) W fun e w' => e = .returned (I (p x)) ∧ Below W.heap.size W w') :
  Calls Tryz.prog 118 #[.slice s.a s.n s.c, .func (.func f) #[] caps] w fun e w' => e = .returned (I (IntKind.i64.wrap (sumZ p l))) ∧ Below w.heap.size w w' := by
 have h0 := hl w (Below.refl _ _)
 have HS : Hid (s.n = l.length) := h0.n
 have hsc : s.n ≤ s.c := h0.c
 have hsm : s.c ≤ maxLen := h0.m
 unfold maxLen at hsm
 have HH : Hid (∀ W, Below w.heap.size w W → RowsAt W 7 alrP s l) := hl
 have HFF : Hid (∀ W, Below w.heap.size w W → ∀ x ∈ l, Calls Tryz.prog f (#[.agg #[I x.ctr, I x.ac.kind, I x.ac.task, .int .u32 (x.ac.mask : Int), .int .u32 (x.auto : Int), .int .u32 (x.time : Int), .int .u32 (x.cycle : Int)]] ++ caps) W fun e w' => e = .returned (I (p x)) ∧ Below W.heap.size W w') := hf
 obtain ⟨R, hR⟩ : ∃ R, R = IntKind.i64.wrap (sumZ p l) := ⟨_, rfl⟩
 rw [← hR]
 have HR : Hid (R = IntKind.i64.wrap (sumZ p l)) := hR
 clear hl hR hf h0
 go_enter Tryz.func118, Tryz.ntmps118
 go_wp2
 go_loopw [5, 7, 10] (fun tv _ iv wr => ∃ (j : Nat) (t : Int), j ≤ s.n ∧ iv = .int .i64 j ∧ tv = .int .i64 t ∧ Hid (t = IntKind.i64.wrap (sumZ p (l.take j)) ∧ Below w.heap.size w wr)) (fun _ _ iv _ => s.n - (intOf iv).toNat)
 case atStart => exact ⟨0, 0, by omega, rfl, rfl, by simp [sumZ, IntKind.wrap_i64], Below.refl _ _⟩
 case round =>
  obtain ⟨j, t, hj, rfl, rfl, HJ⟩ := hrel
  by_cases hlt : j < s.n
  ·have hlt' : (j : Int) < s.n := by omega
   obtain ⟨x, hx⟩ : ∃ x, l[j]? = some x := ⟨_, List.getElem?_eq_getElem (by rw [← HS.out]; exact hlt)⟩
   obtain ⟨g5, o5, e5, hg5, hr5⟩ := (HH.out _ HJ.out.2).row j x hx
   obtain ⟨u0, a0, q0⟩ := hr5 0 (by omega)
   obtain ⟨u1, a1, q1⟩ := hr5 1 (by omega)
   obtain ⟨u2, a2, q2⟩ := hr5 2 (by omega)
   obtain ⟨u3, a3, q3⟩ := hr5 3 (by omega)
   obtain ⟨u4, a4, q4⟩ := hr5 4 (by omega)
   obtain ⟨u5, a5, q5⟩ := hr5 5 (by omega)
   obtain ⟨u6, a6, q6⟩ := hr5 6 (by omega)
   have f0 : u0 = I x.ctr := q0
   have f1 : u1 = I x.ac.kind := q1
   have f2 : u2 = I x.ac.task := q2
   have f3 : u3 = .int .u32 (x.ac.mask : Int) := q3
   have f4 : u4 = .int .u32 (x.auto : Int) := q4
   have f5 : u5 = .int .u32 (x.time : Int) := q5
   have f6 : u6 = .int .u32 (x.cycle : Int) := q6
   subst f0 f1 f2 f3 f4 f5 f6
   rw [Nat.add_zero] at a0
   have HB : Hid (Below w.heap.size w (wr.alloc (.cells #[I x.ctr, I x.ac.kind, I x.ac.task, .int .u32 (x.ac.mask : Int), .int .u32 (x.auto : Int), .int .u32 (x.time : Int), .int .u32 (x.cycle : Int)] 95))) := HJ.out.2.trans ((below_alloc wr _).mono HJ.out.2.size)
   have cx := HFF.out _ HB.out x (List.mem_of_getElem? hx)
   have HA : Hid (IntKind.i64.wrap (t + p x) = IntKind.i64.wrap (sumZ p (l.take (j + 1)))) := by
    show _ = _
    rw [List.take_add_one, hx, Option.toList_some, sumZ_snoc, HJ.out.1]
    simp only [IntKind.wrap_i64]
    omega
   rw [e5]
   clear hx e5 HJ hr5 q0 q1 q2 q3 q4 q5 q6
   generalize p x = px at *
   go_wp2
   refine cx.mono ?_
   clear cx
   rintro e7 w7 ⟨rfl, hb7⟩
   have HB7 : Hid (Below w.heap.size w w7) := HB.out.trans (hb7.mono HB.out.size)
   clear hb7
   go_wp2
   go_roundw
   case rel => exact ⟨j + 1, IntKind.i64.wrap (t + px), by omega, by go_num, by simp [IntKind.wrap_i64, wrap64], HA.out, HB7.out⟩
   case measure => simp [intOf]; omega
  ·obtain rfl : j = s.n := by omega
   have hlt' : ¬ ((s.n : Nat) : Int) < (s.n : Nat) := by omega
   have HE : Hid (t = R) := by
    show _ = _
    rw [HR.out, HJ.out.1, List.take_of_length_le (by rw [HS.out]; exact Nat.le_refl _)]
   have HB : Hid (Below w.heap.size w wr) := HJ.out.2
   clear HR HJ
   go_wp2
   go_ret
   exact ⟨ret_i HE.out, HB.out⟩
theorem sum_msr (w : World) (s : Sl) (l : List MsR) (hl : ∀ W, Below w.heap.size w W → RowsAt W 8 msrP s l) (f : Nat) (caps : Array Value) (eg : ∀ args W, (callFunc f args).run Tryz.prog W = .ok (.enter f args) W) (p : MsR → Int)
  (hf : ∀ W, Below w.heap.size w W → ∀ x ∈ l, Calls Tryz.prog f (#[.agg #[I x.kind, I x.len, I x.frm, .int .u64 (x.init : Int), I x.queue, I x.ac.kind, I x.ac.task, .int .u32 (x.ac.mask : Int)]] ++ caps) W fun e w' => e = .returned (I (p x)) ∧ Below W.heap.size W w') :
  Calls Tryz.prog 120 #[.slice s.a s.n s.c, .func (.func f) #[] caps] w fun e w' => e = .returned (I (IntKind.i64.wrap (sumZ p l))) ∧ Below w.heap.size w w' := by
 have h0 := hl w (Below.refl _ _)
 have HS : Hid (s.n = l.length) := h0.n
 have hsc : s.n ≤ s.c := h0.c
 have hsm : s.c ≤ maxLen := h0.m
 unfold maxLen at hsm
 have HH : Hid (∀ W, Below w.heap.size w W → RowsAt W 8 msrP s l) := hl
 have HFF : Hid (∀ W, Below w.heap.size w W → ∀ x ∈ l, Calls Tryz.prog f (#[.agg #[I x.kind, I x.len, I x.frm, .int .u64 (x.init : Int), I x.queue, I x.ac.kind, I x.ac.task, .int .u32 (x.ac.mask : Int)]] ++ caps) W fun e w' => e = .returned (I (p x)) ∧ Below W.heap.size W w') := hf
 obtain ⟨R, hR⟩ : ∃ R, R = IntKind.i64.wrap (sumZ p l) := ⟨_, rfl⟩
 rw [← hR]
 have HR : Hid (R = IntKind.i64.wrap (sumZ p l)) := hR
 clear hl hR hf h0
 go_enter Tryz.func120, Tryz.ntmps120
 go_wp2
 go_loopw [5, 7, 10] (fun tv _ iv wr => ∃ (j : Nat) (t : Int), j ≤ s.n ∧ iv = .int .i64 j ∧ tv = .int .i64 t ∧ Hid (t = IntKind.i64.wrap (sumZ p (l.take j)) ∧ Below w.heap.size w wr)) (fun _ _ iv _ => s.n - (intOf iv).toNat)
 case atStart => exact ⟨0, 0, by omega, rfl, rfl, by simp [sumZ, IntKind.wrap_i64], Below.refl _ _⟩
 case round =>
  obtain ⟨j, t, hj, rfl, rfl, HJ⟩ := hrel
  by_cases hlt : j < s.n
  ·have hlt' : (j : Int) < s.n := by omega
   obtain ⟨x, hx⟩ : ∃ x, l[j]? = some x := ⟨_, List.getElem?_eq_getElem (by rw [← HS.out]; exact hlt)⟩
   obtain ⟨g5, o5, e5, hg5, hr5⟩ := (HH.out _ HJ.out.2).row j x hx
   obtain ⟨u0, a0, q0⟩ := hr5 0 (by omega)
   obtain ⟨u1, a1, q1⟩ := hr5 1 (by omega)
   obtain ⟨u2, a2, q2⟩ := hr5 2 (by omega)
   obtain ⟨u3, a3, q3⟩ := hr5 3 (by omega)
   obtain ⟨u4, a4, q4⟩ := hr5 4 (by omega)
   obtain ⟨u5, a5, q5⟩ := hr5 5 (by omega)
   obtain ⟨u6, a6, q6⟩ := hr5 6 (by omega)
   obtain ⟨u7, a7, q7⟩ := hr5 7 (by omega)
   have f0 : u0 = I x.kind := q0
   have f1 : u1 = I x.len := q1
   have f2 : u2 = I x.frm := q2
   have f3 : u3 = .int .u64 (x.init : Int) := q3
   have f4 : u4 = I x.queue := q4
   have f5 : u5 = I x.ac.kind := q5
   have f6 : u6 = I x.ac.task := q6
   have f7 : u7 = .int .u32 (x.ac.mask : Int) := q7
   subst f0 f1 f2 f3 f4 f5 f6 f7
   rw [Nat.add_zero] at a0
   have HB : Hid (Below w.heap.size w (wr.alloc (.cells #[I x.kind, I x.len, I x.frm, .int .u64 (x.init : Int), I x.queue, I x.ac.kind, I x.ac.task, .int .u32 (x.ac.mask : Int)] 99))) := HJ.out.2.trans ((below_alloc wr _).mono HJ.out.2.size)
   have cx := HFF.out _ HB.out x (List.mem_of_getElem? hx)
   have HA : Hid (IntKind.i64.wrap (t + p x) = IntKind.i64.wrap (sumZ p (l.take (j + 1)))) := by
    show _ = _
    rw [List.take_add_one, hx, Option.toList_some, sumZ_snoc, HJ.out.1]
    simp only [IntKind.wrap_i64]
    omega
   rw [e5]
   clear hx e5 HJ hr5 q0 q1 q2 q3 q4 q5 q6 q7
   generalize p x = px at *
   go_wp2
   refine cx.mono ?_
   clear cx
   rintro e7 w7 ⟨rfl, hb7⟩
   have HB7 : Hid (Below w.heap.size w w7) := HB.out.trans (hb7.mono HB.out.size)
   clear hb7
   go_wp2
   go_roundw
   case rel => exact ⟨j + 1, IntKind.i64.wrap (t + px), by omega, by go_num, by simp [IntKind.wrap_i64, wrap64], HA.out, HB7.out⟩
   case measure => simp [intOf]; omega
  ·obtain rfl : j = s.n := by omega
   have hlt' : ¬ ((s.n : Nat) : Int) < (s.n : Nat) := by omega
   have HE : Hid (t = R) := by
    show _ = _
    rw [HR.out, HJ.out.1, List.take_of_length_le (by rw [HS.out]; exact Nat.le_refl _)]
   have HB : Hid (Below w.heap.size w wr) := HJ.out.2
   clear HR HJ
   go_wp2
   go_ret
   exact ⟨ret_i HE.out, HB.out⟩
theorem calls_any (a : AcR) (w : World) : Calls Tryz.prog 171 #[.agg #[I a.kind, I a.task, .int .u32 (a.mask : Int)]] w fun e w' => e = .returned (I (if a.kind = 3 then 1 else 0)) ∧ Below w.heap.size w w' := by
 have hb : ∀ o, Below w.heap.size w (w.alloc o) := fun o => below_alloc w o
 by_cases h : a.kind = 3
 ·rw [if_pos h]
  have h1 : (a.kind == 3) = true := by simpa using h
  clear h
  go_enter Tryz.func171, Tryz.ntmps171
  go_wp2
  go_ret
  exact ⟨rfl, hb _⟩
 ·rw [if_neg h]
  have h1 : (a.kind == 3) = false := by simpa using h
  clear h
  go_enter Tryz.func171, Tryz.ntmps171
  go_wp2
  go_ret
  exact ⟨rfl, hb _⟩
theorem callsAl_any (x : AlR) (w : World) : Calls Tryz.prog 119 #[.agg (alrC x)] w fun e w' => e = .returned (I (if x.ac.kind = 3 then 1 else 0)) ∧ Below w.heap.size w w' := by
 have hb : ∀ o, Below w.heap.size w (w.alloc o) := fun o => below_alloc w o
 have kc := fun W => calls_any x.ac W
 unfold alrC
 generalize (if x.ac.kind = 3 then (1 : Int) else 0) = rr at *
 go_enter Tryz.func119, Tryz.ntmps119
 go_wp2_with (go_at_call 171; refine (kc _).mono ?_; clear kc; rintro e w' ⟨rfl, hb2⟩)
 go_ret
 exact ⟨rfl, (hb _).trans (hb2.mono (hb _).size)⟩
theorem callsMs_any (x : MsR) (w : World) : Calls Tryz.prog 121 #[.agg (msrC x)] w fun e w' => e = .returned (I (if x.ac.kind = 3 then 1 else 0)) ∧ Below w.heap.size w w' := by
 have hb : ∀ o, Below w.heap.size w (w.alloc o) := fun o => below_alloc w o
 have kc := fun W => calls_any x.ac W
 unfold msrC
 generalize (if x.ac.kind = 3 then (1 : Int) else 0) = rr at *
 go_enter Tryz.func121, Tryz.ntmps121
 go_wp2_with (go_at_call 171; refine (kc _).mono ?_; clear kc; rintro e w' ⟨rfl, hb2⟩)
 go_ret
 exact ⟨rfl, (hb _).trans (hb2.mono (hb _).size)⟩
theorem counterOf_any (x : AlR) (w : World) : Calls Tryz.prog 113 #[.agg (alrC x)] w fun e w' => e = .returned (I x.ctr) ∧ Below w.heap.size w w' := by
 have hb : ∀ o, Below w.heap.size w (w.alloc o) := fun o => below_alloc w o
 unfold alrC
 go_enter Tryz.func113, Tryz.ntmps113
 go_wp2
 go_ret
 exact ⟨rfl, hb _⟩
theorem senderOf_any (x : MsR) (w : World) : Calls Tryz.prog 117 #[.agg (msrC x)] w fun e w' => e = .returned (I x.frm) ∧ Below w.heap.size w w' := by
 have hb : ∀ o, Below w.heap.size w (w.alloc o) := fun o => below_alloc w o
 unfold msrC
 go_enter Tryz.func117, Tryz.ntmps117
 go_wp2
 go_ret
 exact ⟨rfl, hb _⟩
theorem isReceived_any (x : MsR) (w : World) : Calls Tryz.prog 116 #[.agg (msrC x)] w fun e w' => e = .returned (.bool (x.kind != 1)) ∧ Below w.heap.size w w' := by
 have hb : ∀ o, Below w.heap.size w (w.alloc o) := fun o => below_alloc w o
 unfold msrC
 go_enter Tryz.func116, Tryz.ntmps116
 go_wp2
 go_ret
 exact ⟨rfl, hb _⟩
end Go.Proofs.YtmidaeljeoifdaaGreatDoor
