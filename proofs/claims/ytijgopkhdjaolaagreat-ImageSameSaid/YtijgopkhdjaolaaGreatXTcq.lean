import Derived.Test.YtijgopkhdjaolaaGreatXTcw
import Derived.Deep.Cut
import Derived.Maps.OwnSet
import Derived.Maps.OwnOps
namespace Go.Proofs.YtijgopkhdjaolaaGreat
open Go.RowKit Go.Shelf Go.Sort
set_option linter.unusedSimpArgs false
set_option linter.unusedVariables false
set_option maxHeartbeats 16000000
set_option maxRecDepth 100000
theorem qlt (w : World) (s : Sl) (l : List AlR) (hl : ∀ W,Below w.heap.size w W → RowsAt W 7 alrP s l) (f : Nat) (caps : Array Value) (eg : ∀ args W,(callFunc f args).run Tryz.prog W = .ok (.enter f args) W) (p : AlR → Int)
  (hf : ∀ W,Below w.heap.size w W → ∀ x ∈ l,Calls Tryz.prog f (#[.agg #[I x.ctr,I x.ac.kind,I x.ac.task, .int .u32 (x.ac.mask : Int), .int .u32 (x.auto : Int), .int .u32 (x.time : Int), .int .u32 (x.cycle : Int)]] ++ caps) W fun e w' => e = .returned (I (p x)) ∧ Below W.heap.size W w') :
  Calls Tryz.prog 161 #[.slice s.a s.n s.c, .func (.func f) #[] caps] w fun e w' => e = .returned (I (IntKind.i64.wrap (sumZ p l))) ∧ Below w.heap.size w w' := by
 have h0 := hl w (Below.refl _ _)
 have HS : Hid (s.n = l.length) := h0.n
 have hsc : s.n ≤ s.c := h0.c
 have hsm : s.c ≤ maxLen := h0.m
 unfold maxLen at hsm
 have HH : Hid (∀ W,Below w.heap.size w W → RowsAt W 7 alrP s l) := hl
 have HFF : Hid (∀ W,Below w.heap.size w W → ∀ x ∈ l,Calls Tryz.prog f (#[.agg #[I x.ctr,I x.ac.kind,I x.ac.task, .int .u32 (x.ac.mask : Int), .int .u32 (x.auto : Int), .int .u32 (x.time : Int), .int .u32 (x.cycle : Int)]] ++ caps) W fun e w' => e = .returned (I (p x)) ∧ Below W.heap.size W w') := hf
 obtain ⟨R,hR⟩ : ∃ R,R = IntKind.i64.wrap (sumZ p l) := ⟨_,rfl⟩
 rw [← hR]
 have HR : Hid (R = IntKind.i64.wrap (sumZ p l)) := hR
 clear hl hR hf h0
 go_enter Tryz.func161,Tryz.ntmps161
 go_wp2
 go_loopw [5,7,10] (fun tv _ iv wr => ∃ (j : Nat) (t : Int),j ≤ s.n ∧ iv = .int .i64 j ∧ tv = .int .i64 t ∧ Hid (t = IntKind.i64.wrap (sumZ p (l.take j)) ∧ Below w.heap.size w wr)) (fun _ _ iv _ => s.n - (intOf iv).toNat)
 case atStart => exact ⟨0,0,by omega,rfl,rfl,by simp [sumZ,IntKind.wrap_i64],Below.refl _ _⟩
 case round =>
  obtain ⟨j,t,hj,rfl,rfl,HJ⟩ := hrel
  by_cases hlt : j < s.n
  ·have hlt' : (j : Int) < s.n := by omega
   obtain ⟨x,hx⟩ : ∃ x,l[j]? = some x := ⟨_,List.getElem?_eq_getElem (by rw [← HS.out]; exact hlt)⟩
   obtain ⟨g5,o5,e5,hg5,hr5⟩ := (HH.out _ HJ.out.2).row j x hx
   obtain ⟨u0,a0,q0⟩ := hr5 0 (by omega)
   obtain ⟨u1,a1,q1⟩ := hr5 1 (by omega)
   obtain ⟨u2,a2,q2⟩ := hr5 2 (by omega)
   obtain ⟨u3,a3,q3⟩ := hr5 3 (by omega)
   obtain ⟨u4,a4,q4⟩ := hr5 4 (by omega)
   obtain ⟨u5,a5,q5⟩ := hr5 5 (by omega)
   obtain ⟨u6,a6,q6⟩ := hr5 6 (by omega)
   have f0 : u0 = I x.ctr := q0
   have f1 : u1 = I x.ac.kind := q1
   have f2 : u2 = I x.ac.task := q2
   have f3 : u3 = .int .u32 (x.ac.mask : Int) := q3
   have f4 : u4 = .int .u32 (x.auto : Int) := q4
   have f5 : u5 = .int .u32 (x.time : Int) := q5
   have f6 : u6 = .int .u32 (x.cycle : Int) := q6
   subst f0 f1 f2 f3 f4 f5 f6
   rw [Nat.add_zero] at a0
   have HB : Hid (Below w.heap.size w (wr.alloc (.cells #[I x.ctr,I x.ac.kind,I x.ac.task, .int .u32 (x.ac.mask : Int), .int .u32 (x.auto : Int), .int .u32 (x.time : Int), .int .u32 (x.cycle : Int)] 85))) := HJ.out.2.trans ((qa0 wr _).mono HJ.out.2.size)
   have cx := HFF.out _ HB.out x (List.mem_of_getElem? hx)
   have HA : Hid (IntKind.i64.wrap (t + p x) = IntKind.i64.wrap (sumZ p (l.take (j + 1)))) := by
    show _ = _
    rw [List.take_add_one,hx,Option.toList_some,qdx,HJ.out.1]
    simp only [IntKind.wrap_i64]
    omega
   rw [e5]
   clear hx e5 HJ hr5 q0 q1 q2 q3 q4 q5 q6
   generalize p x = px at *
   go_wp2
   refine cx.mono ?_
   clear cx
   rintro e7 w7 ⟨rfl,hb7⟩
   have HB7 : Hid (Below w.heap.size w w7) := HB.out.trans (hb7.mono HB.out.size)
   clear hb7
   go_wp2
   go_roundw
   case rel => exact ⟨j + 1,IntKind.i64.wrap (t + px),by omega,by go_num,by simp [IntKind.wrap_i64,wrap64],HA.out,HB7.out⟩
   case measure => simp [intOf]; omega
  ·obtain rfl : j = s.n := by omega
   have hlt' : ¬ ((s.n : Nat) : Int) < (s.n : Nat) := by omega
   have HE : Hid (t = R) := by
    show _ = _
    rw [HR.out,HJ.out.1,List.take_of_length_le (by rw [HS.out]; exact Nat.le_refl _)]
   have HB : Hid (Below w.heap.size w wr) := HJ.out.2
   clear HR HJ
   go_wp2
   go_ret
   exact ⟨qen HE.out,HB.out⟩
theorem qlu (w : World) (s : Sl) (l : List MsR) (hl : ∀ W,Below w.heap.size w W → RowsAt W 8 msrP s l) (f : Nat) (caps : Array Value) (eg : ∀ args W,(callFunc f args).run Tryz.prog W = .ok (.enter f args) W) (p : MsR → Int)
  (hf : ∀ W,Below w.heap.size w W → ∀ x ∈ l,Calls Tryz.prog f (#[.agg #[I x.kind,I x.len,I x.frm, .int .u64 (x.init : Int),I x.queue,I x.ac.kind,I x.ac.task, .int .u32 (x.ac.mask : Int)]] ++ caps) W fun e w' => e = .returned (I (p x)) ∧ Below W.heap.size W w') :
  Calls Tryz.prog 163 #[.slice s.a s.n s.c, .func (.func f) #[] caps] w fun e w' => e = .returned (I (IntKind.i64.wrap (sumZ p l))) ∧ Below w.heap.size w w' := by
 have h0 := hl w (Below.refl _ _)
 have HS : Hid (s.n = l.length) := h0.n
 have hsc : s.n ≤ s.c := h0.c
 have hsm : s.c ≤ maxLen := h0.m
 unfold maxLen at hsm
 have HH : Hid (∀ W,Below w.heap.size w W → RowsAt W 8 msrP s l) := hl
 have HFF : Hid (∀ W,Below w.heap.size w W → ∀ x ∈ l,Calls Tryz.prog f (#[.agg #[I x.kind,I x.len,I x.frm, .int .u64 (x.init : Int),I x.queue,I x.ac.kind,I x.ac.task, .int .u32 (x.ac.mask : Int)]] ++ caps) W fun e w' => e = .returned (I (p x)) ∧ Below W.heap.size W w') := hf
 obtain ⟨R,hR⟩ : ∃ R,R = IntKind.i64.wrap (sumZ p l) := ⟨_,rfl⟩
 rw [← hR]
 have HR : Hid (R = IntKind.i64.wrap (sumZ p l)) := hR
 clear hl hR hf h0
 go_enter Tryz.func163,Tryz.ntmps163
 go_wp2
 go_loopw [5,7,10] (fun tv _ iv wr => ∃ (j : Nat) (t : Int),j ≤ s.n ∧ iv = .int .i64 j ∧ tv = .int .i64 t ∧ Hid (t = IntKind.i64.wrap (sumZ p (l.take j)) ∧ Below w.heap.size w wr)) (fun _ _ iv _ => s.n - (intOf iv).toNat)
 case atStart => exact ⟨0,0,by omega,rfl,rfl,by simp [sumZ,IntKind.wrap_i64],Below.refl _ _⟩
 case round =>
  obtain ⟨j,t,hj,rfl,rfl,HJ⟩ := hrel
  by_cases hlt : j < s.n
  ·have hlt' : (j : Int) < s.n := by omega
   obtain ⟨x,hx⟩ : ∃ x,l[j]? = some x := ⟨_,List.getElem?_eq_getElem (by rw [← HS.out]; exact hlt)⟩
   obtain ⟨g5,o5,e5,hg5,hr5⟩ := (HH.out _ HJ.out.2).row j x hx
   obtain ⟨u0,a0,q0⟩ := hr5 0 (by omega)
   obtain ⟨u1,a1,q1⟩ := hr5 1 (by omega)
   obtain ⟨u2,a2,q2⟩ := hr5 2 (by omega)
   obtain ⟨u3,a3,q3⟩ := hr5 3 (by omega)
   obtain ⟨u4,a4,q4⟩ := hr5 4 (by omega)
   obtain ⟨u5,a5,q5⟩ := hr5 5 (by omega)
   obtain ⟨u6,a6,q6⟩ := hr5 6 (by omega)
   obtain ⟨u7,a7,q7⟩ := hr5 7 (by omega)
   have f0 : u0 = I x.kind := q0
   have f1 : u1 = I x.len := q1
   have f2 : u2 = I x.frm := q2
   have f3 : u3 = .int .u64 (x.init : Int) := q3
   have f4 : u4 = I x.queue := q4
   have f5 : u5 = I x.ac.kind := q5
   have f6 : u6 = I x.ac.task := q6
   have f7 : u7 = .int .u32 (x.ac.mask : Int) := q7
   subst f0 f1 f2 f3 f4 f5 f6 f7
   rw [Nat.add_zero] at a0
   have HB : Hid (Below w.heap.size w (wr.alloc (.cells #[I x.kind,I x.len,I x.frm, .int .u64 (x.init : Int),I x.queue,I x.ac.kind,I x.ac.task, .int .u32 (x.ac.mask : Int)] 91))) := HJ.out.2.trans ((qa0 wr _).mono HJ.out.2.size)
   have cx := HFF.out _ HB.out x (List.mem_of_getElem? hx)
   have HA : Hid (IntKind.i64.wrap (t + p x) = IntKind.i64.wrap (sumZ p (l.take (j + 1)))) := by
    show _ = _
    rw [List.take_add_one,hx,Option.toList_some,qdx,HJ.out.1]
    simp only [IntKind.wrap_i64]
    omega
   rw [e5]
   clear hx e5 HJ hr5 q0 q1 q2 q3 q4 q5 q6 q7
   generalize p x = px at *
   go_wp2
   refine cx.mono ?_
   clear cx
   rintro e7 w7 ⟨rfl,hb7⟩
   have HB7 : Hid (Below w.heap.size w w7) := HB.out.trans (hb7.mono HB.out.size)
   clear hb7
   go_wp2
   go_roundw
   case rel => exact ⟨j + 1,IntKind.i64.wrap (t + px),by omega,by go_num,by simp [IntKind.wrap_i64,wrap64],HA.out,HB7.out⟩
   case measure => simp [intOf]; omega
  ·obtain rfl : j = s.n := by omega
   have hlt' : ¬ ((s.n : Nat) : Int) < (s.n : Nat) := by omega
   have HE : Hid (t = R) := by
    show _ = _
    rw [HR.out,HJ.out.1,List.take_of_length_le (by rw [HS.out]; exact Nat.le_refl _)]
   have HB : Hid (Below w.heap.size w wr) := HJ.out.2
   clear HR HJ
   go_wp2
   go_ret
   exact ⟨qen HE.out,HB.out⟩
theorem qfh (a : AcR) (w : World) : Calls Tryz.prog 184 #[.agg #[I a.kind,I a.task, .int .u32 (a.mask : Int)]] w fun e w' => e = .returned (I (if a.kind = 3 then 1 else 0)) ∧ Below w.heap.size w w' := by
 have hb : ∀ o,Below w.heap.size w (w.alloc o) := fun o => qa0 w o
 by_cases h : a.kind = 3
 ·rw [if_pos h]
  have h1 : (a.kind == 3) = true := by simpa using h
  clear h
  go_enter Tryz.func184,Tryz.ntmps184
  go_wp2
  go_ret
  exact ⟨rfl,hb _⟩
 ·rw [if_neg h]
  have h1 : (a.kind == 3) = false := by simpa using h
  clear h
  go_enter Tryz.func184,Tryz.ntmps184
  go_wp2
  go_ret
  exact ⟨rfl,hb _⟩
theorem qh2 (x : AlR) (w : World) : Calls Tryz.prog 162 #[.agg (alrC x)] w fun e w' => e = .returned (I (if x.ac.kind = 3 then 1 else 0)) ∧ Below w.heap.size w w' := by
 have hb : ∀ o,Below w.heap.size w (w.alloc o) := fun o => qa0 w o
 have kc := fun W => qfh x.ac W
 unfold alrC
 generalize (if x.ac.kind = 3 then (1 : Int) else 0) = rr at *
 go_enter Tryz.func162,Tryz.ntmps162
 go_wp2_with (go_at_call 184; refine (kc _).mono ?_; clear kc; rintro e w' ⟨rfl,hb2⟩)
 go_ret
 exact ⟨rfl,(hb _).trans (hb2.mono (hb _).size)⟩
theorem qh3 (x : MsR) (w : World) : Calls Tryz.prog 164 #[.agg (msrC x)] w fun e w' => e = .returned (I (if x.ac.kind = 3 then 1 else 0)) ∧ Below w.heap.size w w' := by
 have hb : ∀ o,Below w.heap.size w (w.alloc o) := fun o => qa0 w o
 have kc := fun W => qfh x.ac W
 unfold msrC
 generalize (if x.ac.kind = 3 then (1 : Int) else 0) = rr at *
 go_enter Tryz.func164,Tryz.ntmps164
 go_wp2_with (go_at_call 184; refine (kc _).mono ?_; clear kc; rintro e w' ⟨rfl,hb2⟩)
 go_ret
 exact ⟨rfl,(hb _).trans (hb2.mono (hb _).size)⟩
theorem qfq (x : AlR) (w : World) : Calls Tryz.prog 156 #[.agg (alrC x)] w fun e w' => e = .returned (I x.ctr) ∧ Below w.heap.size w w' := by
 have hb : ∀ o,Below w.heap.size w (w.alloc o) := fun o => qa0 w o
 unfold alrC
 go_enter Tryz.func156,Tryz.ntmps156
 go_wp2
 go_ret
 exact ⟨rfl,hb _⟩
theorem qg8 (x : MsR) (w : World) : Calls Tryz.prog 160 #[.agg (msrC x)] w fun e w' => e = .returned (I x.frm) ∧ Below w.heap.size w w' := by
 have hb : ∀ o,Below w.heap.size w (w.alloc o) := fun o => qa0 w o
 unfold msrC
 go_enter Tryz.func160,Tryz.ntmps160
 go_wp2
 go_ret
 exact ⟨rfl,hb _⟩
theorem qf3 (x : MsR) (w : World) : Calls Tryz.prog 159 #[.agg (msrC x)] w fun e w' => e = .returned (.bool (x.kind != 1)) ∧ Below w.heap.size w w' := by
 have hb : ∀ o,Below w.heap.size w (w.alloc o) := fun o => qa0 w o
 unfold msrC
 go_enter Tryz.func159,Tryz.ntmps159
 go_wp2
 go_ret
 exact ⟨rfl,hb _⟩
theorem qny : (Tryz.prog.info? 91).map (fun i => (i.zero,i.size,i.bytes)) = some (some (.agg #[I 0,I 0,I 0, .int .u64 0,I 0,I 0,I 0, .int .u32 0]),8,64) := by kernel_rfl
def qc9 (l : List MsR) : List Value := l.flatMap (fun x => (msrC x).toList)
theorem qi2 (l : List MsR) (x : MsR) : qc9 (l ++ [x]) = qc9 l ++ (msrC x).toList := by simp [qc9]
theorem qg9 : ∀ (l : List MsR) (j : Nat) (x : MsR) (i : Nat) (u : Value),l[j]? = some x → (msrC x)[i]? = some u → i < 8 → (qc9 l)[j * 8 + i]? = some u
 | [],j,x,i,u,h,_,_ => by simp at h
 | y :: r,0,x,i,u,h,hu,hi => by
  cases h
  have h8 : ((msrC y).toList).length = 8 := rfl
  rw [qc9,List.flatMap_cons,Nat.zero_mul,Nat.zero_add,List.getElem?_append_left (by omega)]
  rw [Array.getElem?_toList]
  exact hu
 | y :: r,j + 1,x,i,u,h,hu,hi => by
  have ih := qg9 r j x i u (by simpa using h) hu hi
  have h8 : ((msrC y).toList).length = 8 := rfl
  rw [qc9,List.flatMap_cons,List.getElem?_append_right (by omega),show (j + 1) * 8 + i - ((msrC y).toList).length = j * 8 + i by omega]
  exact ih
theorem qh4 {w : World} {b : Nat} {a : Option Addr} {c : Nat} {l : List MsR} (hl : l.length ≤ 1048576) (h : w.ownsRow b 91 8 (.slice a l.length c) l.length (qc9 l)) : RowsAt w 8 msrP ⟨a,l.length,c⟩ l := by
 rcases h.2 with ⟨h1,h0⟩ | ⟨g,cap,cur,h1,hb,hg,hnc,hcm,hcs,ht⟩
 ·have hn : l = [] := List.eq_nil_of_length_eq_zero h0
  subst hn
  injection h1 with e1 e2 e3
  subst e1 e3
  exact ⟨rfl,Nat.le_refl _,Nat.zero_le _,fun j x hj => by simp at hj⟩
 ·injection h1 with e1 e2 e3
  subst e1 e3
  refine ⟨rfl,hnc,hcm,fun j x hj => ⟨g,0,rfl,qay hg,fun i hi => ?_⟩⟩
  have hjl := (List.getElem?_eq_some_iff.1 hj).1
  have h8 : (msrC x).size = 8 := rfl
  obtain ⟨u,hu⟩ : ∃ u,(msrC x)[i]? = some u := ⟨_,Array.getElem?_eq_getElem (by omega)⟩
  refine ⟨u, ?_, ?_⟩
  ·rw [Nat.zero_add,h.cellAt (j * 8 + i) (by omega)]
   exact qg9 l j x i u hj hu hi
  ·rcases (by omega : i = 0 ∨ i = 1 ∨ i = 2 ∨ i = 3 ∨ i = 4 ∨ i = 5 ∨ i = 6 ∨ i = 7) with e | e | e | e | e | e | e | e <;> (subst e; cases hu; rfl)
theorem Addr.add_mid9 (b o j : Nat) : (⟨b,o,none⟩ : Addr).add j = ⟨b,o + j,none⟩ := by unfold Addr.add; split <;> simp_all
theorem qlv {w : World} {b E n : Nat} {v : Value} {xs : List Value} (h : w.ownsRow b E 8 v n xs) : ∃ a cc,v = .slice a n cc := by
 rcases h.2 with ⟨h1,h0⟩ | ⟨g,cap,cur,h1,_⟩
 ·exact ⟨none,0,by rw [h0]; exact h1⟩
 ·exact ⟨_,_,h1⟩
theorem qjc (w : World) (s : Sl) (l : List MsR) (hl : ∀ W,Below w.heap.size w W → RowsAt W 8 msrP s l) (hll : l.length ≤ 1048576) (f : Nat) (caps : Array Value) (eg : ∀ args W,(callFunc f args).run Tryz.prog W = .ok (.enter f args) W) (p : MsR → Bool)
  (hf : ∀ W,Below w.heap.size w W → ∀ x ∈ l,Calls Tryz.prog f (#[.agg #[I x.kind,I x.len,I x.frm, .int .u64 (x.init : Int),I x.queue,I x.ac.kind,I x.ac.task, .int .u32 (x.ac.mask : Int)]] ++ caps) W fun e w' => e = .returned (.bool (p x)) ∧ Below W.heap.size W w') :
  Calls Tryz.prog 158 #[.slice s.a s.n s.c, .func (.func f) #[] caps] w fun e w' => (∃ a c,e = .returned (.slice a (l.filter p).length c) ∧ RowsAt w' 8 msrP ⟨a,(l.filter p).length,c⟩ (l.filter p)) ∧ Below w.heap.size w w' := by
 obtain ⟨im,him,hm0,hm1,hm2⟩ := info_parts qny
 have h0 := hl w (Below.refl _ _)
 have HS : Hid (s.n = l.length) := h0.n
 have hsc : s.n ≤ s.c := h0.c
 have hsm : s.c ≤ maxLen := h0.m
 unfold maxLen at hsm
 have HH : Hid (∀ W,Below w.heap.size w W → RowsAt W 8 msrP s l) := hl
 have HFF : Hid (∀ W,Below w.heap.size w W → ∀ x ∈ l,Calls Tryz.prog f (#[.agg #[I x.kind,I x.len,I x.frm, .int .u64 (x.init : Int),I x.queue,I x.ac.kind,I x.ac.task, .int .u32 (x.ac.mask : Int)]] ++ caps) W fun e w' => e = .returned (.bool (p x)) ∧ Below W.heap.size W w') := hf
 have HLL : Hid (l.length ≤ 1048576) := hll
 clear hl hf h0 hll
 go_enter Tryz.func158,Tryz.ntmps158
 go_wp2
 go_loopw [5,7,10] (fun ov _ iv wr => ∃ (j q : Nat) (a : Option Addr) (c : Nat),j ≤ s.n ∧ iv = .int .i64 j ∧ ov = .slice a q c ∧ Hid (q = ((l.take j).filter p).length ∧ wr.ownsRow w.heap.size 91 8 (.slice a q c) q (qc9 ((l.take j).filter p)) ∧ Below w.heap.size w wr)) (fun _ _ iv _ => s.n - (intOf iv).toNat)
 case atStart => exact ⟨0,0,none,0,by omega,rfl,rfl,by simp,World.ownsRow_nil _ _ _ _,Below.refl _ _⟩
 case round =>
  obtain ⟨j,q,a,c,hj,rfl,rfl,HJ⟩ := hrel
  by_cases hlt : j < s.n
  ·have hlt' : (j : Int) < s.n := by omega
   obtain ⟨x,hx⟩ : ∃ x,l[j]? = some x := ⟨_,List.getElem?_eq_getElem (by rw [← HS.out]; exact hlt)⟩
   obtain ⟨g5,o5,e5,hg5,hr5⟩ := (HH.out _ HJ.out.2.2).row j x hx
   obtain ⟨u0,a0,q0⟩ := hr5 0 (by omega)
   obtain ⟨u1,a1,q1⟩ := hr5 1 (by omega)
   obtain ⟨u2,a2,q2⟩ := hr5 2 (by omega)
   obtain ⟨u3,a3,q3⟩ := hr5 3 (by omega)
   obtain ⟨u4,a4,q4⟩ := hr5 4 (by omega)
   obtain ⟨u5,a5,q5⟩ := hr5 5 (by omega)
   obtain ⟨u6,a6,q6⟩ := hr5 6 (by omega)
   obtain ⟨u7,a7,q7⟩ := hr5 7 (by omega)
   have f0 : u0 = I x.kind := q0
   have f1 : u1 = I x.len := q1
   have f2 : u2 = I x.frm := q2
   have f3 : u3 = .int .u64 (x.init : Int) := q3
   have f4 : u4 = I x.queue := q4
   have f5 : u5 = I x.ac.kind := q5
   have f6 : u6 = I x.ac.task := q6
   have f7 : u7 = .int .u32 (x.ac.mask : Int) := q7
   subst f0 f1 f2 f3 f4 f5 f6 f7
   rw [Nat.add_zero] at a0
   have bX : Below wr.heap.size wr (wr.alloc (.cells #[I x.kind,I x.len,I x.frm, .int .u64 (x.init : Int),I x.queue,I x.ac.kind,I x.ac.task, .int .u32 (x.ac.mask : Int)] 91)) := qa0 wr _
   have bW : Below w.heap.size w (wr.alloc (.cells #[I x.kind,I x.len,I x.frm, .int .u64 (x.init : Int),I x.queue,I x.ac.kind,I x.ac.task, .int .u32 (x.ac.mask : Int)] 91)) := HJ.out.2.2.trans (bX.mono HJ.out.2.2.size)
   have hXX := heap_alloc_new wr (.cells #[I x.kind,I x.len,I x.frm, .int .u64 (x.init : Int),I x.queue,I x.ac.kind,I x.ac.task, .int .u32 (x.ac.mask : Int)] 91)
   have cx := HFF.out _ bW x (List.mem_of_getElem? hx)
   have oX := qa2 HJ.out.2.1 bX
   have HTk : Hid (l.take (j + 1) = l.take j ++ [x]) := by show _ = _; rw [List.take_add_one,hx]; rfl
   have HQ : Hid (q = ((l.take j).filter p).length ∧ q ≤ 1048576) := ⟨HJ.out.1,by
    have h1 := HJ.out.1
    have h2 := List.length_filter_le p (l.take j)
    have h3 := HLL.out
    rw [List.length_take] at h2
    omega⟩
   rw [e5]
   clear hx e5 hr5 q0 q1 q2 q3 q4 q5 q6 q7 HJ
   go_upto_region 5 with fail
   generalize wr.heap.size = X at *
   generalize (wr.alloc (.cells #[I x.kind,I x.len,I x.frm, .int .u64 (x.init : Int),I x.queue,I x.ac.kind,I x.ac.task, .int .u32 (x.ac.mask : Int)] 91)) = W0 at *
   have HXX : Hid (∀ W,Below W0.heap.size W0 W → W.heap[X]? = some (.cells #[I x.kind,I x.len,I x.frm, .int .u64 (x.init : Int),I x.queue,I x.ac.kind,I x.ac.task, .int .u32 (x.ac.mask : Int)] 91)) := fun W hW => (hW.block X (qay hXX)).trans hXX
   have hi97 : (Tryz.prog.info? 91).map (·.size) = some (#[I x.kind,I x.len,I x.frm, .int .u64 (x.init : Int),I x.queue,I x.ac.kind,I x.ac.task, .int .u32 (x.ac.mask : Int)] : Array Value).size := by kernel_rfl
   have HO : Hid (∀ W,Below W0.heap.size W0 W → W.ownsRow w.heap.size 91 8 (.slice a q c) q (qc9 ((l.take j).filter p))) := fun W hW => qa2 oX hW
   have HBW : Hid (Below w.heap.size w W0) := bW
   clear oX bW bX
   cases hpx : p x with
   | false =>
    rw [hpx] at cx
    go_wp2_with (first
     | (refine wpList_load_row rfl 91 _ rfl X rfl 91 _ (0,0) _ hXX Tryz.underlying91 rfl hi97 ?_))
    refine cx.mono ?_
    clear cx
    rintro e7 w7 ⟨rfl,hb7⟩
    have H9 : Hid (q = ((l.take (j + 1)).filter p).length ∧ w7.ownsRow w.heap.size 91 8 (.slice a q c) q (qc9 ((l.take (j + 1)).filter p)) ∧ Below w.heap.size w w7) := by
     have e9 : (l.take (j + 1)).filter p = (l.take j).filter p := by rw [HTk.out,List.filter_append]; simp [hpx]
     rw [e9]
     exact ⟨HQ.out.1,HO.out w7 hb7,HBW.out.trans (hb7.mono HBW.out.size)⟩
    clear hb7
    go_wp2
    go_roundw
    case rel => exact ⟨j + 1,q,a,c,by omega,by go_num,rfl,H9.out⟩
    case measure => simp [intOf]; omega
   | true =>
    rw [hpx] at cx
    go_wp2_with (first
     | (refine wpList_load_row rfl 91 _ rfl X rfl 91 _ (0,0) _ hXX Tryz.underlying91 rfl hi97 ?_))
    refine cx.mono ?_
    clear cx
    rintro e7 w7 ⟨rfl,hb7⟩
    have hX7 := HXX.out w7 hb7
    have o7 := HO.out w7 hb7
    have b7 : Below w.heap.size w w7 := HBW.out.trans (hb7.mono HBW.out.size)
    clear hb7
    have hqq := HQ.out.2
    have s7 := b7.size
    go_wp2_with (first
     | (refine wpList_load_row rfl 91 _ rfl X rfl 91 _ (0,0) _ hX7 Tryz.underlying91 rfl hi97 ?_)
     | (at_builtin; refine wpList_append_own _ rfl (.tmp 17) (.tmp 19) 28 rfl w.heap.size 91 im _ 8 64 Tryz.underlying28 him hm0 hm1 hm2 rfl (by decide) _ _ _ rfl (o7.alloc _) ⟨w7.heap.size,0,none⟩ 1 1 (msrC x).toList rfl rfl (fun jj uu hu => by rw [Addr.add_mid9,cell_of_row _ _ _ _ _ (0,0) (heap_alloc_new w7 _)]; rw [Nat.zero_add]; rw [Array.getElem?_toList] at hu; exact hu) (fun uu hu => (by unfold msrC at hu; simp at hu; rcases hu with e | e | e | e | e | e | e | e <;> (subst e; rfl))) (by unfold maxLen; omega) (by omega) (by simp; omega) ?_))
    intro v8 w8 o8 g8 _
    obtain ⟨a8,k8,rfl⟩ := qlv o8
    have H9 : Hid (q + 1 = ((l.take (j + 1)).filter p).length ∧ w8.ownsRow w.heap.size 91 8 (.slice a8 (q + 1) k8) (q + 1) (qc9 ((l.take (j + 1)).filter p)) ∧ Below w.heap.size w w8) := by
     have e9 : (l.take (j + 1)).filter p = (l.take j).filter p ++ [x] := by rw [HTk.out,List.filter_append]; simp [hpx]
     rw [e9,qi2]
     refine ⟨by rw [List.length_append, ← HQ.out.1]; rfl,o8,(b7.alloc b7.size _).grown g8 (by simp; omega) (fun k e => (o7.lt k e).1)⟩
    clear o8 g8 o7 b7 hX7
    go_wp2
    go_roundw
    case rel => exact ⟨j + 1,q + 1,a8,k8,by omega,by go_num,rfl,H9.out⟩
    case measure => simp [intOf]; omega
  ·obtain rfl : j = s.n := by omega
   have hlt' : ¬ ((s.n : Nat) : Int) < (s.n : Nat) := by omega
   have HE : Hid (q = (l.filter p).length ∧ wr.ownsRow w.heap.size 91 8 (.slice a q c) q (qc9 (l.filter p)) ∧ Below w.heap.size w wr) := by
    have := HJ.out
    rwa [List.take_of_length_le (by rw [HS.out]; exact Nat.le_refl _)] at this
   have Hll : Hid ((l.filter p).length ≤ 1048576) := Nat.le_trans (List.length_filter_le p l) HLL.out
   clear HJ
   go_wp2
   go_ret
   obtain ⟨h1,h2,h3⟩ := HE.out
   subst h1
   exact ⟨⟨a,c,rfl,qh4 Hll.out h2⟩,h3⟩
structure RwX {α : Type} (k : Nat) (P : α → Nat → Value → Prop) (l : List α) (xs : List Value) : Prop where
 n : xs.length = l.length * k
 at' : ∀ j x,l[j]? = some x → ∀ i,i < k → ∃ u,xs[j * k + i]? = some u ∧ P x i u
theorem RwX.nil {α : Type} (k : Nat) (P : α → Nat → Value → Prop) : RwX k P [] [] := ⟨by simp,fun j x hj => by simp at hj⟩
theorem RwX.mono {α : Type} {k : Nat} {P Q : α → Nat → Value → Prop} {l : List α} {xs : List Value} (h : RwX k P l xs) (hPQ : ∀ x i u,P x i u → Q x i u) : RwX k Q l xs :=
 ⟨h.n,fun j x hj i hi => by obtain ⟨u,h1,h2⟩ := h.at' j x hj i hi; exact ⟨u,h1,hPQ x i u h2⟩⟩
theorem RwX.snoc {α : Type} {k : Nat} {P : α → Nat → Value → Prop} {l : List α} {xs : List Value} (h : RwX k P l xs) (x : α) (cs : List Value) (hc : cs.length = k) (hP : ∀ i,i < k → ∃ u,cs[i]? = some u ∧ P x i u) : RwX k P (l ++ [x]) (xs ++ cs) := by
 refine ⟨by rw [List.length_append,List.length_append,h.n,hc,Nat.add_mul]; simp,fun j y hj i hi => ?_⟩
 by_cases hjl : j < l.length
 ·rw [List.getElem?_append_left hjl] at hj
  obtain ⟨u,h1,h2⟩ := h.at' j y hj i hi
  exact ⟨u,by rw [List.getElem?_append_left (List.getElem?_eq_some_iff.1 h1).1]; exact h1,h2⟩
 ·have hje : j = l.length := by
   have := (List.getElem?_eq_some_iff.1 hj).1
   simp at this
   omega
  subst hje
  rw [List.getElem?_append_right (Nat.le_refl _),Nat.sub_self] at hj
  have hxy : x = y := by simpa using hj
  subst hxy
  obtain ⟨u,h1,h2⟩ := hP i hi
  refine ⟨u, ?_,h2⟩
  rw [List.getElem?_append_right (by rw [h.n]; omega),h.n]
  rw [show l.length * k + i - l.length * k = i by omega]
  exact h1
theorem RwX.rows {α : Type} {w : World} {base E k : Nat} {P : α → Nat → Value → Prop} {s : Sl} {l : List α} {xs : List Value} (ho : w.ownsRow base E k (.slice s.a s.n s.c) l.length xs) (h : RwX k P l xs) : RowsAt w k P s l := by
 rcases ho.2 with ⟨e,h0⟩ | ⟨g,cap,cur,e,hb,hg,hnc,hcm,hcs,htk⟩
 ·injection e with e1 e2 e3
  exact ⟨by rw [e2,h0],by rw [e2]; exact Nat.zero_le _,by rw [e3]; exact Nat.zero_le _,fun j x hj => by have := (List.getElem?_eq_some_iff.1 hj).1; omega⟩
 ·injection e with e1 e2 e3
  refine ⟨e2,by rw [e2,e3]; exact hnc,by rw [e3]; exact hcm,fun j x hj => ⟨g,0,e1,qay hg,fun i hi => ?_⟩⟩
  obtain ⟨u,h1,h2⟩ := h.at' j x hj i hi
  refine ⟨u, ?_,h2⟩
  rw [e1,e2,e3] at ho
  have hlt : j * k + i < l.length * k := by have := (List.getElem?_eq_some_iff.1 h1).1; rw [h.n] at this; exact this
  rw [show 0 + j * k + i = j * k + i by omega,ho.cellAt _ hlt]
  exact h1
theorem qan {w : World} {b E k n : Nat} {v : Value} {xs : List Value} (h : w.ownsRow b E k v n xs) : ∃ a cc,v = .slice a n cc := by
 rcases h.2 with ⟨h1,h0⟩ | ⟨g,cap,cur,h1,_⟩
 ·exact ⟨none,0,by rw [h0]; exact h1⟩
 ·exact ⟨_,_,h1⟩
theorem qbi (w : World) (cs : Array Value) (t : TypeId) : ∀ j u,cs.toList[j]? = some u → (w.alloc (.cells cs t)).cell? ((⟨w.heap.size,0,none⟩ : Addr).add j) = some u := fun j u hj => by
 rw [Addr.add_mid9,Nat.zero_add,cell_of_row _ _ j _ _ (0,0) (heap_alloc_new w _)]
 rw [← Array.getElem?_toList]
 exact hj
end Go.Proofs.YtijgopkhdjaolaaGreat
namespace Go.Proofs.YtijgopkhdjaolaaGreat
open Go.Maps Go.RowKit
set_option linter.unusedSimpArgs false
set_option linter.unusedVariables false
set_option maxHeartbeats 16000000
set_option maxRecDepth 100000
theorem qhf : ∀ (n : Nat) (f : Nat → Nat),(∀ k,k ≤ n → f k < n) → ∃ i j,i < j ∧ j ≤ n ∧ f i = f j
 | 0,f,h => absurd (h 0 (Nat.le_refl 0)) (Nat.not_lt_zero _)
 | n + 1,f,h => by
  by_cases hv : ∃ i,i ≤ n ∧ f i = f (n + 1)
  ·obtain ⟨i,hi,e⟩ := hv
   exact ⟨i,n + 1,by omega,Nat.le_refl _,e⟩
  ·have hne : ∀ i,i ≤ n → f i ≠ f (n + 1) := fun i hi e => hv ⟨i,hi,e⟩
   have hvl := h (n + 1) (Nat.le_refl _)
   obtain ⟨i,j,hij,hjn,e⟩ := qhf n (fun k => if f k = n then f (n + 1) else f k) (fun k hk => by
    have h1 := h k (by omega)
    have h2 := hne k hk
    split <;> omega)
   have h1 := hne i (by omega)
   have h2 := hne j hjn
   refine ⟨i,j,hij,by omega, ?_⟩
   split at e <;> split at e <;> omega
theorem qi3 {l : List Nat} {n : Nat} (hd : l.Nodup) (hl : ∀ x ∈ l,x < n) : l.length ≤ n := by
 by_cases h : l.length ≤ n
 ·exact h
 ·exfalso
  obtain ⟨i,j,hij,hjn,e⟩ := qhf n (fun k => l.getD k 0) (fun k hk => by
   have hk2 : k < l.length := by omega
   show l.getD k 0 < n
   rw [List.getD_eq_getElem?_getD,List.getElem?_eq_getElem hk2]
   exact hl _ (List.getElem_mem hk2))
  have hi2 : i < l.length := by omega
  have hj2 : j < l.length := by omega
  have e2 : l[i] = l[j] := by
   have e3 : l.getD i 0 = l.getD j 0 := e
   rw [List.getD_eq_getElem?_getD,List.getD_eq_getElem?_getD,List.getElem?_eq_getElem hi2,List.getElem?_eq_getElem hj2] at e3
   exact e3
  exact List.pairwise_iff_getElem.1 hd i j hi2 hj2 hij e2
theorem keyI : Keyed Tryz.prog 3 := int_keyed Tryz.underlying3
theorem qnz (w : World) : (zeroValue 3).run Tryz.prog w = .ok (.int .i64 0) w := by kernel_rfl
theorem qjd {j : Nat} (h : j < 9223372036854775808) : (Lit.int .i64 (j : Int)).wf = true := WalkArith.wf_i64 (by omega)
theorem qje {H : Type} {w : World} {P : Program} {k : TypeId} {R : Value → Option (DataW H × List MemPlace)} {b n : Nat} {D : DataW H} (h : w.ownsMap P k R b n D) : w.ownsMap P k R b (Maps.size D) D := by
 obtain ⟨es,clock,hb,F,hs,rfl⟩ := h
 refine ⟨es,clock,hb,F, ?_,rfl⟩
 rw [Maps.size_eq,length_sorted]
 simp
structure MapOf (w : World) (b n : Nat) (ks : List Nat) (f : Nat → Int) : Prop where
 nd : ks.Nodup
 lt : ∀ k ∈ ks,k < n
 ex : ∃ D : DataW Unit,w.ownsMap Tryz.prog 3 (plainElem Tryz.prog 3) b ks.length D ∧ Maps.size D = ks.length ∧ ∀ j : Nat,Maps.has D (.int .i64 j) = decide (j ∈ ks) ∧ D.atKey (.int .i64 j) (.lit (.int .i64 0)) = .lit (.int .i64 (if j ∈ ks then f j else 0))
theorem MapOf.made (w : World) (n : Nat) (f : Nat → Int) : MapOf (w.alloc (.map #[] 0)) w.heap.size n [] f :=
 ⟨List.nodup_nil,(fun k hk => by cases hk), .map [],World.ownsMap_made _ _ _ _,rfl,fun j => ⟨by simp [Maps.has],by simp [DataW.atKey]⟩⟩
theorem MapOf.block {w : World} {b n : Nat} {ks : List Nat} {f : Nat → Int} (h : MapOf w b n ks f) : b < w.heap.size := by
 obtain ⟨D,hD,_⟩ := h.ex
 exact hD.lt
theorem MapOf.kept {w w' : World} {b n : Nat} {ks : List Nat} {f : Nat → Int} {row : Option Nat} (h : MapOf w b n ks f) (hg : w.grownBy w' row) (hne : some b ≠ row) : MapOf w' b n ks f := by
 obtain ⟨D,hD,h2⟩ := h.ex
 exact ⟨h.nd,h.lt,D,hD.kept hg hne,h2⟩
theorem MapOf.below {w w' : World} {b n : Nat} {ks : List Nat} {f : Nat → Int} (h : MapOf w b n ks f) (hb : Below w.heap.size w w') : MapOf w' b n ks f := h.kept (qa9 (r := none) hb) (by simp)
theorem MapOf.congr {w : World} {b n : Nat} {ks : List Nat} {f g : Nat → Int} (h : MapOf w b n ks f) (e : ∀ k ∈ ks,f k = g k) : MapOf w b n ks g := by
 obtain ⟨D,hD,hs,h2⟩ := h.ex
 refine ⟨h.nd,h.lt,D,hD,hs,fun j => ⟨(h2 j).1, ?_⟩⟩
 rw [(h2 j).2]
 by_cases hj : j ∈ ks
 ·rw [if_pos hj,if_pos hj,e j hj]
 ·rw [if_neg hj,if_neg hj]
def insK (ks : List Nat) (j : Nat) : List Nat := if j ∈ ks then ks else j :: ks
theorem mem_insK {ks : List Nat} {j i : Nat} : i ∈ insK ks j ↔ i = j ∨ i ∈ ks := by
 unfold insK
 by_cases h : j ∈ ks
 ·rw [if_pos h]
  constructor
  ·exact .inr
  ·rintro (rfl | h2)
   ·exact h
   ·exact h2
 ·rw [if_neg h,List.mem_cons]
def mapF (f : Nat → Int) (j : Nat) (e : Int) (i : Nat) : Int := if i = j then e else f i
theorem MapOf.len {w : World} {b n : Nat} {ks : List Nat} {f : Nat → Int} (h : MapOf w b n ks f) : ks.length ≤ n := qi3 h.nd h.lt
section
variable {w : World} {ops : Array Oper} {rest : List Oper} {o : Oper} {a : Act} {Q : Exit → Act → World → Prop}
theorem qc6 (hg : o.guard = none) (m x : Operand) (t : TypeId) (hop : o.op = Op.lookup t m x false) (ht : Tryz.prog.underlying t = some (.map 3 3)) (b n : Nat) (ks : List Nat) (f : Nat → Int)
  (hm : a.eval m = .map (some b)) (h : MapOf w b n ks f) (j : Nat) (hj : j < 9223372036854775808) (hx : a.eval x = .int .i64 (j : Int))
  (hK : ∀ e : Int,Hid (e = if j ∈ ks then f j else 0) → wpList Tryz.prog ops Q rest (a.put o.dst (.int .i64 e)) w) : wpList Tryz.prog ops Q (o :: rest) a w := by
 obtain ⟨D,hD,hs,h2⟩ := h.ex
 refine wpList_lookup_own_int w hg m x t hop 3 3 .i64 keyI ht Tryz.underlying3 (qnz w) b ks.length D hm hD _ (.int .i64 (j : Int)) hx (keyOf_int_mk Tryz.underlying3 (qjd hj)) (fun c hat _ => ?_)
 rw [(h2 j).2] at hat
 have hc : c = if j ∈ ks then f j else 0 := by cases hat; rfl
 exact hK c hc
theorem qdr (hg : o.guard = none) (m x u : Operand) (t : TypeId) (hop : o.op = Op.mapUpdate t m x u) (ht : Tryz.prog.underlying t = some (.map 3 3)) (b n : Nat) (ks : List Nat) (f : Nat → Int)
  (hm : a.eval m = .map (some b)) (h : MapOf w b n ks f) (hn : n ≤ 8796093022208) (j : Nat) (hj : j < n) (hx : a.eval x = .int .i64 (j : Int)) (e : Int) (he : (Lit.int .i64 e).wf = true) (hu : a.eval u = .int .i64 e)
  (hK : ∀ w',MapOf w' b n (insK ks j) (mapF f j e) → w.grownBy w' (some b) → wpList Tryz.prog ops Q rest (a.put o.dst undef) w') : wpList Tryz.prog ops Q (o :: rest) a w := by
 have hlen := h.len
 obtain ⟨D,hD,hs,h2⟩ := h.ex
 have hT := hD.tidy keyI
 have hkl : WideAt.IsKeyLit (.int .i64 (j : Int)) := trivial
 refine wpList_mapUpdate_own w hg m x u t hop 3 3 keyI ht _ b ks.length D hm hD (by unfold maxLen; omega) _ _ (.int .i64 (j : Int)) hx hu (keyOf_int_mk Tryz.underlying3 (qjd (by omega))) _ [] (plainElem_int Tryz.underlying3 he) (fun w' hown hgr => hK w' ?_ hgr)
 have hsz : Maps.size (D.put (.int .i64 (j : Int)) (.lit (.int .i64 e))) = (insK ks j).length := by
  rw [Maps.size_put hT,(h2 j).1,hs]
  unfold insK
  by_cases hm : j ∈ ks <;> simp [hm]
 refine ⟨?_, ?_,_,by rw [← hsz]; exact qje hown,hsz,fun i => ?_⟩
 ·unfold insK
  by_cases hm : j ∈ ks
  ·rw [if_pos hm]; exact h.nd
  ·rw [if_neg hm]; exact List.nodup_cons.2 ⟨hm,h.nd⟩
 ·intro k hk
  rcases mem_insK.1 hk with rfl | hk
  ·exact hj
  ·exact h.lt k hk
 ·by_cases hij : i = j
  ·subst hij
   refine ⟨by rw [Maps.has_put_same hT.isMap hkl]; simp [mem_insK], ?_⟩
   rw [Maps.atKey_put_same hT.isMap hkl,if_pos (mem_insK.2 (.inl rfl)),mapF,if_pos rfl]
  ·have hne : (Lit.int .i64 (i : Int)) ≠ .int .i64 (j : Int) := fun e => by
    have : (i : Int) = j := by injection e
    omega
   refine ⟨by rw [Maps.has_put_other hne,(h2 i).1]; simp [mem_insK,hij], ?_⟩
   rw [Maps.atKey_put_other hne,(h2 i).2,mapF,if_neg hij]
   by_cases hi : i ∈ ks
   ·rw [if_pos hi,if_pos (mem_insK.2 (.inr hi))]
   ·rw [if_neg hi,if_neg (fun h => (mem_insK.1 h).elim hij hi)]
end
theorem qeo (l : List Int) (a : Int) : qar (l ++ [a]) = max (qar l) (l.count a + 1) := by
 have hc : ∀ k,(l ++ [a]).count k = l.count k + (if k = a then 1 else 0) := fun k => by
  rw [List.count_append,List.count_singleton]
  by_cases h : k = a
  ·simp [h]
  ·have : ¬ a = k := fun e => h e.symm
   simp [h,this]
 apply Nat.le_antisymm
 ·refine maxL_le.2 (fun x hx => ?_)
  obtain ⟨k,hk,rfl⟩ := List.mem_map.1 hx
  rw [hc]
  by_cases h : k = a
  ·rw [if_pos h,h]; exact Nat.le_max_right _ _
  ·rw [if_neg h]
   have hkl : k ∈ l := by
    rcases List.mem_append.1 hk with h1 | h1
    ·exact h1
    ·exact absurd (by simpa using h1) h
   have : l.count k ≤ qar l := maxL_le.1 (Nat.le_refl _) _ (List.mem_map.2 ⟨k,hkl,rfl⟩)
   omega
 ·refine Nat.max_le.2 ⟨?_, ?_⟩
  ·refine maxL_le.2 (fun x hx => ?_)
   obtain ⟨k,hk,rfl⟩ := List.mem_map.1 hx
   have : (l ++ [a]).count k ≤ qar (l ++ [a]) := maxL_le.1 (Nat.le_refl _) _ (List.mem_map.2 ⟨k,by simp [hk],rfl⟩)
   rw [hc] at this
   omega
  ·have : (l ++ [a]).count a ≤ qar (l ++ [a]) := maxL_le.1 (Nat.le_refl _) _ (List.mem_map.2 ⟨a,by simp,rfl⟩)
   rw [hc,if_pos rfl] at this
   exact this
theorem qga (l : List Int) : qar l ≤ l.length := by
 refine maxL_le.2 (fun x hx => ?_)
 obtain ⟨k,hk,rfl⟩ := List.mem_map.1 hx
 exact List.count_le_length
end Go.Proofs.YtijgopkhdjaolaaGreat
