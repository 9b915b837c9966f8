import Derived.Test.YtijgopkhdjaolabGreatXTcw
import Derived.Deep.Cut
set_option linter.unusedSimpArgs false
set_option linter.unusedVariables false
set_option maxHeartbeats 16000000
set_option maxRecDepth 100000
namespace Go.Proofs.YtijgopkhdjaolabGreat
open Go.RowKit Go.Shelf Go.Sort
theorem qqa (w:World) (s:Sl) (l:List AlR) (hl:∀W,qB w W→RowsAt W 7 alrP s l) (f:Nat) (caps:Array Value) (eg:∀args W,(callFunc f args).run Tryz.prog W=.ok (.enter f args) W) (p:AlR→Int)
  (hf:∀W,qB w W→∀x∈l,Calls Tryz.prog f (#[.agg #[I x.ctr,I x.ac.kind,I x.ac.task,.int .u32 (x.ac.mask:Int),.int .u32 (x.auto:Int),.int .u32 (x.time:Int),.int .u32 (x.cycle:Int)]]++caps) W fun e w'=>e=.returned (I (p x))∧qB W w') :
  Calls Tryz.prog 184 #[.slice s.a s.n s.c,.func (.func f) #[] caps] w fun e w'=>e=.returned (I (IntKind.i64.wrap (sumZ p l)))∧qB w w':=by
 have h0:=hl w (Below.refl _ _);have HS:Hid (s.n=l.length):=h0.n;have hsc:s.n≤s.c:=h0.c;have hsm:s.c≤maxLen:=h0.m;unfold maxLen at hsm;have HH:Hid (∀W,qB w W→RowsAt W 7 alrP s l):=hl;have HFF:Hid (∀W,qB w W→∀x∈l,Calls Tryz.prog f (#[.agg #[I x.ctr,I x.ac.kind,I x.ac.task,.int .u32 (x.ac.mask:Int),.int .u32 (x.auto:Int),.int .u32 (x.time:Int),.int .u32 (x.cycle:Int)]]++caps) W fun e w'=>e=.returned (I (p x))∧qB W w'):=hf;obtain ⟨R,hR⟩:∃R,R=IntKind.i64.wrap (sumZ p l):=⟨_,rfl⟩
 rw [←hR];have HR:Hid (R=IntKind.i64.wrap (sumZ p l)):=hR;clear hl hR hf h0;go_enter Tryz.func184,Tryz.ntmps184
 go_wp2;go_loopw [5,7,10] (fun tv _ iv wr=>∃(j:Nat) (t:Int),j≤s.n∧iv=.int .i64 j∧tv=.int .i64 t∧Hid (t=IntKind.i64.wrap (sumZ p (l.take j))∧qB w wr)) (fun _ _ iv _=>s.n - (intOf iv).toNat)
 case atStart=>exact ⟨0,0,by omega,rfl,rfl,by simp [sumZ,IntKind.wrap_i64],Below.refl _ _⟩
 case round=>
  obtain ⟨j,t,hj,rfl,rfl,HJ⟩:=hrel;by_cases hlt:j < s.n
  ·have hlt':(j:Int) < s.n:=by omega
   obtain ⟨x,hx⟩:∃x,l[j]?=some x:=⟨_,List.getElem?_eq_getElem (by rw [←HS.out];exact hlt)⟩
   obtain ⟨g5,o5,e5,hg5,hr5⟩:=(HH.out _ HJ.out.2).row j x hx;obtain ⟨u0,a0,q0⟩:=hr5 0 (by omega);obtain ⟨u1,a1,q1⟩:=hr5 1 (by omega);obtain ⟨u2,a2,q2⟩:=hr5 2 (by omega);obtain ⟨u3,a3,q3⟩:=hr5 3 (by omega);obtain ⟨u4,a4,q4⟩:=hr5 4 (by omega);obtain ⟨u5,a5,q5⟩:=hr5 5 (by omega);obtain ⟨u6,a6,q6⟩:=hr5 6 (by omega);have f0:u0=I x.ctr:=q0;have f1:u1=I x.ac.kind:=q1;have f2:u2=I x.ac.task:=q2;have f3:u3=.int .u32 (x.ac.mask:Int):=q3;have f4:u4=.int .u32 (x.auto:Int):=q4;have f5:u5=.int .u32 (x.time:Int):=q5;have f6:u6=.int .u32 (x.cycle:Int):=q6;subst f0 f1 f2 f3 f4 f5 f6;rw [Nat.add_zero] at a0;have HB:Hid (qB w (wr.alloc (.cells #[I x.ctr,I x.ac.kind,I x.ac.task,.int .u32 (x.ac.mask:Int),.int .u32 (x.auto:Int),.int .u32 (x.time:Int),.int .u32 (x.cycle:Int)] 82))):=HJ.out.2.trans ((qa0 wr _).mono HJ.out.2.size);have cx:=HFF.out _ HB.out x (List.mem_of_getElem? hx);have HA:Hid (IntKind.i64.wrap (t+p x)=IntKind.i64.wrap (sumZ p (l.take (j+1)))):=by
    show _=_;rw [List.take_add_one,hx,Option.toList_some,qfx,HJ.out.1];simp only [IntKind.wrap_i64];omega
   rw [e5];clear hx e5 HJ hr5 q0 q1 q2 q3 q4 q5 q6;generalize p x=px at *;go_wp2;refine cx.mono ?_;clear cx;rintro e7 w7 ⟨rfl,hb7⟩;have HB7:Hid (qB w w7):=HB.out.trans (hb7.mono HB.out.size);clear hb7;go_wp2;go_roundw
   case rel=>exact ⟨j+1,IntKind.i64.wrap (t+px),by omega,by go_num,by simp [IntKind.wrap_i64,wrap64],HA.out,HB7.out⟩
   case measure=>simp [intOf];omega
  ·obtain rfl:j=s.n:=by omega
   have hlt':¬((s.n:Nat):Int) < (s.n:Nat):=by omega
   have HE:Hid (t=R):=by
    show _=_;rw [HR.out,HJ.out.1,List.take_of_length_le (by rw [HS.out];exact Nat.le_refl _)]
   have HB:Hid (qB w wr):=HJ.out.2;clear HR HJ;go_wp2;go_ret;exact ⟨qh1 HE.out,HB.out⟩
theorem qqb (w:World) (s:Sl) (l:List MsR) (hl:∀W,qB w W→RowsAt W 8 msrP s l) (f:Nat) (caps:Array Value) (eg:∀args W,(callFunc f args).run Tryz.prog W=.ok (.enter f args) W) (p:MsR→Int)
  (hf:∀W,qB w W→∀x∈l,Calls Tryz.prog f (#[.agg #[I x.kind,I x.len,I x.frm,.int .u64 (x.init:Int),I x.queue,I x.ac.kind,I x.ac.task,.int .u32 (x.ac.mask:Int)]]++caps) W fun e w'=>e=.returned (I (p x))∧qB W w') :
  Calls Tryz.prog 186 #[.slice s.a s.n s.c,.func (.func f) #[] caps] w fun e w'=>e=.returned (I (IntKind.i64.wrap (sumZ p l)))∧qB w w':=by
 have h0:=hl w (Below.refl _ _);have HS:Hid (s.n=l.length):=h0.n;have hsc:s.n≤s.c:=h0.c;have hsm:s.c≤maxLen:=h0.m;unfold maxLen at hsm;have HH:Hid (∀W,qB w W→RowsAt W 8 msrP s l):=hl;have HFF:Hid (∀W,qB w W→∀x∈l,Calls Tryz.prog f (#[.agg #[I x.kind,I x.len,I x.frm,.int .u64 (x.init:Int),I x.queue,I x.ac.kind,I x.ac.task,.int .u32 (x.ac.mask:Int)]]++caps) W fun e w'=>e=.returned (I (p x))∧qB W w'):=hf;obtain ⟨R,hR⟩:∃R,R=IntKind.i64.wrap (sumZ p l):=⟨_,rfl⟩
 rw [←hR];have HR:Hid (R=IntKind.i64.wrap (sumZ p l)):=hR;clear hl hR hf h0;go_enter Tryz.func186,Tryz.ntmps186
 go_wp2;go_loopw [5,7,10] (fun tv _ iv wr=>∃(j:Nat) (t:Int),j≤s.n∧iv=.int .i64 j∧tv=.int .i64 t∧Hid (t=IntKind.i64.wrap (sumZ p (l.take j))∧qB w wr)) (fun _ _ iv _=>s.n - (intOf iv).toNat)
 case atStart=>exact ⟨0,0,by omega,rfl,rfl,by simp [sumZ,IntKind.wrap_i64],Below.refl _ _⟩
 case round=>
  obtain ⟨j,t,hj,rfl,rfl,HJ⟩:=hrel;by_cases hlt:j < s.n
  ·have hlt':(j:Int) < s.n:=by omega
   obtain ⟨x,hx⟩:∃x,l[j]?=some x:=⟨_,List.getElem?_eq_getElem (by rw [←HS.out];exact hlt)⟩
   obtain ⟨g5,o5,e5,hg5,hr5⟩:=(HH.out _ HJ.out.2).row j x hx;obtain ⟨u0,a0,q0⟩:=hr5 0 (by omega);obtain ⟨u1,a1,q1⟩:=hr5 1 (by omega);obtain ⟨u2,a2,q2⟩:=hr5 2 (by omega);obtain ⟨u3,a3,q3⟩:=hr5 3 (by omega);obtain ⟨u4,a4,q4⟩:=hr5 4 (by omega);obtain ⟨u5,a5,q5⟩:=hr5 5 (by omega);obtain ⟨u6,a6,q6⟩:=hr5 6 (by omega);obtain ⟨u7,a7,q7⟩:=hr5 7 (by omega);have f0:u0=I x.kind:=q0;have f1:u1=I x.len:=q1;have f2:u2=I x.frm:=q2;have f3:u3=.int .u64 (x.init:Int):=q3;have f4:u4=I x.queue:=q4;have f5:u5=I x.ac.kind:=q5;have f6:u6=I x.ac.task:=q6;have f7:u7=.int .u32 (x.ac.mask:Int):=q7;subst f0 f1 f2 f3 f4 f5 f6 f7;rw [Nat.add_zero] at a0;have HB:Hid (qB w (wr.alloc (.cells #[I x.kind,I x.len,I x.frm,.int .u64 (x.init:Int),I x.queue,I x.ac.kind,I x.ac.task,.int .u32 (x.ac.mask:Int)] 87))):=HJ.out.2.trans ((qa0 wr _).mono HJ.out.2.size);have cx:=HFF.out _ HB.out x (List.mem_of_getElem? hx);have HA:Hid (IntKind.i64.wrap (t+p x)=IntKind.i64.wrap (sumZ p (l.take (j+1)))):=by
    show _=_;rw [List.take_add_one,hx,Option.toList_some,qfx,HJ.out.1];simp only [IntKind.wrap_i64];omega
   rw [e5];clear hx e5 HJ hr5 q0 q1 q2 q3 q4 q5 q6 q7;generalize p x=px at *;go_wp2;refine cx.mono ?_;clear cx;rintro e7 w7 ⟨rfl,hb7⟩;have HB7:Hid (qB w w7):=HB.out.trans (hb7.mono HB.out.size);clear hb7;go_wp2;go_roundw
   case rel=>exact ⟨j+1,IntKind.i64.wrap (t+px),by omega,by go_num,by simp [IntKind.wrap_i64,wrap64],HA.out,HB7.out⟩
   case measure=>simp [intOf];omega
  ·obtain rfl:j=s.n:=by omega
   have hlt':¬((s.n:Nat):Int) < (s.n:Nat):=by omega
   have HE:Hid (t=R):=by
    show _=_;rw [HR.out,HJ.out.1,List.take_of_length_le (by rw [HS.out];exact Nat.le_refl _)]
   have HB:Hid (qB w wr):=HJ.out.2;clear HR HJ;go_wp2;go_ret;exact ⟨qh1 HE.out,HB.out⟩
theorem qi4 (a:AcR) (w:World):Calls Tryz.prog 194 #[.agg #[I a.kind,I a.task,.int .u32 (a.mask:Int)]] w fun e w'=>e=.returned (I (if a.kind=3 then 1 else 0))∧qB w w':=by
 have hb:∀o,qB w (w.alloc o):=fun o=>qa0 w o
 by_cases h:a.kind=3
 ·rw [if_pos h]
  have h1:(a.kind==3)=true:=by simpa using h
  clear h;go_enter Tryz.func194,Tryz.ntmps194
  go_wp2;go_ret;exact ⟨rfl,hb _⟩
 ·rw [if_neg h]
  have h1:(a.kind==3)=false:=by simpa using h
  clear h;go_enter Tryz.func194,Tryz.ntmps194
  go_wp2;go_ret;exact ⟨rfl,hb _⟩
theorem qk4 (x:AlR) (w:World):Calls Tryz.prog 185 #[.agg (alrC x)] w fun e w'=>e=.returned (I (if x.ac.kind=3 then 1 else 0))∧qB w w':=by
 have hb:∀o,qB w (w.alloc o):=fun o=>qa0 w o
 have kc:=fun W=>qi4 x.ac W
 unfold alrC;generalize (if x.ac.kind=3 then (1:Int) else 0)=rr at *;go_enter Tryz.func185,Tryz.ntmps185
 go_wp2_with (go_at_call 194;refine (kc _).mono ?_;clear kc;rintro e w' ⟨rfl,hb2⟩);go_ret;exact ⟨rfl,(hb _).trans (hb2.mono (hb _).size)⟩
theorem qk5 (x:MsR) (w:World):Calls Tryz.prog 187 #[.agg (msrC x)] w fun e w'=>e=.returned (I (if x.ac.kind=3 then 1 else 0))∧qB w w':=by
 have hb:∀o,qB w (w.alloc o):=fun o=>qa0 w o
 have kc:=fun W=>qi4 x.ac W
 unfold msrC;generalize (if x.ac.kind=3 then (1:Int) else 0)=rr at *;go_enter Tryz.func187,Tryz.ntmps187
 go_wp2_with (go_at_call 194;refine (kc _).mono ?_;clear kc;rintro e w' ⟨rfl,hb2⟩);go_ret;exact ⟨rfl,(hb _).trans (hb2.mono (hb _).size)⟩
theorem qil (x:AlR) (w:World):Calls Tryz.prog 179 #[.agg (alrC x)] w fun e w'=>e=.returned (I x.ctr)∧qB w w':=by
 have hb:∀o,qB w (w.alloc o):=fun o=>qa0 w o
 unfold alrC;go_enter Tryz.func179,Tryz.ntmps179
 go_wp2;go_ret;exact ⟨rfl,hb _⟩
theorem qjc (x:MsR) (w:World):Calls Tryz.prog 183 #[.agg (msrC x)] w fun e w'=>e=.returned (I x.frm)∧qB w w':=by
 have hb:∀o,qB w (w.alloc o):=fun o=>qa0 w o
 unfold msrC;go_enter Tryz.func183,Tryz.ntmps183
 go_wp2;go_ret;exact ⟨rfl,hb _⟩
theorem qhl (x:MsR) (w:World):Calls Tryz.prog 182 #[.agg (msrC x)] w fun e w'=>e=.returned (.bool (x.kind != 1))∧qB w w':=by
 have hb:∀o,qB w (w.alloc o):=fun o=>qa0 w o
 unfold msrC;go_enter Tryz.func182,Tryz.ntmps182
 go_wp2;go_ret;exact ⟨rfl,hb _⟩
theorem qsm : (Tryz.prog.info? 87).map (fun i=>(i.zero,i.size,i.bytes))=some (some (.agg #[I 0,I 0,I 0,.int .u64 0,I 0,I 0,I 0,.int .u32 0]),8,64):=by kernel_rfl
def qdl (l:List MsR):List Value:=l.flatMap (fun x=>(msrC x).toList)
theorem qlf (l:List MsR) (x:MsR):qdl (l++[x])=qdl l++(msrC x).toList:=by simp [qdl]
theorem qjd : ∀(l:List MsR) (j:Nat) (x:MsR) (i:Nat) (u:Value),l[j]?=some x→(msrC x)[i]?=some u→i < 8→(qdl l)[j * 8+i]?=some u
 | [],j,x,i,u,h,_,_=>by simp at h
 | y :: r,0,x,i,u,h,hu,hi=>by
  cases h;have h8:((msrC y).toList).length=8:=rfl;rw [qdl,List.flatMap_cons,Nat.zero_mul,Nat.zero_add,List.getElem?_append_left (by omega)];rw [Array.getElem?_toList];exact hu
 | y :: r,j+1,x,i,u,h,hu,hi=>by
  have ih:=qjd r j x i u (by simpa using h) hu hi;have h8:((msrC y).toList).length=8:=rfl;rw [qdl,List.flatMap_cons,List.getElem?_append_right (by omega),show (j+1) * 8+i - ((msrC y).toList).length=j * 8+i by omega];exact ih
theorem qk6 {w:World} {b:Nat} {a:Option Addr} {c:Nat} {l:List MsR} (hl:l.length≤1048576) (h:w.ownsRow b 87 8 (.slice a l.length c) l.length (qdl l)):RowsAt w 8 msrP ⟨a,l.length,c⟩ l:=by
 rcases h.2 with ⟨h1,h0⟩ | ⟨g,cap,cur,h1,hb,hg,hnc,hcm,hcs,ht⟩
 ·have hn:l=[]:=List.eq_nil_of_length_eq_zero h0
  subst hn;injection h1 with e1 e2 e3
  subst e1 e3;exact ⟨rfl,Nat.le_refl _,Nat.zero_le _,fun j x hj=>by simp at hj⟩
 ·injection h1 with e1 e2 e3
  subst e1 e3;refine ⟨rfl,hnc,hcm,fun j x hj=>⟨g,0,rfl,qan hg,fun i hi=>?_⟩⟩;have hjl:=(List.getElem?_eq_some_iff.1 hj).1;have h8:(msrC x).size=8:=rfl;obtain ⟨u,hu⟩:∃u,(msrC x)[i]?=some u:=⟨_,Array.getElem?_eq_getElem (by omega)⟩
  refine ⟨u,?_,?_⟩
  ·rw [Nat.zero_add,h.cellAt (j * 8+i) (by omega)]
   exact qjd l j x i u hj hu hi
  ·rcases (by omega:i=0∨i=1∨i=2∨i=3∨i=4∨i=5∨i=6∨i=7) with e | e | e | e | e | e | e | e <;> (subst e;cases hu;rfl)
theorem Addr.add_mid9 (b o j:Nat):(⟨b,o,none⟩:Addr).add j=⟨b,o+j,none⟩:=by unfold Addr.add;split <;> simp_all
theorem qqc {w:World} {b E n:Nat} {v:Value} {xs:List Value} (h:w.ownsRow b E 8 v n xs):∃a cc,v=.slice a n cc:=by
 rcases h.2 with ⟨h1,h0⟩ | ⟨g,cap,cur,h1,_⟩
 ·exact ⟨none,0,by rw [h0];exact h1⟩
 ·exact ⟨_,_,h1⟩
theorem qmv (w:World) (s:Sl) (l:List MsR) (hl:∀W,qB w W→RowsAt W 8 msrP s l) (hll:l.length≤1048576) (f:Nat) (caps:Array Value) (eg:∀args W,(callFunc f args).run Tryz.prog W=.ok (.enter f args) W) (p:MsR→Bool)
  (hf:∀W,qB w W→∀x∈l,Calls Tryz.prog f (#[.agg #[I x.kind,I x.len,I x.frm,.int .u64 (x.init:Int),I x.queue,I x.ac.kind,I x.ac.task,.int .u32 (x.ac.mask:Int)]]++caps) W fun e w'=>e=.returned (.bool (p x))∧qB W w') :
  Calls Tryz.prog 181 #[.slice s.a s.n s.c,.func (.func f) #[] caps] w fun e w'=>(∃a c,e=.returned (.slice a (l.filter p).length c)∧RowsAt w' 8 msrP ⟨a,(l.filter p).length,c⟩ (l.filter p))∧qB w w':=by
 obtain ⟨im,him,hm0,hm1,hm2⟩:=info_parts qsm;have h0:=hl w (Below.refl _ _);have HS:Hid (s.n=l.length):=h0.n;have hsc:s.n≤s.c:=h0.c;have hsm:s.c≤maxLen:=h0.m;unfold maxLen at hsm;have HH:Hid (∀W,qB w W→RowsAt W 8 msrP s l):=hl;have HFF:Hid (∀W,qB w W→∀x∈l,Calls Tryz.prog f (#[.agg #[I x.kind,I x.len,I x.frm,.int .u64 (x.init:Int),I x.queue,I x.ac.kind,I x.ac.task,.int .u32 (x.ac.mask:Int)]]++caps) W fun e w'=>e=.returned (.bool (p x))∧qB W w'):=hf;have HLL:Hid (l.length≤1048576):=hll;clear hl hf h0 hll;go_enter Tryz.func181,Tryz.ntmps181
 go_wp2;go_loopw [5,7,10] (fun ov _ iv wr=>∃(j q:Nat) (a:Option Addr) (c:Nat),j≤s.n∧iv=.int .i64 j∧ov=.slice a q c∧Hid (q=((l.take j).filter p).length∧wr.ownsRow w.heap.size 87 8 (.slice a q c) q (qdl ((l.take j).filter p))∧qB w wr)) (fun _ _ iv _=>s.n - (intOf iv).toNat)
 case atStart=>exact ⟨0,0,none,0,by omega,rfl,rfl,by simp,World.ownsRow_nil _ _ _ _,Below.refl _ _⟩
 case round=>
  obtain ⟨j,q,a,c,hj,rfl,rfl,HJ⟩:=hrel;by_cases hlt:j < s.n
  ·have hlt':(j:Int) < s.n:=by omega
   obtain ⟨x,hx⟩:∃x,l[j]?=some x:=⟨_,List.getElem?_eq_getElem (by rw [←HS.out];exact hlt)⟩
   obtain ⟨g5,o5,e5,hg5,hr5⟩:=(HH.out _ HJ.out.2.2).row j x hx;obtain ⟨u0,a0,q0⟩:=hr5 0 (by omega);obtain ⟨u1,a1,q1⟩:=hr5 1 (by omega);obtain ⟨u2,a2,q2⟩:=hr5 2 (by omega);obtain ⟨u3,a3,q3⟩:=hr5 3 (by omega);obtain ⟨u4,a4,q4⟩:=hr5 4 (by omega);obtain ⟨u5,a5,q5⟩:=hr5 5 (by omega);obtain ⟨u6,a6,q6⟩:=hr5 6 (by omega);obtain ⟨u7,a7,q7⟩:=hr5 7 (by omega);have f0:u0=I x.kind:=q0;have f1:u1=I x.len:=q1;have f2:u2=I x.frm:=q2;have f3:u3=.int .u64 (x.init:Int):=q3;have f4:u4=I x.queue:=q4;have f5:u5=I x.ac.kind:=q5;have f6:u6=I x.ac.task:=q6;have f7:u7=.int .u32 (x.ac.mask:Int):=q7;subst f0 f1 f2 f3 f4 f5 f6 f7;rw [Nat.add_zero] at a0;have bX:qB wr (wr.alloc (.cells #[I x.kind,I x.len,I x.frm,.int .u64 (x.init:Int),I x.queue,I x.ac.kind,I x.ac.task,.int .u32 (x.ac.mask:Int)] 87)):=qa0 wr _;have bW:qB w (wr.alloc (.cells #[I x.kind,I x.len,I x.frm,.int .u64 (x.init:Int),I x.queue,I x.ac.kind,I x.ac.task,.int .u32 (x.ac.mask:Int)] 87)):=HJ.out.2.2.trans (bX.mono HJ.out.2.2.size);have hXX:=heap_alloc_new wr (.cells #[I x.kind,I x.len,I x.frm,.int .u64 (x.init:Int),I x.queue,I x.ac.kind,I x.ac.task,.int .u32 (x.ac.mask:Int)] 87);have cx:=HFF.out _ bW x (List.mem_of_getElem? hx);have oX:=qad HJ.out.2.1 bX;have HTk:Hid (l.take (j+1)=l.take j++[x]):=by show _=_;rw [List.take_add_one,hx];rfl
   have HQ:Hid (q=((l.take j).filter p).length∧q≤1048576):=⟨HJ.out.1,by
    have h1:=HJ.out.1;have h2:=List.length_filter_le p (l.take j);have h3:=HLL.out;rw [List.length_take] at h2;omega⟩
   rw [e5];clear hx e5 hr5 q0 q1 q2 q3 q4 q5 q6 q7 HJ;go_upto_region 5 with fail;generalize wr.heap.size=X at *;generalize (wr.alloc (.cells #[I x.kind,I x.len,I x.frm,.int .u64 (x.init:Int),I x.queue,I x.ac.kind,I x.ac.task,.int .u32 (x.ac.mask:Int)] 87))=W0 at *;have HXX:Hid (∀W,qB W0 W→W.heap[X]?=some (.cells #[I x.kind,I x.len,I x.frm,.int .u64 (x.init:Int),I x.queue,I x.ac.kind,I x.ac.task,.int .u32 (x.ac.mask:Int)] 87)):=fun W hW=>(hW.block X (qan hXX)).trans hXX
   have hi97:(Tryz.prog.info? 87).map (·.size)=some (#[I x.kind,I x.len,I x.frm,.int .u64 (x.init:Int),I x.queue,I x.ac.kind,I x.ac.task,.int .u32 (x.ac.mask:Int)]:Array Value).size:=by kernel_rfl
   have HO:Hid (∀W,qB W0 W→W.ownsRow w.heap.size 87 8 (.slice a q c) q (qdl ((l.take j).filter p))):=fun W hW=>qad oX hW
   have HBW:Hid (qB w W0):=bW;clear oX bW bX;cases hpx:p x with
   | false=>
    rw [hpx] at cx;go_wp2_with (first
     | (refine wpList_load_row rfl 87 _ rfl X rfl 87 _ (0,0) _ hXX Tryz.underlying87 rfl hi97 ?_))
    refine cx.mono ?_;clear cx;rintro e7 w7 ⟨rfl,hb7⟩;have H9:Hid (q=((l.take (j+1)).filter p).length∧w7.ownsRow w.heap.size 87 8 (.slice a q c) q (qdl ((l.take (j+1)).filter p))∧qB w w7):=by
     have e9:(l.take (j+1)).filter p=(l.take j).filter p:=by rw [HTk.out,List.filter_append];simp [hpx]
     rw [e9];exact ⟨HQ.out.1,HO.out w7 hb7,HBW.out.trans (hb7.mono HBW.out.size)⟩
    clear hb7;go_wp2;go_roundw
    case rel=>exact ⟨j+1,q,a,c,by omega,by go_num,rfl,H9.out⟩
    case measure=>simp [intOf];omega
   | true=>
    rw [hpx] at cx;go_wp2_with (first
     | (refine wpList_load_row rfl 87 _ rfl X rfl 87 _ (0,0) _ hXX Tryz.underlying87 rfl hi97 ?_))
    refine cx.mono ?_;clear cx;rintro e7 w7 ⟨rfl,hb7⟩;have hX7:=HXX.out w7 hb7;have o7:=HO.out w7 hb7;have b7:qB w w7:=HBW.out.trans (hb7.mono HBW.out.size);clear hb7;have hqq:=HQ.out.2;have s7:=b7.size;go_wp2_with (first
     | (refine wpList_load_row rfl 87 _ rfl X rfl 87 _ (0,0) _ hX7 Tryz.underlying87 rfl hi97 ?_)
     | (at_builtin;refine wpList_append_own _ rfl (.tmp 17) (.tmp 19) 30 rfl w.heap.size 87 im _ 8 64 Tryz.underlying30 him hm0 hm1 hm2 rfl (by decide) _ _ _ rfl (o7.alloc _) ⟨w7.heap.size,0,none⟩ 1 1 (msrC x).toList rfl rfl (fun jj uu hu=>by rw [Addr.add_mid9,qcr (heap_alloc_new w7 _)];rw [Nat.zero_add];rw [Array.getElem?_toList] at hu;exact hu) (fun uu hu=>(by unfold msrC at hu;simp at hu;rcases hu with e | e | e | e | e | e | e | e <;> (subst e;rfl))) (by unfold maxLen;omega) (by omega) (by simp;omega) ?_))
    intro v8 w8 o8 g8 _;obtain ⟨a8,k8,rfl⟩:=qqc o8;have H9:Hid (q+1=((l.take (j+1)).filter p).length∧w8.ownsRow w.heap.size 87 8 (.slice a8 (q+1) k8) (q+1) (qdl ((l.take (j+1)).filter p))∧qB w w8):=by
     have e9:(l.take (j+1)).filter p=(l.take j).filter p++[x]:=by rw [HTk.out,List.filter_append];simp [hpx]
     rw [e9,qlf];refine ⟨by rw [List.length_append,←HQ.out.1];rfl,o8,(b7.alloc b7.size _).grown g8 (by simp;omega) (fun k e=>(o7.lt k e).1)⟩
    clear o8 g8 o7 b7 hX7;go_wp2;go_roundw
    case rel=>exact ⟨j+1,q+1,a8,k8,by omega,by go_num,rfl,H9.out⟩
    case measure=>simp [intOf];omega
  ·obtain rfl:j=s.n:=by omega
   have hlt':¬((s.n:Nat):Int) < (s.n:Nat):=by omega
   have HE:Hid (q=(l.filter p).length∧wr.ownsRow w.heap.size 87 8 (.slice a q c) q (qdl (l.filter p))∧qB w wr):=by
    have:=HJ.out;rwa [List.take_of_length_le (by rw [HS.out];exact Nat.le_refl _)] at this
   have Hll:Hid ((l.filter p).length≤1048576):=Nat.le_trans (List.length_filter_le p l) HLL.out;clear HJ;go_wp2;go_ret;obtain ⟨h1,h2,h3⟩:=HE.out;subst h1;exact ⟨⟨a,c,rfl,qk6 Hll.out h2⟩,h3⟩
structure RwX {α:Type} (k:Nat) (P:α→Nat→Value→Prop) (l:List α) (xs:List Value):Prop where
 n:xs.length=l.length * k
 at':∀j x,l[j]?=some x→∀i,i < k→∃u,xs[j * k+i]?=some u∧P x i u
theorem RwX.nil {α:Type} (k:Nat) (P:α→Nat→Value→Prop):RwX k P [] []:=⟨by simp,fun j x hj=>by simp at hj⟩
theorem RwX.mono {α:Type} {k:Nat} {P Q:α→Nat→Value→Prop} {l:List α} {xs:List Value} (h:RwX k P l xs) (hPQ:∀x i u,P x i u→Q x i u):RwX k Q l xs:=
 ⟨h.n,fun j x hj i hi=>by obtain ⟨u,h1,h2⟩:=h.at' j x hj i hi;exact ⟨u,h1,hPQ x i u h2⟩⟩
theorem RwX.snoc {α:Type} {k:Nat} {P:α→Nat→Value→Prop} {l:List α} {xs:List Value} (h:RwX k P l xs) (x:α) (cs:List Value) (hc:cs.length=k) (hP:∀i,i < k→∃u,cs[i]?=some u∧P x i u):RwX k P (l++[x]) (xs++cs):=by
 refine ⟨by rw [List.length_append,List.length_append,h.n,hc,Nat.add_mul];simp,fun j y hj i hi=>?_⟩;by_cases hjl:j < l.length
 ·rw [List.getElem?_append_left hjl] at hj
  obtain ⟨u,h1,h2⟩:=h.at' j y hj i hi;exact ⟨u,by rw [List.getElem?_append_left (List.getElem?_eq_some_iff.1 h1).1];exact h1,h2⟩
 ·have hje:j=l.length:=by
   have:=(List.getElem?_eq_some_iff.1 hj).1;simp at this;omega
  subst hje;rw [List.getElem?_append_right (Nat.le_refl _),Nat.sub_self] at hj;have hxy:x=y:=by simpa using hj
  subst hxy;obtain ⟨u,h1,h2⟩:=hP i hi;refine ⟨u,?_,h2⟩;rw [List.getElem?_append_right (by rw [h.n];omega),h.n];rw [show l.length * k+i - l.length * k=i by omega];exact h1
theorem RwX.rows {α:Type} {w:World} {base E k:Nat} {P:α→Nat→Value→Prop} {s:Sl} {l:List α} {xs:List Value} (ho:w.ownsRow base E k (.slice s.a s.n s.c) l.length xs) (h:RwX k P l xs):RowsAt w k P s l:=by
 rcases ho.2 with ⟨e,h0⟩ | ⟨g,cap,cur,e,hb,hg,hnc,hcm,hcs,htk⟩
 ·injection e with e1 e2 e3
  exact ⟨by rw [e2,h0],by rw [e2];exact Nat.zero_le _,by rw [e3];exact Nat.zero_le _,fun j x hj=>by have:=(List.getElem?_eq_some_iff.1 hj).1;omega⟩
 ·injection e with e1 e2 e3
  refine ⟨e2,by rw [e2,e3];exact hnc,by rw [e3];exact hcm,fun j x hj=>⟨g,0,e1,qan hg,fun i hi=>?_⟩⟩;obtain ⟨u,h1,h2⟩:=h.at' j x hj i hi;refine ⟨u,?_,h2⟩;rw [e1,e2,e3] at ho;have hlt:j * k+i < l.length * k:=by have:=(List.getElem?_eq_some_iff.1 h1).1;rw [h.n] at this;exact this
  rw [show 0+j * k+i=j * k+i by omega,ho.cellAt _ hlt];exact h1
theorem qam {w:World} {b E k n:Nat} {v:Value} {xs:List Value} (h:w.ownsRow b E k v n xs):∃a cc,v=.slice a n cc:=by
 rcases h.2 with ⟨h1,h0⟩ | ⟨g,cap,cur,h1,_⟩
 ·exact ⟨none,0,by rw [h0];exact h1⟩
 ·exact ⟨_,_,h1⟩
theorem qaz (w:World) (cs:Array Value) (t:TypeId):∀j u,cs.toList[j]?=some u→(w.alloc (.cells cs t)).cell? ((⟨w.heap.size,0,none⟩:Addr).add j)=some u:=fun j u hj=>by
 rw [Addr.add_mid9,Nat.zero_add,cell_of_row _ _ j _ _ (0,0) (heap_alloc_new w _)];rw [←Array.getElem?_toList];exact hj
end Go.Proofs.YtijgopkhdjaolabGreat
