import Derived.Test.YtijgopkhdjaolabGreatXTcd
import Derived.Shelf.Abstract
import Derived.Lib.QuietBelow
set_option linter.unusedSimpArgs false
set_option linter.unusedVariables false
set_option maxHeartbeats 16000000
set_option maxRecDepth 100000
namespace Go.Proofs.YtijgopkhdjaolabGreat
open Go.RowKit
theorem qco {α:Type} (p:α→Bool) (l:List α) (j:Nat) (x:α) (h:l[j]?=some x):(l.take (j+1)).all p=((l.take j).all p&&p x):=by
 rw [List.take_add_one,h,Option.toList_some,List.all_append];simp
theorem qci {α:Type} {p:α→Bool} {l:List α} {j:Nat} {x:α} (h:l[j]?=some x) (hp:p x=false):l.all p=false:=by
 apply Bool.eq_false_iff.2;intro h2;have:=List.all_eq_true.1 h2 x (List.mem_of_getElem? h);rw [hp] at this;cases this
theorem qmp (w:World) (s:Sl) (l:List TkR) (hl:∀W,qB w W→RowsAt W 8 (tkrP W) s l) (f:Nat) (caps:Array Value) (eg:∀args W,(callFunc f args).run Tryz.prog W=.ok (.enter f args) W) (p:TkR→Bool)
  (hf:∀W,qB w W→∀x∈l,∀(s6:Sl),RowsAt W 1 intP s6 x.own→Calls Tryz.prog f (#[.agg #[I x.prio,I x.ring,.bool x.full,I x.limit,.int .u32 (x.mask:Int),I x.inner,.slice s6.a s6.n s6.c,.int .u32 (x.auto:Int)]]++caps) W fun e w'=>e=.returned (.bool (p x))∧qB W w') :
  Calls Tryz.prog 122 #[.slice s.a s.n s.c,.func (.func f) #[] caps] w fun e w'=>e=.returned (.bool (l.all p))∧qB w w':=by
 have h0:=hl w (Below.refl _ _);have HS:Hid (s.n=l.length):=h0.n;have hsc:s.n≤s.c:=h0.c;have hsm:s.c≤maxLen:=h0.m;unfold maxLen at hsm;have HH:Hid (∀W,qB w W→RowsAt W 8 (tkrP W) s l):=hl;have HFF:Hid (∀W,qB w W→∀x∈l,∀(s6:Sl),RowsAt W 1 intP s6 x.own→Calls Tryz.prog f (#[.agg #[I x.prio,I x.ring,.bool x.full,I x.limit,.int .u32 (x.mask:Int),I x.inner,.slice s6.a s6.n s6.c,.int .u32 (x.auto:Int)]]++caps) W fun e w'=>e=.returned (.bool (p x))∧qB W w'):=hf;obtain ⟨R,hR⟩:∃R,R=l.all p:=⟨_,rfl⟩
 rw [←hR];have HR:Hid (R=l.all p):=hR;clear hl hR hf h0;go_enter Tryz.func122,Tryz.ntmps122
 go_wp2;go_loopw [6,9] (fun _ iv wr=>∃j:Nat,j≤s.n∧iv=.int .i64 j∧Hid ((l.take j).all p=true∧qB w wr)) (fun _ iv _=>s.n - (intOf iv).toNat)
 case atStart=>exact ⟨0,by omega,rfl,by simp,Below.refl _ _⟩
 case round=>
  obtain ⟨j,hj,rfl,HJ⟩:=hrel;by_cases hlt:j < s.n
  ·have hlt':(j:Int) < s.n:=by omega
   obtain ⟨x,hx⟩:∃x,l[j]?=some x:=⟨_,List.getElem?_eq_getElem (by rw [←HS.out];exact hlt)⟩
   obtain ⟨g5,o5,e5,hg5,hr5⟩:=(HH.out _ HJ.out.2).row j x hx;obtain ⟨u0,a0,q0⟩:=hr5 0 (by omega);have e0:u0=I x.prio:=q0;subst e0;obtain ⟨u1,a1,q1⟩:=hr5 1 (by omega);have e1:u1=I x.ring:=q1;subst e1;obtain ⟨u2,a2,q2⟩:=hr5 2 (by omega);have e2:u2=.bool x.full:=q2;subst e2;obtain ⟨u3,a3,q3⟩:=hr5 3 (by omega);have e3:u3=I x.limit:=q3;subst e3;obtain ⟨u4,a4,q4⟩:=hr5 4 (by omega);have e4:u4=.int .u32 (x.mask:Int):=q4;subst e4;obtain ⟨u5,a5,q5⟩:=hr5 5 (by omega);have e5:u5=I x.inner:=q5;subst e5;obtain ⟨u6,a6,q6⟩:=hr5 6 (by omega);obtain ⟨s6,e6,r6⟩:=(show IntsV wr x.own u6 from q6);subst e6;obtain ⟨u7,a7,q7⟩:=hr5 7 (by omega);have e7:u7=.int .u32 (x.auto:Int):=q7;subst e7;rw [Nat.add_zero] at a0;have HB:Hid (qB w (wr.alloc (.cells #[I x.prio,I x.ring,.bool x.full,I x.limit,.int .u32 (x.mask:Int),I x.inner,.slice s6.a s6.n s6.c,.int .u32 (x.auto:Int)] 71))):=HJ.out.2.trans ((qa0 wr _).mono HJ.out.2.size);have cx:=HFF.out _ HB.out x (List.mem_of_getElem? hx) s6 (r6.below (qa0 wr _) (fun _ _ _ _ h=>h));have HT:Hid (p x=false→R=false):=fun ht=>by rw [HR.out];exact qci hx ht
   have HA:Hid (p x=true→(l.take (j+1)).all p=true):=fun ht=>by rw [qco _ _ j _ hx,HJ.out.1,ht];rfl
   rw [e5];clear hx e5 HJ hr5 q0 q1 q2 q3 q4 q5 q6 q7;cases he:p x with
   | false=>
    rw [he] at cx;have HE:Hid (R=false):=HT.out he;clear HT HA he;go_wp2;refine cx.mono ?_;clear cx;rintro e7 w7 ⟨rfl,hb7⟩;have HB7:Hid (qB w w7):=HB.out.trans (hb7.mono HB.out.size);clear hb7;go_wp2;go_ret;exact ⟨qa2 HE.out.symm,HB7.out⟩
   | true=>
    rw [he] at cx;have HA2:Hid ((l.take (j+1)).all p=true):=HA.out he;clear HT HA he;go_wp2;refine cx.mono ?_;clear cx;rintro e7 w7 ⟨rfl,hb7⟩;have HB7:Hid (qB w w7):=HB.out.trans (hb7.mono HB.out.size);clear hb7;go_wp2;go_roundw
    case rel=>exact ⟨j+1,by omega,by go_num,HA2.out,HB7.out⟩
    case measure=>simp [intOf];omega
  ·obtain rfl:j=s.n:=by omega
   have hlt':¬((s.n:Nat):Int) < (s.n:Nat):=by omega
   have HE:Hid (R=true):=by
    show _=_;rw [HR.out];have:=HJ.out.1;rwa [List.take_of_length_le (by rw [HS.out];exact Nat.le_refl _)] at this
   have HB:Hid (qB w wr):=HJ.out.2;clear HR HJ;go_wp2;go_ret;exact ⟨qa2 HE.out.symm,HB.out⟩
theorem qmq (w:World) (s:Sl) (l:List RsR) (hl:∀W,qB w W→RowsAt W 2 rsrP s l) (f:Nat) (caps:Array Value) (eg:∀args W,(callFunc f args).run Tryz.prog W=.ok (.enter f args) W) (p:RsR→Bool)
  (hf:∀W,qB w W→∀x∈l,  Calls Tryz.prog f (#[.agg #[.bool x.inner,I x.ceil]]++caps) W fun e w'=>e=.returned (.bool (p x))∧qB W w') :
  Calls Tryz.prog 118 #[.slice s.a s.n s.c,.func (.func f) #[] caps] w fun e w'=>e=.returned (.bool (l.all p))∧qB w w':=by
 have h0:=hl w (Below.refl _ _);have HS:Hid (s.n=l.length):=h0.n;have hsc:s.n≤s.c:=h0.c;have hsm:s.c≤maxLen:=h0.m;unfold maxLen at hsm;have HH:Hid (∀W,qB w W→RowsAt W 2 rsrP s l):=hl;have HFF:Hid (∀W,qB w W→∀x∈l,  Calls Tryz.prog f (#[.agg #[.bool x.inner,I x.ceil]]++caps) W fun e w'=>e=.returned (.bool (p x))∧qB W w'):=hf;obtain ⟨R,hR⟩:∃R,R=l.all p:=⟨_,rfl⟩
 rw [←hR];have HR:Hid (R=l.all p):=hR;clear hl hR hf h0;go_enter Tryz.func118,Tryz.ntmps118
 go_wp2;go_loopw [6,9] (fun _ iv wr=>∃j:Nat,j≤s.n∧iv=.int .i64 j∧Hid ((l.take j).all p=true∧qB w wr)) (fun _ iv _=>s.n - (intOf iv).toNat)
 case atStart=>exact ⟨0,by omega,rfl,by simp,Below.refl _ _⟩
 case round=>
  obtain ⟨j,hj,rfl,HJ⟩:=hrel;by_cases hlt:j < s.n
  ·have hlt':(j:Int) < s.n:=by omega
   obtain ⟨x,hx⟩:∃x,l[j]?=some x:=⟨_,List.getElem?_eq_getElem (by rw [←HS.out];exact hlt)⟩
   obtain ⟨g5,o5,e5,hg5,hr5⟩:=(HH.out _ HJ.out.2).row j x hx;obtain ⟨u0,a0,q0⟩:=hr5 0 (by omega);have e0:u0=.bool x.inner:=q0;subst e0;obtain ⟨u1,a1,q1⟩:=hr5 1 (by omega);have e1:u1=I x.ceil:=q1;subst e1;rw [Nat.add_zero] at a0;have HB:Hid (qB w (wr.alloc (.cells #[.bool x.inner,I x.ceil] 75))):=HJ.out.2.trans ((qa0 wr _).mono HJ.out.2.size);have cx:=HFF.out _ HB.out x (List.mem_of_getElem? hx);have HT:Hid (p x=false→R=false):=fun ht=>by rw [HR.out];exact qci hx ht
   have HA:Hid (p x=true→(l.take (j+1)).all p=true):=fun ht=>by rw [qco _ _ j _ hx,HJ.out.1,ht];rfl
   rw [e5];clear hx e5 HJ hr5 q0 q1;cases he:p x with
   | false=>
    rw [he] at cx;have HE:Hid (R=false):=HT.out he;clear HT HA he;go_wp2;refine cx.mono ?_;clear cx;rintro e7 w7 ⟨rfl,hb7⟩;have HB7:Hid (qB w w7):=HB.out.trans (hb7.mono HB.out.size);clear hb7;go_wp2;go_ret;exact ⟨qa2 HE.out.symm,HB7.out⟩
   | true=>
    rw [he] at cx;have HA2:Hid ((l.take (j+1)).all p=true):=HA.out he;clear HT HA he;go_wp2;refine cx.mono ?_;clear cx;rintro e7 w7 ⟨rfl,hb7⟩;have HB7:Hid (qB w w7):=HB.out.trans (hb7.mono HB.out.size);clear hb7;go_wp2;go_roundw
    case rel=>exact ⟨j+1,by omega,by go_num,HA2.out,HB7.out⟩
    case measure=>simp [intOf];omega
  ·obtain rfl:j=s.n:=by omega
   have hlt':¬((s.n:Nat):Int) < (s.n:Nat):=by omega
   have HE:Hid (R=true):=by
    show _=_;rw [HR.out];have:=HJ.out.1;rwa [List.take_of_length_le (by rw [HS.out];exact Nat.le_refl _)] at this
   have HB:Hid (qB w wr):=HJ.out.2;clear HR HJ;go_wp2;go_ret;exact ⟨qa2 HE.out.symm,HB.out⟩
theorem qmr (w:World) (s:Sl) (l:List CtR) (hl:∀W,qB w W→RowsAt W 3 ctrP s l) (f:Nat) (caps:Array Value) (eg:∀args W,(callFunc f args).run Tryz.prog W=.ok (.enter f args) W) (p:CtR→Bool)
  (hf:∀W,qB w W→∀x∈l,  Calls Tryz.prog f (#[.agg #[.int .u32 (x.max:Int),.int .u32 (x.base:Int),.int .u32 (x.min:Int)]]++caps) W fun e w'=>e=.returned (.bool (p x))∧qB W w') :
  Calls Tryz.prog 128 #[.slice s.a s.n s.c,.func (.func f) #[] caps] w fun e w'=>e=.returned (.bool (l.all p))∧qB w w':=by
 have h0:=hl w (Below.refl _ _);have HS:Hid (s.n=l.length):=h0.n;have hsc:s.n≤s.c:=h0.c;have hsm:s.c≤maxLen:=h0.m;unfold maxLen at hsm;have HH:Hid (∀W,qB w W→RowsAt W 3 ctrP s l):=hl;have HFF:Hid (∀W,qB w W→∀x∈l,  Calls Tryz.prog f (#[.agg #[.int .u32 (x.max:Int),.int .u32 (x.base:Int),.int .u32 (x.min:Int)]]++caps) W fun e w'=>e=.returned (.bool (p x))∧qB W w'):=hf;obtain ⟨R,hR⟩:∃R,R=l.all p:=⟨_,rfl⟩
 rw [←hR];have HR:Hid (R=l.all p):=hR;clear hl hR hf h0;go_enter Tryz.func128,Tryz.ntmps128
 go_wp2;go_loopw [6,9] (fun _ iv wr=>∃j:Nat,j≤s.n∧iv=.int .i64 j∧Hid ((l.take j).all p=true∧qB w wr)) (fun _ iv _=>s.n - (intOf iv).toNat)
 case atStart=>exact ⟨0,by omega,rfl,by simp,Below.refl _ _⟩
 case round=>
  obtain ⟨j,hj,rfl,HJ⟩:=hrel;by_cases hlt:j < s.n
  ·have hlt':(j:Int) < s.n:=by omega
   obtain ⟨x,hx⟩:∃x,l[j]?=some x:=⟨_,List.getElem?_eq_getElem (by rw [←HS.out];exact hlt)⟩
   obtain ⟨g5,o5,e5,hg5,hr5⟩:=(HH.out _ HJ.out.2).row j x hx;obtain ⟨u0,a0,q0⟩:=hr5 0 (by omega);have e0:u0=.int .u32 (x.max:Int):=q0;subst e0;obtain ⟨u1,a1,q1⟩:=hr5 1 (by omega);have e1:u1=.int .u32 (x.base:Int):=q1;subst e1;obtain ⟨u2,a2,q2⟩:=hr5 2 (by omega);have e2:u2=.int .u32 (x.min:Int):=q2;subst e2;rw [Nat.add_zero] at a0;have HB:Hid (qB w (wr.alloc (.cells #[.int .u32 (x.max:Int),.int .u32 (x.base:Int),.int .u32 (x.min:Int)] 77))):=HJ.out.2.trans ((qa0 wr _).mono HJ.out.2.size);have cx:=HFF.out _ HB.out x (List.mem_of_getElem? hx);have HT:Hid (p x=false→R=false):=fun ht=>by rw [HR.out];exact qci hx ht
   have HA:Hid (p x=true→(l.take (j+1)).all p=true):=fun ht=>by rw [qco _ _ j _ hx,HJ.out.1,ht];rfl
   rw [e5];clear hx e5 HJ hr5 q0 q1 q2;cases he:p x with
   | false=>
    rw [he] at cx;have HE:Hid (R=false):=HT.out he;clear HT HA he;go_wp2;refine cx.mono ?_;clear cx;rintro e7 w7 ⟨rfl,hb7⟩;have HB7:Hid (qB w w7):=HB.out.trans (hb7.mono HB.out.size);clear hb7;go_wp2;go_ret;exact ⟨qa2 HE.out.symm,HB7.out⟩
   | true=>
    rw [he] at cx;have HA2:Hid ((l.take (j+1)).all p=true):=HA.out he;clear HT HA he;go_wp2;refine cx.mono ?_;clear cx;rintro e7 w7 ⟨rfl,hb7⟩;have HB7:Hid (qB w w7):=HB.out.trans (hb7.mono HB.out.size);clear hb7;go_wp2;go_roundw
    case rel=>exact ⟨j+1,by omega,by go_num,HA2.out,HB7.out⟩
    case measure=>simp [intOf];omega
  ·obtain rfl:j=s.n:=by omega
   have hlt':¬((s.n:Nat):Int) < (s.n:Nat):=by omega
   have HE:Hid (R=true):=by
    show _=_;rw [HR.out];have:=HJ.out.1;rwa [List.take_of_length_le (by rw [HS.out];exact Nat.le_refl _)] at this
   have HB:Hid (qB w wr):=HJ.out.2;clear HR HJ;go_wp2;go_ret;exact ⟨qa2 HE.out.symm,HB.out⟩
theorem qms (w:World) (s:Sl) (l:List AlR) (hl:∀W,qB w W→RowsAt W 7 alrP s l) (f:Nat) (caps:Array Value) (eg:∀args W,(callFunc f args).run Tryz.prog W=.ok (.enter f args) W) (p:AlR→Bool)
  (hf:∀W,qB w W→∀x∈l,  Calls Tryz.prog f (#[.agg #[I x.ctr,I x.ac.kind,I x.ac.task,.int .u32 (x.ac.mask:Int),.int .u32 (x.auto:Int),.int .u32 (x.time:Int),.int .u32 (x.cycle:Int)]]++caps) W fun e w'=>e=.returned (.bool (p x))∧qB W w') :
  Calls Tryz.prog 131 #[.slice s.a s.n s.c,.func (.func f) #[] caps] w fun e w'=>e=.returned (.bool (l.all p))∧qB w w':=by
 have h0:=hl w (Below.refl _ _);have HS:Hid (s.n=l.length):=h0.n;have hsc:s.n≤s.c:=h0.c;have hsm:s.c≤maxLen:=h0.m;unfold maxLen at hsm;have HH:Hid (∀W,qB w W→RowsAt W 7 alrP s l):=hl;have HFF:Hid (∀W,qB w W→∀x∈l,  Calls Tryz.prog f (#[.agg #[I x.ctr,I x.ac.kind,I x.ac.task,.int .u32 (x.ac.mask:Int),.int .u32 (x.auto:Int),.int .u32 (x.time:Int),.int .u32 (x.cycle:Int)]]++caps) W fun e w'=>e=.returned (.bool (p x))∧qB W w'):=hf;obtain ⟨R,hR⟩:∃R,R=l.all p:=⟨_,rfl⟩
 rw [←hR];have HR:Hid (R=l.all p):=hR;clear hl hR hf h0;go_enter Tryz.func131,Tryz.ntmps131
 go_wp2;go_loopw [6,9] (fun _ iv wr=>∃j:Nat,j≤s.n∧iv=.int .i64 j∧Hid ((l.take j).all p=true∧qB w wr)) (fun _ iv _=>s.n - (intOf iv).toNat)
 case atStart=>exact ⟨0,by omega,rfl,by simp,Below.refl _ _⟩
 case round=>
  obtain ⟨j,hj,rfl,HJ⟩:=hrel;by_cases hlt:j < s.n
  ·have hlt':(j:Int) < s.n:=by omega
   obtain ⟨x,hx⟩:∃x,l[j]?=some x:=⟨_,List.getElem?_eq_getElem (by rw [←HS.out];exact hlt)⟩
   obtain ⟨g5,o5,e5,hg5,hr5⟩:=(HH.out _ HJ.out.2).row j x hx;obtain ⟨u0,a0,q0⟩:=hr5 0 (by omega);have e0:u0=I x.ctr:=q0;subst e0;obtain ⟨u1,a1,q1⟩:=hr5 1 (by omega);have e1:u1=I x.ac.kind:=q1;subst e1;obtain ⟨u2,a2,q2⟩:=hr5 2 (by omega);have e2:u2=I x.ac.task:=q2;subst e2;obtain ⟨u3,a3,q3⟩:=hr5 3 (by omega);have e3:u3=.int .u32 (x.ac.mask:Int):=q3;subst e3;obtain ⟨u4,a4,q4⟩:=hr5 4 (by omega);have e4:u4=.int .u32 (x.auto:Int):=q4;subst e4;obtain ⟨u5,a5,q5⟩:=hr5 5 (by omega);have e5:u5=.int .u32 (x.time:Int):=q5;subst e5;obtain ⟨u6,a6,q6⟩:=hr5 6 (by omega);have e6:u6=.int .u32 (x.cycle:Int):=q6;subst e6;rw [Nat.add_zero] at a0;have HB:Hid (qB w (wr.alloc (.cells #[I x.ctr,I x.ac.kind,I x.ac.task,.int .u32 (x.ac.mask:Int),.int .u32 (x.auto:Int),.int .u32 (x.time:Int),.int .u32 (x.cycle:Int)] 82))):=HJ.out.2.trans ((qa0 wr _).mono HJ.out.2.size);have cx:=HFF.out _ HB.out x (List.mem_of_getElem? hx);have HT:Hid (p x=false→R=false):=fun ht=>by rw [HR.out];exact qci hx ht
   have HA:Hid (p x=true→(l.take (j+1)).all p=true):=fun ht=>by rw [qco _ _ j _ hx,HJ.out.1,ht];rfl
   rw [e5];clear hx e5 HJ hr5 q0 q1 q2 q3 q4 q5 q6;cases he:p x with
   | false=>
    rw [he] at cx;have HE:Hid (R=false):=HT.out he;clear HT HA he;go_wp2;refine cx.mono ?_;clear cx;rintro e7 w7 ⟨rfl,hb7⟩;have HB7:Hid (qB w w7):=HB.out.trans (hb7.mono HB.out.size);clear hb7;go_wp2;go_ret;exact ⟨qa2 HE.out.symm,HB7.out⟩
   | true=>
    rw [he] at cx;have HA2:Hid ((l.take (j+1)).all p=true):=HA.out he;clear HT HA he;go_wp2;refine cx.mono ?_;clear cx;rintro e7 w7 ⟨rfl,hb7⟩;have HB7:Hid (qB w w7):=HB.out.trans (hb7.mono HB.out.size);clear hb7;go_wp2;go_roundw
    case rel=>exact ⟨j+1,by omega,by go_num,HA2.out,HB7.out⟩
    case measure=>simp [intOf];omega
  ·obtain rfl:j=s.n:=by omega
   have hlt':¬((s.n:Nat):Int) < (s.n:Nat):=by omega
   have HE:Hid (R=true):=by
    show _=_;rw [HR.out];have:=HJ.out.1;rwa [List.take_of_length_le (by rw [HS.out];exact Nat.le_refl _)] at this
   have HB:Hid (qB w wr):=HJ.out.2;clear HR HJ;go_wp2;go_ret;exact ⟨qa2 HE.out.symm,HB.out⟩
theorem qmt (w:World) (s:Sl) (l:List IsR) (hl:∀W,qB w W→RowsAt W 3 (isrP W) s l) (f:Nat) (caps:Array Value) (eg:∀args W,(callFunc f args).run Tryz.prog W=.ok (.enter f args) W) (p:IsR→Bool)
  (hf:∀W,qB w W→∀x∈l,∀(s2:Sl),RowsAt W 1 intP s2 x.own→Calls Tryz.prog f (#[.agg #[I x.cat,I x.prio,.slice s2.a s2.n s2.c]]++caps) W fun e w'=>e=.returned (.bool (p x))∧qB W w') :
  Calls Tryz.prog 137 #[.slice s.a s.n s.c,.func (.func f) #[] caps] w fun e w'=>e=.returned (.bool (l.all p))∧qB w w':=by
 have h0:=hl w (Below.refl _ _);have HS:Hid (s.n=l.length):=h0.n;have hsc:s.n≤s.c:=h0.c;have hsm:s.c≤maxLen:=h0.m;unfold maxLen at hsm;have HH:Hid (∀W,qB w W→RowsAt W 3 (isrP W) s l):=hl;have HFF:Hid (∀W,qB w W→∀x∈l,∀(s2:Sl),RowsAt W 1 intP s2 x.own→Calls Tryz.prog f (#[.agg #[I x.cat,I x.prio,.slice s2.a s2.n s2.c]]++caps) W fun e w'=>e=.returned (.bool (p x))∧qB W w'):=hf;obtain ⟨R,hR⟩:∃R,R=l.all p:=⟨_,rfl⟩
 rw [←hR];have HR:Hid (R=l.all p):=hR;clear hl hR hf h0;go_enter Tryz.func137,Tryz.ntmps137
 go_wp2;go_loopw [6,9] (fun _ iv wr=>∃j:Nat,j≤s.n∧iv=.int .i64 j∧Hid ((l.take j).all p=true∧qB w wr)) (fun _ iv _=>s.n - (intOf iv).toNat)
 case atStart=>exact ⟨0,by omega,rfl,by simp,Below.refl _ _⟩
 case round=>
  obtain ⟨j,hj,rfl,HJ⟩:=hrel;by_cases hlt:j < s.n
  ·have hlt':(j:Int) < s.n:=by omega
   obtain ⟨x,hx⟩:∃x,l[j]?=some x:=⟨_,List.getElem?_eq_getElem (by rw [←HS.out];exact hlt)⟩
   obtain ⟨g5,o5,e5,hg5,hr5⟩:=(HH.out _ HJ.out.2).row j x hx;obtain ⟨u0,a0,q0⟩:=hr5 0 (by omega);have e0:u0=I x.cat:=q0;subst e0;obtain ⟨u1,a1,q1⟩:=hr5 1 (by omega);have e1:u1=I x.prio:=q1;subst e1;obtain ⟨u2,a2,q2⟩:=hr5 2 (by omega);obtain ⟨s2,e2,r2⟩:=(show IntsV wr x.own u2 from q2);subst e2;rw [Nat.add_zero] at a0;have HB:Hid (qB w (wr.alloc (.cells #[I x.cat,I x.prio,.slice s2.a s2.n s2.c] 84))):=HJ.out.2.trans ((qa0 wr _).mono HJ.out.2.size);have cx:=HFF.out _ HB.out x (List.mem_of_getElem? hx) s2 (r2.below (qa0 wr _) (fun _ _ _ _ h=>h));have HT:Hid (p x=false→R=false):=fun ht=>by rw [HR.out];exact qci hx ht
   have HA:Hid (p x=true→(l.take (j+1)).all p=true):=fun ht=>by rw [qco _ _ j _ hx,HJ.out.1,ht];rfl
   rw [e5];clear hx e5 HJ hr5 q0 q1 q2;cases he:p x with
   | false=>
    rw [he] at cx;have HE:Hid (R=false):=HT.out he;clear HT HA he;go_wp2;refine cx.mono ?_;clear cx;rintro e7 w7 ⟨rfl,hb7⟩;have HB7:Hid (qB w w7):=HB.out.trans (hb7.mono HB.out.size);clear hb7;go_wp2;go_ret;exact ⟨qa2 HE.out.symm,HB7.out⟩
   | true=>
    rw [he] at cx;have HA2:Hid ((l.take (j+1)).all p=true):=HA.out he;clear HT HA he;go_wp2;refine cx.mono ?_;clear cx;rintro e7 w7 ⟨rfl,hb7⟩;have HB7:Hid (qB w w7):=HB.out.trans (hb7.mono HB.out.size);clear hb7;go_wp2;go_roundw
    case rel=>exact ⟨j+1,by omega,by go_num,HA2.out,HB7.out⟩
    case measure=>simp [intOf];omega
  ·obtain rfl:j=s.n:=by omega
   have hlt':¬((s.n:Nat):Int) < (s.n:Nat):=by omega
   have HE:Hid (R=true):=by
    show _=_;rw [HR.out];have:=HJ.out.1;rwa [List.take_of_length_le (by rw [HS.out];exact Nat.le_refl _)] at this
   have HB:Hid (qB w wr):=HJ.out.2;clear HR HJ;go_wp2;go_ret;exact ⟨qa2 HE.out.symm,HB.out⟩
theorem qi3 (w:World) (s:Sl) (l:List MsR) (hl:∀W,qB w W→RowsAt W 8 msrP s l) (f:Nat) (caps:Array Value) (eg:∀args W,(callFunc f args).run Tryz.prog W=.ok (.enter f args) W) (p:MsR→Bool)
  (hf:∀W,qB w W→∀x∈l,  Calls Tryz.prog f (#[.agg #[I x.kind,I x.len,I x.frm,.int .u64 (x.init:Int),I x.queue,I x.ac.kind,I x.ac.task,.int .u32 (x.ac.mask:Int)]]++caps) W fun e w'=>e=.returned (.bool (p x))∧qB W w') :
  Calls Tryz.prog 140 #[.slice s.a s.n s.c,.func (.func f) #[] caps] w fun e w'=>e=.returned (.bool (l.all p))∧qB w w':=by
 have h0:=hl w (Below.refl _ _);have HS:Hid (s.n=l.length):=h0.n;have hsc:s.n≤s.c:=h0.c;have hsm:s.c≤maxLen:=h0.m;unfold maxLen at hsm;have HH:Hid (∀W,qB w W→RowsAt W 8 msrP s l):=hl;have HFF:Hid (∀W,qB w W→∀x∈l,  Calls Tryz.prog f (#[.agg #[I x.kind,I x.len,I x.frm,.int .u64 (x.init:Int),I x.queue,I x.ac.kind,I x.ac.task,.int .u32 (x.ac.mask:Int)]]++caps) W fun e w'=>e=.returned (.bool (p x))∧qB W w'):=hf;obtain ⟨R,hR⟩:∃R,R=l.all p:=⟨_,rfl⟩
 rw [←hR];have HR:Hid (R=l.all p):=hR;clear hl hR hf h0;go_enter Tryz.func140,Tryz.ntmps140
 go_wp2;go_loopw [6,9] (fun _ iv wr=>∃j:Nat,j≤s.n∧iv=.int .i64 j∧Hid ((l.take j).all p=true∧qB w wr)) (fun _ iv _=>s.n - (intOf iv).toNat)
 case atStart=>exact ⟨0,by omega,rfl,by simp,Below.refl _ _⟩
 case round=>
  obtain ⟨j,hj,rfl,HJ⟩:=hrel;by_cases hlt:j < s.n
  ·have hlt':(j:Int) < s.n:=by omega
   obtain ⟨x,hx⟩:∃x,l[j]?=some x:=⟨_,List.getElem?_eq_getElem (by rw [←HS.out];exact hlt)⟩
   obtain ⟨g5,o5,e5,hg5,hr5⟩:=(HH.out _ HJ.out.2).row j x hx;obtain ⟨u0,a0,q0⟩:=hr5 0 (by omega);have e0:u0=I x.kind:=q0;subst e0;obtain ⟨u1,a1,q1⟩:=hr5 1 (by omega);have e1:u1=I x.len:=q1;subst e1;obtain ⟨u2,a2,q2⟩:=hr5 2 (by omega);have e2:u2=I x.frm:=q2;subst e2;obtain ⟨u3,a3,q3⟩:=hr5 3 (by omega);have e3:u3=.int .u64 (x.init:Int):=q3;subst e3;obtain ⟨u4,a4,q4⟩:=hr5 4 (by omega);have e4:u4=I x.queue:=q4;subst e4;obtain ⟨u5,a5,q5⟩:=hr5 5 (by omega);have e5:u5=I x.ac.kind:=q5;subst e5;obtain ⟨u6,a6,q6⟩:=hr5 6 (by omega);have e6:u6=I x.ac.task:=q6;subst e6;obtain ⟨u7,a7,q7⟩:=hr5 7 (by omega);have e7:u7=.int .u32 (x.ac.mask:Int):=q7;subst e7;rw [Nat.add_zero] at a0;have HB:Hid (qB w (wr.alloc (.cells #[I x.kind,I x.len,I x.frm,.int .u64 (x.init:Int),I x.queue,I x.ac.kind,I x.ac.task,.int .u32 (x.ac.mask:Int)] 87))):=HJ.out.2.trans ((qa0 wr _).mono HJ.out.2.size);have cx:=HFF.out _ HB.out x (List.mem_of_getElem? hx);have HT:Hid (p x=false→R=false):=fun ht=>by rw [HR.out];exact qci hx ht
   have HA:Hid (p x=true→(l.take (j+1)).all p=true):=fun ht=>by rw [qco _ _ j _ hx,HJ.out.1,ht];rfl
   rw [e5];clear hx e5 HJ hr5 q0 q1 q2 q3 q4 q5 q6 q7;cases he:p x with
   | false=>
    rw [he] at cx;have HE:Hid (R=false):=HT.out he;clear HT HA he;go_wp2;refine cx.mono ?_;clear cx;rintro e7 w7 ⟨rfl,hb7⟩;have HB7:Hid (qB w w7):=HB.out.trans (hb7.mono HB.out.size);clear hb7;go_wp2;go_ret;exact ⟨qa2 HE.out.symm,HB7.out⟩
   | true=>
    rw [he] at cx;have HA2:Hid ((l.take (j+1)).all p=true):=HA.out he;clear HT HA he;go_wp2;refine cx.mono ?_;clear cx;rintro e7 w7 ⟨rfl,hb7⟩;have HB7:Hid (qB w w7):=HB.out.trans (hb7.mono HB.out.size);clear hb7;go_wp2;go_roundw
    case rel=>exact ⟨j+1,by omega,by go_num,HA2.out,HB7.out⟩
    case measure=>simp [intOf];omega
  ·obtain rfl:j=s.n:=by omega
   have hlt':¬((s.n:Nat):Int) < (s.n:Nat):=by omega
   have HE:Hid (R=true):=by
    show _=_;rw [HR.out];have:=HJ.out.1;rwa [List.take_of_length_le (by rw [HS.out];exact Nat.le_refl _)] at this
   have HB:Hid (qB w wr):=HJ.out.2;clear HR HJ;go_wp2;go_ret;exact ⟨qa2 HE.out.symm,HB.out⟩
end Go.Proofs.YtijgopkhdjaolabGreat
namespace Go.Proofs.YtijgopkhdjaolabGreat
open Go.RowKit Go.Shelf
theorem qgc (x:RsR) (w:World):Calls Tryz.prog 119 #[.agg #[.bool x.inner,I x.ceil]] w fun e w'=>e=.returned (.bool (inI x.ceil (-1) 127))∧qB w w':=by
 have hb:∀o,qB w (w.alloc o):=fun o=>qa0 w o
 have k1:=qca x.ceil (-1) 127;go_enter Tryz.func119,Tryz.ntmps119
 go_wp2_with (go_at_call 117;refine (k1 _).mono ?_;clear k1;rintro e w' ⟨rfl,rfl⟩);go_ret;exact ⟨rfl,hb _⟩
theorem qgj (tb:Tb) (v:Ts) (w:World) (h:TbAt w tb v):Calls Tryz.prog 54 #[.agg (tbC tb v)] w fun e w'=>e=.returned (.bool (tb.ress.all (fun r=>inI r.ceil (-1) 127)))∧qB w w':=by
 have hb:∀o,qB w (w.alloc o):=fun o=>qa0 w o
 have ke:=fun o=>qmq (w.alloc o) v.r tb.ress (fun W hW=>(h.below ((hb o).trans (hW.mono (hb o).size))).r) 119 #[] (enters_of Tryz.func119 (by kernel_rfl) rfl) (fun r=>inI r.ceil (-1) 127) (fun W hW x hx=>qgc x W)
 unfold tbC;go_enter Tryz.func54,Tryz.ntmps54
 go_wp2_with (go_at_call 118;refine (ke _).mono ?_;clear ke;rintro e w' ⟨rfl,hb2⟩);go_ret;exact ⟨rfl,(hb _).trans (hb2.mono (hb _).size)⟩
theorem qre (x:CtR):ctB x=((decide (1≤x.max)&&decide (x.max≤2147483647))&&(decide (1≤x.base)&&decide (x.base≤2147483647))&&(decide (1≤x.min)&&decide (x.min≤x.max))):=by
 unfold ctB;rw [Bool.eq_iff_iff];simp;omega
theorem qgk (x:CtR) (w:World):Calls Tryz.prog 129 #[.agg #[.int .u32 (x.max:Int),.int .u32 (x.base:Int),.int .u32 (x.min:Int)]] w fun e w'=>e=.returned (.bool (ctB x))∧qB w w':=by
 have hb:∀o,qB w (w.alloc o):=fun o=>qa0 w o
 have k1:=qdk x.max 1 2147483647;have k2:=qdk x.base 1 2147483647;have k3:=qdk x.min 1 x.max;rw [qre];generalize (decide (1≤x.max)&&decide (x.max≤2147483647))=b1 at *;generalize (decide (1≤x.base)&&decide (x.base≤2147483647))=b2 at *;generalize (decide (1≤x.min)&&decide (x.min≤x.max))=b3 at *;go_enter Tryz.func129,Tryz.ntmps129
 cases b1
 ·go_wp2_with (first | (go_at_call 130;refine (k1 _).mono ?_;clear k1;rintro e w' ⟨rfl,rfl⟩))
  go_ret;exact ⟨rfl,hb _⟩
 ·cases b2
  ·go_wp2_with (first | (go_at_call 130;refine (k1 _).mono ?_;clear k1;rintro e w' ⟨rfl,rfl⟩) | (go_at_call 130;refine (k2 _).mono ?_;clear k2;rintro e w' ⟨rfl,rfl⟩))
   go_ret;exact ⟨rfl,hb _⟩
  ·go_wp2_with (first | (go_at_call 130;refine (k1 _).mono ?_;clear k1;rintro e w' ⟨rfl,rfl⟩) | (go_at_call 130;refine (k2 _).mono ?_;clear k2;rintro e w' ⟨rfl,rfl⟩) | (go_at_call 130;refine (k3 _).mono ?_;clear k3;rintro e w' ⟨rfl,rfl⟩))
   go_ret;exact ⟨qa2 (by simp),hb _⟩
theorem qh0 (tb:Tb) (v:Ts) (w:World) (h:TbAt w tb v):Calls Tryz.prog 57 #[.agg (tbC tb v)] w fun e w'=>e=.returned (.bool (tb.ctrs.all ctB))∧qB w w':=by
 have hb:∀o,qB w (w.alloc o):=fun o=>qa0 w o
 have ke:=fun o=>qmr (w.alloc o) v.k tb.ctrs (fun W hW=>(h.below ((hb o).trans (hW.mono (hb o).size))).k) 129 #[] (enters_of Tryz.func129 (by kernel_rfl) rfl) ctB (fun W hW x hx=>qgk x W)
 unfold tbC;go_enter Tryz.func57,Tryz.ntmps57
 go_wp2_with (go_at_call 128;refine (ke _).mono ?_;clear ke;rintro e w' ⟨rfl,hb2⟩);go_ret;exact ⟨rfl,(hb _).trans (hb2.mono (hb _).size)⟩
theorem qk2 (tb:Tb) (v:Ts) (x:IsR) (s:Sl) (w:World) (h:TbAt w tb v) (hs:RowsAt w 1 intP s x.own):Calls Tryz.prog 136 #[.agg (tbC tb v),.agg (isrC x s)] w fun e w'=>e=.returned (.bool (isB tb x))∧qB w w':=by
 have hb:∀o p,qB w ((w.alloc o).alloc p):=fun o p=>((Below.refl w.heap.size w).alloc (Nat.le_refl _) o).alloc (by simp) p
 have k1:=qca x.cat 1 2;have k2:=qca x.prio 64 127;have ko:=fun o p=>qge tb v ((w.alloc o).alloc p) (h.below (hb o p)) s x.own (hs.below (hb o p) (fun _ _ _ _ h=>h)) x.prio
 have HN:Hid (x.own.isEmpty=((s.n:Int)==0)):=by
  show _=_;rw [hs.n];cases x.own <;> simp
  omega
 obtain ⟨R,hR⟩:∃R,R=isB tb x:=⟨_,rfl⟩
 rw [←hR];have HR:Hid (R=(inI x.cat 1 2&&inI x.prio 64 127&&(x.cat==2 || ((s.n:Int)==0))&&ownG tb x.prio (-1) x.own)):=by
  show _=_;rw [hR];unfold isB;rw [HN.out]
 clear hR HN h hs;generalize inI x.cat 1 2=b1 at *;generalize inI x.prio 64 127=b2 at *;generalize ownG tb x.prio (-1) x.own=b4 at *;unfold isrC tbC at *;generalize x.cat=xc at *;generalize x.prio=xp at *;go_enter Tryz.func136,Tryz.ntmps136
 cases b1
 ·go_wp2_with (first | (go_at_call 117;refine (k1 _).mono ?_;clear k1;rintro e w' ⟨rfl,rfl⟩))
  go_ret;exact ⟨qa2 (by rw [HR.out];simp),hb _ _⟩
 ·cases b2
  ·go_wp2_with (first | (go_at_call 117;refine (k1 _).mono ?_;clear k1;rintro e w' ⟨rfl,rfl⟩) | (go_at_call 117;refine (k2 _).mono ?_;clear k2;rintro e w' ⟨rfl,rfl⟩))
   go_ret;exact ⟨qa2 (by rw [HR.out];simp),hb _ _⟩
  ·cases h3:(xc==2)
   ·cases h4:((s.n:Int)==0)
    ·go_wp2_with (first | (go_at_call 117;refine (k1 _).mono ?_;clear k1;rintro e w' ⟨rfl,rfl⟩) | (go_at_call 117;refine (k2 _).mono ?_;clear k2;rintro e w' ⟨rfl,rfl⟩))
     go_ret;exact ⟨qa2 (by rw [HR.out,h3,h4];simp),hb _ _⟩
    ·go_wp2_with (first | (go_at_call 117;refine (k1 _).mono ?_;clear k1;rintro e w' ⟨rfl,rfl⟩) | (go_at_call 117;refine (k2 _).mono ?_;clear k2;rintro e w' ⟨rfl,rfl⟩) | (go_at_call 126;refine (ko _ _).mono ?_;clear ko;rintro e w' ⟨rfl,hb2⟩))
     go_ret;exact ⟨qa2 (by rw [HR.out,h3,h4];simp),(hb _ _).trans (hb2.mono (hb _ _).size)⟩
   ·go_wp2_with (first | (go_at_call 117;refine (k1 _).mono ?_;clear k1;rintro e w' ⟨rfl,rfl⟩) | (go_at_call 117;refine (k2 _).mono ?_;clear k2;rintro e w' ⟨rfl,rfl⟩) | (go_at_call 126;refine (ko _ _).mono ?_;clear ko;rintro e w' ⟨rfl,hb2⟩))
    go_ret;exact ⟨qa2 (by rw [HR.out,h3];simp),(hb _ _).trans (hb2.mono (hb _ _).size)⟩
end Go.Proofs.YtijgopkhdjaolabGreat
namespace Go.Proofs.YtijgopkhdjaolabGreat
open Go.RowKit Go.Shelf Go.Sort
theorem qe3 (tb:Tb) (v:Ts) (a:AcR) (lo hi:Int) (w:World) (h:TbAt w tb v):Calls Tryz.prog 134 #[.agg (tbC tb v),.agg (acrC a),I lo,I hi] w fun e w'=>e=.returned (.bool (acB tb a lo hi))∧qB w w':=by
 have hb:∀o p,qB w ((w.alloc o).alloc p):=fun o p=>((Below.refl w.heap.size w).alloc (Nat.le_refl _) o).alloc (by simp) p
 have k1:=qk1 a.kind lo hi;have k2:=qle a.task v.t;have HN:Hid (v.t.n=tb.tasks.length):=h.t.n;obtain ⟨R,hR⟩:∃R,R=acB tb a lo hi:=⟨_,rfl⟩
 rw [←hR];have HR:Hid (R=(inI a.kind lo hi&&(if a.kind=1 then idB a.task v.t.n&&(a.mask==0) else if a.kind=2 then idB a.task v.t.n&&(a.mask != 0)&&(bits BinOp.andNot IntKind.u32 (a.mask:Int) (qeo tb a.task:Int)==0) else (a.task==0)&&(a.mask==0)))):=by
  show _=_;rw [hR,HN.out];rfl
 have HT:Hid (∀o p,TbAt ((w.alloc o).alloc p) tb v):=fun o p=>h.below (hb o p)
 clear hR h;unfold acrC tbC;cases hi1:inI a.kind lo hi with
 | false=>
  rw [hi1] at k1 HR;go_enter Tryz.func134,Tryz.ntmps134
  go_wp2_with (first | (go_at_call 174;refine (k1 _).mono ?_;clear k1;rintro e w' ⟨rfl,rfl⟩));go_ret;exact ⟨qa2 (by rw [HR.out];simp),hb _ _⟩
 | true=>
  rw [hi1] at k1 HR;clear hi1;by_cases g1:a.kind=1
  ·have g1':(a.kind==1)=true:=by simpa using g1
   rw [if_pos g1] at HR;clear g1;cases hid:idB a.task v.t.n with
   | false=>
    rw [hid] at k2 HR;go_enter Tryz.func134,Tryz.ntmps134
    go_wp2_with (first | (go_at_call 174;refine (k1 _).mono ?_;clear k1;rintro e w' ⟨rfl,rfl⟩) | (go_at_call 175;refine (k2 _).mono ?_;clear k2;rintro e w' ⟨rfl,rfl⟩));go_ret;exact ⟨qa2 (by rw [HR.out];simp),hb _ _⟩
   | true=>
    rw [hid] at k2 HR;go_enter Tryz.func134,Tryz.ntmps134
    go_wp2_with (first | (go_at_call 174;refine (k1 _).mono ?_;clear k1;rintro e w' ⟨rfl,rfl⟩) | (go_at_call 175;refine (k2 _).mono ?_;clear k2;rintro e w' ⟨rfl,rfl⟩));go_ret;exact ⟨qa2 (by rw [HR.out,Bool.eq_iff_iff];simp),hb _ _⟩
  ·have g1':(a.kind==1)=false:=by simpa using g1
   rw [if_neg g1] at HR;by_cases g2:a.kind=2
   ·have g2':(a.kind==2)=true:=by simpa using g2
    rw [if_pos g2] at HR;clear g1 g2;go_enter Tryz.func134,Tryz.ntmps134
    go_wp2_with (first | (go_at_call 174;refine (k1 _).mono ?_;clear k1;rintro e w' ⟨rfl,rfl⟩));have HT1:=HT.out (.cells (qC tb v) 32) (.cells #[I a.kind,I a.task,.int .u32 (a.mask:Int)] 80);have HB1:=hb (.cells (qC tb v) 32) (.cells #[I a.kind,I a.task,.int .u32 (a.mask:Int)] 80);have hV1:((w.alloc (.cells (qC tb v) 32)).alloc (.cells #[I a.kind,I a.task,.int .u32 (a.mask:Int)] 80)).heap[w.heap.size]?=some (.cells (qC tb v) 32 (0,0)):=((qa0 (w.alloc (.cells (qC tb v) 32)) (.cells #[I a.kind,I a.task,.int .u32 (a.mask:Int)] 80)).block w.heap.size (by simp)).trans (heap_alloc_new w _);have hV2:((w.alloc (.cells (qC tb v) 32)).alloc (.cells #[I a.kind,I a.task,.int .u32 (a.mask:Int)] 80)).heap[w.heap.size+1]?=some (.cells #[I a.kind,I a.task,.int .u32 (a.mask:Int)] 80 (0,0)):=by
     have:=heap_alloc_new (w.alloc (.cells (qC tb v) 32)) (.cells #[I a.kind,I a.task,.int .u32 (a.mask:Int)] 80);rw [World.size_alloc] at this;exact this
    clear HT hb;generalize ((w.alloc (.cells (qC tb v) 32)).alloc (.cells #[I a.kind,I a.task,.int .u32 (a.mask:Int)] 80))=W0 at *;have z2:=cell_of_row _ w.heap.size 2 _ _ (0,0) hV1;have y1:=cell_of_row _ (w.heap.size+1) 1 _ _ (0,0) hV2;have y2:=cell_of_row _ (w.heap.size+1) 2 _ _ (0,0) hV2;simp at z2 y1 y2;clear hV1 hV2;have cI:∀d os,Calls Tryz.prog 175 #[I a.task,.slice v.t.a v.t.n v.t.c] (grow (redrawn W0 d) os) fun e w''=>e=.returned (.bool (idB a.task v.t.n))∧∃p:Regrown,w''=grow (redrawn W0 p.d) p.os:=fun d os=>Calls.regrown_of ((k2 _).mono (fun e w' h=>⟨h.1,by rw [h.2];exact Below.refl _ _⟩))
    clear k2;have x2:=cell_regrown z2;have x3:=cell_regrown y1;have x4:=cell_regrown y2;cases hid:idB a.task v.t.n with
    | false=>
     rw [hid] at cI HR;refine wp_region_quiet_below (by kernel_rfl) (by kernel_rfl) ?_;repeat (go_big_quiet_step (first | exact cI _ _))
     refine wpQuiet_nil ?_;rintro _ ⟨⟨dq,osq⟩,rfl⟩;dsimp only;have HB9:=HB1.trans ((below_regrown W0 dq osq).mono HB1.size);generalize grow (redrawn W0 dq) osq=w9 at *;go_wp2;go_ret;exact ⟨qa2 (by rw [HR.out];simp),HB9⟩
    | true=>
     rw [hid] at cI HR;have hid2:0≤a.task∧a.task < (v.t.n:Int):=by unfold idB at hid;simpa using hid
     obtain ⟨k,hk⟩:=Int.eq_ofNat_of_zero_le hid2.1;obtain ⟨x,hx⟩:∃x,tb.tasks[k]?=some x:=⟨_,List.getElem?_eq_getElem (by rw [←HN.out];omega)⟩
     obtain ⟨gr,orr,s6,er,hgr,t0,t1,t2,t3,t4,t5,t6,t7,_⟩:=qdi HT1 hx;have HM:Hid (qeo tb a.task=x.mask):=by
      show _=_;unfold qeo;rw [hk,Int.toNat_natCast,hx]
     have hk1:(k:Int) < v.t.n:=by omega
     have x5:=cell_regrown t4;rw [hk] at x3 cI;rw [er] at x2 cI;clear hx er hid hid2 t0 t1 t2 t3 t4 t5 t6 t7 z2 y1 y2;cases h5:((a.mask:Int) != 0) with
     | false=>
      refine wp_region_quiet_below (by kernel_rfl) (by kernel_rfl) ?_;repeat (go_big_quiet_step (first | exact cI _ _))
      refine wpQuiet_nil ?_;rintro _ ⟨⟨dq,osq⟩,rfl⟩;dsimp only;have HB9:=HB1.trans ((below_regrown W0 dq osq).mono HB1.size);generalize grow (redrawn W0 dq) osq=w9 at *;go_wp2;go_ret;exact ⟨qa2 (by rw [HR.out];simp at h5;simp [h5]),HB9⟩
     | true=>
      refine wp_region_quiet_below (by kernel_rfl) (by kernel_rfl) ?_;repeat (go_big_quiet_step (first | exact cI _ _))
      refine wpQuiet_nil ?_;rintro _ ⟨⟨dq,osq⟩,rfl⟩;dsimp only;have HB9:=HB1.trans ((below_regrown W0 dq osq).mono HB1.size);have HX:Hid (R=(bits BinOp.andNot IntKind.u32 (a.mask:Int) (x.mask:Int)==0)):=by
       show R=_;rw [HR.out,HM.out];simp at h5;simp [h5]
      generalize grow (redrawn W0 dq) osq=w9 at *;generalize (bits BinOp.andNot IntKind.u32 (a.mask:Int) (x.mask:Int)==0)=bb at *;go_wp2;go_ret;exact ⟨qa2 HX.out.symm,HB9⟩
   ·have g2':(a.kind==2)=false:=by simpa using g2
    rw [if_neg g2] at HR;clear g1 g2;go_enter Tryz.func134,Tryz.ntmps134
    cases h5:(a.task==0)
    ·go_wp2_with (first | (go_at_call 174;refine (k1 _).mono ?_;clear k1;rintro e w' ⟨rfl,rfl⟩))
     go_ret;exact ⟨qa2 (by rw [HR.out,h5];simp),hb _ _⟩
    ·go_wp2_with (first | (go_at_call 174;refine (k1 _).mono ?_;clear k1;rintro e w' ⟨rfl,rfl⟩))
     go_ret;exact ⟨qa2 (by rw [HR.out,h5,Bool.eq_iff_iff];simp),hb _ _⟩
end Go.Proofs.YtijgopkhdjaolabGreat
namespace Go.Proofs.YtijgopkhdjaolabGreat
open Go.RowKit Go.Shelf
theorem qh1 {a b:Int} (h:a=b):Ending.returned (I a)=Ending.returned (I b):=by rw [h]
def sumZ {α:Type} (h:α→Int):List α→Int
 | []=>0
 | x :: l=>h x+sumZ h l
theorem qfx {α:Type} (h:α→Int) (l:List α) (x:α):sumZ h (l++[x])=sumZ h l+h x:=by
 induction l with
 | nil=>simp [sumZ]
 | cons y l ih=>rw [List.cons_append,sumZ,ih,sumZ];omega
theorem qj6 (p:Int):∀l:List TkR,sumZ (fun x:TkR=>if x.prio=p then x.limit else 0) l=capN l p
 | []=>rfl
 | x :: l=>by rw [sumZ,capN,qj6 p l]
theorem qq8 (w:World) (s:Sl) (l:List TkR) (hl:∀W,qB w W→RowsAt W 8 (tkrP W) s l) (f:Nat) (caps:Array Value) (eg:∀args W,(callFunc f args).run Tryz.prog W=.ok (.enter f args) W) (p:TkR→Int)
  (hf:∀W,qB w W→∀x∈l,∀(s6:Sl),RowsAt W 1 intP s6 x.own→Calls Tryz.prog f (#[.agg #[I x.prio,I x.ring,.bool x.full,I x.limit,.int .u32 (x.mask:Int),I x.inner,.slice s6.a s6.n s6.c,.int .u32 (x.auto:Int)]]++caps) W fun e w'=>e=.returned (I (p x))∧qB W w') :
  Calls Tryz.prog 171 #[.slice s.a s.n s.c,.func (.func f) #[] caps] w fun e w'=>e=.returned (I (IntKind.i64.wrap (sumZ p l)))∧qB w w':=by
 have h0:=hl w (Below.refl _ _);have HS:Hid (s.n=l.length):=h0.n;have hsc:s.n≤s.c:=h0.c;have hsm:s.c≤maxLen:=h0.m;unfold maxLen at hsm;have HH:Hid (∀W,qB w W→RowsAt W 8 (tkrP W) s l):=hl;have HFF:Hid (∀W,qB w W→∀x∈l,∀(s6:Sl),RowsAt W 1 intP s6 x.own→Calls Tryz.prog f (#[.agg #[I x.prio,I x.ring,.bool x.full,I x.limit,.int .u32 (x.mask:Int),I x.inner,.slice s6.a s6.n s6.c,.int .u32 (x.auto:Int)]]++caps) W fun e w'=>e=.returned (I (p x))∧qB W w'):=hf;obtain ⟨R,hR⟩:∃R,R=IntKind.i64.wrap (sumZ p l):=⟨_,rfl⟩
 rw [←hR];have HR:Hid (R=IntKind.i64.wrap (sumZ p l)):=hR;clear hl hR hf h0;go_enter Tryz.func171,Tryz.ntmps171
 go_wp2;go_loopw [5,7,10] (fun tv _ iv wr=>∃(j:Nat) (t:Int),j≤s.n∧iv=.int .i64 j∧tv=.int .i64 t∧Hid (t=IntKind.i64.wrap (sumZ p (l.take j))∧qB w wr)) (fun _ _ iv _=>s.n - (intOf iv).toNat)
 case atStart=>exact ⟨0,0,by omega,rfl,rfl,by simp [sumZ,IntKind.wrap_i64],Below.refl _ _⟩
 case round=>
  obtain ⟨j,t,hj,rfl,rfl,HJ⟩:=hrel;by_cases hlt:j < s.n
  ·have hlt':(j:Int) < s.n:=by omega
   obtain ⟨x,hx⟩:∃x,l[j]?=some x:=⟨_,List.getElem?_eq_getElem (by rw [←HS.out];exact hlt)⟩
   obtain ⟨g5,o5,e5,hg5,hr5⟩:=(HH.out _ HJ.out.2).row j x hx;obtain ⟨u0,a0,q0⟩:=hr5 0 (by omega);obtain ⟨u1,a1,q1⟩:=hr5 1 (by omega);obtain ⟨u2,a2,q2⟩:=hr5 2 (by omega);obtain ⟨u3,a3,q3⟩:=hr5 3 (by omega);obtain ⟨u4,a4,q4⟩:=hr5 4 (by omega);obtain ⟨u5,a5,q5⟩:=hr5 5 (by omega);obtain ⟨u6,a6,q6⟩:=hr5 6 (by omega);obtain ⟨u7,a7,q7⟩:=hr5 7 (by omega);have e0:u0=I x.prio:=q0;have e1:u1=I x.ring:=q1;have e2:u2=.bool x.full:=q2;have e3:u3=I x.limit:=q3;have e4:u4=.int .u32 (x.mask:Int):=q4;have e6:u5=I x.inner:=q5;obtain ⟨s6,e7,r6⟩:=(show IntsV wr x.own u6 from q6);have e8:u7=.int .u32 (x.auto:Int):=q7;subst e0 e1 e2 e3 e4 e6 e7 e8;rw [Nat.add_zero] at a0;have HB:Hid (qB w (wr.alloc (.cells #[I x.prio,I x.ring,.bool x.full,I x.limit,.int .u32 (x.mask:Int),I x.inner,.slice s6.a s6.n s6.c,.int .u32 (x.auto:Int)] 71))):=HJ.out.2.trans ((qa0 wr _).mono HJ.out.2.size);have cx:=HFF.out _ HB.out x (List.mem_of_getElem? hx) s6 (r6.below (qa0 wr _) (fun _ _ _ _ h=>h));have HA:Hid (IntKind.i64.wrap (t+p x)=IntKind.i64.wrap (sumZ p (l.take (j+1)))):=by
    show _=_;rw [List.take_add_one,hx,Option.toList_some,qfx,HJ.out.1];simp only [IntKind.wrap_i64];omega
   rw [e5];clear hx e5 HJ hr5 q0 q1 q2 q3 q4 q5 q6 q7 r6;generalize p x=px at *;go_wp2;refine cx.mono ?_;clear cx;rintro e7 w7 ⟨rfl,hb7⟩;have HB7:Hid (qB w w7):=HB.out.trans (hb7.mono HB.out.size);clear hb7;go_wp2;go_roundw
   case rel=>exact ⟨j+1,IntKind.i64.wrap (t+px),by omega,by go_num,by simp [IntKind.wrap_i64,wrap64],HA.out,HB7.out⟩
   case measure=>simp [intOf];omega
  ·obtain rfl:j=s.n:=by omega
   have hlt':¬((s.n:Nat):Int) < (s.n:Nat):=by omega
   have HE:Hid (t=R):=by
    show _=_;rw [HR.out,HJ.out.1,List.take_of_length_le (by rw [HS.out];exact Nat.le_refl _)]
   have HB:Hid (qB w wr):=HJ.out.2;clear HR HJ;go_wp2;go_ret;exact ⟨qh1 HE.out,HB.out⟩
end Go.Proofs.YtijgopkhdjaolabGreat
