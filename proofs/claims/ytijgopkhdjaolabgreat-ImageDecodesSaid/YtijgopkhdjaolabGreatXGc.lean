import Derived.Test.YtijgopkhdjaolabGreatXI6
import Derived.Test.YtijgopkhdjaolabGreatXTbm
set_option linter.unusedSimpArgs false
set_option linter.unusedVariables false
set_option maxHeartbeats 16000000
set_option maxRecDepth 100000
namespace Go.Proofs.YtijgopkhdjaolabGreat
open Go.RowKit
open Go.Proofs.YtijgopkhdjaolabGreat.Ob (leB leV qa8 qag crc)
theorem qg6 : ∀(n v:Nat),v < 256 ^ n→leV (leB n v)=v
 | 0,v,h=>by
  have:v=0:=by simpa using h
  subst this;rfl
 | n+1,v,h=>by
  rw [leB,leV,qg6 n (v / 256) (by rw [Nat.pow_succ] at h;exact (Nat.div_lt_iff_lt_mul (by decide)).2 h)];have:(UInt8.ofNat (v % 256)).toNat=v % 256:=by simp
  rw [this];omega
theorem qg7 : ∀(l:List UInt8),leB l.length (leV l)=l
 | []=>rfl
 | x :: l=>by
  have hx:=x.toNat_lt;rw [List.length_cons,leV,leB,show (x.toNat+256 * leV l) / 256=leV l by omega,qg7 l,show (x.toNat+256 * leV l) % 256=x.toNat by omega];simp
abbrev Ps (α:Type):=List UInt8→Except Nat (α×List UInt8)
def retP {α:Type} (a:α):Ps α:=fun l=>.ok (a,l)
def qpi {α:Type} (e:Nat):Ps α:=fun _=>.error e
def andP {α β:Type} (p:Ps α) (f:α→Ps β):Ps β:=fun l=>match p l with | .ok (a,r)=>f a r | .error e=>.error e
def pn (n:Nat):Ps Nat:=fun l=>if n≤l.length then .ok (leV (l.take n),l.drop n) else .error 101
theorem andP_ok {α β:Type} {p:Ps α} {f:α→Ps β} {l r:List UInt8} {b:β}:andP p f l=.ok (b,r) ↔ ∃a r1,p l=.ok (a,r1)∧f a r1=.ok (b,r):=by
 unfold andP;cases h:p l with
 | ok x=>
  obtain ⟨a,r1⟩:=x;constructor
  ·intro e;exact ⟨a,r1,rfl,e⟩
  ·rintro ⟨a',r',e,k⟩
   simp only [Except.ok.injEq,Prod.mk.injEq] at e;obtain ⟨rfl,rfl⟩:=e;exact k
 | error e=>simp
theorem qa9 {α β:Type} {p:Ps α} {f:α→Ps β} {l r:List UInt8} {a:α} (h:p l=.ok (a,r)):andP p f l=f a r:=by unfold andP;rw [h]
theorem qaj {α β:Type} {p:Ps α} {f:α→Ps β} {l:List UInt8} {e:Nat} (h:p l=.error e):andP p f l=.error e:=by unfold andP;rw [h]
structure Cod {α:Type} (p:Ps α) (e:α→List UInt8) (ok:α→Prop):Prop where
 fwd:∀x r,ok x→p (e x++r)=.ok (x,r)
 bwd:∀l x r,p l=.ok (x,r)→ok x∧l=e x++r
theorem qav (n:Nat):Cod (pn n) (leB n) (fun v=>v < 256 ^ n):=by
 refine ⟨fun x r h=>?_,fun l x r h=>?_⟩
 ·unfold pn
  rw [if_pos (by simp [qa8]),List.take_left' (qa8 n x),List.drop_left' (qa8 n x),qg6 n x h]
 ·unfold pn at h
  split at h
  ·rename_i hl
   simp only [Except.ok.injEq,Prod.mk.injEq] at h;obtain ⟨rfl,rfl⟩:=h;have hlen:(l.take n).length=n:=by simp;omega
   refine ⟨by have:=qag (l.take n);rw [hlen] at this;exact this,?_⟩;have:=qg7 (l.take n);rw [hlen] at this;rw [this,List.take_append_drop]
  ·cases h
theorem Cod.map {α β:Type} {p:Ps α} {e:α→List UInt8} {ok:α→Prop} (h:Cod p e ok) (f:α→β) (g:β→α) {ok2:β→Prop} (hf:∀a,ok a→ok2 (f a)∧g (f a)=a) (hg:∀b,ok2 b→ok (g b)∧f (g b)=b):Cod (andP p fun a=>retP (f a)) (fun b=>e (g b)) ok2:=by
 refine ⟨fun x r hx=>?_,fun l x r hx=>?_⟩
 ·rw [qa9 (h.fwd _ r (hg x hx).1)]
  show Except.ok (f (g x),r)=_;rw [(hg x hx).2]
 ·obtain ⟨a,r1,h1,h2⟩:=andP_ok.1 hx
  simp only [retP,Except.ok.injEq,Prod.mk.injEq] at h2;obtain ⟨rfl,rfl⟩:=h2;obtain ⟨o1,e1⟩:=h.bwd _ _ _ h1;exact ⟨(hf a o1).1,by rw [(hf a o1).2];exact e1⟩
def qa4 {α:Type} (p:Ps α):Nat→Ps (List α)
 | 0=>retP []
 | n+1=>andP p fun x=>andP (qa4 p n) fun xs=>retP (x :: xs)
theorem Cod.rows {α:Type} {p:Ps α} {e:α→List UInt8} {ok:α→Prop} (h:Cod p e ok):∀n,Cod (qa4 p n) (fun l=>l.flatMap e) (fun l=>l.length=n∧∀x∈l,ok x)
 | 0=>⟨fun x r hx=>by rw [List.eq_nil_of_length_eq_zero hx.1];rfl,fun l x r hx=>by
   simp only [qa4,retP,Except.ok.injEq,Prod.mk.injEq] at hx;obtain ⟨rfl,rfl⟩:=hx;simp⟩
 | n+1=>by
  have k:=Cod.rows h n;refine ⟨fun x r hx=>?_,fun l x r hx=>?_⟩
  ·obtain ⟨hl,ho⟩:=hx
   cases x with
   | nil=>simp at hl
   | cons y ys=>
    rw [qa4,List.flatMap_cons,List.append_assoc,qa9 (h.fwd y _ (ho y (by simp))),qa9 (k.fwd ys r ⟨by simpa using hl,fun z hz=>ho z (by simp [hz])⟩)];rfl
  ·rw [qa4] at hx
   obtain ⟨a,r1,h1,h2⟩:=andP_ok.1 hx;obtain ⟨b,r2,h3,h4⟩:=andP_ok.1 h2;simp only [retP,Except.ok.injEq,Prod.mk.injEq] at h4;obtain ⟨rfl,rfl⟩:=h4;obtain ⟨o1,e1⟩:=h.bwd _ _ _ h1;obtain ⟨o2,e2⟩:=k.bwd _ _ _ h3;refine ⟨⟨by simp [o2.1],fun z hz=>?_⟩,by rw [e1,e2,List.flatMap_cons,List.append_assoc]⟩;rcases List.mem_cons.1 hz with rfl | hz
   ·exact o1
   ·exact o2.2 z hz
def e1 (v:Int):List UInt8:=leB 1 v.toNat
def e2 (v:Int):List UInt8:=leB 2 v.toNat
def eF (b:Bool):List UInt8:=leB 1 (if b then 1 else 0)
def eL (l:List Int):List UInt8:=e1 l.length++l.flatMap e1
def eAc (a:AcR):List UInt8:=e1 a.kind++(e1 a.task++leB 4 a.mask)
def eTk (x:TkR):List UInt8:=e1 x.prio++(e1 x.ring++(eF x.full++(e1 x.limit++(leB 4 x.mask++(e1 (x.inner+1)++(eL x.own++leB 1 x.auto))))))
def eRg (x:RgR):List UInt8:=e1 x.prio++e2 x.cap
def eRs (x:RsR):List UInt8:=eF x.inner++e1 (x.ceil+1)
def eCt (x:CtR):List UInt8:=leB 4 x.max++(leB 4 x.base++leB 4 x.min)
def eAl (x:AlR):List UInt8:=e1 x.ctr++(eAc x.ac++(leB 1 x.auto++(leB 4 x.time++leB 4 x.cycle)))
def eIs (x:IsR):List UInt8:=e1 x.cat++(e1 x.prio++eL x.own)
def eMs (x:MsR):List UInt8:=e1 x.kind++(e1 x.len++(e1 x.frm++(leB 8 x.init++(e1 x.queue++eAc x.ac))))
def p1 : Ps Int:=andP (pn 1) fun v=>retP (v:Int)
def p2 : Ps Int:=andP (pn 2) fun v=>retP (v:Int)
def pM : Ps Int:=andP (pn 1) fun v=>retP ((v:Int) - 1)
def pL : Ps (List Int):=andP (pn 1) fun n=>qa4 p1 n
def qc2 {α:Type} (f:Nat) (k:Bool→α):Ps α:=if f≤1 then retP (k (decide (f=1))) else qpi 103
def pAc : Ps AcR:=andP p1 fun k=>andP p1 fun t=>andP (pn 4) fun m=>retP ⟨k,t,m⟩
def pTk : Ps TkR:=andP p1 fun p=>andP p1 fun r=>andP (pn 1) fun f=>andP p1 fun li=>andP (pn 4) fun m=>andP pM fun i=>andP pL fun o=>andP (pn 1) fun a=>qc2 f fun b=>⟨p,r,b,li,m,i,o,a⟩
def pRg : Ps RgR:=andP p1 fun p=>andP p2 fun c=>retP ⟨p,c⟩
def pRs : Ps RsR:=andP (pn 1) fun f=>andP pM fun c=>qc2 f fun b=>⟨b,c⟩
def pCt : Ps CtR:=andP (pn 4) fun a=>andP (pn 4) fun b=>andP (pn 4) fun c=>retP ⟨a,b,c⟩
def pAl : Ps AlR:=andP p1 fun c=>andP pAc fun a=>andP (pn 1) fun u=>andP (pn 4) fun t=>andP (pn 4) fun y=>retP ⟨c,a,u,t,y⟩
def pIs : Ps IsR:=andP p1 fun c=>andP p1 fun p=>andP pL fun o=>retP ⟨c,p,o⟩
def pMs : Ps MsR:=andP p1 fun k=>andP p1 fun n=>andP p1 fun f=>andP (pn 8) fun i=>andP p1 fun q=>andP pAc fun a=>retP ⟨k,n,f,i,q,a⟩
def b8 (v:Int):Prop:=0≤v∧v < 256
def b16 (v:Int):Prop:=0≤v∧v < 65536
theorem cod_p1 : Cod p1 e1 b8:=(qav 1).map (fun v=>(v:Int)) Int.toNat (fun a h=>by unfold b8;simp at h;omega) (fun b h=>by unfold b8 at h;simp;omega)
theorem cod_p2 : Cod p2 e2 b16:=(qav 2).map (fun v=>(v:Int)) Int.toNat (fun a h=>by unfold b16;simp at h;omega) (fun b h=>by unfold b16 at h;simp;omega)
theorem cod_pM : Cod pM (fun v=>e1 (v+1)) (fun v=>b8 (v+1)):=(qav 1).map (fun v=>(v:Int) - 1) (fun v=>(v+1).toNat) (fun a h=>by unfold b8;simp at h;omega) (fun b h=>by unfold b8 at h;simp;omega)
theorem cod_pL : Cod pL eL (fun l=>l.length < 256∧∀x∈l,b8 x):=by
 refine ⟨fun x r hx=>?_,fun l x r hx=>?_⟩
 ·unfold eL pL
  rw [List.append_assoc,e1,qa9 ((qav 1).fwd _ _ (by simp;omega))];exact (cod_p1.rows _).fwd x r ⟨by simp,hx.2⟩
 ·obtain ⟨n,r1,h1,h2⟩:=andP_ok.1 hx
  obtain ⟨o1,q1⟩:=(qav 1).bwd _ _ _ h1;obtain ⟨o2,q2⟩:=(cod_p1.rows n).bwd _ _ _ h2;refine ⟨⟨by rw [o2.1];simpa using o1,o2.2⟩,?_⟩;unfold eL e1;rw [q1,q2,List.append_assoc,o2.1];rfl
theorem qj1 {α:Type} {f:Nat} {k:Bool→α} {l r:List UInt8} {x:α} (h:qc2 f k l=.ok (x,r)):∃b:Bool,f=(if b then 1 else 0)∧x=k b∧l=r:=by
 unfold qc2 at h;split at h
 ·rename_i hf
  simp only [retP,Except.ok.injEq,Prod.mk.injEq] at h;exact ⟨decide (f=1),by by_cases e:f=1 <;> simp [e];omega,h.1.symm,h.2⟩
 ·cases h
theorem qj2 {α:Type} (b:Bool) (k:Bool→α) (l:List UInt8):qc2 (if b then 1 else 0) k l=.ok (k b,l):=by
 cases b <;> rfl
def okAc (a:AcR):Prop:=b8 a.kind∧b8 a.task∧a.mask < 256 ^ 4
def okTk (x:TkR):Prop:=b8 x.prio∧b8 x.ring∧b8 x.limit∧x.mask < 256 ^ 4∧b8 (x.inner+1)∧(x.own.length < 256∧∀y∈x.own,b8 y)∧x.auto < 256 ^ 1
def okRg (x:RgR):Prop:=b8 x.prio∧b16 x.cap
def okRs (x:RsR):Prop:=b8 (x.ceil+1)
def okCt (x:CtR):Prop:=x.max < 256 ^ 4∧x.base < 256 ^ 4∧x.min < 256 ^ 4
def okAl (x:AlR):Prop:=b8 x.ctr∧okAc x.ac∧x.auto < 256 ^ 1∧x.time < 256 ^ 4∧x.cycle < 256 ^ 4
def okIs (x:IsR):Prop:=b8 x.cat∧b8 x.prio∧(x.own.length < 256∧∀y∈x.own,b8 y)
def okMs (x:MsR):Prop:=b8 x.kind∧b8 x.len∧b8 x.frm∧x.init < 256 ^ 8∧b8 x.queue∧okAc x.ac
theorem cod_pAc : Cod pAc eAc okAc:=by
 refine ⟨fun x r hx=>?_,fun l x r hx=>?_⟩
 ·obtain ⟨o0,o1,o2⟩:=hx
  unfold pAc eAc;simp only [List.append_assoc];rw [qa9 (cod_p1.fwd _ _ o0)];rw [qa9 (cod_p1.fwd _ _ o1)];rw [qa9 ((qav 4).fwd _ _ o2)];rfl
 ·unfold pAc at hx
  obtain ⟨a0,r0,h0,hx⟩:=andP_ok.1 hx;obtain ⟨o0,q0⟩:=cod_p1.bwd _ _ _ h0;obtain ⟨a1,r1,h1,hx⟩:=andP_ok.1 hx;obtain ⟨o1,q1⟩:=cod_p1.bwd _ _ _ h1;obtain ⟨a2,r2,h2,hx⟩:=andP_ok.1 hx;obtain ⟨o2,q2⟩:=(qav 4).bwd _ _ _ h2;simp only [retP,Except.ok.injEq,Prod.mk.injEq] at hx;obtain ⟨rfl,rfl⟩:=hx;refine ⟨⟨o0,o1,o2⟩,?_⟩;unfold eAc;rw [q0,q1,q2];simp only [List.append_assoc]
theorem cod_pTk : Cod pTk eTk okTk:=by
 refine ⟨fun x r hx=>?_,fun l x r hx=>?_⟩
 ·obtain ⟨o0,o1,o2,o3,o4,o5,o6⟩:=hx
  unfold pTk eTk eF;simp only [List.append_assoc];rw [qa9 (cod_p1.fwd _ _ o0)];rw [qa9 (cod_p1.fwd _ _ o1)];rw [qa9 ((qav 1).fwd _ _ (by split <;> decide))];rw [qa9 (cod_p1.fwd _ _ o2)];rw [qa9 ((qav 4).fwd _ _ o3)];rw [qa9 (cod_pM.fwd _ _ o4)];rw [qa9 (cod_pL.fwd _ _ o5)];rw [qa9 ((qav 1).fwd _ _ o6)];exact qj2 _ _ _
 ·unfold pTk at hx
  obtain ⟨a0,r0,h0,hx⟩:=andP_ok.1 hx;obtain ⟨o0,q0⟩:=cod_p1.bwd _ _ _ h0;obtain ⟨a1,r1,h1,hx⟩:=andP_ok.1 hx;obtain ⟨o1,q1⟩:=cod_p1.bwd _ _ _ h1;obtain ⟨a2,r2,h2,hx⟩:=andP_ok.1 hx;obtain ⟨o2,q2⟩:=(qav 1).bwd _ _ _ h2;obtain ⟨a3,r3,h3,hx⟩:=andP_ok.1 hx;obtain ⟨o3,q3⟩:=cod_p1.bwd _ _ _ h3;obtain ⟨a4,r4,h4,hx⟩:=andP_ok.1 hx;obtain ⟨o4,q4⟩:=(qav 4).bwd _ _ _ h4;obtain ⟨a5,r5,h5,hx⟩:=andP_ok.1 hx;obtain ⟨o5,q5⟩:=cod_pM.bwd _ _ _ h5;obtain ⟨a6,r6,h6,hx⟩:=andP_ok.1 hx;obtain ⟨o6,q6⟩:=cod_pL.bwd _ _ _ h6;obtain ⟨a7,r7,h7,hx⟩:=andP_ok.1 hx;obtain ⟨o7,q7⟩:=(qav 1).bwd _ _ _ h7;obtain ⟨b,eb,rfl,rfl⟩:=qj1 hx;subst eb;refine ⟨⟨o0,o1,o3,o4,o5,o6,o7⟩,?_⟩;unfold eTk eF;rw [q0,q1,q2,q3,q4,q5,q6,q7];simp only [List.append_assoc]
theorem cod_pRg : Cod pRg eRg okRg:=by
 refine ⟨fun x r hx=>?_,fun l x r hx=>?_⟩
 ·obtain ⟨o0,o1⟩:=hx
  unfold pRg eRg;simp only [List.append_assoc];rw [qa9 (cod_p1.fwd _ _ o0)];rw [qa9 (cod_p2.fwd _ _ o1)];rfl
 ·unfold pRg at hx
  obtain ⟨a0,r0,h0,hx⟩:=andP_ok.1 hx;obtain ⟨o0,q0⟩:=cod_p1.bwd _ _ _ h0;obtain ⟨a1,r1,h1,hx⟩:=andP_ok.1 hx;obtain ⟨o1,q1⟩:=cod_p2.bwd _ _ _ h1;simp only [retP,Except.ok.injEq,Prod.mk.injEq] at hx;obtain ⟨rfl,rfl⟩:=hx;refine ⟨⟨o0,o1⟩,?_⟩;unfold eRg;rw [q0,q1];simp only [List.append_assoc]
theorem cod_pRs : Cod pRs eRs okRs:=by
 refine ⟨fun x r hx=>?_,fun l x r hx=>?_⟩
 ·have o0:=hx
  unfold pRs eRs eF;simp only [List.append_assoc];rw [qa9 ((qav 1).fwd _ _ (by split <;> decide))];rw [qa9 (cod_pM.fwd _ _ o0)];exact qj2 _ _ _
 ·unfold pRs at hx
  obtain ⟨a0,r0,h0,hx⟩:=andP_ok.1 hx;obtain ⟨o0,q0⟩:=(qav 1).bwd _ _ _ h0;obtain ⟨a1,r1,h1,hx⟩:=andP_ok.1 hx;obtain ⟨o1,q1⟩:=cod_pM.bwd _ _ _ h1;obtain ⟨b,eb,rfl,rfl⟩:=qj1 hx;subst eb;refine ⟨o1,?_⟩;unfold eRs eF;rw [q0,q1];simp only [List.append_assoc]
theorem cod_pCt : Cod pCt eCt okCt:=by
 refine ⟨fun x r hx=>?_,fun l x r hx=>?_⟩
 ·obtain ⟨o0,o1,o2⟩:=hx
  unfold pCt eCt;simp only [List.append_assoc];rw [qa9 ((qav 4).fwd _ _ o0)];rw [qa9 ((qav 4).fwd _ _ o1)];rw [qa9 ((qav 4).fwd _ _ o2)];rfl
 ·unfold pCt at hx
  obtain ⟨a0,r0,h0,hx⟩:=andP_ok.1 hx;obtain ⟨o0,q0⟩:=(qav 4).bwd _ _ _ h0;obtain ⟨a1,r1,h1,hx⟩:=andP_ok.1 hx;obtain ⟨o1,q1⟩:=(qav 4).bwd _ _ _ h1;obtain ⟨a2,r2,h2,hx⟩:=andP_ok.1 hx;obtain ⟨o2,q2⟩:=(qav 4).bwd _ _ _ h2;simp only [retP,Except.ok.injEq,Prod.mk.injEq] at hx;obtain ⟨rfl,rfl⟩:=hx;refine ⟨⟨o0,o1,o2⟩,?_⟩;unfold eCt;rw [q0,q1,q2];simp only [List.append_assoc]
theorem cod_pAl : Cod pAl eAl okAl:=by
 refine ⟨fun x r hx=>?_,fun l x r hx=>?_⟩
 ·obtain ⟨o0,o1,o2,o3,o4⟩:=hx
  unfold pAl eAl;simp only [List.append_assoc];rw [qa9 (cod_p1.fwd _ _ o0)];rw [qa9 (cod_pAc.fwd _ _ o1)];rw [qa9 ((qav 1).fwd _ _ o2)];rw [qa9 ((qav 4).fwd _ _ o3)];rw [qa9 ((qav 4).fwd _ _ o4)];rfl
 ·unfold pAl at hx
  obtain ⟨a0,r0,h0,hx⟩:=andP_ok.1 hx;obtain ⟨o0,q0⟩:=cod_p1.bwd _ _ _ h0;obtain ⟨a1,r1,h1,hx⟩:=andP_ok.1 hx;obtain ⟨o1,q1⟩:=cod_pAc.bwd _ _ _ h1;obtain ⟨a2,r2,h2,hx⟩:=andP_ok.1 hx;obtain ⟨o2,q2⟩:=(qav 1).bwd _ _ _ h2;obtain ⟨a3,r3,h3,hx⟩:=andP_ok.1 hx;obtain ⟨o3,q3⟩:=(qav 4).bwd _ _ _ h3;obtain ⟨a4,r4,h4,hx⟩:=andP_ok.1 hx;obtain ⟨o4,q4⟩:=(qav 4).bwd _ _ _ h4;simp only [retP,Except.ok.injEq,Prod.mk.injEq] at hx;obtain ⟨rfl,rfl⟩:=hx;refine ⟨⟨o0,o1,o2,o3,o4⟩,?_⟩;unfold eAl;rw [q0,q1,q2,q3,q4];simp only [List.append_assoc]
theorem cod_pIs : Cod pIs eIs okIs:=by
 refine ⟨fun x r hx=>?_,fun l x r hx=>?_⟩
 ·obtain ⟨o0,o1,o2⟩:=hx
  unfold pIs eIs;simp only [List.append_assoc];rw [qa9 (cod_p1.fwd _ _ o0)];rw [qa9 (cod_p1.fwd _ _ o1)];rw [qa9 (cod_pL.fwd _ _ o2)];rfl
 ·unfold pIs at hx
  obtain ⟨a0,r0,h0,hx⟩:=andP_ok.1 hx;obtain ⟨o0,q0⟩:=cod_p1.bwd _ _ _ h0;obtain ⟨a1,r1,h1,hx⟩:=andP_ok.1 hx;obtain ⟨o1,q1⟩:=cod_p1.bwd _ _ _ h1;obtain ⟨a2,r2,h2,hx⟩:=andP_ok.1 hx;obtain ⟨o2,q2⟩:=cod_pL.bwd _ _ _ h2;simp only [retP,Except.ok.injEq,Prod.mk.injEq] at hx;obtain ⟨rfl,rfl⟩:=hx;refine ⟨⟨o0,o1,o2⟩,?_⟩;unfold eIs;rw [q0,q1,q2];simp only [List.append_assoc]
theorem cod_pMs : Cod pMs eMs okMs:=by
 refine ⟨fun x r hx=>?_,fun l x r hx=>?_⟩
 ·obtain ⟨o0,o1,o2,o3,o4,o5⟩:=hx
  unfold pMs eMs;simp only [List.append_assoc];rw [qa9 (cod_p1.fwd _ _ o0)];rw [qa9 (cod_p1.fwd _ _ o1)];rw [qa9 (cod_p1.fwd _ _ o2)];rw [qa9 ((qav 8).fwd _ _ o3)];rw [qa9 (cod_p1.fwd _ _ o4)];rw [qa9 (cod_pAc.fwd _ _ o5)];rfl
 ·unfold pMs at hx
  obtain ⟨a0,r0,h0,hx⟩:=andP_ok.1 hx;obtain ⟨o0,q0⟩:=cod_p1.bwd _ _ _ h0;obtain ⟨a1,r1,h1,hx⟩:=andP_ok.1 hx;obtain ⟨o1,q1⟩:=cod_p1.bwd _ _ _ h1;obtain ⟨a2,r2,h2,hx⟩:=andP_ok.1 hx;obtain ⟨o2,q2⟩:=cod_p1.bwd _ _ _ h2;obtain ⟨a3,r3,h3,hx⟩:=andP_ok.1 hx;obtain ⟨o3,q3⟩:=(qav 8).bwd _ _ _ h3;obtain ⟨a4,r4,h4,hx⟩:=andP_ok.1 hx;obtain ⟨o4,q4⟩:=cod_p1.bwd _ _ _ h4;obtain ⟨a5,r5,h5,hx⟩:=andP_ok.1 hx;obtain ⟨o5,q5⟩:=cod_pAc.bwd _ _ _ h5;simp only [retP,Except.ok.injEq,Prod.mk.injEq] at hx;obtain ⟨rfl,rfl⟩:=hx;refine ⟨⟨o0,o1,o2,o3,o4,o5⟩,?_⟩;unfold eMs;rw [q0,q1,q2,q3,q4,q5];simp only [List.append_assoc]
def mrk : List UInt8:=[84,80,84,49]
def eCnt (tb:Tb):List UInt8:=leB 2 tb.tasks.length++(leB 2 tb.rings.length++(leB 2 tb.ress.length++(leB 2 tb.ctrs.length++(leB 2 tb.als.length++(leB 2 tb.isrs.length++(leB 2 tb.msgs.length))))))
def eHd (tb:Tb):List UInt8:=e1 tb.uses++(e1 tb.modes++(e1 tb.depth++(e1 tb.frames++(e1 tb.errors++(e1 tb.calls)))))
def qbz (tb:Tb):List UInt8:=tb.tasks.flatMap eTk++(tb.rings.flatMap eRg++(tb.ress.flatMap eRs++(tb.ctrs.flatMap eCt++(tb.als.flatMap eAl++(tb.isrs.flatMap eIs++(tb.msgs.flatMap eMs))))))
def eMid (tb:Tb):List UInt8:=eCnt tb++(eHd tb++qbz tb)
def qal (tb:Tb) (n:Nat):List UInt8:=mrk++(leB 4 n++(eCnt tb++eHd tb))
def eAll (tb:Tb):List UInt8:=qal tb (30+(qbz tb).length)++qbz tb
def img (tb:Tb):List UInt8:=eAll tb++leB 2 (crc 65535 (eAll tb))
def pMid : Ps Tb:=andP (pn 2) fun n0=>andP (pn 2) fun n1=>andP (pn 2) fun n2=>andP (pn 2) fun n3=>andP (pn 2) fun n4=>andP (pn 2) fun n5=>andP (pn 2) fun n6=>andP p1 fun x0=>andP p1 fun x1=>andP p1 fun x2=>andP p1 fun x3=>andP p1 fun x4=>andP p1 fun x5=>andP (qa4 pTk n0) fun r0=>andP (qa4 pRg n1) fun r1=>andP (qa4 pRs n2) fun r2=>andP (qa4 pCt n3) fun r3=>andP (qa4 pAl n4) fun r4=>andP (qa4 pIs n5) fun r5=>andP (qa4 pMs n6) fun r6=>retP ⟨x0,x1,r0,r1,r2,r3,r4,r5,r6,x2,x3,x4,x5⟩
structure okTb (tb:Tb):Prop where
 n0:tb.tasks.length < 256 ^ 2
 n1:tb.rings.length < 256 ^ 2
 n2:tb.ress.length < 256 ^ 2
 n3:tb.ctrs.length < 256 ^ 2
 n4:tb.als.length < 256 ^ 2
 n5:tb.isrs.length < 256 ^ 2
 n6:tb.msgs.length < 256 ^ 2
 x0:b8 tb.uses
 x1:b8 tb.modes
 x2:b8 tb.depth
 x3:b8 tb.frames
 x4:b8 tb.errors
 x5:b8 tb.calls
 r0:∀x∈tb.tasks,okTk x
 r1:∀x∈tb.rings,okRg x
 r2:∀x∈tb.ress,okRs x
 r3:∀x∈tb.ctrs,okCt x
 r4:∀x∈tb.als,okAl x
 r5:∀x∈tb.isrs,okIs x
 r6:∀x∈tb.msgs,okMs x
theorem cod_pMid : Cod pMid eMid okTb:=by
 refine ⟨fun x r hx=>?_,fun l x r hx=>?_⟩
 ·unfold pMid eMid eCnt eHd qbz
  simp only [List.append_assoc];rw [qa9 ((qav 2).fwd _ _ hx.n0)];rw [qa9 ((qav 2).fwd _ _ hx.n1)];rw [qa9 ((qav 2).fwd _ _ hx.n2)];rw [qa9 ((qav 2).fwd _ _ hx.n3)];rw [qa9 ((qav 2).fwd _ _ hx.n4)];rw [qa9 ((qav 2).fwd _ _ hx.n5)];rw [qa9 ((qav 2).fwd _ _ hx.n6)];rw [qa9 (cod_p1.fwd _ _ hx.x0)];rw [qa9 (cod_p1.fwd _ _ hx.x1)];rw [qa9 (cod_p1.fwd _ _ hx.x2)];rw [qa9 (cod_p1.fwd _ _ hx.x3)];rw [qa9 (cod_p1.fwd _ _ hx.x4)];rw [qa9 (cod_p1.fwd _ _ hx.x5)];rw [qa9 ((cod_pTk.rows _).fwd _ _ ⟨rfl,hx.r0⟩)];rw [qa9 ((cod_pRg.rows _).fwd _ _ ⟨rfl,hx.r1⟩)];rw [qa9 ((cod_pRs.rows _).fwd _ _ ⟨rfl,hx.r2⟩)];rw [qa9 ((cod_pCt.rows _).fwd _ _ ⟨rfl,hx.r3⟩)];rw [qa9 ((cod_pAl.rows _).fwd _ _ ⟨rfl,hx.r4⟩)];rw [qa9 ((cod_pIs.rows _).fwd _ _ ⟨rfl,hx.r5⟩)];rw [qa9 ((cod_pMs.rows _).fwd _ _ ⟨rfl,hx.r6⟩)];rfl
 ·unfold pMid at hx
  obtain ⟨n0,t0,h0,y1⟩:=andP_ok.1 hx;clear hx;obtain ⟨o0,q0⟩:=(qav 2).bwd _ _ _ h0;obtain ⟨n1,t1,h1,y2⟩:=andP_ok.1 y1;clear y1;obtain ⟨o1,q1⟩:=(qav 2).bwd _ _ _ h1;obtain ⟨n2,t2,h2,y3⟩:=andP_ok.1 y2;clear y2;obtain ⟨o2,q2⟩:=(qav 2).bwd _ _ _ h2;obtain ⟨n3,t3,h3,y4⟩:=andP_ok.1 y3;clear y3;obtain ⟨o3,q3⟩:=(qav 2).bwd _ _ _ h3;obtain ⟨n4,t4,h4,y5⟩:=andP_ok.1 y4;clear y4;obtain ⟨o4,q4⟩:=(qav 2).bwd _ _ _ h4;obtain ⟨n5,t5,h5,y6⟩:=andP_ok.1 y5;clear y5;obtain ⟨o5,q5⟩:=(qav 2).bwd _ _ _ h5;obtain ⟨n6,t6,h6,y7⟩:=andP_ok.1 y6;clear y6;obtain ⟨o6,q6⟩:=(qav 2).bwd _ _ _ h6;obtain ⟨x0,u0,g0,y8⟩:=andP_ok.1 y7;clear y7;obtain ⟨a0,b0⟩:=cod_p1.bwd _ _ _ g0;obtain ⟨x1,u1,g1,y9⟩:=andP_ok.1 y8;clear y8;obtain ⟨a1,b1⟩:=cod_p1.bwd _ _ _ g1;obtain ⟨x2,u2,g2,y10⟩:=andP_ok.1 y9;clear y9;obtain ⟨a2,b2⟩:=cod_p1.bwd _ _ _ g2;obtain ⟨x3,u3,g3,y11⟩:=andP_ok.1 y10;clear y10;obtain ⟨a3,b3⟩:=cod_p1.bwd _ _ _ g3;obtain ⟨x4,u4,g4,y12⟩:=andP_ok.1 y11;clear y11;obtain ⟨a4,b4⟩:=cod_p1.bwd _ _ _ g4;obtain ⟨x5,u5,g5,y13⟩:=andP_ok.1 y12;clear y12;obtain ⟨a5,b5⟩:=cod_p1.bwd _ _ _ g5;obtain ⟨r0,v0,k0,y14⟩:=andP_ok.1 y13;clear y13;obtain ⟨⟨m0,c0⟩,d0⟩:=(cod_pTk.rows _).bwd _ _ _ k0;obtain ⟨r1,v1,k1,y15⟩:=andP_ok.1 y14;clear y14;obtain ⟨⟨m1,c1⟩,d1⟩:=(cod_pRg.rows _).bwd _ _ _ k1;obtain ⟨r2,v2,k2,y16⟩:=andP_ok.1 y15;clear y15;obtain ⟨⟨m2,c2⟩,d2⟩:=(cod_pRs.rows _).bwd _ _ _ k2;obtain ⟨r3,v3,k3,y17⟩:=andP_ok.1 y16;clear y16;obtain ⟨⟨m3,c3⟩,d3⟩:=(cod_pCt.rows _).bwd _ _ _ k3;obtain ⟨r4,v4,k4,y18⟩:=andP_ok.1 y17;clear y17;obtain ⟨⟨m4,c4⟩,d4⟩:=(cod_pAl.rows _).bwd _ _ _ k4;obtain ⟨r5,v5,k5,y19⟩:=andP_ok.1 y18;clear y18;obtain ⟨⟨m5,c5⟩,d5⟩:=(cod_pIs.rows _).bwd _ _ _ k5;obtain ⟨r6,v6,k6,y20⟩:=andP_ok.1 y19;clear y19;obtain ⟨⟨m6,c6⟩,d6⟩:=(cod_pMs.rows _).bwd _ _ _ k6;simp only [retP,Except.ok.injEq,Prod.mk.injEq] at y20;obtain ⟨rfl,rfl⟩:=y20;subst m0 m1 m2 m3 m4 m5 m6;refine ⟨⟨o0,o1,o2,o3,o4,o5,o6,a0,a1,a2,a3,a4,a5,c0,c1,c2,c3,c4,c5,c6⟩,?_⟩;unfold eMid eCnt eHd qbz;rw [q0,q1,q2,q3,q4,q5,q6,b0,b1,b2,b3,b4,b5,d0,d1,d2,d3,d4,d5,d6];simp only [List.append_assoc]
def dec (l:List UInt8):Except Nat Tb:=
 if l.take 4≠mrk then .error 100
 else if l.length < 30∨leV ((l.drop 4).take 4)≠l.length then .error 101
 else if leV (l.drop (l.length - 2))≠crc 65535 (l.take (l.length - 2)) then .error 102
 else match pMid ((l.drop 8).take (l.length - 10)) with
  | .error e=>.error e
  | .ok (tb,r)=>if r≠[] then .error 101 else if chkP tb=true then .ok tb else .error 90
theorem qgi (tb:Tb):(eCnt tb).length=14:=by simp [eCnt,qa8]
theorem qhj (tb:Tb):(eHd tb).length=6:=by simp [eHd,e1,qa8]
theorem qfv (tb:Tb) (n:Nat):(qal tb n).length=28:=by simp [qal,qgi,qhj,qa8,mrk]
theorem qj3 (tb:Tb):(eAll tb).length=28+(qbz tb).length:=by simp [eAll,qfv]
theorem qg8 (tb:Tb):(img tb).length=30+(qbz tb).length:=by simp [img,qj3,qa8];omega
theorem qfe (tb:Tb):eAll tb=mrk++(leB 4 (30+(qbz tb).length)++eMid tb):=by simp [eAll,qal,eMid]
theorem qq7 {tb:Tb} (ho:okTb tb) (hc:chkP tb=true) (hs:30+(qbz tb).length < 256 ^ 4) (h16:crc 65535 (eAll tb) < 256 ^ 2):dec (img tb)=.ok tb:=by
 have hl:=qg8 tb;have hal:=qj3 tb;have ht4:(img tb).take 4=mrk:=by
  unfold img;rw [qfe,List.append_assoc];exact List.take_left' rfl
 have hd4:((img tb).drop 4).take 4=leB 4 (30+(qbz tb).length):=by
  unfold img;rw [qfe,List.append_assoc,List.drop_left' (show mrk.length=4 from rfl),List.append_assoc];exact List.take_left' (qa8 _ _)
 have ht2:(img tb).take ((img tb).length - 2)=eAll tb:=by
  rw [hl];unfold img;exact List.take_left' (by omega)
 have hd2:(img tb).drop ((img tb).length - 2)=leB 2 (crc 65535 (eAll tb)):=by
  rw [hl];unfold img;exact List.drop_left' (by omega)
 have hmid:((img tb).drop 8).take ((img tb).length - 10)=eMid tb:=by
  have e8:(img tb).drop 8=eMid tb++leB 2 (crc 65535 (eAll tb)):=by
   unfold img;rw [qfe,←List.append_assoc mrk,List.append_assoc (mrk++_)];exact List.drop_left' (by simp [qa8,mrk])
  rw [e8];refine List.take_left' ?_;have:(eMid tb).length=20+(qbz tb).length:=by simp [eMid,qgi,qhj];omega
  omega
 unfold dec;rw [if_neg (by rw [ht4];simp),if_neg (by rw [hd4,qg6 _ _ hs,hl];omega),if_neg (by rw [hd2,ht2,qg6 _ _ h16];simp),hmid];have:=cod_pMid.fwd tb [] ho;rw [List.append_nil] at this;rw [this];simp [hc]
theorem qml {l:List UInt8} {tb:Tb} (h:dec l=.ok tb):l=img tb∧okTb tb∧chkP tb=true:=by
 unfold dec at h;split at h
 ·cases h
 ·rename_i h1
  split at h
  ·cases h
  ·rename_i h2
   split at h
   ·cases h
   ·rename_i h3
    split at h
    ·cases h
    ·rename_i t r hp
     split at h
     ·cases h
     ·rename_i hr
      split at h
      ·rename_i hc
       cases h;obtain ⟨ho,hm⟩:=cod_pMid.bwd _ _ _ hp;simp only [ne_eq,Decidable.not_not] at h1 h3 hr;subst hr;rw [List.append_nil] at hm;have hlen:30≤l.length:=by omega
       have hsz:leV ((l.drop 4).take 4)=l.length:=by omega
       have hml:(eMid tb).length=l.length - 10:=by rw [←hm];simp;omega
       have hml2:(eMid tb).length=20+(qbz tb).length:=by simp [eMid,qgi,qhj];omega
       have e4:(l.drop 4).take 4=leB 4 (30+(qbz tb).length):=by
        have:=qg7 ((l.drop 4).take 4);rw [show ((l.drop 4).take 4).length=4 by simp;omega,hsz] at this;rw [←this];congr 1
        omega
       have e8:l.take (l.length - 2)=eAll tb:=by
        rw [qfe,←h1,←e4,←hm];have a1:l.take (l.length - 2)=l.take 4++(l.drop 4).take (l.length - 6):=by
         rw [show l.length - 2=4+(l.length - 6) by omega,List.take_add]
        have a2:(l.drop 4).take (l.length - 6)=(l.drop 4).take 4++((l.drop 4).drop 4).take (l.length - 10):=by
         rw [show l.length - 6=4+(l.length - 10) by omega,List.take_add]
        rw [a1,a2,List.drop_drop]
       refine ⟨?_,ho,hc⟩;unfold img;rw [←e8,←h3];have:=qg7 (l.drop (l.length - 2));rw [show (l.drop (l.length - 2)).length=2 by simp;omega] at this;rw [this,List.take_append_drop]
      ·cases h
end Go.Proofs.YtijgopkhdjaolabGreat
