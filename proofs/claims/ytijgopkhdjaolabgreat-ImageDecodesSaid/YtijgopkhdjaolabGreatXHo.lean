import Derived.Test.YtijgopkhdjaolabGreatHs4
import Derived.Deep.RegionHeldLaw
import Derived.Test.YtijgopkhdjaolabGreatXHx
set_option linter.unusedSimpArgs false
set_option linter.unusedVariables false
set_option maxHeartbeats 16000000
set_option maxRecDepth 100000
namespace Go.Proofs.YtijgopkhdjaolabGreat
open Go.RowKit Go.Shelf Go.Sort
section
variable {P : Program} {ops : Array Oper} {Q : Exit → Act → World → Prop} {md : Region.Mode} {S : World → Prop} {z : Nat}
def qbw (P:Program) (md:Region.Mode) (ops:Array Oper) (Q:Exit→Act→World→Prop) (S:World→Prop) (z:Nat):Nat→Array Bool→Act→World→Prop
 | 0,listed,a,w=>Region.ready md ops listed=[]∧Q .normal a w
 | fuel+1,listed,a,w=>
  (Region.ready md ops listed=[]→Q .normal a w) ∧
  ∀i∈Region.ready md ops listed,wpOp P ops Q i (fun a' w'=>(i≠z→S w')∧qbw P md ops Q S z fuel (listed.setIfInBounds i true) a' w') a w
theorem qhe : ∀(fuel:Nat) (listed:Array Bool) (a:Act) (w:World),qbw P md ops Q S z fuel listed a w→wpAny P md ops Q fuel listed a w
 | 0,_,_,_,h=>h
 | fuel+1,_,_,_,h=>⟨h.1,fun i hi=>wpOp_mono (fun a' w' h'=>qhe fuel _ a' w' h'.2) (h.2 i hi)⟩
def qgb (md:Region.Mode) (ops:Array Oper) (i:Nat):Nat→Nat→Bool
 | 0,_=>false
 | n+1,z=>match ops[z]? with
  | some o=>o.after.any fun e=>Region.binds md e&&(e.on==i || qgb md ops i n e.on)
  | none=>false
def qg3 (md:Region.Mode) (ops:Array Oper) (listed:Array Bool):Prop:=∀j o,ops[j]?=some o→listed.getD j true=true→∀e∈o.after,Region.binds md e=true→listed.getD e.on false=true
def qhv (md:Region.Mode) (ops:Array Oper) (listed:Array Bool):Bool:=(List.range ops.size).all fun j=>match ops[j]? with
 | some o=>!listed.getD j true || o.after.all fun e=>!Region.binds md e || listed.getD e.on false
 | none=>true
theorem qns {listed:Array Bool} (h:qhv md ops listed=true):qg3 md ops listed:=fun j o ho hl e he hb=>by
 have h1:=(List.all_eq_true.1 h) j (List.mem_range.2 (Array.getElem?_eq_some_iff.1 ho).1);simp only [ho,hl,Bool.not_true,Bool.false_or] at h1;have h2:=Array.all_eq_true_iff_forall_mem.1 h1 e he;simpa [hb] using h2
theorem qm9 {listed:Array Bool} {j:Nat} (h:qg3 md ops listed) (hj:j∈Region.ready md ops listed):qg3 md ops (listed.setIfInBounds j true):=fun k o ho hl e he hb=>by
 refine getD_set_true ?_;by_cases hk:j=k
 ·subst hk
  obtain ⟨-,o',ho',hall⟩:=mem_ready.1 hj;rw [ho] at ho';cases ho';exact hall e he hb
 ·rw [getD_set_ne true hk] at hl
  exact h k o ho hl e he hb
theorem qhw {listed:Array Bool} {i:Nat} (h:listed.getD i true=false):listed.getD i false=false:=by
 rcases Nat.lt_or_ge i listed.size with h' | h'
 ·simp [h'] at h ⊢;exact h
 ·simp [Array.getElem?_eq_none h'] at h
theorem qia {listed:Array Bool} {i:Nat} (h:qg3 md ops listed) (hs:∀o∈ops,∀e∈o.after,e.on < listed.size) (hi:listed.getD i true=false):∀n z,qgb md ops i n z=true→∃o,ops[z]?=some o∧∃e∈o.after,Region.binds md e=true∧listed.getD e.on false=false
 | 0,_,h0=>by cases h0
 | n+1,z,h0=>by
  unfold qgb at h0;split at h0
  ·rename_i o ho
   obtain ⟨e,he,hb⟩:=Array.any_eq_true'.1 h0;simp only [Bool.and_eq_true,Bool.or_eq_true,beq_iff_eq] at hb;refine ⟨o,ho,e,he,hb.1,?_⟩;rcases hb.2 with h1 | h1
   ·rw [h1];exact qhw hi
   ·obtain ⟨o2,ho2,e2,he2,hb2,hl2⟩:=qia h hs hi n e.on h1
    cases hc:listed.getD e.on true with
    | false=>exact qhw hc
    | true=>
     have:=h e.on o2 ho2 hc e2 he2 hb2;rw [hl2] at this;cases this
  ·cases h0
theorem qju {i n:Nat} {oi:Oper} {v:Value} (hi:ops[i]?=some oi) (hsel:∀(j:Nat) (o:Oper) cs b,ops[j]?=some o→o.op≠.select cs b)
  (hQ:∀c a w,Q (.panic c) (a.put oi.dst v) w→Q (.panic c) a w) (hz:qgb md ops i n z=true) (hiz:i≠z) :
  ∀(fuel:Nat) (listed:Array Bool) (a:Act) (w:World),
   (∀j oj,ops[j]?=some oj→j≠i→listed.getD j true=false→(∀e∈oj.after,Region.binds md e=true→e.on≠i)→oi.apart ops oj=true) →
   i∈Region.ready md ops listed→qg3 md ops listed→(∀o∈ops,∀e∈o.after,e.on < listed.size)→YieldsIf P ops S oi v a→S w →
   qbw P md ops Q S z fuel (listed.setIfInBounds i true) (a.put oi.dst v) w→qbw P md ops Q S z (fuel+1) listed a w:=by
 intro fuel;induction fuel with
 | zero=>
  intro listed a w _ hr _ _ hy hS H;refine ⟨fun h=>(by rw [h] at hr;cases hr),fun j hj=>?_⟩;by_cases hji:j=i
  ·subst hji;exact hy.wpOp hi hS ⟨fun _=>hS,H⟩
  ·have:=ready_mono hj hji
   rw [H.1] at this;cases this
 | succ fuel ih=>
  intro listed a w hfree hr hcl hsz hy hS H;refine ⟨fun h=>(by rw [h] at hr;cases hr),fun j hj=>?_⟩;by_cases hji:j=i
  ·subst hji;exact hy.wpOp hi hS ⟨fun _=>hS,H⟩
  ·have hjz:j≠z:=fun e=>by
    obtain ⟨o,ho,e1,he1,hb1,hl1⟩:=qia hcl hsz (mem_ready.1 hr).1 n z hz;rw [e] at hj;obtain ⟨-,o',ho',hall⟩:=mem_ready.1 hj;rw [ho] at ho';cases ho';rw [hall e1 he1 hb1] at hl1;cases hl1
   have h1:=H.2 j (ready_mono hj hji);obtain ⟨hjun,oj,hoj,hall⟩:=mem_ready.1 hj;have hnot:∀e∈oj.after,Region.binds md e=true→e.on≠i:=fun e he hb heq=>by
    have h1:=hall e he hb;have h0:=qhw (mem_ready.1 hr).1;rw [heq,h0] at h1;cases h1
   have h2:=wpOp_putIf hoj (hfree j oj hoj hji hjun hnot) (fun cs b=>hsel i oi cs b hi) (fun cs b=>hsel j oj cs b hoj) hQ hy h1;have hfree':∀k ok,ops[k]?=some ok→k≠i→(listed.setIfInBounds j true).getD k true=false →
     (∀e∈ok.after,Region.binds md e=true→e.on≠i)→oi.apart ops ok=true:=fun k ok hk hki hun hno=>by
    refine hfree k ok hk hki ?_ hno;by_cases hjk:j=k
    ·subst hjk;exact hjun
    ·rw [getD_set_ne true hjk] at hun;exact hun
   refine wpOp_mono (fun a' w' h3=>⟨h3.2.1,ih (listed.setIfInBounds j true) a' w' hfree' (ready_mono hr (Ne.symm hji)) (qm9 hcl hj) (fun o ho e he=>by rw [Array.size_setIfInBounds];exact hsz o ho e he) h3.1 (h3.2.1 hjz) ?_⟩) h2;rw [Array.setIfInBounds_comm _ _ hji];exact h3.2.2
theorem qke {i:Nat} {oi:Oper} {v:Value} {fuel:Nat} {listed:Array Bool} {a:Act} {w:World} (hi:ops[i]?=some oi)
  (hs:Region.noSelect ops=true) (hc:qhv md ops listed=true) (hz:(ops.all fun o=>o.after.all fun e=>decide (e.on < listed.size))=true) (hw:qgb md ops i ops.size z=true) (hiz:decide (i=z)=false) (hf:Region.free md ops listed i=true) (hr:(Region.ready md ops listed).contains i=true)
  (hQ:∀c a w,Q (.panic c) (a.put oi.dst v) w→Q (.panic c) a w) (hy:YieldsIf P ops S oi v a) (hS:S w)
  (h:qbw P md ops Q S z fuel (listed.setIfInBounds i true) (a.put oi.dst v) w):qbw P md ops Q S z (fuel+1) listed a w:=
 qju hi (Region.noSelect_spec hs) hQ hw (of_decide_eq_false hiz) fuel listed a w (Region.free_spec hi hf) (by simpa using hr) (qns hc) (fun o ho e he=>of_decide_eq_true (Array.all_eq_true_iff_forall_mem.1 (Array.all_eq_true_iff_forall_mem.1 hz o ho) e he)) hy hS h
theorem qTG {oi:Oper} {fuel:Nat} {listed:Array Bool} {a:Act} {w:World} (i:Nat) (v:Value) (hi:ops[i]?=some oi) (hS:S w) (h:qbw P md ops Q S z fuel (listed.setIfInBounds i true) (a.put oi.dst v) w) (hs:Region.noSelect ops=true:=by kernel_rfl) (hc:qhv md ops listed=true:=by kernel_rfl) (hz:(ops.all fun o=>o.after.all fun e=>decide (e.on < listed.size))=true:=by kernel_rfl) (hw:qgb md ops i ops.size z=true:=by kernel_rfl) (hiz:decide (i=z)=false:=by kernel_rfl) (hf:Region.free md ops listed i=true:=by kernel_rfl) (hr:(Region.ready md ops listed).contains i=true:=by kernel_rfl) (hQ:∀c a w,Q (.panic c) (a.put oi.dst v) w→Q (.panic c) a w:=by exact fun _ _ _ h=>h) (hwa:Region.wanted oi (yielded ops a.tmps)=true:=by rfl) (hy:∀w,S w→(execOp a.eval oi).run P w=.ok (.value v) w:=by intro w' hSw;(try dsimp only at hSw);(try clear hHeld);go_simp):qbw P md ops Q S z (fuel+1) listed a w:=qke hi hs hc hz hw hiz hf hr hQ (Or.inl ⟨hwa,hy⟩) hS h
theorem qab {i:Nat} {o:Oper} {fuel:Nat} {listed:Array Bool} {a:Act} {w:World} (hr:Region.ready md ops listed=[i]) (ho:ops[i]?=some o)
  (h:∀K':Act→World→Prop,Shut (∀a w,(i≠z→S w)→qbw P md ops Q S z fuel (listed.setIfInBounds i true) a w→K' a w)→if Region.wanted o (yielded ops a.tmps)=true then Oper.wp P o a w K' Q else K' (a.put o.dst undef) w):qbw P md ops Q S z (fuel+1) listed a w:=
 ⟨fun h0=>(by rw [hr] at h0;cases h0),by
  rw [hr];intro j hj;rw [List.mem_singleton] at hj;subst hj;exact wpOp_step ho (fun K' hK=>h K' (fun a w hS hW=>hK a w ⟨hS,hW⟩))⟩
theorem qc4 {listed:Array Bool} {a:Act} {w:World} (hr:Region.ready md ops listed=[]) (h:Q .normal a w) :
  ∀fuel,qbw P md ops Q S z fuel listed a w
 | 0=>⟨hr,h⟩
 | _+1=>⟨fun _=>h,by rw [hr];simp⟩
theorem qc5 {id:Nat} {a:Act} {w:World} (z:Nat) (hm:P.follows .mixedOrders=true) (h:qbw P .any ops Q S z ops.size (Array.replicate ops.size false) a w.drew):(Code.region id ops true).wp P Q a w:=
 wp_region_any hm (qhe _ _ _ _ h)
end
theorem qfm {w:World} {s:Sl} {l:List Int} (h:RowsAt w 1 intP s l) {k:Nat} (hk:k < l.length) {W:World} (hb:qB w W):∃g off,s.a=some ⟨g,off,none⟩∧W.cell? ⟨g,off+k,none⟩=some (I l[k]):=by
 obtain ⟨g,off,ea,hg,hr⟩:=h.row k _ (List.getElem?_eq_getElem hk);obtain ⟨u,hu,hp⟩:=hr 0 (by omega);have hp':u=I l[k]:=hp;subst hp';exact ⟨g,off,ea,by rw [qa5 hb _ _ hg];simpa using hu⟩
theorem ql5 {α:Type} [DecidableEq α] {l1 l2:List α} {k:Nat} (h1:k < l1.length) (h2:k < l2.length) (h:l1.take k=l2.take k) (hx:l1[k]=l2[k]):l1.take (k+1)=l2.take (k+1):=by
 rw [List.take_add_one,List.take_add_one,h,List.getElem?_eq_getElem h1,List.getElem?_eq_getElem h2,hx]
theorem qnt (w:World) (s1 s2:Sl) (l1 l2:List Int) (h1:RowsAt w 1 intP s1 l1) (h2:RowsAt w 1 intP s2 l2):Calls Tryz.prog 165 #[slT s1,slT s2] w fun e w'=>e=.returned (.bool (decide (l1=l2)))∧qB w w':=by
 obtain ⟨a1,n1,c1⟩:=s1;obtain ⟨a2,n2,c2⟩:=s2;have hn1:Hid (n1=l1.length):=h1.n;have hn2:Hid (n2=l2.length):=h2.n;have hm1:n1≤maxLen:=Nat.le_trans h1.c h1.m;unfold maxLen at hm1;have H1:Hid (RowsAt w 1 intP ⟨a1,n1,c1⟩ l1):=h1;have H2:Hid (RowsAt w 1 intP ⟨a2,n2,c2⟩ l2):=h2;clear h1 h2;show Calls _ _ #[.slice a1 n1 c1,.slice a2 n2 c2] _ _;by_cases hl:n1=n2
 ·subst hl
  go_enter Tryz.func165,Tryz.ntmps165
  go_wp2;go_loopw [5,13] (fun _ v13 wr=>∃k:Nat,k≤n1∧v13=I k∧Hid (l1.take k=l2.take k∧qB w wr)) (fun _ v13 _=>n1 - (intOf v13).toNat)
  case atStart=>exact ⟨0,by omega,rfl,by simp,Below.refl _ _⟩
  case round=>
   obtain ⟨k,hk,rfl,HJ⟩:=hrel;by_cases hlt:k < n1
   ·have hltI:(k:Int) < n1:=by omega
    have hk1:k < l1.length:=by rw [←hn1.out];exact hlt
    have hk2:k < l2.length:=by rw [←hn2.out];exact hlt
    obtain ⟨g1,o1,e1,q1⟩:=qfm H1.out hk1 HJ.out.2;obtain ⟨g2,o2,e2,q2⟩:=qfm H2.out hk2 HJ.out.2;have e1':a1=some ⟨g1,o1,none⟩:=e1;have e2':a2=some ⟨g2,o2,none⟩:=e2;clear e1 e2;subst e1' e2';by_cases hx:l1[k]=l2[k]
    ·have HT:Hid (l1.take (k+1)=l2.take (k+1)∧qB w wr):=⟨ql5 hk1 hk2 HJ.out.1 hx,HJ.out.2⟩
     clear HJ;rw [←hx] at q2;generalize l1[k]=x at *;clear hk1 hk2 hx;go_upto_region 6 with fail;go_region_held_law (fun W=>W.cell? ⟨g1,o1+k,none⟩=some (I x)∧W.cell? ⟨g2,o2+k,none⟩=some (I x)) (first | exact ⟨q1,q2⟩ | (go_keep;done)) (fail)
     go_wp2;go_roundw
     case rel=>exact ⟨k+1,by omega,by go_num,HT.out.1,HT.out.2.drew⟩
     case measure=>simp [intOf];omega
    ·have HN:Hid (¬l1=l2∧qB w wr):=⟨fun e=>hx (by subst e;rfl),HJ.out.2⟩
     clear HJ;obtain ⟨x,ex⟩:∃x,x=l1[k]:=⟨_,rfl⟩
     obtain ⟨y,ey⟩:∃y,y=l2[k]:=⟨_,rfl⟩
     rw [←ex] at q1 hx;rw [←ey] at q2 hx;clear ex ey hk1 hk2;go_upto_region 6 with fail;go_region_held_law (fun W=>W.cell? ⟨g1,o1+k,none⟩=some (I x)∧W.cell? ⟨g2,o2+k,none⟩=some (I y)) (first | exact ⟨q1,q2⟩ | (go_keep;done)) (fail)
     go_wp2;go_ret;exact ⟨by rw [decide_eq_false HN.out.1];rfl,HN.out.2.drew⟩
   ·obtain rfl:k=n1:=by omega
    have hge:¬((k:Int) < k):=by omega
    have HE:Hid (l1=l2∧qB w wr):=⟨by have:=HJ.out.1;rwa [show l1.take k=l1 by rw [hn1.out];exact List.take_length,show l2.take k=l2 by rw [hn2.out];exact List.take_length] at this,HJ.out.2⟩;clear HJ;go_wp2;go_ret;exact ⟨by rw [decide_eq_true HE.out.1];rfl,HE.out.2⟩
 ·have hlI:¬((n1:Int)=n2):=by omega
  have HN:Hid (¬l1=l2):=fun e=>hl (by rw [hn1.out,hn2.out,e])
  go_enter Tryz.func165,Tryz.ntmps165
  go_wp2;go_ret;exact ⟨by rw [decide_eq_false HN.out];rfl,Below.refl _ _⟩
theorem qkf (w:World) (x y:IsR) (s1 s2:Sl) (h1:RowsAt w 1 intP s1 x.own) (h2:RowsAt w 1 intP s2 y.own):Calls Tryz.prog 105 #[.agg #[I x.cat,I x.prio,slT s1],.agg #[I y.cat,I y.prio,slT s2]] w fun e w'=>e=.returned (.bool (decide (x.cat=y.cat∧x.prio=y.prio∧x.own=y.own)))∧qB w w':=by
 obtain ⟨a1,n1,c1⟩:=s1;obtain ⟨a2,n2,c2⟩:=s2;have hb1:=qa0 w (.cells #[I x.cat,I x.prio,.slice a1 n1 c1] 84);have hb2:=qa0 (w.alloc (.cells #[I x.cat,I x.prio,.slice a1 n1 c1] 84)) (.cells #[I y.cat,I y.prio,.slice a2 n2 c2] 84);have hb:=belT hb1 hb2;have hE:=qnt _ _ _ _ _ (h1.below hb (fun _ _ _ _ h=>h)) (h2.below hb (fun _ _ _ _ h=>h));have HB:Hid (qB w ((w.alloc (.cells #[I x.cat,I x.prio,.slice a1 n1 c1] 84)).alloc (.cells #[I y.cat,I y.prio,.slice a2 n2 c2] 84))):=hb;clear h1 h2 hb1 hb2 hb;show Calls _ _ #[.agg #[I x.cat,I x.prio,.slice a1 n1 c1],.agg #[I y.cat,I y.prio,.slice a2 n2 c2]] _ _;obtain ⟨c,p,l⟩:=x;obtain ⟨d,q,m⟩:=y;dsimp only at *;by_cases e1:c=d
 ·by_cases e2:p=q
  ·have HD:Hid (decide (c=d∧p=q∧l=m)=decide (l=m)):=by show _=_;simp [e1,e2]
   rw [HD.out];clear HD;subst e1 e2;generalize decide (l=m)=b at *;go_enter Tryz.func105,Tryz.ntmps105
   go_wp2_with (first | (go_at_call 165;refine hE.mono ?_;clear hE;rintro e w2 ⟨rfl,b2⟩;have B2:Hid (qB w w2):=belT HB.out b2;clear b2 HB));go_ret;exact ⟨rfl,B2.out⟩
  ·have HD:Hid (decide (c=d∧p=q∧l=m)=false):=by show _=_;simp [e2]
   rw [HD.out];clear HD hE;subst e1;go_enter Tryz.func105,Tryz.ntmps105
   go_wp2;go_ret;exact ⟨rfl,HB.out⟩
 ·have HD:Hid (decide (c=d∧p=q∧l=m)=false):=by show _=_;simp [e1]
  rw [HD.out];clear HD hE;go_enter Tryz.func105,Tryz.ntmps105
  go_wp2;go_ret;exact ⟨rfl,HB.out⟩
theorem qt3 (w:World) (o:Obj):(w.alloc o).heap.size=w.heap.size+1:=by first | simp | (unfold World.alloc;simp)
theorem qjv (w:World) (x y:TkR) (s1 s2:Sl) (h1:RowsAt w 1 intP s1 x.own) (h2:RowsAt w 1 intP s2 y.own):Calls Tryz.prog 99 #[.agg #[I x.prio,I x.ring,.bool x.full,I x.limit,(qU x.mask),I x.inner,slT s1,(qU x.auto)],.agg #[I y.prio,I y.ring,.bool y.full,I y.limit,(qU y.mask),I y.inner,slT s2,(qU y.auto)]] w fun e w'=>e=.returned (.bool (decide (x.prio=y.prio∧x.ring=y.ring∧x.full=y.full∧x.limit=y.limit∧x.mask=y.mask∧x.inner=y.inner∧x.own=y.own∧x.auto=y.auto)))∧qB w w':=by
 obtain ⟨a1,n1,c1⟩:=s1;obtain ⟨a2,n2,c2⟩:=s2;have hb1:=qa0 w (.cells #[I x.prio,I x.ring,.bool x.full,I x.limit,(qU x.mask),I x.inner,.slice a1 n1 c1,(qU x.auto)] 71);have hb2:=qa0 (w.alloc (.cells #[I x.prio,I x.ring,.bool x.full,I x.limit,(qU x.mask),I x.inner,.slice a1 n1 c1,(qU x.auto)] 71)) (.cells #[I y.prio,I y.ring,.bool y.full,I y.limit,(qU y.mask),I y.inner,.slice a2 n2 c2,(qU y.auto)] 71);have hb:=belT hb1 hb2;have hE:=qnt _ _ _ _ _ (h1.below hb (fun _ _ _ _ h=>h)) (h2.below hb (fun _ _ _ _ h=>h));have HB:Hid (qB w ((w.alloc (.cells #[I x.prio,I x.ring,.bool x.full,I x.limit,(qU x.mask),I x.inner,.slice a1 n1 c1,(qU x.auto)] 71)).alloc (.cells #[I y.prio,I y.ring,.bool y.full,I y.limit,(qU y.mask),I y.inner,.slice a2 n2 c2,(qU y.auto)] 71))):=hb;have hv1:=heap_alloc_new w (.cells #[I x.prio,I x.ring,.bool x.full,I x.limit,(qU x.mask),I x.inner,.slice a1 n1 c1,(qU x.auto)] 71);have hv2:=heap_alloc_new (w.alloc (.cells #[I x.prio,I x.ring,.bool x.full,I x.limit,(qU x.mask),I x.inner,.slice a1 n1 c1,(qU x.auto)] 71)) (.cells #[I y.prio,I y.ring,.bool y.full,I y.limit,(qU y.mask),I y.inner,.slice a2 n2 c2,(qU y.auto)] 71);have HC:Hid (∀W,qB ((w.alloc (.cells #[I x.prio,I x.ring,.bool x.full,I x.limit,(qU x.mask),I x.inner,.slice a1 n1 c1,(qU x.auto)] 71)).alloc (.cells #[I y.prio,I y.ring,.bool y.full,I y.limit,(qU y.mask),I y.inner,.slice a2 n2 c2,(qU y.auto)] 71)) W→W.cell? ⟨w.heap.size,7,none⟩=some (qU x.auto)∧W.cell? ⟨w.heap.size+1,7,none⟩=some (qU y.auto)):=fun W hW=>by
  have q0:=(hb2.block _ (qa6 hv1)).trans hv1;have q1:=(hW.block _ (qa6 q0)).trans q0;have q2:=(hW.block _ (qa6 hv2)).trans hv2;rw [qt3] at q2;exact ⟨by rw [qcr q1];rfl,by rw [qcr q2];rfl⟩
 clear h1 h2 hb1 hb2 hb hv1 hv2;show Calls _ _ #[.agg #[I x.prio,I x.ring,.bool x.full,I x.limit,(qU x.mask),I x.inner,.slice a1 n1 c1,(qU x.auto)],.agg #[I y.prio,I y.ring,.bool y.full,I y.limit,(qU y.mask),I y.inner,.slice a2 n2 c2,(qU y.auto)]] _ _;obtain ⟨p,r,f,l,m,i,o,a⟩:=x;obtain ⟨pp,rr,ff,ll,mm,ii,oo,aa⟩:=y;dsimp only at *;by_cases E0:p=pp
 ·skip
  by_cases E1:r=rr
  ·skip
   by_cases E2:f=ff
   ·skip
    by_cases E3:l=ll
    ·skip
     by_cases E4:m=mm
     ·skip
      by_cases E5:i=ii
      ·skip
       by_cases E6:o=oo
       ·skip
        by_cases E7:a=aa
        ·rw [show decide (p=pp∧r=rr∧f=ff∧l=ll∧m=mm∧i=ii∧o=oo∧a=aa)=true from decide_eq_true ⟨E0,E1,E2,E3,E4,E5,E6,E7⟩]
         rw [decide_eq_true E6] at hE;subst E0 E1 E2 E3 E4 E5 E6 E7;go_enter Tryz.func99,Tryz.ntmps99
         go_wp2_with (first | (go_at_call 165;refine hE.mono ?_;clear hE;rintro e w2 ⟨rfl,b2⟩;have B2:Hid (qB w w2):=belT HB.out b2;obtain ⟨q1,q2⟩:=HC.out w2 b2;clear b2 HB HC));go_ret;exact ⟨by first | rfl | simp [haa] | (simp;omega),B2.out⟩
        ·have HD:Hid (decide (p=pp∧r=rr∧f=ff∧l=ll∧m=mm∧i=ii∧o=oo∧a=aa)=false):=by show _=_;simp [E7]
         rw [HD.out];have haa:¬((a:Int)=(aa:Int)):=by omega
         rw [decide_eq_true E6] at hE;clear HD;subst E0 E1 E2 E3 E4 E5 E6;go_enter Tryz.func99,Tryz.ntmps99
         go_wp2_with (first | (go_at_call 165;refine hE.mono ?_;clear hE;rintro e w2 ⟨rfl,b2⟩;have B2:Hid (qB w w2):=belT HB.out b2;obtain ⟨q1,q2⟩:=HC.out w2 b2;clear b2 HB HC));go_ret;exact ⟨by first | rfl | simp [haa] | (simp;omega),B2.out⟩
       ·have HD:Hid (decide (p=pp∧r=rr∧f=ff∧l=ll∧m=mm∧i=ii∧o=oo∧a=aa)=false):=by show _=_;simp [E6]
        rw [HD.out];rw [decide_eq_false E6] at hE;clear HD;subst E0 E1 E2 E3 E4 E5;go_enter Tryz.func99,Tryz.ntmps99
        go_wp2_with (first | (go_at_call 165;refine hE.mono ?_;clear hE;rintro e w2 ⟨rfl,b2⟩;have B2:Hid (qB w w2):=belT HB.out b2;obtain ⟨q1,q2⟩:=HC.out w2 b2;clear b2 HB HC));go_ret;exact ⟨by first | rfl | simp [haa] | (simp;omega),B2.out⟩
      ·have HD:Hid (decide (p=pp∧r=rr∧f=ff∧l=ll∧m=mm∧i=ii∧o=oo∧a=aa)=false):=by show _=_;simp [E5]
       rw [HD.out];clear HD hE;subst E0 E1 E2 E3 E4;go_enter Tryz.func99,Tryz.ntmps99
       go_wp2;go_ret;exact ⟨rfl,HB.out⟩
     ·have HD:Hid (decide (p=pp∧r=rr∧f=ff∧l=ll∧m=mm∧i=ii∧o=oo∧a=aa)=false):=by show _=_;simp [E4]
      rw [HD.out];have hmm:¬((m:Int)=(mm:Int)):=by omega
      clear HD hE;subst E0 E1 E2 E3;go_enter Tryz.func99,Tryz.ntmps99
      go_wp2;go_ret;exact ⟨rfl,HB.out⟩
    ·have HD:Hid (decide (p=pp∧r=rr∧f=ff∧l=ll∧m=mm∧i=ii∧o=oo∧a=aa)=false):=by show _=_;simp [E3]
     rw [HD.out];clear HD hE;subst E0 E1 E2;go_enter Tryz.func99,Tryz.ntmps99
     go_wp2;go_ret;exact ⟨rfl,HB.out⟩
   ·have HD:Hid (decide (p=pp∧r=rr∧f=ff∧l=ll∧m=mm∧i=ii∧o=oo∧a=aa)=false):=by show _=_;simp [E2]
    rw [HD.out];have hff:(f==ff)=false:=by simp [E2]
    clear HD hE;subst E0 E1;go_enter Tryz.func99,Tryz.ntmps99
    go_wp2;go_ret;exact ⟨rfl,HB.out⟩
  ·have HD:Hid (decide (p=pp∧r=rr∧f=ff∧l=ll∧m=mm∧i=ii∧o=oo∧a=aa)=false):=by show _=_;simp [E1]
   rw [HD.out];clear HD hE;subst E0;go_enter Tryz.func99,Tryz.ntmps99
   go_wp2;go_ret;exact ⟨rfl,HB.out⟩
 ·have HD:Hid (decide (p=pp∧r=rr∧f=ff∧l=ll∧m=mm∧i=ii∧o=oo∧a=aa)=false):=by show _=_;simp [E0]
  rw [HD.out];clear HD hE;go_enter Tryz.func99,Tryz.ntmps99
  go_wp2;go_ret;exact ⟨rfl,HB.out⟩
def Says (e:Ending) (p:Prop):Prop:=∃b,e=.returned (.bool b)∧(b=true ↔ p)
theorem ql6 {α:Type} {l1 l2:List α} {k:Nat} (h1:k < l1.length) (h2:k < l2.length) (h:l1.take k=l2.take k) (hx:l1[k]=l2[k]):l1.take (k+1)=l2.take (k+1):=by
 rw [List.take_add_one,List.take_add_one,h,List.getElem?_eq_getElem h1,List.getElem?_eq_getElem h2,hx]
theorem qpq (w:World) (x:RgR):(binOp .neq 73 (.agg #[I x.prio,I x.cap]) (.agg #[I x.prio,I x.cap])).run Tryz.prog w=.ok (.bool false) w:=by simp [go_sem]
theorem atRg {w:World} {s:Sl} {l:List RgR} (h:RowsAt w 2 rgrP s l) {k:Nat} (hk:k < l.length) {W:World} (hb:qB w W):∃g off,s.a=some ⟨g,off,none⟩∧W.cell? ⟨g,off+k * 2,none⟩=some (I l[k].prio)∧W.cell? ⟨g,off+k * 2+1,none⟩=some (I l[k].cap):=by
 obtain ⟨g,off,ea,hg,hr⟩:=h.row k _ (List.getElem?_eq_getElem hk);obtain ⟨u0,d0,p0⟩:=hr 0 (by omega);obtain rfl:u0=I l[k].prio:=by first | exact p0 | exact p0.1
 obtain ⟨u1,d1,p1⟩:=hr 1 (by omega);obtain rfl:u1=I l[k].cap:=by first | exact p1 | exact p1.1
 exact ⟨g,off,ea,by rw [qa5 hb _ _ hg];exact d0,by rw [qa5 hb _ _ hg];exact d1⟩
theorem eqRg (w:World) (s1 s2:Sl) (l:List RgR) (h1:RowsAt w 2 rgrP s1 l) (h2:RowsAt w 2 rgrP s2 l):Calls Tryz.prog 100 #[slT s1,slT s2] w fun e w'=>e=.returned (.bool true)∧qB w w':=by
 obtain ⟨a1,n1,c1⟩:=s1;obtain ⟨a2,n2,c2⟩:=s2;obtain rfl:n1=n2:=h1.n.trans h2.n.symm;have hm1:n1≤maxLen:=Nat.le_trans h1.c h1.m;unfold maxLen at hm1;have H:Hid (RowsAt w 2 rgrP ⟨a1,n1,c1⟩ l∧RowsAt w 2 rgrP ⟨a2,n1,c2⟩ l):=⟨h1,h2⟩;clear h1 h2;show Calls _ _ #[.slice a1 n1 c1,.slice a2 n1 c2] _ _;go_enter Tryz.func100,Tryz.ntmps100
 go_wp2;go_loopw [5,13] (fun _ v13 wr=>∃k:Nat,k≤n1∧v13=I k∧Hid (qB w wr)) (fun _ v13 _=>n1 - (intOf v13).toNat)
 case atStart=>exact ⟨0,by omega,rfl,Below.refl _ _⟩
 case round=>
  obtain ⟨k,hk,rfl,HJ⟩:=hrel;by_cases hlt:k < n1
  ·have hltI:(k:Int) < n1:=by omega
   have hk1:k < l.length:=by have:n1=l.length:=H.out.1.n;omega
   obtain ⟨g1,o1,e1,q0,q1⟩:=atRg H.out.1 hk1 HJ.out;obtain ⟨g2,o2,e2,r0,r1⟩:=atRg H.out.2 hk1 HJ.out;obtain rfl:a1=some ⟨g1,o1,none⟩:=e1;obtain rfl:a2=some ⟨g2,o2,none⟩:=e2;have hN:=fun W=>qpq W l[k]
   generalize l[k]=x at *;clear hk1;go_upto_region 6 with fail;go_region_held_law (fun W=>W.cell? ⟨g1,o1+k * 2,none⟩=some (I x.prio)∧W.cell? ⟨g1,o1+k * 2+1,none⟩=some (I x.cap)∧W.cell? ⟨g2,o2+k * 2,none⟩=some (I x.prio)∧W.cell? ⟨g2,o2+k * 2+1,none⟩=some (I x.cap)) (first | exact ⟨q0,q1,r0,r1⟩ | (go_keep;done)) (fail)
   go_wp2;go_roundw
   case rel=>exact ⟨k+1,by omega,by go_num,HJ.out.drew⟩
   case measure=>simp [intOf];omega
  ·obtain rfl:k=n1:=by omega
   have hge:¬((k:Int) < k):=by omega
   go_wp2;go_ret;exact ⟨rfl,HJ.out⟩
theorem qpr (w:World) (x:RsR):(binOp .neq 75 (.agg #[.bool x.inner,I x.ceil]) (.agg #[.bool x.inner,I x.ceil])).run Tryz.prog w=.ok (.bool false) w:=by simp [go_sem]
theorem atRs {w:World} {s:Sl} {l:List RsR} (h:RowsAt w 2 rsrP s l) {k:Nat} (hk:k < l.length) {W:World} (hb:qB w W):∃g off,s.a=some ⟨g,off,none⟩∧W.cell? ⟨g,off+k * 2,none⟩=some (.bool l[k].inner)∧W.cell? ⟨g,off+k * 2+1,none⟩=some (I l[k].ceil):=by
 obtain ⟨g,off,ea,hg,hr⟩:=h.row k _ (List.getElem?_eq_getElem hk);obtain ⟨u0,d0,p0⟩:=hr 0 (by omega);obtain rfl:u0=.bool l[k].inner:=by first | exact p0 | exact p0.1
 obtain ⟨u1,d1,p1⟩:=hr 1 (by omega);obtain rfl:u1=I l[k].ceil:=by first | exact p1 | exact p1.1
 exact ⟨g,off,ea,by rw [qa5 hb _ _ hg];exact d0,by rw [qa5 hb _ _ hg];exact d1⟩
theorem eqRs (w:World) (s1 s2:Sl) (l:List RsR) (h1:RowsAt w 2 rsrP s1 l) (h2:RowsAt w 2 rsrP s2 l):Calls Tryz.prog 101 #[slT s1,slT s2] w fun e w'=>e=.returned (.bool true)∧qB w w':=by
 obtain ⟨a1,n1,c1⟩:=s1;obtain ⟨a2,n2,c2⟩:=s2;obtain rfl:n1=n2:=h1.n.trans h2.n.symm;have hm1:n1≤maxLen:=Nat.le_trans h1.c h1.m;unfold maxLen at hm1;have H:Hid (RowsAt w 2 rsrP ⟨a1,n1,c1⟩ l∧RowsAt w 2 rsrP ⟨a2,n1,c2⟩ l):=⟨h1,h2⟩;clear h1 h2;show Calls _ _ #[.slice a1 n1 c1,.slice a2 n1 c2] _ _;go_enter Tryz.func101,Tryz.ntmps101
 go_wp2;go_loopw [5,13] (fun _ v13 wr=>∃k:Nat,k≤n1∧v13=I k∧Hid (qB w wr)) (fun _ v13 _=>n1 - (intOf v13).toNat)
 case atStart=>exact ⟨0,by omega,rfl,Below.refl _ _⟩
 case round=>
  obtain ⟨k,hk,rfl,HJ⟩:=hrel;by_cases hlt:k < n1
  ·have hltI:(k:Int) < n1:=by omega
   have hk1:k < l.length:=by have:n1=l.length:=H.out.1.n;omega
   obtain ⟨g1,o1,e1,q0,q1⟩:=atRs H.out.1 hk1 HJ.out;obtain ⟨g2,o2,e2,r0,r1⟩:=atRs H.out.2 hk1 HJ.out;obtain rfl:a1=some ⟨g1,o1,none⟩:=e1;obtain rfl:a2=some ⟨g2,o2,none⟩:=e2;have hN:=fun W=>qpr W l[k]
   generalize l[k]=x at *;clear hk1;go_upto_region 6 with fail;go_region_held_law (fun W=>W.cell? ⟨g1,o1+k * 2,none⟩=some (.bool x.inner)∧W.cell? ⟨g1,o1+k * 2+1,none⟩=some (I x.ceil)∧W.cell? ⟨g2,o2+k * 2,none⟩=some (.bool x.inner)∧W.cell? ⟨g2,o2+k * 2+1,none⟩=some (I x.ceil)) (first | exact ⟨q0,q1,r0,r1⟩ | (go_keep;done)) (fail)
   go_wp2;go_roundw
   case rel=>exact ⟨k+1,by omega,by go_num,HJ.out.drew⟩
   case measure=>simp [intOf];omega
  ·obtain rfl:k=n1:=by omega
   have hge:¬((k:Int) < k):=by omega
   go_wp2;go_ret;exact ⟨rfl,HJ.out⟩
theorem qps (w:World) (x:AlR):(binOp .neq 82 (.agg #[I x.ctr,I x.ac.kind,I x.ac.task,(qU x.ac.mask),(qU x.auto),(qU x.time),(qU x.cycle)]) (.agg #[I x.ctr,I x.ac.kind,I x.ac.task,(qU x.ac.mask),(qU x.auto),(qU x.time),(qU x.cycle)])).run Tryz.prog w=.ok (.bool false) w:=by simp [go_sem]
theorem atAl {w:World} {s:Sl} {l:List AlR} (h:RowsAt w 7 alrP s l) {k:Nat} (hk:k < l.length) {W:World} (hb:qB w W):∃g off,s.a=some ⟨g,off,none⟩∧W.cell? ⟨g,off+k * 7,none⟩=some (I l[k].ctr)∧W.cell? ⟨g,off+k * 7+1,none⟩=some (I l[k].ac.kind)∧W.cell? ⟨g,off+k * 7+2,none⟩=some (I l[k].ac.task)∧W.cell? ⟨g,off+k * 7+3,none⟩=some (.int .u32 (l[k].ac.mask:Int))∧W.cell? ⟨g,off+k * 7+4,none⟩=some (.int .u32 (l[k].auto:Int))∧W.cell? ⟨g,off+k * 7+5,none⟩=some (.int .u32 (l[k].time:Int))∧W.cell? ⟨g,off+k * 7+6,none⟩=some (.int .u32 (l[k].cycle:Int)):=by
 obtain ⟨g,off,ea,hg,hr⟩:=h.row k _ (List.getElem?_eq_getElem hk);obtain ⟨u0,d0,p0⟩:=hr 0 (by omega);obtain rfl:u0=I l[k].ctr:=by first | exact p0 | exact p0.1
 obtain ⟨u1,d1,p1⟩:=hr 1 (by omega);obtain rfl:u1=I l[k].ac.kind:=by first | exact p1 | exact p1.1
 obtain ⟨u2,d2,p2⟩:=hr 2 (by omega);obtain rfl:u2=I l[k].ac.task:=by first | exact p2 | exact p2.1
 obtain ⟨u3,d3,p3⟩:=hr 3 (by omega);obtain rfl:u3=.int .u32 (l[k].ac.mask:Int):=by first | exact p3 | exact p3.1
 obtain ⟨u4,d4,p4⟩:=hr 4 (by omega);obtain rfl:u4=.int .u32 (l[k].auto:Int):=by first | exact p4 | exact p4.1
 obtain ⟨u5,d5,p5⟩:=hr 5 (by omega);obtain rfl:u5=.int .u32 (l[k].time:Int):=by first | exact p5 | exact p5.1
 obtain ⟨u6,d6,p6⟩:=hr 6 (by omega);obtain rfl:u6=.int .u32 (l[k].cycle:Int):=by first | exact p6 | exact p6.1
 exact ⟨g,off,ea,by rw [qa5 hb _ _ hg];exact d0,by rw [qa5 hb _ _ hg];exact d1,by rw [qa5 hb _ _ hg];exact d2,by rw [qa5 hb _ _ hg];exact d3,by rw [qa5 hb _ _ hg];exact d4,by rw [qa5 hb _ _ hg];exact d5,by rw [qa5 hb _ _ hg];exact d6⟩
theorem eqAl (w:World) (s1 s2:Sl) (l:List AlR) (h1:RowsAt w 7 alrP s1 l) (h2:RowsAt w 7 alrP s2 l):Calls Tryz.prog 103 #[slT s1,slT s2] w fun e w'=>e=.returned (.bool true)∧qB w w':=by
 obtain ⟨a1,n1,c1⟩:=s1;obtain ⟨a2,n2,c2⟩:=s2;obtain rfl:n1=n2:=h1.n.trans h2.n.symm;have hm1:n1≤maxLen:=Nat.le_trans h1.c h1.m;unfold maxLen at hm1;have H:Hid (RowsAt w 7 alrP ⟨a1,n1,c1⟩ l∧RowsAt w 7 alrP ⟨a2,n1,c2⟩ l):=⟨h1,h2⟩;clear h1 h2;show Calls _ _ #[.slice a1 n1 c1,.slice a2 n1 c2] _ _;go_enter Tryz.func103,Tryz.ntmps103
 go_wp2;go_loopw [5,13] (fun _ v13 wr=>∃k:Nat,k≤n1∧v13=I k∧Hid (qB w wr)) (fun _ v13 _=>n1 - (intOf v13).toNat)
 case atStart=>exact ⟨0,by omega,rfl,Below.refl _ _⟩
 case round=>
  obtain ⟨k,hk,rfl,HJ⟩:=hrel;by_cases hlt:k < n1
  ·have hltI:(k:Int) < n1:=by omega
   have hk1:k < l.length:=by have:n1=l.length:=H.out.1.n;omega
   obtain ⟨g1,o1,e1,q0,q1,q2,q3,q4,q5,q6⟩:=atAl H.out.1 hk1 HJ.out;obtain ⟨g2,o2,e2,r0,r1,r2,r3,r4,r5,r6⟩:=atAl H.out.2 hk1 HJ.out;obtain rfl:a1=some ⟨g1,o1,none⟩:=e1;obtain rfl:a2=some ⟨g2,o2,none⟩:=e2;have hN:=fun W=>qps W l[k]
   generalize l[k]=x at *;clear hk1;go_upto_region 6 with fail;go_region_held_law (fun W=>W.cell? ⟨g1,o1+k * 7,none⟩=some (I x.ctr)∧W.cell? ⟨g1,o1+k * 7+1,none⟩=some (I x.ac.kind)∧W.cell? ⟨g1,o1+k * 7+2,none⟩=some (I x.ac.task)∧W.cell? ⟨g1,o1+k * 7+3,none⟩=some (qU x.ac.mask)∧W.cell? ⟨g1,o1+k * 7+4,none⟩=some (qU x.auto)∧W.cell? ⟨g1,o1+k * 7+5,none⟩=some (qU x.time)∧W.cell? ⟨g1,o1+k * 7+6,none⟩=some (qU x.cycle)∧W.cell? ⟨g2,o2+k * 7,none⟩=some (I x.ctr)∧W.cell? ⟨g2,o2+k * 7+1,none⟩=some (I x.ac.kind)∧W.cell? ⟨g2,o2+k * 7+2,none⟩=some (I x.ac.task)∧W.cell? ⟨g2,o2+k * 7+3,none⟩=some (qU x.ac.mask)∧W.cell? ⟨g2,o2+k * 7+4,none⟩=some (qU x.auto)∧W.cell? ⟨g2,o2+k * 7+5,none⟩=some (qU x.time)∧W.cell? ⟨g2,o2+k * 7+6,none⟩=some (qU x.cycle)) (first | exact ⟨q0,q1,q2,q3,q4,q5,q6,r0,r1,r2,r3,r4,r5,r6⟩ | (go_keep;done)) (fail)
   go_wp2;go_roundw
   case rel=>exact ⟨k+1,by omega,by go_num,HJ.out.drew⟩
   case measure=>simp [intOf];omega
  ·obtain rfl:k=n1:=by omega
   have hge:¬((k:Int) < k):=by omega
   go_wp2;go_ret;exact ⟨rfl,HJ.out⟩
theorem qpt (w:World) (x:MsR):(binOp .neq 87 (.agg #[I x.kind,I x.len,I x.frm,.int .u64 (x.init:Int),I x.queue,I x.ac.kind,I x.ac.task,(qU x.ac.mask)]) (.agg #[I x.kind,I x.len,I x.frm,.int .u64 (x.init:Int),I x.queue,I x.ac.kind,I x.ac.task,(qU x.ac.mask)])).run Tryz.prog w=.ok (.bool false) w:=by simp [go_sem]
theorem atMs {w:World} {s:Sl} {l:List MsR} (h:RowsAt w 8 msrP s l) {k:Nat} (hk:k < l.length) {W:World} (hb:qB w W):∃g off,s.a=some ⟨g,off,none⟩∧W.cell? ⟨g,off+k * 8,none⟩=some (I l[k].kind)∧W.cell? ⟨g,off+k * 8+1,none⟩=some (I l[k].len)∧W.cell? ⟨g,off+k * 8+2,none⟩=some (I l[k].frm)∧W.cell? ⟨g,off+k * 8+3,none⟩=some (.int .u64 (l[k].init:Int))∧W.cell? ⟨g,off+k * 8+4,none⟩=some (I l[k].queue)∧W.cell? ⟨g,off+k * 8+5,none⟩=some (I l[k].ac.kind)∧W.cell? ⟨g,off+k * 8+6,none⟩=some (I l[k].ac.task)∧W.cell? ⟨g,off+k * 8+7,none⟩=some (.int .u32 (l[k].ac.mask:Int)):=by
 obtain ⟨g,off,ea,hg,hr⟩:=h.row k _ (List.getElem?_eq_getElem hk);obtain ⟨u0,d0,p0⟩:=hr 0 (by omega);obtain rfl:u0=I l[k].kind:=by first | exact p0 | exact p0.1
 obtain ⟨u1,d1,p1⟩:=hr 1 (by omega);obtain rfl:u1=I l[k].len:=by first | exact p1 | exact p1.1
 obtain ⟨u2,d2,p2⟩:=hr 2 (by omega);obtain rfl:u2=I l[k].frm:=by first | exact p2 | exact p2.1
 obtain ⟨u3,d3,p3⟩:=hr 3 (by omega);obtain rfl:u3=.int .u64 (l[k].init:Int):=by first | exact p3 | exact p3.1
 obtain ⟨u4,d4,p4⟩:=hr 4 (by omega);obtain rfl:u4=I l[k].queue:=by first | exact p4 | exact p4.1
 obtain ⟨u5,d5,p5⟩:=hr 5 (by omega);obtain rfl:u5=I l[k].ac.kind:=by first | exact p5 | exact p5.1
 obtain ⟨u6,d6,p6⟩:=hr 6 (by omega);obtain rfl:u6=I l[k].ac.task:=by first | exact p6 | exact p6.1
 obtain ⟨u7,d7,p7⟩:=hr 7 (by omega);obtain rfl:u7=.int .u32 (l[k].ac.mask:Int):=by first | exact p7 | exact p7.1
 exact ⟨g,off,ea,by rw [qa5 hb _ _ hg];exact d0,by rw [qa5 hb _ _ hg];exact d1,by rw [qa5 hb _ _ hg];exact d2,by rw [qa5 hb _ _ hg];exact d3,by rw [qa5 hb _ _ hg];exact d4,by rw [qa5 hb _ _ hg];exact d5,by rw [qa5 hb _ _ hg];exact d6,by rw [qa5 hb _ _ hg];exact d7⟩
theorem eqMs (w:World) (s1 s2:Sl) (l:List MsR) (h1:RowsAt w 8 msrP s1 l) (h2:RowsAt w 8 msrP s2 l):Calls Tryz.prog 106 #[slT s1,slT s2] w fun e w'=>e=.returned (.bool true)∧qB w w':=by
 obtain ⟨a1,n1,c1⟩:=s1;obtain ⟨a2,n2,c2⟩:=s2;obtain rfl:n1=n2:=h1.n.trans h2.n.symm;have hm1:n1≤maxLen:=Nat.le_trans h1.c h1.m;unfold maxLen at hm1;have H:Hid (RowsAt w 8 msrP ⟨a1,n1,c1⟩ l∧RowsAt w 8 msrP ⟨a2,n1,c2⟩ l):=⟨h1,h2⟩;clear h1 h2;show Calls _ _ #[.slice a1 n1 c1,.slice a2 n1 c2] _ _;go_enter Tryz.func106,Tryz.ntmps106
 go_wp2;go_loopw [5,13] (fun _ v13 wr=>∃k:Nat,k≤n1∧v13=I k∧Hid (qB w wr)) (fun _ v13 _=>n1 - (intOf v13).toNat)
 case atStart=>exact ⟨0,by omega,rfl,Below.refl _ _⟩
 case round=>
  obtain ⟨k,hk,rfl,HJ⟩:=hrel;by_cases hlt:k < n1
  ·have hltI:(k:Int) < n1:=by omega
   have hk1:k < l.length:=by have:n1=l.length:=H.out.1.n;omega
   obtain ⟨g1,o1,e1,q0,q1,q2,q3,q4,q5,q6,q7⟩:=atMs H.out.1 hk1 HJ.out;obtain ⟨g2,o2,e2,r0,r1,r2,r3,r4,r5,r6,r7⟩:=atMs H.out.2 hk1 HJ.out;obtain rfl:a1=some ⟨g1,o1,none⟩:=e1;obtain rfl:a2=some ⟨g2,o2,none⟩:=e2;have hN:=fun W=>qpt W l[k]
   generalize l[k]=x at *;clear hk1;go_upto_region 6 with fail;go_region_held_law (fun W=>W.cell? ⟨g1,o1+k * 8,none⟩=some (I x.kind)∧W.cell? ⟨g1,o1+k * 8+1,none⟩=some (I x.len)∧W.cell? ⟨g1,o1+k * 8+2,none⟩=some (I x.frm)∧W.cell? ⟨g1,o1+k * 8+3,none⟩=some (.int .u64 (x.init:Int))∧W.cell? ⟨g1,o1+k * 8+4,none⟩=some (I x.queue)∧W.cell? ⟨g1,o1+k * 8+5,none⟩=some (I x.ac.kind)∧W.cell? ⟨g1,o1+k * 8+6,none⟩=some (I x.ac.task)∧W.cell? ⟨g1,o1+k * 8+7,none⟩=some (qU x.ac.mask)∧W.cell? ⟨g2,o2+k * 8,none⟩=some (I x.kind)∧W.cell? ⟨g2,o2+k * 8+1,none⟩=some (I x.len)∧W.cell? ⟨g2,o2+k * 8+2,none⟩=some (I x.frm)∧W.cell? ⟨g2,o2+k * 8+3,none⟩=some (.int .u64 (x.init:Int))∧W.cell? ⟨g2,o2+k * 8+4,none⟩=some (I x.queue)∧W.cell? ⟨g2,o2+k * 8+5,none⟩=some (I x.ac.kind)∧W.cell? ⟨g2,o2+k * 8+6,none⟩=some (I x.ac.task)∧W.cell? ⟨g2,o2+k * 8+7,none⟩=some (qU x.ac.mask)) (first | exact ⟨q0,q1,q2,q3,q4,q5,q6,q7,r0,r1,r2,r3,r4,r5,r6,r7⟩ | (go_keep;done)) (fail)
   go_wp2;go_roundw
   case rel=>exact ⟨k+1,by omega,by go_num,HJ.out.drew⟩
   case measure=>simp [intOf];omega
  ·obtain rfl:k=n1:=by omega
   have hge:¬((k:Int) < k):=by omega
   go_wp2;go_ret;exact ⟨rfl,HJ.out⟩
theorem qpu (w:World) (x:CtR):(binOp .neq 77 (.agg #[(qU x.max),(qU x.base),(qU x.min)]) (.agg #[(qU x.max),(qU x.base),(qU x.min)])).run Tryz.prog w=.ok (.bool false) w:=by simp [go_sem]
theorem atCt {w:World} {s:Sl} {l:List CtR} (h:RowsAt w 3 ctrP s l) {k:Nat} (hk:k < l.length) {W:World} (hb:qB w W):∃g off,s.a=some ⟨g,off,none⟩∧W.cell? ⟨g,off+k * 3,none⟩=some (.int .u32 (l[k].max:Int))∧W.cell? ⟨g,off+k * 3+1,none⟩=some (.int .u32 (l[k].base:Int))∧W.cell? ⟨g,off+k * 3+2,none⟩=some (.int .u32 (l[k].min:Int)):=by
 obtain ⟨g,off,ea,hg,hr⟩:=h.row k _ (List.getElem?_eq_getElem hk);obtain ⟨u0,d0,p0⟩:=hr 0 (by omega);obtain rfl:u0=.int .u32 (l[k].max:Int):=by first | exact p0 | exact p0.1
 obtain ⟨u1,d1,p1⟩:=hr 1 (by omega);obtain rfl:u1=.int .u32 (l[k].base:Int):=by first | exact p1 | exact p1.1
 obtain ⟨u2,d2,p2⟩:=hr 2 (by omega);obtain rfl:u2=.int .u32 (l[k].min:Int):=by first | exact p2 | exact p2.1
 exact ⟨g,off,ea,by rw [qa5 hb _ _ hg];exact d0,by rw [qa5 hb _ _ hg];exact d1,by rw [qa5 hb _ _ hg];exact d2⟩
theorem eqCt (w:World) (s1 s2:Sl) (l:List CtR) (h1:RowsAt w 3 ctrP s1 l) (h2:RowsAt w 3 ctrP s2 l):Calls Tryz.prog 102 #[slT s1,slT s2] w fun e w'=>e=.returned (.bool true)∧qB w w':=by
 obtain ⟨a1,n1,c1⟩:=s1;obtain ⟨a2,n2,c2⟩:=s2;obtain rfl:n1=n2:=h1.n.trans h2.n.symm;have hm1:n1≤maxLen:=Nat.le_trans h1.c h1.m;unfold maxLen at hm1;have H:Hid (RowsAt w 3 ctrP ⟨a1,n1,c1⟩ l∧RowsAt w 3 ctrP ⟨a2,n1,c2⟩ l):=⟨h1,h2⟩;clear h1 h2;show Calls _ _ #[.slice a1 n1 c1,.slice a2 n1 c2] _ _;go_enter Tryz.func102,Tryz.ntmps102
 go_wp2;go_loopw [5,13] (fun _ v13 wr=>∃k:Nat,k≤n1∧v13=I k∧Hid (qB w wr)) (fun _ v13 _=>n1 - (intOf v13).toNat)
 case atStart=>exact ⟨0,by omega,rfl,Below.refl _ _⟩
 case round=>
  obtain ⟨k,hk,rfl,HJ⟩:=hrel;by_cases hlt:k < n1
  ·have hltI:(k:Int) < n1:=by omega
   have hk1:k < l.length:=by have:n1=l.length:=H.out.1.n;omega
   obtain ⟨g1,o1,e1,q0,q1,q2⟩:=atCt H.out.1 hk1 HJ.out;obtain ⟨g2,o2,e2,r0,r1,r2⟩:=atCt H.out.2 hk1 HJ.out;obtain rfl:a1=some ⟨g1,o1,none⟩:=e1;obtain rfl:a2=some ⟨g2,o2,none⟩:=e2;have hN:=fun W=>qpu W l[k]
   generalize l[k]=x at *;clear hk1;go_upto_region 6 with fail;go_region_held_law (fun W=>W.cell? ⟨g1,o1+k * 3,none⟩=some (qU x.max)∧W.cell? ⟨g1,o1+k * 3+1,none⟩=some (qU x.base)∧W.cell? ⟨g1,o1+k * 3+2,none⟩=some (qU x.min)∧W.cell? ⟨g2,o2+k * 3,none⟩=some (qU x.max)∧W.cell? ⟨g2,o2+k * 3+1,none⟩=some (qU x.base)∧W.cell? ⟨g2,o2+k * 3+2,none⟩=some (qU x.min)) (first | exact ⟨q0,q1,q2,r0,r1,r2⟩ | (go_keep;done)) (fail)
   go_wp2;go_roundw
   case rel=>exact ⟨k+1,by omega,by go_num,HJ.out.drew⟩
   case measure=>simp [intOf];omega
  ·obtain rfl:k=n1:=by omega
   have hge:¬((k:Int) < k):=by omega
   go_wp2;go_ret;exact ⟨rfl,HJ.out⟩
end Go.Proofs.YtijgopkhdjaolabGreat
