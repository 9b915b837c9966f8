import Derived.Test.YtijgopkhdjaolabGreatXHrrTk
import Derived.Test.YtijgopkhdjaolabGreatXHx
import Derived.Test.YtijgopkhdjaolabGreatXHrrRg
import Derived.Test.YtijgopkhdjaolabGreatXHy5
import Derived.Test.YtijgopkhdjaolabGreatXHrrMs
import Derived.Deep.RegionHeldLaw
set_option linter.unusedSimpArgs false
set_option linter.unusedVariables false
set_option maxHeartbeats 16000000
set_option maxRecDepth 100000
namespace Go.Proofs.YtijgopkhdjaolabGreat
open Go.RowKit Go.Shelf Go.Sort
open Go.Proofs.YtijgopkhdjaolabGreat.Ob (leB leV qa8 qag crc Rd RdAll qa7 Rdr)
def VCt (_:World) (x:CtR) (u:Value):Prop:=u=.agg #[(qU x.max),(qU x.base),(qU x.min)]
def VRCt (lo:Nat) (W:World) (xs:List CtR) (u:Value):Prop:=∃(sa:Option Addr) (sc:Nat) (cs:List Value),u=.slice sa xs.length sc∧W.ownsRow lo 77 3 (.slice sa xs.length sc) xs.length cs∧RwX 3 ctrP xs cs
theorem qni : (Tryz.prog.info? 77).map (fun i=>(i.zero,i.size,i.bytes))=some (some (.agg #[.int .u32 0,.int .u32 0,.int .u32 0]:Value),3,12):=by kernel_rfl
theorem qlt {w:World} {lo r:Nat} {l:List UInt8} (n:Nat) (hn:n≤65535) (h:Rst w lo r l) (f:Nat) (bnd caps:Array Value) (eg:∀args W,(callFunc f args).run Tryz.prog W=.ok (.enter f args) W)
  (hf:∀(W:World) (l':List UInt8) (j:Nat),w.grownBy W (some r)→Rst W lo r l'→j < n→Calls Tryz.prog f (bnd++#[I j]++caps) W fun e w'=>RP W lo r VCt (pCt l') e w') :
  Calls Tryz.prog 43 #[I n,.func (.func f) bnd caps] w fun e w'=>RP w lo r (VRCt lo) (qa4 pCt n l) e w':=by
 obtain ⟨im,him,hm0,hm1,hm2⟩:=info_parts qni;have HF:Hid (∀(W:World) (l':List UInt8) (j:Nat),w.grownBy W (some r)→Rst W lo r l'→j < n→Calls Tryz.prog f (bnd++#[I j]++caps) W fun e w'=>RP W lo r VCt (pCt l') e w'):=hf;have hlo:lo≤w.heap.size:=h.le;have hrl:r < lo:=h.lt;have HI:Hid (∃(xs:List CtR) (l':List UInt8) (cs:List Value),xs.length=0∧qa4 pCt n l=conP xs (qa4 pCt (n - 0) l')∧Rst w lo r l'∧w.grownBy w (some r)∧w.ownsRow w.heap.size 77 3 qZ 0 cs∧RwX 3 ctrP xs cs):=⟨[],l,[],rfl,(qda _).symm,h,qcf _ _,World.ownsRow_nil _ _ _ _,RwX.nil _ _⟩;clear hf h;go_enter Tryz.func43,Tryz.ntmps43
 go_wp2;go_loopw [5,6,8] (fun v5 _ v8 wr=>∃(j:Nat) (va:Option Addr) (vc:Nat),j≤n∧v8=I j∧v5=.slice va j vc∧Hid (∃(xs:List CtR) (l':List UInt8) (cs:List Value),xs.length=j∧qa4 pCt n l=conP xs (qa4 pCt (n - j) l')∧Rst wr lo r l'∧w.grownBy wr (some r)∧wr.ownsRow w.heap.size 77 3 v5 j cs∧RwX 3 ctrP xs cs)) (fun _ _ v8 _=>n - (intOf v8).toNat)
 case atStart=>exact ⟨0,none,0,by omega,rfl,rfl,HI.out⟩
 case round=>
  clear HI;obtain ⟨j,va,vc,hj,rfl,rfl,HJ⟩:=hrel;obtain ⟨xs,l1,cs,g1,g2,g3,g4,g5,g6⟩:=HJ.out;by_cases hlt:j < n
  ·have hlt':(j:Int) < n:=by omega
   have cx:=HF.out wr l1 j g4 g3 hlt;have H1:Hid (xs.length=j∧qa4 pCt n l=conP xs (qa4 pCt (n - (j+1)+1) l1)∧w.grownBy wr (some r)∧wr.ownsRow w.heap.size 77 3 (.slice va j vc) j cs∧RwX 3 ctrP xs cs):=⟨g1,by rw [g2,show n - j=n - (j+1)+1 by omega],g4,g5,g6⟩;clear HJ g1 g2 g3 g4 g5 g6;go_wp2;refine cx.mono ?_;clear cx;intro e7 w7 h7;cases hp:pCt l1 with
   | error c=>
    rw [hp] at h7;obtain ⟨rfl,hg7⟩:=qar h7;have e1:qa4 pCt n l=.error c:=H1.out.2.1.trans (qds xs hp);have e2:=qa1 H1.out.2.2.1 hg7;have e9:RP w lo r (VRCt lo) (qa4 pCt n l) (gup c) w7:=by rw [e1];exact ⟨rfl,e2⟩
    exact ⟨rfl,e9⟩
   | ok q=>
    obtain ⟨x,l2⟩:=q;rw [hp] at h7;obtain ⟨u,rfl,hv,hr7,hg7⟩:=qaq h7;have hv1:u=.agg #[(qU x.max),(qU x.base),(qU x.min)]:=hv;subst hv1;have e1:=H1.out.2.1.trans (qdt xs hp);have o7:=qaw H1.out.2.2.2.1 (by omega) hg7;have hO:=o7.alloc (.cells #[(qU x.max),(qU x.base),(qU x.min)] 77);have hw7:w.heap.size≤w7.heap.size:=Nat.le_trans H1.out.2.2.1.size hg7.size;have hsz:w.heap.size≤(w7.alloc (.cells #[(qU x.max),(qU x.base),(qU x.min)] 77)).heap.size:=Nat.le_trans hw7 (qa0 w7 _).size;have hnew:=qaz w7 #[(qU x.max),(qU x.base),(qU x.min)] 77;have hone:∀u∈(#[(qU x.max),(qU x.base),(qU x.min)]:Array Value).toList,u.oneCell'=true:=by
     intro u hu;simp only [List.mem_cons,List.not_mem_nil,or_false] at hu;rcases hu with rfl | rfl | rfl <;> rfl
    have HE:Hid (xs.length=j∧qa4 pCt n l=conP (xs++[x]) (qa4 pCt (n - (j+1)) l2)∧Rst w7 lo r l2∧w.grownBy w7 (some r)∧RwX 3 ctrP xs cs∧w7.ownsRow w.heap.size 77 3 (.slice va j vc) j cs):=⟨H1.out.1,e1,hr7,qa1 H1.out.2.2.1 hg7,H1.out.2.2.2.2,o7⟩;clear H1 h7 hp hr7 hg7 e1 o7 HF;go_wp2_with (first
     | (at_builtin;refine wpList_append_own _ rfl (.tmp 11) (.tmp 15) 27 rfl w.heap.size 77 im _ 3 12 Tryz.underlying27 him hm0 hm1 hm2 rfl (by decide) _ _ _ rfl hO ⟨w7.heap.size,0,none⟩ 1 1 (#[(qU x.max),(qU x.base),(qU x.min)]:Array Value).toList rfl rfl hnew hone (by unfold maxLen;omega) (by omega) hsz ?_;intro v6 w6 ho6 hg6 _;obtain ⟨a6,c6,rfl⟩:=qam ho6))
    have H9:Hid (∃(xs:List CtR) (l':List UInt8) (cs:List Value),xs.length=j+1∧qa4 pCt n l=conP xs (qa4 pCt (n - (j+1)) l')∧Rst w6 lo r l'∧w.grownBy w6 (some r)∧w6.ownsRow w.heap.size 77 3 (.slice a6 (j+1) c6) (j+1) cs∧RwX 3 ctrP xs cs):=by
     obtain ⟨f1,f2,f3,f4,f5,f6⟩:=HE.out;have hoth:∀b,b < w.heap.size→w6.heap[b]?=w7.heap[b]?:=fun b hb=>by
      rw [hg6.block b (by omega) (fun e=>by have:=(hO.lt b e.symm).1;omega)];exact heap_alloc_old w7 _ (by omega)
     have hs67:w7.heap.size≤w6.heap.size:=Nat.le_trans (qa0 w7 _).size hg6.size;refine ⟨xs++[x],l2,cs++(#[(qU x.max),(qU x.base),(qU x.min)]:Array Value).toList,by simp [f1],f2,f3.keep (fun b hb=>hoth b (by omega)) hs67,⟨?_,?_,?_,by omega,fun b hb hne=>(hoth b hb).trans (f4.block b hb hne)⟩,ho6,?_⟩
     ·exact (hg6.os.trans (show _=w7.os from rfl)).trans f4.os
     ·exact (hg6.tape.trans (show _=w7.tape from rfl)).trans f4.tape
     ·exact (hg6.output.trans (show _=w7.output from rfl)).trans f4.output
     ·refine RwX.snoc f5 x _ rfl (fun i hi=>?_)
      match i,hi with
      | 0,_=>exact ⟨_,rfl,rfl⟩
      | 1,_=>exact ⟨_,rfl,rfl⟩
      | 2,_=>exact ⟨_,rfl,rfl⟩
    clear HE ho6 hg6 hO hnew hone hsz hw7;go_wp2;go_roundw
    case rel=>exact ⟨j+1,a6,c6,by omega,by go_num,rfl,H9.out⟩
    case measure=>simp [intOf];omega
  ·obtain rfl:j=n:=by omega
   have hge:¬((j:Int) < j):=by omega
   have HE:Hid (RP w lo r (VRCt lo) (qa4 pCt j l) (.returned (.slice va j vc)) wr):=by
    have e1:qa4 pCt j l=.ok (xs,l1):=by rw [g2,Nat.sub_self];simp [qa4,conP,retP]
    rw [e1];refine ⟨_,rfl,⟨va,vc,cs,by rw [g1],?_,g6⟩,g3,g4⟩;rw [g1];exact qbk g5 hlo
   clear HJ HF g1 g2 g3 g4 g5 g6;go_wp2;go_ret;exact HE.out
def VIs (lo:Nat) (W:World) (x:IsR) (u:Value):Prop:=∃(sa:Option Addr) (sc:Nat),u=.agg #[I x.cat,I x.prio,.slice sa x.own.length sc]∧qbm W lo x.own (.slice sa x.own.length sc)
def VRIs (lo:Nat) (W:World) (xs:List IsR) (u:Value):Prop:=∃(sa:Option Addr) (sc:Nat) (cs:List Value),u=.slice sa xs.length sc∧W.ownsRow lo 84 3 (.slice sa xs.length sc) xs.length cs∧RwX 3 (isO9 W lo) xs cs
theorem qnj : (Tryz.prog.info? 84).map (fun i=>(i.zero,i.size,i.bytes))=some (some (.agg #[I 0,I 0,qZ]:Value),3,40):=by kernel_rfl
theorem qlu {w:World} {lo r:Nat} {l:List UInt8} (n:Nat) (hn:n≤65535) (h:Rst w lo r l) (f:Nat) (bnd caps:Array Value) (eg:∀args W,(callFunc f args).run Tryz.prog W=.ok (.enter f args) W)
  (hf:∀(W:World) (l':List UInt8) (j:Nat),w.grownBy W (some r)→Rst W lo r l'→j < n→Calls Tryz.prog f (bnd++#[I j]++caps) W fun e w'=>RP W lo r (VIs lo) (pIs l') e w') :
  Calls Tryz.prog 47 #[I n,.func (.func f) bnd caps] w fun e w'=>RP w lo r (VRIs lo) (qa4 pIs n l) e w':=by
 obtain ⟨im,him,hm0,hm1,hm2⟩:=info_parts qnj;have HF:Hid (∀(W:World) (l':List UInt8) (j:Nat),w.grownBy W (some r)→Rst W lo r l'→j < n→Calls Tryz.prog f (bnd++#[I j]++caps) W fun e w'=>RP W lo r (VIs lo) (pIs l') e w'):=hf;have hlo:lo≤w.heap.size:=h.le;have hrl:r < lo:=h.lt;have HI:Hid (∃(xs:List IsR) (l':List UInt8) (cs:List Value),xs.length=0∧qa4 pIs n l=conP xs (qa4 pIs (n - 0) l')∧Rst w lo r l'∧w.grownBy w (some r)∧w.ownsRow w.heap.size 84 3 qZ 0 cs∧RwX 3 (isO9 w lo) xs cs):=⟨[],l,[],rfl,(qda _).symm,h,qcf _ _,World.ownsRow_nil _ _ _ _,RwX.nil _ _⟩;clear hf h;go_enter Tryz.func47,Tryz.ntmps47
 go_wp2;go_loopw [5,6,8] (fun v5 _ v8 wr=>∃(j:Nat) (va:Option Addr) (vc:Nat),j≤n∧v8=I j∧v5=.slice va j vc∧Hid (∃(xs:List IsR) (l':List UInt8) (cs:List Value),xs.length=j∧qa4 pIs n l=conP xs (qa4 pIs (n - j) l')∧Rst wr lo r l'∧w.grownBy wr (some r)∧wr.ownsRow w.heap.size 84 3 v5 j cs∧RwX 3 (isO9 wr lo) xs cs)) (fun _ _ v8 _=>n - (intOf v8).toNat)
 case atStart=>exact ⟨0,none,0,by omega,rfl,rfl,HI.out⟩
 case round=>
  clear HI;obtain ⟨j,va,vc,hj,rfl,rfl,HJ⟩:=hrel;obtain ⟨xs,l1,cs,g1,g2,g3,g4,g5,g6⟩:=HJ.out;by_cases hlt:j < n
  ·have hlt':(j:Int) < n:=by omega
   have cx:=HF.out wr l1 j g4 g3 hlt;have H1:Hid (xs.length=j∧qa4 pIs n l=conP xs (qa4 pIs (n - (j+1)+1) l1)∧w.grownBy wr (some r)∧wr.ownsRow w.heap.size 84 3 (.slice va j vc) j cs∧RwX 3 (isO9 wr lo) xs cs):=⟨g1,by rw [g2,show n - j=n - (j+1)+1 by omega],g4,g5,g6⟩;clear HJ g1 g2 g3 g4 g5 g6;go_wp2;refine cx.mono ?_;clear cx;intro e7 w7 h7;cases hp:pIs l1 with
   | error c=>
    rw [hp] at h7;obtain ⟨rfl,hg7⟩:=qar h7;have e1:qa4 pIs n l=.error c:=H1.out.2.1.trans (qds xs hp);have e2:=qa1 H1.out.2.2.1 hg7;have e9:RP w lo r (VRIs lo) (qa4 pIs n l) (gup c) w7:=by rw [e1];exact ⟨rfl,e2⟩
    exact ⟨rfl,e9⟩
   | ok q=>
    obtain ⟨x,l2⟩:=q;rw [hp] at h7;obtain ⟨u,rfl,hv,hr7,hg7⟩:=qaq h7;obtain ⟨sa,sc,rfl,hmm⟩:=hv;have e1:=H1.out.2.1.trans (qdt xs hp);have o7:=qaw H1.out.2.2.2.1 (by omega) hg7;have hO:=o7.alloc (.cells #[I x.cat,I x.prio,.slice sa x.own.length sc] 84);have hw7:w.heap.size≤w7.heap.size:=Nat.le_trans H1.out.2.2.1.size hg7.size;have hsz:w.heap.size≤(w7.alloc (.cells #[I x.cat,I x.prio,.slice sa x.own.length sc] 84)).heap.size:=Nat.le_trans hw7 (qa0 w7 _).size;have hnew:=qaz w7 #[I x.cat,I x.prio,.slice sa x.own.length sc] 84;have hone:∀u∈(#[I x.cat,I x.prio,.slice sa x.own.length sc]:Array Value).toList,u.oneCell'=true:=by
     intro u hu;simp only [List.mem_cons,List.not_mem_nil,or_false] at hu;rcases hu with rfl | rfl | rfl <;> rfl
    have HE:Hid (xs.length=j∧qa4 pIs n l=conP (xs++[x]) (qa4 pIs (n - (j+1)) l2)∧Rst w7 lo r l2∧w.grownBy w7 (some r)∧RwX 3 (isO9 w7 lo) xs cs∧w7.ownsRow w.heap.size 84 3 (.slice va j vc) j cs∧qbm w7 lo x.own (.slice sa x.own.length sc)):=⟨H1.out.1,e1,hr7,qa1 H1.out.2.2.1 hg7,RwX.mono H1.out.2.2.2.2 (fun x i u h=>qn1 h hrl hg7),o7,hmm⟩;clear H1 h7 hp hmm hr7 hg7 e1 o7 HF;go_wp2_with (first
     | (at_builtin;refine wpList_append_own _ rfl (.tmp 11) (.tmp 15) 29 rfl w.heap.size 84 im _ 3 40 Tryz.underlying29 him hm0 hm1 hm2 rfl (by decide) _ _ _ rfl hO ⟨w7.heap.size,0,none⟩ 1 1 (#[I x.cat,I x.prio,.slice sa x.own.length sc]:Array Value).toList rfl rfl hnew hone (by unfold maxLen;omega) (by omega) hsz ?_;intro v6 w6 ho6 hg6 _;obtain ⟨a6,c6,rfl⟩:=qam ho6))
    have H9:Hid (∃(xs:List IsR) (l':List UInt8) (cs:List Value),xs.length=j+1∧qa4 pIs n l=conP xs (qa4 pIs (n - (j+1)) l')∧Rst w6 lo r l'∧w.grownBy w6 (some r)∧w6.ownsRow w.heap.size 84 3 (.slice a6 (j+1) c6) (j+1) cs∧RwX 3 (isO9 w6 lo) xs cs):=by
     obtain ⟨f1,f2,f3,f4,f5,f6,f7⟩:=HE.out;have hoth:∀b,b < w.heap.size→w6.heap[b]?=w7.heap[b]?:=fun b hb=>by
      rw [hg6.block b (by omega) (fun e=>by have:=(hO.lt b e.symm).1;omega)];exact heap_alloc_old w7 _ (by omega)
     have hs67:w7.heap.size≤w6.heap.size:=Nat.le_trans (qa0 w7 _).size hg6.size;refine ⟨xs++[x],l2,cs++(#[I x.cat,I x.prio,.slice sa x.own.length sc]:Array Value).toList,by simp [f1],f2,f3.keep (fun b hb=>hoth b (by omega)) hs67,⟨?_,?_,?_,by omega,fun b hb hne=>(hoth b hb).trans (f4.block b hb hne)⟩,ho6,?_⟩
     ·exact (hg6.os.trans (show _=w7.os from rfl)).trans f4.os
     ·exact (hg6.tape.trans (show _=w7.tape from rfl)).trans f4.tape
     ·exact (hg6.output.trans (show _=w7.output from rfl)).trans f4.output
     ·refine RwX.snoc (RwX.mono f5 (fun x i u h=>qlj (qh7 h (qa0 w7 _)) hO hg6)) x _ rfl (fun i hi=>?_)
      match i,hi with
      | 0,_=>exact ⟨_,rfl,rfl⟩
      | 1,_=>exact ⟨_,rfl,rfl⟩
      | 2,_=>exact ⟨_,rfl,qdw (qdv f7 (qa0 w7 _)) hO hg6 (by decide)⟩
    clear HE ho6 hg6 hO hnew hone hsz hw7;go_wp2;go_roundw
    case rel=>exact ⟨j+1,a6,c6,by omega,by go_num,rfl,H9.out⟩
    case measure=>simp [intOf];omega
  ·obtain rfl:j=n:=by omega
   have hge:¬((j:Int) < j):=by omega
   have HE:Hid (RP w lo r (VRIs lo) (qa4 pIs j l) (.returned (.slice va j vc)) wr):=by
    have e1:qa4 pIs j l=.ok (xs,l1):=by rw [g2,Nat.sub_self];simp [qa4,conP,retP]
    rw [e1];refine ⟨_,rfl,⟨va,vc,cs,by rw [g1],?_,g6⟩,g3,g4⟩;rw [g1];exact qbk g5 hlo
   clear HJ HF g1 g2 g3 g4 g5 g6;go_wp2;go_ret;exact HE.out
theorem qf1 {P:Program} {md:Region.Mode} {ops:Array Oper} {Q:Exit→Act→World→Prop} {S:World→Prop} {fuel:Nat} {listed:Array Bool} {a:Act} {w:World}
  (h:∀(A:Array Value),Hid (A=a.tmps)→∀G:Nat→Array Bool→Array Value→World→Prop,Hid (∀f l t W,G f l t W=wpAnyH P md ops Q S f l ⟨t,a.defers⟩ W)→G fuel listed A w):wpAnyH P md ops Q S fuel listed a w:=
 h a.tmps rfl (fun f l t W=>wpAnyH P md ops Q S f l ⟨t,a.defers⟩ W) (fun _ _ _ _=>rfl)
theorem qgn {W:World} {lo Z i q T:Nat} {x:TkR} {u y:Value} {cs:Array Value} (h:tkO9 W lo x q u) (hZ:W.heap[Z]?=some (.cells cs T)) (hT:T≠3):tkO9 (W.setCell ⟨Z,i,none⟩ y) lo x q u:=by
 unfold tkO9 at h ⊢;split at h <;> first | exact h | exact qao h hZ hT
theorem qgo {W:World} {lo Z i q T:Nat} {x:IsR} {u y:Value} {cs:Array Value} (h:isO9 W lo x q u) (hZ:W.heap[Z]?=some (.cells cs T)) (hT:T≠3):isO9 (W.setCell ⟨Z,i,none⟩ y) lo x q u:=by
 unfold isO9 at h ⊢;split at h <;> first | exact h | exact qao h hZ hT
theorem qe5 {w w':World} {lo r:Nat} {xs:List TkR} {u:Value} (h:VRTk lo w xs u) (hr:r < lo) (hg:w.grownBy w' (some r)):VRTk lo w' xs u:=by
 obtain ⟨sa,sc,cs,rfl,o,x⟩:=h;exact ⟨sa,sc,cs,rfl,qaw o hr hg,RwX.mono x (fun _ _ _ h=>qn0 h hr hg)⟩
theorem qay {W:World} {lo Z i:Nat} {xs:List TkR} {u y:Value} {c9:Array Value} (h:VRTk lo W xs u) (hZ:W.heap[Z]?=some (.cells c9 32)):VRTk lo (W.setCell ⟨Z,i,none⟩ y) xs u:=by
 obtain ⟨sa,sc,cs,rfl,o,x⟩:=h;exact ⟨sa,sc,cs,rfl,qao o hZ (by decide),RwX.mono x (fun _ _ _ h=>qgn h hZ (by decide))⟩
theorem qlv {w w':World} {lo:Nat} {xs:List TkR} {u:Value} (h:VRTk lo w xs u) (hb:qB w w'):VRTk lo w' xs u:=by
 obtain ⟨sa,sc,cs,rfl,o,x⟩:=h;exact ⟨sa,sc,cs,rfl,qad o hb,RwX.mono x (fun _ _ _ h=>qh6 h hb)⟩
theorem qen {w w':World} {lo r:Nat} {xs:List RgR} {u:Value} (h:VRRg lo w xs u) (hr:r < lo) (hg:w.grownBy w' (some r)):VRRg lo w' xs u:=by
 obtain ⟨sa,sc,cs,rfl,o,x⟩:=h;exact ⟨sa,sc,cs,rfl,qaw o hr hg,x⟩
theorem qb2 {W:World} {lo Z i:Nat} {xs:List RgR} {u y:Value} {c9:Array Value} (h:VRRg lo W xs u) (hZ:W.heap[Z]?=some (.cells c9 32)):VRRg lo (W.setCell ⟨Z,i,none⟩ y) xs u:=by
 obtain ⟨sa,sc,cs,rfl,o,x⟩:=h;exact ⟨sa,sc,cs,rfl,qao o hZ (by decide),x⟩
theorem qlw {w w':World} {lo:Nat} {xs:List RgR} {u:Value} (h:VRRg lo w xs u) (hb:qB w w'):VRRg lo w' xs u:=by
 obtain ⟨sa,sc,cs,rfl,o,x⟩:=h;exact ⟨sa,sc,cs,rfl,qad o hb,x⟩
theorem qf9 {w w':World} {lo r:Nat} {xs:List RsR} {u:Value} (h:VRRs lo w xs u) (hr:r < lo) (hg:w.grownBy w' (some r)):VRRs lo w' xs u:=by
 obtain ⟨sa,sc,cs,rfl,o,x⟩:=h;exact ⟨sa,sc,cs,rfl,qaw o hr hg,x⟩
theorem qb4 {W:World} {lo Z i:Nat} {xs:List RsR} {u y:Value} {c9:Array Value} (h:VRRs lo W xs u) (hZ:W.heap[Z]?=some (.cells c9 32)):VRRs lo (W.setCell ⟨Z,i,none⟩ y) xs u:=by
 obtain ⟨sa,sc,cs,rfl,o,x⟩:=h;exact ⟨sa,sc,cs,rfl,qao o hZ (by decide),x⟩
theorem qlx {w w':World} {lo:Nat} {xs:List RsR} {u:Value} (h:VRRs lo w xs u) (hb:qB w w'):VRRs lo w' xs u:=by
 obtain ⟨sa,sc,cs,rfl,o,x⟩:=h;exact ⟨sa,sc,cs,rfl,qad o hb,x⟩
theorem qga {w w':World} {lo r:Nat} {xs:List CtR} {u:Value} (h:VRCt lo w xs u) (hr:r < lo) (hg:w.grownBy w' (some r)):VRCt lo w' xs u:=by
 obtain ⟨sa,sc,cs,rfl,o,x⟩:=h;exact ⟨sa,sc,cs,rfl,qaw o hr hg,x⟩
theorem qb5 {W:World} {lo Z i:Nat} {xs:List CtR} {u y:Value} {c9:Array Value} (h:VRCt lo W xs u) (hZ:W.heap[Z]?=some (.cells c9 32)):VRCt lo (W.setCell ⟨Z,i,none⟩ y) xs u:=by
 obtain ⟨sa,sc,cs,rfl,o,x⟩:=h;exact ⟨sa,sc,cs,rfl,qao o hZ (by decide),x⟩
theorem qly {w w':World} {lo:Nat} {xs:List CtR} {u:Value} (h:VRCt lo w xs u) (hb:qB w w'):VRCt lo w' xs u:=by
 obtain ⟨sa,sc,cs,rfl,o,x⟩:=h;exact ⟨sa,sc,cs,rfl,qad o hb,x⟩
theorem qhp {w w':World} {lo r:Nat} {xs:List AlR} {u:Value} (h:VRAl lo w xs u) (hr:r < lo) (hg:w.grownBy w' (some r)):VRAl lo w' xs u:=by
 obtain ⟨sa,sc,cs,rfl,o,x⟩:=h;exact ⟨sa,sc,cs,rfl,qaw o hr hg,x⟩
theorem qb6 {W:World} {lo Z i:Nat} {xs:List AlR} {u y:Value} {c9:Array Value} (h:VRAl lo W xs u) (hZ:W.heap[Z]?=some (.cells c9 32)):VRAl lo (W.setCell ⟨Z,i,none⟩ y) xs u:=by
 obtain ⟨sa,sc,cs,rfl,o,x⟩:=h;exact ⟨sa,sc,cs,rfl,qao o hZ (by decide),x⟩
theorem qlz {w w':World} {lo:Nat} {xs:List AlR} {u:Value} (h:VRAl lo w xs u) (hb:qB w w'):VRAl lo w' xs u:=by
 obtain ⟨sa,sc,cs,rfl,o,x⟩:=h;exact ⟨sa,sc,cs,rfl,qad o hb,x⟩
theorem ql0 {w w':World} {lo r:Nat} {xs:List IsR} {u:Value} (h:VRIs lo w xs u) (hr:r < lo) (hg:w.grownBy w' (some r)):VRIs lo w' xs u:=by
 obtain ⟨sa,sc,cs,rfl,o,x⟩:=h;exact ⟨sa,sc,cs,rfl,qaw o hr hg,RwX.mono x (fun _ _ _ h=>qn1 h hr hg)⟩
theorem qbc {W:World} {lo Z i:Nat} {xs:List IsR} {u y:Value} {c9:Array Value} (h:VRIs lo W xs u) (hZ:W.heap[Z]?=some (.cells c9 32)):VRIs lo (W.setCell ⟨Z,i,none⟩ y) xs u:=by
 obtain ⟨sa,sc,cs,rfl,o,x⟩:=h;exact ⟨sa,sc,cs,rfl,qao o hZ (by decide),RwX.mono x (fun _ _ _ h=>qgo h hZ (by decide))⟩
theorem qm0 {w w':World} {lo:Nat} {xs:List IsR} {u:Value} (h:VRIs lo w xs u) (hb:qB w w'):VRIs lo w' xs u:=by
 obtain ⟨sa,sc,cs,rfl,o,x⟩:=h;exact ⟨sa,sc,cs,rfl,qad o hb,RwX.mono x (fun _ _ _ h=>qh7 h hb)⟩
theorem qqo {w w':World} {lo r:Nat} {xs:List MsR} {u:Value} (h:VRMs lo w xs u) (hr:r < lo) (hg:w.grownBy w' (some r)):VRMs lo w' xs u:=by
 obtain ⟨sa,sc,cs,rfl,o,x⟩:=h;exact ⟨sa,sc,cs,rfl,qaw o hr hg,x⟩
theorem qbf {W:World} {lo Z i:Nat} {xs:List MsR} {u y:Value} {c9:Array Value} (h:VRMs lo W xs u) (hZ:W.heap[Z]?=some (.cells c9 32)):VRMs lo (W.setCell ⟨Z,i,none⟩ y) xs u:=by
 obtain ⟨sa,sc,cs,rfl,o,x⟩:=h;exact ⟨sa,sc,cs,rfl,qao o hZ (by decide),x⟩
theorem qm1 {w w':World} {lo:Nat} {xs:List MsR} {u:Value} (h:VRMs lo w xs u) (hb:qB w w'):VRMs lo w' xs u:=by
 obtain ⟨sa,sc,cs,rfl,o,x⟩:=h;exact ⟨sa,sc,cs,rfl,qad o hb,x⟩
structure TbO (W:World) (lo:Nat) (tb:Tb) (v:Ts):Prop where
 t:VRTk lo W tb.tasks (slT v.t)
 g:VRRg lo W tb.rings (slT v.g)
 r:VRRs lo W tb.ress (slT v.r)
 k:VRCt lo W tb.ctrs (slT v.k)
 a:VRAl lo W tb.als (slT v.a)
 i:VRIs lo W tb.isrs (slT v.i)
 s:VRMs lo W tb.msgs (slT v.s)
theorem qe6 {α:Type} {W:World} {lo T k:Nat} {P Q:α→Nat→Value→Prop} {xs:List α} {s:Sl} (h:∃(sa:Option Addr) (sc:Nat) (cs:List Value),slT s=.slice sa xs.length sc∧W.ownsRow lo T k (.slice sa xs.length sc) xs.length cs∧RwX k P xs cs) (hPQ:∀x i u,P x i u→Q x i u):RowsAt W k Q s xs:=by
 obtain ⟨sa,sc,cs,e,o,x⟩:=h;obtain ⟨a1,n1,c1⟩:=s;obtain ⟨rfl,rfl,rfl⟩:=Value.slice.inj e;exact RwX.rows o (RwX.mono x hPQ)
theorem TbO.at {W:World} {lo:Nat} {tb:Tb} {v:Ts} (h:TbO W lo tb v):TbAt W tb v:=
 ⟨qe6 h.t (fun x i u q=>qrk q),qe6 h.g (fun x i u q=>q),qe6 h.r (fun x i u q=>q),qe6 h.k (fun x i u q=>q),qe6 h.a (fun x i u q=>q),qe6 h.i (fun x i u q=>qrl q),qe6 h.s (fun x i u q=>q)⟩
theorem TbO.below {W W':World} {lo:Nat} {tb:Tb} {v:Ts} (h:TbO W lo tb v) (hb:qB W W'):TbO W' lo tb v:=
 ⟨qlv h.t hb,qlw h.g hb,qlx h.r hb,qly h.k hb,qlz h.a hb,qm0 h.i hb,qm1 h.s hb⟩
end Go.Proofs.YtijgopkhdjaolabGreat
namespace Go.Proofs.YtijgopkhdjaolabGreat
open Go.RowKit Go.Shelf Go.Sort
open Go.Proofs.YtijgopkhdjaolabGreat.Ob (leB leV qa8 qag crc Rd RdAll qa7 rd_drop)
structure Oth (e:TypeId) (W W':World):Prop where
 size:W.heap.size≤W'.heap.size
 oth:∀(k:Nat) (cur:Array Value) (t:TypeId) (fz:Nat×Nat),W.heap[k]?=some (.cells cur t fz)→t≠e→W'.heap[k]?=some (.cells cur t fz)
section
variable {W W' W1 : World} {e t : TypeId} {b k n r lo : Nat} {u : Value} {ys : List Value}
theorem Oth.trans (h:Oth e W W') (q:Oth e W' W1):Oth e W W1:=⟨Nat.le_trans h.size q.size,fun k cur t fz hk ht=>q.oth k cur t fz (h.oth k cur t fz hk ht) ht⟩
theorem Oth.below (h:qB W W'):Oth e W W':=⟨h.size,fun k cur t fz hk _=>(h.block k (qa6 hk)).trans hk⟩
theorem qcb {xs:List Value} (h:W.ownsRow b e k u n xs) (hg:W.grownBy W' u.ownBlock):Oth e W W':=⟨hg.size,fun j cur t fz hj ht=>by
 refine (hg.block j (qa6 hj) (fun q=>?_)).trans hj;rcases h.2 with ⟨r1,-⟩ | ⟨g,cap,cu,r1,-,r3,-⟩
 ·rw [r1] at q;cases q
 ·rw [r1] at q
  have q:j=g:=Option.some.inj q;rw [q,r3] at hj;injection hj with hj
  injection hj with _ p2 _
  exact ht p2.symm⟩
theorem qcm (h:W.ownsRow b t k u n ys) (q:Oth e W W') (ht:t≠e):W'.ownsRow b t k u n ys:=by
 refine ⟨h.1,?_⟩;rcases h.2 with r | ⟨g,cap,cur,r1,r2,r3,r4⟩
 ·exact .inl r
 ·exact .inr ⟨g,cap,cur,r1,r2,q.oth _ _ _ _ r3 ht,r4⟩
theorem qcx {xs:List TkR} (h:VRTk lo W xs u) (q:Oth e W W') (h1:71≠e) (h2:3≠e):VRTk lo W' xs u:=by
 obtain ⟨sa,sc,cs,rfl,o,x⟩:=h;refine ⟨sa,sc,cs,rfl,qcm o q h1,RwX.mono x (fun x i u h=>?_)⟩;unfold tkO9 at h ⊢;split at h <;> first | exact h | exact qcm h q h2
theorem qcy {xs:List RgR} (h:VRRg lo W xs u) (q:Oth e W W') (h1:73≠e):VRRg lo W' xs u:=by
 obtain ⟨sa,sc,cs,rfl,o,x⟩:=h;exact ⟨sa,sc,cs,rfl,qcm o q h1,x⟩
theorem qcz {xs:List RsR} (h:VRRs lo W xs u) (q:Oth e W W') (h1:75≠e):VRRs lo W' xs u:=by
 obtain ⟨sa,sc,cs,rfl,o,x⟩:=h;exact ⟨sa,sc,cs,rfl,qcm o q h1,x⟩
theorem qd0 {xs:List CtR} (h:VRCt lo W xs u) (q:Oth e W W') (h1:77≠e):VRCt lo W' xs u:=by
 obtain ⟨sa,sc,cs,rfl,o,x⟩:=h;exact ⟨sa,sc,cs,rfl,qcm o q h1,x⟩
theorem qd1 {xs:List AlR} (h:VRAl lo W xs u) (q:Oth e W W') (h1:82≠e):VRAl lo W' xs u:=by
 obtain ⟨sa,sc,cs,rfl,o,x⟩:=h;exact ⟨sa,sc,cs,rfl,qcm o q h1,x⟩
theorem qd2 {xs:List IsR} (h:VRIs lo W xs u) (q:Oth e W W') (h1:84≠e) (h2:3≠e):VRIs lo W' xs u:=by
 obtain ⟨sa,sc,cs,rfl,o,x⟩:=h;refine ⟨sa,sc,cs,rfl,qcm o q h1,RwX.mono x (fun x i u h=>?_)⟩;unfold isO9 at h ⊢;split at h <;> first | exact h | exact qcm h q h2
theorem qd3 {xs:List MsR} (h:VRMs lo W xs u) (q:Oth e W W') (h1:87≠e):VRMs lo W' xs u:=by
 obtain ⟨sa,sc,cs,rfl,o,x⟩:=h;exact ⟨sa,sc,cs,rfl,qcm o q h1,x⟩
end
end Go.Proofs.YtijgopkhdjaolabGreat
namespace Go.Proofs.YtijgopkhdjaolabGreat
open Go.RowKit Go.Shelf Go.Sort
open Go.Proofs.YtijgopkhdjaolabGreat.Ob (leB leV qa8 qag crc Rd RdAll qa7 Rdr)
theorem qrt {fn:Func} {m:Nat} (hf:fn.results=#[.cell m 73]) (tmps:Array Value) (b:Nat) (w:World) (z0 z1:Value) (h2:tmps[m]?=some (.pointer (some ⟨b,0,none⟩))) (hk:w.heap[b]?=some (.cells #[z0,z1] 73 (0,0))) (h1:z0.oneCell'=true∧z1.oneCell'=true):(results fn tmps).run Tryz.prog w=.ok (.agg #[z0,z1]) w:=by
 have a1:=fun i=>cell_of_row w b i _ _ (0,0) hk
 have y0:=a1 0;have y1:=a1 1;simp at y0 y1;simp [results,hf,go_sem,h2,y0,y1]
theorem qsv {w:World} {lo r:Nat} {l0:List UInt8} (t0:Rst w lo r l0) (j:Nat):Calls Tryz.prog 40 #[rdP r,I j] w fun e w'=>RP w lo r VRg (pRg l0) e w':=by
 have hlo:=t0.le;have hrl:=t0.lt;have hc0:=qcq w r;have hb1:=qa0 (w.alloc (rdO r)) (.cells #[I 0,I 0] 73);have hY0:=heap_alloc_new (w.alloc (rdO r)) (.cells #[I 0,I 0] 73);have HX:Hid (∀W,((w.alloc (rdO r)).alloc (.cells #[I 0,I 0] 73)).grownBy W (some r)→W.cell? ⟨w.heap.size,0,none⟩=some (.pointer (some ⟨r,0,none⟩))):=fun W hW=>hW.cell (by rw [qa5 hb1 _ _ (by simp)];exact hc0) (by show some w.heap.size≠some r;intro e;cases e;omega)
 have HY:Hid (∀W,((w.alloc (rdO r)).alloc (.cells #[I 0,I 0] 73)).grownBy W (some r)→W.heap[w.heap.size+1]?=some (.cells #[I 0,I 0] 73)):=fun W hW=>qb8 hW (by have:=hY0;rwa [show (w.alloc (rdO r)).heap.size=w.heap.size+1 by simp] at this) (by omega)
 have s0:=(t0.al (rdO r)).al (.cells #[I 0,I 0] 73);have HB:Hid (w.grownBy ((w.alloc (rdO r)).alloc (.cells #[I 0,I 0] 73)) (some r)):=qah ((qa0 w _).trans (hb1.mono (qa0 w _).size));have E0:Hid (pRg l0=pRg l0):=rfl;clear hc0 hb1 hY0 t0;go_enter Tryz.func40,Tryz.ntmps40
 go_upto_region 1 with fail;generalize (w.alloc (rdO r)).alloc (.cells #[I 0,I 0] 73)=w1 at *;have G0:=qah (r:=some r) (Below.refl w1.heap.size w1).drew;have HC:=HX.out w1.drew G0;refine wp_region_held_drew (S:=fun W=>W.cell? ⟨w.heap.size,0,none⟩=some (.pointer (some ⟨r,0,none⟩))) (by kernel_rfl) HC (fun hHeld=>?_);clear HC;change wpAnyH _ _ _ _ _ _ #[false,false,false,false,false,false] _ _;try simp only [qN]
 refine qTH 0 (rdP r) rfl hHeld ?_;try simp only [qN]
 refine qTH 2 (rdP r) rfl hHeld ?_;try simp only [qN]
 clear hHeld;have t0:=s0.below (Below.refl w1.heap.size w1).drew;clear s0;generalize w1.drew=W0 at *;refine qR1 (i:=1) rfl (fun K hK=>?_);go_simp;refine (qbd t0).mono ?_;intro e W1 hR;rcases hp:p1 l0 with c | ⟨p,l1⟩
 ·rw [hp] at hR
  obtain ⟨rfl,hg⟩:=qar hR;have e9:RP w lo r VRg (pRg l0) (gup c) W1:=by
   rw [E0.out];unfold pRg;rw [qaj hp];exact ⟨rfl,qa1 HB.out (qa1 G0 hg)⟩
  exact ⟨rfl,e9⟩
 rw [hp] at hR;obtain ⟨u1,rfl,hv,t1,g1⟩:=qaq hR;have q:u1=I p:=hv;subst q;have GG:=qa1 G0 g1;have EE:Hid (pRg l0=(andP p2 fun c=>retP ⟨p,c⟩) l1):=by
  show _=_;rw [E0.out];unfold pRg;rw [qa9 hp]
 skip;refine hK.out _ _ (HX.out W1 GG) (fun hSS=>?_);clear hSS hK K hR hp E0 G0 t0;have G0:=GG;have E0:=EE;clear GG EE g1;try simp only [qN]
 refine qR1 (i:=3) rfl (fun K hK=>?_);go_simp;refine (qed t1).mono ?_;intro e W2 hR;rcases hp:p2 l1 with c | ⟨c,l2⟩
 ·rw [hp] at hR
  obtain ⟨rfl,hg⟩:=qar hR;have e9:RP w lo r VRg (pRg l0) (gup c) W2:=by
   rw [E0.out];skip;rw [qaj hp];exact ⟨rfl,qa1 HB.out (qa1 G0 hg)⟩
  exact ⟨rfl,e9⟩
 rw [hp] at hR;obtain ⟨u2,rfl,hv,t2,g2⟩:=qaq hR;have q:u2=I c:=hv;subst q;have GG:=qa1 G0 g2;have EE:Hid (pRg l0=(retP ⟨p,c⟩) l2):=by
  show _=_;rw [E0.out];skip;rw [qa9 hp]
 skip;refine hK.out _ _ (HX.out W2 GG) (fun hSS=>?_);clear hSS hK K hR hp E0 G0 t1;have G0:=GG;have E0:=EE;clear GG EE g2;try simp only [qN]
 refine wpAnyH_take (i:=4) (v:=.agg #[I p,I c]) rfl (by kernel_rfl) (by kernel_rfl) (by kernel_rfl) (fun _ _ _ h=>h) (Or.inl ⟨by rfl,?_⟩) (HX.out W2 G0) ?_
 ·intro w' hSw
  try dsimp only at hSw
  go_simp
 try simp only [qN]
 have hY:=HY.out W2 G0;have cY0:(W2).cell? ⟨w.heap.size+1,0,none⟩=some (I 0):=by rw [qcr hY];rfl
 have fY0:(W2).frozen? ⟨w.heap.size+1,0,none⟩=false:=frozen_of_row _ _ _ _ _ hY;have hY0:=heap_setCell_same (W2) (w.heap.size+1) 0 _ _ (I p) hY;have cY1:((W2).setCell ⟨w.heap.size+1,0,none⟩ (I p)).cell? ⟨w.heap.size+1,1,none⟩=some (I 0):=by rw [qcr hY0];rfl
 have fY1:((W2).setCell ⟨w.heap.size+1,0,none⟩ (I p)).frozen? ⟨w.heap.size+1,1,none⟩=false:=frozen_of_row _ _ _ _ _ hY0;have hY1:=heap_setCell_same ((W2).setCell ⟨w.heap.size+1,0,none⟩ (I p)) (w.heap.size+1) 1 _ _ (I c) hY0;refine qR1 (i:=5) rfl (fun K hK=>?_);go_simp;have hSf:(qS2 W2 (w.heap.size+1) (I p) (I c)).cell? ⟨w.heap.size,0,none⟩=some (.pointer (some ⟨r,0,none⟩)):=by
  have hz:=HX.out W2 G0;repeat rw [World.cell?_setCell_far _ _ _ _ (by show w.heap.size+1≠w.heap.size;omega)]
  exact hz
 refine hK.out _ _ hSf (fun hSS=>?_);clear hSS hK K;try simp only [qN]
 refine wpAnyH_done (by kernel_rfl) ?_ _;have hYL:(qS2 W2 (w.heap.size+1) (I p) (I c)).heap[w.heap.size+1]?=some (.cells #[I p,I c] 73):=hY1;have hEnd:RP w lo r VRg (pRg l0) (.returned (.agg #[I p,I c])) (qS2 W2 (w.heap.size+1) (I p) (I c)):=by
  rw [E0.out];skip;refine ⟨_,rfl,rfl,((t2.setY (by omega)).setY (by omega)),(qae (qae (qa1 HB.out G0) (by omega)) (by omega))⟩
 clear E0;go_wp2;refine bodyPost_ret (qrt Tryz.results40 _ (w.heap.size+1) _ _ _ rfl hYL ⟨rfl,rfl⟩) rfl ?_;exact hEnd
theorem qru {fn:Func} {m:Nat} (hf:fn.results=#[.cell m 77]) (tmps:Array Value) (b:Nat) (w:World) (z0 z1 z2:Value) (h2:tmps[m]?=some (.pointer (some ⟨b,0,none⟩))) (hk:w.heap[b]?=some (.cells #[z0,z1,z2] 77 (0,0))) (h1:z0.oneCell'=true∧z1.oneCell'=true∧z2.oneCell'=true):(results fn tmps).run Tryz.prog w=.ok (.agg #[z0,z1,z2]) w:=by
 have a1:=fun i=>cell_of_row w b i _ _ (0,0) hk
 have y0:=a1 0;have y1:=a1 1;have y2:=a1 2;simp at y0 y1 y2;simp [results,hf,go_sem,h2,y0,y1,y2]
theorem qsw {w:World} {lo r:Nat} {l0:List UInt8} (t0:Rst w lo r l0) (j:Nat):Calls Tryz.prog 44 #[rdP r,I j] w fun e w'=>RP w lo r VCt (pCt l0) e w':=by
 have hlo:=t0.le;have hrl:=t0.lt;have hc0:=qcq w r;have hb1:=qa0 (w.alloc (rdO r)) (.cells #[.int .u32 0,.int .u32 0,.int .u32 0] 77);have hY0:=heap_alloc_new (w.alloc (rdO r)) (.cells #[.int .u32 0,.int .u32 0,.int .u32 0] 77);have HX:Hid (∀W,((w.alloc (rdO r)).alloc (.cells #[.int .u32 0,.int .u32 0,.int .u32 0] 77)).grownBy W (some r)→W.cell? ⟨w.heap.size,0,none⟩=some (.pointer (some ⟨r,0,none⟩))):=fun W hW=>hW.cell (by rw [qa5 hb1 _ _ (by simp)];exact hc0) (by show some w.heap.size≠some r;intro e;cases e;omega)
 have HY:Hid (∀W,((w.alloc (rdO r)).alloc (.cells #[.int .u32 0,.int .u32 0,.int .u32 0] 77)).grownBy W (some r)→W.heap[w.heap.size+1]?=some (.cells #[.int .u32 0,.int .u32 0,.int .u32 0] 77)):=fun W hW=>qb8 hW (by have:=hY0;rwa [show (w.alloc (rdO r)).heap.size=w.heap.size+1 by simp] at this) (by omega)
 have s0:=(t0.al (rdO r)).al (.cells #[.int .u32 0,.int .u32 0,.int .u32 0] 77);have HB:Hid (w.grownBy ((w.alloc (rdO r)).alloc (.cells #[.int .u32 0,.int .u32 0,.int .u32 0] 77)) (some r)):=qah ((qa0 w _).trans (hb1.mono (qa0 w _).size));have E0:Hid (pCt l0=pCt l0):=rfl;clear hc0 hb1 hY0 t0;go_enter Tryz.func44,Tryz.ntmps44
 go_upto_region 1 with fail;generalize (w.alloc (rdO r)).alloc (.cells #[.int .u32 0,.int .u32 0,.int .u32 0] 77)=w1 at *;have G0:=qah (r:=some r) (Below.refl w1.heap.size w1).drew;have HC:=HX.out w1.drew G0;refine wp_region_held_drew (S:=fun W=>W.cell? ⟨w.heap.size,0,none⟩=some (.pointer (some ⟨r,0,none⟩))) (by kernel_rfl) HC (fun hHeld=>?_);clear HC;change wpAnyH _ _ _ _ _ _ #[false,false,false,false,false,false,false,false] _ _;try simp only [qN]
 refine qTH 0 (rdP r) rfl hHeld ?_;try simp only [qN]
 refine qTH 2 (rdP r) rfl hHeld ?_;try simp only [qN]
 refine qTH 4 (rdP r) rfl hHeld ?_;try simp only [qN]
 clear hHeld;have t0:=s0.below (Below.refl w1.heap.size w1).drew;clear s0;generalize w1.drew=W0 at *;refine qR1 (i:=1) rfl (fun K hK=>?_);go_simp;refine (qe4 t0).mono ?_;intro e W1 hR;rcases hp:pn 4 l0 with c | ⟨a,l1⟩
 ·rw [hp] at hR
  obtain ⟨rfl,hg⟩:=qar hR;have e9:RP w lo r VCt (pCt l0) (gup c) W1:=by
   rw [E0.out];unfold pCt;rw [qaj hp];exact ⟨rfl,qa1 HB.out (qa1 G0 hg)⟩
  exact ⟨rfl,e9⟩
 rw [hp] at hR;obtain ⟨u1,rfl,hv,t1,g1⟩:=qaq hR;have q:u1=.int .u32 (a:Int):=hv;subst q;have GG:=qa1 G0 g1;have EE:Hid (pCt l0=(andP (pn 4) fun b=>andP (pn 4) fun c=>retP ⟨a,b,c⟩) l1):=by
  show _=_;rw [E0.out];unfold pCt;rw [qa9 hp]
 skip;refine hK.out _ _ (HX.out W1 GG) (fun hSS=>?_);clear hSS hK K hR hp E0 G0 t0;have G0:=GG;have E0:=EE;clear GG EE g1;try simp only [qN]
 refine qR1 (i:=3) rfl (fun K hK=>?_);go_simp;refine (qe4 t1).mono ?_;intro e W2 hR;rcases hp:pn 4 l1 with c | ⟨b,l2⟩
 ·rw [hp] at hR
  obtain ⟨rfl,hg⟩:=qar hR;have e9:RP w lo r VCt (pCt l0) (gup c) W2:=by
   rw [E0.out];skip;rw [qaj hp];exact ⟨rfl,qa1 HB.out (qa1 G0 hg)⟩
  exact ⟨rfl,e9⟩
 rw [hp] at hR;obtain ⟨u2,rfl,hv,t2,g2⟩:=qaq hR;have q:u2=.int .u32 (b:Int):=hv;subst q;have GG:=qa1 G0 g2;have EE:Hid (pCt l0=(andP (pn 4) fun c=>retP ⟨a,b,c⟩) l2):=by
  show _=_;rw [E0.out];skip;rw [qa9 hp]
 skip;refine hK.out _ _ (HX.out W2 GG) (fun hSS=>?_);clear hSS hK K hR hp E0 G0 t1;have G0:=GG;have E0:=EE;clear GG EE g2;try simp only [qN]
 refine qR1 (i:=5) rfl (fun K hK=>?_);go_simp;refine (qe4 t2).mono ?_;intro e W3 hR;rcases hp:pn 4 l2 with c | ⟨c,l3⟩
 ·rw [hp] at hR
  obtain ⟨rfl,hg⟩:=qar hR;have e9:RP w lo r VCt (pCt l0) (gup c) W3:=by
   rw [E0.out];skip;rw [qaj hp];exact ⟨rfl,qa1 HB.out (qa1 G0 hg)⟩
  exact ⟨rfl,e9⟩
 rw [hp] at hR;obtain ⟨u3,rfl,hv,t3,g3⟩:=qaq hR;have q:u3=.int .u32 (c:Int):=hv;subst q;have GG:=qa1 G0 g3;have EE:Hid (pCt l0=(retP ⟨a,b,c⟩) l3):=by
  show _=_;rw [E0.out];skip;rw [qa9 hp]
 skip;refine hK.out _ _ (HX.out W3 GG) (fun hSS=>?_);clear hSS hK K hR hp E0 G0 t2;have G0:=GG;have E0:=EE;clear GG EE g3;try simp only [qN]
 refine wpAnyH_take (i:=6) (v:=.agg #[.int .u32 (a:Int),.int .u32 (b:Int),.int .u32 (c:Int)]) rfl (by kernel_rfl) (by kernel_rfl) (by kernel_rfl) (fun _ _ _ h=>h) (Or.inl ⟨by rfl,?_⟩) (HX.out W3 G0) ?_
 ·intro w' hSw
  try dsimp only at hSw
  go_simp
 try simp only [qN]
 have hY:=HY.out W3 G0;have cY0:(W3).cell? ⟨w.heap.size+1,0,none⟩=some (.int .u32 0):=by rw [qcr hY];rfl
 have fY0:(W3).frozen? ⟨w.heap.size+1,0,none⟩=false:=frozen_of_row _ _ _ _ _ hY;have hY0:=heap_setCell_same (W3) (w.heap.size+1) 0 _ _ (.int .u32 (a:Int)) hY;have cY1:((W3).setCell ⟨w.heap.size+1,0,none⟩ (.int .u32 (a:Int))).cell? ⟨w.heap.size+1,1,none⟩=some (.int .u32 0):=by rw [qcr hY0];rfl
 have fY1:((W3).setCell ⟨w.heap.size+1,0,none⟩ (.int .u32 (a:Int))).frozen? ⟨w.heap.size+1,1,none⟩=false:=frozen_of_row _ _ _ _ _ hY0;have hY1:=heap_setCell_same ((W3).setCell ⟨w.heap.size+1,0,none⟩ (.int .u32 (a:Int))) (w.heap.size+1) 1 _ _ (.int .u32 (b:Int)) hY0;have cY2:(qS2 W3 (w.heap.size+1) (.int .u32 (a:Int)) (.int .u32 (b:Int))).cell? ⟨w.heap.size+1,2,none⟩=some (.int .u32 0):=by rw [qcr hY1];rfl
 have fY2:(qS2 W3 (w.heap.size+1) (.int .u32 (a:Int)) (.int .u32 (b:Int))).frozen? ⟨w.heap.size+1,2,none⟩=false:=frozen_of_row _ _ _ _ _ hY1;have hY2:=heap_setCell_same (qS2 W3 (w.heap.size+1) (.int .u32 (a:Int)) (.int .u32 (b:Int))) (w.heap.size+1) 2 _ _ (.int .u32 (c:Int)) hY1;refine qR1 (i:=7) rfl (fun K hK=>?_);go_simp;have hSf:(qS3 W3 (w.heap.size+1) (.int .u32 (a:Int)) (.int .u32 (b:Int)) (.int .u32 (c:Int))).cell? ⟨w.heap.size,0,none⟩=some (.pointer (some ⟨r,0,none⟩)):=by
  have hz:=HX.out W3 G0;repeat rw [World.cell?_setCell_far _ _ _ _ (by show w.heap.size+1≠w.heap.size;omega)]
  exact hz
 refine hK.out _ _ hSf (fun hSS=>?_);clear hSS hK K;try simp only [qN]
 refine wpAnyH_done (by kernel_rfl) ?_ _;have hYL:(qS3 W3 (w.heap.size+1) (.int .u32 (a:Int)) (.int .u32 (b:Int)) (.int .u32 (c:Int))).heap[w.heap.size+1]?=some (.cells #[.int .u32 (a:Int),.int .u32 (b:Int),.int .u32 (c:Int)] 77):=hY2;have hEnd:RP w lo r VCt (pCt l0) (.returned (.agg #[.int .u32 (a:Int),.int .u32 (b:Int),.int .u32 (c:Int)])) (qS3 W3 (w.heap.size+1) (.int .u32 (a:Int)) (.int .u32 (b:Int)) (.int .u32 (c:Int))):=by
  rw [E0.out];skip;refine ⟨_,rfl,rfl,(((t3.setY (by omega)).setY (by omega)).setY (by omega)),(qae (qae (qae (qa1 HB.out G0) (by omega)) (by omega)) (by omega))⟩
 clear E0;go_wp2;refine bodyPost_ret (qru Tryz.results44 _ (w.heap.size+1) _ _ _ _ rfl hYL ⟨rfl,rfl,rfl⟩) rfl ?_;exact hEnd
end Go.Proofs.YtijgopkhdjaolabGreat
