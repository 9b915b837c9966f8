import Derived.Test.YtijgopkhdjaolaaGreatXHr3
namespace Go.Proofs.YtijgopkhdjaolaaGreat
open Go.RowKit Go.Shelf Go.Sort
open Go.Proofs.YtijgopkhdjaolaaGreat.Ob (leB leV qa8 qaj crc Rd RdAll qa9 Rdr)
set_option linter.unusedSimpArgs false
set_option linter.unusedVariables false
set_option maxHeartbeats 16000000
set_option maxRecDepth 100000
def VTk (lo:Nat) (W:World) (x:TkR) (u:Value):Prop:=∃(sa:Option Addr) (sc:Nat),u=.agg #[I x.prio,I x.ring,.bool x.full,I x.limit,(qU x.mask),I x.inner,.slice sa x.own.length sc,(qU x.auto)]∧qbz W lo x.own (.slice sa x.own.length sc)
def VRTk (lo:Nat) (W:World) (xs:List TkR) (u:Value):Prop:=∃(sa:Option Addr) (sc:Nat) (cs:List Value),u=.slice sa xs.length sc∧W.ownsRow lo 61 8 (.slice sa xs.length sc) xs.length cs∧RwX 8 (tkO9 W lo) xs cs
theorem qj0 : (Tryz.prog.info? 61).map (fun i=>(i.zero,i.size,i.bytes))=some (some (.agg #[I 0,I 0,.bool false,I 0,.int .u32 0,I 0,qZ,.int .u32 0]:Value),8,80):=by kernel_rfl
theorem ql5 {w:World} {lo r:Nat} {l:List UInt8} (n:Nat) (hn:n≤65535) (h:Rst w lo r l) (f:Nat) (bnd caps:Array Value) (eg:∀args W,(callFunc f args).run Tryz.prog W=.ok (.enter f args) W)
  (hf:∀(W:World) (l':List UInt8) (j:Nat),w.grownBy W (some r)→Rst W lo r l'→j < n→Calls Tryz.prog f (bnd++#[I j]++caps) W fun e w'=>RP W lo r (VTk lo) (pTk l') e w') :
  Calls Tryz.prog 105 #[I n,.func (.func f) bnd caps] w fun e w'=>RP w lo r (VRTk lo) (qa4 pTk n l) e w':=by
 obtain ⟨im,him,hm0,hm1,hm2⟩:=info_parts qj0
 have HF:Hid (∀(W:World) (l':List UInt8) (j:Nat),w.grownBy W (some r)→Rst W lo r l'→j < n→Calls Tryz.prog f (bnd++#[I j]++caps) W fun e w'=>RP W lo r (VTk lo) (pTk l') e w'):=hf
 have hlo:lo≤w.heap.size:=h.le
 have hrl:r < lo:=h.lt
 have HI:Hid (∃(xs:List TkR) (l':List UInt8) (cs:List Value),xs.length=0∧qa4 pTk n l=conP xs (qa4 pTk (n - 0) l')∧Rst w lo r l'∧w.grownBy w (some r)∧w.ownsRow w.heap.size 61 8 qZ 0 cs∧RwX 8 (tkO9 w lo) xs cs):=⟨[],l,[],rfl,(qcw _).symm,h,qbx _ _,World.ownsRow_nil _ _ _ _,RwX.nil _ _⟩
 clear hf h
 go_enter Tryz.func105,Tryz.ntmps105
 go_wp2
 go_loopw [5,6,8] (fun v5 _ v8 wr=>∃(j:Nat) (va:Option Addr) (vc:Nat),j≤n∧v8=I j∧v5=.slice va j vc∧Hid (∃(xs:List TkR) (l':List UInt8) (cs:List Value),xs.length=j∧qa4 pTk n l=conP xs (qa4 pTk (n - j) l')∧Rst wr lo r l'∧w.grownBy wr (some r)∧wr.ownsRow w.heap.size 61 8 v5 j cs∧RwX 8 (tkO9 wr lo) xs cs)) (fun _ _ v8 _=>n - (intOf v8).toNat)
 case atStart=>exact ⟨0,none,0,by omega,rfl,rfl,HI.out⟩
 case round=>
  clear HI
  obtain ⟨j,va,vc,hj,rfl,rfl,HJ⟩:=hrel
  obtain ⟨xs,l1,cs,g1,g2,g3,g4,g5,g6⟩:=HJ.out
  by_cases hlt:j < n
  ·have hlt':(j:Int) < n:=by omega
   have cx:=HF.out wr l1 j g4 g3 hlt
   have H1:Hid (xs.length=j∧qa4 pTk n l=conP xs (qa4 pTk (n - (j+1)+1) l1)∧w.grownBy wr (some r)∧wr.ownsRow w.heap.size 61 8 (.slice va j vc) j cs∧RwX 8 (tkO9 wr lo) xs cs):=⟨g1,by rw [g2,show n - j=n - (j+1)+1 by omega],g4,g5,g6⟩
   clear HJ g1 g2 g3 g4 g5 g6
   go_wp2
   refine cx.mono ?_
   clear cx
   intro e7 w7 h7
   cases hp:pTk l1 with
   | error c=>
    rw [hp] at h7
    obtain ⟨rfl,hg7⟩:=qap h7
    have e1:qa4 pTk n l=.error c:=H1.out.2.1.trans (qd8 xs hp)
    have e2:=qa1 H1.out.2.2.1 hg7
    have e9:RP w lo r (VRTk lo) (qa4 pTk n l) (gup c) w7:=by rw [e1];exact ⟨rfl,e2⟩
    exact ⟨rfl,e9⟩
   | ok q=>
    obtain ⟨x,l2⟩:=q
    rw [hp] at h7
    obtain ⟨u,rfl,hv,hr7,hg7⟩:=qao h7
    obtain ⟨sa,sc,rfl,hmm⟩:=hv
    have e1:=H1.out.2.1.trans (qd9 xs hp)
    have o7:=qaz H1.out.2.2.2.1 (by omega) hg7
    have hO:=o7.alloc (.cells #[I x.prio,I x.ring,.bool x.full,I x.limit,(qU x.mask),I x.inner,.slice sa x.own.length sc,(qU x.auto)] 61)
    have hw7:w.heap.size≤w7.heap.size:=Nat.le_trans H1.out.2.2.1.size hg7.size
    have hsz:w.heap.size≤(w7.alloc (.cells #[I x.prio,I x.ring,.bool x.full,I x.limit,(qU x.mask),I x.inner,.slice sa x.own.length sc,(qU x.auto)] 61)).heap.size:=Nat.le_trans hw7 (qa0 w7 _).size
    have hnew:=qb3 w7 #[I x.prio,I x.ring,.bool x.full,I x.limit,(qU x.mask),I x.inner,.slice sa x.own.length sc,(qU x.auto)] 61
    have hone:∀u∈(#[I x.prio,I x.ring,.bool x.full,I x.limit,(qU x.mask),I x.inner,.slice sa x.own.length sc,(qU x.auto)]:Array Value).toList,u.oneCell'=true:=by
     intro u hu
     simp only [List.mem_cons,List.not_mem_nil,or_false] at hu
     rcases hu with rfl | rfl | rfl | rfl | rfl | rfl | rfl | rfl <;> rfl
    have HE:Hid (xs.length=j∧qa4 pTk n l=conP (xs++[x]) (qa4 pTk (n - (j+1)) l2)∧Rst w7 lo r l2∧w.grownBy w7 (some r)∧RwX 8 (tkO9 w7 lo) xs cs∧w7.ownsRow w.heap.size 61 8 (.slice va j vc) j cs∧qbz w7 lo x.own (.slice sa x.own.length sc)):=⟨H1.out.1,e1,hr7,qa1 H1.out.2.2.1 hg7,RwX.mono H1.out.2.2.2.2 (fun x i u h=>qmi h hrl hg7),o7,hmm⟩
    clear H1 h7 hp hmm hr7 hg7 e1 o7 HF
    go_wp2_with (first
     | (at_builtin;refine wpList_append_own _ rfl (.tmp 11) (.tmp 15) 22 rfl w.heap.size 61 im _ 8 80 Tryz.underlying22 him hm0 hm1 hm2 rfl (by decide) _ _ _ rfl hO ⟨w7.heap.size,0,none⟩ 1 1 (#[I x.prio,I x.ring,.bool x.full,I x.limit,(qU x.mask),I x.inner,.slice sa x.own.length sc,(qU x.auto)]:Array Value).toList rfl rfl hnew hone (by unfold maxLen;omega) (by omega) hsz ?_;intro v6 w6 ho6 hg6 _;obtain ⟨a6,c6,rfl⟩:=qah ho6))
    have H9:Hid (∃(xs:List TkR) (l':List UInt8) (cs:List Value),xs.length=j+1∧qa4 pTk n l=conP xs (qa4 pTk (n - (j+1)) l')∧Rst w6 lo r l'∧w.grownBy w6 (some r)∧w6.ownsRow w.heap.size 61 8 (.slice a6 (j+1) c6) (j+1) cs∧RwX 8 (tkO9 w6 lo) xs cs):=by
     obtain ⟨f1,f2,f3,f4,f5,f6,f7⟩:=HE.out
     have hoth:∀b,b < w.heap.size→w6.heap[b]?=w7.heap[b]?:=fun b hb=>by
      rw [hg6.block b (by omega) (fun e=>by have:=(hO.lt b e.symm).1;omega)]
      exact heap_alloc_old w7 _ (by omega)
     have hs67:w7.heap.size≤w6.heap.size:=Nat.le_trans (qa0 w7 _).size hg6.size
     refine ⟨xs++[x],l2,cs++(#[I x.prio,I x.ring,.bool x.full,I x.limit,(qU x.mask),I x.inner,.slice sa x.own.length sc,(qU x.auto)]:Array Value).toList,by simp [f1],f2,f3.keep (fun b hb=>hoth b (by omega)) hs67,⟨?_,?_,?_,by omega,fun b hb hne=>(hoth b hb).trans (f4.block b hb hne)⟩,ho6,?_⟩
     ·exact (hg6.os.trans (show _=w7.os from rfl)).trans f4.os
     ·exact (hg6.tape.trans (show _=w7.tape from rfl)).trans f4.tape
     ·exact (hg6.output.trans (show _=w7.output from rfl)).trans f4.output
     ·refine RwX.snoc (RwX.mono f5 (fun x i u h=>qgf (qdt h (qa0 w7 _)) hO hg6)) x _ rfl (fun i hi=>?_)
      match i,hi with
      | 0,_=>exact ⟨_,rfl,rfl⟩
      | 1,_=>exact ⟨_,rfl,rfl⟩
      | 2,_=>exact ⟨_,rfl,rfl⟩
      | 3,_=>exact ⟨_,rfl,rfl⟩
      | 4,_=>exact ⟨_,rfl,rfl⟩
      | 5,_=>exact ⟨_,rfl,rfl⟩
      | 6,_=>exact ⟨_,rfl,qc3 (qcg f7 (qa0 w7 _)) hO hg6 (by decide)⟩
      | 7,_=>exact ⟨_,rfl,rfl⟩
    clear HE ho6 hg6 hO hnew hone hsz hw7
    go_wp2
    go_roundw
    case rel=>exact ⟨j+1,a6,c6,by omega,by go_num,rfl,H9.out⟩
    case measure=>simp [intOf];omega
  ·obtain rfl:j=n:=by omega
   have hge:¬((j:Int) < j):=by omega
   have HE:Hid (RP w lo r (VRTk lo) (qa4 pTk j l) (.returned (.slice va j vc)) wr):=by
    have e1:qa4 pTk j l=.ok (xs,l1):=by rw [g2,Nat.sub_self];simp [qa4,conP,retP]
    rw [e1]
    refine ⟨_,rfl,⟨va,vc,cs,by rw [g1],?_,g6⟩,g3,g4⟩
    rw [g1]
    exact qay g5 hlo
   clear HJ HF g1 g2 g3 g4 g5 g6
   go_wp2
   go_ret
   exact HE.out
def VRg (_:World) (x:RgR) (u:Value):Prop:=u=.agg #[I x.prio,I x.cap]
def VRRg (lo:Nat) (W:World) (xs:List RgR) (u:Value):Prop:=∃(sa:Option Addr) (sc:Nat) (cs:List Value),u=.slice sa xs.length sc∧W.ownsRow lo 63 2 (.slice sa xs.length sc) xs.length cs∧RwX 2 rgrP xs cs
theorem qj1 : (Tryz.prog.info? 63).map (fun i=>(i.zero,i.size,i.bytes))=some (some (.agg #[I 0,I 0]:Value),2,16):=by kernel_rfl
theorem ql6 {w:World} {lo r:Nat} {l:List UInt8} (n:Nat) (hn:n≤65535) (h:Rst w lo r l) (f:Nat) (bnd caps:Array Value) (eg:∀args W,(callFunc f args).run Tryz.prog W=.ok (.enter f args) W)
  (hf:∀(W:World) (l':List UInt8) (j:Nat),w.grownBy W (some r)→Rst W lo r l'→j < n→Calls Tryz.prog f (bnd++#[I j]++caps) W fun e w'=>RP W lo r VRg (pRg l') e w') :
  Calls Tryz.prog 107 #[I n,.func (.func f) bnd caps] w fun e w'=>RP w lo r (VRRg lo) (qa4 pRg n l) e w':=by
 obtain ⟨im,him,hm0,hm1,hm2⟩:=info_parts qj1
 have HF:Hid (∀(W:World) (l':List UInt8) (j:Nat),w.grownBy W (some r)→Rst W lo r l'→j < n→Calls Tryz.prog f (bnd++#[I j]++caps) W fun e w'=>RP W lo r VRg (pRg l') e w'):=hf
 have hlo:lo≤w.heap.size:=h.le
 have hrl:r < lo:=h.lt
 have HI:Hid (∃(xs:List RgR) (l':List UInt8) (cs:List Value),xs.length=0∧qa4 pRg n l=conP xs (qa4 pRg (n - 0) l')∧Rst w lo r l'∧w.grownBy w (some r)∧w.ownsRow w.heap.size 63 2 qZ 0 cs∧RwX 2 rgrP xs cs):=⟨[],l,[],rfl,(qcw _).symm,h,qbx _ _,World.ownsRow_nil _ _ _ _,RwX.nil _ _⟩
 clear hf h
 go_enter Tryz.func107,Tryz.ntmps107
 go_wp2
 go_loopw [5,6,8] (fun v5 _ v8 wr=>∃(j:Nat) (va:Option Addr) (vc:Nat),j≤n∧v8=I j∧v5=.slice va j vc∧Hid (∃(xs:List RgR) (l':List UInt8) (cs:List Value),xs.length=j∧qa4 pRg n l=conP xs (qa4 pRg (n - j) l')∧Rst wr lo r l'∧w.grownBy wr (some r)∧wr.ownsRow w.heap.size 63 2 v5 j cs∧RwX 2 rgrP xs cs)) (fun _ _ v8 _=>n - (intOf v8).toNat)
 case atStart=>exact ⟨0,none,0,by omega,rfl,rfl,HI.out⟩
 case round=>
  clear HI
  obtain ⟨j,va,vc,hj,rfl,rfl,HJ⟩:=hrel
  obtain ⟨xs,l1,cs,g1,g2,g3,g4,g5,g6⟩:=HJ.out
  by_cases hlt:j < n
  ·have hlt':(j:Int) < n:=by omega
   have cx:=HF.out wr l1 j g4 g3 hlt
   have H1:Hid (xs.length=j∧qa4 pRg n l=conP xs (qa4 pRg (n - (j+1)+1) l1)∧w.grownBy wr (some r)∧wr.ownsRow w.heap.size 63 2 (.slice va j vc) j cs∧RwX 2 rgrP xs cs):=⟨g1,by rw [g2,show n - j=n - (j+1)+1 by omega],g4,g5,g6⟩
   clear HJ g1 g2 g3 g4 g5 g6
   go_wp2
   refine cx.mono ?_
   clear cx
   intro e7 w7 h7
   cases hp:pRg l1 with
   | error c=>
    rw [hp] at h7
    obtain ⟨rfl,hg7⟩:=qap h7
    have e1:qa4 pRg n l=.error c:=H1.out.2.1.trans (qd8 xs hp)
    have e2:=qa1 H1.out.2.2.1 hg7
    have e9:RP w lo r (VRRg lo) (qa4 pRg n l) (gup c) w7:=by rw [e1];exact ⟨rfl,e2⟩
    exact ⟨rfl,e9⟩
   | ok q=>
    obtain ⟨x,l2⟩:=q
    rw [hp] at h7
    obtain ⟨u,rfl,hv,hr7,hg7⟩:=qao h7
    have hv1:u=.agg #[I x.prio,I x.cap]:=hv
    subst hv1
    have e1:=H1.out.2.1.trans (qd9 xs hp)
    have o7:=qaz H1.out.2.2.2.1 (by omega) hg7
    have hO:=o7.alloc (.cells #[I x.prio,I x.cap] 63)
    have hw7:w.heap.size≤w7.heap.size:=Nat.le_trans H1.out.2.2.1.size hg7.size
    have hsz:w.heap.size≤(w7.alloc (.cells #[I x.prio,I x.cap] 63)).heap.size:=Nat.le_trans hw7 (qa0 w7 _).size
    have hnew:=qb3 w7 #[I x.prio,I x.cap] 63
    have hone:∀u∈(#[I x.prio,I x.cap]:Array Value).toList,u.oneCell'=true:=by
     intro u hu
     simp only [List.mem_cons,List.not_mem_nil,or_false] at hu
     rcases hu with rfl | rfl <;> rfl
    have HE:Hid (xs.length=j∧qa4 pRg n l=conP (xs++[x]) (qa4 pRg (n - (j+1)) l2)∧Rst w7 lo r l2∧w.grownBy w7 (some r)∧RwX 2 rgrP xs cs∧w7.ownsRow w.heap.size 63 2 (.slice va j vc) j cs):=⟨H1.out.1,e1,hr7,qa1 H1.out.2.2.1 hg7,H1.out.2.2.2.2,o7⟩
    clear H1 h7 hp hr7 hg7 e1 o7 HF
    go_wp2_with (first
     | (at_builtin;refine wpList_append_own _ rfl (.tmp 11) (.tmp 15) 23 rfl w.heap.size 63 im _ 2 16 Tryz.underlying23 him hm0 hm1 hm2 rfl (by decide) _ _ _ rfl hO ⟨w7.heap.size,0,none⟩ 1 1 (#[I x.prio,I x.cap]:Array Value).toList rfl rfl hnew hone (by unfold maxLen;omega) (by omega) hsz ?_;intro v6 w6 ho6 hg6 _;obtain ⟨a6,c6,rfl⟩:=qah ho6))
    have H9:Hid (∃(xs:List RgR) (l':List UInt8) (cs:List Value),xs.length=j+1∧qa4 pRg n l=conP xs (qa4 pRg (n - (j+1)) l')∧Rst w6 lo r l'∧w.grownBy w6 (some r)∧w6.ownsRow w.heap.size 63 2 (.slice a6 (j+1) c6) (j+1) cs∧RwX 2 rgrP xs cs):=by
     obtain ⟨f1,f2,f3,f4,f5,f6⟩:=HE.out
     have hoth:∀b,b < w.heap.size→w6.heap[b]?=w7.heap[b]?:=fun b hb=>by
      rw [hg6.block b (by omega) (fun e=>by have:=(hO.lt b e.symm).1;omega)]
      exact heap_alloc_old w7 _ (by omega)
     have hs67:w7.heap.size≤w6.heap.size:=Nat.le_trans (qa0 w7 _).size hg6.size
     refine ⟨xs++[x],l2,cs++(#[I x.prio,I x.cap]:Array Value).toList,by simp [f1],f2,f3.keep (fun b hb=>hoth b (by omega)) hs67,⟨?_,?_,?_,by omega,fun b hb hne=>(hoth b hb).trans (f4.block b hb hne)⟩,ho6,?_⟩
     ·exact (hg6.os.trans (show _=w7.os from rfl)).trans f4.os
     ·exact (hg6.tape.trans (show _=w7.tape from rfl)).trans f4.tape
     ·exact (hg6.output.trans (show _=w7.output from rfl)).trans f4.output
     ·refine RwX.snoc f5 x _ rfl (fun i hi=>?_)
      match i,hi with
      | 0,_=>exact ⟨_,rfl,rfl⟩
      | 1,_=>exact ⟨_,rfl,rfl⟩
    clear HE ho6 hg6 hO hnew hone hsz hw7
    go_wp2
    go_roundw
    case rel=>exact ⟨j+1,a6,c6,by omega,by go_num,rfl,H9.out⟩
    case measure=>simp [intOf];omega
  ·obtain rfl:j=n:=by omega
   have hge:¬((j:Int) < j):=by omega
   have HE:Hid (RP w lo r (VRRg lo) (qa4 pRg j l) (.returned (.slice va j vc)) wr):=by
    have e1:qa4 pRg j l=.ok (xs,l1):=by rw [g2,Nat.sub_self];simp [qa4,conP,retP]
    rw [e1]
    refine ⟨_,rfl,⟨va,vc,cs,by rw [g1],?_,g6⟩,g3,g4⟩
    rw [g1]
    exact qay g5 hlo
   clear HJ HF g1 g2 g3 g4 g5 g6
   go_wp2
   go_ret
   exact HE.out
def VRs (_:World) (x:RsR) (u:Value):Prop:=u=.agg #[.bool x.inner,I x.ceil]
def VRRs (lo:Nat) (W:World) (xs:List RsR) (u:Value):Prop:=∃(sa:Option Addr) (sc:Nat) (cs:List Value),u=.slice sa xs.length sc∧W.ownsRow lo 78 2 (.slice sa xs.length sc) xs.length cs∧RwX 2 rsrP xs cs
theorem qmm : (Tryz.prog.info? 78).map (fun i=>(i.zero,i.size,i.bytes))=some (some (.agg #[.bool false,I 0]:Value),2,16):=by kernel_rfl
theorem ql7 {w:World} {lo r:Nat} {l:List UInt8} (n:Nat) (hn:n≤65535) (h:Rst w lo r l) (f:Nat) (bnd caps:Array Value) (eg:∀args W,(callFunc f args).run Tryz.prog W=.ok (.enter f args) W)
  (hf:∀(W:World) (l':List UInt8) (j:Nat),w.grownBy W (some r)→Rst W lo r l'→j < n→Calls Tryz.prog f (bnd++#[I j]++caps) W fun e w'=>RP W lo r VRs (pRs l') e w') :
  Calls Tryz.prog 109 #[I n,.func (.func f) bnd caps] w fun e w'=>RP w lo r (VRRs lo) (qa4 pRs n l) e w':=by
 obtain ⟨im,him,hm0,hm1,hm2⟩:=info_parts qmm
 have HF:Hid (∀(W:World) (l':List UInt8) (j:Nat),w.grownBy W (some r)→Rst W lo r l'→j < n→Calls Tryz.prog f (bnd++#[I j]++caps) W fun e w'=>RP W lo r VRs (pRs l') e w'):=hf
 have hlo:lo≤w.heap.size:=h.le
 have hrl:r < lo:=h.lt
 have HI:Hid (∃(xs:List RsR) (l':List UInt8) (cs:List Value),xs.length=0∧qa4 pRs n l=conP xs (qa4 pRs (n - 0) l')∧Rst w lo r l'∧w.grownBy w (some r)∧w.ownsRow w.heap.size 78 2 qZ 0 cs∧RwX 2 rsrP xs cs):=⟨[],l,[],rfl,(qcw _).symm,h,qbx _ _,World.ownsRow_nil _ _ _ _,RwX.nil _ _⟩
 clear hf h
 go_enter Tryz.func109,Tryz.ntmps109
 go_wp2
 go_loopw [5,6,8] (fun v5 _ v8 wr=>∃(j:Nat) (va:Option Addr) (vc:Nat),j≤n∧v8=I j∧v5=.slice va j vc∧Hid (∃(xs:List RsR) (l':List UInt8) (cs:List Value),xs.length=j∧qa4 pRs n l=conP xs (qa4 pRs (n - j) l')∧Rst wr lo r l'∧w.grownBy wr (some r)∧wr.ownsRow w.heap.size 78 2 v5 j cs∧RwX 2 rsrP xs cs)) (fun _ _ v8 _=>n - (intOf v8).toNat)
 case atStart=>exact ⟨0,none,0,by omega,rfl,rfl,HI.out⟩
 case round=>
  clear HI
  obtain ⟨j,va,vc,hj,rfl,rfl,HJ⟩:=hrel
  obtain ⟨xs,l1,cs,g1,g2,g3,g4,g5,g6⟩:=HJ.out
  by_cases hlt:j < n
  ·have hlt':(j:Int) < n:=by omega
   have cx:=HF.out wr l1 j g4 g3 hlt
   have H1:Hid (xs.length=j∧qa4 pRs n l=conP xs (qa4 pRs (n - (j+1)+1) l1)∧w.grownBy wr (some r)∧wr.ownsRow w.heap.size 78 2 (.slice va j vc) j cs∧RwX 2 rsrP xs cs):=⟨g1,by rw [g2,show n - j=n - (j+1)+1 by omega],g4,g5,g6⟩
   clear HJ g1 g2 g3 g4 g5 g6
   go_wp2
   refine cx.mono ?_
   clear cx
   intro e7 w7 h7
   cases hp:pRs l1 with
   | error c=>
    rw [hp] at h7
    obtain ⟨rfl,hg7⟩:=qap h7
    have e1:qa4 pRs n l=.error c:=H1.out.2.1.trans (qd8 xs hp)
    have e2:=qa1 H1.out.2.2.1 hg7
    have e9:RP w lo r (VRRs lo) (qa4 pRs n l) (gup c) w7:=by rw [e1];exact ⟨rfl,e2⟩
    exact ⟨rfl,e9⟩
   | ok q=>
    obtain ⟨x,l2⟩:=q
    rw [hp] at h7
    obtain ⟨u,rfl,hv,hr7,hg7⟩:=qao h7
    have hv1:u=.agg #[.bool x.inner,I x.ceil]:=hv
    subst hv1
    have e1:=H1.out.2.1.trans (qd9 xs hp)
    have o7:=qaz H1.out.2.2.2.1 (by omega) hg7
    have hO:=o7.alloc (.cells #[.bool x.inner,I x.ceil] 78)
    have hw7:w.heap.size≤w7.heap.size:=Nat.le_trans H1.out.2.2.1.size hg7.size
    have hsz:w.heap.size≤(w7.alloc (.cells #[.bool x.inner,I x.ceil] 78)).heap.size:=Nat.le_trans hw7 (qa0 w7 _).size
    have hnew:=qb3 w7 #[.bool x.inner,I x.ceil] 78
    have hone:∀u∈(#[.bool x.inner,I x.ceil]:Array Value).toList,u.oneCell'=true:=by
     intro u hu
     simp only [List.mem_cons,List.not_mem_nil,or_false] at hu
     rcases hu with rfl | rfl <;> rfl
    have HE:Hid (xs.length=j∧qa4 pRs n l=conP (xs++[x]) (qa4 pRs (n - (j+1)) l2)∧Rst w7 lo r l2∧w.grownBy w7 (some r)∧RwX 2 rsrP xs cs∧w7.ownsRow w.heap.size 78 2 (.slice va j vc) j cs):=⟨H1.out.1,e1,hr7,qa1 H1.out.2.2.1 hg7,H1.out.2.2.2.2,o7⟩
    clear H1 h7 hp hr7 hg7 e1 o7 HF
    go_wp2_with (first
     | (at_builtin;refine wpList_append_own _ rfl (.tmp 11) (.tmp 15) 24 rfl w.heap.size 78 im _ 2 16 Tryz.underlying24 him hm0 hm1 hm2 rfl (by decide) _ _ _ rfl hO ⟨w7.heap.size,0,none⟩ 1 1 (#[.bool x.inner,I x.ceil]:Array Value).toList rfl rfl hnew hone (by unfold maxLen;omega) (by omega) hsz ?_;intro v6 w6 ho6 hg6 _;obtain ⟨a6,c6,rfl⟩:=qah ho6))
    have H9:Hid (∃(xs:List RsR) (l':List UInt8) (cs:List Value),xs.length=j+1∧qa4 pRs n l=conP xs (qa4 pRs (n - (j+1)) l')∧Rst w6 lo r l'∧w.grownBy w6 (some r)∧w6.ownsRow w.heap.size 78 2 (.slice a6 (j+1) c6) (j+1) cs∧RwX 2 rsrP xs cs):=by
     obtain ⟨f1,f2,f3,f4,f5,f6⟩:=HE.out
     have hoth:∀b,b < w.heap.size→w6.heap[b]?=w7.heap[b]?:=fun b hb=>by
      rw [hg6.block b (by omega) (fun e=>by have:=(hO.lt b e.symm).1;omega)]
      exact heap_alloc_old w7 _ (by omega)
     have hs67:w7.heap.size≤w6.heap.size:=Nat.le_trans (qa0 w7 _).size hg6.size
     refine ⟨xs++[x],l2,cs++(#[.bool x.inner,I x.ceil]:Array Value).toList,by simp [f1],f2,f3.keep (fun b hb=>hoth b (by omega)) hs67,⟨?_,?_,?_,by omega,fun b hb hne=>(hoth b hb).trans (f4.block b hb hne)⟩,ho6,?_⟩
     ·exact (hg6.os.trans (show _=w7.os from rfl)).trans f4.os
     ·exact (hg6.tape.trans (show _=w7.tape from rfl)).trans f4.tape
     ·exact (hg6.output.trans (show _=w7.output from rfl)).trans f4.output
     ·refine RwX.snoc f5 x _ rfl (fun i hi=>?_)
      match i,hi with
      | 0,_=>exact ⟨_,rfl,rfl⟩
      | 1,_=>exact ⟨_,rfl,rfl⟩
    clear HE ho6 hg6 hO hnew hone hsz hw7
    go_wp2
    go_roundw
    case rel=>exact ⟨j+1,a6,c6,by omega,by go_num,rfl,H9.out⟩
    case measure=>simp [intOf];omega
  ·obtain rfl:j=n:=by omega
   have hge:¬((j:Int) < j):=by omega
   have HE:Hid (RP w lo r (VRRs lo) (qa4 pRs j l) (.returned (.slice va j vc)) wr):=by
    have e1:qa4 pRs j l=.ok (xs,l1):=by rw [g2,Nat.sub_self];simp [qa4,conP,retP]
    rw [e1]
    refine ⟨_,rfl,⟨va,vc,cs,by rw [g1],?_,g6⟩,g3,g4⟩
    rw [g1]
    exact qay g5 hlo
   clear HJ HF g1 g2 g3 g4 g5 g6
   go_wp2
   go_ret
   exact HE.out
def VCt (_:World) (x:CtR) (u:Value):Prop:=u=.agg #[(qU x.max),(qU x.base),(qU x.min)]
def VRCt (lo:Nat) (W:World) (xs:List CtR) (u:Value):Prop:=∃(sa:Option Addr) (sc:Nat) (cs:List Value),u=.slice sa xs.length sc∧W.ownsRow lo 80 3 (.slice sa xs.length sc) xs.length cs∧RwX 3 ctrP xs cs
theorem qmn : (Tryz.prog.info? 80).map (fun i=>(i.zero,i.size,i.bytes))=some (some (.agg #[.int .u32 0,.int .u32 0,.int .u32 0]:Value),3,12):=by kernel_rfl
theorem ql8 {w:World} {lo r:Nat} {l:List UInt8} (n:Nat) (hn:n≤65535) (h:Rst w lo r l) (f:Nat) (bnd caps:Array Value) (eg:∀args W,(callFunc f args).run Tryz.prog W=.ok (.enter f args) W)
  (hf:∀(W:World) (l':List UInt8) (j:Nat),w.grownBy W (some r)→Rst W lo r l'→j < n→Calls Tryz.prog f (bnd++#[I j]++caps) W fun e w'=>RP W lo r VCt (pCt l') e w') :
  Calls Tryz.prog 111 #[I n,.func (.func f) bnd caps] w fun e w'=>RP w lo r (VRCt lo) (qa4 pCt n l) e w':=by
 obtain ⟨im,him,hm0,hm1,hm2⟩:=info_parts qmn
 have HF:Hid (∀(W:World) (l':List UInt8) (j:Nat),w.grownBy W (some r)→Rst W lo r l'→j < n→Calls Tryz.prog f (bnd++#[I j]++caps) W fun e w'=>RP W lo r VCt (pCt l') e w'):=hf
 have hlo:lo≤w.heap.size:=h.le
 have hrl:r < lo:=h.lt
 have HI:Hid (∃(xs:List CtR) (l':List UInt8) (cs:List Value),xs.length=0∧qa4 pCt n l=conP xs (qa4 pCt (n - 0) l')∧Rst w lo r l'∧w.grownBy w (some r)∧w.ownsRow w.heap.size 80 3 qZ 0 cs∧RwX 3 ctrP xs cs):=⟨[],l,[],rfl,(qcw _).symm,h,qbx _ _,World.ownsRow_nil _ _ _ _,RwX.nil _ _⟩
 clear hf h
 go_enter Tryz.func111,Tryz.ntmps111
 go_wp2
 go_loopw [5,6,8] (fun v5 _ v8 wr=>∃(j:Nat) (va:Option Addr) (vc:Nat),j≤n∧v8=I j∧v5=.slice va j vc∧Hid (∃(xs:List CtR) (l':List UInt8) (cs:List Value),xs.length=j∧qa4 pCt n l=conP xs (qa4 pCt (n - j) l')∧Rst wr lo r l'∧w.grownBy wr (some r)∧wr.ownsRow w.heap.size 80 3 v5 j cs∧RwX 3 ctrP xs cs)) (fun _ _ v8 _=>n - (intOf v8).toNat)
 case atStart=>exact ⟨0,none,0,by omega,rfl,rfl,HI.out⟩
 case round=>
  clear HI
  obtain ⟨j,va,vc,hj,rfl,rfl,HJ⟩:=hrel
  obtain ⟨xs,l1,cs,g1,g2,g3,g4,g5,g6⟩:=HJ.out
  by_cases hlt:j < n
  ·have hlt':(j:Int) < n:=by omega
   have cx:=HF.out wr l1 j g4 g3 hlt
   have H1:Hid (xs.length=j∧qa4 pCt n l=conP xs (qa4 pCt (n - (j+1)+1) l1)∧w.grownBy wr (some r)∧wr.ownsRow w.heap.size 80 3 (.slice va j vc) j cs∧RwX 3 ctrP xs cs):=⟨g1,by rw [g2,show n - j=n - (j+1)+1 by omega],g4,g5,g6⟩
   clear HJ g1 g2 g3 g4 g5 g6
   go_wp2
   refine cx.mono ?_
   clear cx
   intro e7 w7 h7
   cases hp:pCt l1 with
   | error c=>
    rw [hp] at h7
    obtain ⟨rfl,hg7⟩:=qap h7
    have e1:qa4 pCt n l=.error c:=H1.out.2.1.trans (qd8 xs hp)
    have e2:=qa1 H1.out.2.2.1 hg7
    have e9:RP w lo r (VRCt lo) (qa4 pCt n l) (gup c) w7:=by rw [e1];exact ⟨rfl,e2⟩
    exact ⟨rfl,e9⟩
   | ok q=>
    obtain ⟨x,l2⟩:=q
    rw [hp] at h7
    obtain ⟨u,rfl,hv,hr7,hg7⟩:=qao h7
    have hv1:u=.agg #[(qU x.max),(qU x.base),(qU x.min)]:=hv
    subst hv1
    have e1:=H1.out.2.1.trans (qd9 xs hp)
    have o7:=qaz H1.out.2.2.2.1 (by omega) hg7
    have hO:=o7.alloc (.cells #[(qU x.max),(qU x.base),(qU x.min)] 80)
    have hw7:w.heap.size≤w7.heap.size:=Nat.le_trans H1.out.2.2.1.size hg7.size
    have hsz:w.heap.size≤(w7.alloc (.cells #[(qU x.max),(qU x.base),(qU x.min)] 80)).heap.size:=Nat.le_trans hw7 (qa0 w7 _).size
    have hnew:=qb3 w7 #[(qU x.max),(qU x.base),(qU x.min)] 80
    have hone:∀u∈(#[(qU x.max),(qU x.base),(qU x.min)]:Array Value).toList,u.oneCell'=true:=by
     intro u hu
     simp only [List.mem_cons,List.not_mem_nil,or_false] at hu
     rcases hu with rfl | rfl | rfl <;> rfl
    have HE:Hid (xs.length=j∧qa4 pCt n l=conP (xs++[x]) (qa4 pCt (n - (j+1)) l2)∧Rst w7 lo r l2∧w.grownBy w7 (some r)∧RwX 3 ctrP xs cs∧w7.ownsRow w.heap.size 80 3 (.slice va j vc) j cs):=⟨H1.out.1,e1,hr7,qa1 H1.out.2.2.1 hg7,H1.out.2.2.2.2,o7⟩
    clear H1 h7 hp hr7 hg7 e1 o7 HF
    go_wp2_with (first
     | (at_builtin;refine wpList_append_own _ rfl (.tmp 11) (.tmp 15) 25 rfl w.heap.size 80 im _ 3 12 Tryz.underlying25 him hm0 hm1 hm2 rfl (by decide) _ _ _ rfl hO ⟨w7.heap.size,0,none⟩ 1 1 (#[(qU x.max),(qU x.base),(qU x.min)]:Array Value).toList rfl rfl hnew hone (by unfold maxLen;omega) (by omega) hsz ?_;intro v6 w6 ho6 hg6 _;obtain ⟨a6,c6,rfl⟩:=qah ho6))
    have H9:Hid (∃(xs:List CtR) (l':List UInt8) (cs:List Value),xs.length=j+1∧qa4 pCt n l=conP xs (qa4 pCt (n - (j+1)) l')∧Rst w6 lo r l'∧w.grownBy w6 (some r)∧w6.ownsRow w.heap.size 80 3 (.slice a6 (j+1) c6) (j+1) cs∧RwX 3 ctrP xs cs):=by
     obtain ⟨f1,f2,f3,f4,f5,f6⟩:=HE.out
     have hoth:∀b,b < w.heap.size→w6.heap[b]?=w7.heap[b]?:=fun b hb=>by
      rw [hg6.block b (by omega) (fun e=>by have:=(hO.lt b e.symm).1;omega)]
      exact heap_alloc_old w7 _ (by omega)
     have hs67:w7.heap.size≤w6.heap.size:=Nat.le_trans (qa0 w7 _).size hg6.size
     refine ⟨xs++[x],l2,cs++(#[(qU x.max),(qU x.base),(qU x.min)]:Array Value).toList,by simp [f1],f2,f3.keep (fun b hb=>hoth b (by omega)) hs67,⟨?_,?_,?_,by omega,fun b hb hne=>(hoth b hb).trans (f4.block b hb hne)⟩,ho6,?_⟩
     ·exact (hg6.os.trans (show _=w7.os from rfl)).trans f4.os
     ·exact (hg6.tape.trans (show _=w7.tape from rfl)).trans f4.tape
     ·exact (hg6.output.trans (show _=w7.output from rfl)).trans f4.output
     ·refine RwX.snoc f5 x _ rfl (fun i hi=>?_)
      match i,hi with
      | 0,_=>exact ⟨_,rfl,rfl⟩
      | 1,_=>exact ⟨_,rfl,rfl⟩
      | 2,_=>exact ⟨_,rfl,rfl⟩
    clear HE ho6 hg6 hO hnew hone hsz hw7
    go_wp2
    go_roundw
    case rel=>exact ⟨j+1,a6,c6,by omega,by go_num,rfl,H9.out⟩
    case measure=>simp [intOf];omega
  ·obtain rfl:j=n:=by omega
   have hge:¬((j:Int) < j):=by omega
   have HE:Hid (RP w lo r (VRCt lo) (qa4 pCt j l) (.returned (.slice va j vc)) wr):=by
    have e1:qa4 pCt j l=.ok (xs,l1):=by rw [g2,Nat.sub_self];simp [qa4,conP,retP]
    rw [e1]
    refine ⟨_,rfl,⟨va,vc,cs,by rw [g1],?_,g6⟩,g3,g4⟩
    rw [g1]
    exact qay g5 hlo
   clear HJ HF g1 g2 g3 g4 g5 g6
   go_wp2
   go_ret
   exact HE.out
def VAl (_:World) (x:AlR) (u:Value):Prop:=u=.agg #[I x.ctr,I x.ac.kind,I x.ac.task,(qU x.ac.mask),(qU x.auto),(qU x.time),(qU x.cycle)]
def VRAl (lo:Nat) (W:World) (xs:List AlR) (u:Value):Prop:=∃(sa:Option Addr) (sc:Nat) (cs:List Value),u=.slice sa xs.length sc∧W.ownsRow lo 85 7 (.slice sa xs.length sc) xs.length cs∧RwX 7 alrP xs cs
theorem qmo : (Tryz.prog.info? 85).map (fun i=>(i.zero,i.size,i.bytes))=some (some (.agg #[I 0,I 0,I 0,.int .u32 0,.int .u32 0,.int .u32 0,.int .u32 0]:Value),7,48):=by kernel_rfl
theorem ql9 {w:World} {lo r:Nat} {l:List UInt8} (n:Nat) (hn:n≤65535) (h:Rst w lo r l) (f:Nat) (bnd caps:Array Value) (eg:∀args W,(callFunc f args).run Tryz.prog W=.ok (.enter f args) W)
  (hf:∀(W:World) (l':List UInt8) (j:Nat),w.grownBy W (some r)→Rst W lo r l'→j < n→Calls Tryz.prog f (bnd++#[I j]++caps) W fun e w'=>RP W lo r VAl (pAl l') e w') :
  Calls Tryz.prog 113 #[I n,.func (.func f) bnd caps] w fun e w'=>RP w lo r (VRAl lo) (qa4 pAl n l) e w':=by
 obtain ⟨im,him,hm0,hm1,hm2⟩:=info_parts qmo
 have HF:Hid (∀(W:World) (l':List UInt8) (j:Nat),w.grownBy W (some r)→Rst W lo r l'→j < n→Calls Tryz.prog f (bnd++#[I j]++caps) W fun e w'=>RP W lo r VAl (pAl l') e w'):=hf
 have hlo:lo≤w.heap.size:=h.le
 have hrl:r < lo:=h.lt
 have HI:Hid (∃(xs:List AlR) (l':List UInt8) (cs:List Value),xs.length=0∧qa4 pAl n l=conP xs (qa4 pAl (n - 0) l')∧Rst w lo r l'∧w.grownBy w (some r)∧w.ownsRow w.heap.size 85 7 qZ 0 cs∧RwX 7 alrP xs cs):=⟨[],l,[],rfl,(qcw _).symm,h,qbx _ _,World.ownsRow_nil _ _ _ _,RwX.nil _ _⟩
 clear hf h
 go_enter Tryz.func113,Tryz.ntmps113
 go_wp2
 go_loopw [5,6,8] (fun v5 _ v8 wr=>∃(j:Nat) (va:Option Addr) (vc:Nat),j≤n∧v8=I j∧v5=.slice va j vc∧Hid (∃(xs:List AlR) (l':List UInt8) (cs:List Value),xs.length=j∧qa4 pAl n l=conP xs (qa4 pAl (n - j) l')∧Rst wr lo r l'∧w.grownBy wr (some r)∧wr.ownsRow w.heap.size 85 7 v5 j cs∧RwX 7 alrP xs cs)) (fun _ _ v8 _=>n - (intOf v8).toNat)
 case atStart=>exact ⟨0,none,0,by omega,rfl,rfl,HI.out⟩
 case round=>
  clear HI
  obtain ⟨j,va,vc,hj,rfl,rfl,HJ⟩:=hrel
  obtain ⟨xs,l1,cs,g1,g2,g3,g4,g5,g6⟩:=HJ.out
  by_cases hlt:j < n
  ·have hlt':(j:Int) < n:=by omega
   have cx:=HF.out wr l1 j g4 g3 hlt
   have H1:Hid (xs.length=j∧qa4 pAl n l=conP xs (qa4 pAl (n - (j+1)+1) l1)∧w.grownBy wr (some r)∧wr.ownsRow w.heap.size 85 7 (.slice va j vc) j cs∧RwX 7 alrP xs cs):=⟨g1,by rw [g2,show n - j=n - (j+1)+1 by omega],g4,g5,g6⟩
   clear HJ g1 g2 g3 g4 g5 g6
   go_wp2
   refine cx.mono ?_
   clear cx
   intro e7 w7 h7
   cases hp:pAl l1 with
   | error c=>
    rw [hp] at h7
    obtain ⟨rfl,hg7⟩:=qap h7
    have e1:qa4 pAl n l=.error c:=H1.out.2.1.trans (qd8 xs hp)
    have e2:=qa1 H1.out.2.2.1 hg7
    have e9:RP w lo r (VRAl lo) (qa4 pAl n l) (gup c) w7:=by rw [e1];exact ⟨rfl,e2⟩
    exact ⟨rfl,e9⟩
   | ok q=>
    obtain ⟨x,l2⟩:=q
    rw [hp] at h7
    obtain ⟨u,rfl,hv,hr7,hg7⟩:=qao h7
    have hv1:u=.agg #[I x.ctr,I x.ac.kind,I x.ac.task,(qU x.ac.mask),(qU x.auto),(qU x.time),(qU x.cycle)]:=hv
    subst hv1
    have e1:=H1.out.2.1.trans (qd9 xs hp)
    have o7:=qaz H1.out.2.2.2.1 (by omega) hg7
    have hO:=o7.alloc (.cells #[I x.ctr,I x.ac.kind,I x.ac.task,(qU x.ac.mask),(qU x.auto),(qU x.time),(qU x.cycle)] 85)
    have hw7:w.heap.size≤w7.heap.size:=Nat.le_trans H1.out.2.2.1.size hg7.size
    have hsz:w.heap.size≤(w7.alloc (.cells #[I x.ctr,I x.ac.kind,I x.ac.task,(qU x.ac.mask),(qU x.auto),(qU x.time),(qU x.cycle)] 85)).heap.size:=Nat.le_trans hw7 (qa0 w7 _).size
    have hnew:=qb3 w7 #[I x.ctr,I x.ac.kind,I x.ac.task,(qU x.ac.mask),(qU x.auto),(qU x.time),(qU x.cycle)] 85
    have hone:∀u∈(#[I x.ctr,I x.ac.kind,I x.ac.task,(qU x.ac.mask),(qU x.auto),(qU x.time),(qU x.cycle)]:Array Value).toList,u.oneCell'=true:=by
     intro u hu
     simp only [List.mem_cons,List.not_mem_nil,or_false] at hu
     rcases hu with rfl | rfl | rfl | rfl | rfl | rfl | rfl <;> rfl
    have HE:Hid (xs.length=j∧qa4 pAl n l=conP (xs++[x]) (qa4 pAl (n - (j+1)) l2)∧Rst w7 lo r l2∧w.grownBy w7 (some r)∧RwX 7 alrP xs cs∧w7.ownsRow w.heap.size 85 7 (.slice va j vc) j cs):=⟨H1.out.1,e1,hr7,qa1 H1.out.2.2.1 hg7,H1.out.2.2.2.2,o7⟩
    clear H1 h7 hp hr7 hg7 e1 o7 HF
    go_wp2_with (first
     | (at_builtin;refine wpList_append_own _ rfl (.tmp 11) (.tmp 15) 26 rfl w.heap.size 85 im _ 7 48 Tryz.underlying26 him hm0 hm1 hm2 rfl (by decide) _ _ _ rfl hO ⟨w7.heap.size,0,none⟩ 1 1 (#[I x.ctr,I x.ac.kind,I x.ac.task,(qU x.ac.mask),(qU x.auto),(qU x.time),(qU x.cycle)]:Array Value).toList rfl rfl hnew hone (by unfold maxLen;omega) (by omega) hsz ?_;intro v6 w6 ho6 hg6 _;obtain ⟨a6,c6,rfl⟩:=qah ho6))
    have H9:Hid (∃(xs:List AlR) (l':List UInt8) (cs:List Value),xs.length=j+1∧qa4 pAl n l=conP xs (qa4 pAl (n - (j+1)) l')∧Rst w6 lo r l'∧w.grownBy w6 (some r)∧w6.ownsRow w.heap.size 85 7 (.slice a6 (j+1) c6) (j+1) cs∧RwX 7 alrP xs cs):=by
     obtain ⟨f1,f2,f3,f4,f5,f6⟩:=HE.out
     have hoth:∀b,b < w.heap.size→w6.heap[b]?=w7.heap[b]?:=fun b hb=>by
      rw [hg6.block b (by omega) (fun e=>by have:=(hO.lt b e.symm).1;omega)]
      exact heap_alloc_old w7 _ (by omega)
     have hs67:w7.heap.size≤w6.heap.size:=Nat.le_trans (qa0 w7 _).size hg6.size
     refine ⟨xs++[x],l2,cs++(#[I x.ctr,I x.ac.kind,I x.ac.task,(qU x.ac.mask),(qU x.auto),(qU x.time),(qU x.cycle)]:Array Value).toList,by simp [f1],f2,f3.keep (fun b hb=>hoth b (by omega)) hs67,⟨?_,?_,?_,by omega,fun b hb hne=>(hoth b hb).trans (f4.block b hb hne)⟩,ho6,?_⟩
     ·exact (hg6.os.trans (show _=w7.os from rfl)).trans f4.os
     ·exact (hg6.tape.trans (show _=w7.tape from rfl)).trans f4.tape
     ·exact (hg6.output.trans (show _=w7.output from rfl)).trans f4.output
     ·refine RwX.snoc f5 x _ rfl (fun i hi=>?_)
      match i,hi with
      | 0,_=>exact ⟨_,rfl,rfl⟩
      | 1,_=>exact ⟨_,rfl,rfl⟩
      | 2,_=>exact ⟨_,rfl,rfl⟩
      | 3,_=>exact ⟨_,rfl,rfl⟩
      | 4,_=>exact ⟨_,rfl,rfl⟩
      | 5,_=>exact ⟨_,rfl,rfl⟩
      | 6,_=>exact ⟨_,rfl,rfl⟩
    clear HE ho6 hg6 hO hnew hone hsz hw7
    go_wp2
    go_roundw
    case rel=>exact ⟨j+1,a6,c6,by omega,by go_num,rfl,H9.out⟩
    case measure=>simp [intOf];omega
  ·obtain rfl:j=n:=by omega
   have hge:¬((j:Int) < j):=by omega
   have HE:Hid (RP w lo r (VRAl lo) (qa4 pAl j l) (.returned (.slice va j vc)) wr):=by
    have e1:qa4 pAl j l=.ok (xs,l1):=by rw [g2,Nat.sub_self];simp [qa4,conP,retP]
    rw [e1]
    refine ⟨_,rfl,⟨va,vc,cs,by rw [g1],?_,g6⟩,g3,g4⟩
    rw [g1]
    exact qay g5 hlo
   clear HJ HF g1 g2 g3 g4 g5 g6
   go_wp2
   go_ret
   exact HE.out
def VIs (lo:Nat) (W:World) (x:IsR) (u:Value):Prop:=∃(sa:Option Addr) (sc:Nat),u=.agg #[I x.cat,I x.prio,.slice sa x.own.length sc]∧qbz W lo x.own (.slice sa x.own.length sc)
def VRIs (lo:Nat) (W:World) (xs:List IsR) (u:Value):Prop:=∃(sa:Option Addr) (sc:Nat) (cs:List Value),u=.slice sa xs.length sc∧W.ownsRow lo 87 3 (.slice sa xs.length sc) xs.length cs∧RwX 3 (isO9 W lo) xs cs
theorem qmp : (Tryz.prog.info? 87).map (fun i=>(i.zero,i.size,i.bytes))=some (some (.agg #[I 0,I 0,qZ]:Value),3,40):=by kernel_rfl
theorem qla {w:World} {lo r:Nat} {l:List UInt8} (n:Nat) (hn:n≤65535) (h:Rst w lo r l) (f:Nat) (bnd caps:Array Value) (eg:∀args W,(callFunc f args).run Tryz.prog W=.ok (.enter f args) W)
  (hf:∀(W:World) (l':List UInt8) (j:Nat),w.grownBy W (some r)→Rst W lo r l'→j < n→Calls Tryz.prog f (bnd++#[I j]++caps) W fun e w'=>RP W lo r (VIs lo) (pIs l') e w') :
  Calls Tryz.prog 115 #[I n,.func (.func f) bnd caps] w fun e w'=>RP w lo r (VRIs lo) (qa4 pIs n l) e w':=by
 obtain ⟨im,him,hm0,hm1,hm2⟩:=info_parts qmp
 have HF:Hid (∀(W:World) (l':List UInt8) (j:Nat),w.grownBy W (some r)→Rst W lo r l'→j < n→Calls Tryz.prog f (bnd++#[I j]++caps) W fun e w'=>RP W lo r (VIs lo) (pIs l') e w'):=hf
 have hlo:lo≤w.heap.size:=h.le
 have hrl:r < lo:=h.lt
 have HI:Hid (∃(xs:List IsR) (l':List UInt8) (cs:List Value),xs.length=0∧qa4 pIs n l=conP xs (qa4 pIs (n - 0) l')∧Rst w lo r l'∧w.grownBy w (some r)∧w.ownsRow w.heap.size 87 3 qZ 0 cs∧RwX 3 (isO9 w lo) xs cs):=⟨[],l,[],rfl,(qcw _).symm,h,qbx _ _,World.ownsRow_nil _ _ _ _,RwX.nil _ _⟩
 clear hf h
 go_enter Tryz.func115,Tryz.ntmps115
 go_wp2
 go_loopw [5,6,8] (fun v5 _ v8 wr=>∃(j:Nat) (va:Option Addr) (vc:Nat),j≤n∧v8=I j∧v5=.slice va j vc∧Hid (∃(xs:List IsR) (l':List UInt8) (cs:List Value),xs.length=j∧qa4 pIs n l=conP xs (qa4 pIs (n - j) l')∧Rst wr lo r l'∧w.grownBy wr (some r)∧wr.ownsRow w.heap.size 87 3 v5 j cs∧RwX 3 (isO9 wr lo) xs cs)) (fun _ _ v8 _=>n - (intOf v8).toNat)
 case atStart=>exact ⟨0,none,0,by omega,rfl,rfl,HI.out⟩
 case round=>
  clear HI
  obtain ⟨j,va,vc,hj,rfl,rfl,HJ⟩:=hrel
  obtain ⟨xs,l1,cs,g1,g2,g3,g4,g5,g6⟩:=HJ.out
  by_cases hlt:j < n
  ·have hlt':(j:Int) < n:=by omega
   have cx:=HF.out wr l1 j g4 g3 hlt
   have H1:Hid (xs.length=j∧qa4 pIs n l=conP xs (qa4 pIs (n - (j+1)+1) l1)∧w.grownBy wr (some r)∧wr.ownsRow w.heap.size 87 3 (.slice va j vc) j cs∧RwX 3 (isO9 wr lo) xs cs):=⟨g1,by rw [g2,show n - j=n - (j+1)+1 by omega],g4,g5,g6⟩
   clear HJ g1 g2 g3 g4 g5 g6
   go_wp2
   refine cx.mono ?_
   clear cx
   intro e7 w7 h7
   cases hp:pIs l1 with
   | error c=>
    rw [hp] at h7
    obtain ⟨rfl,hg7⟩:=qap h7
    have e1:qa4 pIs n l=.error c:=H1.out.2.1.trans (qd8 xs hp)
    have e2:=qa1 H1.out.2.2.1 hg7
    have e9:RP w lo r (VRIs lo) (qa4 pIs n l) (gup c) w7:=by rw [e1];exact ⟨rfl,e2⟩
    exact ⟨rfl,e9⟩
   | ok q=>
    obtain ⟨x,l2⟩:=q
    rw [hp] at h7
    obtain ⟨u,rfl,hv,hr7,hg7⟩:=qao h7
    obtain ⟨sa,sc,rfl,hmm⟩:=hv
    have e1:=H1.out.2.1.trans (qd9 xs hp)
    have o7:=qaz H1.out.2.2.2.1 (by omega) hg7
    have hO:=o7.alloc (.cells #[I x.cat,I x.prio,.slice sa x.own.length sc] 87)
    have hw7:w.heap.size≤w7.heap.size:=Nat.le_trans H1.out.2.2.1.size hg7.size
    have hsz:w.heap.size≤(w7.alloc (.cells #[I x.cat,I x.prio,.slice sa x.own.length sc] 87)).heap.size:=Nat.le_trans hw7 (qa0 w7 _).size
    have hnew:=qb3 w7 #[I x.cat,I x.prio,.slice sa x.own.length sc] 87
    have hone:∀u∈(#[I x.cat,I x.prio,.slice sa x.own.length sc]:Array Value).toList,u.oneCell'=true:=by
     intro u hu
     simp only [List.mem_cons,List.not_mem_nil,or_false] at hu
     rcases hu with rfl | rfl | rfl <;> rfl
    have HE:Hid (xs.length=j∧qa4 pIs n l=conP (xs++[x]) (qa4 pIs (n - (j+1)) l2)∧Rst w7 lo r l2∧w.grownBy w7 (some r)∧RwX 3 (isO9 w7 lo) xs cs∧w7.ownsRow w.heap.size 87 3 (.slice va j vc) j cs∧qbz w7 lo x.own (.slice sa x.own.length sc)):=⟨H1.out.1,e1,hr7,qa1 H1.out.2.2.1 hg7,RwX.mono H1.out.2.2.2.2 (fun x i u h=>qmj h hrl hg7),o7,hmm⟩
    clear H1 h7 hp hmm hr7 hg7 e1 o7 HF
    go_wp2_with (first
     | (at_builtin;refine wpList_append_own _ rfl (.tmp 11) (.tmp 15) 27 rfl w.heap.size 87 im _ 3 40 Tryz.underlying27 him hm0 hm1 hm2 rfl (by decide) _ _ _ rfl hO ⟨w7.heap.size,0,none⟩ 1 1 (#[I x.cat,I x.prio,.slice sa x.own.length sc]:Array Value).toList rfl rfl hnew hone (by unfold maxLen;omega) (by omega) hsz ?_;intro v6 w6 ho6 hg6 _;obtain ⟨a6,c6,rfl⟩:=qah ho6))
    have H9:Hid (∃(xs:List IsR) (l':List UInt8) (cs:List Value),xs.length=j+1∧qa4 pIs n l=conP xs (qa4 pIs (n - (j+1)) l')∧Rst w6 lo r l'∧w.grownBy w6 (some r)∧w6.ownsRow w.heap.size 87 3 (.slice a6 (j+1) c6) (j+1) cs∧RwX 3 (isO9 w6 lo) xs cs):=by
     obtain ⟨f1,f2,f3,f4,f5,f6,f7⟩:=HE.out
     have hoth:∀b,b < w.heap.size→w6.heap[b]?=w7.heap[b]?:=fun b hb=>by
      rw [hg6.block b (by omega) (fun e=>by have:=(hO.lt b e.symm).1;omega)]
      exact heap_alloc_old w7 _ (by omega)
     have hs67:w7.heap.size≤w6.heap.size:=Nat.le_trans (qa0 w7 _).size hg6.size
     refine ⟨xs++[x],l2,cs++(#[I x.cat,I x.prio,.slice sa x.own.length sc]:Array Value).toList,by simp [f1],f2,f3.keep (fun b hb=>hoth b (by omega)) hs67,⟨?_,?_,?_,by omega,fun b hb hne=>(hoth b hb).trans (f4.block b hb hne)⟩,ho6,?_⟩
     ·exact (hg6.os.trans (show _=w7.os from rfl)).trans f4.os
     ·exact (hg6.tape.trans (show _=w7.tape from rfl)).trans f4.tape
     ·exact (hg6.output.trans (show _=w7.output from rfl)).trans f4.output
     ·refine RwX.snoc (RwX.mono f5 (fun x i u h=>qgg (qdu h (qa0 w7 _)) hO hg6)) x _ rfl (fun i hi=>?_)
      match i,hi with
      | 0,_=>exact ⟨_,rfl,rfl⟩
      | 1,_=>exact ⟨_,rfl,rfl⟩
      | 2,_=>exact ⟨_,rfl,qc3 (qcg f7 (qa0 w7 _)) hO hg6 (by decide)⟩
    clear HE ho6 hg6 hO hnew hone hsz hw7
    go_wp2
    go_roundw
    case rel=>exact ⟨j+1,a6,c6,by omega,by go_num,rfl,H9.out⟩
    case measure=>simp [intOf];omega
  ·obtain rfl:j=n:=by omega
   have hge:¬((j:Int) < j):=by omega
   have HE:Hid (RP w lo r (VRIs lo) (qa4 pIs j l) (.returned (.slice va j vc)) wr):=by
    have e1:qa4 pIs j l=.ok (xs,l1):=by rw [g2,Nat.sub_self];simp [qa4,conP,retP]
    rw [e1]
    refine ⟨_,rfl,⟨va,vc,cs,by rw [g1],?_,g6⟩,g3,g4⟩
    rw [g1]
    exact qay g5 hlo
   clear HJ HF g1 g2 g3 g4 g5 g6
   go_wp2
   go_ret
   exact HE.out
end Go.Proofs.YtijgopkhdjaolaaGreat
