import Derived.Test.YtijgopkhdjaolaaGreatXHr3
import Derived.Test.YtijgopkhdjaolaaGreatXHx
import Derived.Test.YtijgopkhdjaolaaGreatXHrrIs
import Derived.Deep.RegionHeldLaw
namespace Go.Proofs.YtijgopkhdjaolaaGreat
open Go.RowKit Go.Shelf Go.Sort
open Go.Proofs.YtijgopkhdjaolaaGreat.Ob (leB leV qa8 qaj crc Rd RdAll qa9 Rdr)
set_option linter.unusedSimpArgs false
set_option linter.unusedVariables false
set_option maxHeartbeats 16000000
set_option maxRecDepth 100000
def VMs (_:World) (x:MsR) (u:Value):Prop:=u=.agg #[I x.kind,I x.len,I x.frm,.int .u64 (x.init:Int),I x.queue,I x.ac.kind,I x.ac.task,(qU x.ac.mask)]
def VRMs (lo:Nat) (W:World) (xs:List MsR) (u:Value):Prop:=∃(sa:Option Addr) (sc:Nat) (cs:List Value),u=.slice sa xs.length sc∧W.ownsRow lo 91 8 (.slice sa xs.length sc) xs.length cs∧RwX 8 msrP xs cs
theorem qmq : (Tryz.prog.info? 91).map (fun i=>(i.zero,i.size,i.bytes))=some (some (.agg #[I 0,I 0,I 0,.int .u64 0,I 0,I 0,I 0,.int .u32 0]:Value),8,64):=by kernel_rfl
theorem qlb {w:World} {lo r:Nat} {l:List UInt8} (n:Nat) (hn:n≤65535) (h:Rst w lo r l) (f:Nat) (bnd caps:Array Value) (eg:∀args W,(callFunc f args).run Tryz.prog W=.ok (.enter f args) W)
  (hf:∀(W:World) (l':List UInt8) (j:Nat),w.grownBy W (some r)→Rst W lo r l'→j < n→Calls Tryz.prog f (bnd++#[I j]++caps) W fun e w'=>RP W lo r VMs (pMs l') e w') :
  Calls Tryz.prog 117 #[I n,.func (.func f) bnd caps] w fun e w'=>RP w lo r (VRMs lo) (qa4 pMs n l) e w':=by
 obtain ⟨im,him,hm0,hm1,hm2⟩:=info_parts qmq
 have HF:Hid (∀(W:World) (l':List UInt8) (j:Nat),w.grownBy W (some r)→Rst W lo r l'→j < n→Calls Tryz.prog f (bnd++#[I j]++caps) W fun e w'=>RP W lo r VMs (pMs l') e w'):=hf
 have hlo:lo≤w.heap.size:=h.le
 have hrl:r < lo:=h.lt
 have HI:Hid (∃(xs:List MsR) (l':List UInt8) (cs:List Value),xs.length=0∧qa4 pMs n l=conP xs (qa4 pMs (n - 0) l')∧Rst w lo r l'∧w.grownBy w (some r)∧w.ownsRow w.heap.size 91 8 qZ 0 cs∧RwX 8 msrP xs cs):=⟨[],l,[],rfl,(qcw _).symm,h,qbx _ _,World.ownsRow_nil _ _ _ _,RwX.nil _ _⟩
 clear hf h
 go_enter Tryz.func117,Tryz.ntmps117
 go_wp2
 go_loopw [5,6,8] (fun v5 _ v8 wr=>∃(j:Nat) (va:Option Addr) (vc:Nat),j≤n∧v8=I j∧v5=.slice va j vc∧Hid (∃(xs:List MsR) (l':List UInt8) (cs:List Value),xs.length=j∧qa4 pMs n l=conP xs (qa4 pMs (n - j) l')∧Rst wr lo r l'∧w.grownBy wr (some r)∧wr.ownsRow w.heap.size 91 8 v5 j cs∧RwX 8 msrP xs cs)) (fun _ _ v8 _=>n - (intOf v8).toNat)
 case atStart=>exact ⟨0,none,0,by omega,rfl,rfl,HI.out⟩
 case round=>
  clear HI
  obtain ⟨j,va,vc,hj,rfl,rfl,HJ⟩:=hrel
  obtain ⟨xs,l1,cs,g1,g2,g3,g4,g5,g6⟩:=HJ.out
  by_cases hlt:j < n
  ·have hlt':(j:Int) < n:=by omega
   have cx:=HF.out wr l1 j g4 g3 hlt
   have H1:Hid (xs.length=j∧qa4 pMs n l=conP xs (qa4 pMs (n - (j+1)+1) l1)∧w.grownBy wr (some r)∧wr.ownsRow w.heap.size 91 8 (.slice va j vc) j cs∧RwX 8 msrP xs cs):=⟨g1,by rw [g2,show n - j=n - (j+1)+1 by omega],g4,g5,g6⟩
   clear HJ g1 g2 g3 g4 g5 g6
   go_wp2
   refine cx.mono ?_
   clear cx
   intro e7 w7 h7
   cases hp:pMs l1 with
   | error c=>
    rw [hp] at h7
    obtain ⟨rfl,hg7⟩:=qap h7
    have e1:qa4 pMs n l=.error c:=H1.out.2.1.trans (qd8 xs hp)
    have e2:=qa1 H1.out.2.2.1 hg7
    have e9:RP w lo r (VRMs lo) (qa4 pMs n l) (gup c) w7:=by rw [e1];exact ⟨rfl,e2⟩
    exact ⟨rfl,e9⟩
   | ok q=>
    obtain ⟨x,l2⟩:=q
    rw [hp] at h7
    obtain ⟨u,rfl,hv,hr7,hg7⟩:=qao h7
    have hv1:u=.agg #[I x.kind,I x.len,I x.frm,.int .u64 (x.init:Int),I x.queue,I x.ac.kind,I x.ac.task,(qU x.ac.mask)]:=hv
    subst hv1
    have e1:=H1.out.2.1.trans (qd9 xs hp)
    have o7:=qaz H1.out.2.2.2.1 (by omega) hg7
    have hO:=o7.alloc (.cells #[I x.kind,I x.len,I x.frm,.int .u64 (x.init:Int),I x.queue,I x.ac.kind,I x.ac.task,(qU x.ac.mask)] 91)
    have hw7:w.heap.size≤w7.heap.size:=Nat.le_trans H1.out.2.2.1.size hg7.size
    have hsz:w.heap.size≤(w7.alloc (.cells #[I x.kind,I x.len,I x.frm,.int .u64 (x.init:Int),I x.queue,I x.ac.kind,I x.ac.task,(qU x.ac.mask)] 91)).heap.size:=Nat.le_trans hw7 (qa0 w7 _).size
    have hnew:=qb3 w7 #[I x.kind,I x.len,I x.frm,.int .u64 (x.init:Int),I x.queue,I x.ac.kind,I x.ac.task,(qU x.ac.mask)] 91
    have hone:∀u∈(#[I x.kind,I x.len,I x.frm,.int .u64 (x.init:Int),I x.queue,I x.ac.kind,I x.ac.task,(qU x.ac.mask)]:Array Value).toList,u.oneCell'=true:=by
     intro u hu
     simp only [List.mem_cons,List.not_mem_nil,or_false] at hu
     rcases hu with rfl | rfl | rfl | rfl | rfl | rfl | rfl | rfl <;> rfl
    have HE:Hid (xs.length=j∧qa4 pMs n l=conP (xs++[x]) (qa4 pMs (n - (j+1)) l2)∧Rst w7 lo r l2∧w.grownBy w7 (some r)∧RwX 8 msrP xs cs∧w7.ownsRow w.heap.size 91 8 (.slice va j vc) j cs):=⟨H1.out.1,e1,hr7,qa1 H1.out.2.2.1 hg7,H1.out.2.2.2.2,o7⟩
    clear H1 h7 hp hr7 hg7 e1 o7 HF
    go_wp2_with (first
     | (at_builtin;refine wpList_append_own _ rfl (.tmp 11) (.tmp 15) 28 rfl w.heap.size 91 im _ 8 64 Tryz.underlying28 him hm0 hm1 hm2 rfl (by decide) _ _ _ rfl hO ⟨w7.heap.size,0,none⟩ 1 1 (#[I x.kind,I x.len,I x.frm,.int .u64 (x.init:Int),I x.queue,I x.ac.kind,I x.ac.task,(qU x.ac.mask)]:Array Value).toList rfl rfl hnew hone (by unfold maxLen;omega) (by omega) hsz ?_;intro v6 w6 ho6 hg6 _;obtain ⟨a6,c6,rfl⟩:=qah ho6))
    have H9:Hid (∃(xs:List MsR) (l':List UInt8) (cs:List Value),xs.length=j+1∧qa4 pMs n l=conP xs (qa4 pMs (n - (j+1)) l')∧Rst w6 lo r l'∧w.grownBy w6 (some r)∧w6.ownsRow w.heap.size 91 8 (.slice a6 (j+1) c6) (j+1) cs∧RwX 8 msrP xs cs):=by
     obtain ⟨f1,f2,f3,f4,f5,f6⟩:=HE.out
     have hoth:∀b,b < w.heap.size→w6.heap[b]?=w7.heap[b]?:=fun b hb=>by
      rw [hg6.block b (by omega) (fun e=>by have:=(hO.lt b e.symm).1;omega)]
      exact heap_alloc_old w7 _ (by omega)
     have hs67:w7.heap.size≤w6.heap.size:=Nat.le_trans (qa0 w7 _).size hg6.size
     refine ⟨xs++[x],l2,cs++(#[I x.kind,I x.len,I x.frm,.int .u64 (x.init:Int),I x.queue,I x.ac.kind,I x.ac.task,(qU x.ac.mask)]:Array Value).toList,by simp [f1],f2,f3.keep (fun b hb=>hoth b (by omega)) hs67,⟨?_,?_,?_,by omega,fun b hb hne=>(hoth b hb).trans (f4.block b hb hne)⟩,ho6,?_⟩
     ·exact (hg6.os.trans (show _=w7.os from rfl)).trans f4.os
     ·exact (hg6.tape.trans (show _=w7.tape from rfl)).trans f4.tape
     ·exact (hg6.output.trans (show _=w7.output from rfl)).trans f4.output
     ·refine RwX.snoc f5 x _ rfl (fun i hi=>?_)
      match i,hi with
      | 0,_=>exact ⟨_,rfl,rfl⟩
      | 1,_=>exact ⟨_,rfl,rfl⟩
      | 2,_=>exact ⟨_,rfl,rfl⟩
      | 3,_=>exact ⟨_,rfl,rfl⟩
      | 4,_=>exact ⟨_,rfl,rfl⟩
      | 5,_=>exact ⟨_,rfl,rfl⟩
      | 6,_=>exact ⟨_,rfl,rfl⟩
      | 7,_=>exact ⟨_,rfl,rfl⟩
    clear HE ho6 hg6 hO hnew hone hsz hw7
    go_wp2
    go_roundw
    case rel=>exact ⟨j+1,a6,c6,by omega,by go_num,rfl,H9.out⟩
    case measure=>simp [intOf];omega
  ·obtain rfl:j=n:=by omega
   have hge:¬((j:Int) < j):=by omega
   have HE:Hid (RP w lo r (VRMs lo) (qa4 pMs j l) (.returned (.slice va j vc)) wr):=by
    have e1:qa4 pMs j l=.ok (xs,l1):=by rw [g2,Nat.sub_self];simp [qa4,conP,retP]
    rw [e1]
    refine ⟨_,rfl,⟨va,vc,cs,by rw [g1],?_,g6⟩,g3,g4⟩
    rw [g1]
    exact qay g5 hlo
   clear HJ HF g1 g2 g3 g4 g5 g6
   go_wp2
   go_ret
   exact HE.out
theorem qeb {P:Program} {md:Region.Mode} {ops:Array Oper} {Q:Exit→Act→World→Prop} {S:World→Prop} {fuel:Nat} {listed:Array Bool} {a:Act} {w:World}
  (h:∀(A:Array Value),Hid (A=a.tmps)→∀G:Nat→Array Bool→Array Value→World→Prop,Hid (∀f l t W,G f l t W=wpAnyH P md ops Q S f l ⟨t,a.defers⟩ W)→G fuel listed A w):wpAnyH P md ops Q S fuel listed a w:=
 h a.tmps rfl (fun f l t W=>wpAnyH P md ops Q S f l ⟨t,a.defers⟩ W) (fun _ _ _ _=>rfl)
theorem qfy {W:World} {lo Z i q T:Nat} {x:TkR} {u y:Value} {cs:Array Value} (h:tkO9 W lo x q u) (hZ:W.heap[Z]?=some (.cells cs T)) (hT:T≠3):tkO9 (W.setCell ⟨Z,i,none⟩ y) lo x q u:=by
 unfold tkO9 at h ⊢
 split at h <;> first | exact h | exact qak h hZ hT
theorem qfz {W:World} {lo Z i q T:Nat} {x:IsR} {u y:Value} {cs:Array Value} (h:isO9 W lo x q u) (hZ:W.heap[Z]?=some (.cells cs T)) (hT:T≠3):isO9 (W.setCell ⟨Z,i,none⟩ y) lo x q u:=by
 unfold isO9 at h ⊢
 split at h <;> first | exact h | exact qak h hZ hT
theorem qdy {w w':World} {lo r:Nat} {xs:List TkR} {u:Value} (h:VRTk lo w xs u) (hr:r < lo) (hg:w.grownBy w' (some r)):VRTk lo w' xs u:=by
 obtain ⟨sa,sc,cs,rfl,o,x⟩:=h
 exact ⟨sa,sc,cs,rfl,qaz o hr hg,RwX.mono x (fun _ _ _ h=>qmi h hr hg)⟩
theorem qat {W:World} {lo Z i:Nat} {xs:List TkR} {u y:Value} {c9:Array Value} (h:VRTk lo W xs u) (hZ:W.heap[Z]?=some (.cells c9 30)):VRTk lo (W.setCell ⟨Z,i,none⟩ y) xs u:=by
 obtain ⟨sa,sc,cs,rfl,o,x⟩:=h
 exact ⟨sa,sc,cs,rfl,qak o hZ (by decide),RwX.mono x (fun _ _ _ h=>qfy h hZ (by decide))⟩
theorem qc8 {w w':World} {lo:Nat} {xs:List TkR} {u:Value} (h:VRTk lo w xs u) (hb:qB w w'):VRTk lo w' xs u:=by
 obtain ⟨sa,sc,cs,rfl,o,x⟩:=h
 exact ⟨sa,sc,cs,rfl,qa2 o hb,RwX.mono x (fun _ _ _ h=>qdt h hb)⟩
theorem qei {w w':World} {lo r:Nat} {xs:List RgR} {u:Value} (h:VRRg lo w xs u) (hr:r < lo) (hg:w.grownBy w' (some r)):VRRg lo w' xs u:=by
 obtain ⟨sa,sc,cs,rfl,o,x⟩:=h
 exact ⟨sa,sc,cs,rfl,qaz o hr hg,x⟩
theorem qax {W:World} {lo Z i:Nat} {xs:List RgR} {u y:Value} {c9:Array Value} (h:VRRg lo W xs u) (hZ:W.heap[Z]?=some (.cells c9 30)):VRRg lo (W.setCell ⟨Z,i,none⟩ y) xs u:=by
 obtain ⟨sa,sc,cs,rfl,o,x⟩:=h
 exact ⟨sa,sc,cs,rfl,qak o hZ (by decide),x⟩
theorem qcj {w w':World} {lo:Nat} {xs:List RgR} {u:Value} (h:VRRg lo w xs u) (hb:qB w w'):VRRg lo w' xs u:=by
 obtain ⟨sa,sc,cs,rfl,o,x⟩:=h
 exact ⟨sa,sc,cs,rfl,qa2 o hb,x⟩
theorem qfj {w w':World} {lo r:Nat} {xs:List RsR} {u:Value} (h:VRRs lo w xs u) (hr:r < lo) (hg:w.grownBy w' (some r)):VRRs lo w' xs u:=by
 obtain ⟨sa,sc,cs,rfl,o,x⟩:=h
 exact ⟨sa,sc,cs,rfl,qaz o hr hg,x⟩
theorem qb0 {W:World} {lo Z i:Nat} {xs:List RsR} {u y:Value} {c9:Array Value} (h:VRRs lo W xs u) (hZ:W.heap[Z]?=some (.cells c9 30)):VRRs lo (W.setCell ⟨Z,i,none⟩ y) xs u:=by
 obtain ⟨sa,sc,cs,rfl,o,x⟩:=h
 exact ⟨sa,sc,cs,rfl,qak o hZ (by decide),x⟩
theorem qcz {w w':World} {lo:Nat} {xs:List RsR} {u:Value} (h:VRRs lo w xs u) (hb:qB w w'):VRRs lo w' xs u:=by
 obtain ⟨sa,sc,cs,rfl,o,x⟩:=h
 exact ⟨sa,sc,cs,rfl,qa2 o hb,x⟩
theorem qh6 {w w':World} {lo r:Nat} {xs:List CtR} {u:Value} (h:VRCt lo w xs u) (hr:r < lo) (hg:w.grownBy w' (some r)):VRCt lo w' xs u:=by
 obtain ⟨sa,sc,cs,rfl,o,x⟩:=h
 exact ⟨sa,sc,cs,rfl,qaz o hr hg,x⟩
theorem qb5 {W:World} {lo Z i:Nat} {xs:List CtR} {u y:Value} {c9:Array Value} (h:VRCt lo W xs u) (hZ:W.heap[Z]?=some (.cells c9 30)):VRCt lo (W.setCell ⟨Z,i,none⟩ y) xs u:=by
 obtain ⟨sa,sc,cs,rfl,o,x⟩:=h
 exact ⟨sa,sc,cs,rfl,qak o hZ (by decide),x⟩
theorem qdb {w w':World} {lo:Nat} {xs:List CtR} {u:Value} (h:VRCt lo w xs u) (hb:qB w w'):VRCt lo w' xs u:=by
 obtain ⟨sa,sc,cs,rfl,o,x⟩:=h
 exact ⟨sa,sc,cs,rfl,qa2 o hb,x⟩
theorem qkj {w w':World} {lo r:Nat} {xs:List AlR} {u:Value} (h:VRAl lo w xs u) (hr:r < lo) (hg:w.grownBy w' (some r)):VRAl lo w' xs u:=by
 obtain ⟨sa,sc,cs,rfl,o,x⟩:=h
 exact ⟨sa,sc,cs,rfl,qaz o hr hg,x⟩
theorem qb7 {W:World} {lo Z i:Nat} {xs:List AlR} {u y:Value} {c9:Array Value} (h:VRAl lo W xs u) (hZ:W.heap[Z]?=some (.cells c9 30)):VRAl lo (W.setCell ⟨Z,i,none⟩ y) xs u:=by
 obtain ⟨sa,sc,cs,rfl,o,x⟩:=h
 exact ⟨sa,sc,cs,rfl,qak o hZ (by decide),x⟩
theorem qdv {w w':World} {lo:Nat} {xs:List AlR} {u:Value} (h:VRAl lo w xs u) (hb:qB w w'):VRAl lo w' xs u:=by
 obtain ⟨sa,sc,cs,rfl,o,x⟩:=h
 exact ⟨sa,sc,cs,rfl,qa2 o hb,x⟩
theorem qpm {w w':World} {lo r:Nat} {xs:List IsR} {u:Value} (h:VRIs lo w xs u) (hr:r < lo) (hg:w.grownBy w' (some r)):VRIs lo w' xs u:=by
 obtain ⟨sa,sc,cs,rfl,o,x⟩:=h
 exact ⟨sa,sc,cs,rfl,qaz o hr hg,RwX.mono x (fun _ _ _ h=>qmj h hr hg)⟩
theorem qba {W:World} {lo Z i:Nat} {xs:List IsR} {u y:Value} {c9:Array Value} (h:VRIs lo W xs u) (hZ:W.heap[Z]?=some (.cells c9 30)):VRIs lo (W.setCell ⟨Z,i,none⟩ y) xs u:=by
 obtain ⟨sa,sc,cs,rfl,o,x⟩:=h
 exact ⟨sa,sc,cs,rfl,qak o hZ (by decide),RwX.mono x (fun _ _ _ h=>qfz h hZ (by decide))⟩
theorem qgp {w w':World} {lo:Nat} {xs:List IsR} {u:Value} (h:VRIs lo w xs u) (hb:qB w w'):VRIs lo w' xs u:=by
 obtain ⟨sa,sc,cs,rfl,o,x⟩:=h
 exact ⟨sa,sc,cs,rfl,qa2 o hb,RwX.mono x (fun _ _ _ h=>qdu h hb)⟩
theorem qbj {W:World} {lo Z i:Nat} {xs:List MsR} {u y:Value} {c9:Array Value} (h:VRMs lo W xs u) (hZ:W.heap[Z]?=some (.cells c9 30)):VRMs lo (W.setCell ⟨Z,i,none⟩ y) xs u:=by
 obtain ⟨sa,sc,cs,rfl,o,x⟩:=h
 exact ⟨sa,sc,cs,rfl,qak o hZ (by decide),x⟩
theorem qlc {w w':World} {lo:Nat} {xs:List MsR} {u:Value} (h:VRMs lo w xs u) (hb:qB w w'):VRMs lo w' xs u:=by
 obtain ⟨sa,sc,cs,rfl,o,x⟩:=h
 exact ⟨sa,sc,cs,rfl,qa2 o hb,x⟩
structure TbO (W:World) (lo:Nat) (tb:Tb) (v:Ts):Prop where
 t:VRTk lo W tb.tasks (slT v.t)
 g:VRRg lo W tb.rings (slT v.g)
 r:VRRs lo W tb.ress (slT v.r)
 k:VRCt lo W tb.ctrs (slT v.k)
 a:VRAl lo W tb.als (slT v.a)
 i:VRIs lo W tb.isrs (slT v.i)
 s:VRMs lo W tb.msgs (slT v.s)
theorem qdi {α:Type} {W:World} {lo T k:Nat} {P Q:α→Nat→Value→Prop} {xs:List α} {s:Sl} (h:∃(sa:Option Addr) (sc:Nat) (cs:List Value),slT s=.slice sa xs.length sc∧W.ownsRow lo T k (.slice sa xs.length sc) xs.length cs∧RwX k P xs cs) (hPQ:∀x i u,P x i u→Q x i u):RowsAt W k Q s xs:=by
 obtain ⟨sa,sc,cs,e,o,x⟩:=h
 obtain ⟨a1,n1,c1⟩:=s
 obtain ⟨rfl,rfl,rfl⟩:=Value.slice.inj e
 exact RwX.rows o (RwX.mono x hPQ)
theorem TbO.at {W:World} {lo:Nat} {tb:Tb} {v:Ts} (h:TbO W lo tb v):TbAt W tb v:=
 ⟨qdi h.t (fun x i u q=>qq2 q),qdi h.g (fun x i u q=>q),qdi h.r (fun x i u q=>q),qdi h.k (fun x i u q=>q),qdi h.a (fun x i u q=>q),qdi h.i (fun x i u q=>qq3 q),qdi h.s (fun x i u q=>q)⟩
theorem TbO.below {W W':World} {lo:Nat} {tb:Tb} {v:Ts} (h:TbO W lo tb v) (hb:qB W W'):TbO W' lo tb v:=
 ⟨qc8 h.t hb,qcj h.g hb,qcz h.r hb,qdb h.k hb,qdv h.a hb,qgp h.i hb,qlc h.s hb⟩
theorem qqh {fn:Func} {m:Nat} (hf:fn.results=#[.cell m 63]) (tmps:Array Value) (b:Nat) (w:World) (z0 z1:Value) (h2:tmps[m]?=some (.pointer (some ⟨b,0,none⟩))) (hk:w.heap[b]?=some (.cells #[z0,z1] 63 (0,0))) (h1:z0.oneCell'=true∧z1.oneCell'=true):(results fn tmps).run Tryz.prog w=.ok (.agg #[z0,z1]) w:=by
 have a1:=fun i=>cell_of_row w b i _ _ (0,0) hk
 have y0:=a1 0
 have y1:=a1 1
 simp at y0 y1
 simp [results,hf,go_sem,h2,y0,y1]
theorem qrv {w:World} {lo r:Nat} {l0:List UInt8} (t0:Rst w lo r l0) (j:Nat):Calls Tryz.prog 108 #[rdP r,I j] w fun e w'=>RP w lo r VRg (pRg l0) e w':=by
 have hlo:=t0.le
 have hrl:=t0.lt
 have hc0:=qc7 w r
 have hb1:=qa0 (w.alloc (rdO r)) (.cells #[I 0,I 0] 63)
 have hY0:=heap_alloc_new (w.alloc (rdO r)) (.cells #[I 0,I 0] 63)
 have HX:Hid (∀W,((w.alloc (rdO r)).alloc (.cells #[I 0,I 0] 63)).grownBy W (some r)→W.cell? ⟨w.heap.size,0,none⟩=some (.pointer (some ⟨r,0,none⟩))):=fun W hW=>hW.cell (by rw [qa6 hb1 _ _ (by simp)];exact hc0) (by show some w.heap.size≠some r;intro e;cases e;omega)
 have HY:Hid (∀W,((w.alloc (rdO r)).alloc (.cells #[I 0,I 0] 63)).grownBy W (some r)→W.heap[w.heap.size+1]?=some (.cells #[I 0,I 0] 63)):=fun W hW=>qb2 hW (by have:=hY0;rwa [show (w.alloc (rdO r)).heap.size=w.heap.size+1 by simp] at this) (by omega)
 have s0:=(t0.al (rdO r)).al (.cells #[I 0,I 0] 63)
 have HB:Hid (w.grownBy ((w.alloc (rdO r)).alloc (.cells #[I 0,I 0] 63)) (some r)):=qad ((qa0 w _).trans (hb1.mono (qa0 w _).size))
 have E0:Hid (pRg l0=pRg l0):=rfl
 clear hc0 hb1 hY0 t0
 go_enter Tryz.func108,Tryz.ntmps108
 go_upto_region 1 with fail
 generalize (w.alloc (rdO r)).alloc (.cells #[I 0,I 0] 63)=w1 at *
 have G0:=qad (r:=some r) (Below.refl w1.heap.size w1).drew
 have HC:=HX.out w1.drew G0
 refine wp_region_held_drew (S:=fun W=>W.cell? ⟨w.heap.size,0,none⟩=some (.pointer (some ⟨r,0,none⟩))) (by kernel_rfl) HC (fun hHeld=>?_)
 clear HC
 change wpAnyH _ _ _ _ _ _ #[false,false,false,false,false,false] _ _
 try simp only [qN]
 refine qTI 0 (rdP r) rfl hHeld ?_
 try simp only [qN]
 refine qTI 2 (rdP r) rfl hHeld ?_
 try simp only [qN]
 clear hHeld
 have t0:=s0.below (Below.refl w1.heap.size w1).drew
 clear s0
 generalize w1.drew=W0 at *
 refine qR1 (i:=1) rfl (fun K hK=>?_)
 go_simp
 refine (qb4 t0).mono ?_
 intro e W1 hR
 rcases hp:p1 l0 with c | ⟨p,l1⟩
 ·rw [hp] at hR
  obtain ⟨rfl,hg⟩:=qap hR
  have e9:RP w lo r VRg (pRg l0) (gup c) W1:=by
   rw [E0.out]
   unfold pRg
   rw [qaf hp]
   exact ⟨rfl,qa1 HB.out (qa1 G0 hg)⟩
  exact ⟨rfl,e9⟩
 rw [hp] at hR
 obtain ⟨u1,rfl,hv,t1,g1⟩:=qao hR
 have q:u1=I p:=hv
 subst q
 have GG:=qa1 G0 g1
 have EE:Hid (pRg l0=(andP p2 fun c=>retP ⟨p,c⟩) l1):=by
  show _=_
  rw [E0.out]
  unfold pRg
  rw [qa7 hp]
 skip
 refine hK.out _ _ (HX.out W1 GG) (fun hSS=>?_)
 clear hSS hK K hR hp E0 G0 t0
 have G0:=GG
 have E0:=EE
 clear GG EE g1
 try simp only [qN]
 refine qR1 (i:=3) rfl (fun K hK=>?_)
 go_simp
 refine (qdp t1).mono ?_
 intro e W2 hR
 rcases hp:p2 l1 with c | ⟨c,l2⟩
 ·rw [hp] at hR
  obtain ⟨rfl,hg⟩:=qap hR
  have e9:RP w lo r VRg (pRg l0) (gup c) W2:=by
   rw [E0.out]
   skip
   rw [qaf hp]
   exact ⟨rfl,qa1 HB.out (qa1 G0 hg)⟩
  exact ⟨rfl,e9⟩
 rw [hp] at hR
 obtain ⟨u2,rfl,hv,t2,g2⟩:=qao hR
 have q:u2=I c:=hv
 subst q
 have GG:=qa1 G0 g2
 have EE:Hid (pRg l0=(retP ⟨p,c⟩) l2):=by
  show _=_
  rw [E0.out]
  skip
  rw [qa7 hp]
 skip
 refine hK.out _ _ (HX.out W2 GG) (fun hSS=>?_)
 clear hSS hK K hR hp E0 G0 t1
 have G0:=GG
 have E0:=EE
 clear GG EE g2
 try simp only [qN]
 refine wpAnyH_take (i:=4) (v:=.agg #[I p,I c]) rfl (by kernel_rfl) (by kernel_rfl) (by kernel_rfl) (fun _ _ _ h=>h) (Or.inl ⟨by rfl,?_⟩) (HX.out W2 G0) ?_
 ·intro w' hSw
  try dsimp only at hSw
  go_simp
 try simp only [qN]
 have hY:=HY.out W2 G0
 have cY0:(W2).cell? ⟨w.heap.size+1,0,none⟩=some (I 0):=by rw [qcr hY];rfl
 have fY0:(W2).frozen? ⟨w.heap.size+1,0,none⟩=false:=frozen_of_row _ _ _ _ _ hY
 have hY0:=heap_setCell_same (W2) (w.heap.size+1) 0 _ _ (I p) hY
 have cY1:((W2).setCell ⟨w.heap.size+1,0,none⟩ (I p)).cell? ⟨w.heap.size+1,1,none⟩=some (I 0):=by rw [qcr hY0];rfl
 have fY1:((W2).setCell ⟨w.heap.size+1,0,none⟩ (I p)).frozen? ⟨w.heap.size+1,1,none⟩=false:=frozen_of_row _ _ _ _ _ hY0
 have hY1:=heap_setCell_same ((W2).setCell ⟨w.heap.size+1,0,none⟩ (I p)) (w.heap.size+1) 1 _ _ (I c) hY0
 refine qR1 (i:=5) rfl (fun K hK=>?_)
 go_simp
 have hSf:(qS2 W2 (w.heap.size+1) (I p) (I c)).cell? ⟨w.heap.size,0,none⟩=some (.pointer (some ⟨r,0,none⟩)):=by
  have hz:=HX.out W2 G0
  repeat rw [World.cell?_setCell_far _ _ _ _ (by show w.heap.size+1≠w.heap.size;omega)]
  exact hz
 refine hK.out _ _ hSf (fun hSS=>?_)
 clear hSS hK K
 try simp only [qN]
 refine wpAnyH_done (by kernel_rfl) ?_ _
 have hYL:(qS2 W2 (w.heap.size+1) (I p) (I c)).heap[w.heap.size+1]?=some (.cells #[I p,I c] 63):=hY1
 have hEnd:RP w lo r VRg (pRg l0) (.returned (.agg #[I p,I c])) (qS2 W2 (w.heap.size+1) (I p) (I c)):=by
  rw [E0.out]
  skip
  refine ⟨_,rfl,rfl,((t2.setY (by omega)).setY (by omega)),(qaa (qaa (qa1 HB.out G0) (by omega)) (by omega))⟩
 clear E0
 go_wp2
 refine bodyPost_ret (qqh Tryz.results108 _ (w.heap.size+1) _ _ _ rfl hYL ⟨rfl,rfl⟩) rfl ?_
 exact hEnd
theorem qqi {fn:Func} {m:Nat} (hf:fn.results=#[.cell m 80]) (tmps:Array Value) (b:Nat) (w:World) (z0 z1 z2:Value) (h2:tmps[m]?=some (.pointer (some ⟨b,0,none⟩))) (hk:w.heap[b]?=some (.cells #[z0,z1,z2] 80 (0,0))) (h1:z0.oneCell'=true∧z1.oneCell'=true∧z2.oneCell'=true):(results fn tmps).run Tryz.prog w=.ok (.agg #[z0,z1,z2]) w:=by
 have a1:=fun i=>cell_of_row w b i _ _ (0,0) hk
 have y0:=a1 0
 have y1:=a1 1
 have y2:=a1 2
 simp at y0 y1 y2
 simp [results,hf,go_sem,h2,y0,y1,y2]
theorem qrw {w:World} {lo r:Nat} {l0:List UInt8} (t0:Rst w lo r l0) (j:Nat):Calls Tryz.prog 112 #[rdP r,I j] w fun e w'=>RP w lo r VCt (pCt l0) e w':=by
 have hlo:=t0.le
 have hrl:=t0.lt
 have hc0:=qc7 w r
 have hb1:=qa0 (w.alloc (rdO r)) (.cells #[.int .u32 0,.int .u32 0,.int .u32 0] 80)
 have hY0:=heap_alloc_new (w.alloc (rdO r)) (.cells #[.int .u32 0,.int .u32 0,.int .u32 0] 80)
 have HX:Hid (∀W,((w.alloc (rdO r)).alloc (.cells #[.int .u32 0,.int .u32 0,.int .u32 0] 80)).grownBy W (some r)→W.cell? ⟨w.heap.size,0,none⟩=some (.pointer (some ⟨r,0,none⟩))):=fun W hW=>hW.cell (by rw [qa6 hb1 _ _ (by simp)];exact hc0) (by show some w.heap.size≠some r;intro e;cases e;omega)
 have HY:Hid (∀W,((w.alloc (rdO r)).alloc (.cells #[.int .u32 0,.int .u32 0,.int .u32 0] 80)).grownBy W (some r)→W.heap[w.heap.size+1]?=some (.cells #[.int .u32 0,.int .u32 0,.int .u32 0] 80)):=fun W hW=>qb2 hW (by have:=hY0;rwa [show (w.alloc (rdO r)).heap.size=w.heap.size+1 by simp] at this) (by omega)
 have s0:=(t0.al (rdO r)).al (.cells #[.int .u32 0,.int .u32 0,.int .u32 0] 80)
 have HB:Hid (w.grownBy ((w.alloc (rdO r)).alloc (.cells #[.int .u32 0,.int .u32 0,.int .u32 0] 80)) (some r)):=qad ((qa0 w _).trans (hb1.mono (qa0 w _).size))
 have E0:Hid (pCt l0=pCt l0):=rfl
 clear hc0 hb1 hY0 t0
 go_enter Tryz.func112,Tryz.ntmps112
 go_upto_region 1 with fail
 generalize (w.alloc (rdO r)).alloc (.cells #[.int .u32 0,.int .u32 0,.int .u32 0] 80)=w1 at *
 have G0:=qad (r:=some r) (Below.refl w1.heap.size w1).drew
 have HC:=HX.out w1.drew G0
 refine wp_region_held_drew (S:=fun W=>W.cell? ⟨w.heap.size,0,none⟩=some (.pointer (some ⟨r,0,none⟩))) (by kernel_rfl) HC (fun hHeld=>?_)
 clear HC
 change wpAnyH _ _ _ _ _ _ #[false,false,false,false,false,false,false,false] _ _
 try simp only [qN]
 refine qTI 0 (rdP r) rfl hHeld ?_
 try simp only [qN]
 refine qTI 2 (rdP r) rfl hHeld ?_
 try simp only [qN]
 refine qTI 4 (rdP r) rfl hHeld ?_
 try simp only [qN]
 clear hHeld
 have t0:=s0.below (Below.refl w1.heap.size w1).drew
 clear s0
 generalize w1.drew=W0 at *
 refine qR1 (i:=1) rfl (fun K hK=>?_)
 go_simp
 refine (qdh t0).mono ?_
 intro e W1 hR
 rcases hp:pn 4 l0 with c | ⟨a,l1⟩
 ·rw [hp] at hR
  obtain ⟨rfl,hg⟩:=qap hR
  have e9:RP w lo r VCt (pCt l0) (gup c) W1:=by
   rw [E0.out]
   unfold pCt
   rw [qaf hp]
   exact ⟨rfl,qa1 HB.out (qa1 G0 hg)⟩
  exact ⟨rfl,e9⟩
 rw [hp] at hR
 obtain ⟨u1,rfl,hv,t1,g1⟩:=qao hR
 have q:u1=.int .u32 (a:Int):=hv
 subst q
 have GG:=qa1 G0 g1
 have EE:Hid (pCt l0=(andP (pn 4) fun b=>andP (pn 4) fun c=>retP ⟨a,b,c⟩) l1):=by
  show _=_
  rw [E0.out]
  unfold pCt
  rw [qa7 hp]
 skip
 refine hK.out _ _ (HX.out W1 GG) (fun hSS=>?_)
 clear hSS hK K hR hp E0 G0 t0
 have G0:=GG
 have E0:=EE
 clear GG EE g1
 try simp only [qN]
 refine qR1 (i:=3) rfl (fun K hK=>?_)
 go_simp
 refine (qdh t1).mono ?_
 intro e W2 hR
 rcases hp:pn 4 l1 with c | ⟨b,l2⟩
 ·rw [hp] at hR
  obtain ⟨rfl,hg⟩:=qap hR
  have e9:RP w lo r VCt (pCt l0) (gup c) W2:=by
   rw [E0.out]
   skip
   rw [qaf hp]
   exact ⟨rfl,qa1 HB.out (qa1 G0 hg)⟩
  exact ⟨rfl,e9⟩
 rw [hp] at hR
 obtain ⟨u2,rfl,hv,t2,g2⟩:=qao hR
 have q:u2=.int .u32 (b:Int):=hv
 subst q
 have GG:=qa1 G0 g2
 have EE:Hid (pCt l0=(andP (pn 4) fun c=>retP ⟨a,b,c⟩) l2):=by
  show _=_
  rw [E0.out]
  skip
  rw [qa7 hp]
 skip
 refine hK.out _ _ (HX.out W2 GG) (fun hSS=>?_)
 clear hSS hK K hR hp E0 G0 t1
 have G0:=GG
 have E0:=EE
 clear GG EE g2
 try simp only [qN]
 refine qR1 (i:=5) rfl (fun K hK=>?_)
 go_simp
 refine (qdh t2).mono ?_
 intro e W3 hR
 rcases hp:pn 4 l2 with c | ⟨c,l3⟩
 ·rw [hp] at hR
  obtain ⟨rfl,hg⟩:=qap hR
  have e9:RP w lo r VCt (pCt l0) (gup c) W3:=by
   rw [E0.out]
   skip
   rw [qaf hp]
   exact ⟨rfl,qa1 HB.out (qa1 G0 hg)⟩
  exact ⟨rfl,e9⟩
 rw [hp] at hR
 obtain ⟨u3,rfl,hv,t3,g3⟩:=qao hR
 have q:u3=.int .u32 (c:Int):=hv
 subst q
 have GG:=qa1 G0 g3
 have EE:Hid (pCt l0=(retP ⟨a,b,c⟩) l3):=by
  show _=_
  rw [E0.out]
  skip
  rw [qa7 hp]
 skip
 refine hK.out _ _ (HX.out W3 GG) (fun hSS=>?_)
 clear hSS hK K hR hp E0 G0 t2
 have G0:=GG
 have E0:=EE
 clear GG EE g3
 try simp only [qN]
 refine wpAnyH_take (i:=6) (v:=.agg #[.int .u32 (a:Int),.int .u32 (b:Int),.int .u32 (c:Int)]) rfl (by kernel_rfl) (by kernel_rfl) (by kernel_rfl) (fun _ _ _ h=>h) (Or.inl ⟨by rfl,?_⟩) (HX.out W3 G0) ?_
 ·intro w' hSw
  try dsimp only at hSw
  go_simp
 try simp only [qN]
 have hY:=HY.out W3 G0
 have cY0:(W3).cell? ⟨w.heap.size+1,0,none⟩=some (.int .u32 0):=by rw [qcr hY];rfl
 have fY0:(W3).frozen? ⟨w.heap.size+1,0,none⟩=false:=frozen_of_row _ _ _ _ _ hY
 have hY0:=heap_setCell_same (W3) (w.heap.size+1) 0 _ _ (.int .u32 (a:Int)) hY
 have cY1:((W3).setCell ⟨w.heap.size+1,0,none⟩ (.int .u32 (a:Int))).cell? ⟨w.heap.size+1,1,none⟩=some (.int .u32 0):=by rw [qcr hY0];rfl
 have fY1:((W3).setCell ⟨w.heap.size+1,0,none⟩ (.int .u32 (a:Int))).frozen? ⟨w.heap.size+1,1,none⟩=false:=frozen_of_row _ _ _ _ _ hY0
 have hY1:=heap_setCell_same ((W3).setCell ⟨w.heap.size+1,0,none⟩ (.int .u32 (a:Int))) (w.heap.size+1) 1 _ _ (.int .u32 (b:Int)) hY0
 have cY2:(qS2 W3 (w.heap.size+1) (.int .u32 (a:Int)) (.int .u32 (b:Int))).cell? ⟨w.heap.size+1,2,none⟩=some (.int .u32 0):=by rw [qcr hY1];rfl
 have fY2:(qS2 W3 (w.heap.size+1) (.int .u32 (a:Int)) (.int .u32 (b:Int))).frozen? ⟨w.heap.size+1,2,none⟩=false:=frozen_of_row _ _ _ _ _ hY1
 have hY2:=heap_setCell_same (qS2 W3 (w.heap.size+1) (.int .u32 (a:Int)) (.int .u32 (b:Int))) (w.heap.size+1) 2 _ _ (.int .u32 (c:Int)) hY1
 refine qR1 (i:=7) rfl (fun K hK=>?_)
 go_simp
 have hSf:(qS3 W3 (w.heap.size+1) (.int .u32 (a:Int)) (.int .u32 (b:Int)) (.int .u32 (c:Int))).cell? ⟨w.heap.size,0,none⟩=some (.pointer (some ⟨r,0,none⟩)):=by
  have hz:=HX.out W3 G0
  repeat rw [World.cell?_setCell_far _ _ _ _ (by show w.heap.size+1≠w.heap.size;omega)]
  exact hz
 refine hK.out _ _ hSf (fun hSS=>?_)
 clear hSS hK K
 try simp only [qN]
 refine wpAnyH_done (by kernel_rfl) ?_ _
 have hYL:(qS3 W3 (w.heap.size+1) (.int .u32 (a:Int)) (.int .u32 (b:Int)) (.int .u32 (c:Int))).heap[w.heap.size+1]?=some (.cells #[.int .u32 (a:Int),.int .u32 (b:Int),.int .u32 (c:Int)] 80):=hY2
 have hEnd:RP w lo r VCt (pCt l0) (.returned (.agg #[.int .u32 (a:Int),.int .u32 (b:Int),.int .u32 (c:Int)])) (qS3 W3 (w.heap.size+1) (.int .u32 (a:Int)) (.int .u32 (b:Int)) (.int .u32 (c:Int))):=by
  rw [E0.out]
  skip
  refine ⟨_,rfl,rfl,(((t3.setY (by omega)).setY (by omega)).setY (by omega)),(qaa (qaa (qaa (qa1 HB.out G0) (by omega)) (by omega)) (by omega))⟩
 clear E0
 go_wp2
 refine bodyPost_ret (qqi Tryz.results112 _ (w.heap.size+1) _ _ _ _ rfl hYL ⟨rfl,rfl,rfl⟩) rfl ?_
 exact hEnd
theorem qqj {fn:Func} {m:Nat} (hf:fn.results=#[.cell m 85]) (tmps:Array Value) (b:Nat) (w:World) (z0 z1 z2 z3 z4 z5 z6:Value) (h2:tmps[m]?=some (.pointer (some ⟨b,0,none⟩))) (hk:w.heap[b]?=some (.cells #[z0,z1,z2,z3,z4,z5,z6] 85 (0,0))) (h1:z0.oneCell'=true∧z1.oneCell'=true∧z2.oneCell'=true∧z3.oneCell'=true∧z4.oneCell'=true∧z5.oneCell'=true∧z6.oneCell'=true):(results fn tmps).run Tryz.prog w=.ok (.agg #[z0,z1,z2,z3,z4,z5,z6]) w:=by
 have a1:=fun i=>cell_of_row w b i _ _ (0,0) hk
 have y0:=a1 0
 have y1:=a1 1
 have y2:=a1 2
 have y3:=a1 3
 have y4:=a1 4
 have y5:=a1 5
 have y6:=a1 6
 simp at y0 y1 y2 y3 y4 y5 y6
 simp [results,hf,go_sem,h2,y0,y1,y2,y3,y4,y5,y6]
theorem qrx {w:World} {lo r:Nat} {l0:List UInt8} (t0:Rst w lo r l0) (j:Nat):Calls Tryz.prog 114 #[rdP r,I j] w fun e w'=>RP w lo r VAl (pAl l0) e w':=by
 have hlo:=t0.le
 have hrl:=t0.lt
 have hc0:=qc7 w r
 have hb1:=qa0 (w.alloc (rdO r)) (.cells #[I 0,I 0,I 0,.int .u32 0,.int .u32 0,.int .u32 0,.int .u32 0] 85)
 have hY0:=heap_alloc_new (w.alloc (rdO r)) (.cells #[I 0,I 0,I 0,.int .u32 0,.int .u32 0,.int .u32 0,.int .u32 0] 85)
 have HX:Hid (∀W,((w.alloc (rdO r)).alloc (.cells #[I 0,I 0,I 0,.int .u32 0,.int .u32 0,.int .u32 0,.int .u32 0] 85)).grownBy W (some r)→W.cell? ⟨w.heap.size,0,none⟩=some (.pointer (some ⟨r,0,none⟩))):=fun W hW=>hW.cell (by rw [qa6 hb1 _ _ (by simp)];exact hc0) (by show some w.heap.size≠some r;intro e;cases e;omega)
 have HY:Hid (∀W,((w.alloc (rdO r)).alloc (.cells #[I 0,I 0,I 0,.int .u32 0,.int .u32 0,.int .u32 0,.int .u32 0] 85)).grownBy W (some r)→W.heap[w.heap.size+1]?=some (.cells #[I 0,I 0,I 0,.int .u32 0,.int .u32 0,.int .u32 0,.int .u32 0] 85)):=fun W hW=>qb2 hW (by have:=hY0;rwa [show (w.alloc (rdO r)).heap.size=w.heap.size+1 by simp] at this) (by omega)
 have s0:=(t0.al (rdO r)).al (.cells #[I 0,I 0,I 0,.int .u32 0,.int .u32 0,.int .u32 0,.int .u32 0] 85)
 have HB:Hid (w.grownBy ((w.alloc (rdO r)).alloc (.cells #[I 0,I 0,I 0,.int .u32 0,.int .u32 0,.int .u32 0,.int .u32 0] 85)) (some r)):=qad ((qa0 w _).trans (hb1.mono (qa0 w _).size))
 have E0:Hid (pAl l0=pAl l0):=rfl
 clear hc0 hb1 hY0 t0
 go_enter Tryz.func114,Tryz.ntmps114
 go_upto_region 1 with fail
 generalize (w.alloc (rdO r)).alloc (.cells #[I 0,I 0,I 0,.int .u32 0,.int .u32 0,.int .u32 0,.int .u32 0] 85)=w1 at *
 have G0:=qad (r:=some r) (Below.refl w1.heap.size w1).drew
 have HC:=HX.out w1.drew G0
 refine wp_region_held_drew (S:=fun W=>W.cell? ⟨w.heap.size,0,none⟩=some (.pointer (some ⟨r,0,none⟩))) (by kernel_rfl) HC (fun hHeld=>?_)
 clear HC
 change wpAnyH _ _ _ _ _ _ #[false,false,false,false,false,false,false,false,false,false,false,false,false] _ _
 try simp only [qN]
 refine qTI 0 (rdP r) rfl hHeld ?_
 try simp only [qN]
 refine qTI 2 (rdP r) rfl hHeld ?_
 try simp only [qN]
 refine qTI 4 (rdP r) rfl hHeld ?_
 try simp only [qN]
 refine qTI 7 (rdP r) rfl hHeld ?_
 try simp only [qN]
 refine qTI 9 (rdP r) rfl hHeld ?_
 try simp only [qN]
 clear hHeld
 have t0:=s0.below (Below.refl w1.heap.size w1).drew
 clear s0
 generalize w1.drew=W0 at *
 refine qR1 (i:=1) rfl (fun K hK=>?_)
 go_simp
 refine (qb4 t0).mono ?_
 intro e W1 hR
 rcases hp:p1 l0 with c | ⟨c,l1⟩
 ·rw [hp] at hR
  obtain ⟨rfl,hg⟩:=qap hR
  have e9:RP w lo r VAl (pAl l0) (gup c) W1:=by
   rw [E0.out]
   unfold pAl
   rw [qaf hp]
   exact ⟨rfl,qa1 HB.out (qa1 G0 hg)⟩
  exact ⟨rfl,e9⟩
 rw [hp] at hR
 obtain ⟨u1,rfl,hv,t1,g1⟩:=qao hR
 have q:u1=I c:=hv
 subst q
 have GG:=qa1 G0 g1
 have EE:Hid (pAl l0=(andP pAc fun a=>andP (pn 1) fun u=>andP (pn 4) fun t=>andP (pn 4) fun y=>retP ⟨c,a,u,t,y⟩) l1):=by
  show _=_
  rw [E0.out]
  unfold pAl
  rw [qa7 hp]
 skip
 refine hK.out _ _ (HX.out W1 GG) (fun hSS=>?_)
 clear hSS hK K hR hp E0 G0 t0
 have G0:=GG
 have E0:=EE
 clear GG EE g1
 try simp only [qN]
 refine qR1 (i:=3) rfl (fun K hK=>?_)
 go_simp
 refine (qoq t1).mono ?_
 intro e W2 hR
 rcases hp:pAc l1 with c | ⟨a,l2⟩
 ·rw [hp] at hR
  obtain ⟨rfl,hg⟩:=qap hR
  have e9:RP w lo r VAl (pAl l0) (gup c) W2:=by
   rw [E0.out]
   skip
   rw [qaf hp]
   exact ⟨rfl,qa1 HB.out (qa1 G0 hg)⟩
  exact ⟨rfl,e9⟩
 rw [hp] at hR
 obtain ⟨u2,rfl,hv,t2,g2⟩:=qao hR
 have q:u2=.agg #[I a.kind,I a.task,.int .u32 (a.mask:Int)]:=hv
 subst q
 have GG:=qa1 G0 g2
 have EE:Hid (pAl l0=(andP (pn 1) fun u=>andP (pn 4) fun t=>andP (pn 4) fun y=>retP ⟨c,a,u,t,y⟩) l2):=by
  show _=_
  rw [E0.out]
  skip
  rw [qa7 hp]
 skip
 refine hK.out _ _ (HX.out W2 GG) (fun hSS=>?_)
 clear hSS hK K hR hp E0 G0 t1
 have G0:=GG
 have E0:=EE
 clear GG EE g2
 try simp only [qN]
 refine qR1 (i:=5) rfl (fun K hK=>?_)
 go_simp
 refine (qb4 t2).mono ?_
 intro e W3 hR
 rcases hp:pn 1 l2 with c | ⟨u,l3⟩
 ·rw [show p1 l2=.error c from qaf hp] at hR
  obtain ⟨rfl,hg⟩:=qap hR
  have e9:RP w lo r VAl (pAl l0) (gup c) W3:=by
   rw [E0.out]
   skip
   rw [qaf hp]
   exact ⟨rfl,qa1 HB.out (qa1 G0 hg)⟩
  exact ⟨rfl,e9⟩
 rw [show p1 l2=.ok ((u:Int),l3) from qa7 hp] at hR
 obtain ⟨u3,rfl,hv,t3,g3⟩:=qao hR
 have q:u3=I u:=hv
 subst q
 have GG:=qa1 G0 g3
 have EE:Hid (pAl l0=(andP (pn 4) fun t=>andP (pn 4) fun y=>retP ⟨c,a,u,t,y⟩) l3):=by
  show _=_
  rw [E0.out]
  skip
  rw [qa7 hp]
 have hw3:IntKind.u32.wrap (u:Int)=u:=by have:=qci hp;rw [IntKind.wrap_u32];omega
 refine hK.out _ _ (HX.out W3 GG) (fun hSS=>?_)
 clear hSS hK K hR hp E0 G0 t2
 have G0:=GG
 have E0:=EE
 clear GG EE g3
 try simp only [qN]
 refine wpAnyH_take (i:=6) (v:=.int .u32 (u:Int)) rfl (by kernel_rfl) (by kernel_rfl) (by kernel_rfl) (fun _ _ _ h=>h) (Or.inl ⟨by rfl,?_⟩) (HX.out W3 G0) ?_
 ·intro w' hSw
  try dsimp only at hSw
  go_simp
 try simp only [qN]
 refine qR1 (i:=8) rfl (fun K hK=>?_)
 go_simp
 refine (qdh t3).mono ?_
 intro e W4 hR
 rcases hp:pn 4 l3 with c | ⟨t,l4⟩
 ·rw [hp] at hR
  obtain ⟨rfl,hg⟩:=qap hR
  have e9:RP w lo r VAl (pAl l0) (gup c) W4:=by
   rw [E0.out]
   skip
   rw [qaf hp]
   exact ⟨rfl,qa1 HB.out (qa1 G0 hg)⟩
  exact ⟨rfl,e9⟩
 rw [hp] at hR
 obtain ⟨u4,rfl,hv,t4,g4⟩:=qao hR
 have q:u4=.int .u32 (t:Int):=hv
 subst q
 have GG:=qa1 G0 g4
 have EE:Hid (pAl l0=(andP (pn 4) fun y=>retP ⟨c,a,u,t,y⟩) l4):=by
  show _=_
  rw [E0.out]
  skip
  rw [qa7 hp]
 skip
 refine hK.out _ _ (HX.out W4 GG) (fun hSS=>?_)
 clear hSS hK K hR hp E0 G0 t3
 have G0:=GG
 have E0:=EE
 clear GG EE g4
 try simp only [qN]
 refine qR1 (i:=10) rfl (fun K hK=>?_)
 go_simp
 refine (qdh t4).mono ?_
 intro e W5 hR
 rcases hp:pn 4 l4 with c | ⟨y,l5⟩
 ·rw [hp] at hR
  obtain ⟨rfl,hg⟩:=qap hR
  have e9:RP w lo r VAl (pAl l0) (gup c) W5:=by
   rw [E0.out]
   skip
   rw [qaf hp]
   exact ⟨rfl,qa1 HB.out (qa1 G0 hg)⟩
  exact ⟨rfl,e9⟩
 rw [hp] at hR
 obtain ⟨u5,rfl,hv,t5,g5⟩:=qao hR
 have q:u5=.int .u32 (y:Int):=hv
 subst q
 have GG:=qa1 G0 g5
 have EE:Hid (pAl l0=(retP ⟨c,a,u,t,y⟩) l5):=by
  show _=_
  rw [E0.out]
  skip
  rw [qa7 hp]
 skip
 refine hK.out _ _ (HX.out W5 GG) (fun hSS=>?_)
 clear hSS hK K hR hp E0 G0 t4
 have G0:=GG
 have E0:=EE
 clear GG EE g5
 try simp only [qN]
 refine wpAnyH_take (i:=11) (v:=.agg #[I c,I a.kind,I a.task,.int .u32 (a.mask:Int),.int .u32 (u:Int),.int .u32 (t:Int),.int .u32 (y:Int)]) rfl (by kernel_rfl) (by kernel_rfl) (by kernel_rfl) (fun _ _ _ h=>h) (Or.inl ⟨by rfl,?_⟩) (HX.out W5 G0) ?_
 ·intro w' hSw
  try dsimp only at hSw
  go_simp
 try simp only [qN]
 have hY:=HY.out W5 G0
 have cY0:(W5).cell? ⟨w.heap.size+1,0,none⟩=some (I 0):=by rw [qcr hY];rfl
 have fY0:(W5).frozen? ⟨w.heap.size+1,0,none⟩=false:=frozen_of_row _ _ _ _ _ hY
 have hY0:=heap_setCell_same (W5) (w.heap.size+1) 0 _ _ (I c) hY
 have cY1:((W5).setCell ⟨w.heap.size+1,0,none⟩ (I c)).cell? ⟨w.heap.size+1,1,none⟩=some (I 0):=by rw [qcr hY0];rfl
 have fY1:((W5).setCell ⟨w.heap.size+1,0,none⟩ (I c)).frozen? ⟨w.heap.size+1,1,none⟩=false:=frozen_of_row _ _ _ _ _ hY0
 have hY1:=heap_setCell_same ((W5).setCell ⟨w.heap.size+1,0,none⟩ (I c)) (w.heap.size+1) 1 _ _ (I a.kind) hY0
 have cY2:(qS2 W5 (w.heap.size+1) (I c) (I a.kind)).cell? ⟨w.heap.size+1,2,none⟩=some (I 0):=by rw [qcr hY1];rfl
 have fY2:(qS2 W5 (w.heap.size+1) (I c) (I a.kind)).frozen? ⟨w.heap.size+1,2,none⟩=false:=frozen_of_row _ _ _ _ _ hY1
 have hY2:=heap_setCell_same (qS2 W5 (w.heap.size+1) (I c) (I a.kind)) (w.heap.size+1) 2 _ _ (I a.task) hY1
 have cY3:(qS3 W5 (w.heap.size+1) (I c) (I a.kind) (I a.task)).cell? ⟨w.heap.size+1,3,none⟩=some (.int .u32 0):=by rw [qcr hY2];rfl
 have fY3:(qS3 W5 (w.heap.size+1) (I c) (I a.kind) (I a.task)).frozen? ⟨w.heap.size+1,3,none⟩=false:=frozen_of_row _ _ _ _ _ hY2
 have hY3:=heap_setCell_same (qS3 W5 (w.heap.size+1) (I c) (I a.kind) (I a.task)) (w.heap.size+1) 3 _ _ (.int .u32 (a.mask:Int)) hY2
 have cY4:(qS4 W5 (w.heap.size+1) (I c) (I a.kind) (I a.task) (.int .u32 (a.mask:Int))).cell? ⟨w.heap.size+1,4,none⟩=some (.int .u32 0):=by rw [qcr hY3];rfl
 have fY4:(qS4 W5 (w.heap.size+1) (I c) (I a.kind) (I a.task) (.int .u32 (a.mask:Int))).frozen? ⟨w.heap.size+1,4,none⟩=false:=frozen_of_row _ _ _ _ _ hY3
 have hY4:=heap_setCell_same (qS4 W5 (w.heap.size+1) (I c) (I a.kind) (I a.task) (.int .u32 (a.mask:Int))) (w.heap.size+1) 4 _ _ (.int .u32 (u:Int)) hY3
 have cY5:(qS5 W5 (w.heap.size+1) (I c) (I a.kind) (I a.task) (.int .u32 (a.mask:Int)) (.int .u32 (u:Int))).cell? ⟨w.heap.size+1,5,none⟩=some (.int .u32 0):=by rw [qcr hY4];rfl
 have fY5:(qS5 W5 (w.heap.size+1) (I c) (I a.kind) (I a.task) (.int .u32 (a.mask:Int)) (.int .u32 (u:Int))).frozen? ⟨w.heap.size+1,5,none⟩=false:=frozen_of_row _ _ _ _ _ hY4
 have hY5:=heap_setCell_same (qS5 W5 (w.heap.size+1) (I c) (I a.kind) (I a.task) (.int .u32 (a.mask:Int)) (.int .u32 (u:Int))) (w.heap.size+1) 5 _ _ (.int .u32 (t:Int)) hY4
 have cY6:(qS6 W5 (w.heap.size+1) (I c) (I a.kind) (I a.task) (.int .u32 (a.mask:Int)) (.int .u32 (u:Int)) (.int .u32 (t:Int))).cell? ⟨w.heap.size+1,6,none⟩=some (.int .u32 0):=by rw [qcr hY5];rfl
 have fY6:(qS6 W5 (w.heap.size+1) (I c) (I a.kind) (I a.task) (.int .u32 (a.mask:Int)) (.int .u32 (u:Int)) (.int .u32 (t:Int))).frozen? ⟨w.heap.size+1,6,none⟩=false:=frozen_of_row _ _ _ _ _ hY5
 have hY6:=heap_setCell_same (qS6 W5 (w.heap.size+1) (I c) (I a.kind) (I a.task) (.int .u32 (a.mask:Int)) (.int .u32 (u:Int)) (.int .u32 (t:Int))) (w.heap.size+1) 6 _ _ (.int .u32 (y:Int)) hY5
 refine qR1 (i:=12) rfl (fun K hK=>?_)
 go_simp
 have hSf:(qS7 W5 (w.heap.size+1) (I c) (I a.kind) (I a.task) (.int .u32 (a.mask:Int)) (.int .u32 (u:Int)) (.int .u32 (t:Int)) (.int .u32 (y:Int))).cell? ⟨w.heap.size,0,none⟩=some (.pointer (some ⟨r,0,none⟩)):=by
  have hz:=HX.out W5 G0
  repeat rw [World.cell?_setCell_far _ _ _ _ (by show w.heap.size+1≠w.heap.size;omega)]
  exact hz
 refine hK.out _ _ hSf (fun hSS=>?_)
 clear hSS hK K
 try simp only [qN]
 refine wpAnyH_done (by kernel_rfl) ?_ _
 have hYL:(qS7 W5 (w.heap.size+1) (I c) (I a.kind) (I a.task) (.int .u32 (a.mask:Int)) (.int .u32 (u:Int)) (.int .u32 (t:Int)) (.int .u32 (y:Int))).heap[w.heap.size+1]?=some (.cells #[I c,I a.kind,I a.task,.int .u32 (a.mask:Int),.int .u32 (u:Int),.int .u32 (t:Int),.int .u32 (y:Int)] 85):=hY6
 have hEnd:RP w lo r VAl (pAl l0) (.returned (.agg #[I c,I a.kind,I a.task,.int .u32 (a.mask:Int),.int .u32 (u:Int),.int .u32 (t:Int),.int .u32 (y:Int)])) (qS7 W5 (w.heap.size+1) (I c) (I a.kind) (I a.task) (.int .u32 (a.mask:Int)) (.int .u32 (u:Int)) (.int .u32 (t:Int)) (.int .u32 (y:Int))):=by
  rw [E0.out]
  skip
  refine ⟨_,rfl,rfl,(((((((t5.setY (by omega)).setY (by omega)).setY (by omega)).setY (by omega)).setY (by omega)).setY (by omega)).setY (by omega)),(qaa (qaa (qaa (qaa (qaa (qaa (qaa (qa1 HB.out G0) (by omega)) (by omega)) (by omega)) (by omega)) (by omega)) (by omega)) (by omega))⟩
 clear E0
 go_wp2
 refine bodyPost_ret (qqj Tryz.results114 _ (w.heap.size+1) _ _ _ _ _ _ _ _ rfl hYL ⟨rfl,rfl,rfl,rfl,rfl,rfl,rfl⟩) rfl ?_
 exact hEnd
end Go.Proofs.YtijgopkhdjaolaaGreat
