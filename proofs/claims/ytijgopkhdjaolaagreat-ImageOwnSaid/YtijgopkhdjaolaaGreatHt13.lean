import Derived.Test.YtijgopkhdjaolaaGreatXHt12
import Derived.Test.YtijgopkhdjaolaaGreatXHoq
import Derived.Deep.RegionHeldLaw
namespace Go.Proofs.YtijgopkhdjaolaaGreat
open Go.RowKit Go.Shelf Go.Sort
open Go.Proofs.YtijgopkhdjaolaaGreat.Ob (leB leV qa8 qaj crc Rd RdAll qa9)
set_option linter.unusedSimpArgs false
set_option linter.unusedVariables false
set_option maxHeartbeats 16000000
set_option maxRecDepth 100000
theorem qol (w:World) (tb:Tb) (v:Ts) (h:TbAt w tb v) (hw:WfT tb):Calls Tryz.prog 9 #[.agg (tbC tb v)] w fun e w'=>∃a n c,e=.returned (.tuple #[.slice a n c,I (encZ tb)])∧(chkP tb=true→n=(img tb).length∧OwB w w' (.slice a n c) (img tb))∧Below w.heap.size w w':=by
 unfold encZ
 cases hc:chkP tb with
 | false=>
  refine (qhm w tb v h hw hc).mono fun e w' q=>⟨none,0,0,q.1,(fun q=>by cases q),q.2⟩
 | true=>
  refine (qeu w tb v h hw hc).mono fun e w' ⟨u,q1,q2⟩=>?_
  obtain ⟨a,c,rfl⟩:=qah q2.1
  exact ⟨a,_,c,q1,fun _=>⟨rfl,q2⟩,q2.2⟩
theorem qjd (w:World) (tb:Tb) (v:Ts) (h:TbAt w tb v) (hw:WfT tb) (hz:SzT tb):Calls Tryz.prog 8 #[.agg (tbC tb v)] w fun e w'=>e=.returned (.bool true)∧Below w.heap.size w w':=by
 obtain ⟨ii,hii,hi0,hi1,hi2⟩:=info_parts qh5
 obtain ⟨it,hit,ht0,ht1,ht2⟩:=info_parts qj0
 obtain ⟨ig,hig,hg0,hg1,hg2⟩:=info_parts qj1
 obtain ⟨iu,hiu,hu0,hu1,hu2⟩:=info_parts ql3
 have hb1:=qa0 w (tO tb v)
 have hv1:=heap_alloc_new w (tO tb v)
 have HBB:Hid (Below w.heap.size w (w.alloc (tO tb v))):=hb1
 have HT:Hid (∀W,qB (w.alloc (tO tb v)) W→TbAt W tb v):=fun W hW=>h.below (belT hb1 hW)
 have HX:Hid (∀W,qB (w.alloc (tO tb v)) W→qP W (w.heap.size) tb v):=fun W hW=>qca ((hW.block _ (qa5 hv1)).trans hv1)
 have hCp:=(qhq (w.alloc (tO tb v)) tb v (h.below hb1) hz)
 have hPe:=fun W v' (hW:TbAt W tb v')=>qol W tb v' hW hw
 have hDe:=fun W v' (hW:TbAt W tb v')=>qjb W tb v' hW hw
 have hDc:chkP tb=true→∀(W:World) (a:Option Addr) (n c:Nat),Rd W a n c (img tb)→Calls Tryz.prog 15 #[.slice a n c] W fun e w'=>∃v' lo,W.heap.size≤lo∧e=.returned (.tuple #[.agg (tbC tb v'),I 0])∧TbO w' lo tb v'∧qB W w':=fun hc W a n c hr=>(qdw hr).mono fun e w' hD=>by
  rw [qke hc hw (Ob.crc_lt _ _ (by decide))] at hD
  exact hD
 have hSR:=fun W v1 v2 (h1:TbAt W tb v1) (h2:TbAt W tb v2)=>qev W tb v1 v2 h1 h2
 have hAl:=fun W=>qhp W
 have hnn:=fun W x=>numW W x
 have HOK:Hid (chkP tb=true→okTb tb∧(img tb).length≤1000000∧1≤tb.tasks.length∧encL tb=img tb):=fun hc=>by
  refine ⟨(qdo hc hw).1,qja (qdo hc hw).2,?_,by unfold encL;rw [if_pos hc]⟩
  unfold chkP qbh inI at hc
  simp only [Bool.and_eq_true,decide_eq_true_eq] at hc
  omega
 unfold tbC at *
 clear hb1 hv1 h hw hz
 go_enter Tryz.func8,Tryz.ntmps8
 go_upto_region 1 with fail
 generalize w.alloc (.cells (qC tb v) 30)=w1 at *
 generalize hX0:w.heap.size=X0 at *
 have HX0:Hid (w.heap.size=X0):=hX0
 clear hX0
 obtain ⟨x0,x1,x2,x3,x4,x5,x6,x7,x8,x9,x10,x11,x12⟩:=HX.out w1 (Below.refl _ _)
 go_upto_region 2 with (first | (go_at_call 20;refine hCp.mono ?_;clear hCp;rintro e w2 ⟨v2,rfl,hT2,b2⟩;have hT2:=hT2.at))
 clear x0 x1 x2 x3 x4 x5 x6 x7 x8 x9 x10 x11 x12
 have hb3:=qa0 w2 (tO tb v2)
 have hv3:=heap_alloc_new w2 (tO tb v2)
 have HT3:Hid (∀W,qB (w2.alloc (tO tb v2)) W→TbAt W tb v2):=fun W hW=>hT2.below (belT hb3 hW)
 have HX3:Hid (∀W,qB (w2.alloc (tO tb v2)) W→qP W (w2.heap.size) tb v2):=fun W hW=>qca ((hW.block _ (qa5 hv3)).trans hv3)
 have HB3:Hid (qB w1 (w2.alloc (tO tb v2))):=belT b2 hb3
 clear hb3 hv3 b2 hT2
 generalize w2.alloc (.cells (qC tb v2) 30)=w3 at *
 generalize w2.heap.size=X3 at *
 obtain ⟨x0,x1,x2,x3,x4,x5,x6,x7,x8,x9,x10,x11,x12⟩:=HX.out w3 HB3.out
 have hP:=hPe w3 v (HT.out w3 HB3.out)
 go_upto_region 3 with (first | (go_at_call 9;refine hP.mono ?_;clear hP;rintro e w4 ⟨a1,n1,c1,rfl,r1,b4⟩))
 clear x0 x1 x2 x3 x4 x5 x6 x7 x8 x9 x10 x11 x12
 have hb4:=belT HB3.out b4
 obtain ⟨x0,x1,x2,x3,x4,x5,x6,x7,x8,x9,x10,x11,x12⟩:=HX.out w4 hb4
 have hP:=hPe w4 v (HT.out w4 hb4)
 go_upto_region 4 with (first | (go_at_call 9;refine hP.mono ?_;clear hP;rintro e w5 ⟨a2,n2,c2,rfl,r2,b5⟩))
 clear x0 x1 x2 x3 x4 x5 x6 x7 x8 x9 x10 x11 x12
 have hb5:=belT hb4 b5
 cases hc:chkP tb with
 | false=>
  have hz9:encZ tb=90:=by unfold encZ;rw [hc];rfl
  rw [hz9]
  clear r1 r2 HOK hDc hDe hPe
  go_wp2_with (first
   | (go_at_call 11;refine (hnn _ _).mono ?_;rintro e w' ⟨rfl,rfl⟩)
   | (go_at_call 12;refine (hAl _).mono ?_;rintro e w8 ⟨rfl,b8⟩;have HB8:Hid (qB w1 w8):=belT hb5 b8;clear b8))
  go_ret
  have hX0:=HX0.out
  subst hX0
  exact ⟨rfl,belT HBB.out HB8.out⟩
 | true=>
  have hz9:encZ tb=0:=by unfold encZ;rw [hc];rfl
  rw [hz9]
  obtain ⟨hn1,o1⟩:=r1 hc
  obtain ⟨hn2,o2⟩:=r2 hc
  have HO:=HOK.out hc
  have hDc:=hDc hc
  have hr2:=qbt o2 hn2.symm (by rw [hn2];exact HO.2.1)
  have HA:Hid (w5.ownsRow w3.heap.size 5 1 (.slice a1 n1 c1) n1 (Bs8 (img tb))∧(∀g,(Value.slice a1 n1 c1).ownBlock=some g→g < w4.heap.size)∧n1≤1000000):=⟨by have:=qa2 o1.1 b5;rwa [←hn1] at this,fun g hg=>(o1.1.lt g hg).2,by rw [hn1];exact HO.2.1⟩
  have HBb:Hid (w5.ownsRow w4.heap.size 5 1 (.slice a2 n2 c2) n2 (Bs8 (img tb))∧n2=(img tb).length∧n2≤1000000):=⟨by have:=o2.1;rwa [←hn2] at this,hn2,by rw [hn2];exact HO.2.1⟩
  have H35:Hid (qB w3 w5∧w3.heap.size≤w4.heap.size∧w4.heap.size≤w5.heap.size):=⟨belT b4 b5,b4.size,b5.size⟩
  have hP:=hDc w5 a2 n2 c2 hr2
  have HOk:Hid (okTb tb∧1≤tb.tasks.length∧encL tb=img tb):=⟨HO.1,HO.2.2.1,HO.2.2.2⟩
  clear r1 r2 o1 o2 HOK HO hPe hr2 b4 b5 hb4 hb5 hn1 hn2 hz9 hc
  go_upto_region 6 with (first | (go_at_call 11;refine (hnn _ _).mono ?_;rintro e w' ⟨rfl,rfl⟩))
  go_upto_region 7 with (first | (go_at_call 15;refine hP.mono ?_;clear hP;rintro e w6 ⟨vu,lu,hlu,rfl,hTu,b6⟩))
  have hb7:=qa0 w6 (tO tb vu)
  have H7:Hid (w5.heap.size≤lu∧TbO (w6.alloc (tO tb vu)) lu tb vu∧qB w5 (w6.alloc (tO tb vu))∧(w6.alloc (tO tb vu)).heap[w6.heap.size]?=some (tO tb vu)∧w6.heap.size < (w6.alloc (tO tb vu)).heap.size∧w5.heap.size≤w6.heap.size):=⟨hlu,hTu.below hb7,belT b6 hb7,heap_alloc_new w6 (tO tb vu),qa5 (heap_alloc_new w6 (tO tb vu)),b6.size⟩
  have hr2:=qa9 (qa2 HBb.out.1 H7.out.2.2.1) (by have:=HBb.out.2.2;omega)
  have hP:=hDc (w6.alloc (tO tb vu)) a2 n2 c2 hr2
  clear hlu hTu b6 hb7 hr2 hDc
  unfold tbC at hP
  generalize w6.alloc (.cells (qC tb vu) 30)=w7 at *
  generalize w6.heap.size=X8 at *
  go_upto_region 8 with (first | (go_at_call 15;refine hP.mono ?_;clear hP;rintro e w8 ⟨vv,lv,hlv,rfl,hTv,b8⟩))
  have hb9:=qa0 w8 (tO tb vv)
  obtain ⟨Z,hZd⟩:∃Z:Nat→Prop,∀k,Z k ↔ (k < w3.heap.size∨(w4.heap.size≤k∧k < w5.heap.size)∨(w7.heap.size≤k∧k < (w8.alloc (tO tb vv)).heap.size)):=⟨_,fun k=>Iff.rfl⟩
  have hv9:=heap_alloc_new w8 (tO tb vv)
  have hb79:=belT b8 hb9
  have HS:Hid (JE Z (w8.alloc (tO tb vv)) (w8.alloc (tO tb vv)) X8 (.slice vu.t.a vu.t.n vu.t.c) tb.tasks.length (.slice vu.g.a vu.g.n vu.g.c) tb.rings.length∧OC Z (w8.alloc (tO tb vv)) (.slice vu.t.a vu.t.n vu.t.c) tb.tasks.length∧vu.t.n=tb.tasks.length∧vu.g.n=tb.rings.length):=by
   have e1:=H35.out
   have e2:=H7.out
   have e3:=hb79.size
   have e4:=e2.2.2.1.size
   refine JE.start (fun k hk=>?_) hb79 (fun g h1 h2 hk=>?_) e2.2.1 e2.2.2.2.1 (fun x hx=>?_)
   ·rcases (hZd k).1 hk with q | q | q <;> omega
   ·have:=e2.1
    rcases (hZd g).1 hk with q | q | q <;> omega
   ·have hh:=(HOk.out.1.r0 x hx).2.2.2.2.2.1.1
    omega
  have HNX:Hid (¬Z X8):=fun hk=>by
   have e1:=H35.out
   have e2:=H7.out
   rcases (hZd X8).1 hk with q | q | q <;> omega
  have HA9:Hid (OE Z (w8.alloc (tO tb vv)) 5 1 (.slice a1 n1 c1) n1∧n1≤1000000):=by
   have e1:=H35.out
   have e2:=H7.out
   have e3:=e2.2.2.1.size
   refine ⟨⟨⟨_,qa2 (qa2 (qay HA.out.1 (Nat.zero_le _)) e2.2.2.1) hb79⟩,fun g hg hk=>?_⟩,HA.out.2.2⟩
   have q1:=HA.out.2.1 g hg
   have q2:=(HA.out.1.lt g hg).1
   rcases (hZd g).1 hk with q | q | q <;> omega
  have HE:Hid (∀W,Kp Z (w8.alloc (tO tb vv)) W→qB w1 W∧(TbAt W tb v∧TbAt W tb v2∧TbAt W tb vv∧Rd W a2 n2 c2 (img tb))∧(qP W X0 tb v)∧(qP W X3 tb v2)∧(qP W (w8.heap.size) tb vv)):=fun W hW=>by
   have e1:=H35.out
   have e2:=H7.out
   have b39:=belT e1.1 (belT e2.2.2.1 hb79)
   have b3:qB w3 W:=⟨hW.os.trans b39.os,hW.tape.trans b39.tape,hW.output.trans b39.output,Nat.le_trans b39.size hW.size,fun k hk=>(hW.block k ((hZd k).2 (Or.inl hk))).trans (b39.block k hk)⟩
   have b1:=belT HB3.out b3
   have b59:=belT e2.2.2.1 hb79
   refine ⟨b1,⟨HT.out W b1,HT3.out W b3,TbO.at ((hTv.below hb9).blk fun g h1 h2=>hW.block g ((hZd g).2 (Or.inr (Or.inr ⟨by omega,h2⟩)))),qa9 (qcn HBb.out.1 fun g h1 h2=>(hW.block g ((hZd g).2 (Or.inr (Or.inl ⟨h1,h2⟩)))).trans (b59.block g h2)) (by have:=HBb.out.2.2;omega)⟩,HX.out W b1,HX3.out W b3,qca ((hW.block _ ((hZd _).2 (Or.inr (Or.inr ⟨b8.size,qa5 hv9⟩)))).trans hv9)⟩
  have HN:Hid (1≤tb.tasks.length∧tb.tasks.length < 65536∧tb.rings.length < 65536∧encL tb=img tb):=⟨HOk.out.2.1,HOk.out.1.n0,HOk.out.1.n1,HOk.out.2.2⟩
  clear HX HX3 HT HT3 HB3 HA HBb H35 HOk H7 hlv hTv b8 hb9 hv9 hb79 hZd
  generalize w8.alloc (.cells (qC tb vv) 30)=w9 at *
  generalize w8.heap.size=X10 at *
  obtain ⟨⟨ta,tn,tcp⟩,⟨ra,rn,rc⟩,u3,u4,u5,u6,u7⟩:=vu
  dsimp only at HS
  obtain ⟨hJ,hC,e1,e2⟩:=HS.out
  subst e1
  subst e2
  clear HS
  generalize hnt:tb.tasks.length=nt at *
  generalize hng:tb.rings.length=ng at *
  have HJ:Hid (JE Z w9 w9 X8 (.slice ta nt tcp) nt (.slice ra ng rc) ng∧OC Z w9 (.slice ta nt tcp) nt∧OE Z w9 5 1 (.slice a1 n1 c1) n1):=⟨hJ,hC,HA9.out.1⟩
  have hna:=HA9.out.2
  clear hJ hC HA9
  go_wp2
  go_loopw [12] (fun v12 wr=>∃k:Nat,k≤n1∧v12=I k∧Hid (JE Z w9 wr X8 (.slice ta nt tcp) nt (.slice ra ng rc) ng∧OC Z wr (.slice ta nt tcp) nt∧OE Z wr 5 1 (.slice a1 n1 c1) n1)) (fun v12 _=>n1 - (intOf v12).toNat)
  case atStart=>exact ⟨0,by omega,rfl,HJ.out⟩
  case round=>
   clear HJ
   obtain ⟨k,hk,rfl,HJ⟩:=hrel
   by_cases hlt:k < n1
   ·have hltI:(k:Int) < n1:=by omega
    obtain ⟨g,off,c,e,hcm,hnc,-,-,hq⟩:=HJ.out.2.2.at hlt
    obtain ⟨⟨x,q1⟩,q2,q3⟩:=hq 0 (by omega)
    rw [Nat.mul_one,Nat.add_zero] at q1 q2 q3
    have HF:=q3 (.int .u8 7)
    have HJ2:Hid (JE Z w9 (wr.setCell ⟨g,off+k,none⟩ (.int .u8 7)) X8 (.slice ta nt tcp) nt (.slice ra ng rc) ng∧OC Z (wr.setCell ⟨g,off+k,none⟩ (.int .u8 7)) (.slice ta nt tcp) nt∧OE Z (wr.setCell ⟨g,off+k,none⟩ (.int .u8 7)) 5 1 (.slice a1 n1 c1) n1):=⟨HJ.out.1.fr HF (by decide),HJ.out.2.1.fr HJ.out.1.t HF (by decide),HJ.out.2.2.shp HF.shp⟩
    injection e with e1 e2 e3
    subst e1
    clear HF q3 hq HJ
    go_wp2
    go_roundw
    case rel=>exact ⟨k+1,by omega,by go_num,HJ2.out⟩
    case measure=>simp [intOf];omega
   ·obtain rfl:k=n1:=by omega
    have hge:¬((k:Int) < k):=by omega
    generalize k=n1 at *
    go_wp2
    go_loopw [13,14,15,16,17] (fun v13 v14 _ _ _ wr=>∃k s:Nat,k≤nt∧v14=I k∧v13=I s∧40 * k≤s∧s≤k * 65600∧Hid (JE Z w9 wr X8 (.slice ta nt tcp) nt (.slice ra ng rc) ng∧OC Z wr (.slice ta nt tcp) nt∧OE Z wr 5 1 (.slice a1 n1 c1) n1)) (fun _ v14 _ _ _ _=>nt - (intOf v14).toNat)
    case atStart=>exact ⟨0,0,by omega,rfl,rfl,by omega,by omega,HJ.out⟩
    case round=>
     clear HJ
     obtain ⟨k,s,hk,rfl,rfl,hs1,hs2,HJ⟩:=hrel
     have hntb:=HN.out.2.1
     by_cases hlt:k < nt
     ·have hltI:(k:Int) < nt:=by omega
      have hcx:=HJ.out.1.cells
      obtain ⟨c2,-,-,-⟩:=hcx
      obtain ⟨g,off,c,e,hcm,hnc,hZg,hcur,hq⟩:=HJ.out.1.t.at hlt
      obtain ⟨ls,m,lc,q6,hm,hE⟩:=HJ.out.2.1 g off nt c e k hlt
      have HK:Hid (k < nt∧m≤65536∧nt≤c∧40 * k≤s∧s≤k * 65600):=⟨hlt,hm,hnc,hs1,hs2⟩
      injection e with e1 e2 e3
      subst e1
      subst e3
      have HL:Hid (JE Z w9 wr X8 (.slice (some ⟨g,off,none⟩) nt tcp) nt (.slice ra ng rc) ng∧OC Z wr (.slice (some ⟨g,off,none⟩) nt tcp) nt∧OE Z wr 5 1 (.slice a1 n1 c1) n1∧OE Z wr 3 1 (.slice ls m lc) m):=⟨HJ.out.1,HJ.out.2.1,HJ.out.2.2,hE⟩
      have HO2:Hid (OE Z wr 61 8 (.slice (some ⟨g,off,none⟩) nt tcp) nt):=HJ.out.1.t
      clear HJ hE hZg hcur hq hs1 hs2
      clear hm hDc
      go_wp2
      go_loopw [16] (fun v16 wr=>∃q:Nat,q≤m∧v16=I q∧Hid (JE Z w9 wr X8 (.slice (some ⟨g,off,none⟩) nt tcp) nt (.slice ra ng rc) ng∧OC Z wr (.slice (some ⟨g,off,none⟩) nt tcp) nt∧OE Z wr 5 1 (.slice a1 n1 c1) n1∧OE Z wr 3 1 (.slice ls m lc) m)) (fun v16 _=>m - (intOf v16).toNat)
      case atStart=>exact ⟨0,by omega,rfl,HL.out⟩
      case round=>
       clear HL
       obtain ⟨q,hq9,rfl,HL⟩:=hrel
       by_cases hqm:q < m
       ·have hqI:(q:Int) < m:=by omega
        obtain ⟨g4,o4,c4,e4,hcm4,hnc4,-,-,hq4⟩:=HL.out.2.2.2.at hqm
        obtain ⟨⟨x,p1⟩,p2,p3⟩:=hq4 0 (by omega)
        rw [Nat.mul_one,Nat.add_zero] at p1 p2 p3
        have HF:=p3 (I (-1))
        have HL2:Hid (JE Z w9 (wr.setCell ⟨g4,o4+q,none⟩ (I (-1))) X8 (.slice (some ⟨g,off,none⟩) nt tcp) nt (.slice ra ng rc) ng∧OC Z (wr.setCell ⟨g4,o4+q,none⟩ (I (-1))) (.slice (some ⟨g,off,none⟩) nt tcp) nt∧OE Z (wr.setCell ⟨g4,o4+q,none⟩ (I (-1))) 5 1 (.slice a1 n1 c1) n1∧OE Z (wr.setCell ⟨g4,o4+q,none⟩ (I (-1))) 3 1 (.slice ls m lc) m):=⟨HL.out.1.fr HF (by decide),HL.out.2.1.fr HL.out.1.t HF (by decide),HL.out.2.2.1.shp HF.shp,HL.out.2.2.2.shp HF.shp⟩
        injection e4 with e1 e2 e3
        subst e1
        have hm6:=HK.out.2.1
        clear HF p3 hq4 HL
        go_wp2
        go_roundw
        case rel=>exact ⟨q+1,by omega,by go_num,HL2.out⟩
        case measure=>simp [intOf];omega
       ·obtain rfl:q=m:=by omega
        have hgem:¬((q:Int) < q):=by omega
        generalize q=m at *
        go_wp2
        go_loopw [15,17] (fun v15 v17 wr=>∃(q:Nat) (la:Option Addr) (lc:Nat),q≤40∧v17=I q∧v15=.slice la (m+q) lc∧Hid (JE Z w9 wr X8 (.slice (some ⟨g,off,none⟩) nt tcp) nt (.slice ra ng rc) ng∧OC Z wr (.slice (some ⟨g,off,none⟩) nt tcp) nt∧OE Z wr 5 1 (.slice a1 n1 c1) n1∧OE Z wr 3 1 (.slice la (m+q) lc) (m+q))) (fun _ v17 _=>40 - (intOf v17).toNat)
        case atStart=>exact ⟨0,ls,lc,by omega,rfl,rfl,HL.out⟩
        case round=>
         clear HL
         obtain ⟨q,la,lc2,hq40,rfl,rfl,HL⟩:=hrel
         by_cases hq4:q < 40
         ·have hqI:(q:Int) < 40:=by omega
          have hm4:=HK.out.2.1
          have HZ:=HL.out.1.z
          have hF0:Fr Z 3 wr (wr.alloc (.cells #[I (-2)] 3)):=Fr.alloc _ HZ
          have hnew:=qb3 wr #[I (-2)] 3
          have hE4:=HL.out.2.2.2.shp hF0.shp
          have hZ4:∀k,Z k→k < (wr.alloc (.cells #[I (-2)] 3)).heap.size:=fun k hk=>Nat.lt_of_lt_of_le (HZ k hk) hF0.kp.size
          go_wp2_with (first | (at_builtin;refine qcp rfl (.tmp 82) (.tmp 83) 40 rfl 3 ii (I 0) 1 8 Tryz.underlying40 hii hi0 hi1 hi2 rfl (by decide) hZ4 _ _ rfl hE4 ⟨wr.heap.size,0,none⟩ 1 1 (#[I (-2)]:Array Value).toList rfl rfl hnew (by intro u hu;simp at hu;subst hu;rfl) (by unfold maxLen;omega) (by omega) ?_;intro v9 w8 hE9 hF9;obtain ⟨⟨ys9,hy9⟩,hz9⟩:=hE9;obtain ⟨a9,c9,rfl⟩:=qah hy9;have hF:=hF0.trans hF9;have HL2:Hid (JE Z w9 w8 X8 (.slice (some ⟨g,off,none⟩) nt tcp) nt (.slice ra ng rc) ng∧OC Z w8 (.slice (some ⟨g,off,none⟩) nt tcp) nt∧OE Z w8 5 1 (.slice a1 n1 c1) n1∧OE Z w8 3 1 (.slice a9 (m+q+1) c9) (m+q+1)):=⟨HL.out.1.fr hF (by decide),HL.out.2.1.fr HL.out.1.t hF (by decide),HL.out.2.2.1.shp hF.shp,⟨ys9,hy9⟩,hz9⟩;clear hy9 hz9 hF hF9 hF0 hE4 hZ4 hnew HZ))
          go_roundw
          case rel=>exact ⟨q+1,a9,c9,by omega,by go_num,rfl,HL2.out⟩
          case measure=>simp [intOf];omega
         ·obtain rfl:q=40:=by omega
          have hge4:¬((40:Int) < 40):=by omega
          obtain ⟨hk9,hm9,hc9,hs1,hs2⟩:=HK.out
          have hsw:IntKind.i64.wrap ((s:Int)+((m+40:Nat):Int))=((s+(m+40):Nat):Int):=by rw [IntKind.wrap_i64];omega
          obtain ⟨c2,-,-,-⟩:=HL.out.1.cells
          obtain ⟨g5,o5,c5,e5,-,-,hZg5,⟨cur5,hcur5⟩,hq5⟩:=HL.out.1.t.at hk9
          injection e5 with e1 e2 e3
          injection e1 with e1
          injection e1 with e1 e6 e7
          subst e1
          subst e6
          obtain ⟨⟨x,p1⟩,p2,p3⟩:=hq5 0 (by omega)
          rw [Nat.add_zero] at p1 p2 p3
          have HF:=p3 (I (-5))
          have HL2:Hid (JE Z w9 (wr.setCell ⟨g,off+k * 8,none⟩ (I (-5))) X8 (.slice (some ⟨g,off,none⟩) nt tcp) nt (.slice ra ng rc) ng∧OC Z (wr.setCell ⟨g,off+k * 8,none⟩ (I (-5))) (.slice (some ⟨g,off,none⟩) nt tcp) nt∧OE Z (wr.setCell ⟨g,off+k * 8,none⟩ (I (-5))) 5 1 (.slice a1 n1 c1) n1):=⟨HL.out.1.fr HF (by decide),HL.out.2.1.prio k _ HF.shp,HL.out.2.2.1.shp HF.shp⟩
          clear HF p3 hq5 HL hcur5 hZg5
          go_wp2
          go_roundw
          case rel=>exact ⟨k+1,s+(m+40),by omega,by go_num,by go_num,by omega,by omega,HL2.out⟩
          case measure=>simp [intOf];omega
     ·obtain rfl:k=nt:=by omega
      have hge2:¬((k:Int) < k):=by omega
      generalize k=nt at *
      have hngb:=HN.out.2.2.1
      have hs40:(40:Int)≤(s:Int):=by have:=HN.out.1;omega
      clear hs2 hDc
      obtain ⟨c2,-,-,-⟩:=HJ.out.1.cells
      go_wp2
      clear c2
      go_loopw [4,18] (fun v4 v18 wr=>∃(k:Nat) (la:Option Addr) (lc:Nat) (ta':Option Addr) (tc':Nat) (ra':Option Addr) (rc':Nat),k≤40∧v18=I k∧v4=.slice la (n1+k) lc∧Hid (JE Z w9 wr X8 (.slice ta' (nt+k) tc') (nt+k) (.slice ra' (ng+k) rc') (ng+k)∧OE Z wr 5 1 (.slice la (n1+k) lc) (n1+k))) (fun _ v18 _=>40 - (intOf v18).toNat)
      case atStart=>exact ⟨0,a1,c1,ta,tcp,ra,rc,by omega,rfl,rfl,HJ.out.1,HJ.out.2.2⟩
      case round=>
       clear HJ
       obtain ⟨k,la,lc,ta',tc',ra',rc',hk,rfl,rfl,HJ⟩:=hrel
       by_cases hlt:k < 40
       ·have hltI:(k:Int) < 40:=by omega
        have HZ:=HJ.out.1.z
        have hF0:Fr Z 5 wr (wr.alloc (.cells #[.int .u8 8] 5)):=Fr.alloc _ HZ
        have hnew:=qb3 wr #[.int .u8 8] 5
        have hZ4:∀k,Z k→k < (wr.alloc (.cells #[.int .u8 8] 5)).heap.size:=fun k hk=>Nat.lt_of_lt_of_le (HZ k hk) hF0.kp.size
        have hE4:=HJ.out.2.shp hF0.shp
        go_upto_region 31 with (first | (at_builtin;refine qcp rfl (.tmp 98) (.tmp 99) 31 rfl 5 iu (.int .u8 0) 1 1 Tryz.underlying31 hiu hu0 hu1 hu2 rfl (by decide) hZ4 _ _ rfl hE4 ⟨wr.heap.size,0,none⟩ 1 1 (#[.int .u8 8]:Array Value).toList rfl rfl hnew (by intro u hu;simp at hu;rcases hu with rfl <;> rfl) (by unfold maxLen;omega) (by omega) ?_;intro v9 wa hE9 hF9;obtain ⟨⟨ys9,hy9⟩,hz9⟩:=hE9;obtain ⟨a9,c9,rfl⟩:=qah hy9;have hF:=hF0.trans hF9;have HA1:Hid (JE Z w9 wa X8 (.slice ta' (nt+k) tc') (nt+k) (.slice ra' (ng+k) rc') (ng+k)∧OE Z wa 5 1 (.slice a9 (n1+k+1) c9) (n1+k+1)):=⟨HJ.out.1.fr hF (by decide),⟨ys9,hy9⟩,hz9⟩;clear hy9 hz9;clear hF hF9 hF0 hE4 hZ4 hnew HZ))
        clear HJ
        obtain ⟨-,c3,-,-⟩:=HA1.out.1.cells
        have HZ:=HA1.out.1.z
        have hF0:Fr Z 63 wa (wa.alloc (.cells #[I (-1),I 0] 63)):=Fr.alloc _ HZ
        have hnew:=qb3 wa #[I (-1),I 0] 63
        have hZ4:∀k,Z k→k < (wa.alloc (.cells #[I (-1),I 0] 63)).heap.size:=fun k hk=>Nat.lt_of_lt_of_le (HZ k hk) hF0.kp.size
        have hE4:=HA1.out.1.g.shp hF0.shp
        go_upto_region 32 with (first | (at_builtin;refine qcp rfl (.tmp 102) (.tmp 104) 23 rfl 63 ig (.agg #[I 0,I 0]) 2 16 Tryz.underlying23 hig hg0 hg1 hg2 rfl (by decide) hZ4 _ _ rfl hE4 ⟨wa.heap.size,0,none⟩ 1 1 (#[I (-1),I 0]:Array Value).toList rfl rfl hnew (by intro u hu;simp at hu;rcases hu with rfl | rfl <;> rfl) (by unfold maxLen;omega) (by omega) ?_;intro v9 wb hE9 hF9;obtain ⟨⟨ys9,hy9⟩,hz9⟩:=hE9;obtain ⟨a8,c8,rfl⟩:=qah hy9;have hF:=hF0.trans hF9;have hJb:=HA1.out.1.fr hF (by decide);obtain ⟨-,c3b,-,f3b⟩:=hJb.cells;have HA2:Hid (JE Z w9 (wb.setCell ⟨X8,3,none⟩ (.slice a8 (ng+k+1) c8)) X8 (.slice ta' (nt+k) tc') (nt+k) (.slice a8 (ng+k+1) c8) (ng+k+1)∧OE Z (wb.setCell ⟨X8,3,none⟩ (.slice a8 (ng+k+1) c8)) 5 1 (.slice a9 (n1+k+1) c9) (n1+k+1)):=⟨hJb.setG HNX.out ⟨⟨ys9,hy9⟩,hz9⟩,(HA1.out.2.shp hF.shp).shp (hJb.shpX 3 _)⟩;clear hJb hy9 hz9;clear hF hF9 hF0 hE4 hZ4 hnew HZ))
        clear HA1 c3 c3b f3b
        generalize wb.setCell ⟨X8,3,none⟩ (.slice a8 (ng+k+1) c8)=wc at *
        obtain ⟨c2,-,-,-⟩:=HA2.out.1.cells
        have HZ:=HA2.out.1.z
        have hF0:Fr Z 61 wc (wc.alloc (.cells #[I 0,I 0,.bool false,I 0,.int .u32 0,I 0,qZ,.int .u32 0] 61)):=Fr.alloc _ HZ
        have hnew:=qb3 wc #[I 0,I 0,.bool false,I 0,.int .u32 0,I 0,qZ,.int .u32 0] 61
        have hZ4:∀k,Z k→k < (wc.alloc (.cells #[I 0,I 0,.bool false,I 0,.int .u32 0,I 0,qZ,.int .u32 0] 61)).heap.size:=fun k hk=>Nat.lt_of_lt_of_le (HZ k hk) hF0.kp.size
        have hE4:=HA2.out.1.t.shp hF0.shp
        go_wp2_with (first | (at_builtin;refine qcp rfl (.tmp 108) (.tmp 110) 22 rfl 61 it (.agg #[I 0,I 0,.bool false,I 0,.int .u32 0,I 0,qZ,.int .u32 0]) 8 80 Tryz.underlying22 hit ht0 ht1 ht2 rfl (by decide) hZ4 _ _ rfl hE4 ⟨wc.heap.size,0,none⟩ 1 1 (#[I 0,I 0,.bool false,I 0,.int .u32 0,I 0,qZ,.int .u32 0]:Array Value).toList rfl rfl hnew (by intro u hu;simp at hu;rcases hu with rfl | rfl | rfl | rfl | rfl | rfl | rfl | rfl <;> rfl) (by unfold maxLen;omega) (by omega) ?_;intro v9 wd hE9 hF9;obtain ⟨⟨ys9,hy9⟩,hz9⟩:=hE9;obtain ⟨a7,c7,rfl⟩:=qah hy9;have hF:=hF0.trans hF9;have hJb:=HA2.out.1.fr hF (by decide);obtain ⟨c2b,-,f2b,-⟩:=hJb.cells;have HA3:Hid (JE Z w9 (wd.setCell ⟨X8,2,none⟩ (.slice a7 (nt+k+1) c7)) X8 (.slice a7 (nt+k+1) c7) (nt+k+1) (.slice a8 (ng+k+1) c8) (ng+k+1)∧OE Z (wd.setCell ⟨X8,2,none⟩ (.slice a7 (nt+k+1) c7)) 5 1 (.slice a9 (n1+k+1) c9) (n1+k+1)):=⟨hJb.setT HNX.out ⟨⟨ys9,hy9⟩,hz9⟩,(HA2.out.2.shp hF.shp).shp (hJb.shpX 2 _)⟩;clear hJb hy9 hz9;clear hF hF9 hF0 hE4 hZ4 hnew HZ))
        go_roundw
        case rel=>exact ⟨k+1,a9,c9,a7,c7,a8,c8,by omega,by go_num,rfl,HA3.out⟩
        case measure=>simp [intOf];omega
       ·obtain rfl:k=40:=by omega
        have hge3:¬((40:Int) < 40):=by omega
        have HZ:=HJ.out.1.z
        have hkp:=HJ.out.1.kp
        have HKP:Hid ((∀k,Z k→k < wr.heap.size)∧Kp Z w9 wr):=⟨HZ,hkp⟩
        obtain ⟨-,⟨-,hT2,-,-⟩,-,⟨x0,x1,x2,x3,x4,x5,x6,x7,x8,x9,x10,x11,x12⟩,-⟩:=HE.out wr hkp
        have hP:=hDe wr v2 hT2
        clear HJ HZ hkp hT2
        go_upto_region 34 with (first | (go_at_call 21;refine hP.mono ?_;clear hP;rintro e wz ⟨a3,n3,c3,rfl,r3,bz⟩))
        clear x0 x1 x2 x3 x4 x5 x6 x7 x8 x9 x10 x11 x12
        have HKZ:Hid (Kp Z w9 wz∧∀k,Z k→k < wz.heap.size):=⟨HKP.out.2.trans (Kp.of_below bz HKP.out.1),fun k hk=>Nat.lt_of_lt_of_le (HKP.out.1 k hk) bz.size⟩
        obtain ⟨-,⟨-,-,-,hrd⟩,-,-,-⟩:=HE.out wz HKZ.out.1
        rw [HN.out.2.2.2] at r3
        have hS:=Ob.same_any a2 a3 n2 n3 c2 c3 (img tb) (img tb) wz hrd r3
        rw [show (img tb==img tb)=true by simp] at hS
        clear HKP bz hrd r3
        generalize encZ tb=z at *
        go_wp2_with (first
         | (go_at_call 18;refine hS.mono ?_;clear hS;rintro e w6 ⟨rfl,q6,hw6⟩;have b6:qB wz w6:=(by rw [hw6];exact below_drewN (Below.refl _ _) q6);have HK6:Hid (Kp Z w9 w6∧∀k,Z k→k < w6.heap.size):=⟨HKZ.out.1.trans (Kp.of_below b6 HKZ.out.2),fun k hk=>Nat.lt_of_lt_of_le (HKZ.out.2 k hk) b6.size⟩;clear hw6 b6;obtain ⟨-,⟨-,hT2,hT9,-⟩,-,⟨x0,x1,x2,x3,x4,x5,x6,x7,x8,x9,x10,x11,x12⟩,⟨y0,y1,y2,y3,y4,y5,y6,y7,y8,y9,y10,y11,y12⟩⟩:=HE.out w6 HK6.out.1;have hP1:=hSR w6 vv v2 hT9 hT2;clear hT2 hT9)
         | (go_at_call 16;refine hP1.mono ?_;clear hP1 x0 x1 x2 x3 x4 x5 x6 x7 x8 x9 x10 x11 x12 y0 y1 y2 y3 y4 y5 y6 y7 y8 y9 y10 y11 y12;rintro e w7 ⟨rfl,b7⟩;have HK7:Hid (Kp Z w9 w7∧∀k,Z k→k < w7.heap.size):=⟨HK6.out.1.trans (Kp.of_below b7 HK6.out.2),fun k hk=>Nat.lt_of_lt_of_le (HK6.out.2 k hk) b7.size⟩;clear b7;obtain ⟨-,⟨hT1,hT2,-,-⟩,⟨x0,x1,x2,x3,x4,x5,x6,x7,x8,x9,x10,x11,x12⟩,⟨y0,y1,y2,y3,y4,y5,y6,y7,y8,y9,y10,y11,y12⟩,-⟩:=HE.out w7 HK7.out.1;have hP2:=hSR w7 v v2 hT1 hT2;clear hT1 hT2)
         | (go_at_call 16;refine hP2.mono ?_;clear hP2 x0 x1 x2 x3 x4 x5 x6 x7 x8 x9 x10 x11 x12 y0 y1 y2 y3 y4 y5 y6 y7 y8 y9 y10 y11 y12;rintro e w8 ⟨rfl,b8⟩;have HB8:Hid (qB w1 w8):=(HE.out w8 (HK7.out.1.trans (Kp.of_below b8 HK7.out.2))).1;clear b8)
         | (go_at_call 12;refine (hAl _).mono ?_;rintro e wx ⟨rfl,bx⟩;have HBX:Hid (qB w1 wx):=belT HB8.out bx;clear bx))
        go_ret
        have hX0:=HX0.out
        subst hX0
        exact ⟨rfl,belT HBB.out HBX.out⟩
end Go.Proofs.YtijgopkhdjaolaaGreat
