import Derived.Test.YtijgopkhdjaolaaGreatXHv3
import Derived.Test.YtijgopkhdjaolaaGreatXI9
import Derived.Deep.RegionHeldLaw
import Derived.Test.YtijgopkhdjaolaaGreatXTdi
import Derived.Test.YtijgopkhdjaolaaGreatHt6
import Derived.Test.YtijgopkhdjaolaaGreatThnl
import Derived.SizedLaws
import Derived.ProofKit
namespace Go.Proofs.YtijgopkhdjaolaaGreat
open Go.RowKit Go.Shelf Go.Sort
open Go.Proofs.YtijgopkhdjaolaaGreat.Ob (leB leV qa8 qaj crc Rd RdAll qa9)
set_option linter.unusedSimpArgs false
set_option linter.unusedVariables false
set_option maxHeartbeats 16000000
set_option maxRecDepth 100000
theorem qn5 (w:World) (tb:Tb) (v:Ts) (h:TbAt w tb v):Calls Tryz.prog 39 #[.agg (tbC tb v)] w fun e w'=>e=.returned (.slice (some ⟨w.heap.size+1,0,none⟩) 7 7)∧w'.ownsRow w.heap.size 3 1 (.slice (some ⟨w.heap.size+1,0,none⟩) 7 7) 7 ((lenL tb).map I)∧qB w w':=by
 have hL:[(v.t.n:Int),v.g.n,v.r.n,v.k.n,v.a.n,v.i.n,v.s.n]=lenL tb:=by
  have h0:v.t.n=_:=h.t.n
  have h1:v.g.n=_:=h.g.n
  have h2:v.r.n=_:=h.r.n
  have h3:v.k.n=_:=h.k.n
  have h4:v.a.n=_:=h.a.n
  have h5:v.i.n=_:=h.i.n
  have h6:v.s.n=_:=h.s.n
  unfold lenL
  rw [←h0,←h1,←h2,←h3,←h4,←h5,←h6]
 have HL:Hid ([(v.t.n:Int),v.g.n,v.r.n,v.k.n,v.a.n,v.i.n,v.s.n]=lenL tb):=hL
 clear h hL
 unfold tbC
 go_enter Tryz.func39,Tryz.ntmps39
 go_wp2
 go_ret
 have hv:=heap_alloc_new (w.alloc (.cells (qC tb v) 30)) (.cells #[I v.t.n,I v.g.n,I v.r.n,I v.k.n,I v.a.n,I v.i.n,I v.s.n] 3)
 rw [show (w.alloc (.cells (qC tb v) 30)).heap.size=w.heap.size+1 by simp] at hv
 refine ⟨rfl,?_,belT (qa0 w _) (qa0 _ _)⟩
 rw [←HL.out]
 exact ⟨rfl,.inr ⟨w.heap.size+1,7,_,rfl,by omega,hv,by omega,by unfold maxLen;omega,by simp,rfl⟩⟩
theorem qrb {W W':World} {b1 b2 T1 T2 k1 k2 n1 n2:Nat} {v1 v2:Value} {x1 x2:List Value} (h1:W.ownsRow b1 T1 k1 v1 n1 x1) (h2:W.ownsRow b2 T2 k2 v2 n2 x2) (hT:T1≠T2) (hg:W.grownBy W' v2.ownBlock):W'.ownsRow b1 T1 k1 v1 n1 x1:=h1.kept hg (by
 rcases h1.2 with ⟨e1,-⟩ | ⟨g1,c1,cur1,e1,-,e3,-⟩
 ·rw [e1];exact .inl rfl
 ·rcases h2.2 with ⟨f1,-⟩ | ⟨g2,c2,cur2,f1,-,f3,-⟩
  ·rw [e1,f1];exact .inr (by intro e;cases e)
  ·rw [e1,f1];exact .inr (fun e=>by cases e;rw [e3] at f3;cases f3;exact hT rfl))
theorem qrc {W:World} {Y:Nat} (l:List UInt8) (h:W.heap[Y]?=some (.cells (Bs8 l).toArray 5)) (hs:l.length≤1000):Rd W (some ⟨Y,0,none⟩) l.length l.length l:=by
 refine ⟨rfl,Nat.le_refl _,by omega,(fun e=>by cases e),fun _=>⟨Y,0,rfl,qa5 h,fun i x hx=>?_⟩⟩
 rw [qcr h]
 simp [Bs8,Ob.B,hx]
theorem qkp (tb:Tb):(sevP tb).flatten=qb8 tb:=by simp [sevP,qb8]
theorem qjx (w:World) (tb:Tb) (v:Ts) (h:TbAt w tb v) (hk:okTb tb) (hs:(qb8 tb).length≤100000) (hCk:∀W,TbAt W tb v→Calls Tryz.prog 49 #[.agg (tbC tb v)] W fun e w'=>e=.returned (I 0)∧qB W w'):Calls Tryz.prog 21 #[.agg (tbC tb v)] w fun e w'=>∃u,e=.returned (.tuple #[u,I 0])∧OwB w w' u (img tb):=by
 have hb1:=qa0 w (tO tb v)
 have hv1:=heap_alloc_new w (tO tb v)
 have HBB:Hid (qB w (w.alloc (tO tb v))):=hb1
 have HT:Hid (∀W,qB (w.alloc (tO tb v)) W→TbAt W tb v):=fun W hW=>h.below (belT hb1 hW)
 have HX:Hid (∀W,qB (w.alloc (tO tb v)) W→qP W (w.heap.size) tb v):=fun W hW=>qca ((hW.block _ (qa5 hv1)).trans hv1)
 have hPa:=fun W (hW:TbAt W tb v)=>qli W tb v hW hk hs
 have hRo:=fun W (hW:TbAt W tb v)=>qn5 W tb v hW
 have HK:Hid (okTb tb∧(qb8 tb).length≤100000):=⟨hk,hs⟩
 have hRf:∀(W:World) (B:Nat),RdAll W (some ⟨B,0,none⟩) 7 7 (sevP tb)→Calls Tryz.prog 50 #[.slice (some ⟨B,0,none⟩) 7 7] W fun e w'=>∃u,e=.returned u∧OwB W w' u (qb8 tb):=fun W B q=>by
  have:=qg2 W _ 7 7 (sevP tb) q rfl (by rw [qkp];omega)
  rw [qkp] at this
  exact this
 unfold tbC at *
 clear hb1 hv1 h hk hs
 go_enter Tryz.func21,Tryz.ntmps21
 go_upto_region 1 with fail
 generalize w.alloc (.cells (qC tb v) 30)=w1 at *
 obtain ⟨x0,x1,x2,x3,x4,x5,x6,x7,x8,x9,x10,x11,x12⟩:=HX.out w1 (Below.refl _ _)
 have hC:=hCk w1 (HT.out w1 (Below.refl _ _))
 go_upto_region 3 with (first | (go_at_call 49;refine hC.mono ?_;clear hC;rintro e w2 ⟨rfl,b2⟩))
 clear x0 x1 x2 x3 x4 x5 x6 x7 x8 x9 x10 x11 x12
 obtain ⟨x0,x1,x2,x3,x4,x5,x6,x7,x8,x9,x10,x11,x12⟩:=HX.out w2 b2
 have hP:=hPa w2 (HT.out w2 b2)
 go_upto_region 4 with (first
  | (go_at_call 51;refine hP.mono ?_;clear hP;rintro e w3 ⟨B,rfl,hRA,b3⟩;have hR:=hRf w3 B hRA;clear hRA)
  | (go_at_call 50;refine hR.mono ?_;clear hR;rintro e w4 ⟨u,rfl,o4⟩;obtain ⟨ap,cp,rfl⟩:=qah o4.1))
 clear x0 x1 x2 x3 x4 x5 x6 x7 x8 x9 x10 x11 x12
 have HB4:Hid (qB w1 w4):=belT (belT b2 b3) o4.2
 have hrp:Rd w4 ap (qb8 tb).length cp (qb8 tb):=qbt o4 rfl (by have:=HK.out.2;omega)
 have hF:(qb8 tb).length≤100000:=HK.out.2
 clear b2 b3 o4
 generalize hFe:qb8 tb=F at *
 have HF:Hid (qb8 tb=F):=hFe
 clear hFe
 have hw:∀W,Calls Tryz.prog 52 #[.int .u32 (28+(F.length:Int)+2)] W fun e w'=>∃a c,e=.returned (.slice a 4 c)∧Rd w' a 4 c (leB 4 (30+F.length))∧qB W w':=fun W=>by
  have:=lfW W (30+F.length) (by omega)
  unfold qU at this
  rw [show (((30+F.length:Nat)):Int)=28+(F.length:Int)+2 by omega] at this
  exact this
 have h28:IntKind.i64.wrap (28+(F.length:Int))=28+F.length:=by rw [IntKind.wrap_i64] <;> omega
 have hbm:=qa0 w4 (.cells #[.int .u8 84,.int .u8 80,.int .u8 84,.int .u8 49] 5)
 have hm:=heap_alloc_new w4 (.cells #[.int .u8 84,.int .u8 80,.int .u8 84,.int .u8 49] 5)
 have hrm:Rd (w4.alloc (.cells #[.int .u8 84,.int .u8 80,.int .u8 84,.int .u8 49] 5)) (some ⟨w4.heap.size,0,none⟩) 4 4 mrk:=qrc mrk hm (by decide)
 have HRP:Hid (Rd w4 ap F.length cp F):=hrp
 clear hm hrp
 go_upto_region 5 with (first
  | (go_at_call 52;refine (hw _).mono ?_;clear hw;rintro e w5 ⟨a5,c5,rfl,r5,b5⟩;have hR:=rowN w5 [(some ⟨w4.heap.size,0,none⟩,4,4),(a5,4,c5)] [mrk,leB 4 (30+F.length)] 2 ⟨hrm.below b5,r5,trivial⟩ rfl (by omega) (by simp [mrk,qa8]);simp only [List.map_cons,List.map_nil] at hR;clear hrm r5)
  | (go_at_call 50;refine hR.mono ?_;clear hR;rintro e w6 ⟨u,rfl,o6⟩;have o6:=qbm (belT (belT hbm b5) (qa0 _ _)) o6))
 obtain ⟨h0,hh0⟩:∃l,l=([mrk,leB 4 (30+F.length)]:List (List UInt8)).flatten:=⟨_,rfl⟩
 rw [←hh0] at o6
 have HH0:Hid (h0=mrk++leB 4 (30+F.length)):=by show _=_;rw [hh0];simp
 have hl0:h0.length=8:=by rw [hh0];simp [mrk,qa8]
 clear hbm b5 h28 hh0
 obtain ⟨ao,co,rfl⟩:=qah o6.1
 rw [hl0] at o6
 have O6:Hid (OwB w4 w6 (.slice ao 8 co) h0):=o6
 have hX6:qB w1 w6:=belT HB4.out o6.2
 obtain ⟨x0,x1,x2,x3,x4,x5,x6,x7,x8,x9,x10,x11,x12⟩:=HX.out w6 hX6
 have hRw:=hRo w6 (HT.out w6 hX6)
 go_upto_region 6 with (first | (go_at_call 39;refine hRw.mono ?_;clear hRw;rintro e w7 ⟨rfl,o7,b7⟩))
 clear x0 x1 x2 x3 x4 x5 x6 x7 x8 x9 x10 x11 x12 hX6
 have H7:Hid (w7.ownsRow w6.heap.size 3 1 (.slice (some ⟨w6.heap.size+1,0,none⟩) 7 7) 7 ((lenL tb).map I)∧OwB w4 w7 (.slice ao 8 co) h0):=⟨o7,by
  have q:=O6.out.1
  exact ⟨qa2 q b7,belT O6.out.2 b7⟩⟩
 have HLL:Hid (∀x∈lenL tb,b16 x):=by
  intro x hx
  obtain ⟨n0,n1,n2,n3,n4,n5,n6,-⟩:=HK.out.1
  simp only [lenL,List.mem_cons,List.not_mem_nil,or_false] at hx
  unfold b16
  rcases hx with rfl | rfl | rfl | rfl | rfl | rfl | rfl <;> omega
 clear o6 o7 b7
 generalize w6.heap.size+1=gn at *
 generalize w6.heap.size=s6 at *
 go_wp2
 have HI:Hid (w7.ownsRow w4.heap.size 5 1 (.slice ao 8 co) 8 (Bs8 h0)∧w7.ownsRow s6 3 1 (.slice (some ⟨gn,0,none⟩) 7 7) 7 ((lenL tb).map I)∧qB w4 w7):=⟨by have q:=H7.out.2.1;rwa [hl0] at q,H7.out.1,H7.out.2.2⟩
 have e0:h0++((lenL tb).take 0).flatMap e2=h0:=by simp
 go_loopw [5,7] (fun v5 v7 wr=>∃(k:Nat) (ak:Option Addr) (ck:Nat),k≤7∧v7=I k∧v5=.slice ak (h0++((lenL tb).take k).flatMap e2).length ck∧Hid (wr.ownsRow w4.heap.size 5 1 v5 (h0++((lenL tb).take k).flatMap e2).length (Bs8 (h0++((lenL tb).take k).flatMap e2))∧wr.ownsRow s6 3 1 (.slice (some ⟨gn,0,none⟩) 7 7) 7 ((lenL tb).map I)∧qB w4 wr)) (fun _ v7 _=>7 - (intOf v7).toNat)
 case atStart=>
  refine ⟨0,ao,co,by omega,rfl,by rw [e0,hl0],?_⟩
  rw [e0,hl0]
  exact HI.out
 case round=>
  clear HI H7 O6 e0
  obtain ⟨k,ak,ck,hk,rfl,rfl,HJ⟩:=hrel
  have HL14:Hid (((lenL tb).flatMap e2).length=14):=by show _=_;simp [lenL,e2,qa8]
  by_cases hlt:k < 7
  ·have hltI:(k:Int) < 7:=by omega
   obtain ⟨x,hx⟩:∃x,(lenL tb)[k]?=some x:=⟨_,List.getElem?_eq_getElem (by simp [lenL];exact hlt)⟩
   have hb16:=HLL.out x (List.mem_of_getElem? hx)
   have hbnd:=qds e2 hx
   rw [HL14.out] at hbnd
   have HN:Hid (h0++((lenL tb).take (k+1)).flatMap e2=(h0++((lenL tb).take k).flatMap e2)++e2 x):=by show _=_;rw [qcm e2 hx,List.append_assoc]
   have hcn:wr.cell? ⟨gn,k,none⟩=some (I x):=by rw [HJ.out.2.1.cellAt k (by omega)];simp [hx]
   have hle:(h0++((lenL tb).take k).flatMap e2).length+2≤1000:=by rw [List.length_append];omega
   generalize h0++((lenL tb).take k).flatMap e2=l at *
   have hO:=HJ.out.1
   have hO2:=HJ.out.2.1
   have hB:=HJ.out.2.2
   have hbs:=hB.size
   have hh:=lfH wr x hb16
   have he2:(e2 x).length=2:=by simp [e2,qa8]
   have HE2:Hid ((e2 x).length=2):=he2
   obtain ⟨m,hm⟩:∃m,m=l.length:=⟨_,rfl⟩
   rw [←hm] at hO hle ⊢
   have HM:Hid (m=l.length):=hm
   clear hm hx hbnd hb16 he2 HJ
   go_wp2_with (first
    | (go_at_call 53;refine hh.mono ?_;clear hh;rintro e w8 ⟨a8,c8,rfl,r8,b8⟩;have hO:=qa2 hO b8;have hO2:=qa2 hO2 b8;have hB:=belT hB b8;have hbs:=hB.size;clear b8)
    | (at_builtin;refine qcl rfl _ _ rfl w4.heap.size _ m l rfl hO a8 2 c8 (e2 x) rfl r8 (by omega) hbs ?_;intro vp wp hOp hgp;obtain ⟨aq,cq,rfl⟩:=qah hOp;have H9:Hid (wp.ownsRow w4.heap.size 5 1 (.slice aq (m+2) cq) (m+2) (Bs8 (l++e2 x))∧wp.ownsRow s6 3 1 (.slice (some ⟨gn,0,none⟩) 7 7) 7 ((lenL tb).map I)∧qB w4 wp):=⟨hOp,qrb hO2 hO (by decide) hgp,Below.grown hO hB hgp⟩;clear hOp hgp hO hO2 hB hbs r8))
   have HN2:Hid ((l++e2 x).length=m+2):=by show _=_;rw [List.length_append,←HM.out,HE2.out]
   go_roundw
   case rel=>exact ⟨k+1,aq,cq,by omega,by go_num,by rw [HN.out,HN2.out],by rw [HN.out,HN2.out];exact H9.out⟩
   case measure=>simp [intOf];omega
  ·obtain rfl:k=7:=by omega
   have hge:¬((7:Nat):Int) < 7:=by omega
   have HL7:Hid (h0++((lenL tb).take 7).flatMap e2=mrk++leB 4 (30+F.length)++eCnt tb∧(h0++((lenL tb).take 7).flatMap e2).length≤1000):=by
    have h14:=HL14.out
    have h7:(lenL tb).take 7=lenL tb:=rfl
    rw [h7]
    refine ⟨?_,by rw [List.length_append];omega⟩
    rw [HH0.out]
    simp [lenL,e2,eCnt]
   clear HL14 HLL
   generalize h0++((lenL tb).take 7).flatMap e2=l at *
   obtain ⟨m,hm⟩:∃m,m=l.length:=⟨_,rfl⟩
   rw [←hm] at HJ ⊢
   have HM:Hid (m=l.length∧m≤1000):=⟨hm,by rw [hm];exact HL7.out.2⟩
   clear hm
   go_upto_region 10 with fail
   have hX9:qB w1 wr:=belT HB4.out HJ.out.2.2
   have r9:Rd wr ak m ck l:=qbt ⟨by rw [←HM.out.1];exact qay HJ.out.1 HB4.out.size,hX9⟩ HM.out.1.symm (by have:=HM.out.2;omega)
   have rp:Rd wr ap F.length cp F:=HRP.out.below HJ.out.2.2
   have HBW:Hid (qB w1 wr∧F.length≤100000):=⟨hX9,hF⟩
   obtain ⟨-,-,-,-,-,-,-,k0,k1,k2,k3,k4,k5,-⟩:=HK.out.1
   have hm9:m≤1000:=HM.out.2
   clear HJ HRP HB4
   have hbz:=hX9.drew
   have HY:=HX.out _ hbz
   have r9:=r9.below (Below.refl wr.heap.size wr).drew
   have rp:=rp.below (Below.refl wr.heap.size wr).drew
   clear hX9
   go_region_held_law (fun W=>qP W (w.heap.size) tb v) (first | exact HY | exact HX.out _ (by repeat' (first | exact hbz | apply Below.drew | apply belA)) | (go_keep;done)) (first
    | (go_at_call 54;refine (lfB _ _ (by assumption)).mono ?_;first | (have chk:=r5;rintro e W6 ⟨a6,c6,rfl,r6,b26⟩;have r1:=r1.below b26;have r2:=r2.below b26;have r3:=r3.below b26;have r4:=r4.below b26;have r5:=r5.below b26;clear chk;have r9:=r9.below b26;have rp:=rp.below b26;have hbz:=belT hbz b26;have HY:=HX.out _ hbz;clear b26) | (have chk:=r4;rintro e W5 ⟨a5,c5,rfl,r5,b25⟩;have r1:=r1.below b25;have r2:=r2.below b25;have r3:=r3.below b25;have r4:=r4.below b25;clear chk;have r9:=r9.below b25;have rp:=rp.below b25;have hbz:=belT hbz b25;have HY:=HX.out _ hbz;clear b25) | (have chk:=r3;rintro e W4 ⟨a4,c4,rfl,r4,b24⟩;have r1:=r1.below b24;have r2:=r2.below b24;have r3:=r3.below b24;clear chk;have r9:=r9.below b24;have rp:=rp.below b24;have hbz:=belT hbz b24;have HY:=HX.out _ hbz;clear b24) | (have chk:=r2;rintro e W3 ⟨a3,c3,rfl,r3,b23⟩;have r1:=r1.below b23;have r2:=r2.below b23;clear chk;have r9:=r9.below b23;have rp:=rp.below b23;have hbz:=belT hbz b23;have HY:=HX.out _ hbz;clear b23) | (have chk:=r1;rintro e W2 ⟨a2,c2,rfl,r2,b22⟩;have r1:=r1.below b22;clear chk;have r9:=r9.below b22;have rp:=rp.below b22;have hbz:=belT hbz b22;have HY:=HX.out _ hbz;clear b22) | (rintro e W1 ⟨a1,c1,rfl,r1,b21⟩; have r9:=r9.below b21;have rp:=rp.below b21;have hbz:=belT hbz b21;have HY:=HX.out _ hbz;clear b21))
    | (go_at_call 50;have hR:=rowN _ [(ak,m,ck),(a1,1,c1),(a2,1,c2),(a3,1,c3),(a4,1,c4),(a5,1,c5),(a6,1,c6),(ap,F.length,cp)] [l,e1 tb.uses,e1 tb.modes,e1 tb.depth,e1 tb.frames,e1 tb.errors,e1 tb.calls,F] 8 ⟨r9,r1,r2,r3,r4,r5,r6,rp,trivial⟩ rfl (by omega) (by have h9:=HM.out.1;simp [e1,qa8];omega);simp only [List.map_cons,List.map_nil] at hR;refine hR.mono ?_;clear hR r1 r2 r3 r4 r5 r6 r9 rp;rintro e W8 ⟨u,rfl,o8⟩;have hbz0:=hbz;have hbz:=belT (belA hbz) o8.2;have HY:=HX.out _ hbz;obtain ⟨L9,hL9⟩:∃L9,L9=([l,e1 tb.uses,e1 tb.modes,e1 tb.depth,e1 tb.frames,e1 tb.errors,e1 tb.calls,F]:List (List UInt8)).flatten:=⟨_,rfl⟩;rw [←hL9] at o8;have HL9:Hid (L9=([l,e1 tb.uses,e1 tb.modes,e1 tb.depth,e1 tb.frames,e1 tb.errors,e1 tb.calls,F]:List (List UInt8)).flatten):=hL9;clear hL9;obtain ⟨au,cu,rfl⟩:=qah o8.1;have HO8:Hid (qB w1 W8∧OwB w W8 (.slice au L9.length cu) L9):=⟨hbz,⟨qay o8.1 (Nat.le_trans HBB.out.size (belA hbz0).size),belT HBB.out hbz⟩⟩;clear o8))
   have o8:=HO8.out.2
   have hl9:L9.length≤200000:=by
    rw [HL9.out]
    have h1:=HM.out
    have h2:=HBW.out.2
    simp [e1,qa8]
    omega
   have rd8:Rd W8 au L9.length cu L9:=qbt o8 rfl (by omega)
   have hcr:=Ob.refcrc_any au L9.length cu _ L9 W8 rd8 rfl
   have hx:crc 65535 L9 < 65536:=Ob.crc_lt 65535 L9 (by decide)
   have HXX:Hid (img tb=L9++leB 2 (crc 65535 L9)):=by
    have h1:=HL7.out.1
    have h2:=HL9.out
    have h3:eAll tb=L9:=by
     rw [h2,h1]
     simp [eAll,qai,eHd,HF.out]
    show img tb=_
    rw [img,h3]
   generalize crc 65535 L9=x at *
   have hlo:=Ob.low_any x 2 W8 (by omega) (by omega) (by omega) hx
   have hx64:IntKind.u64.wrap (x:Int)=x:=by rw [IntKind.wrap_u64];omega
   obtain ⟨n9,hn9⟩:∃n9,n9=L9.length:=⟨_,rfl⟩
   have ho8:=o8.1
   have hbw:=o8.2
   have hsz:=hbw.size
   rw [←hn9] at hcr ho8 hl9 ⊢
   have HN9:Hid (n9=L9.length):=hn9
   clear hn9 o8 rd8 hx
   go_wp2_with (first
    | (go_at_call 56;refine hcr.mono ?_;clear hcr;rintro e W9 ⟨rfl,rfl⟩)
    | (go_at_call 55;refine hlo.mono ?_;clear hlo;rintro e WA ⟨a7,c7,rfl,o7,b7⟩;have ho8:=qa2 ho8 b7;have hbw:=belT hbw b7;have hsz:=hbw.size;clear b7)
    | (at_builtin;refine qcl rfl _ _ rfl w.heap.size _ n9 L9 rfl ho8 a7 2 c7 (leB 2 x) rfl (qa9 o7 (by omega)) (by omega) hsz ?_;intro vp wp hOp hgp;have HF9:Hid (wp.ownsRow w.heap.size 5 1 vp (n9+2) (Bs8 (L9++leB 2 x))∧qB w wp):=⟨hOp,Below.grown ho8 hbw hgp⟩;clear hOp hgp ho8 hbw hsz o7))
   go_ret2
   refine ⟨vp,rfl,?_⟩
   rw [HXX.out]
   exact ⟨by rw [List.length_append,qa8,←HN9.out];exact HF9.out.1,HF9.out.2⟩
theorem qlj (w:World) (tb:Tb) (v:Ts) (h:TbAt w tb v) (hc:chkD tb=false):Calls Tryz.prog 21 #[.agg (tbC tb v)] w fun e w'=>e=.returned (.tuple #[qZ,I 90])∧Below w.heap.size w w':=by
 have hb1:=qa0 w (tO tb v)
 have hv1:=heap_alloc_new w (tO tb v)
 have HBB:Hid (Below w.heap.size w (w.alloc (tO tb v))):=hb1
 have HC:=qey tb v (w.alloc (tO tb v)) (h.below hb1)
 rw [hc] at HC
 obtain ⟨x0,x1,x2,x3,x4,x5,x6,x7,x8,x9,x10,x11,x12⟩:=qca hv1
 unfold tbC at *
 unfold zOf at HC
 simp only [Bool.false_eq_true,if_false] at HC
 clear hb1 hv1 h hc
 go_enter Tryz.func21,Tryz.ntmps21
 go_upto_region 1 with fail
 generalize w.alloc (.cells (qC tb v) 30)=w1 at *
 go_wp2_with (first | (go_at_call 49;refine HC.mono ?_;clear HC;rintro e w2 ⟨rfl,b2⟩;have hbf:=belT HBB.out b2))
 go_ret2
 exact ⟨rfl,hbf⟩
theorem qn6 (w:World):Rd w none 0 0 []:=⟨rfl,Nat.le_refl _,by omega,fun _=>⟨rfl,rfl⟩,fun h=>absurd h (by omega)⟩
noncomputable def encL (tb:Tb):List UInt8:=if chkP tb then img tb else []
def encZ (tb:Tb):Int:=if chkP tb then 0 else 90
theorem qja {tb:Tb} (h:(qb8 tb).length≤100000):(img tb).length≤1000000:=by rw [qfh];omega
theorem qod (w:World) (tb:Tb) (v:Ts) (h:TbAt w tb v) (hw:WfT tb):Calls Tryz.prog 9 #[.agg (tbC tb v)] w fun e w'=>∃a n c,e=.returned (.tuple #[.slice a n c,I (encZ tb)])∧Rd w' a n c (encL tb)∧Below w.heap.size w w':=by
 unfold encZ encL
 cases hc:chkP tb with
 | false=>
  refine (qhm w tb v h hw hc).mono fun e w' q=>⟨none,0,0,q.1,?_,q.2⟩
  exact qn6 w'
 | true=>
  refine (qeu w tb v h hw hc).mono fun e w' ⟨u,q1,q2⟩=>?_
  obtain ⟨a,c,rfl⟩:=qah q2.1
  exact ⟨a,_,c,q1,qbt q2 rfl (qja (qdo hc hw).2),q2.2⟩
theorem qjb (w:World) (tb:Tb) (v:Ts) (h:TbAt w tb v) (hw:WfT tb):Calls Tryz.prog 21 #[.agg (tbC tb v)] w fun e w'=>∃a n c,e=.returned (.tuple #[.slice a n c,I (encZ tb)])∧Rd w' a n c (encL tb)∧Below w.heap.size w w':=by
 have hs:chkP tb=chkD tb:=qni (fun x hx=>(hw.s x hx).1)
 unfold encZ encL
 cases hc:chkP tb with
 | false=>
  refine (qlj w tb v h (by rw [←hs];exact hc)).mono fun e w' q=>⟨none,0,0,q.1,?_,q.2⟩
  exact qn6 w'
 | true=>
  have hd:chkD tb=true:=by rw [←hs];exact hc
  obtain ⟨ho,hb⟩:=qdo hc hw
  refine (qjx w tb v h ho hb (fun W hW=>(qey tb v W hW).mono fun e w' q=>⟨by rw [q.1,hd];rfl,q.2⟩)).mono fun e w' ⟨u,q1,q2⟩=>?_
  obtain ⟨a,c,rfl⟩:=qah q2.1
  exact ⟨a,_,c,q1,qbt q2 rfl (qja hb),q2.2⟩
theorem numW (w:World) (x:Int):Calls Tryz.prog 11 #[I x] w fun e w'=>e=.returned (I x)∧w=w':=(qh9 w x).mono fun e w' q=>⟨q.1,q.2.symm⟩
theorem qg3 (w:World) (tb:Tb) (v:Ts) (h:TbAt w tb v) (hw:WfT tb) (hz:SzT tb):Calls Tryz.prog 7 #[.agg (tbC tb v)] w fun e w'=>e=.returned (.bool true)∧Below w.heap.size w w':=by
 have hb1:=qa0 w (tO tb v)
 have hv1:=heap_alloc_new w (tO tb v)
 have HBB:Hid (Below w.heap.size w (w.alloc (tO tb v))):=hb1
 have HT:Hid (∀W,qB (w.alloc (tO tb v)) W→TbAt W tb v):=fun W hW=>h.below (belT hb1 hW)
 have HX:Hid (∀W,qB (w.alloc (tO tb v)) W→qP W (w.heap.size) tb v):=fun W hW=>qca ((hW.block _ (qa5 hv1)).trans hv1)
 have hCp:=(qhq (w.alloc (tO tb v)) tb v (h.below hb1) hz)
 have hPe:=fun W v' (hW:TbAt W tb v')=>qod W tb v' hW hw
 have hDe:=fun W v' (hW:TbAt W tb v')=>qjb W tb v' hW hw
 have hSR:=fun W v1 v2 (h1:TbAt W tb v1) (h2:TbAt W tb v2)=>qev W tb v1 v2 h1 h2
 have hAl:=fun W=>qhp W
 have hnn:=fun W x=>numW W x
 unfold tbC at *
 clear hb1 hv1 h hw hz
 go_enter Tryz.func7,Tryz.ntmps7
 go_upto_region 1 with fail
 generalize w.alloc (.cells (qC tb v) 30)=w1 at *
 generalize hX0:w.heap.size=X0 at *
 obtain ⟨x0,x1,x2,x3,x4,x5,x6,x7,x8,x9,x10,x11,x12⟩:=HX.out w1 (Below.refl _ _)
 go_upto_region 2 with (first | (go_at_call 20;refine hCp.mono ?_;clear hCp;rintro e w2 ⟨v2,rfl,hT2,b2⟩;have hT2:=hT2.at))
 clear x0 x1 x2 x3 x4 x5 x6 x7 x8 x9 x10 x11 x12
 have hb3:=qa0 w2 (tO tb v2)
 have hv3:=heap_alloc_new w2 (tO tb v2)
 have HT3:Hid (∀W,qB (w2.alloc (tO tb v2)) W→TbAt W tb v2):=fun W hW=>hT2.below (belT hb3 hW)
 have HX3:Hid (∀W,qB (w2.alloc (tO tb v2)) W→qP W (w2.heap.size) tb v2):=fun W hW=>qca ((hW.block _ (qa5 hv3)).trans hv3)
 have HB3:Hid (qB w1 (w2.alloc (tO tb v2))):=belT b2 hb3
 clear hb3 hv3 b2 hT2
 generalize w2.alloc (.cells (qC tb v2) 30)=w3 at *
 generalize w2.heap.size=X3 at *
 obtain ⟨x0,x1,x2,x3,x4,x5,x6,x7,x8,x9,x10,x11,x12⟩:=HX3.out w3 (Below.refl _ _)
 have hP:=hPe w3 v2 (HT3.out w3 (Below.refl _ _))
 go_upto_region 3 with (first | (go_at_call 9;refine hP.mono ?_;clear hP;rintro e w4 ⟨a1,n1,c1,rfl,r1,b4⟩))
 clear x0 x1 x2 x3 x4 x5 x6 x7 x8 x9 x10 x11 x12
 have hb4:=belT HB3.out b4
 obtain ⟨x0,x1,x2,x3,x4,x5,x6,x7,x8,x9,x10,x11,x12⟩:=HX.out w4 hb4
 have hP:=hDe w4 v (HT.out w4 hb4)
 go_upto_region 4 with (first | (go_at_call 21;refine hP.mono ?_;clear hP;rintro e w5 ⟨a2,n2,c2,rfl,r2,b5⟩))
 clear x0 x1 x2 x3 x4 x5 x6 x7 x8 x9 x10 x11 x12
 have r1:=r1.below b5
 have hb5:=belT hb4 b5
 have HB5:Hid (qB w3 w5∧qB w1 w5):=⟨belT b4 b5,hb5⟩
 have hS:=Ob.same_any a1 a2 n1 n2 c1 c2 (encL tb) (encL tb) w5 r1 r2
 rw [show (encL tb==encL tb)=true by simp] at hS
 have hzz:(encZ tb==encZ tb)=true:=by simp
 clear r1 r2 hb4 hb5 b4 b5
 generalize encZ tb=z at *
 go_wp2_with (first
  | (go_at_call 11;refine (hnn _ _).mono ?_;rintro e w' ⟨rfl,rfl⟩)
  | (go_at_call 18;refine hS.mono ?_;clear hS;rintro e w6 ⟨rfl,q6,hw6⟩;have HB6:Hid (qB w3 w6∧qB w1 w6):=(by rw [hw6];exact ⟨below_drewN HB5.out.1 q6,below_drewN HB5.out.2 q6⟩);clear hw6;obtain ⟨x0,x1,x2,x3,x4,x5,x6,x7,x8,x9,x10,x11,x12⟩:=HX3.out w6 HB6.out.1;obtain ⟨y0,y1,y2,y3,y4,y5,y6,y7,y8,y9,y10,y11,y12⟩:=HX.out w6 HB6.out.2)
  | (go_at_call 16;refine (hSR w6 v2 v (HT3.out w6 HB6.out.1) (HT.out w6 HB6.out.2)).mono ?_;rintro e w7 ⟨rfl,b7⟩;have HB7:Hid (qB w1 w7):=belT HB6.out.2 b7;clear b7)
  | (go_at_call 12;refine (hAl _).mono ?_;rintro e w8 ⟨rfl,b8⟩;have HB8:Hid (qB w1 w8):=belT HB7.out b8;clear b8))
 go_ret
 subst hX0
 exact ⟨rfl,belT HBB.out HB8.out⟩
end Go.Proofs.YtijgopkhdjaolaaGreat
namespace Go.Proofs.YtijgopkhdjaolaaGreat
open Go.ChangeShapes Go.RowKit Go.WideShapes
set_option linter.unusedSimpArgs false
set_option linter.unusedVariables false
set_option maxHeartbeats 16000000
set_option maxRecDepth 100000
theorem qjy {H:Type} {P:Program} {e:TypeId}:∀{es:List (DataW H)} {d:DataW H},d∈es→∀n∈d.weights P e,n∈DataW.weightsAll P e es:=by
 intro es
 induction es with
 | nil=>intro d hd;cases hd
 | cons x r ih=>
  intro d hd n hn
  unfold DataW.weightsAll
  rcases List.mem_cons.1 hd with rfl | hd
  ·exact List.mem_append_left _ hn
  ·exact List.mem_append_right _ (ih hd n hn)
theorem qlk {H:Type} {P:Program} {t e:TypeId} {es sp:List (DataW H)} {d:DataW H} (hu:P.underlying t=some (.slice e)) (h:qcd (DataW.weights P t (.slice es sp))) (hd:d∈es):qcd (d.weights P e):=by
 unfold DataW.weights at h
 simp only [hu] at h
 exact fun n hn=>h n (List.mem_cons_of_mem _ (List.mem_append_left _ (qjy hd n hn)))
theorem qgt {α:Type} (inh:Inhabited α) {H:Type} {enc:TypeId×Value→H} {w:World} {spare:Nat→Bool} {held:Bool} {fuel:Nat} {T E:TypeId} {k:Nat} (hk:0 < k) (hu:Tryz.prog.underlying T=some (.slice E)) (hc:Tryz.prog.cellsOf E=k) {P:α→Nat→Value→Prop} (R:α→Prop) {v:Value} {y:DataW H×List MemPlace}
  (h:DataW.trod enc Tryz.prog w 0 spare held fuel T [v]=some y)
  (one:∀n cs z,cs.length=k→DataW.trod enc Tryz.prog w 0 spare held n E cs=some z→∃x:α,(∀i,i < k→∃u,cs[i]?=some u∧P x i u)∧(qcd (z.1.weights Tryz.prog E)→R x)) :
  ∃(s:Sl) (l:List α),v=.slice s.a s.n s.c∧RowsAt w k P s l∧(qcd (y.1.weights Tryz.prog T)→l.length * Tryz.prog.bytesOf E≤reachBytes∧∀x∈l,R x):=by
 rcases DataW.trod_slice hu h with ⟨hcs,_⟩ | ⟨a,len,cap,elems,rest,n,hfu,hcs,hx,_,hlc,hcm,hel,hV,_,_⟩
 ·simp at hcs
  subst hcs
  exact ⟨⟨none,0,0⟩,[],rfl,⟨rfl,Nat.le_refl _,Nat.zero_le _,fun j x hj=>by simp at hj⟩,fun _=>⟨by simp,fun x hx=>by cases hx⟩⟩
 ·simp at hcs
  subst hcs
  rw [hc] at hV
  obtain ⟨L,hL⟩:=Go.Deep.choose_lt (α:=α) (n:=len) (p:=fun i x=>∃cs,w.cells? 0 (a.add (i * k)) k=some cs∧(∀t,t < k→∃u,cs[t]?=some u∧P x t u)∧∀z,elems[i]?=some z→qcd (z.1.weights Tryz.prog E)→R x) (fun i hi=>by
   have hVi:=hV i hi
   rw [List.getElem?_eq_getElem (by omega:i < elems.length)] at hVi
   obtain ⟨cs',h1,h2⟩:=Option.bind_eq_some_iff.1 hVi
   obtain ⟨_,hcl,_⟩:=World.cells?_some h1
   obtain ⟨x,hx,hR⟩:=one n cs' _ hcl h2
   exact ⟨x,cs',h1,hx,fun z hz hs=>hR (by rw [List.getElem?_eq_getElem (by omega:i < elems.length)] at hz;obtain rfl:=Option.some.inj hz;exact hs)⟩)
  obtain ⟨b,off,spot⟩:=a
  refine ⟨⟨some ⟨b,off,spot⟩,len,cap⟩,(List.range len).map L,rfl,⟨by simp,hlc,hcm,fun j x hj=>?_⟩,fun hz=>?_⟩
  ·rw [List.getElem?_map] at hj
   obtain ⟨i,hi,rfl⟩:=Option.map_eq_some_iff.1 hj
   have hjl:j < len:=by have:=(List.getElem?_eq_some_iff.1 hi).1;simpa using this
   obtain rfl:j=i:=by rw [List.getElem?_range hjl] at hi;exact Option.some.inj hi
   obtain ⟨cs,h1,h2,_⟩:=hL j hjl
   obtain ⟨_,hcl,hcc⟩:=World.cells?_some h1
   have hspot:spot=none:=by
    obtain ⟨cs0,g1,g2,_⟩:=hL 0 (by omega)
    obtain ⟨_,gl,gc⟩:=World.cells?_some g1
    obtain ⟨u,gu,_⟩:=g2 0 hk
    have:=World.cell?_spot ((gc 0 hk).trans gu)
    simpa [Addr.add] using this
   subst hspot
   refine ⟨b,off,rfl,?_,fun t ht=>?_⟩
   ·have:=World.cells?_block h1 hk
    rw [WideShapes.add_plain] at this
    exact this
   ·obtain ⟨u,hu1,hu2⟩:=h2 t ht
    have:=(hcc t ht).trans hu1
    rw [WideShapes.add_plain,WideShapes.add_plain] at this
    exact ⟨u,this,hu2⟩
  ·rw [hx] at hz
   refine ⟨?_,fun x hxm=>?_⟩
   ·have:=qg5 hu hz
    rw [List.length_map,hel] at this
    simpa using this
   ·obtain ⟨i,hi,rfl⟩:=List.mem_map.1 hxm
    have hil:=List.mem_range.1 hi
    obtain ⟨_,_,_,hR⟩:=hL i hil
    have hie:i < elems.length:=by omega
    refine hR elems[i] (List.getElem?_eq_getElem hie) ?_
    exact qlk hu hz (List.mem_map.2 ⟨_,List.getElem_mem hie,rfl⟩)
theorem qrd : Tryz.prog.bytesOf 3=8:=by kernel_rfl
theorem qgu {H:Type} {enc:TypeId×Value→H} {w:World} {spare:Nat→Bool} {held:Bool} {fuel:Nat} {v:Value} {y:DataW H×List MemPlace} (h:DataW.trod enc Tryz.prog w 0 spare held fuel 40 [v]=some y):∃l,IntsV w l v∧(qcd (y.1.weights Tryz.prog 40)→l.length * 8≤reachBytes):=by
 obtain ⟨s,l,e,hr,hz⟩:=qd5 ⟨0⟩ (by omega) Tryz.underlying40 qre h qng
 exact ⟨l,⟨s,e,hr⟩,fun h=>by have:=hz h;rwa [qrd] at this⟩
theorem qn7 {H:Type} {enc:TypeId×Value→H} {w:World} {spare:Nat→Bool} {held:Bool} (fuel:Nat) (cs:List Value) (y:DataW H×List MemPlace) (hcs:cs.length=8) (h:DataW.trod enc Tryz.prog w 0 spare held fuel 61 cs=some y):∃x:TkR,(∀i,i < 8→∃u,cs[i]?=some u∧qrk w x i u)∧(qcd (y.1.weights Tryz.prog 61)→x.own.length * 8≤reachBytes):=by
 obtain ⟨c0,c1,c2,c3,c4,c5,c6,c7,rfl⟩:=qon hcs
 obtain ⟨xs,n,hn,hx,hl,hlen,hfs⟩:=DataW.trod_struct Tryz.underlying61 h
 match xs,hlen with
 | [y0,y1,y2,y3,y4,y5,y6,y7],_=>
  have h0:=hfs 0 _ rfl
  have h1:=hfs 1 _ rfl
  have h2:=hfs 2 _ rfl
  have h3:=hfs 3 _ rfl
  have h4:=hfs 4 _ rfl
  have h5:=hfs 5 _ rfl
  have h6:=hfs 6 _ rfl
  have h7:=hfs 7 _ rfl
  simp [qkb,qka,qda,qdn] at h0 h1 h2 h3 h4 h5 h6 h7
  obtain ⟨vprio,e0,_,_⟩:=DataW.trod_int Tryz.underlying3 h0
  obtain ⟨vring,e1,_,_⟩:=DataW.trod_int Tryz.underlying3 h1
  obtain ⟨vfull,e2,_⟩:=DataW.trod_bool Tryz.underlying4 h2
  obtain ⟨vlimit,e3,_,_⟩:=DataW.trod_int Tryz.underlying3 h3
  obtain ⟨vmaskz,e4,_,bvmask⟩:=DataW.trod_int Tryz.underlying59 h4
  obtain ⟨vmask,rfl⟩:=Int.eq_ofNat_of_zero_le (bounds_u32 bvmask).1
  obtain ⟨vinner,e5,_,_⟩:=DataW.trod_int Tryz.underlying3 h5
  obtain ⟨vown,w6,W6⟩:=qgu h6
  obtain ⟨vautoz,e7,_,bvauto⟩:=DataW.trod_int Tryz.underlying59 h7
  obtain ⟨vauto,rfl⟩:=Int.eq_ofNat_of_zero_le (bounds_u32 bvauto).1
  simp at e0 e1 e2 e3 e4 e5 e7
  subst e0 e1 e2 e3 e4 e5 e7
  have kvmask:vmask < 4294967296:=by have:=(bounds_u32 bvmask).2;omega
  have kvauto:vauto < 4294967296:=by have:=(bounds_u32 bvauto).2;omega
  refine ⟨⟨vprio,vring,vfull,vlimit,vmask,vinner,vown,vauto⟩,fun i hi=>?_,fun hz=>W6 (by have hx2:=congrArg Prod.fst hx;rw [hx2] at hz;exact qec Tryz.underlying61 hz (j:=6) rfl rfl)⟩
  rcases (by omega:i=0∨i=1∨i=2∨i=3∨i=4∨i=5∨i=6∨i=7) with rfl | rfl | rfl | rfl | rfl | rfl | rfl | rfl
  ·exact ⟨_,rfl,rfl,kvmask,kvauto⟩
  ·exact ⟨_,rfl,rfl,kvmask,kvauto⟩
  ·exact ⟨_,rfl,rfl,kvmask,kvauto⟩
  ·exact ⟨_,rfl,rfl,kvmask,kvauto⟩
  ·exact ⟨_,rfl,rfl,kvmask,kvauto⟩
  ·exact ⟨_,rfl,rfl,kvmask,kvauto⟩
  ·exact ⟨_,rfl,w6,kvmask,kvauto⟩
  ·exact ⟨_,rfl,rfl,kvmask,kvauto⟩
theorem qn8 {H:Type} {enc:TypeId×Value→H} {w:World} {spare:Nat→Bool} {held:Bool} (fuel:Nat) (cs:List Value) (y:DataW H×List MemPlace) (hcs:cs.length=3) (h:DataW.trod enc Tryz.prog w 0 spare held fuel 87 cs=some y):∃x:IsR,(∀i,i < 3→∃u,cs[i]?=some u∧isrP w x i u)∧(qcd (y.1.weights Tryz.prog 87)→x.own.length * 8≤reachBytes):=by
 obtain ⟨c0,c1,c2,rfl⟩:=qom hcs
 obtain ⟨xs,n,hn,hx,hl,hlen,hfs⟩:=DataW.trod_struct Tryz.underlying87 h
 match xs,hlen with
 | [y0,y1,y2],_=>
  have h0:=hfs 0 _ rfl
  have h1:=hfs 1 _ rfl
  have h2:=hfs 2 _ rfl
  simp [qkb,qda] at h0 h1 h2
  obtain ⟨vcat,e0,_,_⟩:=DataW.trod_int Tryz.underlying3 h0
  obtain ⟨vprio,e1,_,_⟩:=DataW.trod_int Tryz.underlying3 h1
  obtain ⟨vown,w2,W2⟩:=qgu h2
  simp at e0 e1
  subst e0 e1
  refine ⟨⟨vcat,vprio,vown⟩,fun i hi=>?_,fun hz=>W2 (by have hx2:=congrArg Prod.fst hx;rw [hx2] at hz;exact qec Tryz.underlying87 hz (j:=2) rfl rfl)⟩
  rcases (by omega:i=0∨i=1∨i=2) with rfl | rfl | rfl
  ·exact ⟨_,rfl,rfl⟩
  ·exact ⟨_,rfl,rfl⟩
  ·exact ⟨_,rfl,w2⟩
theorem qfe {H:Type} {enc:TypeId×Value→H} {w:World} {spare:Nat→Bool} {held:Bool} {r:Reach} {b0:Nat} {v:Value} {d:DataW H} {p:List MemPlace}
  (hv:Value.okWide Tryz.prog w r b0 30 v) (h:DataW.Trod enc Tryz.prog w 0 spare held 30 v d p) (hd:qcd (d.weights Tryz.prog 30)) :
  ∃(tb:Tb) (vv:Ts),v=.agg (tbC tb vv)∧TbAt w tb vv∧WfT tb∧SzT tb:=by
 obtain ⟨cs,rfl,hsz⟩:=okWide_struct Tryz.underlying30 hv
 rw [qro] at hsz
 obtain ⟨c0,c1,c2,c3,c4,c5,c6,c7,c8,c9,c10,c11,c12,rfl⟩:=qpe hsz
 obtain ⟨fuel,hf⟩:=h
 obtain ⟨xs,n,hn,hx,hl,hlen,hfs⟩:=DataW.trod_struct Tryz.underlying30 hf
 match xs,hlen with
 | [y0,y1,y2,y3,y4,y5,y6,y7,y8,y9,y10,y11,y12],_=>
  have hx2:=congrArg Prod.fst hx
  dsimp only at hx2
  rw [hx2] at hd
  have D:=fun {j:Nat} {u:TypeId} {e:DataW H}=>qec (P:=Tryz.prog) Tryz.underlying30 hd (j:=j) (u:=u) (d:=e)
  have h0:=hfs 0 _ rfl
  have h1:=hfs 1 _ rfl
  have h2:=hfs 2 _ rfl
  have h3:=hfs 3 _ rfl
  have h4:=hfs 4 _ rfl
  have h5:=hfs 5 _ rfl
  have h6:=hfs 6 _ rfl
  have h7:=hfs 7 _ rfl
  have h8:=hfs 8 _ rfl
  have h9:=hfs 9 _ rfl
  have h10:=hfs 10 _ rfl
  have h11:=hfs 11 _ rfl
  have h12:=hfs 12 _ rfl
  simp [qgk,qfn,qi3,qfo,qf7,qh1,qh0,qda,Value.cells] at h0 h1 h2 h3 h4 h5 h6 h7 h8 h9 h10 h11 h12
  obtain ⟨nUses,e0,_,_⟩:=DataW.trod_int Tryz.underlying3 h0
  obtain ⟨nModes,e1,_,_⟩:=DataW.trod_int Tryz.underlying3 h1
  obtain ⟨nDepth,e9,_,_⟩:=DataW.trod_int Tryz.underlying3 h9
  obtain ⟨nFrames,e10,_,_⟩:=DataW.trod_int Tryz.underlying3 h10
  obtain ⟨nErrors,e11,_,_⟩:=DataW.trod_int Tryz.underlying3 h11
  obtain ⟨nCalls,e12,_,_⟩:=DataW.trod_int Tryz.underlying3 h12
  simp at e0 e1 e9 e10 e11 e12
  subst e0 e1 e9 e10 e11 e12
  obtain ⟨st,lt,rfl,rt,zt⟩:=qgt ⟨(⟨0,0,false,0,0,0,[],0⟩:TkR)⟩ (by omega) Tryz.underlying22 q9_t (fun x=>x.own.length * 8≤reachBytes) h2 qn7
  obtain ⟨sg,lg,rfl,rg,zg⟩:=qd5 ⟨(⟨0,0⟩:RgR)⟩ (by omega) Tryz.underlying23 q9_g h3 qns
  obtain ⟨sr,lr,rfl,rr,zr⟩:=qd5 ⟨(⟨false,0⟩:RsR)⟩ (by omega) Tryz.underlying24 q9_r h4 qnt
  obtain ⟨sk,lk,rfl,rk,zk⟩:=qd5 ⟨(⟨0,0,0⟩:CtR)⟩ (by omega) Tryz.underlying25 q9_k h5 qnu
  obtain ⟨sa,la,rfl,ra,za⟩:=qd5 ⟨(⟨0,⟨0,0,0⟩,0,0,0⟩:AlR)⟩ (by omega) Tryz.underlying26 q9_a h6 qnv
  obtain ⟨si,li,rfl,ri,zi⟩:=qgt ⟨(⟨0,0,[]⟩:IsR)⟩ (by omega) Tryz.underlying27 q9_i (fun x=>x.own.length * 8≤reachBytes) h7 qn8
  obtain ⟨ss,ls,rfl,rs,zs⟩:=qd5 ⟨(⟨0,0,0,0,0,⟨0,0,0⟩⟩:MsR)⟩ (by omega) Tryz.underlying28 q9_s h8 qnw
  refine ⟨⟨nUses,nModes,lt,lg,lr,lk,la,li,ls,nDepth,nFrames,nErrors,nCalls⟩,⟨st,sg,sr,sk,sa,si,ss⟩,?_,⟨rt.below (Below.refl _ _) (fun _ _ _ _ h=>h.1),rg,rr,rk.below (Below.refl _ _) (fun _ _ _ _ h=>h.1),ra.below (Below.refl _ _) (fun _ _ _ _ h=>h.1),ri,rs.below (Below.refl _ _) (fun _ _ _ _ h=>h.1)⟩,⟨fun x hx=>?_,fun x hx=>?_,fun x hx=>?_,fun x hx=>?_⟩,?_⟩
  ·simp [tbC]
  ·obtain ⟨j,hj⟩:=List.getElem?_of_mem hx
   obtain ⟨_,_,_,_,hr⟩:=rt.row j x hj
   obtain ⟨_,_,hb⟩:=hr 0 (by omega)
   exact hb.2
  ·obtain ⟨j,hj⟩:=List.getElem?_of_mem hx
   obtain ⟨_,_,_,_,hr⟩:=rk.row j x hj
   obtain ⟨_,_,hb⟩:=hr 0 (by omega)
   exact hb.2
  ·obtain ⟨j,hj⟩:=List.getElem?_of_mem hx
   obtain ⟨_,_,_,_,hr⟩:=ra.row j x hj
   obtain ⟨_,_,hb⟩:=hr 0 (by omega)
   exact hb.2
  ·obtain ⟨j,hj⟩:=List.getElem?_of_mem hx
   obtain ⟨_,_,_,_,hr⟩:=rs.row j x hj
   obtain ⟨_,_,hb⟩:=hr 0 (by omega)
   exact hb.2
  ·have Zt:=zt (D (j:=2) rfl rfl)
   have Zi:=zi (D (j:=7) rfl rfl)
   have Zg:=zg (D (j:=3) rfl rfl)
   have Zr:=zr (D (j:=4) rfl rfl)
   have Zk:=zk (D (j:=5) rfl rfl)
   have Za:=za (D (j:=6) rfl rfl)
   have Zs:=zs (D (j:=8) rfl rfl)
   have Yt:=Zt.1
   rw [show Tryz.prog.bytesOf 61=80 by kernel_rfl] at Yt
   have Yg:=Zg
   rw [show Tryz.prog.bytesOf 63=16 by kernel_rfl] at Yg
   have Yr:=Zr
   rw [show Tryz.prog.bytesOf 78=16 by kernel_rfl] at Yr
   have Yk:=Zk
   rw [show Tryz.prog.bytesOf 80=12 by kernel_rfl] at Yk
   have Ya:=Za
   rw [show Tryz.prog.bytesOf 85=48 by kernel_rfl] at Ya
   have Yi:=Zi.1
   rw [show Tryz.prog.bytesOf 87=40 by kernel_rfl] at Yi
   have Ys:=Zs
   rw [show Tryz.prog.bytesOf 91=64 by kernel_rfl] at Ys
   have ht:=Zt.2
   have hi:=Zi.2
   unfold reachBytes at Yt Yg Yr Yk Ya Yi Ys ht hi
   refine ⟨by show lt.length * 80≤_;omega,by show lg.length * 16≤_;omega,by show lr.length * 16≤_;omega,by show lk.length * 12≤_;omega,by show la.length * 48≤_;omega,by show li.length * 40≤_;omega,by show ls.length * 64≤_;omega,fun j x hj=>?_,fun j x hj=>?_⟩
   ·have:=ht x (List.mem_of_getElem? hj);omega
   ·have:=hi x (List.mem_of_getElem? hj);omega
end Go.Proofs.YtijgopkhdjaolaaGreat
