import Derived.Test.YtijgopkhdjaolabGreatXHv2Tk
import Derived.Deep.RegionHeldLaw
import Derived.Deep.DrawnRows
set_option linter.unusedSimpArgs false
set_option linter.unusedVariables false
set_option maxRecDepth 100000
namespace Go.Proofs.YtijgopkhdjaolabGreat
open Go.RowKit Go.Shelf Go.Sort
open Go.Proofs.YtijgopkhdjaolabGreat.Ob (leB leV qa8 qag crc Rd RdAll qa7)
set_option maxHeartbeats 40000000
theorem qtp {w0:World} {X B:Nat} {tb:Tb} {v:Ts} (HS:Hid (∀W,qB w0 W→W.cell? ⟨X,3,none⟩=some (.slice v.g.a v.g.n v.g.c))) (HT:Hid (∀W,qB w0 W→TbAt W tb v)) (HOK:Hid (w0.heap.size≤B∧(∀x∈tb.rings,okRg x)∧(tb.rings.flatMap eRg).length≤100000)):PSeg 3 1 X B w0 (tb.rings.flatMap eRg):=by
 intro N R T vs w cs hT h1 h3 hb hc hq hK;have HK:Hid _:=hK;have HB:Hid (qB w0 w):=hb;have HI:Hid (PI w w B 1 cs none 0 ((tb.rings.take 0).flatMap eRg)):=PI.nil hc hq;rw [qei T hT];simp only [rng2,List.map_cons,List.map_nil,show tk T 1=_ from h1,show tk T 3=_ from h3];clear hK hb hc hq h1 h3 hT;generalize tk T=tt;conv=>arg 2;whnf
 go_wp2;go_loopw [6] (fun v6 wr=>∃(k:Nat) (a:Option Addr) (c:Nat),k≤v.g.n∧v6=I k∧Hid (PI w wr B 1 cs a c ((tb.rings.take k).flatMap eRg))) (fun v6 _=>v.g.n - (intOf v6).toNat)
 case atStart=>exact ⟨0,none,0,by omega,rfl,HI.out⟩
 case round=>
  clear HI;obtain ⟨k,a,c,hk,rfl,HJ⟩:=hrel;have HZ:Hid (qB w0 wr):=qe0 HB.out HOK.out.1 HJ.out.g;have cA:=HS.out wr HZ.out;have hmx:v.g.n≤maxLen:=Nat.le_trans (HT.out wr HZ.out).g.c (HT.out wr HZ.out).g.m;unfold maxLen at hmx;by_cases hlt:k < v.g.n
  ·skip
   have hltI:(k:Int) < v.g.n:=by omega
   have hk1:k < tb.rings.length:=by have:=(HT.out wr HZ.out).g.n;omega
   obtain ⟨x,hx⟩:∃x,tb.rings[k]?=some x:=⟨_,List.getElem?_eq_getElem hk1⟩
   have hbnd:((tb.rings.take k).flatMap eRg).length+(eRg x).length≤100000:=Nat.le_trans (qeu eRg hx) HOK.out.2.2;have HN:Hid ((tb.rings.take (k+1)).flatMap eRg=(tb.rings.take k).flatMap eRg++eRg x):=qde eRg hx;have hok:okRg x:=HOK.out.2.1 x (List.mem_of_getElem? hx);obtain ⟨k0,k1⟩:=hok;have HKS:Hid (b8 x.prio∧b16 x.cap):=⟨k0,k1⟩;obtain ⟨g,o,e1,q0,q1⟩:=atRg (HT.out w0 (Below.refl _ _)).g hk1 (Below.refl w0.heap.size w0);have hxe:tb.rings[k]=x:=Option.some.inj ((List.getElem?_eq_getElem hk1).symm.trans hx);rw [hxe] at q0 q1;clear hxe;have cA:=HS.out w0 (Below.refl _ _);rw [e1] at cA;clear e1 hx hk1;clear k0 k1;generalize (tb.rings.take k).flatMap eRg=l at *;have HBD:Hid (l.length+(eRg x).length≤100000):=hbnd;clear hbnd;have HP:Hid (PI w wr B 1 cs a c l∧True):=⟨HJ.out,trivial⟩;have HXC:Hid (∀W,qB w0 W→W.cell? ⟨X,3,none⟩=some (.slice (some ⟨g,o,none⟩) v.g.n v.g.c)∧W.cell? ⟨g,o+k * 2,none⟩=some (I x.prio)∧W.cell? ⟨g,o+k * 2+1,none⟩=some (I x.cap)):=fun W hW=>⟨by rw [qa5 hW _ _ (World.block_lt_of_cell? _ _ cA)];exact cA,by rw [qa5 hW _ _ (World.block_lt_of_cell? _ _ q0)];exact q0,by rw [qa5 hW _ _ (World.block_lt_of_cell? _ _ q1)];exact q1⟩
   have HSS:Hid (∀W,qB wr W→W.cell? ⟨X,3,none⟩=some (.slice (some ⟨g,o,none⟩) v.g.n v.g.c)∧W.cell? ⟨g,o+k * 2,none⟩=some (I x.prio)∧W.cell? ⟨g,o+k * 2+1,none⟩=some (I x.cap)∧W.cell? ⟨B,1,none⟩=some (.slice a l.length c)):=fun W hW=>by
    obtain ⟨y0,y1,y2⟩:=HXC.out W (belT HZ.out hW);exact ⟨y0,y1,y2,(HJ.out.below hW).cell⟩
   clear cA q0 q1;have cA:=HS.out wr HZ.out;go_upto_region 10 with fail;clear cA;refine qc5 (S:=(fun W=>W.cell? ⟨X,3,none⟩=some (.slice (some ⟨g,o,none⟩) v.g.n v.g.c)∧W.cell? ⟨g,o+k * 2,none⟩=some (I x.prio)∧W.cell? ⟨g,o+k * 2+1,none⟩=some (I x.cap)∧W.cell? ⟨B,1,none⟩=some (.slice a l.length c))) 22 (by kernel_rfl) ?_;change qbw _ _ _ _ _ _ _ #[false,false,false,false,false,false,false,false,false,false,false,false,false,false,false,false,false,false,false,false,false,false,false] _ _;have hHeld:=HSS.out wr.drew (Below.refl wr.heap.size wr).drew;try simp only [qN]
   refine qTG 0 (.slice (some ⟨B,0,none⟩) 7 7) rfl hHeld ?_;try simp only [qN]
   refine qTG 1 (.slice (some ⟨B,0,none⟩) 7 7) rfl hHeld ?_;try simp only [qN]
   refine qTG 2 (.pointer (some ⟨B,1,none⟩)) rfl hHeld ?_;try simp only [qN]
   refine qTG 3 (.slice a l.length c) rfl hHeld ?_;try simp only [qN]
   refine qTG 4 (.pointer (some ⟨X,3,none⟩)) rfl hHeld ?_;try simp only [qN]
   refine qTG 5 (.slice (some ⟨g,o,none⟩) v.g.n v.g.c) rfl hHeld ?_;try simp only [qN]
   refine qTG 6 (I k) rfl hHeld ?_;try simp only [qN]
   refine qTG 7 (.pointer (some ⟨g,o+k * 2,none⟩)) rfl hHeld ?_;try simp only [qN]
   refine qTG 8 (.pointer (some ⟨g,o+k * 2,none⟩)) rfl hHeld ?_;try simp only [qN]
   refine qTG 9 (I x.prio) rfl hHeld ?_;try simp only [qN]
   refine qTG 11 (.pointer (some ⟨X,3,none⟩)) rfl hHeld ?_;try simp only [qN]
   refine qTG 12 (.slice (some ⟨g,o,none⟩) v.g.n v.g.c) rfl hHeld ?_;try simp only [qN]
   refine qTG 13 (I k) rfl hHeld ?_;try simp only [qN]
   refine qTG 14 (.pointer (some ⟨g,o+k * 2,none⟩)) rfl hHeld ?_;try simp only [qN]
   refine qTG 15 (.pointer (some ⟨g,o+k * 2+1,none⟩)) rfl hHeld ?_;try simp only [qN]
   refine qTG 16 (I x.cap) rfl hHeld ?_;try simp only [qN]
   clear hHeld;have hW0:qB wr wr.drew:=(Below.refl _ _).drew;refine qab (i:=10) (by kernel_rfl) rfl (fun K hK=>?_);have hC:=fun W (hW:W=wr.drew)=>lfB W x.prio (HKS.out.1)
   go_simp;(go_at_call 90;refine (hC _ rfl).mono ?_;clear hC;rintro e W1 ⟨a1,c1,rfl,r1,b1⟩;refine hK.out _ _ (fun _=>HSS.out _ (belT hW0 b1)) ?_)
   have h1b:=belT hW0 b1;clear hK K hW0 b1;try simp only [qN]
   refine qab (i:=17) (by kernel_rfl) rfl (fun K hK=>?_);have hC:=fun W (hW:W=W1)=>lfH W x.cap (HKS.out.2)
   go_simp;(go_at_call 95;refine (hC _ rfl).mono ?_;clear hC;rintro e W2 ⟨a2,c2,rfl,r2,b2⟩;refine hK.out _ _ (fun _=>HSS.out _ (belT h1b b2)) ?_)
   have r1:=r1.below b2;have h2b:=belT h1b b2;clear hK K h1b b2;try simp only [qN]
   have hfl:[e1 x.prio,e2 x.cap].flatten=eRg x:=by simp [eRg]
   have hR:=rowN W2 [(a1,1,c1),(a2,2,c2)] [e1 x.prio,e2 x.cap] 2 ⟨r1,r2,trivial⟩ rfl (by omega) (by rw [hfl];have:=HBD.out;omega);rw [hfl] at hR;simp only [List.map_cons,List.map_nil] at hR;clear hfl r1 r2;refine qab (i:=18) (by kernel_rfl) rfl (fun K hK=>?_);go_simp;refine hK.out _ _ (fun _=>HSS.out _ (belA h2b)) ?_;clear hK K;try simp only [qN]
   refine qab (i:=19) (by kernel_rfl) rfl (fun K hK=>?_);go_simp;(go_at_call 89;refine hR.mono ?_;clear hR;rintro e WR ⟨u,rfl,ho⟩;have hRb:=belT (belA h2b) ho.2;have HPR:=HP.out.1.below hRb;have ho:=ho.1;refine hK.out _ _ (fun _=>HSS.out _ hRb) ?_)
   clear hK K h2b hRb;try simp only [qN]
   refine qab (i:=20) (by kernel_rfl) rfl (fun K hK=>?_);refine qdb rfl _ _ rfl w.heap.size _ (.slice a l.length c) u l (eRg x) (by simp [Act.eval]) (by simp [Act.eval]) HPR.o ho (by have:=HBD.out;omega) HPR.g.size ?_;intro v' W9 hO hg;obtain ⟨hgr,hty,a',c',rfl,hc1,hf1,HPN⟩:=HPR.next hO hg;have HS9:Hid (W9.cell? ⟨X,3,none⟩=some (.slice (some ⟨g,o,none⟩) v.g.n v.g.c)∧W9.cell? ⟨g,o+k * 2,none⟩=some (I x.prio)∧W9.cell? ⟨g,o+k * 2+1,none⟩=some (I x.cap)∧W9.cell? ⟨B,1,none⟩=some (.slice a l.length c)):=by
    obtain ⟨y0,y1,y2⟩:=HXC.out W9 (qe0 HB.out HOK.out.1 hgr);exact ⟨y0,y1,y2,hc1⟩
   refine hK.out _ _ (fun _=>HS9.out) ?_;clear hK K hO hg HPR ho hgr hty;generalize l++eRg x=l2 at *;try simp only [qN]
   refine qab (i:=21) (by kernel_rfl) rfl (fun K hK=>?_);go_simp;refine hK.out _ _ (fun _=>HS9.out) ?_;clear hK K;try simp only [qN]
   refine qab (i:=22) (by kernel_rfl) rfl (fun K hK=>?_);go_simp;refine hK.out _ _ (fun h=>absurd rfl h) ?_;clear hK K hc1 hf1;try simp only [qN]
   refine qc4 (by kernel_rfl) ?_ _;have HPF:Hid (PI w (W9.setCell ⟨B,1,none⟩ (.slice a' l2.length c')) B 1 cs a' c' l2):=HPN;clear HPN;generalize W9.setCell ⟨B,1,none⟩ (.slice a' l2.length c')=WF at *;go_wp2;go_roundw
   case rel=>exact ⟨k+1,a',c',by omega,by go_num,by rw [HN.out];exact HPF.out⟩
   case measure=>simp [intOf];omega
  ·obtain rfl:k=v.g.n:=by omega
   have hge:¬((v.g.n:Int) < v.g.n):=by omega
   have HE:Hid (PI w wr B 1 cs a c (tb.rings.flatMap eRg)):=by
    have h9:=HJ.out;rw [List.take_of_length_le (by have:=(HT.out wr HZ.out).g.n;omega)] at h9;exact h9
   clear HJ;go_wp2;(try simp only [Exit.inBlock,Exit.then])
   exact HK.out _ _ a c rfl rfl rfl HZ.out HE.out
theorem qtq {w0:World} {X B:Nat} {tb:Tb} {v:Ts} (HS:Hid (∀W,qB w0 W→W.cell? ⟨X,4,none⟩=some (.slice v.r.a v.r.n v.r.c))) (HT:Hid (∀W,qB w0 W→TbAt W tb v)) (HOK:Hid (w0.heap.size≤B∧(∀x∈tb.ress,okRs x)∧(tb.ress.flatMap eRs).length≤100000)):PSeg 4 2 X B w0 (tb.ress.flatMap eRs):=by
 intro N R T vs w cs hT h1 h3 hb hc hq hK;have HK:Hid _:=hK;have HB:Hid (qB w0 w):=hb;have HI:Hid (PI w w B 2 cs none 0 ((tb.ress.take 0).flatMap eRs)):=PI.nil hc hq;rw [qei T hT];simp only [rng2,List.map_cons,List.map_nil,show tk T 1=_ from h1,show tk T 3=_ from h3];clear hK hb hc hq h1 h3 hT;generalize tk T=tt;conv=>arg 2;whnf
 go_wp2;go_loopw [7] (fun v7 wr=>∃(k:Nat) (a:Option Addr) (c:Nat),k≤v.r.n∧v7=I k∧Hid (PI w wr B 2 cs a c ((tb.ress.take k).flatMap eRs))) (fun v7 _=>v.r.n - (intOf v7).toNat)
 case atStart=>exact ⟨0,none,0,by omega,rfl,HI.out⟩
 case round=>
  clear HI;obtain ⟨k,a,c,hk,rfl,HJ⟩:=hrel;have HZ:Hid (qB w0 wr):=qe0 HB.out HOK.out.1 HJ.out.g;have cA:=HS.out wr HZ.out;have hmx:v.r.n≤maxLen:=Nat.le_trans (HT.out wr HZ.out).r.c (HT.out wr HZ.out).r.m;unfold maxLen at hmx;by_cases hlt:k < v.r.n
  ·skip
   have hltI:(k:Int) < v.r.n:=by omega
   have hk1:k < tb.ress.length:=by have:=(HT.out wr HZ.out).r.n;omega
   obtain ⟨x,hx⟩:∃x,tb.ress[k]?=some x:=⟨_,List.getElem?_eq_getElem hk1⟩
   have hbnd:((tb.ress.take k).flatMap eRs).length+(eRs x).length≤100000:=Nat.le_trans (qeu eRs hx) HOK.out.2.2;have HN:Hid ((tb.ress.take (k+1)).flatMap eRs=(tb.ress.take k).flatMap eRs++eRs x):=qde eRs hx;have hok:okRs x:=HOK.out.2.1 x (List.mem_of_getElem? hx);have k1:b8 (x.ceil+1):=hok;have HKS:Hid (b8 (x.ceil+1)):=k1;obtain ⟨g,o,e1,q0,q1⟩:=atRs (HT.out w0 (Below.refl _ _)).r hk1 (Below.refl w0.heap.size w0);have hxe:tb.ress[k]=x:=Option.some.inj ((List.getElem?_eq_getElem hk1).symm.trans hx);rw [hxe] at q0 q1;clear hxe;have cA:=HS.out w0 (Below.refl _ _);rw [e1] at cA;clear e1 hx hk1 hok;clear k1;generalize (tb.ress.take k).flatMap eRs=l at *;have HBD:Hid (l.length+(eRs x).length≤100000):=hbnd;clear hbnd;have HP:Hid (PI w wr B 2 cs a c l∧True):=⟨HJ.out,trivial⟩;have HXC:Hid (∀W,qB w0 W→W.cell? ⟨X,4,none⟩=some (.slice (some ⟨g,o,none⟩) v.r.n v.r.c)∧W.cell? ⟨g,o+k * 2,none⟩=some (.bool x.inner)∧W.cell? ⟨g,o+k * 2+1,none⟩=some (I x.ceil)):=fun W hW=>⟨by rw [qa5 hW _ _ (World.block_lt_of_cell? _ _ cA)];exact cA,by rw [qa5 hW _ _ (World.block_lt_of_cell? _ _ q0)];exact q0,by rw [qa5 hW _ _ (World.block_lt_of_cell? _ _ q1)];exact q1⟩
   have HSS:Hid (∀W,qB wr W→W.cell? ⟨X,4,none⟩=some (.slice (some ⟨g,o,none⟩) v.r.n v.r.c)∧W.cell? ⟨g,o+k * 2,none⟩=some (.bool x.inner)∧W.cell? ⟨g,o+k * 2+1,none⟩=some (I x.ceil)∧W.cell? ⟨B,2,none⟩=some (.slice a l.length c)):=fun W hW=>by
    obtain ⟨y0,y1,y2⟩:=HXC.out W (belT HZ.out hW);exact ⟨y0,y1,y2,(HJ.out.below hW).cell⟩
   clear cA q0 q1;have cA:=HS.out wr HZ.out;go_upto_region 14 with fail;clear cA;refine qc5 (S:=(fun W=>W.cell? ⟨X,4,none⟩=some (.slice (some ⟨g,o,none⟩) v.r.n v.r.c)∧W.cell? ⟨g,o+k * 2,none⟩=some (.bool x.inner)∧W.cell? ⟨g,o+k * 2+1,none⟩=some (I x.ceil)∧W.cell? ⟨B,2,none⟩=some (.slice a l.length c))) 22 (by kernel_rfl) ?_;change qbw _ _ _ _ _ _ _ #[false,false,false,false,false,false,false,false,false,false,false,false,false,false,false,false,false,false,false,false,false,false,false] _ _;have hHeld:=HSS.out wr.drew (Below.refl wr.heap.size wr).drew;try simp only [qN]
   refine qTG 0 (.slice (some ⟨B,0,none⟩) 7 7) rfl hHeld ?_;try simp only [qN]
   refine qTG 1 (.slice (some ⟨B,0,none⟩) 7 7) rfl hHeld ?_;try simp only [qN]
   refine qTG 2 (.pointer (some ⟨B,2,none⟩)) rfl hHeld ?_;try simp only [qN]
   refine qTG 3 (.slice a l.length c) rfl hHeld ?_;try simp only [qN]
   refine qTG 4 (.pointer (some ⟨X,4,none⟩)) rfl hHeld ?_;try simp only [qN]
   refine qTG 5 (.slice (some ⟨g,o,none⟩) v.r.n v.r.c) rfl hHeld ?_;try simp only [qN]
   refine qTG 6 (I k) rfl hHeld ?_;try simp only [qN]
   refine qTG 7 (.pointer (some ⟨g,o+k * 2,none⟩)) rfl hHeld ?_;try simp only [qN]
   refine qTG 8 (.pointer (some ⟨g,o+k * 2,none⟩)) rfl hHeld ?_;try simp only [qN]
   refine qTG 9 (.bool x.inner) rfl hHeld ?_;try simp only [qN]
   refine qTG 11 (.pointer (some ⟨X,4,none⟩)) rfl hHeld ?_;try simp only [qN]
   refine qTG 12 (.slice (some ⟨g,o,none⟩) v.r.n v.r.c) rfl hHeld ?_;try simp only [qN]
   refine qTG 13 (I k) rfl hHeld ?_;try simp only [qN]
   refine qTG 14 (.pointer (some ⟨g,o+k * 2,none⟩)) rfl hHeld ?_;try simp only [qN]
   refine qTG 15 (.pointer (some ⟨g,o+k * 2+1,none⟩)) rfl hHeld ?_;try simp only [qN]
   refine qTG 16 (I x.ceil) rfl hHeld ?_;try simp only [qN]
   clear hHeld;have hW0:qB wr wr.drew:=(Below.refl _ _).drew;refine qab (i:=10) (by kernel_rfl) rfl (fun K hK=>?_);have hC:=fun W (hW:W=wr.drew)=>lfF W x.inner
   go_simp;(go_at_call 91;refine (hC _ rfl).mono ?_;clear hC;rintro e W1 ⟨a1,c1,rfl,r1,b1⟩;refine hK.out _ _ (fun _=>HSS.out _ (belT hW0 b1)) ?_)
   have h1b:=belT hW0 b1;clear hK K hW0 b1;try simp only [qN]
   refine qab (i:=17) (by kernel_rfl) rfl (fun K hK=>?_);have hC:=fun W (hW:W=W1)=>lfM W x.ceil (HKS.out)
   go_simp;(go_at_call 93;refine (hC _ rfl).mono ?_;clear hC;rintro e W2 ⟨a2,c2,rfl,r2,b2⟩;refine hK.out _ _ (fun _=>HSS.out _ (belT h1b b2)) ?_)
   have r1:=r1.below b2;have h2b:=belT h1b b2;clear hK K h1b b2;try simp only [qN]
   have hfl:[eF x.inner,e1 (x.ceil+1)].flatten=eRs x:=by simp [eRs]
   have hR:=rowN W2 [(a1,1,c1),(a2,1,c2)] [eF x.inner,e1 (x.ceil+1)] 2 ⟨r1,r2,trivial⟩ rfl (by omega) (by rw [hfl];have:=HBD.out;omega);rw [hfl] at hR;simp only [List.map_cons,List.map_nil] at hR;clear hfl r1 r2;refine qab (i:=18) (by kernel_rfl) rfl (fun K hK=>?_);go_simp;refine hK.out _ _ (fun _=>HSS.out _ (belA h2b)) ?_;clear hK K;try simp only [qN]
   refine qab (i:=19) (by kernel_rfl) rfl (fun K hK=>?_);go_simp;(go_at_call 89;refine hR.mono ?_;clear hR;rintro e WR ⟨u,rfl,ho⟩;have hRb:=belT (belA h2b) ho.2;have HPR:=HP.out.1.below hRb;have ho:=ho.1;refine hK.out _ _ (fun _=>HSS.out _ hRb) ?_)
   clear hK K h2b hRb;try simp only [qN]
   refine qab (i:=20) (by kernel_rfl) rfl (fun K hK=>?_);refine qdb rfl _ _ rfl w.heap.size _ (.slice a l.length c) u l (eRs x) (by simp [Act.eval]) (by simp [Act.eval]) HPR.o ho (by have:=HBD.out;omega) HPR.g.size ?_;intro v' W9 hO hg;obtain ⟨hgr,hty,a',c',rfl,hc1,hf1,HPN⟩:=HPR.next hO hg;have HS9:Hid (W9.cell? ⟨X,4,none⟩=some (.slice (some ⟨g,o,none⟩) v.r.n v.r.c)∧W9.cell? ⟨g,o+k * 2,none⟩=some (.bool x.inner)∧W9.cell? ⟨g,o+k * 2+1,none⟩=some (I x.ceil)∧W9.cell? ⟨B,2,none⟩=some (.slice a l.length c)):=by
    obtain ⟨y0,y1,y2⟩:=HXC.out W9 (qe0 HB.out HOK.out.1 hgr);exact ⟨y0,y1,y2,hc1⟩
   refine hK.out _ _ (fun _=>HS9.out) ?_;clear hK K hO hg HPR ho hgr hty;generalize l++eRs x=l2 at *;try simp only [qN]
   refine qab (i:=21) (by kernel_rfl) rfl (fun K hK=>?_);go_simp;refine hK.out _ _ (fun _=>HS9.out) ?_;clear hK K;try simp only [qN]
   refine qab (i:=22) (by kernel_rfl) rfl (fun K hK=>?_);go_simp;refine hK.out _ _ (fun h=>absurd rfl h) ?_;clear hK K hc1 hf1;try simp only [qN]
   refine qc4 (by kernel_rfl) ?_ _;have HPF:Hid (PI w (W9.setCell ⟨B,2,none⟩ (.slice a' l2.length c')) B 2 cs a' c' l2):=HPN;clear HPN;generalize W9.setCell ⟨B,2,none⟩ (.slice a' l2.length c')=WF at *;go_wp2;go_roundw
   case rel=>exact ⟨k+1,a',c',by omega,by go_num,by rw [HN.out];exact HPF.out⟩
   case measure=>simp [intOf];omega
  ·obtain rfl:k=v.r.n:=by omega
   have hge:¬((v.r.n:Int) < v.r.n):=by omega
   have HE:Hid (PI w wr B 2 cs a c (tb.ress.flatMap eRs)):=by
    have h9:=HJ.out;rw [List.take_of_length_le (by have:=(HT.out wr HZ.out).r.n;omega)] at h9;exact h9
   clear HJ;go_wp2;(try simp only [Exit.inBlock,Exit.then])
   exact HK.out _ _ a c rfl rfl rfl HZ.out HE.out
theorem qtr {w0:World} {X B:Nat} {tb:Tb} {v:Ts} (HS:Hid (∀W,qB w0 W→W.cell? ⟨X,5,none⟩=some (.slice v.k.a v.k.n v.k.c))) (HT:Hid (∀W,qB w0 W→TbAt W tb v)) (HOK:Hid (w0.heap.size≤B∧(∀x∈tb.ctrs,okCt x)∧(tb.ctrs.flatMap eCt).length≤100000)):PSeg 5 3 X B w0 (tb.ctrs.flatMap eCt):=by
 intro N R T vs w cs hT h1 h3 hb hc hq hK;have HK:Hid _:=hK;have HB:Hid (qB w0 w):=hb;have HI:Hid (PI w w B 3 cs none 0 ((tb.ctrs.take 0).flatMap eCt)):=PI.nil hc hq;rw [qei T hT];simp only [rng2,List.map_cons,List.map_nil,show tk T 1=_ from h1,show tk T 3=_ from h3];clear hK hb hc hq h1 h3 hT;generalize tk T=tt;conv=>arg 2;whnf
 go_wp2;go_loopw [8,9] (fun v8 _ wr=>∃(k:Nat) (a:Option Addr) (c:Nat),k≤v.k.n∧v8=I k∧Hid (PI w wr B 3 cs a c ((tb.ctrs.take k).flatMap eCt))) (fun v8 _ _=>v.k.n - (intOf v8).toNat)
 case atStart=>exact ⟨0,none,0,by omega,rfl,HI.out⟩
 case round=>
  clear HI;obtain ⟨k,a,c,hk,rfl,HJ⟩:=hrel;have HZ:Hid (qB w0 wr):=qe0 HB.out HOK.out.1 HJ.out.g;have cA:=HS.out wr HZ.out;have hmx:v.k.n≤maxLen:=Nat.le_trans (HT.out wr HZ.out).k.c (HT.out wr HZ.out).k.m;unfold maxLen at hmx;by_cases hlt:k < v.k.n
  ·skip
   have hltI:(k:Int) < v.k.n:=by omega
   have hk1:k < tb.ctrs.length:=by have:=(HT.out wr HZ.out).k.n;omega
   obtain ⟨x,hx⟩:∃x,tb.ctrs[k]?=some x:=⟨_,List.getElem?_eq_getElem hk1⟩
   have hbnd:((tb.ctrs.take k).flatMap eCt).length+(eCt x).length≤100000:=Nat.le_trans (qeu eCt hx) HOK.out.2.2;have HN:Hid ((tb.ctrs.take (k+1)).flatMap eCt=(tb.ctrs.take k).flatMap eCt++eCt x):=qde eCt hx;have hok:okCt x:=HOK.out.2.1 x (List.mem_of_getElem? hx);obtain ⟨k0,k1,k2⟩:=hok;have HKS:Hid (x.max < 256 ^ 4∧x.base < 256 ^ 4∧x.min < 256 ^ 4):=⟨k0,k1,k2⟩;obtain ⟨g,o,e1,q0,q1,q2⟩:=atCt (HT.out wr HZ.out).k hk1 (Below.refl wr.heap.size wr);have hxe:tb.ctrs[k]=x:=Option.some.inj ((List.getElem?_eq_getElem hk1).symm.trans hx);rw [hxe] at q0 q1 q2;clear hxe;rw [e1] at cA;clear e1 hx hk1;clear k0 k1 k2;generalize (tb.ctrs.take k).flatMap eCt=l at *;have HBD:Hid (l.length+(eCt x).length≤100000):=hbnd;clear hbnd;have hv5:=heap_alloc_new wr (.cells #[.int .u32 (x.max:Int),.int .u32 (x.base:Int),.int .u32 (x.min:Int)] 77);have hb5:=qa0 wr (.cells #[.int .u32 (x.max:Int),.int .u32 (x.base:Int),.int .u32 (x.min:Int)] 77);go_upto_region 19 with fail;have HP:Hid (PI w (wr.alloc (.cells #[.int .u32 (x.max:Int),.int .u32 (x.base:Int),.int .u32 (x.min:Int)] 77)) B 3 cs a c l∧qB wr (wr.alloc (.cells #[.int .u32 (x.max:Int),.int .u32 (x.base:Int),.int .u32 (x.min:Int)] 77))):=⟨HJ.out.below hb5,hb5⟩;have HV:Hid ((wr.alloc (.cells #[.int .u32 (x.max:Int),.int .u32 (x.base:Int),.int .u32 (x.min:Int)] 77)).heap[wr.heap.size]?=some (.cells #[.int .u32 (x.max:Int),.int .u32 (x.base:Int),.int .u32 (x.min:Int)] 77)):=hv5;clear hv5 hb5 cA q0 q1 q2;generalize wr.alloc (.cells #[.int .u32 (x.max:Int),.int .u32 (x.base:Int),.int .u32 (x.min:Int)] 77)=w5 at *;generalize hP0:wr.heap.size=P0 at *;have HSS:Hid (∀W,qB w5 W→W.cell? ⟨P0,0,none⟩=some (.int .u32 (x.max:Int))∧W.cell? ⟨P0,1,none⟩=some (.int .u32 (x.base:Int))∧W.cell? ⟨P0,2,none⟩=some (.int .u32 (x.min:Int))∧W.cell? ⟨B,3,none⟩=some (.slice a l.length c)):=fun W hW=>by
    have h9:=(hW.block _ (qa6 HV.out)).trans HV.out;refine ⟨?_,?_,?_,(HP.out.1.below hW).cell⟩ <;> (rw [qcr h9];rfl)
   refine qc5 (S:=(fun W=>W.cell? ⟨P0,0,none⟩=some (.int .u32 (x.max:Int))∧W.cell? ⟨P0,1,none⟩=some (.int .u32 (x.base:Int))∧W.cell? ⟨P0,2,none⟩=some (.int .u32 (x.min:Int))∧W.cell? ⟨B,3,none⟩=some (.slice a l.length c))) 17 (by kernel_rfl) ?_;change qbw _ _ _ _ _ _ _ #[false,false,false,false,false,false,false,false,false,false,false,false,false,false,false,false,false,false] _ _;have hHeld:=HSS.out w5.drew (Below.refl w5.heap.size w5).drew;try simp only [qN]
   refine qTG 0 (.slice (some ⟨B,0,none⟩) 7 7) rfl hHeld ?_;try simp only [qN]
   refine qTG 1 (.slice (some ⟨B,0,none⟩) 7 7) rfl hHeld ?_;try simp only [qN]
   refine qTG 2 (.pointer (some ⟨B,3,none⟩)) rfl hHeld ?_;try simp only [qN]
   refine qTG 3 (.slice a l.length c) rfl hHeld ?_;try simp only [qN]
   refine qTG 4 (.pointer (some ⟨P0,0,none⟩)) rfl hHeld ?_;try simp only [qN]
   refine qTG 5 (.int .u32 (x.max:Int)) rfl hHeld ?_;try simp only [qN]
   refine qTG 7 (.pointer (some ⟨P0,1,none⟩)) rfl hHeld ?_;try simp only [qN]
   refine qTG 8 (.int .u32 (x.base:Int)) rfl hHeld ?_;try simp only [qN]
   refine qTG 10 (.pointer (some ⟨P0,2,none⟩)) rfl hHeld ?_;try simp only [qN]
   refine qTG 11 (.int .u32 (x.min:Int)) rfl hHeld ?_;try simp only [qN]
   clear hHeld;have hW0:qB w5 w5.drew:=(Below.refl _ _).drew;refine qab (i:=6) (by kernel_rfl) rfl (fun K hK=>?_);have hC:=fun W (hW:W=w5.drew)=>lfW W x.max (HKS.out.1)
   go_simp;(go_at_call 92;refine (hC _ rfl).mono ?_;clear hC;rintro e W1 ⟨a1,c1,rfl,r1,b1⟩;refine hK.out _ _ (fun _=>HSS.out _ (belT hW0 b1)) ?_)
   have h1b:=belT hW0 b1;clear hK K hW0 b1;try simp only [qN]
   refine qab (i:=9) (by kernel_rfl) rfl (fun K hK=>?_);have hC:=fun W (hW:W=W1)=>lfW W x.base (HKS.out.2.1)
   go_simp;(go_at_call 92;refine (hC _ rfl).mono ?_;clear hC;rintro e W2 ⟨a2,c2,rfl,r2,b2⟩;refine hK.out _ _ (fun _=>HSS.out _ (belT h1b b2)) ?_)
   have r1:=r1.below b2;have h2b:=belT h1b b2;clear hK K h1b b2;try simp only [qN]
   refine qab (i:=12) (by kernel_rfl) rfl (fun K hK=>?_);have hC:=fun W (hW:W=W2)=>lfW W x.min (HKS.out.2.2)
   go_simp;(go_at_call 92;refine (hC _ rfl).mono ?_;clear hC;rintro e W3 ⟨a3,c3,rfl,r3,b3⟩;refine hK.out _ _ (fun _=>HSS.out _ (belT h2b b3)) ?_)
   have r1:=r1.below b3;have r2:=r2.below b3;have h3b:=belT h2b b3;clear hK K h2b b3;try simp only [qN]
   have hfl:[leB 4 x.max,leB 4 x.base,leB 4 x.min].flatten=eCt x:=by simp [eCt]
   have hR:=rowN W3 [(a1,4,c1),(a2,4,c2),(a3,4,c3)] [leB 4 x.max,leB 4 x.base,leB 4 x.min] 3 ⟨r1,r2,r3,trivial⟩ rfl (by omega) (by rw [hfl];have:=HBD.out;omega);rw [hfl] at hR;simp only [List.map_cons,List.map_nil] at hR;clear hfl r1 r2 r3;refine qab (i:=13) (by kernel_rfl) rfl (fun K hK=>?_);go_simp;refine hK.out _ _ (fun _=>HSS.out _ (belA h3b)) ?_;clear hK K;try simp only [qN]
   refine qab (i:=14) (by kernel_rfl) rfl (fun K hK=>?_);go_simp;(go_at_call 89;refine hR.mono ?_;clear hR;rintro e WR ⟨u,rfl,ho⟩;have hRb:=belT (belA h3b) ho.2;have HPR:=HP.out.1.below hRb;have HVR:Hid (WR.heap[P0]?=some (.cells #[.int .u32 (x.max:Int),.int .u32 (x.base:Int),.int .u32 (x.min:Int)] 77)):=(hRb.block _ (qa6 HV.out)).trans HV.out;have ho:=ho.1;refine hK.out _ _ (fun _=>HSS.out _ hRb) ?_)
   clear hK K h3b hRb;try simp only [qN]
   refine qab (i:=15) (by kernel_rfl) rfl (fun K hK=>?_);refine qdb rfl _ _ rfl w.heap.size _ (.slice a l.length c) u l (eCt x) (by simp [Act.eval]) (by simp [Act.eval]) HPR.o ho (by have:=HBD.out;omega) HPR.g.size ?_;intro v' W9 hO hg;obtain ⟨hgr,hty,a',c',rfl,hc1,hf1,HPN⟩:=HPR.next hO hg;have HS9:Hid (W9.cell? ⟨P0,0,none⟩=some (.int .u32 (x.max:Int))∧W9.cell? ⟨P0,1,none⟩=some (.int .u32 (x.base:Int))∧W9.cell? ⟨P0,2,none⟩=some (.int .u32 (x.min:Int))∧W9.cell? ⟨B,3,none⟩=some (.slice a l.length c)):=by
    have h9:=hty _ _ _ HVR.out (by decide);refine ⟨?_,?_,?_,hc1⟩ <;> (rw [qcr h9];rfl)
   refine hK.out _ _ (fun _=>HS9.out) ?_;clear hK K hO hg HPR ho hgr hty;generalize l++eCt x=l2 at *;try simp only [qN]
   refine qab (i:=16) (by kernel_rfl) rfl (fun K hK=>?_);go_simp;refine hK.out _ _ (fun _=>HS9.out) ?_;clear hK K;try simp only [qN]
   refine qab (i:=17) (by kernel_rfl) rfl (fun K hK=>?_);go_simp;refine hK.out _ _ (fun h=>absurd rfl h) ?_;clear hK K hc1 hf1;try simp only [qN]
   refine qc4 (by kernel_rfl) ?_ _;have HPF:Hid (PI w (W9.setCell ⟨B,3,none⟩ (.slice a' l2.length c')) B 3 cs a' c' l2):=HPN;clear HPN;generalize W9.setCell ⟨B,3,none⟩ (.slice a' l2.length c')=WF at *;go_wp2;go_roundw
   case rel=>exact ⟨k+1,a',c',by omega,by go_num,by rw [HN.out];exact HPF.out⟩
   case measure=>simp [intOf];omega
  ·obtain rfl:k=v.k.n:=by omega
   have hge:¬((v.k.n:Int) < v.k.n):=by omega
   have HE:Hid (PI w wr B 3 cs a c (tb.ctrs.flatMap eCt)):=by
    have h9:=HJ.out;rw [List.take_of_length_le (by have:=(HT.out wr HZ.out).k.n;omega)] at h9;exact h9
   clear HJ;go_wp2;(try simp only [Exit.inBlock,Exit.then])
   exact HK.out _ _ a c rfl rfl rfl HZ.out HE.out
theorem qts {w0:World} {X B:Nat} {tb:Tb} {v:Ts} (HS:Hid (∀W,qB w0 W→W.cell? ⟨X,6,none⟩=some (.slice v.a.a v.a.n v.a.c))) (HT:Hid (∀W,qB w0 W→TbAt W tb v)) (HOK:Hid (w0.heap.size≤B∧(∀x∈tb.als,okAl x)∧(tb.als.flatMap eAl).length≤100000)):PSeg 6 4 X B w0 (tb.als.flatMap eAl):=by
 intro N R T vs w cs hT h1 h3 hb hc hq hK;have HK:Hid _:=hK;have HB:Hid (qB w0 w):=hb;have HI:Hid (PI w w B 4 cs none 0 ((tb.als.take 0).flatMap eAl)):=PI.nil hc hq;rw [qei T hT];simp only [rng2,List.map_cons,List.map_nil,show tk T 1=_ from h1,show tk T 3=_ from h3];clear hK hb hc hq h1 h3 hT;generalize tk T=tt;conv=>arg 2;whnf
 go_wp2;go_loopw [10,11] (fun v10 _ wr=>∃(k:Nat) (a:Option Addr) (c:Nat),k≤v.a.n∧v10=I k∧Hid (PI w wr B 4 cs a c ((tb.als.take k).flatMap eAl))) (fun v10 _ _=>v.a.n - (intOf v10).toNat)
 case atStart=>exact ⟨0,none,0,by omega,rfl,HI.out⟩
 case round=>
  clear HI;obtain ⟨k,a,c,hk,rfl,HJ⟩:=hrel;have HZ:Hid (qB w0 wr):=qe0 HB.out HOK.out.1 HJ.out.g;have cA:=HS.out wr HZ.out;have hmx:v.a.n≤maxLen:=Nat.le_trans (HT.out wr HZ.out).a.c (HT.out wr HZ.out).a.m;unfold maxLen at hmx;by_cases hlt:k < v.a.n
  ·skip
   have hltI:(k:Int) < v.a.n:=by omega
   have hk1:k < tb.als.length:=by have:=(HT.out wr HZ.out).a.n;omega
   obtain ⟨x,hx⟩:∃x,tb.als[k]?=some x:=⟨_,List.getElem?_eq_getElem hk1⟩
   have hbnd:((tb.als.take k).flatMap eAl).length+(eAl x).length≤100000:=Nat.le_trans (qeu eAl hx) HOK.out.2.2;have HN:Hid ((tb.als.take (k+1)).flatMap eAl=(tb.als.take k).flatMap eAl++eAl x):=qde eAl hx;have hok:okAl x:=HOK.out.2.1 x (List.mem_of_getElem? hx);obtain ⟨k0,k1,k2,k3,k4⟩:=hok;have HKS:Hid (b8 x.ctr∧okAc x.ac∧x.auto < 256 ^ 1∧x.time < 256 ^ 4∧x.cycle < 256 ^ 4):=⟨k0,k1,k2,k3,k4⟩;obtain ⟨g,o,e1,q0,q1,q2,q3,q4,q5,q6⟩:=atAl (HT.out wr HZ.out).a hk1 (Below.refl wr.heap.size wr);have hxe:tb.als[k]=x:=Option.some.inj ((List.getElem?_eq_getElem hk1).symm.trans hx);rw [hxe] at q0 q1 q2 q3 q4 q5 q6;clear hxe;rw [e1] at cA;clear e1 hx hk1;clear k0 k1 k2 k3 k4;generalize (tb.als.take k).flatMap eAl=l at *;have HBD:Hid (l.length+(eAl x).length≤100000):=hbnd;clear hbnd;have hv5:=heap_alloc_new wr (.cells #[I x.ctr,I x.ac.kind,I x.ac.task,.int .u32 (x.ac.mask:Int),.int .u32 (x.auto:Int),.int .u32 (x.time:Int),.int .u32 (x.cycle:Int)] 82);have hb5:=qa0 wr (.cells #[I x.ctr,I x.ac.kind,I x.ac.task,.int .u32 (x.ac.mask:Int),.int .u32 (x.auto:Int),.int .u32 (x.time:Int),.int .u32 (x.cycle:Int)] 82);go_upto_region 24 with fail;have HP:Hid (PI w (wr.alloc (.cells #[I x.ctr,I x.ac.kind,I x.ac.task,.int .u32 (x.ac.mask:Int),.int .u32 (x.auto:Int),.int .u32 (x.time:Int),.int .u32 (x.cycle:Int)] 82)) B 4 cs a c l∧qB wr (wr.alloc (.cells #[I x.ctr,I x.ac.kind,I x.ac.task,.int .u32 (x.ac.mask:Int),.int .u32 (x.auto:Int),.int .u32 (x.time:Int),.int .u32 (x.cycle:Int)] 82))):=⟨HJ.out.below hb5,hb5⟩;have HV:Hid ((wr.alloc (.cells #[I x.ctr,I x.ac.kind,I x.ac.task,.int .u32 (x.ac.mask:Int),.int .u32 (x.auto:Int),.int .u32 (x.time:Int),.int .u32 (x.cycle:Int)] 82)).heap[wr.heap.size]?=some (.cells #[I x.ctr,I x.ac.kind,I x.ac.task,.int .u32 (x.ac.mask:Int),.int .u32 (x.auto:Int),.int .u32 (x.time:Int),.int .u32 (x.cycle:Int)] 82)):=hv5;clear hv5 hb5 cA q0 q1 q2 q3 q4 q5 q6;generalize wr.alloc (.cells #[I x.ctr,I x.ac.kind,I x.ac.task,.int .u32 (x.ac.mask:Int),.int .u32 (x.auto:Int),.int .u32 (x.time:Int),.int .u32 (x.cycle:Int)] 82)=w5 at *;generalize hP0:wr.heap.size=P0 at *;have HSS:Hid (∀W,qB w5 W→W.cell? ⟨P0,0,none⟩=some (I x.ctr)∧W.cell? ⟨P0,1,none⟩=some (I x.ac.kind)∧W.cell? ⟨P0,2,none⟩=some (I x.ac.task)∧W.cell? ⟨P0,3,none⟩=some (.int .u32 (x.ac.mask:Int))∧W.cell? ⟨P0,4,none⟩=some (.int .u32 (x.auto:Int))∧W.cell? ⟨P0,5,none⟩=some (.int .u32 (x.time:Int))∧W.cell? ⟨P0,6,none⟩=some (.int .u32 (x.cycle:Int))∧W.cell? ⟨B,4,none⟩=some (.slice a l.length c)):=fun W hW=>by
    have h9:=(hW.block _ (qa6 HV.out)).trans HV.out;refine ⟨?_,?_,?_,?_,?_,?_,?_,(HP.out.1.below hW).cell⟩ <;> (rw [qcr h9];rfl)
   refine qc5 (S:=(fun W=>W.cell? ⟨P0,0,none⟩=some (I x.ctr)∧W.cell? ⟨P0,1,none⟩=some (I x.ac.kind)∧W.cell? ⟨P0,2,none⟩=some (I x.ac.task)∧W.cell? ⟨P0,3,none⟩=some (.int .u32 (x.ac.mask:Int))∧W.cell? ⟨P0,4,none⟩=some (.int .u32 (x.auto:Int))∧W.cell? ⟨P0,5,none⟩=some (.int .u32 (x.time:Int))∧W.cell? ⟨P0,6,none⟩=some (.int .u32 (x.cycle:Int))∧W.cell? ⟨B,4,none⟩=some (.slice a l.length c))) 24 (by kernel_rfl) ?_;change qbw _ _ _ _ _ _ _ #[false,false,false,false,false,false,false,false,false,false,false,false,false,false,false,false,false,false,false,false,false,false,false,false,false] _ _;have hHeld:=HSS.out w5.drew (Below.refl w5.heap.size w5).drew;have hau:IntKind.i64.wrap (x.auto:Int)=x.auto:=by have:=HKS.out;rw [IntKind.wrap_i64] <;> omega
   try simp only [qN]
   refine qTG 0 (.slice (some ⟨B,0,none⟩) 7 7) rfl hHeld ?_;try simp only [qN]
   refine qTG 1 (.slice (some ⟨B,0,none⟩) 7 7) rfl hHeld ?_;try simp only [qN]
   refine qTG 2 (.pointer (some ⟨B,4,none⟩)) rfl hHeld ?_;try simp only [qN]
   refine qTG 3 (.slice a l.length c) rfl hHeld ?_;try simp only [qN]
   refine qTG 4 (.pointer (some ⟨P0,0,none⟩)) rfl hHeld ?_;try simp only [qN]
   refine qTG 5 (I x.ctr) rfl hHeld ?_;try simp only [qN]
   refine qTG 7 (.pointer (some ⟨P0,1,none⟩)) rfl hHeld ?_;try simp only [qN]
   refine qTG 8 (.agg #[I x.ac.kind,I x.ac.task,.int .u32 (x.ac.mask:Int)]) rfl hHeld ?_;try simp only [qN]
   refine qTG 10 (.pointer (some ⟨P0,4,none⟩)) rfl hHeld ?_;try simp only [qN]
   refine qTG 11 (.int .u32 (x.auto:Int)) rfl hHeld ?_;try simp only [qN]
   refine qTG 12 (I (x.auto:Int)) rfl hHeld ?_;try simp only [qN]
   refine qTG 14 (.pointer (some ⟨P0,5,none⟩)) rfl hHeld ?_;try simp only [qN]
   refine qTG 15 (.int .u32 (x.time:Int)) rfl hHeld ?_;try simp only [qN]
   refine qTG 17 (.pointer (some ⟨P0,6,none⟩)) rfl hHeld ?_;try simp only [qN]
   refine qTG 18 (.int .u32 (x.cycle:Int)) rfl hHeld ?_;try simp only [qN]
   clear hHeld;have hW0:qB w5 w5.drew:=(Below.refl _ _).drew;refine qab (i:=6) (by kernel_rfl) rfl (fun K hK=>?_);have hC:=fun W (hW:W=w5.drew)=>lfB W x.ctr (HKS.out.1)
   go_simp;(go_at_call 90;refine (hC _ rfl).mono ?_;clear hC;rintro e W1 ⟨a1,c1,rfl,r1,b1⟩;refine hK.out _ _ (fun _=>HSS.out _ (belT hW0 b1)) ?_)
   have h1b:=belT hW0 b1;clear hK K hW0 b1;try simp only [qN]
   refine qab (i:=9) (by kernel_rfl) rfl (fun K hK=>?_);have hC:=fun W (hW:W=W1)=>lfA W x.ac (HKS.out.2.1)
   go_simp;(go_at_call 96;refine (hC _ rfl).mono ?_;clear hC;rintro e W2 ⟨a2,c2,rfl,r2,b2⟩;refine hK.out _ _ (fun _=>HSS.out _ (belT h1b b2)) ?_)
   have r1:=r1.below b2;have h2b:=belT h1b b2;clear hK K h1b b2;try simp only [qN]
   refine qab (i:=13) (by kernel_rfl) rfl (fun K hK=>?_);have hC:=fun W (hW:W=W2)=>lfU W x.auto (HKS.out.2.2.1)
   go_simp;(go_at_call 90;refine (hC _ rfl).mono ?_;clear hC;rintro e W3 ⟨a3,c3,rfl,r3,b3⟩;refine hK.out _ _ (fun _=>HSS.out _ (belT h2b b3)) ?_)
   have r1:=r1.below b3;have r2:=r2.below b3;have h3b:=belT h2b b3;clear hK K h2b b3;try simp only [qN]
   refine qab (i:=16) (by kernel_rfl) rfl (fun K hK=>?_);have hC:=fun W (hW:W=W3)=>lfW W x.time (HKS.out.2.2.2.1)
   go_simp;(go_at_call 92;refine (hC _ rfl).mono ?_;clear hC;rintro e W4 ⟨a4,c4,rfl,r4,b4⟩;refine hK.out _ _ (fun _=>HSS.out _ (belT h3b b4)) ?_)
   have r1:=r1.below b4;have r2:=r2.below b4;have r3:=r3.below b4;have h4b:=belT h3b b4;clear hK K h3b b4;try simp only [qN]
   refine qab (i:=19) (by kernel_rfl) rfl (fun K hK=>?_);have hC:=fun W (hW:W=W4)=>lfW W x.cycle (HKS.out.2.2.2.2)
   go_simp;(go_at_call 92;refine (hC _ rfl).mono ?_;clear hC;rintro e W5 ⟨a5,c5,rfl,r5,b5⟩;refine hK.out _ _ (fun _=>HSS.out _ (belT h4b b5)) ?_)
   have r1:=r1.below b5;have r2:=r2.below b5;have r3:=r3.below b5;have r4:=r4.below b5;have h5b:=belT h4b b5;clear hK K h4b b5;try simp only [qN]
   have hfl:[e1 x.ctr,eAc x.ac,leB 1 x.auto,leB 4 x.time,leB 4 x.cycle].flatten=eAl x:=by simp [eAl]
   have hR:=rowN W5 [(a1,1,c1),(a2,6,c2),(a3,1,c3),(a4,4,c4),(a5,4,c5)] [e1 x.ctr,eAc x.ac,leB 1 x.auto,leB 4 x.time,leB 4 x.cycle] 5 ⟨r1,r2,r3,r4,r5,trivial⟩ rfl (by omega) (by rw [hfl];have:=HBD.out;omega);rw [hfl] at hR;simp only [List.map_cons,List.map_nil] at hR;clear hfl r1 r2 r3 r4 r5;refine qab (i:=20) (by kernel_rfl) rfl (fun K hK=>?_);go_simp;refine hK.out _ _ (fun _=>HSS.out _ (belA h5b)) ?_;clear hK K;try simp only [qN]
   refine qab (i:=21) (by kernel_rfl) rfl (fun K hK=>?_);go_simp;(go_at_call 89;refine hR.mono ?_;clear hR;rintro e WR ⟨u,rfl,ho⟩;have hRb:=belT (belA h5b) ho.2;have HPR:=HP.out.1.below hRb;have HVR:Hid (WR.heap[P0]?=some (.cells #[I x.ctr,I x.ac.kind,I x.ac.task,.int .u32 (x.ac.mask:Int),.int .u32 (x.auto:Int),.int .u32 (x.time:Int),.int .u32 (x.cycle:Int)] 82)):=(hRb.block _ (qa6 HV.out)).trans HV.out;have ho:=ho.1;refine hK.out _ _ (fun _=>HSS.out _ hRb) ?_)
   clear hK K h5b hRb;try simp only [qN]
   refine qab (i:=22) (by kernel_rfl) rfl (fun K hK=>?_);refine qdb rfl _ _ rfl w.heap.size _ (.slice a l.length c) u l (eAl x) (by simp [Act.eval]) (by simp [Act.eval]) HPR.o ho (by have:=HBD.out;omega) HPR.g.size ?_;intro v' W9 hO hg;obtain ⟨hgr,hty,a',c',rfl,hc1,hf1,HPN⟩:=HPR.next hO hg;have HS9:Hid (W9.cell? ⟨P0,0,none⟩=some (I x.ctr)∧W9.cell? ⟨P0,1,none⟩=some (I x.ac.kind)∧W9.cell? ⟨P0,2,none⟩=some (I x.ac.task)∧W9.cell? ⟨P0,3,none⟩=some (.int .u32 (x.ac.mask:Int))∧W9.cell? ⟨P0,4,none⟩=some (.int .u32 (x.auto:Int))∧W9.cell? ⟨P0,5,none⟩=some (.int .u32 (x.time:Int))∧W9.cell? ⟨P0,6,none⟩=some (.int .u32 (x.cycle:Int))∧W9.cell? ⟨B,4,none⟩=some (.slice a l.length c)):=by
    have h9:=hty _ _ _ HVR.out (by decide);refine ⟨?_,?_,?_,?_,?_,?_,?_,hc1⟩ <;> (rw [qcr h9];rfl)
   refine hK.out _ _ (fun _=>HS9.out) ?_;clear hK K hO hg HPR ho hgr hty;generalize l++eAl x=l2 at *;try simp only [qN]
   refine qab (i:=23) (by kernel_rfl) rfl (fun K hK=>?_);go_simp;refine hK.out _ _ (fun _=>HS9.out) ?_;clear hK K;try simp only [qN]
   refine qab (i:=24) (by kernel_rfl) rfl (fun K hK=>?_);go_simp;refine hK.out _ _ (fun h=>absurd rfl h) ?_;clear hK K hc1 hf1;try simp only [qN]
   refine qc4 (by kernel_rfl) ?_ _;have HPF:Hid (PI w (W9.setCell ⟨B,4,none⟩ (.slice a' l2.length c')) B 4 cs a' c' l2):=HPN;clear HPN;generalize W9.setCell ⟨B,4,none⟩ (.slice a' l2.length c')=WF at *;go_wp2;go_roundw
   case rel=>exact ⟨k+1,a',c',by omega,by go_num,by rw [HN.out];exact HPF.out⟩
   case measure=>simp [intOf];omega
  ·obtain rfl:k=v.a.n:=by omega
   have hge:¬((v.a.n:Int) < v.a.n):=by omega
   have HE:Hid (PI w wr B 4 cs a c (tb.als.flatMap eAl)):=by
    have h9:=HJ.out;rw [List.take_of_length_le (by have:=(HT.out wr HZ.out).a.n;omega)] at h9;exact h9
   clear HJ;go_wp2;(try simp only [Exit.inBlock,Exit.then])
   exact HK.out _ _ a c rfl rfl rfl HZ.out HE.out
end Go.Proofs.YtijgopkhdjaolabGreat
