import Derived.Test.YtijgopkhdjaolabGreatXHv2Tk
import Derived.Deep.RegionHeldLaw
import Derived.Deep.DrawnRows
import Derived.Test.YtijgopkhdjaolabGreatXHv2Al
import Derived.Test.YtijgopkhdjaolabGreatXI6
set_option linter.unusedSimpArgs false
set_option linter.unusedVariables false
set_option maxRecDepth 100000
set_option maxHeartbeats 16000000
namespace Go.Proofs.YtijgopkhdjaolabGreat
open Go.RowKit Go.Shelf Go.Sort
open Go.Proofs.YtijgopkhdjaolabGreat.Ob (leB leV qa8 qag crc Rd RdAll qa7)
set_option maxHeartbeats 40000000
theorem qtt {w0:World} {X B:Nat} {tb:Tb} {v:Ts} (HS:Hid (∀W,qB w0 W→W.cell? ⟨X,7,none⟩=some (.slice v.i.a v.i.n v.i.c))) (HT:Hid (∀W,qB w0 W→TbAt W tb v)) (HOK:Hid (w0.heap.size≤B∧(∀x∈tb.isrs,okIs x)∧(tb.isrs.flatMap eIs).length≤100000)):PSeg 7 5 X B w0 (tb.isrs.flatMap eIs):=by
 intro N R T vs w cs hT h1 h3 hb hc hq hK;have HK:Hid _:=hK;have HB:Hid (qB w0 w):=hb;have HI:Hid (PI w w B 5 cs none 0 ((tb.isrs.take 0).flatMap eIs)):=PI.nil hc hq;rw [qei T hT];simp only [rng2,List.map_cons,List.map_nil,show tk T 1=_ from h1,show tk T 3=_ from h3];clear hK hb hc hq h1 h3 hT;generalize tk T=tt;conv=>arg 2;whnf
 go_wp2;go_loopw [12,13] (fun v12 _ wr=>∃(k:Nat) (a:Option Addr) (c:Nat),k≤v.i.n∧v12=I k∧Hid (PI w wr B 5 cs a c ((tb.isrs.take k).flatMap eIs))) (fun v12 _ _=>v.i.n - (intOf v12).toNat)
 case atStart=>exact ⟨0,none,0,by omega,rfl,HI.out⟩
 case round=>
  clear HI;obtain ⟨k,a,c,hk,rfl,HJ⟩:=hrel;have HZ:Hid (qB w0 wr):=qe0 HB.out HOK.out.1 HJ.out.g;have cA:=HS.out wr HZ.out;have hmx:v.i.n≤maxLen:=Nat.le_trans (HT.out wr HZ.out).i.c (HT.out wr HZ.out).i.m;unfold maxLen at hmx;by_cases hlt:k < v.i.n
  ·skip
   have hltI:(k:Int) < v.i.n:=by omega
   have hk1:k < tb.isrs.length:=by have:=(HT.out wr HZ.out).i.n;omega
   obtain ⟨x,hx⟩:∃x,tb.isrs[k]?=some x:=⟨_,List.getElem?_eq_getElem hk1⟩
   have hbnd:((tb.isrs.take k).flatMap eIs).length+(eIs x).length≤100000:=Nat.le_trans (qeu eIs hx) HOK.out.2.2;have HN:Hid ((tb.isrs.take (k+1)).flatMap eIs=(tb.isrs.take k).flatMap eIs++eIs x):=qde eIs hx;have hok:okIs x:=HOK.out.2.1 x (List.mem_of_getElem? hx);obtain ⟨k0,k1,k2⟩:=hok;have HKS:Hid (b8 x.cat∧b8 x.prio∧(x.own.length < 256∧∀y∈x.own,b8 y)):=⟨k0,k1,k2⟩;obtain ⟨g,o,s9,e1,hg,q0,q1,q2,R9⟩:=qdj (HT.out wr HZ.out) hx;clear hg;rw [e1] at cA;clear e1 hx hk1;clear k0 k1 k2;generalize (tb.isrs.take k).flatMap eIs=l at *;have HBD:Hid (l.length+(eIs x).length≤100000):=hbnd;clear hbnd;have hv5:=heap_alloc_new wr (.cells #[I x.cat,I x.prio,.slice s9.a s9.n s9.c] 84);have hb5:=qa0 wr (.cells #[I x.cat,I x.prio,.slice s9.a s9.n s9.c] 84);have HR9:Hid (RowsAt (wr.alloc (.cells #[I x.cat,I x.prio,.slice s9.a s9.n s9.c] 84)) 1 intP s9 x.own):=R9.below hb5 (fun _ _ _ _ h=>h);clear R9;go_upto_region 29 with fail;have HP:Hid (PI w (wr.alloc (.cells #[I x.cat,I x.prio,.slice s9.a s9.n s9.c] 84)) B 5 cs a c l∧qB wr (wr.alloc (.cells #[I x.cat,I x.prio,.slice s9.a s9.n s9.c] 84))):=⟨HJ.out.below hb5,hb5⟩;have HV:Hid ((wr.alloc (.cells #[I x.cat,I x.prio,.slice s9.a s9.n s9.c] 84)).heap[wr.heap.size]?=some (.cells #[I x.cat,I x.prio,.slice s9.a s9.n s9.c] 84)):=hv5;clear hv5 hb5 cA q0 q1 q2;generalize wr.alloc (.cells #[I x.cat,I x.prio,.slice s9.a s9.n s9.c] 84)=w5 at *;generalize hP0:wr.heap.size=P0 at *;have HSS:Hid (∀W,qB w5 W→W.cell? ⟨P0,0,none⟩=some (I x.cat)∧W.cell? ⟨P0,1,none⟩=some (I x.prio)∧W.cell? ⟨P0,2,none⟩=some (.slice s9.a s9.n s9.c)∧W.cell? ⟨B,5,none⟩=some (.slice a l.length c)):=fun W hW=>by
    have h9:=(hW.block _ (qa6 HV.out)).trans HV.out;refine ⟨?_,?_,?_,(HP.out.1.below hW).cell⟩ <;> (rw [qcr h9];rfl)
   refine qc5 (S:=(fun W=>W.cell? ⟨P0,0,none⟩=some (I x.cat)∧W.cell? ⟨P0,1,none⟩=some (I x.prio)∧W.cell? ⟨P0,2,none⟩=some (.slice s9.a s9.n s9.c)∧W.cell? ⟨B,5,none⟩=some (.slice a l.length c))) 17 (by kernel_rfl) ?_;change qbw _ _ _ _ _ _ _ #[false,false,false,false,false,false,false,false,false,false,false,false,false,false,false,false,false,false] _ _;have hHeld:=HSS.out w5.drew (Below.refl w5.heap.size w5).drew;try simp only [qN]
   refine qTG 0 (.slice (some ⟨B,0,none⟩) 7 7) rfl hHeld ?_;try simp only [qN]
   refine qTG 1 (.slice (some ⟨B,0,none⟩) 7 7) rfl hHeld ?_;try simp only [qN]
   refine qTG 2 (.pointer (some ⟨B,5,none⟩)) rfl hHeld ?_;try simp only [qN]
   refine qTG 3 (.slice a l.length c) rfl hHeld ?_;try simp only [qN]
   refine qTG 4 (.pointer (some ⟨P0,0,none⟩)) rfl hHeld ?_;try simp only [qN]
   refine qTG 5 (I x.cat) rfl hHeld ?_;try simp only [qN]
   refine qTG 7 (.pointer (some ⟨P0,1,none⟩)) rfl hHeld ?_;try simp only [qN]
   refine qTG 8 (I x.prio) rfl hHeld ?_;try simp only [qN]
   refine qTG 10 (.pointer (some ⟨P0,2,none⟩)) rfl hHeld ?_;try simp only [qN]
   refine qTG 11 (.slice s9.a s9.n s9.c) rfl hHeld ?_;try simp only [qN]
   clear hHeld;have hW0:qB w5 w5.drew:=(Below.refl _ _).drew;refine qab (i:=6) (by kernel_rfl) rfl (fun K hK=>?_);have hC:=fun W (hW:W=w5.drew)=>lfB W x.cat (HKS.out.1)
   go_simp;(go_at_call 90;refine (hC _ rfl).mono ?_;clear hC;rintro e W1 ⟨a1,c1,rfl,r1,b1⟩;refine hK.out _ _ (fun _=>HSS.out _ (belT hW0 b1)) ?_)
   have h1b:=belT hW0 b1;clear hK K hW0 b1;try simp only [qN]
   refine qab (i:=9) (by kernel_rfl) rfl (fun K hK=>?_);have hC:=fun W (hW:W=W1)=>lfB W x.prio (HKS.out.2.1)
   go_simp;(go_at_call 90;refine (hC _ rfl).mono ?_;clear hC;rintro e W2 ⟨a2,c2,rfl,r2,b2⟩;refine hK.out _ _ (fun _=>HSS.out _ (belT h1b b2)) ?_)
   have r1:=r1.below b2;have h2b:=belT h1b b2;clear hK K h1b b2;try simp only [qN]
   refine qab (i:=12) (by kernel_rfl) rfl (fun K hK=>?_);have hC:=lfL (W2) s9 x.own (HR9.out.below h2b (fun _ _ _ _ h=>h)) (HKS.out.2.2);go_simp;(go_at_call 94;refine hC.mono ?_;clear hC;rintro e W3 ⟨a3,c3,rfl,r3,b3⟩;refine hK.out _ _ (fun _=>HSS.out _ (belT h2b b3)) ?_)
   have r1:=r1.below b3;have r2:=r2.below b3;have h3b:=belT h2b b3;clear hK K h2b b3;try simp only [qN]
   have hfl:[e1 x.cat,e1 x.prio,eL x.own].flatten=eIs x:=by simp [eIs]
   have hR:=rowN W3 [(a1,1,c1),(a2,1,c2),(a3,(eL x.own).length,c3)] [e1 x.cat,e1 x.prio,eL x.own] 3 ⟨r1,r2,r3,trivial⟩ rfl (by omega) (by rw [hfl];have:=HBD.out;omega);rw [hfl] at hR;simp only [List.map_cons,List.map_nil] at hR;clear hfl r1 r2 r3;refine qab (i:=13) (by kernel_rfl) rfl (fun K hK=>?_);go_simp;refine hK.out _ _ (fun _=>HSS.out _ (belA h3b)) ?_;clear hK K;try simp only [qN]
   refine qab (i:=14) (by kernel_rfl) rfl (fun K hK=>?_);go_simp;(go_at_call 89;refine hR.mono ?_;clear hR;rintro e WR ⟨u,rfl,ho⟩;have hRb:=belT (belA h3b) ho.2;have HPR:=HP.out.1.below hRb;have HVR:Hid (WR.heap[P0]?=some (.cells #[I x.cat,I x.prio,.slice s9.a s9.n s9.c] 84)):=(hRb.block _ (qa6 HV.out)).trans HV.out;have ho:=ho.1;refine hK.out _ _ (fun _=>HSS.out _ hRb) ?_)
   clear hK K h3b hRb;try simp only [qN]
   refine qab (i:=15) (by kernel_rfl) rfl (fun K hK=>?_);refine qdb rfl _ _ rfl w.heap.size _ (.slice a l.length c) u l (eIs x) (by simp [Act.eval]) (by simp [Act.eval]) HPR.o ho (by have:=HBD.out;omega) HPR.g.size ?_;intro v' W9 hO hg;obtain ⟨hgr,hty,a',c',rfl,hc1,hf1,HPN⟩:=HPR.next hO hg;have HS9:Hid (W9.cell? ⟨P0,0,none⟩=some (I x.cat)∧W9.cell? ⟨P0,1,none⟩=some (I x.prio)∧W9.cell? ⟨P0,2,none⟩=some (.slice s9.a s9.n s9.c)∧W9.cell? ⟨B,5,none⟩=some (.slice a l.length c)):=by
    have h9:=hty _ _ _ HVR.out (by decide);refine ⟨?_,?_,?_,hc1⟩ <;> (rw [qcr h9];rfl)
   refine hK.out _ _ (fun _=>HS9.out) ?_;clear hK K hO hg HPR ho hgr hty;generalize l++eIs x=l2 at *;try simp only [qN]
   refine qab (i:=16) (by kernel_rfl) rfl (fun K hK=>?_);go_simp;refine hK.out _ _ (fun _=>HS9.out) ?_;clear hK K;try simp only [qN]
   refine qab (i:=17) (by kernel_rfl) rfl (fun K hK=>?_);go_simp;refine hK.out _ _ (fun h=>absurd rfl h) ?_;clear hK K hc1 hf1;try simp only [qN]
   refine qc4 (by kernel_rfl) ?_ _;have HPF:Hid (PI w (W9.setCell ⟨B,5,none⟩ (.slice a' l2.length c')) B 5 cs a' c' l2):=HPN;clear HPN;generalize W9.setCell ⟨B,5,none⟩ (.slice a' l2.length c')=WF at *;go_wp2;go_roundw
   case rel=>exact ⟨k+1,a',c',by omega,by go_num,by rw [HN.out];exact HPF.out⟩
   case measure=>simp [intOf];omega
  ·obtain rfl:k=v.i.n:=by omega
   have hge:¬((v.i.n:Int) < v.i.n):=by omega
   have HE:Hid (PI w wr B 5 cs a c (tb.isrs.flatMap eIs)):=by
    have h9:=HJ.out;rw [List.take_of_length_le (by have:=(HT.out wr HZ.out).i.n;omega)] at h9;exact h9
   clear HJ;go_wp2;(try simp only [Exit.inBlock,Exit.then])
   exact HK.out _ _ a c rfl rfl rfl HZ.out HE.out
theorem qtu {w0:World} {X B:Nat} {tb:Tb} {v:Ts} (HS:Hid (∀W,qB w0 W→W.cell? ⟨X,8,none⟩=some (.slice v.s.a v.s.n v.s.c))) (HT:Hid (∀W,qB w0 W→TbAt W tb v)) (HOK:Hid (w0.heap.size≤B∧(∀x∈tb.msgs,okMs x)∧(tb.msgs.flatMap eMs).length≤100000)):PSeg 8 6 X B w0 (tb.msgs.flatMap eMs):=by
 intro N R T vs w cs hT h1 h3 hb hc hq hK;have HK:Hid _:=hK;have HB:Hid (qB w0 w):=hb;have HI:Hid (PI w w B 6 cs none 0 ((tb.msgs.take 0).flatMap eMs)):=PI.nil hc hq;rw [qei T hT];simp only [rng2,List.map_cons,List.map_nil,show tk T 1=_ from h1,show tk T 3=_ from h3];clear hK hb hc hq h1 h3 hT;generalize tk T=tt;conv=>arg 2;whnf
 go_wp2;go_loopw [14,15] (fun v14 _ wr=>∃(k:Nat) (a:Option Addr) (c:Nat),k≤v.s.n∧v14=I k∧Hid (PI w wr B 6 cs a c ((tb.msgs.take k).flatMap eMs))) (fun v14 _ _=>v.s.n - (intOf v14).toNat)
 case atStart=>exact ⟨0,none,0,by omega,rfl,HI.out⟩
 case round=>
  clear HI;obtain ⟨k,a,c,hk,rfl,HJ⟩:=hrel;have HZ:Hid (qB w0 wr):=qe0 HB.out HOK.out.1 HJ.out.g;have cA:=HS.out wr HZ.out;have hmx:v.s.n≤maxLen:=Nat.le_trans (HT.out wr HZ.out).s.c (HT.out wr HZ.out).s.m;unfold maxLen at hmx;by_cases hlt:k < v.s.n
  ·skip
   have hltI:(k:Int) < v.s.n:=by omega
   have hk1:k < tb.msgs.length:=by have:=(HT.out wr HZ.out).s.n;omega
   obtain ⟨x,hx⟩:∃x,tb.msgs[k]?=some x:=⟨_,List.getElem?_eq_getElem hk1⟩
   have hbnd:((tb.msgs.take k).flatMap eMs).length+(eMs x).length≤100000:=Nat.le_trans (qeu eMs hx) HOK.out.2.2;have HN:Hid ((tb.msgs.take (k+1)).flatMap eMs=(tb.msgs.take k).flatMap eMs++eMs x):=qde eMs hx;have hok:okMs x:=HOK.out.2.1 x (List.mem_of_getElem? hx);obtain ⟨k0,k1,k2,k3,k4,k5⟩:=hok;have HKS:Hid (b8 x.kind∧b8 x.len∧b8 x.frm∧x.init < 256 ^ 8∧b8 x.queue∧okAc x.ac):=⟨k0,k1,k2,k3,k4,k5⟩;obtain ⟨g,o,e1,q0,q1,q2,q3,q4,q5,q6,q7⟩:=atMs (HT.out wr HZ.out).s hk1 (Below.refl wr.heap.size wr);have hxe:tb.msgs[k]=x:=Option.some.inj ((List.getElem?_eq_getElem hk1).symm.trans hx);rw [hxe] at q0 q1 q2 q3 q4 q5 q6 q7;clear hxe;rw [e1] at cA;clear e1 hx hk1;clear k0 k1 k2 k3 k4 k5;generalize (tb.msgs.take k).flatMap eMs=l at *;have HBD:Hid (l.length+(eMs x).length≤100000):=hbnd;clear hbnd;have hv5:=heap_alloc_new wr (.cells #[I x.kind,I x.len,I x.frm,.int .u64 (x.init:Int),I x.queue,I x.ac.kind,I x.ac.task,.int .u32 (x.ac.mask:Int)] 87);have hb5:=qa0 wr (.cells #[I x.kind,I x.len,I x.frm,.int .u64 (x.init:Int),I x.queue,I x.ac.kind,I x.ac.task,.int .u32 (x.ac.mask:Int)] 87);go_upto_region 34 with fail;have HP:Hid (PI w (wr.alloc (.cells #[I x.kind,I x.len,I x.frm,.int .u64 (x.init:Int),I x.queue,I x.ac.kind,I x.ac.task,.int .u32 (x.ac.mask:Int)] 87)) B 6 cs a c l∧qB wr (wr.alloc (.cells #[I x.kind,I x.len,I x.frm,.int .u64 (x.init:Int),I x.queue,I x.ac.kind,I x.ac.task,.int .u32 (x.ac.mask:Int)] 87))):=⟨HJ.out.below hb5,hb5⟩;have HV:Hid ((wr.alloc (.cells #[I x.kind,I x.len,I x.frm,.int .u64 (x.init:Int),I x.queue,I x.ac.kind,I x.ac.task,.int .u32 (x.ac.mask:Int)] 87)).heap[wr.heap.size]?=some (.cells #[I x.kind,I x.len,I x.frm,.int .u64 (x.init:Int),I x.queue,I x.ac.kind,I x.ac.task,.int .u32 (x.ac.mask:Int)] 87)):=hv5;clear hv5 hb5 cA q0 q1 q2 q3 q4 q5 q6 q7;generalize wr.alloc (.cells #[I x.kind,I x.len,I x.frm,.int .u64 (x.init:Int),I x.queue,I x.ac.kind,I x.ac.task,.int .u32 (x.ac.mask:Int)] 87)=w5 at *;generalize hP0:wr.heap.size=P0 at *;have HSS:Hid (∀W,qB w5 W→W.cell? ⟨P0,0,none⟩=some (I x.kind)∧W.cell? ⟨P0,1,none⟩=some (I x.len)∧W.cell? ⟨P0,2,none⟩=some (I x.frm)∧W.cell? ⟨P0,3,none⟩=some (.int .u64 (x.init:Int))∧W.cell? ⟨P0,4,none⟩=some (I x.queue)∧W.cell? ⟨P0,5,none⟩=some (I x.ac.kind)∧W.cell? ⟨P0,6,none⟩=some (I x.ac.task)∧W.cell? ⟨P0,7,none⟩=some (.int .u32 (x.ac.mask:Int))∧W.cell? ⟨B,6,none⟩=some (.slice a l.length c)):=fun W hW=>by
    have h9:=(hW.block _ (qa6 HV.out)).trans HV.out;refine ⟨?_,?_,?_,?_,?_,?_,?_,?_,(HP.out.1.below hW).cell⟩ <;> (rw [qcr h9];rfl)
   refine qc5 (S:=(fun W=>W.cell? ⟨P0,0,none⟩=some (I x.kind)∧W.cell? ⟨P0,1,none⟩=some (I x.len)∧W.cell? ⟨P0,2,none⟩=some (I x.frm)∧W.cell? ⟨P0,3,none⟩=some (.int .u64 (x.init:Int))∧W.cell? ⟨P0,4,none⟩=some (I x.queue)∧W.cell? ⟨P0,5,none⟩=some (I x.ac.kind)∧W.cell? ⟨P0,6,none⟩=some (I x.ac.task)∧W.cell? ⟨P0,7,none⟩=some (.int .u32 (x.ac.mask:Int))∧W.cell? ⟨B,6,none⟩=some (.slice a l.length c))) 26 (by kernel_rfl) ?_;change qbw _ _ _ _ _ _ _ #[false,false,false,false,false,false,false,false,false,false,false,false,false,false,false,false,false,false,false,false,false,false,false,false,false,false,false] _ _;have hHeld:=HSS.out w5.drew (Below.refl w5.heap.size w5).drew;try simp only [qN]
   refine qTG 0 (.slice (some ⟨B,0,none⟩) 7 7) rfl hHeld ?_;try simp only [qN]
   refine qTG 1 (.slice (some ⟨B,0,none⟩) 7 7) rfl hHeld ?_;try simp only [qN]
   refine qTG 2 (.pointer (some ⟨B,6,none⟩)) rfl hHeld ?_;try simp only [qN]
   refine qTG 3 (.slice a l.length c) rfl hHeld ?_;try simp only [qN]
   refine qTG 4 (.pointer (some ⟨P0,0,none⟩)) rfl hHeld ?_;try simp only [qN]
   refine qTG 5 (I x.kind) rfl hHeld ?_;try simp only [qN]
   refine qTG 7 (.pointer (some ⟨P0,1,none⟩)) rfl hHeld ?_;try simp only [qN]
   refine qTG 8 (I x.len) rfl hHeld ?_;try simp only [qN]
   refine qTG 10 (.pointer (some ⟨P0,2,none⟩)) rfl hHeld ?_;try simp only [qN]
   refine qTG 11 (I x.frm) rfl hHeld ?_;try simp only [qN]
   refine qTG 13 (.pointer (some ⟨P0,3,none⟩)) rfl hHeld ?_;try simp only [qN]
   refine qTG 14 (.int .u64 (x.init:Int)) rfl hHeld ?_;try simp only [qN]
   refine qTG 16 (.pointer (some ⟨P0,4,none⟩)) rfl hHeld ?_;try simp only [qN]
   refine qTG 17 (I x.queue) rfl hHeld ?_;try simp only [qN]
   refine qTG 19 (.pointer (some ⟨P0,5,none⟩)) rfl hHeld ?_;try simp only [qN]
   refine qTG 20 (.agg #[I x.ac.kind,I x.ac.task,.int .u32 (x.ac.mask:Int)]) rfl hHeld ?_;try simp only [qN]
   clear hHeld;have hW0:qB w5 w5.drew:=(Below.refl _ _).drew;refine qab (i:=6) (by kernel_rfl) rfl (fun K hK=>?_);have hC:=fun W (hW:W=w5.drew)=>lfB W x.kind (HKS.out.1)
   go_simp;(go_at_call 90;refine (hC _ rfl).mono ?_;clear hC;rintro e W1 ⟨a1,c1,rfl,r1,b1⟩;refine hK.out _ _ (fun _=>HSS.out _ (belT hW0 b1)) ?_)
   have h1b:=belT hW0 b1;clear hK K hW0 b1;try simp only [qN]
   refine qab (i:=9) (by kernel_rfl) rfl (fun K hK=>?_);have hC:=fun W (hW:W=W1)=>lfB W x.len (HKS.out.2.1)
   go_simp;(go_at_call 90;refine (hC _ rfl).mono ?_;clear hC;rintro e W2 ⟨a2,c2,rfl,r2,b2⟩;refine hK.out _ _ (fun _=>HSS.out _ (belT h1b b2)) ?_)
   have r1:=r1.below b2;have h2b:=belT h1b b2;clear hK K h1b b2;try simp only [qN]
   refine qab (i:=12) (by kernel_rfl) rfl (fun K hK=>?_);have hC:=fun W (hW:W=W2)=>lfB W x.frm (HKS.out.2.2.1)
   go_simp;(go_at_call 90;refine (hC _ rfl).mono ?_;clear hC;rintro e W3 ⟨a3,c3,rfl,r3,b3⟩;refine hK.out _ _ (fun _=>HSS.out _ (belT h2b b3)) ?_)
   have r1:=r1.below b3;have r2:=r2.below b3;have h3b:=belT h2b b3;clear hK K h2b b3;try simp only [qN]
   refine qab (i:=15) (by kernel_rfl) rfl (fun K hK=>?_);have hC:=fun W (hW:W=W3)=>lfQ W x.init (HKS.out.2.2.2.1)
   go_simp;(go_at_call 97;refine (hC _ rfl).mono ?_;clear hC;rintro e W4 ⟨a4,c4,rfl,r4,b4⟩;refine hK.out _ _ (fun _=>HSS.out _ (belT h3b b4)) ?_)
   have r1:=r1.below b4;have r2:=r2.below b4;have r3:=r3.below b4;have h4b:=belT h3b b4;clear hK K h3b b4;try simp only [qN]
   refine qab (i:=18) (by kernel_rfl) rfl (fun K hK=>?_);have hC:=fun W (hW:W=W4)=>lfB W x.queue (HKS.out.2.2.2.2.1)
   go_simp;(go_at_call 90;refine (hC _ rfl).mono ?_;clear hC;rintro e W5 ⟨a5,c5,rfl,r5,b5⟩;refine hK.out _ _ (fun _=>HSS.out _ (belT h4b b5)) ?_)
   have r1:=r1.below b5;have r2:=r2.below b5;have r3:=r3.below b5;have r4:=r4.below b5;have h5b:=belT h4b b5;clear hK K h4b b5;try simp only [qN]
   refine qab (i:=21) (by kernel_rfl) rfl (fun K hK=>?_);have hC:=fun W (hW:W=W5)=>lfA W x.ac (HKS.out.2.2.2.2.2)
   go_simp;(go_at_call 96;refine (hC _ rfl).mono ?_;clear hC;rintro e W6 ⟨a6,c6,rfl,r6,b6⟩;refine hK.out _ _ (fun _=>HSS.out _ (belT h5b b6)) ?_)
   have r1:=r1.below b6;have r2:=r2.below b6;have r3:=r3.below b6;have r4:=r4.below b6;have r5:=r5.below b6;have h6b:=belT h5b b6;clear hK K h5b b6;try simp only [qN]
   have hfl:[e1 x.kind,e1 x.len,e1 x.frm,leB 8 x.init,e1 x.queue,eAc x.ac].flatten=eMs x:=by simp [eMs]
   have hR:=rowN W6 [(a1,1,c1),(a2,1,c2),(a3,1,c3),(a4,8,c4),(a5,1,c5),(a6,6,c6)] [e1 x.kind,e1 x.len,e1 x.frm,leB 8 x.init,e1 x.queue,eAc x.ac] 6 ⟨r1,r2,r3,r4,r5,r6,trivial⟩ rfl (by omega) (by rw [hfl];have:=HBD.out;omega);rw [hfl] at hR;simp only [List.map_cons,List.map_nil] at hR;clear hfl r1 r2 r3 r4 r5 r6;refine qab (i:=22) (by kernel_rfl) rfl (fun K hK=>?_);go_simp;refine hK.out _ _ (fun _=>HSS.out _ (belA h6b)) ?_;clear hK K;try simp only [qN]
   refine qab (i:=23) (by kernel_rfl) rfl (fun K hK=>?_);go_simp;(go_at_call 89;refine hR.mono ?_;clear hR;rintro e WR ⟨u,rfl,ho⟩;have hRb:=belT (belA h6b) ho.2;have HPR:=HP.out.1.below hRb;have HVR:Hid (WR.heap[P0]?=some (.cells #[I x.kind,I x.len,I x.frm,.int .u64 (x.init:Int),I x.queue,I x.ac.kind,I x.ac.task,.int .u32 (x.ac.mask:Int)] 87)):=(hRb.block _ (qa6 HV.out)).trans HV.out;have ho:=ho.1;refine hK.out _ _ (fun _=>HSS.out _ hRb) ?_)
   clear hK K h6b hRb;try simp only [qN]
   refine qab (i:=24) (by kernel_rfl) rfl (fun K hK=>?_);refine qdb rfl _ _ rfl w.heap.size _ (.slice a l.length c) u l (eMs x) (by simp [Act.eval]) (by simp [Act.eval]) HPR.o ho (by have:=HBD.out;omega) HPR.g.size ?_;intro v' W9 hO hg;obtain ⟨hgr,hty,a',c',rfl,hc1,hf1,HPN⟩:=HPR.next hO hg;have HS9:Hid (W9.cell? ⟨P0,0,none⟩=some (I x.kind)∧W9.cell? ⟨P0,1,none⟩=some (I x.len)∧W9.cell? ⟨P0,2,none⟩=some (I x.frm)∧W9.cell? ⟨P0,3,none⟩=some (.int .u64 (x.init:Int))∧W9.cell? ⟨P0,4,none⟩=some (I x.queue)∧W9.cell? ⟨P0,5,none⟩=some (I x.ac.kind)∧W9.cell? ⟨P0,6,none⟩=some (I x.ac.task)∧W9.cell? ⟨P0,7,none⟩=some (.int .u32 (x.ac.mask:Int))∧W9.cell? ⟨B,6,none⟩=some (.slice a l.length c)):=by
    have h9:=hty _ _ _ HVR.out (by decide);refine ⟨?_,?_,?_,?_,?_,?_,?_,?_,hc1⟩ <;> (rw [qcr h9];rfl)
   refine hK.out _ _ (fun _=>HS9.out) ?_;clear hK K hO hg HPR ho hgr hty;generalize l++eMs x=l2 at *;try simp only [qN]
   refine qab (i:=25) (by kernel_rfl) rfl (fun K hK=>?_);go_simp;refine hK.out _ _ (fun _=>HS9.out) ?_;clear hK K;try simp only [qN]
   refine qab (i:=26) (by kernel_rfl) rfl (fun K hK=>?_);go_simp;refine hK.out _ _ (fun h=>absurd rfl h) ?_;clear hK K hc1 hf1;try simp only [qN]
   refine qc4 (by kernel_rfl) ?_ _;have HPF:Hid (PI w (W9.setCell ⟨B,6,none⟩ (.slice a' l2.length c')) B 6 cs a' c' l2):=HPN;clear HPN;generalize W9.setCell ⟨B,6,none⟩ (.slice a' l2.length c')=WF at *;go_wp2;go_roundw
   case rel=>exact ⟨k+1,a',c',by omega,by go_num,by rw [HN.out];exact HPF.out⟩
   case measure=>simp [intOf];omega
  ·obtain rfl:k=v.s.n:=by omega
   have hge:¬((v.s.n:Int) < v.s.n):=by omega
   have HE:Hid (PI w wr B 6 cs a c (tb.msgs.flatMap eMs)):=by
    have h9:=HJ.out;rw [List.take_of_length_le (by have:=(HT.out wr HZ.out).s.n;omega)] at h9;exact h9
   clear HJ;go_wp2;(try simp only [Exit.inBlock,Exit.then])
   exact HK.out _ _ a c rfl rfl rfl HZ.out HE.out
end Go.Proofs.YtijgopkhdjaolabGreat
namespace Go.Proofs.YtijgopkhdjaolabGreat
open Go.RowKit Go.Shelf Go.Sort
open Go.Proofs.YtijgopkhdjaolabGreat.Ob (leB leV qa8 qag crc Rd RdAll qa7)
def sevP (tb:Tb):List (List UInt8):=[tb.tasks.flatMap eTk,tb.rings.flatMap eRg,tb.ress.flatMap eRs,tb.ctrs.flatMap eCt,tb.als.flatMap eAl,tb.isrs.flatMap eIs,tb.msgs.flatMap eMs]
abbrev nilS : Value:=qZ
theorem qsk : (Tryz.prog.info? 22).map (fun i=>(i.zero,i.size,i.bytes))=some (some qZ,1,24):=by kernel_rfl
theorem mk7 (w:World):(Instr.makeSlice 92 (.int .i64 7) (.int .i64 7)).run Tryz.prog w=.ok (.slice (some ⟨w.heap.size,0,none⟩) 7 7) (w.alloc (.cells #[nilS,nilS,nilS,nilS,nilS,nilS,nilS] 22)):=by
 obtain ⟨ib,hib,hb0,hb1,hb2⟩:=info_parts qsk;have hr:=run_make (P:=Tryz.prog) w 92 22 ib qZ Tryz.underlying92 hib hb0 .i64 .i64 7 7 (by omega) (Int.le_refl _) (by rw [hb2];omega) (by omega);rw [hb1,show madeCells (Value.slice none 0 0).cells (Int.toNat 7 * 1)=#[nilS,nilS,nilS,nilS,nilS,nilS,nilS] from by kernel_rfl] at hr;exact hr
theorem pg_Z (N R:Act→World→Prop) (T:Array Value) (vs:List Deferred) (w:World) (hT:T.size=253) (hR:∀T',T'.getD 2 undef=T.getD 3 undef→R ⟨T',vs⟩ w):(drp 9 (Tryz.f27.body.getD .skip)).wp Tryz.prog (SQ N R) ⟨T,vs⟩ w:=by
 have HR:Hid (∀T',T'.getD 2 undef=tk T 3→R ⟨T',vs⟩ w):=hR;clear hR;rw [qei T hT];simp only [rng2,List.map_cons,List.map_nil];clear hT;generalize tk T=tt at *;conv=>arg 2;whnf
 go_wp2;(try simp only [Exit.inBlock,Exit.then])
 refine HR.out _ ?_;rfl
theorem qmh (w:World) (tb:Tb) (v:Ts) (h:TbAt w tb v) (hk:okTb tb) (hs:(qbz tb).length≤100000):Calls Tryz.prog 27 #[.agg (tbC tb v)] w fun e w'=>∃B,e=.returned (.slice (some ⟨B,0,none⟩) 7 7)∧RdAll w' (some ⟨B,0,none⟩) 7 7 (sevP tb)∧qB w w':=by
 have hb1:=qa0 w (tO tb v);have hv1:=heap_alloc_new w (tO tb v);have HBB:Hid (qB w (w.alloc (tO tb v))):=hb1;have HX:Hid (∀W,qB (w.alloc (tO tb v)) W→qP W (w.heap.size) tb v):=fun W hW=>qfp ((hW.block _ (qa6 hv1)).trans hv1)
 have HT:Hid (∀W,qB (w.alloc (tO tb v)) W→TbAt W tb v):=fun W hW=>h.below (belT hb1 hW)
 have hb2:=qa0 (w.alloc (tO tb v)) (.cells #[nilS,nilS,nilS,nilS,nilS,nilS,nilS] 22);have hv2:=heap_alloc_new (w.alloc (tO tb v)) (.cells #[nilS,nilS,nilS,nilS,nilS,nilS,nilS] 22);have hlen:(tb.tasks.flatMap eTk).length≤100000∧(tb.rings.flatMap eRg).length≤100000∧(tb.ress.flatMap eRs).length≤100000∧(tb.ctrs.flatMap eCt).length≤100000∧(tb.als.flatMap eAl).length≤100000∧(tb.isrs.flatMap eIs).length≤100000∧(tb.msgs.flatMap eMs).length≤100000:=by
  unfold qbz at hs;simp only [List.length_append] at hs;omega
 obtain ⟨l0,l1,l2,l3,l4,l5,l6⟩:=hlen;unfold tbC;clear hb1 hv1 h hs;go_enter Tryz.func27,Tryz.ntmps27
 refine wp_seq_k (fun K hK=>?_);have HK:Hid _:=hK;clear hK;go_wp2;(try simp only [Exit.inBlock,Exit.then])
 refine HK.out _ _ ?_;clear HK K;generalize w.alloc (.cells (qC tb v) 32)=w1 at *;have hmk:=mk7 w1;refine wp_seq_k (fun K hK=>?_);have HK:Hid _:=hK;clear hK;go_wp2;(try simp only [Exit.inBlock,Exit.then])
 refine HK.out _ _ ?_;clear HK K hmk;have hB:w1.heap.size < (w1.alloc (.cells #[nilS,nilS,nilS,nilS,nilS,nilS,nilS] 22)).heap.size:=qa6 hv2;generalize w1.alloc (.cells #[nilS,nilS,nilS,nilS,nilS,nilS,nilS] 22)=y0 at *;generalize hB9:w1.heap.size=B at hv2 hB ⊢;have hBl:w1.heap.size≤B:=Nat.le_of_eq hB9;clear hB9;generalize hQ:bodyPost _ _ _=Q;refine wp_seq_k (fun K hK=>?_);refine qbr (qto (fun W hW=>(HX.out W hW).2.2.1) HT ⟨hBl,hk.r0,l0⟩ K _ _ _ _ _ rfl rfl rfl hb2 hv2 rfl (fun T y1 a0 c0 hT h1 h3 hb HP=>hK _ _ ?_));clear K hK hv2 hb2;have hv:=HP.h;simp only [List.setIfInBounds_toArray,List.set_cons_zero,List.set_cons_succ] at hv;have o0:=HP.o;have hg0:B < y0.heap.size:=hB;have s0:=HP.g.size;clear HP;refine wp_seq_k (fun K hK=>?_);refine qbr (qtp (fun W hW=>(HX.out W hW).2.2.2.1) HT ⟨hBl,hk.r1,l1⟩ K _ _ _ _ _ hT h1 h3 hb hv rfl (fun T y2 a1 c1 hT h1 h3 hb HP=>hK _ _ ?_));clear K hK hv;have hv:=HP.h;simp only [List.setIfInBounds_toArray,List.set_cons_zero,List.set_cons_succ] at hv;have o0:=qaw o0 (by omega) HP.g;have o1:=HP.o;have hg1:B < y1.heap.size:=Nat.lt_of_lt_of_le hg0 s0;have s1:=HP.g.size;clear HP;refine wp_seq_k (fun K hK=>?_);refine qbr (qtq (fun W hW=>(HX.out W hW).2.2.2.2.1) HT ⟨hBl,hk.r2,l2⟩ K _ _ _ _ _ hT h1 h3 hb hv rfl (fun T y3 a2 c2 hT h1 h3 hb HP=>hK _ _ ?_));clear K hK hv;have hv:=HP.h;simp only [List.setIfInBounds_toArray,List.set_cons_zero,List.set_cons_succ] at hv;have o0:=qaw o0 (by omega) HP.g;have o1:=qaw o1 (by omega) HP.g;have o2:=HP.o;have hg2:B < y2.heap.size:=Nat.lt_of_lt_of_le hg1 s1;have s2:=HP.g.size;clear HP;refine wp_seq_k (fun K hK=>?_);refine qbr (qtr (fun W hW=>(HX.out W hW).2.2.2.2.2.1) HT ⟨hBl,hk.r3,l3⟩ K _ _ _ _ _ hT h1 h3 hb hv rfl (fun T y4 a3 c3 hT h1 h3 hb HP=>hK _ _ ?_));clear K hK hv;have hv:=HP.h;simp only [List.setIfInBounds_toArray,List.set_cons_zero,List.set_cons_succ] at hv;have o0:=qaw o0 (by omega) HP.g;have o1:=qaw o1 (by omega) HP.g;have o2:=qaw o2 (by omega) HP.g;have o3:=HP.o;have hg3:B < y3.heap.size:=Nat.lt_of_lt_of_le hg2 s2;have s3:=HP.g.size;clear HP;refine wp_seq_k (fun K hK=>?_);refine qbr (qts (fun W hW=>(HX.out W hW).2.2.2.2.2.2.1) HT ⟨hBl,hk.r4,l4⟩ K _ _ _ _ _ hT h1 h3 hb hv rfl (fun T y5 a4 c4 hT h1 h3 hb HP=>hK _ _ ?_));clear K hK hv;have hv:=HP.h;simp only [List.setIfInBounds_toArray,List.set_cons_zero,List.set_cons_succ] at hv;have o0:=qaw o0 (by omega) HP.g;have o1:=qaw o1 (by omega) HP.g;have o2:=qaw o2 (by omega) HP.g;have o3:=qaw o3 (by omega) HP.g;have o4:=HP.o;have hg4:B < y4.heap.size:=Nat.lt_of_lt_of_le hg3 s3;have s4:=HP.g.size;clear HP;refine wp_seq_k (fun K hK=>?_);refine qbr (qtt (fun W hW=>(HX.out W hW).2.2.2.2.2.2.2.1) HT ⟨hBl,hk.r5,l5⟩ K _ _ _ _ _ hT h1 h3 hb hv rfl (fun T y6 a5 c5 hT h1 h3 hb HP=>hK _ _ ?_));clear K hK hv;have hv:=HP.h;simp only [List.setIfInBounds_toArray,List.set_cons_zero,List.set_cons_succ] at hv;have o0:=qaw o0 (by omega) HP.g;have o1:=qaw o1 (by omega) HP.g;have o2:=qaw o2 (by omega) HP.g;have o3:=qaw o3 (by omega) HP.g;have o4:=qaw o4 (by omega) HP.g;have o5:=HP.o;have hg5:B < y5.heap.size:=Nat.lt_of_lt_of_le hg4 s4;have s5:=HP.g.size;clear HP;refine wp_seq_k (fun K hK=>?_);refine qbr (qtu (fun W hW=>(HX.out W hW).2.2.2.2.2.2.2.2.1) HT ⟨hBl,hk.r6,l6⟩ K _ _ _ _ _ hT h1 h3 hb hv rfl (fun T y7 a6 c6 hT h1 h3 hb HP=>hK _ _ ?_));clear K hK hv;have hv:=HP.h;simp only [List.setIfInBounds_toArray,List.set_cons_zero,List.set_cons_succ] at hv;have o0:=qaw o0 (by omega) HP.g;have o1:=qaw o1 (by omega) HP.g;have o2:=qaw o2 (by omega) HP.g;have o3:=qaw o3 (by omega) HP.g;have o4:=qaw o4 (by omega) HP.g;have o5:=qaw o5 (by omega) HP.g;have o6:=HP.o;have hg6:B < y6.heap.size:=Nat.lt_of_lt_of_le hg5 s5;have s6:=HP.g.size;clear HP;refine Code.wp_mono (fun e a w q=>by cases e <;> first | exact q | exact q.elim) (pg_Z (Q .normal) (Q .ret) _ _ _ hT (fun T' h2=>?_));subst hQ;refine bodyPost_ret (results_tmp rfl _ _ _) rfl ?_;rw [h2,h3];refine ⟨B,rfl,?_,belT HBB.out hb⟩;exact qjy (us:=[(a0,(tb.tasks.flatMap eTk).length,c0),(a1,(tb.rings.flatMap eRg).length,c1),(a2,(tb.ress.flatMap eRs).length,c2),(a3,(tb.ctrs.flatMap eCt).length,c3),(a4,(tb.als.flatMap eAl).length,c4),(a5,(tb.isrs.flatMap eIs).length,c5),(a6,(tb.msgs.flatMap eMs).length,c6)]) (ls:=sevP tb) hv rfl (by simp [sevP]) (RdL.get (w:=y7) (us:=[(a0,(tb.tasks.flatMap eTk).length,c0),(a1,(tb.rings.flatMap eRg).length,c1),(a2,(tb.ress.flatMap eRs).length,c2),(a3,(tb.ctrs.flatMap eCt).length,c3),(a4,(tb.als.flatMap eAl).length,c4),(a5,(tb.isrs.flatMap eIs).length,c5),(a6,(tb.msgs.flatMap eMs).length,c6)]) (ls:=sevP tb) ⟨qa7 o0 (Nat.le_trans l0 (by decide)),qa7 o1 (Nat.le_trans l1 (by decide)),qa7 o2 (Nat.le_trans l2 (by decide)),qa7 o3 (Nat.le_trans l3 (by decide)),qa7 o4 (Nat.le_trans l4 (by decide)),qa7 o5 (Nat.le_trans l5 (by decide)),qa7 o6 (Nat.le_trans l6 (by decide)),trivial⟩).2
theorem qog (w:World) (tb:Tb) (v:Ts) (h:TbAt w tb v):Calls Tryz.prog 25 #[.agg (tbC tb v)] w fun e w'=>e=.returned (.slice (some ⟨w.heap.size+1,0,none⟩) 7 7)∧w'.ownsRow w.heap.size 3 1 (.slice (some ⟨w.heap.size+1,0,none⟩) 7 7) 7 ((lenL tb).map I)∧qB w w':=by
 have hL:[(v.t.n:Int),v.g.n,v.r.n,v.k.n,v.a.n,v.i.n,v.s.n]=lenL tb:=by
  have h0:v.t.n=_:=h.t.n;have h1:v.g.n=_:=h.g.n;have h2:v.r.n=_:=h.r.n;have h3:v.k.n=_:=h.k.n;have h4:v.a.n=_:=h.a.n;have h5:v.i.n=_:=h.i.n;have h6:v.s.n=_:=h.s.n;unfold lenL;rw [←h0,←h1,←h2,←h3,←h4,←h5,←h6]
 have HL:Hid ([(v.t.n:Int),v.g.n,v.r.n,v.k.n,v.a.n,v.i.n,v.s.n]=lenL tb):=hL;clear h hL;unfold tbC;go_enter Tryz.func25,Tryz.ntmps25
 go_wp2;go_ret;have hv:=heap_alloc_new (w.alloc (.cells (qC tb v) 32)) (.cells #[I v.t.n,I v.g.n,I v.r.n,I v.k.n,I v.a.n,I v.i.n,I v.s.n] 3);rw [show (w.alloc (.cells (qC tb v) 32)).heap.size=w.heap.size+1 by simp] at hv;refine ⟨rfl,?_,belT (qa0 w _) (qa0 _ _)⟩;rw [←HL.out];exact ⟨rfl,.inr ⟨w.heap.size+1,7,_,rfl,by omega,hv,by omega,by unfold maxLen;omega,by simp,rfl⟩⟩
theorem qsl {W W':World} {b1 b2 T1 T2 k1 k2 n1 n2:Nat} {v1 v2:Value} {x1 x2:List Value} (h1:W.ownsRow b1 T1 k1 v1 n1 x1) (h2:W.ownsRow b2 T2 k2 v2 n2 x2) (hT:T1≠T2) (hg:W.grownBy W' v2.ownBlock):W'.ownsRow b1 T1 k1 v1 n1 x1:=h1.kept hg (by
 rcases h1.2 with ⟨e1,-⟩ | ⟨g1,c1,cur1,e1,-,e3,-⟩
 ·rw [e1];exact .inl rfl
 ·rcases h2.2 with ⟨f1,-⟩ | ⟨g2,c2,cur2,f1,-,f3,-⟩
  ·rw [e1,f1];exact .inr (by intro e;cases e)
  ·rw [e1,f1];exact .inr (fun e=>by cases e;rw [e3] at f3;cases f3;exact hT rfl))
end Go.Proofs.YtijgopkhdjaolabGreat
