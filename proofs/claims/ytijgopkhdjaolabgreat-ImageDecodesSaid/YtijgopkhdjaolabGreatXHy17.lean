import Derived.Test.YtijgopkhdjaolabGreatXHy13
import Derived.Deep.RegionHeldLaw
import Derived.Deep.DrawnRows
set_option linter.unusedSimpArgs false
set_option linter.unusedVariables false
set_option maxRecDepth 100000
namespace Go.Proofs.YtijgopkhdjaolabGreat
open Go.RowKit Go.Shelf Go.Sort
open Go.Proofs.YtijgopkhdjaolabGreat.Ob (leB leV qa8 qag crc Rd RdAll qa7 rd_drop)
set_option maxHeartbeats 40000000
theorem qti {w:World} {r gn cn X6:Nat} (n:Nat→Nat) (hn:∀j,j < 7→n j < 65536) (hcn:7≤cn) (hc:Hid (qdc w r gn n)):ASg 4 w r gn cn X6 (fun s tb=>((dRep dAl (n 4) s).2,{ tb with als:=(dRep dAl (n 4) s).1 })) (fun tb=>tb.als=[]):=by
 intro N R T vs W s tb v hT hA hok hK;obtain ⟨info0,hi0,hz0,hz1,hz2⟩:=info_parts qnc;obtain ⟨hT,h0,h2,h4,h6⟩:=hT;obtain ⟨x0,x1,l0,l1,l2,l3,l4,l5,l6,x2,x3,x4,x5⟩:=tb;obtain ⟨st,sg,sr,sk,sa,si,ss⟩:=v;dsimp only at hok hK;subst hok;obtain ⟨va,vn,vc⟩:=sa;have hvn:vn=0:=by
  obtain ⟨q1,q2,q3,e,-⟩:=hA.i.o.a;have e:(.slice va vn vc:Value)=.slice q1 0 q2:=e;injection e
 subst hvn;have HK:Hid _:=hK;have HI:Hid (AX w W r s X6 (⟨x0,x1,l0,l1,l2,l3,[],l5,l6,x2,x3,x4,x5⟩:Tb) (⟨st,sg,sr,sk,⟨va,0,vc⟩,si,ss⟩:Ts)):=hA;have hnb:=hn 4 (by omega);have hcc:=fun W hW=>hc.out W hW 4 (by omega)
 generalize n 4=n0 at *;rw [qek T hT];simp only [qel,List.map_cons,List.map_nil,show tk T 0=_ from h0,show tk T 2=_ from h2,show tk T 4=_ from h4,show tk T 6=_ from h6];clear hK hA h0 h2 h4 h6 hT hn hc;generalize tk T=tt;conv=>arg 2;whnf
 go_wp2;go_loopw [13] (fun v7 wr=>∃(k:Nat) (ys:List AlR) (t:DS) (va:Option Addr) (vc:Nat),k≤n0∧v7=I k∧Hid (ys.length=k∧dRep dAl n0 s=(ys++(dRep dAl (n0 - k) t).1,(dRep dAl (n0 - k) t).2)∧AX w wr r t X6 (⟨x0,x1,l0,l1,l2,l3,ys,l5,l6,x2,x3,x4,x5⟩:Tb) (⟨st,sg,sr,sk,⟨va,k,vc⟩,si,ss⟩:Ts))) (fun v7 _=>n0 - (intOf v7).toNat)
 case atStart=>exact ⟨0,[],s,va,vc,by omega,rfl,rfl,by simp,HI.out⟩
 case round=>
  clear HI;obtain ⟨k,ys,t,va,vc,hk,rfl,HJ⟩:=hrel;have c0:=hcc wr HJ.out.2.2.i.f.g;have hd:=HJ.out.2.2.i.f.d;obtain ⟨-,a9,m9,c9,p1,-,-⟩:=hd;have ce:wr.cell? ⟨r,1,none⟩=some (I t.2):=by rw [qcr p1];rfl
  clear p1;by_cases hlt:k < n0
  ·have hltI:(k:Int) < n0:=by omega
   by_cases he:t.2=0
   ·rw [he] at ce
    have hne:=qdf (d:=dAl) (n:=n0 - (k+1)) he;rw [show n0 - (k+1)+1=n0 - k by omega] at hne;have HN:Hid (dRep dAl (n0 - k) t=((dAl t).1 :: (dRep dAl (n0 - (k+1)) (dAl t).2).1,(dRep dAl (n0 - (k+1)) (dAl t).2).2)):=hne;clear hne;go_upto_region 25 with fail;refine qc5 (S:=fun W=>W.cell? ⟨w.heap.size,6,none⟩=some (.slice va k vc)) 7 (by kernel_rfl) ?_;change qbw _ _ _ _ _ _ _ #[false,false,false,false,false,false,false,false] _ _;have HD:=HJ.out.2.2.below (Below.refl wr.heap.size wr).drew;have hT:=qlp wr.drew r t HD.i.f.d;have hHeld:=HD.i.cell 6 (.slice va k vc) rfl;have HDD:Hid (AX w wr.drew r t X6 (⟨x0,x1,l0,l1,l2,l3,ys,l5,l6,x2,x3,x4,x5⟩:Tb) (⟨st,sg,sr,sk,⟨va,k,vc⟩,si,ss⟩:Ts)):=HD;clear HD c0 ce hcc;try simp only [qN]
    refine qTG 0 (.pointer (some ⟨w.heap.size,6,none⟩)) rfl hHeld ?_;try simp only [qN]
    refine qTG 1 (.slice va k vc) rfl hHeld ?_;try simp only [qN]
    refine qTG 2 (.pointer (some ⟨r,0,none⟩)) rfl hHeld ?_;try simp only [qN]
    clear hHeld;generalize wr.drew=w0 at *;obtain ⟨x,hx⟩:∃x,x=(dAl t).1:=⟨_,rfl⟩
    obtain ⟨t2,ht⟩:∃t2,t2=(dAl t).2:=⟨_,rfl⟩
    rw [←hx,←ht] at hT;have HXX:Hid (x=(dAl t).1∧t2=(dAl t).2):=⟨hx,ht⟩;clear hx ht;refine qab (i:=3) (by kernel_rfl) rfl (fun K hK=>?_);go_simp;(go_at_call 66;refine hT.mono ?_;clear hT;rintro e W1 ⟨rfl,hd,hg⟩)
    have H1:Hid (AX w W1 r t2 X6 (⟨x0,x1,l0,l1,l2,l3,ys,l5,l6,x2,x3,x4,x5⟩:Tb) (⟨st,sg,sr,sk,⟨va,k,vc⟩,si,ss⟩:Ts)∧True):=⟨HDD.out.call hd hg,trivial⟩;clear hd hg HDD;refine hK.out _ _ (fun _=>H1.out.1.i.cell 6 _ rfl) ?_;clear hK K;try simp only [qN]
    have hb1:=qa0 W1 (.cells #[I x.ctr,I x.ac.kind,I x.ac.task,.int .u32 (x.ac.mask:Int),.int .u32 (x.auto:Int),.int .u32 (x.time:Int),.int .u32 (x.cycle:Int)] 82);have hnew:=qaz W1 #[I x.ctr,I x.ac.kind,I x.ac.task,.int .u32 (x.ac.mask:Int),.int .u32 (x.auto:Int),.int .u32 (x.time:Int),.int .u32 (x.cycle:Int)] 82;refine qab (i:=4) (by kernel_rfl) rfl (fun K hK=>?_);go_simp;refine hK.out _ _ (fun _=>(H1.out.1.below hb1).i.cell 6 _ rfl) ?_;clear hK K;try simp only [qN]
    have H2:Hid (AX w (W1.alloc (.cells #[I x.ctr,I x.ac.kind,I x.ac.task,.int .u32 (x.ac.mask:Int),.int .u32 (x.auto:Int),.int .u32 (x.time:Int),.int .u32 (x.cycle:Int)] 82)) r t2 X6 (⟨x0,x1,l0,l1,l2,l3,ys,l5,l6,x2,x3,x4,x5⟩:Tb) (⟨st,sg,sr,sk,⟨va,k,vc⟩,si,ss⟩:Ts)):=H1.out.1.below hb1;skip;obtain ⟨cs,oo,xx⟩:=H2.out.i.ownAl;have hyl:ys.length=k:=HJ.out.1;have hszz:w.heap.size≤(W1.alloc (.cells #[I x.ctr,I x.ac.kind,I x.ac.task,.int .u32 (x.ac.mask:Int),.int .u32 (x.auto:Int),.int .u32 (x.time:Int),.int .u32 (x.cycle:Int)] 82)).heap.size:=H2.out.i.f.g.size;clear H1 hb1;generalize W1.alloc (.cells #[I x.ctr,I x.ac.kind,I x.ac.task,.int .u32 (x.ac.mask:Int),.int .u32 (x.auto:Int),.int .u32 (x.time:Int),.int .u32 (x.cycle:Int)] 82)=W3 at *;refine qab (i:=5) (by kernel_rfl) rfl (fun K hK=>?_);refine qej rfl _ _ 28 rfl w.heap.size 82 info0 _ 7 48 Tryz.underlying28 hi0 hz0 hz1 hz2 rfl (by decide) (.slice va k vc) ys.length cs (by simp [Act.eval]) oo ⟨W1.heap.size,0,none⟩ 1 1 (#[I x.ctr,I x.ac.kind,I x.ac.task,.int .u32 (x.ac.mask:Int),.int .u32 (x.auto:Int),.int .u32 (x.time:Int),.int .u32 (x.cycle:Int)]:Array Value).toList (by simp [Act.eval]) rfl hnew (by intro y hy;simp only [List.mem_cons,List.not_mem_nil,or_false] at hy;rcases hy with rfl | rfl | rfl | rfl | rfl | rfl | rfl <;> rfl) (by unfold maxLen;omega) (by omega) hszz ?_;intro v' W2 hO2 hg2;skip;obtain ⟨a',c',hv',hc2,hf2,HA⟩:=H2.out.i.appAl x cs (#[I x.ctr,I x.ac.kind,I x.ac.task,.int .u32 (x.ac.mask:Int),.int .u32 (x.auto:Int),.int .u32 (x.time:Int),.int .u32 (x.cycle:Int)]:Array Value).toList oo xx hg2 hO2 rfl (fun i hi=>by
     match i,hi with
     | 0,_=>exact ⟨_,rfl,rfl⟩
     | 1,_=>exact ⟨_,rfl,rfl⟩
     | 2,_=>exact ⟨_,rfl,rfl⟩
     | 3,_=>exact ⟨_,rfl,rfl⟩
     | 4,_=>exact ⟨_,rfl,rfl⟩
     | 5,_=>exact ⟨_,rfl,rfl⟩
     | 6,_=>exact ⟨_,rfl,rfl⟩)
    have HA:=H2.out.app (qcb oo hg2) (by decide) HA;dsimp only [slT] at hc2 HA hv';rw [hyl] at hv';subst hv';rw [hyl] at HA;have H9:Hid ((ys++[x]).length=k+1∧dRep dAl n0 s=((ys++[x])++(dRep dAl (n0 - (k+1)) t2).1,(dRep dAl (n0 - (k+1)) t2).2)∧AX w (W2.setCell ⟨w.heap.size,6,none⟩ (.slice a' (k+1) c')) r t2 X6 (⟨x0,x1,l0,l1,l2,l3,ys++[x],l5,l6,x2,x3,x4,x5⟩:Tb) (⟨st,sg,sr,sk,⟨a',k+1,c'⟩,si,ss⟩:Ts)):=by
     refine ⟨by simp [hyl],?_,HA⟩;have h1:=HJ.out.2.1;rw [HN.out,←HXX.out.1,←HXX.out.2] at h1;rw [h1];simp
    clear HJ HN HXX HA hO2 hg2 oo xx hnew H2;refine hK.out _ _ (fun _=>hc2) ?_;clear hK K;try simp only [qN]
    refine qab (i:=6) (by kernel_rfl) rfl (fun K hK=>?_);go_simp;refine hK.out _ _ (fun _=>hc2) ?_;clear hK K;try simp only [qN]
    refine qab (i:=7) (by kernel_rfl) rfl (fun K hK=>?_);go_simp;refine hK.out _ _ (fun h=>absurd rfl h) ?_;clear hK K hc2 hf2;try simp only [qN]
    refine qc4 (by kernel_rfl) ?_ _;go_wp2;go_roundw
    case rel=>exact ⟨k+1,_,t2,a',c',by omega,by go_num,H9.out⟩
    case measure=>simp [intOf];omega
   ·have heI:¬((t.2:Int)=0):=by omega
    have HE:Hid (AX w wr r (dRep dAl n0 s).2 X6 (⟨x0,x1,l0,l1,l2,l3,(dRep dAl n0 s).1,l5,l6,x2,x3,x4,x5⟩:Tb) (⟨st,sg,sr,sk,⟨va,k,vc⟩,si,ss⟩:Ts)):=by
     obtain ⟨f1,f2,f3⟩:=HJ.out;rw [f2,qcs he,List.append_nil];exact f3
    clear HJ;go_wp2;(try simp only [Exit.inBlock,Exit.then])
    exact HK.out _ _ _ ⟨rfl,rfl,rfl,rfl,rfl⟩ HE.out
  ·obtain rfl:k=n0:=by omega
   have hge:¬((k:Int) < k):=by omega
   have HE:Hid (AX w wr r (dRep dAl k s).2 X6 (⟨x0,x1,l0,l1,l2,l3,(dRep dAl k s).1,l5,l6,x2,x3,x4,x5⟩:Tb) (⟨st,sg,sr,sk,⟨va,k,vc⟩,si,ss⟩:Ts)):=by
    obtain ⟨f1,f2,f3⟩:=HJ.out;rw [f2,Nat.sub_self];simp only [dRep,List.append_nil];exact f3
   clear HJ;go_wp2;(try simp only [Exit.inBlock,Exit.then])
   exact HK.out _ _ _ ⟨rfl,rfl,rfl,rfl,rfl⟩ HE.out
theorem qtj {w:World} {r gn cn X6:Nat} (n:Nat→Nat) (hn:∀j,j < 7→n j < 65536) (hcn:7≤cn) (hc:Hid (qdc w r gn n)):ASg 6 w r gn cn X6 (fun s tb=>((dRep dMs (n 6) s).2,{ tb with msgs:=(dRep dMs (n 6) s).1 })) (fun tb=>tb.msgs=[]):=by
 intro N R T vs W s tb v hT hA hok hK;obtain ⟨info0,hi0,hz0,hz1,hz2⟩:=info_parts qne;obtain ⟨hT,h0,h2,h4,h6⟩:=hT;obtain ⟨x0,x1,l0,l1,l2,l3,l4,l5,l6,x2,x3,x4,x5⟩:=tb;obtain ⟨st,sg,sr,sk,sa,si,ss⟩:=v;dsimp only at hok hK;subst hok;obtain ⟨va,vn,vc⟩:=ss;have hvn:vn=0:=by
  obtain ⟨q1,q2,q3,e,-⟩:=hA.i.o.s;have e:(.slice va vn vc:Value)=.slice q1 0 q2:=e;injection e
 subst hvn;have HK:Hid _:=hK;have HI:Hid (AX w W r s X6 (⟨x0,x1,l0,l1,l2,l3,l4,l5,[],x2,x3,x4,x5⟩:Tb) (⟨st,sg,sr,sk,sa,si,⟨va,0,vc⟩⟩:Ts)):=hA;have hnb:=hn 6 (by omega);have hcc:=fun W hW=>hc.out W hW 6 (by omega)
 generalize n 6=n0 at *;rw [qek T hT];simp only [qel,List.map_cons,List.map_nil,show tk T 0=_ from h0,show tk T 2=_ from h2,show tk T 4=_ from h4,show tk T 6=_ from h6];clear hK hA h0 h2 h4 h6 hT hn hc;generalize tk T=tt;conv=>arg 2;whnf
 go_wp2;go_loopw [16] (fun v7 wr=>∃(k:Nat) (ys:List MsR) (t:DS) (va:Option Addr) (vc:Nat),k≤n0∧v7=I k∧Hid (ys.length=k∧dRep dMs n0 s=(ys++(dRep dMs (n0 - k) t).1,(dRep dMs (n0 - k) t).2)∧AX w wr r t X6 (⟨x0,x1,l0,l1,l2,l3,l4,l5,ys,x2,x3,x4,x5⟩:Tb) (⟨st,sg,sr,sk,sa,si,⟨va,k,vc⟩⟩:Ts))) (fun v7 _=>n0 - (intOf v7).toNat)
 case atStart=>exact ⟨0,[],s,va,vc,by omega,rfl,rfl,by simp,HI.out⟩
 case round=>
  clear HI;obtain ⟨k,ys,t,va,vc,hk,rfl,HJ⟩:=hrel;have c0:=hcc wr HJ.out.2.2.i.f.g;have hd:=HJ.out.2.2.i.f.d;obtain ⟨-,a9,m9,c9,p1,-,-⟩:=hd;have ce:wr.cell? ⟨r,1,none⟩=some (I t.2):=by rw [qcr p1];rfl
  clear p1;by_cases hlt:k < n0
  ·have hltI:(k:Int) < n0:=by omega
   by_cases he:t.2=0
   ·rw [he] at ce
    have hne:=qdf (d:=dMs) (n:=n0 - (k+1)) he;rw [show n0 - (k+1)+1=n0 - k by omega] at hne;have HN:Hid (dRep dMs (n0 - k) t=((dMs t).1 :: (dRep dMs (n0 - (k+1)) (dMs t).2).1,(dRep dMs (n0 - (k+1)) (dMs t).2).2)):=hne;clear hne;go_upto_region 35 with fail;refine qc5 (S:=fun W=>W.cell? ⟨w.heap.size,8,none⟩=some (.slice va k vc)) 7 (by kernel_rfl) ?_;change qbw _ _ _ _ _ _ _ #[false,false,false,false,false,false,false,false] _ _;have HD:=HJ.out.2.2.below (Below.refl wr.heap.size wr).drew;have hT:=qp0 wr.drew r t HD.i.f.d;have hHeld:=HD.i.cell 8 (.slice va k vc) rfl;have HDD:Hid (AX w wr.drew r t X6 (⟨x0,x1,l0,l1,l2,l3,l4,l5,ys,x2,x3,x4,x5⟩:Tb) (⟨st,sg,sr,sk,sa,si,⟨va,k,vc⟩⟩:Ts)):=HD;clear HD c0 ce hcc;try simp only [qN]
    refine qTG 0 (.pointer (some ⟨w.heap.size,8,none⟩)) rfl hHeld ?_;try simp only [qN]
    refine qTG 1 (.slice va k vc) rfl hHeld ?_;try simp only [qN]
    refine qTG 2 (.pointer (some ⟨r,0,none⟩)) rfl hHeld ?_;try simp only [qN]
    clear hHeld;generalize wr.drew=w0 at *;obtain ⟨x,hx⟩:∃x,x=(dMs t).1:=⟨_,rfl⟩
    obtain ⟨t2,ht⟩:∃t2,t2=(dMs t).2:=⟨_,rfl⟩
    rw [←hx,←ht] at hT;have HXX:Hid (x=(dMs t).1∧t2=(dMs t).2):=⟨hx,ht⟩;clear hx ht;refine qab (i:=3) (by kernel_rfl) rfl (fun K hK=>?_);go_simp;(go_at_call 68;refine hT.mono ?_;clear hT;rintro e W1 ⟨rfl,hd,hg⟩)
    have H1:Hid (AX w W1 r t2 X6 (⟨x0,x1,l0,l1,l2,l3,l4,l5,ys,x2,x3,x4,x5⟩:Tb) (⟨st,sg,sr,sk,sa,si,⟨va,k,vc⟩⟩:Ts)∧True):=⟨HDD.out.call hd hg,trivial⟩;clear hd hg HDD;refine hK.out _ _ (fun _=>H1.out.1.i.cell 8 _ rfl) ?_;clear hK K;try simp only [qN]
    have hb1:=qa0 W1 (.cells #[I x.kind,I x.len,I x.frm,.int .u64 (x.init:Int),I x.queue,I x.ac.kind,I x.ac.task,.int .u32 (x.ac.mask:Int)] 87);have hnew:=qaz W1 #[I x.kind,I x.len,I x.frm,.int .u64 (x.init:Int),I x.queue,I x.ac.kind,I x.ac.task,.int .u32 (x.ac.mask:Int)] 87;refine qab (i:=4) (by kernel_rfl) rfl (fun K hK=>?_);go_simp;refine hK.out _ _ (fun _=>(H1.out.1.below hb1).i.cell 8 _ rfl) ?_;clear hK K;try simp only [qN]
    have H2:Hid (AX w (W1.alloc (.cells #[I x.kind,I x.len,I x.frm,.int .u64 (x.init:Int),I x.queue,I x.ac.kind,I x.ac.task,.int .u32 (x.ac.mask:Int)] 87)) r t2 X6 (⟨x0,x1,l0,l1,l2,l3,l4,l5,ys,x2,x3,x4,x5⟩:Tb) (⟨st,sg,sr,sk,sa,si,⟨va,k,vc⟩⟩:Ts)):=H1.out.1.below hb1;skip;obtain ⟨cs,oo,xx⟩:=H2.out.i.ownMs;have hyl:ys.length=k:=HJ.out.1;have hszz:w.heap.size≤(W1.alloc (.cells #[I x.kind,I x.len,I x.frm,.int .u64 (x.init:Int),I x.queue,I x.ac.kind,I x.ac.task,.int .u32 (x.ac.mask:Int)] 87)).heap.size:=H2.out.i.f.g.size;clear H1 hb1;generalize W1.alloc (.cells #[I x.kind,I x.len,I x.frm,.int .u64 (x.init:Int),I x.queue,I x.ac.kind,I x.ac.task,.int .u32 (x.ac.mask:Int)] 87)=W3 at *;refine qab (i:=5) (by kernel_rfl) rfl (fun K hK=>?_);refine qej rfl _ _ 30 rfl w.heap.size 87 info0 _ 8 64 Tryz.underlying30 hi0 hz0 hz1 hz2 rfl (by decide) (.slice va k vc) ys.length cs (by simp [Act.eval]) oo ⟨W1.heap.size,0,none⟩ 1 1 (#[I x.kind,I x.len,I x.frm,.int .u64 (x.init:Int),I x.queue,I x.ac.kind,I x.ac.task,.int .u32 (x.ac.mask:Int)]:Array Value).toList (by simp [Act.eval]) rfl hnew (by intro y hy;simp only [List.mem_cons,List.not_mem_nil,or_false] at hy;rcases hy with rfl | rfl | rfl | rfl | rfl | rfl | rfl | rfl <;> rfl) (by unfold maxLen;omega) (by omega) hszz ?_;intro v' W2 hO2 hg2;skip;obtain ⟨a',c',hv',hc2,hf2,HA⟩:=H2.out.i.appMs x cs (#[I x.kind,I x.len,I x.frm,.int .u64 (x.init:Int),I x.queue,I x.ac.kind,I x.ac.task,.int .u32 (x.ac.mask:Int)]:Array Value).toList oo xx hg2 hO2 rfl (fun i hi=>by
     match i,hi with
     | 0,_=>exact ⟨_,rfl,rfl⟩
     | 1,_=>exact ⟨_,rfl,rfl⟩
     | 2,_=>exact ⟨_,rfl,rfl⟩
     | 3,_=>exact ⟨_,rfl,rfl⟩
     | 4,_=>exact ⟨_,rfl,rfl⟩
     | 5,_=>exact ⟨_,rfl,rfl⟩
     | 6,_=>exact ⟨_,rfl,rfl⟩
     | 7,_=>exact ⟨_,rfl,rfl⟩)
    have HA:=H2.out.app (qcb oo hg2) (by decide) HA;dsimp only [slT] at hc2 HA hv';rw [hyl] at hv';subst hv';rw [hyl] at HA;have H9:Hid ((ys++[x]).length=k+1∧dRep dMs n0 s=((ys++[x])++(dRep dMs (n0 - (k+1)) t2).1,(dRep dMs (n0 - (k+1)) t2).2)∧AX w (W2.setCell ⟨w.heap.size,8,none⟩ (.slice a' (k+1) c')) r t2 X6 (⟨x0,x1,l0,l1,l2,l3,l4,l5,ys++[x],x2,x3,x4,x5⟩:Tb) (⟨st,sg,sr,sk,sa,si,⟨a',k+1,c'⟩⟩:Ts)):=by
     refine ⟨by simp [hyl],?_,HA⟩;have h1:=HJ.out.2.1;rw [HN.out,←HXX.out.1,←HXX.out.2] at h1;rw [h1];simp
    clear HJ HN HXX HA hO2 hg2 oo xx hnew H2;refine hK.out _ _ (fun _=>hc2) ?_;clear hK K;try simp only [qN]
    refine qab (i:=6) (by kernel_rfl) rfl (fun K hK=>?_);go_simp;refine hK.out _ _ (fun _=>hc2) ?_;clear hK K;try simp only [qN]
    refine qab (i:=7) (by kernel_rfl) rfl (fun K hK=>?_);go_simp;refine hK.out _ _ (fun h=>absurd rfl h) ?_;clear hK K hc2 hf2;try simp only [qN]
    refine qc4 (by kernel_rfl) ?_ _;go_wp2;go_roundw
    case rel=>exact ⟨k+1,_,t2,a',c',by omega,by go_num,H9.out⟩
    case measure=>simp [intOf];omega
   ·have heI:¬((t.2:Int)=0):=by omega
    have HE:Hid (AX w wr r (dRep dMs n0 s).2 X6 (⟨x0,x1,l0,l1,l2,l3,l4,l5,(dRep dMs n0 s).1,x2,x3,x4,x5⟩:Tb) (⟨st,sg,sr,sk,sa,si,⟨va,k,vc⟩⟩:Ts)):=by
     obtain ⟨f1,f2,f3⟩:=HJ.out;rw [f2,qcs he,List.append_nil];exact f3
    clear HJ;go_wp2;(try simp only [Exit.inBlock,Exit.then])
    exact HK.out _ _ _ ⟨rfl,rfl,rfl,rfl,rfl⟩ HE.out
  ·obtain rfl:k=n0:=by omega
   have hge:¬((k:Int) < k):=by omega
   have HE:Hid (AX w wr r (dRep dMs k s).2 X6 (⟨x0,x1,l0,l1,l2,l3,l4,l5,(dRep dMs k s).1,x2,x3,x4,x5⟩:Tb) (⟨st,sg,sr,sk,sa,si,⟨va,k,vc⟩⟩:Ts)):=by
    obtain ⟨f1,f2,f3⟩:=HJ.out;rw [f2,Nat.sub_self];simp only [dRep,List.append_nil];exact f3
   clear HJ;go_wp2;(try simp only [Exit.inBlock,Exit.then])
   exact HK.out _ _ _ ⟨rfl,rfl,rfl,rfl,rfl⟩ HE.out
def d2I (s:DS):Int×DS:=(((dTk 2 s).1:Int),(dTk 2 s).2)
def dRg : DS→RgR×DS:=dB qb0 fun p=>dB d2I fun c=>dR ⟨p,c⟩
def dCt : DS→CtR×DS:=dB qax fun a=>dB qax fun b=>dB qax fun c=>dR ⟨a,b,c⟩
def dIs : DS→IsR×DS:=dB qb0 fun c=>dB qb0 fun p=>dB qcd fun o=>dR ⟨c,p,o⟩
theorem AX.upto {w W1 W:World} {r X6:Nat} {s s':DS} {tb:Tb} {v:Ts} (h:AX w W1 r s X6 tb v) (q:DF W1 W r s'):AX w W r s' X6 tb v:=h.call q.d q.g
theorem qtk {w : World} {r gn cn X6 : Nat} (n : Nat → Nat) (hn : ∀ j, j < 7 → n j < 65536) (hcn : 7 ≤ cn) (hc : Hid (qdc w r gn n)) : ASg 1 w r gn cn X6 (fun s tb => ((dRep dRg (n 1) s).2, { tb with rings := (dRep dRg (n 1) s).1 })) (fun tb => tb.rings = []) := by
  intro N R T vs W s tb v hT hA hok hK;obtain ⟨info0, hi0, hz0, hz1, hz2⟩ := info_parts qnh;obtain ⟨hT, h0, h2, h4, h6⟩ := hT;obtain ⟨x0, x1, l0, l1, l2, l3, l4, l5, l6, x2, x3, x4, x5⟩ := tb;obtain ⟨st, sg, sr, sk, sa, si, ss⟩ := v;dsimp only at hok hK;subst hok;obtain ⟨va, vn, vc⟩ := sg;have hvn : vn = 0 := by
    obtain ⟨q1, q2, q3, e, -⟩ := hA.i.o.g;have e : (.slice va vn vc : Value) = .slice q1 0 q2 := e;injection e
  subst hvn;have HK : Hid _ := hK;have HI : Hid (AX w W r s X6 (⟨x0, x1, l0, [], l2, l3, l4, l5, l6, x2, x3, x4, x5⟩ : Tb) (⟨st, ⟨va, 0, vc⟩, sr, sk, sa, si, ss⟩ : Ts)) := hA;have hnb := hn 1 (by omega);have hcc := fun W hW => hc.out W hW 1 (by omega)
  generalize n 1 = n0 at *;rw [qek T hT];simp only [qel, List.map_cons, List.map_nil, show tk T 0 = _ from h0, show tk T 2 = _ from h2, show tk T 4 = _ from h4, show tk T 6 = _ from h6];clear hK hA h0 h2 h4 h6 hT hn hc;generalize tk T = tt;conv => arg 2; whnf
  go_wp2;go_loopw [8, 9] (fun v7 _ wr => ∃ (k : Nat) (ys : List RgR) (t : DS) (va : Option Addr) (vc : Nat), k ≤ n0 ∧ v7 = I k ∧ Hid (ys.length = k ∧ dRep dRg n0 s = (ys ++ (dRep dRg (n0 - k) t).1, (dRep dRg (n0 - k) t).2) ∧ AX w wr r t X6 (⟨x0, x1, l0, ys, l2, l3, l4, l5, l6, x2, x3, x4, x5⟩ : Tb) (⟨st, ⟨va, k, vc⟩, sr, sk, sa, si, ss⟩ : Ts))) (fun v7 _ _ => n0 - (intOf v7).toNat)
  case atStart => exact ⟨0, [], s, va, vc, by omega, rfl, rfl, by simp, HI.out⟩
  case round =>
    clear HI;obtain ⟨k, ys, t, va, vc, hk, rfl, HJ⟩ := hrel;have c0 := hcc wr HJ.out.2.2.i.f.g;have hd := HJ.out.2.2.i.f.d;obtain ⟨-, a9, m9, c9, p1, -, -⟩ := hd;have ce : wr.cell? ⟨r, 1, none⟩ = some (I t.2) := by rw [qcr p1]; rfl
    clear p1;by_cases hlt : k < n0
    · have hltI : (k : Int) < n0 := by omega
      by_cases he : t.2 = 0
      · rw [he] at ce
        have hne := qdf (d := dRg) (n := n0 - (k + 1)) he;rw [show n0 - (k + 1) + 1 = n0 - k by omega] at hne;have HN : Hid (dRep dRg (n0 - k) t = ((dRg t).1 :: (dRep dRg (n0 - (k + 1)) (dRg t).2).1, (dRep dRg (n0 - (k + 1)) (dRg t).2).2)) := hne;clear hne;have hT := qbh wr r t HJ.out.2.2.i.f.d;go_upto_region 9 with (first | (go_at_call 21; refine hT.mono ?_; clear hT; have hb0 := qbj 1 t (by omega); change (dOne t).1 < 256 ^ 1 at hb0; rintro e w1 ⟨rfl, hd, hg⟩; have HA0 : Hid (AX w w1 r (dOne t).2 X6 (⟨x0, x1, l0, ys, l2, l3, l4, l5, l6, x2, x3, x4, x5⟩ : Tb) (⟨st, ⟨va, k, vc⟩, sr, sk, sa, si, ss⟩ : Ts)) := HJ.out.2.2.call hd hg; clear hd hg));generalize hq1 : dOne t = q1 at *;have Hq1 : Hid (dOne t = q1) := hq1;clear hq1;have HB0 : Hid (DF w1 (w1.alloc (.cells #[I q1.1, I 0] 73)) r q1.2 ∧ HC w1 (w1.alloc (.cells #[I q1.1, I 0] 73)) r w1.heap.size 73 #[I q1.1, I 0]) := ⟨(DF.start HA0.out.i.f.d).below (qa0 _ _), HC.new (DF.start HA0.out.i.f.d) _ _⟩;generalize w1.alloc (.cells #[I q1.1, I 0] 73) = u1 at *;generalize hY : w1.heap.size = Y at *;have HY : Hid (w1.heap.size = Y) := hY;clear hY;have hT := qee u1 r 2 q1.2 HB0.out.1.d (by omega) (by omega);change Calls Tryz.prog 20 #[.pointer (some ⟨r, 0, none⟩), I 2] _ _ at hT;go_upto_region 10 with (first | (go_at_call 20; refine hT.mono ?_; clear hT; have hb1 := qbj 2 q1.2 (by omega); rintro e c1 ⟨rfl, hd, hg⟩; have HC0 : Hid (DF w1 c1 r (dTk 2 q1.2).2 ∧ HC w1 c1 r Y 73 #[I q1.1, I 0]) := ⟨HB0.out.1.call hd hg, HB0.out.2.call HB0.out.1.lr hg⟩; clear hd hg HB0; have k0 := HC0.out.2; have a0 : c1.cell? ⟨Y, 1, none⟩ = some (I 0) := (by rw [qcr k0.2]; rfl); have f0 := frozen_of_row c1 Y 1 _ _ k0.2));generalize hq2 : dTk 2 q1.2 = q2 at *;have Hq2 : Hid (dTk 2 q1.2 = q2) := hq2;clear hq2 a0 f0 k0;have HB1 : Hid (DF w1 (c1.setCell ⟨Y, 1, none⟩ (I q2.1)) r q2.2 ∧ HC w1 (c1.setCell ⟨Y, 1, none⟩ (I q2.1)) r Y 73 #[I q1.1, I q2.1]) := ⟨HC0.out.1.set HC0.out.2.1, HC0.out.2.set⟩;clear HC0;generalize (c1.setCell ⟨Y, 1, none⟩ (I q2.1)) = u2 at *;have HT : Hid (AX w u2 r q2.2 X6 (⟨x0, x1, l0, ys, l2, l3, l4, l5, l6, x2, x3, x4, x5⟩ : Tb) (⟨st, ⟨va, k, vc⟩, sr, sk, sa, si, ss⟩ : Ts)) := HA0.out.upto HB1.out.1;have cX := HT.out.i.cell 3 (.slice va k vc) rfl;have kY := HB1.out.2.2;have y0 : u2.cell? ⟨Y, 0, none⟩ = some (I q1.1) := by rw [qcr kY]; rfl
        have y1 : u2.cell? ⟨Y, 1, none⟩ = some (I q2.1) := by rw [qcr kY]; rfl
        have hb1 := qa0 u2 (.cells #[I q1.1, I q2.1] 73);have H2 : Hid (AX w (u2.alloc (.cells #[I q1.1, I q2.1] 73)) r q2.2 X6 (⟨x0, x1, l0, ys, l2, l3, l4, l5, l6, x2, x3, x4, x5⟩ : Tb) (⟨st, ⟨va, k, vc⟩, sr, sk, sa, si, ss⟩ : Ts)) := HT.out.below hb1;have hnew := qaz u2 #[I q1.1, I q2.1] 73;obtain ⟨cs, oo, xx⟩ := H2.out.i.ownRg;have hyl : ys.length = k := HJ.out.1;have hszz : w.heap.size ≤ (u2.alloc (.cells #[I q1.1, I q2.1] 73)).heap.size := H2.out.i.f.g.size;clear kY hb1;dsimp only [slT] at oo;rw [hyl] at oo;obtain ⟨x, hx⟩ : ∃ x : RgR, x = (⟨q1.1, q2.1⟩ : RgR) := ⟨_, rfl⟩
        clear hx x;go_wp2_with (first | (at_builtin; refine wpList_append_own _ rfl (.tmp 60) (.tmp 62) 25 rfl w.heap.size 73 info0 _ 2 16 Tryz.underlying25 hi0 hz0 hz1 hz2 rfl (by decide) _ _ _ rfl oo ⟨u2.heap.size, 0, none⟩ 1 1 (#[I q1.1, I q2.1] : Array Value).toList rfl rfl hnew (by intro y hy; simp only [List.mem_cons, List.not_mem_nil, or_false] at hy; rcases hy with rfl | rfl <;> rfl) (by unfold maxLen; omega) (by omega) hszz ?_; intro v' W2 hO2 hg2 _; obtain ⟨a', c', hv', hc2, hf2, HA⟩ := H2.out.i.appRg (⟨q1.1, q2.1⟩ : RgR) cs (#[I q1.1, I q2.1] : Array Value).toList (by dsimp only [slT]; rw [hyl]; exact oo) xx hg2 (by dsimp only; rw [hyl]; exact hO2) rfl (by
                    intro i hi;skip;match i, hi with
                    | 0, _ => exact ⟨_, rfl, rfl⟩
                    | 1, _ => exact ⟨_, rfl, rfl⟩); have HA := H2.out.app (qcb oo hg2) (by decide) HA; dsimp only [slT] at hc2 HA hv'; rw [hyl] at hv'; subst hv'; rw [hyl] at HA))
        have HD2 : Hid (dRg t = ((⟨q1.1, q2.1⟩ : RgR), q2.2)) := by
          show _ = _;simp only [dRg, dB, dR, qb0, d2I, Hq1.out, Hq2.out]
        have H9 : Hid ((ys ++ [(⟨q1.1, q2.1⟩ : RgR)]).length = k + 1 ∧ dRep dRg n0 s = ((ys ++ [(⟨q1.1, q2.1⟩ : RgR)]) ++ (dRep dRg (n0 - (k + 1)) q2.2).1, (dRep dRg (n0 - (k + 1)) q2.2).2) ∧ AX w (W2.setCell ⟨w.heap.size, 3, none⟩ (.slice a' (k + 1) c')) r q2.2 X6 (⟨x0, x1, l0, ys ++ [(⟨q1.1, q2.1⟩ : RgR)], l2, l3, l4, l5, l6, x2, x3, x4, x5⟩ : Tb) (⟨st, ⟨a', k + 1, c'⟩, sr, sk, sa, si, ss⟩ : Ts)) := by
          refine ⟨by simp [hyl], ?_, HA⟩;have h1 := HJ.out.2.1;rw [HN.out, HD2.out] at h1;rw [h1];simp
        clear HJ HN HA hO2 hg2 oo xx hnew H2 HT;go_roundw
        case rel => exact ⟨k + 1, _, q2.2, a', c', by omega, by go_num, H9.out⟩
        case measure => simp [intOf]; omega
      · have heI : ¬ ((t.2 : Int) = 0) := by omega
        have HE : Hid (AX w wr r (dRep dRg n0 s).2 X6 (⟨x0, x1, l0, (dRep dRg n0 s).1, l2, l3, l4, l5, l6, x2, x3, x4, x5⟩ : Tb) (⟨st, ⟨va, k, vc⟩, sr, sk, sa, si, ss⟩ : Ts)) := by
          obtain ⟨f1, f2, f3⟩ := HJ.out;rw [f2, qcs he, List.append_nil];exact f3
        clear HJ;go_wp2;(try simp only [Exit.inBlock, Exit.then])
        exact HK.out _ _ _ ⟨rfl, rfl, rfl, rfl, rfl⟩ HE.out
    · obtain rfl : k = n0 := by omega
      have hge : ¬ ((k : Int) < k) := by omega
      have HE : Hid (AX w wr r (dRep dRg k s).2 X6 (⟨x0, x1, l0, (dRep dRg k s).1, l2, l3, l4, l5, l6, x2, x3, x4, x5⟩ : Tb) (⟨st, ⟨va, k, vc⟩, sr, sk, sa, si, ss⟩ : Ts)) := by
        obtain ⟨f1, f2, f3⟩ := HJ.out;rw [f2, Nat.sub_self];simp only [dRep, List.append_nil];exact f3
      clear HJ;go_wp2;(try simp only [Exit.inBlock, Exit.then])
      exact HK.out _ _ _ ⟨rfl, rfl, rfl, rfl, rfl⟩ HE.out
theorem qtl {w : World} {r gn cn X6 : Nat} (n : Nat → Nat) (hn : ∀ j, j < 7 → n j < 65536) (hcn : 7 ≤ cn) (hc : Hid (qdc w r gn n)) : ASg 3 w r gn cn X6 (fun s tb => ((dRep dCt (n 3) s).2, { tb with ctrs := (dRep dCt (n 3) s).1 })) (fun tb => tb.ctrs = []) := by
  intro N R T vs W s tb v hT hA hok hK;obtain ⟨info0, hi0, hz0, hz1, hz2⟩ := info_parts qni;obtain ⟨hT, h0, h2, h4, h6⟩ := hT;obtain ⟨x0, x1, l0, l1, l2, l3, l4, l5, l6, x2, x3, x4, x5⟩ := tb;obtain ⟨st, sg, sr, sk, sa, si, ss⟩ := v;dsimp only at hok hK;subst hok;obtain ⟨va, vn, vc⟩ := sk;have hvn : vn = 0 := by
    obtain ⟨q1, q2, q3, e, -⟩ := hA.i.o.k;have e : (.slice va vn vc : Value) = .slice q1 0 q2 := e;injection e
  subst hvn;have HK : Hid _ := hK;have HI : Hid (AX w W r s X6 (⟨x0, x1, l0, l1, l2, [], l4, l5, l6, x2, x3, x4, x5⟩ : Tb) (⟨st, sg, sr, ⟨va, 0, vc⟩, sa, si, ss⟩ : Ts)) := hA;have hnb := hn 3 (by omega);have hcc := fun W hW => hc.out W hW 3 (by omega)
  generalize n 3 = n0 at *;rw [qek T hT];simp only [qel, List.map_cons, List.map_nil, show tk T 0 = _ from h0, show tk T 2 = _ from h2, show tk T 4 = _ from h4, show tk T 6 = _ from h6];clear hK hA h0 h2 h4 h6 hT hn hc;generalize tk T = tt;conv => arg 2; whnf
  go_wp2;go_loopw [11, 12] (fun v7 _ wr => ∃ (k : Nat) (ys : List CtR) (t : DS) (va : Option Addr) (vc : Nat), k ≤ n0 ∧ v7 = I k ∧ Hid (ys.length = k ∧ dRep dCt n0 s = (ys ++ (dRep dCt (n0 - k) t).1, (dRep dCt (n0 - k) t).2) ∧ AX w wr r t X6 (⟨x0, x1, l0, l1, l2, ys, l4, l5, l6, x2, x3, x4, x5⟩ : Tb) (⟨st, sg, sr, ⟨va, k, vc⟩, sa, si, ss⟩ : Ts))) (fun v7 _ _ => n0 - (intOf v7).toNat)
  case atStart => exact ⟨0, [], s, va, vc, by omega, rfl, rfl, by simp, HI.out⟩
  case round =>
    clear HI;obtain ⟨k, ys, t, va, vc, hk, rfl, HJ⟩ := hrel;have c0 := hcc wr HJ.out.2.2.i.f.g;have hd := HJ.out.2.2.i.f.d;obtain ⟨-, a9, m9, c9, p1, -, -⟩ := hd;have ce : wr.cell? ⟨r, 1, none⟩ = some (I t.2) := by rw [qcr p1]; rfl
    clear p1;by_cases hlt : k < n0
    · have hltI : (k : Int) < n0 := by omega
      by_cases he : t.2 = 0
      · rw [he] at ce
        have hne := qdf (d := dCt) (n := n0 - (k + 1)) he;rw [show n0 - (k + 1) + 1 = n0 - k by omega] at hne;have HN : Hid (dRep dCt (n0 - k) t = ((dCt t).1 :: (dRep dCt (n0 - (k + 1)) (dCt t).2).1, (dRep dCt (n0 - (k + 1)) (dCt t).2).2)) := hne;clear hne;have hT := qd9 wr r t HJ.out.2.2.i.f.d;go_upto_region 19 with (first | (go_at_call 65; refine hT.mono ?_; clear hT; have hb0 := qbj 4 t (by omega); change (qax t).1 < 256 ^ 4 at hb0; rintro e w1 ⟨rfl, hd, hg⟩; have HA0 : Hid (AX w w1 r (qax t).2 X6 (⟨x0, x1, l0, l1, l2, ys, l4, l5, l6, x2, x3, x4, x5⟩ : Tb) (⟨st, sg, sr, ⟨va, k, vc⟩, sa, si, ss⟩ : Ts)) := HJ.out.2.2.call hd hg; clear hd hg));generalize hq1 : qax t = q1 at *;have Hq1 : Hid (qax t = q1) := hq1;clear hq1;have HB0 : Hid (DF w1 (w1.alloc (.cells #[.int .u32 (q1.1 : Int), .int .u32 0, .int .u32 0] 77)) r q1.2 ∧ HC w1 (w1.alloc (.cells #[.int .u32 (q1.1 : Int), .int .u32 0, .int .u32 0] 77)) r w1.heap.size 77 #[.int .u32 (q1.1 : Int), .int .u32 0, .int .u32 0]) := ⟨(DF.start HA0.out.i.f.d).below (qa0 _ _), HC.new (DF.start HA0.out.i.f.d) _ _⟩;generalize w1.alloc (.cells #[.int .u32 (q1.1 : Int), .int .u32 0, .int .u32 0] 77) = u1 at *;generalize hY : w1.heap.size = Y at *;have HY : Hid (w1.heap.size = Y) := hY;clear hY;have hT := qd9 u1 r q1.2 HB0.out.1.d;go_upto_region 20 with (first | (go_at_call 65; refine hT.mono ?_; clear hT; have hb1 := qbj 4 q1.2 (by omega); change (qax q1.2).1 < 256 ^ 4 at hb1; rintro e c1 ⟨rfl, hd, hg⟩; have HC0 : Hid (DF w1 c1 r (qax q1.2).2 ∧ HC w1 c1 r Y 77 #[.int .u32 (q1.1 : Int), .int .u32 0, .int .u32 0]) := ⟨HB0.out.1.call hd hg, HB0.out.2.call HB0.out.1.lr hg⟩; clear hd hg HB0; have k0 := HC0.out.2; have a0 : c1.cell? ⟨Y, 1, none⟩ = some (.int .u32 0) := (by rw [qcr k0.2]; rfl); have f0 := frozen_of_row c1 Y 1 _ _ k0.2));generalize hq2 : qax q1.2 = q2 at *;have Hq2 : Hid (qax q1.2 = q2) := hq2;clear hq2 a0 f0 k0;have HB1 : Hid (DF w1 (c1.setCell ⟨Y, 1, none⟩ (.int .u32 (q2.1 : Int))) r q2.2 ∧ HC w1 (c1.setCell ⟨Y, 1, none⟩ (.int .u32 (q2.1 : Int))) r Y 77 #[.int .u32 (q1.1 : Int), .int .u32 (q2.1 : Int), .int .u32 0]) := ⟨HC0.out.1.set HC0.out.2.1, HC0.out.2.set⟩;clear HC0;generalize (c1.setCell ⟨Y, 1, none⟩ (.int .u32 (q2.1 : Int))) = u2 at *;have hT := qd9 u2 r q2.2 HB1.out.1.d;go_upto_region 21 with (first | (go_at_call 65; refine hT.mono ?_; clear hT; have hb2 := qbj 4 q2.2 (by omega); change (qax q2.2).1 < 256 ^ 4 at hb2; rintro e c2 ⟨rfl, hd, hg⟩; have HC1 : Hid (DF w1 c2 r (qax q2.2).2 ∧ HC w1 c2 r Y 77 #[.int .u32 (q1.1 : Int), .int .u32 (q2.1 : Int), .int .u32 0]) := ⟨HB1.out.1.call hd hg, HB1.out.2.call HB1.out.1.lr hg⟩; clear hd hg HB1; have k0 := HC1.out.2; have a0 : c2.cell? ⟨Y, 2, none⟩ = some (.int .u32 0) := (by rw [qcr k0.2]; rfl); have f0 := frozen_of_row c2 Y 2 _ _ k0.2));generalize hq3 : qax q2.2 = q3 at *;have Hq3 : Hid (qax q2.2 = q3) := hq3;clear hq3 a0 f0 k0;have HB2 : Hid (DF w1 (c2.setCell ⟨Y, 2, none⟩ (.int .u32 (q3.1 : Int))) r q3.2 ∧ HC w1 (c2.setCell ⟨Y, 2, none⟩ (.int .u32 (q3.1 : Int))) r Y 77 #[.int .u32 (q1.1 : Int), .int .u32 (q2.1 : Int), .int .u32 (q3.1 : Int)]) := ⟨HC1.out.1.set HC1.out.2.1, HC1.out.2.set⟩;clear HC1;generalize (c2.setCell ⟨Y, 2, none⟩ (.int .u32 (q3.1 : Int))) = u3 at *;have HT : Hid (AX w u3 r q3.2 X6 (⟨x0, x1, l0, l1, l2, ys, l4, l5, l6, x2, x3, x4, x5⟩ : Tb) (⟨st, sg, sr, ⟨va, k, vc⟩, sa, si, ss⟩ : Ts)) := HA0.out.upto HB2.out.1;have cX := HT.out.i.cell 5 (.slice va k vc) rfl;have kY := HB2.out.2.2;have y0 : u3.cell? ⟨Y, 0, none⟩ = some (.int .u32 (q1.1 : Int)) := by rw [qcr kY]; rfl
        have y1 : u3.cell? ⟨Y, 1, none⟩ = some (.int .u32 (q2.1 : Int)) := by rw [qcr kY]; rfl
        have y2 : u3.cell? ⟨Y, 2, none⟩ = some (.int .u32 (q3.1 : Int)) := by rw [qcr kY]; rfl
        have hb1 := qa0 u3 (.cells #[.int .u32 (q1.1 : Int), .int .u32 (q2.1 : Int), .int .u32 (q3.1 : Int)] 77);have H2 : Hid (AX w (u3.alloc (.cells #[.int .u32 (q1.1 : Int), .int .u32 (q2.1 : Int), .int .u32 (q3.1 : Int)] 77)) r q3.2 X6 (⟨x0, x1, l0, l1, l2, ys, l4, l5, l6, x2, x3, x4, x5⟩ : Tb) (⟨st, sg, sr, ⟨va, k, vc⟩, sa, si, ss⟩ : Ts)) := HT.out.below hb1;have hnew := qaz u3 #[.int .u32 (q1.1 : Int), .int .u32 (q2.1 : Int), .int .u32 (q3.1 : Int)] 77;obtain ⟨cs, oo, xx⟩ := H2.out.i.ownCt;have hyl : ys.length = k := HJ.out.1;have hszz : w.heap.size ≤ (u3.alloc (.cells #[.int .u32 (q1.1 : Int), .int .u32 (q2.1 : Int), .int .u32 (q3.1 : Int)] 77)).heap.size := H2.out.i.f.g.size;clear kY hb1;dsimp only [slT] at oo;rw [hyl] at oo;obtain ⟨x, hx⟩ : ∃ x : CtR, x = (⟨q1.1, q2.1, q3.1⟩ : CtR) := ⟨_, rfl⟩
        clear hx x;go_wp2_with (first | (at_builtin; refine wpList_append_own _ rfl (.tmp 110) (.tmp 112) 27 rfl w.heap.size 77 info0 _ 3 12 Tryz.underlying27 hi0 hz0 hz1 hz2 rfl (by decide) _ _ _ rfl oo ⟨u3.heap.size, 0, none⟩ 1 1 (#[.int .u32 (q1.1 : Int), .int .u32 (q2.1 : Int), .int .u32 (q3.1 : Int)] : Array Value).toList rfl rfl hnew (by intro y hy; simp only [List.mem_cons, List.not_mem_nil, or_false] at hy; rcases hy with rfl | rfl | rfl <;> rfl) (by unfold maxLen; omega) (by omega) hszz ?_; intro v' W2 hO2 hg2 _; obtain ⟨a', c', hv', hc2, hf2, HA⟩ := H2.out.i.appCt (⟨q1.1, q2.1, q3.1⟩ : CtR) cs (#[.int .u32 (q1.1 : Int), .int .u32 (q2.1 : Int), .int .u32 (q3.1 : Int)] : Array Value).toList (by dsimp only [slT]; rw [hyl]; exact oo) xx hg2 (by dsimp only; rw [hyl]; exact hO2) rfl (by
                    intro i hi;skip;match i, hi with
                    | 0, _ => exact ⟨_, rfl, rfl⟩
                    | 1, _ => exact ⟨_, rfl, rfl⟩
                    | 2, _ => exact ⟨_, rfl, rfl⟩); have HA := H2.out.app (qcb oo hg2) (by decide) HA; dsimp only [slT] at hc2 HA hv'; rw [hyl] at hv'; subst hv'; rw [hyl] at HA))
        have HD2 : Hid (dCt t = ((⟨q1.1, q2.1, q3.1⟩ : CtR), q3.2)) := by
          show _ = _;simp only [dCt, dB, dR, qb0, d2I, Hq1.out, Hq2.out, Hq3.out]
        have H9 : Hid ((ys ++ [(⟨q1.1, q2.1, q3.1⟩ : CtR)]).length = k + 1 ∧ dRep dCt n0 s = ((ys ++ [(⟨q1.1, q2.1, q3.1⟩ : CtR)]) ++ (dRep dCt (n0 - (k + 1)) q3.2).1, (dRep dCt (n0 - (k + 1)) q3.2).2) ∧ AX w (W2.setCell ⟨w.heap.size, 5, none⟩ (.slice a' (k + 1) c')) r q3.2 X6 (⟨x0, x1, l0, l1, l2, ys ++ [(⟨q1.1, q2.1, q3.1⟩ : CtR)], l4, l5, l6, x2, x3, x4, x5⟩ : Tb) (⟨st, sg, sr, ⟨a', k + 1, c'⟩, sa, si, ss⟩ : Ts)) := by
          refine ⟨by simp [hyl], ?_, HA⟩;have h1 := HJ.out.2.1;rw [HN.out, HD2.out] at h1;rw [h1];simp
        clear HJ HN HA hO2 hg2 oo xx hnew H2 HT;go_roundw
        case rel => exact ⟨k + 1, _, q3.2, a', c', by omega, by go_num, H9.out⟩
        case measure => simp [intOf]; omega
      · have heI : ¬ ((t.2 : Int) = 0) := by omega
        have HE : Hid (AX w wr r (dRep dCt n0 s).2 X6 (⟨x0, x1, l0, l1, l2, (dRep dCt n0 s).1, l4, l5, l6, x2, x3, x4, x5⟩ : Tb) (⟨st, sg, sr, ⟨va, k, vc⟩, sa, si, ss⟩ : Ts)) := by
          obtain ⟨f1, f2, f3⟩ := HJ.out;rw [f2, qcs he, List.append_nil];exact f3
        clear HJ;go_wp2;(try simp only [Exit.inBlock, Exit.then])
        exact HK.out _ _ _ ⟨rfl, rfl, rfl, rfl, rfl⟩ HE.out
    · obtain rfl : k = n0 := by omega
      have hge : ¬ ((k : Int) < k) := by omega
      have HE : Hid (AX w wr r (dRep dCt k s).2 X6 (⟨x0, x1, l0, l1, l2, (dRep dCt k s).1, l4, l5, l6, x2, x3, x4, x5⟩ : Tb) (⟨st, sg, sr, ⟨va, k, vc⟩, sa, si, ss⟩ : Ts)) := by
        obtain ⟨f1, f2, f3⟩ := HJ.out;rw [f2, Nat.sub_self];simp only [dRep, List.append_nil];exact f3
      clear HJ;go_wp2;(try simp only [Exit.inBlock, Exit.then])
      exact HK.out _ _ _ ⟨rfl, rfl, rfl, rfl, rfl⟩ HE.out
end Go.Proofs.YtijgopkhdjaolabGreat
