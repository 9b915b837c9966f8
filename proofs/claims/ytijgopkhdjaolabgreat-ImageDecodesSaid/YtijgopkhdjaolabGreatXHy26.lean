import Derived.Test.YtijgopkhdjaolabGreatXHy21
import Derived.Test.YtijgopkhdjaolabGreatXTdi
import Derived.Test.YtijgopkhdjaolabGreatHs4
import Derived.Deep.RegionHeldLaw
import Derived.Deep.DrawnRows
import Derived.Deep.Cut
import Derived.Test.YtijgopkhdjaolabGreatXI6
set_option linter.unusedSimpArgs false
set_option linter.unusedVariables false
set_option maxHeartbeats 16000000
set_option maxRecDepth 100000
namespace Go.Proofs.YtijgopkhdjaolabGreat
open Go.RowKit Go.Shelf Go.Sort
open Go.Proofs.YtijgopkhdjaolabGreat.Ob (leB leV qa8 qag crc Rd RdAll qa7 rd_drop)
def dSk : Nat→DS→DS
 | 0,s=>s
 | k+1,s=>(dTk 2 (dSk k s)).2
def dN (s:DS) (k:Nat):Nat:=(dTk 2 (dSk k s)).1
def dOk : Nat→DS→DS
 | 0,s=>s
 | k+1,s=>(qb0 (dOk k s)).2
def dO (s:DS) (k:Nat):Int:=(qb0 (dOk k s)).1
def dHd (s:DS):Tb:=tb0 (dO s 0) (dO s 1) (dO s 2) (dO s 3) (dO s 4) (dO s 5)
theorem qr4 (s:DS):dAll (dN s) (dHd (dSk 7 s)) (dOk 6 (dSk 7 s))=(dEnd (dMid s).2,(dMid s).1):=by
 simp only [dMid,dB,dR,dAll,dSk,dN,dHd,tb0,dOk,dO]
theorem qq1 (s:DS) (k:Nat):dN s k < 65536:=qbj 2 _ (by decide)
def ddec (l:List UInt8):Except Nat Tb:=
 if outE l≠0 then .error (outE l)
 else if (dAll (dN ((l.drop 8).take (l.length - 10),0)) (dHd (dSk 7 ((l.drop 8).take (l.length - 10),0))) (dOk 6 (dSk 7 ((l.drop 8).take (l.length - 10),0)))).1.2≠0 then .error (dAll (dN ((l.drop 8).take (l.length - 10),0)) (dHd (dSk 7 ((l.drop 8).take (l.length - 10),0))) (dOk 6 (dSk 7 ((l.drop 8).take (l.length - 10),0)))).1.2
 else if chkD (dAll (dN ((l.drop 8).take (l.length - 10),0)) (dHd (dSk 7 ((l.drop 8).take (l.length - 10),0))) (dOk 6 (dSk 7 ((l.drop 8).take (l.length - 10),0)))).2=true then .ok (dAll (dN ((l.drop 8).take (l.length - 10),0)) (dHd (dSk 7 ((l.drop 8).take (l.length - 10),0))) (dOk 6 (dSk 7 ((l.drop 8).take (l.length - 10),0)))).2 else .error 90
theorem qpc (l:List UInt8):ddec l=dec l:=by
 by_cases h:outE l=0
 case neg=>rw [ddec,if_pos h,qhu h]
 rw [ddec,if_neg (by simp [h]),(qjt h).2,qr4];generalize (l.drop 8).take (l.length - 10)=m;obtain ⟨s1,s2⟩:=qla m;cases hp:pMid m with
 | error c=>
  obtain ⟨e1,e2⟩:=s2 c hp;have e3:(dEnd (dMid (m,0)).2).2=c:=by
   unfold dEnd;split
   ·exact e1
   ·rw [qg2 _ _ (by rw [e1];exact e2),e1]
  simp only [e3];rw [if_pos e2]
 | ok x=>
  obtain ⟨tb,r⟩:=x;have e1:=s1 tb r hp;have hk:=(cod_pMid.bwd _ _ _ hp).1;have hs:chkP tb=chkD tb:=qon (fun x hx=>by
   have:=(hk.r6 x hx).2.2.2.1;exact this)
  rw [e1];by_cases hr:r=[]
  ·subst hr
   have e3:dEnd (([]:List UInt8),0)=([],0):=by unfold dEnd;rw [if_pos rfl]
   simp only [e3,hs];simp
  ·have e3:dEnd (r,0)=(r,101):=by unfold dEnd;rw [if_neg hr];rfl
   simp only [e3];simp [hr]
end Go.Proofs.YtijgopkhdjaolabGreat
namespace Go.Proofs.YtijgopkhdjaolabGreat
open Go.RowKit Go.Shelf Go.Sort
open Go.Proofs.YtijgopkhdjaolabGreat.Ob (leB leV qa8 qag crc Rd RdAll qa7 rd_drop)
set_option maxHeartbeats 40000000
theorem qbe {a W:World} {g:Nat} {cs:Array Value} (h:Below g a W):Below g a (W.setRow g cs):=
 ⟨h.os,h.tape,h.output,by have:=h.size;simpa [World.setRow] using this,fun i hi=>(setRow_other W g i cs (by omega)).trans (h.block i hi)⟩
theorem qdd {fn:Func} {m n:Nat} (hf:fn.results=#[.cell m 32,.tmp n]) (tmps:Array Value) (b:Nat) (w:World) (z0 z1 z2 z3 z4 z5 z6 z7 z8 z9 z10 z11 z12 x:Value) (h2:tmps[m]?=some (.pointer (some ⟨b,0,none⟩))) (h3:tmps[n]?=some x) (hk:w.heap[b]?=some (.cells #[z0,z1,z2,z3,z4,z5,z6,z7,z8,z9,z10,z11,z12] 32 (0,0))):(results fn tmps).run Tryz.prog w=.ok (.tuple #[.agg #[z0,z1,z2,z3,z4,z5,z6,z7,z8,z9,z10,z11,z12],x]) w:=by
 have a1:=fun i=>cell_of_row w b i _ _ (0,0) hk
 have y0:=a1 0;have y1:=a1 1;have y2:=a1 2;have y3:=a1 3;have y4:=a1 4;have y5:=a1 5;have y6:=a1 6;have y7:=a1 7;have y8:=a1 8;have y9:=a1 9;have y10:=a1 10;have y11:=a1 11;have y12:=a1 12;simp at y0 y1 y2 y3 y4 y5 y6 y7 y8 y9 y10 y11 y12;simp [results,hf,go_sem,h2,h3,y0,y1,y2,y3,y4,y5,y6,y7,y8,y9,y10,y11,y12]
theorem qpd (w:World) (a:Option Addr) (n c:Nat) (bs:List UInt8) (h:Rd w a n c bs) (hm:bs.take 4≠mrk):Calls Tryz.prog 6 #[.slice a n c] w fun e w'=>e=.returned (.tuple #[.agg zT,I 100])∧qB w w':=by
 have hb1:=qa0 w (.cells qV 32);have hv1:=heap_alloc_new w (.cells qV 32);have hi9:(Tryz.prog.info? 32).map (·.size)=some (qV:Array Value).size:=by kernel_rfl
 have hr1:=h.below hb1;have hl:=h.hlen;by_cases h4:n < 4
 ·have h4I:(n:Int) < 4:=by omega
  clear h hr1;go_enter Tryz.func6,Tryz.ntmps6
  go_upto_region 1 with fail;generalize w.alloc (.cells qV 32)=w1 at *;go_wp2_with (first | (refine wpList_store_row rfl 32 _ _ rfl w.heap.size _ rfl rfl 32 _ hv1 hi9 rfl (by simp [Value.oneCell']) ?_));refine bodyPost_ret (qdd Tryz.results6 _ w.heap.size _ _ _ _ _ _ _ _ _ _ _ _ _ _ _ rfl rfl (setRow_heap _ _ _ _ _ _ hv1)) rfl ?_;exact ⟨rfl,qbe hb1⟩
 have h4I:¬((n:Int) < 4):=by omega
 obtain ⟨b,off,rfl,hbb,hc⟩:=hr1.hcell (by omega);have hcap:=h.hle;have hsm:=h.hsmall;have hn1:(1:Int) < n:=by omega
 have hn2:(2:Int) < n:=by omega
 have hn3:(3:Int) < n:=by omega
 have hn0:(0:Int) < n:=by omega
 rcases bs with - | ⟨x0,- | ⟨x1,- | ⟨x2,- | ⟨x3,tl⟩⟩⟩⟩
 iterate 4 (simp at hl;omega)
 have k0:=hc 0 x0 rfl;have k1:=hc 1 x1 rfl;have k2:=hc 2 x2 rfl;have k3:=hc 3 x3 rfl;simp only [Nat.add_zero] at k0;have hm':¬(x0=84∧x1=80∧x2=84∧x3=49):=by
  rintro ⟨rfl,rfl,rfl,rfl⟩;exact hm rfl
 clear h hr1 hc hl hm;by_cases ex0:x0=84
 case neg=>
  have qx0:¬((x0.toNat:Int)=84):=fun q=>ex0 (UInt8.toNat_inj.1 (show x0.toNat=84 by omega))
  clear hm';go_enter Tryz.func6,Tryz.ntmps6
  go_upto_region 1 with fail;generalize w.alloc (.cells qV 32)=w1 at *;go_wp2_with (first | (refine wpList_store_row rfl 32 _ _ rfl w.heap.size _ rfl rfl 32 _ hv1 hi9 rfl (by simp [Value.oneCell']) ?_));refine bodyPost_ret (qdd Tryz.results6 _ w.heap.size _ _ _ _ _ _ _ _ _ _ _ _ _ _ _ rfl rfl (setRow_heap _ _ _ _ _ _ hv1)) rfl ?_;exact ⟨rfl,qbe hb1⟩
 subst ex0;simp only [show ((84:UInt8).toNat:Int)=84 from rfl] at k0;by_cases ex1:x1=80
 case neg=>
  have qx1:¬((x1.toNat:Int)=80):=fun q=>ex1 (UInt8.toNat_inj.1 (show x1.toNat=80 by omega))
  clear hm';go_enter Tryz.func6,Tryz.ntmps6
  go_upto_region 1 with fail;generalize w.alloc (.cells qV 32)=w1 at *;go_wp2_with (first | (refine wpList_store_row rfl 32 _ _ rfl w.heap.size _ rfl rfl 32 _ hv1 hi9 rfl (by simp [Value.oneCell']) ?_));refine bodyPost_ret (qdd Tryz.results6 _ w.heap.size _ _ _ _ _ _ _ _ _ _ _ _ _ _ _ rfl rfl (setRow_heap _ _ _ _ _ _ hv1)) rfl ?_;exact ⟨rfl,qbe hb1⟩
 subst ex1;simp only [show ((80:UInt8).toNat:Int)=80 from rfl] at k1;by_cases ex2:x2=84
 case neg=>
  have qx2:¬((x2.toNat:Int)=84):=fun q=>ex2 (UInt8.toNat_inj.1 (show x2.toNat=84 by omega))
  clear hm';go_enter Tryz.func6,Tryz.ntmps6
  go_upto_region 1 with fail;generalize w.alloc (.cells qV 32)=w1 at *;go_wp2_with (first | (refine wpList_store_row rfl 32 _ _ rfl w.heap.size _ rfl rfl 32 _ hv1 hi9 rfl (by simp [Value.oneCell']) ?_));refine bodyPost_ret (qdd Tryz.results6 _ w.heap.size _ _ _ _ _ _ _ _ _ _ _ _ _ _ _ rfl rfl (setRow_heap _ _ _ _ _ _ hv1)) rfl ?_;exact ⟨rfl,qbe hb1⟩
 subst ex2;simp only [show ((84:UInt8).toNat:Int)=84 from rfl] at k2;by_cases ex3:x3=49
 case neg=>
  have qx3:¬((x3.toNat:Int)=49):=fun q=>ex3 (UInt8.toNat_inj.1 (show x3.toNat=49 by omega))
  clear hm';go_enter Tryz.func6,Tryz.ntmps6
  go_upto_region 1 with fail;generalize w.alloc (.cells qV 32)=w1 at *;go_wp2_with (first | (refine wpList_store_row rfl 32 _ _ rfl w.heap.size _ rfl rfl 32 _ hv1 hi9 rfl (by simp [Value.oneCell']) ?_));refine bodyPost_ret (qdd Tryz.results6 _ w.heap.size _ _ _ _ _ _ _ _ _ _ _ _ _ _ _ rfl rfl (setRow_heap _ _ _ _ _ _ hv1)) rfl ?_;exact ⟨rfl,qbe hb1⟩
 subst ex3;simp only [show ((49:UInt8).toNat:Int)=49 from rfl] at k3;exact absurd ⟨rfl,rfl,rfl,rfl⟩ hm'
end Go.Proofs.YtijgopkhdjaolabGreat
namespace Go.Proofs.YtijgopkhdjaolabGreat
open Go.RowKit Go.Shelf Go.Sort
open Go.Proofs.YtijgopkhdjaolabGreat.Ob (leB leV qa8 qag crc Rd RdAll qa7)
set_option maxHeartbeats 40000000
theorem qpe (w:World) (a:Option Addr) (n c:Nat) (bs:List UInt8) (h:Rd w a n c bs) (hm:bs.take 4=mrk) (hx:bs.length < 30∨leV ((bs.drop 4).take 4)≠bs.length):Calls Tryz.prog 6 #[.slice a n c] w fun e w'=>e=.returned (.tuple #[.agg zT,I 101])∧qB w w':=by
 have hb1:=qa0 w (.cells qV 32);have hv1:=heap_alloc_new w (.cells qV 32);have hi9:(Tryz.prog.info? 32).map (·.size)=some (qV:Array Value).size:=by kernel_rfl
 have hr1:=h.below hb1;have hl:=h.hlen;have hn4:4≤n:=by
  have:=congrArg List.length hm;rw [List.length_take] at this;have h4:mrk.length=4:=rfl;omega
 have h4I:¬((n:Int) < 4):=by omega
 obtain ⟨b,off,rfl,hbb,hc⟩:=hr1.hcell (by omega);have hcap:=h.hle;have hsm:=h.hsmall;have hn1:(1:Int) < n:=by omega
 have hn2:(2:Int) < n:=by omega
 have hn3:(3:Int) < n:=by omega
 have hn0:(0:Int) < n:=by omega
 have gb:∀i v,mrk[i]?=some v→bs[i]?=some v:=fun i v q=>by
  have hi:i < 4:=(List.getElem?_eq_some_iff.1 q).1;rw [←hm,List.getElem?_take_of_lt hi] at q;exact q
 have k0:=hc 0 84 (gb 0 84 rfl);have k1:=hc 1 80 (gb 1 80 rfl);have k2:=hc 2 84 (gb 2 84 rfl);have k3:=hc 3 49 (gb 3 49 rfl);simp only [Nat.add_zero,show ((84:UInt8).toNat:Int)=84 from rfl] at k0;simp only [show ((80:UInt8).toNat:Int)=80 from rfl] at k1;simp only [show ((84:UInt8).toNat:Int)=84 from rfl] at k2;simp only [show ((49:UInt8).toNat:Int)=49 from rfl] at k3;clear gb hc hm;rw [hl] at hx;by_cases h30:n < 30
 ·have h30I:(n:Int) < 30:=by omega
  clear h hr1 hx hbb hl;go_enter Tryz.func6,Tryz.ntmps6
  go_upto_region 1 with fail;generalize w.alloc (.cells qV 32)=w1 at *;go_wp2_with (first | (refine wpList_store_row rfl 32 _ _ rfl w.heap.size _ rfl rfl 32 _ hv1 hi9 rfl (by simp [Value.oneCell']) ?_));refine bodyPost_ret (qdd Tryz.results6 _ w.heap.size _ _ _ _ _ _ _ _ _ _ _ _ _ _ _ rfl rfl (setRow_heap _ _ _ _ _ _ hv1)) rfl ?_;exact ⟨rfl,qbe hb1⟩
 have hx:leV ((bs.drop 4).take 4)≠n:=hx.resolve_left h30;have h30I:¬((n:Int) < 30):=by omega
 have hd4:=(Ob.rd_drop hr1 4 (by omega)).2 (by omega);obtain ⟨b',off',hbo,ht4⟩:=qfi hd4 (m:=4) (by omega) (by omega);cases hbo;have hV:=qdr _ _ _ _ _ ht4 (by omega);have hne:¬((leV ((bs.drop 4).take 4):Int)=n):=fun q=>hx (by omega)
 have h8n:(8:Int)≤n:=by omega
 have h8c:(8:Int)≤c:=by omega
 have hnc:(n:Int)≤c:=by omega
 have hu:IntKind.u64.wrap (n:Int)=n:=by rw [IntKind.wrap_u64] <;> omega
 have h48:¬(c=4):=by omega
 generalize leV ((bs.drop 4).take 4)=V at *;clear h hr1 hx hbb hl hd4 ht4;go_enter Tryz.func6,Tryz.ntmps6
 go_upto_region 1 with fail;generalize w.alloc (.cells qV 32)=w1 at *;go_wp2_with (first | (go_at_call 18;refine hV.mono ?_;clear hV;rintro e w' ⟨rfl,rfl⟩) | (refine wpList_store_row rfl 32 _ _ rfl w.heap.size _ rfl rfl 32 _ hv1 hi9 rfl (by simp [Value.oneCell']) ?_));refine bodyPost_ret (qdd Tryz.results6 _ w.heap.size _ _ _ _ _ _ _ _ _ _ _ _ _ _ _ rfl rfl (setRow_heap _ _ _ _ _ _ hv1)) rfl ?_;exact ⟨rfl,qbe hb1⟩
theorem qpf (w:World) (a:Option Addr) (n c:Nat) (bs:List UInt8) (h:Rd w a n c bs) (hm:bs.take 4=mrk) (h30:30≤n) (hx:leV ((bs.drop 4).take 4)=n) (hz:leV (bs.drop (n - 2))≠crc 65535 (bs.take (n - 2))):Calls Tryz.prog 6 #[.slice a n c] w fun e w'=>e=.returned (.tuple #[.agg zT,I 102])∧qB w w':=by
 have hb1:=qa0 w (.cells qV 32);have hv1:=heap_alloc_new w (.cells qV 32);have hi9:(Tryz.prog.info? 32).map (·.size)=some (qV:Array Value).size:=by kernel_rfl
 have hr1:=h.below hb1;have hl:=h.hlen;have hn4:4≤n:=by
  have:=congrArg List.length hm;rw [List.length_take] at this;have h4:mrk.length=4:=rfl;omega
 have h4I:¬((n:Int) < 4):=by omega
 obtain ⟨b,off,rfl,hbb,hc⟩:=hr1.hcell (by omega);have hcap:=h.hle;have hsm:=h.hsmall;have hn1:(1:Int) < n:=by omega
 have hn2:(2:Int) < n:=by omega
 have hn3:(3:Int) < n:=by omega
 have hn0:(0:Int) < n:=by omega
 have gb:∀i v,mrk[i]?=some v→bs[i]?=some v:=fun i v q=>by
  have hi:i < 4:=(List.getElem?_eq_some_iff.1 q).1;rw [←hm,List.getElem?_take_of_lt hi] at q;exact q
 have k0:=hc 0 84 (gb 0 84 rfl);have k1:=hc 1 80 (gb 1 80 rfl);have k2:=hc 2 84 (gb 2 84 rfl);have k3:=hc 3 49 (gb 3 49 rfl);simp only [Nat.add_zero,show ((84:UInt8).toNat:Int)=84 from rfl] at k0;simp only [show ((80:UInt8).toNat:Int)=80 from rfl] at k1;simp only [show ((84:UInt8).toNat:Int)=84 from rfl] at k2;simp only [show ((49:UInt8).toNat:Int)=49 from rfl] at k3;clear gb hc hm;have h30I:¬((n:Int) < 30):=by omega
 have hd4:=(Ob.rd_drop hr1 4 (by omega)).2 (by omega);obtain ⟨b',off',hbo,ht4⟩:=qfi hd4 (m:=4) (by omega) (by omega);cases hbo;have hV:=qdr _ _ _ _ _ ht4 (by omega);rw [hx] at hV;have h8n:(8:Int)≤n:=by omega
 have h8c:(8:Int)≤c:=by omega
 have hnc:(n:Int)≤c:=by omega
 have hu:IntKind.u64.wrap (n:Int)=n:=by rw [IntKind.wrap_u64] <;> omega
 have h48:¬(c=4):=by omega
 obtain ⟨e,he⟩:∃e,e+2=n:=⟨n - 2,by omega⟩
 have hd2:=(Ob.rd_drop hr1 e (by omega)).2 (by omega);obtain ⟨b',off',hbo,ht2⟩:=qfi hr1 (m:=e) (by omega) (by omega);cases hbo;have hV2:=qdr _ _ _ _ _ (hd2.below (Below.refl _ _).drew) (by omega);have hC2:=Ob.refcrc_any _ _ _ _ _ _ (ht2.below (Below.refl _ _).drew) rfl;have hlc:=Ob.crc_lt 65535 (bs.take e) (by decide);have hu2:IntKind.u64.wrap (crc 65535 (bs.take e):Int)=crc 65535 (bs.take e):=by rw [IntKind.wrap_u64] <;> omega
 clear hlc;have hE:(n:Int) - 2=(e:Int):=by omega
 have hen:(e:Int)≤n:=by omega
 have hec:(e:Int)≤c:=by omega
 have hce:¬(c=e):=by omega
 have henN:e≤n:=by omega
 have hecN:e≤c:=by omega
 rw [show n - 2=e by omega] at hz;have hne:¬((leV (bs.drop e):Int)=crc 65535 (bs.take e)):=fun q=>hz (by omega)
 generalize leV (bs.drop e)=V at *;generalize crc 65535 (bs.take e)=C at *;clear h hr1 hx hbb hl hd4 ht4 hz hd2 ht2;go_enter Tryz.func6,Tryz.ntmps6
 go_upto_region 1 with fail;generalize w.alloc (.cells qV 32)=w1 at *;go_upto_region 6 with (first | (go_at_call 18;refine hV.mono ?_;clear hV;rintro e w' ⟨rfl,rfl⟩));have hb1d:=hb1.drew;have hv1d:w1.drew.heap[w.heap.size]?=_:=hv1;clear hb1 hv1 k0 k1 k2 k3;go_region_held_law (fun _=>True) (first | exact trivial | (go_keep;done)) (first
  | (go_at_call 18;refine hV2.mono ?_;clear hV2;rintro e w' ⟨rfl,rfl⟩)
  | (go_at_call 19;refine hC2.mono ?_;clear hC2;rintro e w' ⟨rfl,rfl⟩))
 generalize w1.drew=w2 at *;go_wp2_with (first | (refine wpList_store_row rfl 32 _ _ rfl w.heap.size _ rfl rfl 32 _ hv1d hi9 rfl (by simp [Value.oneCell']) ?_));refine bodyPost_ret (qdd Tryz.results6 _ w.heap.size _ _ _ _ _ _ _ _ _ _ _ _ _ _ _ rfl rfl (setRow_heap _ _ _ _ _ _ hv1d)) rfl ?_;exact ⟨rfl,qbe hb1d⟩
structure DPre (w W:World) (r gn cn:Nat) (s:DS):Prop where
 b:qB w W
 x:W.heap[w.heap.size]?=some (.cells qV 32)
 d:dSt W r (dSk 7 s)
 ne:w.heap.size≠r
 lo:w.heap.size≤r
 cn:7≤cn
 n:Hid (qdc W r gn (dN s))
theorem qr5 (w:World) (a:Option Addr) (n c:Nat) (bs:List UInt8) (h:Rd w a n c bs) (hm:bs.take 4=mrk) (h30:30≤n) (hx:leV ((bs.drop 4).take 4)=n) (hz:leV (bs.drop (n - 2))=crc 65535 (bs.take (n - 2))) (P:Ending→World→Prop)
  (hT:∀(T:Array Value) (W:World) (r gn cn:Nat),DPre w W r gn cn ((bs.drop 8).take (n - 10),0)→T.size=111→T.getD 2 undef=.pointer (some ⟨w.heap.size,0,none⟩)→T.getD 5 undef=.pointer (some ⟨r,0,none⟩)→T.getD 6 undef=.slice (some ⟨gn,0,none⟩) 7 cn→(drp 8 (Tryz.f6.body.getD .skip)).wp Tryz.prog (bodyPost Tryz.prog Tryz.f6 P) ⟨T,[]⟩ W):Calls Tryz.prog 6 #[.slice a n c] w P:=by
 obtain ⟨im,him,hm0,hm1,hm2⟩:=info_parts qhn;have hb1:=qa0 w (.cells qV 32);have hv1:=heap_alloc_new w (.cells qV 32);have hi9:(Tryz.prog.info? 32).map (·.size)=some (qV:Array Value).size:=by kernel_rfl
 have hr1:=h.below hb1;have hl:=h.hlen;have hn4:4≤n:=by
  have:=congrArg List.length hm;rw [List.length_take] at this;have h4:mrk.length=4:=rfl;omega
 have h4I:¬((n:Int) < 4):=by omega
 obtain ⟨b,off,rfl,hbb,hc⟩:=hr1.hcell (by omega);have hcap:=h.hle;have hsm:=h.hsmall;have hn1:(1:Int) < n:=by omega
 have hn2:(2:Int) < n:=by omega
 have hn3:(3:Int) < n:=by omega
 have hn0:(0:Int) < n:=by omega
 have gb:∀i v,mrk[i]?=some v→bs[i]?=some v:=fun i v q=>by
  have hi:i < 4:=(List.getElem?_eq_some_iff.1 q).1;rw [←hm,List.getElem?_take_of_lt hi] at q;exact q
 have k0:=hc 0 84 (gb 0 84 rfl);have k1:=hc 1 80 (gb 1 80 rfl);have k2:=hc 2 84 (gb 2 84 rfl);have k3:=hc 3 49 (gb 3 49 rfl);simp only [Nat.add_zero,show ((84:UInt8).toNat:Int)=84 from rfl] at k0;simp only [show ((80:UInt8).toNat:Int)=80 from rfl] at k1;simp only [show ((84:UInt8).toNat:Int)=84 from rfl] at k2;simp only [show ((49:UInt8).toNat:Int)=49 from rfl] at k3;clear gb hc hm;have h30I:¬((n:Int) < 30):=by omega
 have hd4:=(Ob.rd_drop hr1 4 (by omega)).2 (by omega);obtain ⟨b',off',hbo,ht4⟩:=qfi hd4 (m:=4) (by omega) (by omega);cases hbo;have hV:=qdr _ _ _ _ _ ht4 (by omega);rw [hx] at hV;have h8n:(8:Int)≤n:=by omega
 have h8c:(8:Int)≤c:=by omega
 have hnc:(n:Int)≤c:=by omega
 have hu:IntKind.u64.wrap (n:Int)=n:=by rw [IntKind.wrap_u64] <;> omega
 have h48:¬(c=4):=by omega
 obtain ⟨e,he⟩:∃e,e+2=n:=⟨n - 2,by omega⟩
 have hd2:=(Ob.rd_drop hr1 e (by omega)).2 (by omega);obtain ⟨b',off',hbo,ht2⟩:=qfi hr1 (m:=e) (by omega) (by omega);cases hbo;have hV2:=qdr _ _ _ _ _ (hd2.below (Below.refl _ _).drew) (by omega);have hC2:=Ob.refcrc_any _ _ _ _ _ _ (ht2.below (Below.refl _ _).drew) rfl;have hlc:=Ob.crc_lt 65535 (bs.take e) (by decide);have hu2:IntKind.u64.wrap (crc 65535 (bs.take e):Int)=crc 65535 (bs.take e):=by rw [IntKind.wrap_u64] <;> omega
 clear hlc;have hE:(n:Int) - 2=(e:Int):=by omega
 have hen:(e:Int)≤n:=by omega
 have hec:(e:Int)≤c:=by omega
 have hce:¬(c=e):=by omega
 have henN:e≤n:=by omega
 have hecN:e≤c:=by omega
 rw [show n - 2=e by omega] at hz;rw [hz] at hV2;rw [show n - 10=e - 8 by omega] at hT;have h8e:(8:Int)≤e:=by omega
 have h8eN:8≤e:=by omega
 have h8c':¬(c=8):=by omega
 have hd8:=(Ob.rd_drop hr1 8 (by omega)).2 (by omega);obtain ⟨b',off',hbo,ht8⟩:=qfi hd8 (m:=e - 8) (by omega) (by omega);cases hbo;have hm8:=ht8.below (Below.refl _ _).drew;generalize crc 65535 (bs.take e)=C at *;generalize (bs.drop 8).take (e - 8)=m at *;have HT:Hid _:=hT;clear h hr1 hx hl hd4 ht4 hz hd2 ht2 hd8 ht8 hT;go_enter Tryz.func6,Tryz.ntmps6
 go_upto_region 1 with fail;generalize w.alloc (.cells qV 32)=w1 at *;go_upto_region 6 with (first | (go_at_call 18;refine hV.mono ?_;clear hV;rintro e w' ⟨rfl,rfl⟩));have hb1d:=hb1.drew;have hv1d:w1.drew.heap[w.heap.size]?=_:=hv1;have hbbd:b < w1.drew.heap.size:=hbb;clear hb1 hv1 k0 k1 k2 k3 hbb;go_region_held_law (fun _=>True) (first | exact trivial | (go_keep;done)) (first
  | (go_at_call 18;refine hV2.mono ?_;clear hV2;rintro e w' ⟨rfl,rfl⟩)
  | (go_at_call 19;refine hC2.mono ?_;clear hC2;rintro e w' ⟨rfl,rfl⟩))
 generalize w1.drew=w2 at *;have hb3:=qa0 w2 (.cells #[.slice (some ⟨b,off+8,none⟩) (e - 8) (c - 8),I 0] 61);have hv3:=heap_alloc_new w2 (.cells #[.slice (some ⟨b,off+8,none⟩) (e - 8) (c - 8),I 0] 61);have hX3:=(hb3.block _ (qa6 hv1d)).trans hv1d;have hD3:dSt (w2.alloc (.cells #[.slice (some ⟨b,off+8,none⟩) (e - 8) (c - 8),I 0] 61)) w2.heap.size (m,0):=⟨by show 0 < 1000;omega,_,_,_,hv3,hm8.below hb3,fun b' off' q=>by cases q;exact hbbd⟩;have hlt3:=hD3.lt;have hXr:w.heap.size < w2.heap.size:=qa6 hv1d;have hBB:qB w (w2.alloc (.cells #[.slice (some ⟨b,off+8,none⟩) (e - 8) (c - 8),I 0] 61)):=belT hb1d hb3;clear hm8 hv3 hb1d hv1d hb3 hbbd;go_upto_region 9 with fail;generalize w2.alloc (.cells #[.slice (some ⟨b,off+8,none⟩) (e - 8) (c - 8),I 0] 61)=w3 at *;generalize w2.heap.size=r at *;have H3:Hid (qB w w3∧w3.heap[w.heap.size]?=some (.cells qV 32)∧dSt w3 r (m,0)):=⟨hBB,hX3,hD3⟩;clear hBB hX3 hD3;rename_i K hK
 have HK:Hid _:=hK;clear hK;go_wp2;(try simp only [Exit.inBlock,Exit.then])
 refine HK.out _ _ ?_;clear HK K;refine wp_seq_k (fun K hK=>?_);have HK:Hid _:=hK;clear hK;go_wp2;go_loopw [6,7] (fun v6 v7 wr=>∃(k:Nat) (va:Option Addr) (vc:Nat),k≤7∧v7=I k∧v6=.slice va k vc∧Hid (dSt wr r (dSk k (m,0))∧w3.grownBy wr (some r)∧wr.ownsRow w3.heap.size 3 1 (.slice va k vc) k (((List.range k).map fun j=>((dN (m,0) j:Nat):Int)).map fun x=>I x))) (fun _ v7 _=>7 - (intOf v7).toNat)
 case atStart=>exact ⟨0,none,0,by omega,rfl,rfl,H3.out.2.2,⟨rfl,rfl,rfl,Nat.le_refl _,fun _ _ _=>rfl⟩,World.ownsRow_nil _ _ _ _⟩
 case round=>
  obtain ⟨k,va,vc,hk,rfl,rfl,HJ⟩:=hrel;by_cases hlt:k < 7
  ·have hltI:(k:Int) < 7:=by omega
   obtain ⟨x,hx⟩:∃x,x=dN (m,0) k:=⟨_,rfl⟩
   obtain ⟨t2,ht2⟩:∃t,t=dSk (k+1) (m,0):=⟨_,rfl⟩
   have hT:Calls Tryz.prog 20 #[.pointer (some ⟨r,0,none⟩),I 2] wr (DC wr r (.int .u64 (x:Int)) t2):=by
    rw [hx,ht2];exact qee wr r 2 _ HJ.out.1 (by omega) (by omega)
   have hx6:x < 65536:=by rw [hx];exact qq1 _ _
   have hcv:IntKind.i64.wrap (x:Int)=x:=by rw [IntKind.wrap_i64] <;> omega
   have HX:Hid (x=dN (m,0) k∧t2=dSk (k+1) (m,0)):=⟨hx,ht2⟩;clear hx ht2 hx6;go_upto_region 12 with (first
    | (go_at_call 20;refine hT.mono ?_;clear hT;rintro e w5 ⟨rfl,hd⟩;have HD:Hid (dSt w5 r t2∧wr.grownBy w5 (some r)):=hd;clear hd;have o5:=qaw HJ.out.2.2 hlt3 HD.out.2;have hO:=o5.alloc (.cells #[I x] 3);have hw5:w3.heap.size≤w5.heap.size:=Nat.le_trans HJ.out.2.1.size HD.out.2.size;have hsz:w3.heap.size≤(w5.alloc (.cells #[I x] 3)).heap.size:=Nat.le_trans hw5 (qa0 w5 _).size;have hnew:=qaz w5 #[I x] 3)
    | (at_builtin;refine wpList_append_own _ rfl (.tmp 73) (.tmp 77) 62 rfl w3.heap.size 3 im (I 0) 1 8 Tryz.underlying62 him hm0 hm1 hm2 rfl (by decide) _ _ _ rfl hO ⟨w5.heap.size,0,none⟩ 1 1 (#[I x]:Array Value).toList rfl rfl hnew (by intro u hu;simp at hu;subst hu;rfl) (by unfold maxLen;omega) (by omega) hsz ?_;intro v6 w6 ho6 hg6 _;obtain ⟨a6,c6,rfl⟩:=qam ho6))
   have hA:=dapp hO hg6 (qa1 HJ.out.2.1 HD.out.2) HD.out.1 hlt3;have H9:Hid (dSt w6 r (dSk (k+1) (m,0))∧w3.grownBy w6 (some r)∧w6.ownsRow w3.heap.size 3 1 (.slice a6 (k+1) c6) (k+1) (((List.range (k+1)).map fun j=>((dN (m,0) j:Nat):Int)).map fun x=>I x)):=by
    refine ⟨by rw [←HX.out.2];exact hA.2,hA.1,?_⟩;rw [List.range_succ,List.map_append,List.map_append];simp only [List.map_cons,List.map_nil,←HX.out.1];exact ho6
   clear hA HD hO hg6 ho6 HJ HX o5 hnew;go_wp2;go_roundw
   case rel=>exact ⟨k+1,a6,c6,by omega,by go_num,rfl,H9.out⟩
   case measure=>simp [intOf];omega
  ·obtain rfl:k=7:=by omega
   have hge:¬(((7:Nat):Int) < 7):=by omega
   go_wp2;(try simp only [Exit.inBlock,Exit.then])
   refine HK.out _ _ ?_;clear HK;obtain ⟨q1,q2,q3⟩:=HJ.out;obtain ⟨-,(⟨-,z⟩ | ⟨gn,cp,cur,e1,hgn,hcur,hcp,hcm,hcz,htk⟩)⟩:=id q3
   ·omega
   cases e1;refine HT.out _ wr r gn vc ?_ rfl rfl rfl rfl;obtain ⟨f1,f2,f3⟩:=H3.out;have hne:w.heap.size≠r:=by omega
   refine ⟨f1.grown q2 (by have:=f1.size;omega) (fun k e=>by cases e;omega),(q2.block _ (qa6 f2) (by intro e;cases e;omega)).trans f2,q1,hne,by omega,hcp,fun W hW j hj=>?_⟩;have q4:=qaw q3 hlt3 hW;rw [q4.cellAt j (by simp;omega)];simp;exact ⟨j,by rw [List.getElem?_range hj],rfl⟩
end Go.Proofs.YtijgopkhdjaolabGreat
