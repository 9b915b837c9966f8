import Derived.Test.YtijgopkhdjaolabGreatXHrrTk
import Derived.Test.YtijgopkhdjaolabGreatXHx
import Derived.Deep.RegionHeldLaw
set_option linter.unusedSimpArgs false
set_option linter.unusedVariables false
set_option maxHeartbeats 16000000
set_option maxRecDepth 100000
namespace Go.Proofs.YtijgopkhdjaolabGreat
open Go.RowKit Go.Shelf Go.Sort
open Go.Proofs.YtijgopkhdjaolabGreat.Ob (leB leV qa8 qag crc Rd RdAll qa7 Rdr)
theorem qn6 {fn:Func} {m:Nat} (hf:fn.results=#[.cell m 71]) (tmps:Array Value) (b:Nat) (w:World) (z0 z1 z2 z3 z4 z5 z6 z7:Value) (h2:tmps[m]?=some (.pointer (some ⟨b,0,none⟩))) (hk:w.heap[b]?=some (.cells #[z0,z1,z2,z3,z4,z5,z6,z7] 71 (0,0))):(results fn tmps).run Tryz.prog w=.ok (.agg #[z0,z1,z2,z3,z4,z5,z6,z7]) w:=by
 have a1:=fun i=>cell_of_row w b i _ _ (0,0) hk
 have y0:=a1 0;have y1:=a1 1;have y2:=a1 2;have y3:=a1 3;have y4:=a1 4;have y5:=a1 5;have y6:=a1 6;have y7:=a1 7;simp at y0 y1 y2 y3 y4 y5 y6 y7;simp [results,hf,go_sem,h2,y0,y1,y2,y3,y4,y5,y6,y7]
theorem qsr {w:World} {lo r:Nat} {l0:List UInt8} (t0:Rst w lo r l0) (j:Nat):Calls Tryz.prog 38 #[rdP r,I j] w fun e w'=>RP w lo r (VTk lo) (pTk l0) e w':=by
 have hlo:=t0.le;have hrl:=t0.lt;have hc0:=qcq w r;have hb1:=qa0 (w.alloc (rdO r)) (.cells #[I 0,I 0,.bool false,I 0,.int .u32 0,I 0,qZ,.int .u32 0] 71);have hY0:=heap_alloc_new (w.alloc (rdO r)) (.cells #[I 0,I 0,.bool false,I 0,.int .u32 0,I 0,qZ,.int .u32 0] 71);have HX:Hid (∀W,((w.alloc (rdO r)).alloc (.cells #[I 0,I 0,.bool false,I 0,.int .u32 0,I 0,qZ,.int .u32 0] 71)).grownBy W (some r)→W.cell? ⟨w.heap.size,0,none⟩=some (.pointer (some ⟨r,0,none⟩))):=fun W hW=>hW.cell (by rw [qa5 hb1 _ _ (by simp)];exact hc0) (by show some w.heap.size≠some r;intro e;cases e;omega)
 have HY:Hid (∀W,((w.alloc (rdO r)).alloc (.cells #[I 0,I 0,.bool false,I 0,.int .u32 0,I 0,qZ,.int .u32 0] 71)).grownBy W (some r)→W.heap[w.heap.size+1]?=some (.cells #[I 0,I 0,.bool false,I 0,.int .u32 0,I 0,qZ,.int .u32 0] 71)):=fun W hW=>qb8 hW (by have:=hY0;rwa [show (w.alloc (rdO r)).heap.size=w.heap.size+1 by simp] at this) (by omega)
 have s0:=(t0.al (rdO r)).al (.cells #[I 0,I 0,.bool false,I 0,.int .u32 0,I 0,qZ,.int .u32 0] 71);have HB:Hid (w.grownBy ((w.alloc (rdO r)).alloc (.cells #[I 0,I 0,.bool false,I 0,.int .u32 0,I 0,qZ,.int .u32 0] 71)) (some r)):=qah ((qa0 w _).trans (hb1.mono (qa0 w _).size));have hs1:w.heap.size+2≤((w.alloc (rdO r)).alloc (.cells #[I 0,I 0,.bool false,I 0,.int .u32 0,I 0,qZ,.int .u32 0] 71)).heap.size:=by simp
 have E0:Hid (pTk l0=pTk l0):=rfl;clear hc0 hb1 hY0 t0;go_enter Tryz.func38,Tryz.ntmps38
 go_upto_region 1 with fail;generalize (w.alloc (rdO r)).alloc (.cells #[I 0,I 0,.bool false,I 0,.int .u32 0,I 0,.slice none 0 0,.int .u32 0] 71)=w1 at *;have G0:=qah (r:=some r) (Below.refl w1.heap.size w1).drew;have HC:=HX.out w1.drew G0;refine wp_region_held_drew (S:=fun W=>W.cell? ⟨w.heap.size,0,none⟩=some (.pointer (some ⟨r,0,none⟩))) (by kernel_rfl) HC (fun hHeld=>?_);clear HC;change wpAnyH _ _ _ _ _ _ #[false,false,false,false,false,false,false] _ _;try simp only [qN]
 refine qTH 0 (rdP r) rfl hHeld ?_;try simp only [qN]
 refine qTH 2 (rdP r) rfl hHeld ?_;try simp only [qN]
 clear hHeld;have t0:=s0.below (Below.refl w1.heap.size w1).drew;clear s0;refine qfl (fun G HG=>?_);dsimp only;obtain ⟨T1,hT1⟩:∃T:Value→Value→Value→Value→Array Value,T=fun y5 y8 y10 y11=>#[rdP r,I j,.pointer (some ⟨w.heap.size,0,none⟩),undef,.pointer (some ⟨w.heap.size+1,0,none⟩),y5,undef,rdP r,y8,rdP r,y10,y11,undef,undef,undef,undef,undef,undef,undef,undef,undef,undef,undef,undef,undef,undef,undef,undef,undef,undef,undef,undef,undef,undef]:=⟨_,rfl⟩
 have K2T:Hid (∀(W:World) (pr:Int) (rg:Int) (l2:List UInt8) (Z:Nat),(Rst W lo r l2)→(w1.grownBy W (some r))→(pTk l0=(andP (pn 1) fun f=>andP p1 fun li=>andP (pn 4) fun m=>andP pM fun ii=>andP pL fun o=>andP (pn 1) fun a=>qc2 f fun b=>(⟨pr,rg,b,li,m,ii,o,a⟩:TkR)) l2)→(W.heap[Z]?=some (.cells #[I 0,I 0,.bool false,I 0,.int .u32 0,I 0,qZ,.int .u32 0] 71))→(w1.heap.size≤Z)→G 1 #[true,true,true,true,true,true,false] (T1 (.pointer (some ⟨Z,0,none⟩)) (I pr) (I rg) (.agg #[I pr,I rg,.bool false,I 0,.int .u32 0,I 0,qZ,.int .u32 0])) W):=fun W pr rg l2 Z tt gg ee hZ hZ1=>by
  clear E0;subst hT1;rw [HG.out];dsimp only;have cZ0:(W).cell? ⟨Z,0,none⟩=some (I 0):=by rw [qcr hZ];rfl
  have fZ0:(W).frozen? ⟨Z,0,none⟩=false:=frozen_of_row _ _ _ _ _ hZ;have kZ0:=heap_setCell_same (W) (Z) 0 _ _ (I pr) hZ;have cZ1:((W).setCell ⟨Z,0,none⟩ (I pr)).cell? ⟨Z,1,none⟩=some (I 0):=by rw [qcr kZ0];rfl
  have fZ1:((W).setCell ⟨Z,0,none⟩ (I pr)).frozen? ⟨Z,1,none⟩=false:=frozen_of_row _ _ _ _ _ kZ0;have kZ1:=heap_setCell_same ((W).setCell ⟨Z,0,none⟩ (I pr)) (Z) 1 _ _ (I rg) kZ0;have cZ2:(((W).setCell ⟨Z,0,none⟩ (I pr)).setCell ⟨Z,1,none⟩ (I rg)).cell? ⟨Z,2,none⟩=some (.bool false):=by rw [qcr kZ1];rfl
  have fZ2:(((W).setCell ⟨Z,0,none⟩ (I pr)).setCell ⟨Z,1,none⟩ (I rg)).frozen? ⟨Z,2,none⟩=false:=frozen_of_row _ _ _ _ _ kZ1;have kZ2:=heap_setCell_same (((W).setCell ⟨Z,0,none⟩ (I pr)).setCell ⟨Z,1,none⟩ (I rg)) (Z) 2 _ _ (.bool false) kZ1;have cZ3:((((W).setCell ⟨Z,0,none⟩ (I pr)).setCell ⟨Z,1,none⟩ (I rg)).setCell ⟨Z,2,none⟩ (.bool false)).cell? ⟨Z,3,none⟩=some (I 0):=by rw [qcr kZ2];rfl
  have fZ3:((((W).setCell ⟨Z,0,none⟩ (I pr)).setCell ⟨Z,1,none⟩ (I rg)).setCell ⟨Z,2,none⟩ (.bool false)).frozen? ⟨Z,3,none⟩=false:=frozen_of_row _ _ _ _ _ kZ2;have kZ3:=heap_setCell_same ((((W).setCell ⟨Z,0,none⟩ (I pr)).setCell ⟨Z,1,none⟩ (I rg)).setCell ⟨Z,2,none⟩ (.bool false)) (Z) 3 _ _ (I 0) kZ2;have cZ4:(((((W).setCell ⟨Z,0,none⟩ (I pr)).setCell ⟨Z,1,none⟩ (I rg)).setCell ⟨Z,2,none⟩ (.bool false)).setCell ⟨Z,3,none⟩ (I 0)).cell? ⟨Z,4,none⟩=some (.int .u32 0):=by rw [qcr kZ3];rfl
  have fZ4:(((((W).setCell ⟨Z,0,none⟩ (I pr)).setCell ⟨Z,1,none⟩ (I rg)).setCell ⟨Z,2,none⟩ (.bool false)).setCell ⟨Z,3,none⟩ (I 0)).frozen? ⟨Z,4,none⟩=false:=frozen_of_row _ _ _ _ _ kZ3;have kZ4:=heap_setCell_same (((((W).setCell ⟨Z,0,none⟩ (I pr)).setCell ⟨Z,1,none⟩ (I rg)).setCell ⟨Z,2,none⟩ (.bool false)).setCell ⟨Z,3,none⟩ (I 0)) (Z) 4 _ _ (.int .u32 0) kZ3;have cZ5:((((((W).setCell ⟨Z,0,none⟩ (I pr)).setCell ⟨Z,1,none⟩ (I rg)).setCell ⟨Z,2,none⟩ (.bool false)).setCell ⟨Z,3,none⟩ (I 0)).setCell ⟨Z,4,none⟩ (.int .u32 0)).cell? ⟨Z,5,none⟩=some (I 0):=by rw [qcr kZ4];rfl
  have fZ5:((((((W).setCell ⟨Z,0,none⟩ (I pr)).setCell ⟨Z,1,none⟩ (I rg)).setCell ⟨Z,2,none⟩ (.bool false)).setCell ⟨Z,3,none⟩ (I 0)).setCell ⟨Z,4,none⟩ (.int .u32 0)).frozen? ⟨Z,5,none⟩=false:=frozen_of_row _ _ _ _ _ kZ4;have kZ5:=heap_setCell_same ((((((W).setCell ⟨Z,0,none⟩ (I pr)).setCell ⟨Z,1,none⟩ (I rg)).setCell ⟨Z,2,none⟩ (.bool false)).setCell ⟨Z,3,none⟩ (I 0)).setCell ⟨Z,4,none⟩ (.int .u32 0)) (Z) 5 _ _ (I 0) kZ4;have cZ6:(((((((W).setCell ⟨Z,0,none⟩ (I pr)).setCell ⟨Z,1,none⟩ (I rg)).setCell ⟨Z,2,none⟩ (.bool false)).setCell ⟨Z,3,none⟩ (I 0)).setCell ⟨Z,4,none⟩ (.int .u32 0)).setCell ⟨Z,5,none⟩ (I 0)).cell? ⟨Z,6,none⟩=some qZ:=by rw [qcr kZ5];rfl
  have fZ6:(((((((W).setCell ⟨Z,0,none⟩ (I pr)).setCell ⟨Z,1,none⟩ (I rg)).setCell ⟨Z,2,none⟩ (.bool false)).setCell ⟨Z,3,none⟩ (I 0)).setCell ⟨Z,4,none⟩ (.int .u32 0)).setCell ⟨Z,5,none⟩ (I 0)).frozen? ⟨Z,6,none⟩=false:=frozen_of_row _ _ _ _ _ kZ5;have kZ6:=heap_setCell_same (((((((W).setCell ⟨Z,0,none⟩ (I pr)).setCell ⟨Z,1,none⟩ (I rg)).setCell ⟨Z,2,none⟩ (.bool false)).setCell ⟨Z,3,none⟩ (I 0)).setCell ⟨Z,4,none⟩ (.int .u32 0)).setCell ⟨Z,5,none⟩ (I 0)) (Z) 6 _ _ qZ kZ5;have cZ7:((((((((W).setCell ⟨Z,0,none⟩ (I pr)).setCell ⟨Z,1,none⟩ (I rg)).setCell ⟨Z,2,none⟩ (.bool false)).setCell ⟨Z,3,none⟩ (I 0)).setCell ⟨Z,4,none⟩ (.int .u32 0)).setCell ⟨Z,5,none⟩ (I 0)).setCell ⟨Z,6,none⟩ qZ).cell? ⟨Z,7,none⟩=some (.int .u32 0):=by rw [qcr kZ6];rfl
  have fZ7:((((((((W).setCell ⟨Z,0,none⟩ (I pr)).setCell ⟨Z,1,none⟩ (I rg)).setCell ⟨Z,2,none⟩ (.bool false)).setCell ⟨Z,3,none⟩ (I 0)).setCell ⟨Z,4,none⟩ (.int .u32 0)).setCell ⟨Z,5,none⟩ (I 0)).setCell ⟨Z,6,none⟩ qZ).frozen? ⟨Z,7,none⟩=false:=frozen_of_row _ _ _ _ _ kZ6;have kZ7:=heap_setCell_same ((((((((W).setCell ⟨Z,0,none⟩ (I pr)).setCell ⟨Z,1,none⟩ (I rg)).setCell ⟨Z,2,none⟩ (.bool false)).setCell ⟨Z,3,none⟩ (I 0)).setCell ⟨Z,4,none⟩ (.int .u32 0)).setCell ⟨Z,5,none⟩ (I 0)).setCell ⟨Z,6,none⟩ qZ) (Z) 7 _ _ (.int .u32 0) kZ6;refine qR1 (i:=6) rfl (fun K hK=>?_);have hsz1:=HB.out.size;have G0:w1.grownBy ((((((((((W).setCell ⟨Z,0,none⟩ (I pr)).setCell ⟨Z,1,none⟩ (I rg)).setCell ⟨Z,2,none⟩ (.bool false)).setCell ⟨Z,3,none⟩ (I 0)).setCell ⟨Z,4,none⟩ (.int .u32 0)).setCell ⟨Z,5,none⟩ (I 0)).setCell ⟨Z,6,none⟩ qZ).setCell ⟨Z,7,none⟩ (.int .u32 0))) (some r):=(qae (qae (qae (qae (qae (qae (qae (qae gg hZ1) hZ1) hZ1) hZ1) hZ1) hZ1) hZ1) hZ1);have t2:Rst ((((((((((W).setCell ⟨Z,0,none⟩ (I pr)).setCell ⟨Z,1,none⟩ (I rg)).setCell ⟨Z,2,none⟩ (.bool false)).setCell ⟨Z,3,none⟩ (I 0)).setCell ⟨Z,4,none⟩ (.int .u32 0)).setCell ⟨Z,5,none⟩ (I 0)).setCell ⟨Z,6,none⟩ qZ).setCell ⟨Z,7,none⟩ (.int .u32 0))) lo r l2:=((((((((tt.setY (by omega)).setY (by omega)).setY (by omega)).setY (by omega)).setY (by omega)).setY (by omega)).setY (by omega)).setY (by omega));have hZ2:((((((((((W).setCell ⟨Z,0,none⟩ (I pr)).setCell ⟨Z,1,none⟩ (I rg)).setCell ⟨Z,2,none⟩ (.bool false)).setCell ⟨Z,3,none⟩ (I 0)).setCell ⟨Z,4,none⟩ (.int .u32 0)).setCell ⟨Z,5,none⟩ (I 0)).setCell ⟨Z,6,none⟩ qZ).setCell ⟨Z,7,none⟩ (.int .u32 0))).heap[Z]?=some (.cells #[I pr,I rg,.bool false,I 0,.int .u32 0,I 0,qZ,.int .u32 0] 71):=kZ7;go_simp;clear fZ0 fZ1 fZ2 fZ3 fZ4 fZ5 fZ6 fZ7 cZ0 cZ1 cZ2 cZ3 cZ4 cZ5 cZ6 cZ7 kZ0 kZ1 kZ2 kZ3 kZ4 kZ5 kZ6 kZ7 hZ tt gg;refine hK.out _ _ (HX.out _ G0) (fun hSS=>?_);clear hSS hK K;try simp only [qN]
  refine wpAnyH_done (by kernel_rfl) ?_ _;have hZ:=hZ2;clear hZ2 HG;generalize (((((((((W).setCell ⟨Z,0,none⟩ (I pr)).setCell ⟨Z,1,none⟩ (I rg)).setCell ⟨Z,2,none⟩ (.bool false)).setCell ⟨Z,3,none⟩ (I 0)).setCell ⟨Z,4,none⟩ (.int .u32 0)).setCell ⟨Z,5,none⟩ (I 0)).setCell ⟨Z,6,none⟩ (.slice none 0 0)).setCell ⟨Z,7,none⟩ (.int .u32 0))=V1 at *;have E0:Hid (pTk l0=(andP (pn 1) fun f=>andP p1 fun li=>andP (pn 4) fun m=>andP pM fun ii=>andP pL fun o=>andP (pn 1) fun a=>qc2 f fun b=>(⟨pr,rg,b,li,m,ii,o,a⟩:TkR)) l2):=ee;clear ee;have hZr:Z≠r:=by omega
  have cX:=HX.out V1 G0;have hN:=qbd t2;rcases hp:pn 1 l2 with c | ⟨f,l3⟩
  ·rw [show p1 l2=.error c from qaj hp] at hN
   have EE:Hid (pTk l0=.error c):=by
    show _=_;rw [E0.out,qaj hp]
   clear hp t2 E0;go_wp2_with (first | (go_at_call 36;refine hN.mono ?_;clear hN;rintro e W3 ⟨rfl,hg⟩));have e9:RP w lo r (VTk lo) (pTk l0) (gup c) W3:=by
    rw [EE.out];exact ⟨rfl,qa1 HB.out (qa1 G0 hg)⟩
   exact ⟨rfl,e9⟩
  rw [show p1 l2=.ok ((f:Int),l3) from qa9 hp] at hN;have EE:Hid (pTk l0=(andP p1 fun li=>andP (pn 4) fun m=>andP pM fun ii=>andP pL fun o=>andP (pn 1) fun a=>qc2 f fun b=>(⟨pr,rg,b,li,m,ii,o,a⟩:TkR)) l3):=by
   show _=_;rw [E0.out,qa9 hp]
  clear hp t2 E0;have E0:=EE;clear EE;go_wp2_with (first | (go_at_call 36;refine hN.mono ?_;clear hN;rintro e W2 ⟨u3,rfl,q3,t3,g3⟩;have q3':u3=I f:=q3;subst q3';clear q3));have GB:=qa1 G0 g3;have hZ:=qb8 g3 hZ hZr;clear cX G0 g3;have G0:=qec GB (Below.refl W2.heap.size W2).drew;have HC:=HX.out W2.drew G0;refine wp_region_held_drew (S:=fun W=>W.cell? ⟨w.heap.size,0,none⟩=some (.pointer (some ⟨r,0,none⟩))) (by kernel_rfl) HC (fun hHeld=>?_);clear HC;change wpAnyH _ _ _ _ _ _ #[false,false,false,false,false,false,false,false,false,false,false,false,false,false,false,false,false,false,false,false,false] _ _;try simp only [qN]
  refine qTH 0 (rdP r) rfl hHeld ?_;try simp only [qN]
  refine qTH 2 (rdP r) rfl hHeld ?_;try simp only [qN]
  refine qTH 4 (rdP r) rfl hHeld ?_;try simp only [qN]
  refine qTH 6 (rdP r) rfl hHeld ?_;try simp only [qN]
  refine qTH 8 (rdP r) rfl hHeld ?_;try simp only [qN]
  clear hHeld;have t3:=t3.below (Below.refl W2.heap.size W2).drew;have hZ:W2.drew.heap[Z]?=_:=hZ;clear GB;generalize W2.drew=W3 at *;refine qR1 (i:=1) rfl (fun K hK=>?_);go_simp;refine (qbd t3).mono ?_;intro e W4 hR;rcases hp:p1 l3 with c | ⟨li,l4⟩
  ·rw [hp] at hR
   obtain ⟨rfl,hg⟩:=qar hR;have e9:RP w lo r (VTk lo) (pTk l0) (gup c) W4:=by
    rw [E0.out];skip;rw [qaj hp];exact ⟨rfl,qa1 HB.out (qa1 G0 hg)⟩
   exact ⟨rfl,e9⟩
  rw [hp] at hR;obtain ⟨u4,rfl,hv,t4,g4⟩:=qaq hR;have q:u4=I li:=hv;subst q;have GG:=qa1 G0 g4;have EE:Hid (pTk l0=(andP (pn 4) fun m=>andP pM fun ii=>andP pL fun o=>andP (pn 1) fun a=>qc2 f fun b=>(⟨pr,rg,b,li,m,ii,o,a⟩:TkR)) l4):=by
   show _=_;rw [E0.out];skip;rw [qa9 hp]
  skip;have hZ:=qb8 g4 hZ hZr;refine hK.out _ _ (HX.out W4 GG) (fun hSS=>?_);clear hSS hK K hR hp E0 G0 t3;have G0:=GG;have E0:=EE;clear GG EE g4;try simp only [qN]
  refine wpAnyH_take (i:=11) (v:=.pointer (some ⟨Z,3,none⟩)) rfl (by kernel_rfl) (by kernel_rfl) (by kernel_rfl) (fun _ _ _ h=>h) (Or.inl ⟨by rfl,?_⟩) (HX.out W4 G0) ?_
  ·intro w' hSw
   try dsimp only at hSw
   go_simp
  try simp only [qN]
  refine qR1 (i:=3) rfl (fun K hK=>?_);go_simp;refine (qe4 t4).mono ?_;intro e W5 hR;rcases hp:pn 4 l4 with c | ⟨m,l5⟩
  ·rw [hp] at hR
   obtain ⟨rfl,hg⟩:=qar hR;have e9:RP w lo r (VTk lo) (pTk l0) (gup c) W5:=by
    rw [E0.out];skip;rw [qaj hp];exact ⟨rfl,qa1 HB.out (qa1 G0 hg)⟩
   exact ⟨rfl,e9⟩
  rw [hp] at hR;obtain ⟨u5,rfl,hv,t5,g5⟩:=qaq hR;have q:u5=.int .u32 (m:Int):=hv;subst q;have GG:=qa1 G0 g5;have EE:Hid (pTk l0=(andP pM fun ii=>andP pL fun o=>andP (pn 1) fun a=>qc2 f fun b=>(⟨pr,rg,b,li,m,ii,o,a⟩:TkR)) l5):=by
   show _=_;rw [E0.out];skip;rw [qa9 hp]
  skip;have hZ:=qb8 g5 hZ hZr;refine hK.out _ _ (HX.out W5 GG) (fun hSS=>?_);clear hSS hK K hR hp E0 G0 t4;have G0:=GG;have E0:=EE;clear GG EE g5;try simp only [qN]
  refine qR1 (i:=5) rfl (fun K hK=>?_);go_simp;refine (qjg t5).mono ?_;intro e W6 hR;rcases hp:pM l5 with c | ⟨ii,l6⟩
  ·rw [hp] at hR
   obtain ⟨rfl,hg⟩:=qar hR;have e9:RP w lo r (VTk lo) (pTk l0) (gup c) W6:=by
    rw [E0.out];skip;rw [qaj hp];exact ⟨rfl,qa1 HB.out (qa1 G0 hg)⟩
   exact ⟨rfl,e9⟩
  rw [hp] at hR;obtain ⟨u6,rfl,hv,t6,g6⟩:=qaq hR;have q:u6=I ii:=hv;subst q;have GG:=qa1 G0 g6;have EE:Hid (pTk l0=(andP pL fun o=>andP (pn 1) fun a=>qc2 f fun b=>(⟨pr,rg,b,li,m,ii,o,a⟩:TkR)) l6):=by
   show _=_;rw [E0.out];skip;rw [qa9 hp]
  skip;have hZ:=qb8 g6 hZ hZr;refine hK.out _ _ (HX.out W6 GG) (fun hSS=>?_);clear hSS hK K hR hp E0 G0 t5;have G0:=GG;have E0:=EE;clear GG EE g6;try simp only [qN]
  refine qR1 (i:=7) rfl (fun K hK=>?_);go_simp;refine (qkx t6).mono ?_;intro e W7 hR;rcases hp:pL l6 with c | ⟨o,l7⟩
  ·rw [hp] at hR
   obtain ⟨rfl,hg⟩:=qar hR;have e9:RP w lo r (VTk lo) (pTk l0) (gup c) W7:=by
    rw [E0.out];skip;rw [qaj hp];exact ⟨rfl,qa1 HB.out (qa1 G0 hg)⟩
   exact ⟨rfl,e9⟩
  rw [hp] at hR;obtain ⟨u7,rfl,hv,t7,g7⟩:=qaq hR;obtain ⟨sa,sc,rfl,mo⟩:=hv;have GG:=qa1 G0 g7;have EE:Hid (pTk l0=(andP (pn 1) fun a=>qc2 f fun b=>(⟨pr,rg,b,li,m,ii,o,a⟩:TkR)) l7):=by
   show _=_;rw [E0.out];skip;rw [qa9 hp]
  skip;have hZ:=qb8 g7 hZ hZr;refine hK.out _ _ (HX.out W7 GG) (fun hSS=>?_);clear hSS hK K hR hp E0 G0 t6;have G0:=GG;have E0:=EE;clear GG EE g7;try simp only [qN]
  refine qR1 (i:=9) rfl (fun K hK=>?_);go_simp;refine (qbd t7).mono ?_;intro e W8 hR;rcases hp:pn 1 l7 with c | ⟨a,l8⟩
  ·rw [show p1 l7=.error c from qaj hp] at hR
   obtain ⟨rfl,hg⟩:=qar hR;have e9:RP w lo r (VTk lo) (pTk l0) (gup c) W8:=by
    rw [E0.out];skip;rw [qaj hp];exact ⟨rfl,qa1 HB.out (qa1 G0 hg)⟩
   exact ⟨rfl,e9⟩
  rw [show p1 l7=.ok ((a:Int),l8) from qa9 hp] at hR;obtain ⟨u8,rfl,hv,t8,g8⟩:=qaq hR;have q:u8=I a:=hv;subst q;have mo:=qaw mo hrl g8;have GG:=qa1 G0 g8;have EE:Hid (pTk l0=(qc2 f fun b=>(⟨pr,rg,b,li,m,ii,o,a⟩:TkR)) l8):=by
   show _=_;rw [E0.out];skip;rw [qa9 hp]
  have hw8:IntKind.u32.wrap (a:Int)=a:=by have:=qcw hp;rw [IntKind.wrap_u32];omega
  have hZ:=qb8 g8 hZ hZr;refine hK.out _ _ (HX.out W8 GG) (fun hSS=>?_);clear hSS hK K hR hp E0 G0 t7;have G0:=GG;have E0:=EE;clear GG EE g8;try simp only [qN]
  refine wpAnyH_take (i:=10) (v:=.int .u32 (a:Int)) rfl (by kernel_rfl) (by kernel_rfl) (by kernel_rfl) (fun _ _ _ h=>h) (Or.inl ⟨by rfl,?_⟩) (HX.out W8 G0) ?_
  ·intro w' hSw
   try dsimp only at hSw
   go_simp
  try simp only [qN]
  refine qR1 (i:=12) rfl (fun K hK=>?_);have c0:(W8).cell? ⟨Z,3,none⟩=some (I 0):=by rw [qcr hZ];rfl
  have f0:(W8).frozen? ⟨Z,3,none⟩=false:=frozen_of_row _ _ _ _ _ hZ;go_simp;have hZq:=heap_setCell_same (W8) Z 3 _ _ (I li) hZ;have GG:=qae (i:=3) (v:=I li) G0 hZ1;have tq:=t8.setY (Y:=Z) (i:=3) (v:=I li) (by omega);have mq:=qao (i:=3) (x:=I li) mo hZ (by decide);clear c0 f0 hZ G0 t8 mo;refine hK.out _ _ (HX.out _ GG) (fun hSS=>?_);clear hSS hK K;try simp only [qN]
  have hZ:((W8).setCell ⟨Z,3,none⟩ (I li)).heap[Z]?=some (.cells #[I pr,I rg,.bool false,I li,.int .u32 0,I 0,qZ,.int .u32 0] 71):=hZq;have G0:=GG;have t8:=tq;have mo:=mq;clear GG tq mq hZq;generalize (W8).setCell ⟨Z,3,none⟩ (I li)=S0 at *;refine wpAnyH_take (i:=13) (v:=.pointer (some ⟨Z,4,none⟩)) rfl (by kernel_rfl) (by kernel_rfl) (by kernel_rfl) (fun _ _ _ h=>h) (Or.inl ⟨by rfl,?_⟩) (HX.out S0 G0) ?_
  ·intro w' hSw
   try dsimp only at hSw
   go_simp
  try simp only [qN]
  refine qR1 (i:=14) rfl (fun K hK=>?_);have c0:(S0).cell? ⟨Z,4,none⟩=some (.int .u32 0):=by rw [qcr hZ];rfl
  have f0:(S0).frozen? ⟨Z,4,none⟩=false:=frozen_of_row _ _ _ _ _ hZ;go_simp;have hZq:=heap_setCell_same (S0) Z 4 _ _ (.int .u32 (m:Int)) hZ;have GG:=qae (i:=4) (v:=.int .u32 (m:Int)) G0 hZ1;have tq:=t8.setY (Y:=Z) (i:=4) (v:=.int .u32 (m:Int)) (by omega);have mq:=qao (i:=4) (x:=.int .u32 (m:Int)) mo hZ (by decide);clear c0 f0 hZ G0 t8 mo;refine hK.out _ _ (HX.out _ GG) (fun hSS=>?_);clear hSS hK K;try simp only [qN]
  have hZ:((S0).setCell ⟨Z,4,none⟩ (.int .u32 (m:Int))).heap[Z]?=some (.cells #[I pr,I rg,.bool false,I li,.int .u32 (m:Int),I 0,qZ,.int .u32 0] 71):=hZq;have G0:=GG;have t8:=tq;have mo:=mq;clear GG tq mq hZq;generalize (S0).setCell ⟨Z,4,none⟩ (.int .u32 (m:Int))=S1 at *;refine wpAnyH_take (i:=15) (v:=.pointer (some ⟨Z,5,none⟩)) rfl (by kernel_rfl) (by kernel_rfl) (by kernel_rfl) (fun _ _ _ h=>h) (Or.inl ⟨by rfl,?_⟩) (HX.out S1 G0) ?_
  ·intro w' hSw
   try dsimp only at hSw
   go_simp
  try simp only [qN]
  refine qR1 (i:=16) rfl (fun K hK=>?_);have c0:(S1).cell? ⟨Z,5,none⟩=some (I 0):=by rw [qcr hZ];rfl
  have f0:(S1).frozen? ⟨Z,5,none⟩=false:=frozen_of_row _ _ _ _ _ hZ;go_simp;have hZq:=heap_setCell_same (S1) Z 5 _ _ (I ii) hZ;have GG:=qae (i:=5) (v:=I ii) G0 hZ1;have tq:=t8.setY (Y:=Z) (i:=5) (v:=I ii) (by omega);have mq:=qao (i:=5) (x:=I ii) mo hZ (by decide);clear c0 f0 hZ G0 t8 mo;refine hK.out _ _ (HX.out _ GG) (fun hSS=>?_);clear hSS hK K;try simp only [qN]
  have hZ:((S1).setCell ⟨Z,5,none⟩ (I ii)).heap[Z]?=some (.cells #[I pr,I rg,.bool false,I li,.int .u32 (m:Int),I ii,qZ,.int .u32 0] 71):=hZq;have G0:=GG;have t8:=tq;have mo:=mq;clear GG tq mq hZq;generalize (S1).setCell ⟨Z,5,none⟩ (I ii)=S2 at *;refine wpAnyH_take (i:=17) (v:=.pointer (some ⟨Z,6,none⟩)) rfl (by kernel_rfl) (by kernel_rfl) (by kernel_rfl) (fun _ _ _ h=>h) (Or.inl ⟨by rfl,?_⟩) (HX.out S2 G0) ?_
  ·intro w' hSw
   try dsimp only at hSw
   go_simp
  try simp only [qN]
  refine qR1 (i:=18) rfl (fun K hK=>?_);have c0:(S2).cell? ⟨Z,6,none⟩=some qZ:=by rw [qcr hZ];rfl
  have f0:(S2).frozen? ⟨Z,6,none⟩=false:=frozen_of_row _ _ _ _ _ hZ;go_simp;have hZq:=heap_setCell_same (S2) Z 6 _ _ (.slice sa o.length sc) hZ;have GG:=qae (i:=6) (v:=.slice sa o.length sc) G0 hZ1;have tq:=t8.setY (Y:=Z) (i:=6) (v:=.slice sa o.length sc) (by omega);have mq:=qao (i:=6) (x:=.slice sa o.length sc) mo hZ (by decide);clear c0 f0 hZ G0 t8 mo;refine hK.out _ _ (HX.out _ GG) (fun hSS=>?_);clear hSS hK K;try simp only [qN]
  have hZ:((S2).setCell ⟨Z,6,none⟩ (.slice sa o.length sc)).heap[Z]?=some (.cells #[I pr,I rg,.bool false,I li,.int .u32 (m:Int),I ii,.slice sa o.length sc,.int .u32 0] 71):=hZq;have G0:=GG;have t8:=tq;have mo:=mq;clear GG tq mq hZq;generalize (S2).setCell ⟨Z,6,none⟩ (.slice sa o.length sc)=S3 at *;refine wpAnyH_take (i:=19) (v:=.pointer (some ⟨Z,7,none⟩)) rfl (by kernel_rfl) (by kernel_rfl) (by kernel_rfl) (fun _ _ _ h=>h) (Or.inl ⟨by rfl,?_⟩) (HX.out S3 G0) ?_
  ·intro w' hSw
   try dsimp only at hSw
   go_simp
  try simp only [qN]
  refine qR1 (i:=20) rfl (fun K hK=>?_);have c0:(S3).cell? ⟨Z,7,none⟩=some (.int .u32 0):=by rw [qcr hZ];rfl
  have f0:(S3).frozen? ⟨Z,7,none⟩=false:=frozen_of_row _ _ _ _ _ hZ;go_simp;have hZq:=heap_setCell_same (S3) Z 7 _ _ (.int .u32 (a:Int)) hZ;have GG:=qae (i:=7) (v:=.int .u32 (a:Int)) G0 hZ1;have tq:=t8.setY (Y:=Z) (i:=7) (v:=.int .u32 (a:Int)) (by omega);have mq:=qao (i:=7) (x:=.int .u32 (a:Int)) mo hZ (by decide);clear c0 f0 hZ G0 t8 mo;refine hK.out _ _ (HX.out _ GG) (fun hSS=>?_);clear hSS hK K;try simp only [qN]
  have hZ:((S3).setCell ⟨Z,7,none⟩ (.int .u32 (a:Int))).heap[Z]?=some (.cells #[I pr,I rg,.bool false,I li,.int .u32 (m:Int),I ii,.slice sa o.length sc,.int .u32 (a:Int)] 71):=hZq;have G0:=GG;have t8:=tq;have mo:=mq;clear GG tq mq hZq;generalize (S3).setCell ⟨Z,7,none⟩ (.int .u32 (a:Int))=S4 at *;refine wpAnyH_done (by kernel_rfl) ?_ _;by_cases hf:f≤1
  ·have hS:=qi8 S4 f hf
   have c2:S4.cell? ⟨Z,2,none⟩=some (.bool false):=by rw [qcr hZ];rfl
   have f2:S4.frozen? ⟨Z,2,none⟩=false:=frozen_of_row _ _ _ _ _ hZ;have hZq:=heap_setCell_same S4 Z 2 _ _ (.bool (decide (f=1))) hZ;have GG:=qae (i:=2) (v:=.bool (decide (f=1))) G0 hZ1;have tq:=t8.setY (Y:=Z) (i:=2) (v:=.bool (decide (f=1))) (by omega);have mq:=qao (i:=2) (x:=.bool (decide (f=1))) mo hZ (by decide);have EE:Hid (pTk l0=.ok (⟨pr,rg,decide (f=1),li,m,ii,o,a⟩,l8)):=by
    show _=_;rw [E0.out];unfold qc2;rw [if_pos hf];rfl
   clear G0 t8 mo E0 hZ;go_upto_region 5 with (first | (go_at_call 114;refine hS.mono ?_;rintro e w3 ⟨rfl,hw3⟩;rw [hw3];clear hw3));have hZ:((S4).setCell ⟨Z,2,none⟩ (.bool (decide (f=1)))).heap[Z]?=some (.cells #[I pr,I rg,.bool (decide (f=1)),I li,.int .u32 (m:Int),I ii,.slice sa o.length sc,.int .u32 (a:Int)] 71):=hZq;clear c2 f2 hZq hS;generalize (S4).setCell ⟨Z,2,none⟩ (.bool (decide (f=1)))=S5 at *;have hY:=HY.out S5 GG;have cz0:S5.cell? ⟨Z,0,none⟩=some (I pr):=by rw [qcr hZ];rfl
   have cz1:S5.cell? ⟨Z,1,none⟩=some (I rg):=by rw [qcr hZ];rfl
   have cz2:S5.cell? ⟨Z,2,none⟩=some (.bool (decide (f=1))):=by rw [qcr hZ];rfl
   have cz3:S5.cell? ⟨Z,3,none⟩=some (I li):=by rw [qcr hZ];rfl
   have cz4:S5.cell? ⟨Z,4,none⟩=some (.int .u32 (m:Int)):=by rw [qcr hZ];rfl
   have cz5:S5.cell? ⟨Z,5,none⟩=some (I ii):=by rw [qcr hZ];rfl
   have cz6:S5.cell? ⟨Z,6,none⟩=some (.slice sa o.length sc):=by rw [qcr hZ];rfl
   have cz7:S5.cell? ⟨Z,7,none⟩=some (.int .u32 (a:Int)):=by rw [qcr hZ];rfl
   have cY0:(S5).cell? ⟨w.heap.size+1,0,none⟩=some (I 0):=by rw [qcr hY];rfl
   have fY0:(S5).frozen? ⟨w.heap.size+1,0,none⟩=false:=frozen_of_row _ _ _ _ _ hY;have hY0:=heap_setCell_same (S5) (w.heap.size+1) 0 _ _ (I pr) hY;have cY1:((S5).setCell ⟨w.heap.size+1,0,none⟩ (I pr)).cell? ⟨w.heap.size+1,1,none⟩=some (I 0):=by rw [qcr hY0];rfl
   have fY1:((S5).setCell ⟨w.heap.size+1,0,none⟩ (I pr)).frozen? ⟨w.heap.size+1,1,none⟩=false:=frozen_of_row _ _ _ _ _ hY0;have hY1:=heap_setCell_same ((S5).setCell ⟨w.heap.size+1,0,none⟩ (I pr)) (w.heap.size+1) 1 _ _ (I rg) hY0;have cY2:(((S5).setCell ⟨w.heap.size+1,0,none⟩ (I pr)).setCell ⟨w.heap.size+1,1,none⟩ (I rg)).cell? ⟨w.heap.size+1,2,none⟩=some (.bool false):=by rw [qcr hY1];rfl
   have fY2:(((S5).setCell ⟨w.heap.size+1,0,none⟩ (I pr)).setCell ⟨w.heap.size+1,1,none⟩ (I rg)).frozen? ⟨w.heap.size+1,2,none⟩=false:=frozen_of_row _ _ _ _ _ hY1;have hY2:=heap_setCell_same (((S5).setCell ⟨w.heap.size+1,0,none⟩ (I pr)).setCell ⟨w.heap.size+1,1,none⟩ (I rg)) (w.heap.size+1) 2 _ _ (.bool (decide (f=1))) hY1;have cY3:((((S5).setCell ⟨w.heap.size+1,0,none⟩ (I pr)).setCell ⟨w.heap.size+1,1,none⟩ (I rg)).setCell ⟨w.heap.size+1,2,none⟩ (.bool (decide (f=1)))).cell? ⟨w.heap.size+1,3,none⟩=some (I 0):=by rw [qcr hY2];rfl
   have fY3:((((S5).setCell ⟨w.heap.size+1,0,none⟩ (I pr)).setCell ⟨w.heap.size+1,1,none⟩ (I rg)).setCell ⟨w.heap.size+1,2,none⟩ (.bool (decide (f=1)))).frozen? ⟨w.heap.size+1,3,none⟩=false:=frozen_of_row _ _ _ _ _ hY2;have hY3:=heap_setCell_same ((((S5).setCell ⟨w.heap.size+1,0,none⟩ (I pr)).setCell ⟨w.heap.size+1,1,none⟩ (I rg)).setCell ⟨w.heap.size+1,2,none⟩ (.bool (decide (f=1)))) (w.heap.size+1) 3 _ _ (I li) hY2;have cY4:(((((S5).setCell ⟨w.heap.size+1,0,none⟩ (I pr)).setCell ⟨w.heap.size+1,1,none⟩ (I rg)).setCell ⟨w.heap.size+1,2,none⟩ (.bool (decide (f=1)))).setCell ⟨w.heap.size+1,3,none⟩ (I li)).cell? ⟨w.heap.size+1,4,none⟩=some (.int .u32 0):=by rw [qcr hY3];rfl
   have fY4:(((((S5).setCell ⟨w.heap.size+1,0,none⟩ (I pr)).setCell ⟨w.heap.size+1,1,none⟩ (I rg)).setCell ⟨w.heap.size+1,2,none⟩ (.bool (decide (f=1)))).setCell ⟨w.heap.size+1,3,none⟩ (I li)).frozen? ⟨w.heap.size+1,4,none⟩=false:=frozen_of_row _ _ _ _ _ hY3;have hY4:=heap_setCell_same (((((S5).setCell ⟨w.heap.size+1,0,none⟩ (I pr)).setCell ⟨w.heap.size+1,1,none⟩ (I rg)).setCell ⟨w.heap.size+1,2,none⟩ (.bool (decide (f=1)))).setCell ⟨w.heap.size+1,3,none⟩ (I li)) (w.heap.size+1) 4 _ _ (.int .u32 (m:Int)) hY3;have cY5:((((((S5).setCell ⟨w.heap.size+1,0,none⟩ (I pr)).setCell ⟨w.heap.size+1,1,none⟩ (I rg)).setCell ⟨w.heap.size+1,2,none⟩ (.bool (decide (f=1)))).setCell ⟨w.heap.size+1,3,none⟩ (I li)).setCell ⟨w.heap.size+1,4,none⟩ (.int .u32 (m:Int))).cell? ⟨w.heap.size+1,5,none⟩=some (I 0):=by rw [qcr hY4];rfl
   have fY5:((((((S5).setCell ⟨w.heap.size+1,0,none⟩ (I pr)).setCell ⟨w.heap.size+1,1,none⟩ (I rg)).setCell ⟨w.heap.size+1,2,none⟩ (.bool (decide (f=1)))).setCell ⟨w.heap.size+1,3,none⟩ (I li)).setCell ⟨w.heap.size+1,4,none⟩ (.int .u32 (m:Int))).frozen? ⟨w.heap.size+1,5,none⟩=false:=frozen_of_row _ _ _ _ _ hY4;have hY5:=heap_setCell_same ((((((S5).setCell ⟨w.heap.size+1,0,none⟩ (I pr)).setCell ⟨w.heap.size+1,1,none⟩ (I rg)).setCell ⟨w.heap.size+1,2,none⟩ (.bool (decide (f=1)))).setCell ⟨w.heap.size+1,3,none⟩ (I li)).setCell ⟨w.heap.size+1,4,none⟩ (.int .u32 (m:Int))) (w.heap.size+1) 5 _ _ (I ii) hY4;have cY6:(((((((S5).setCell ⟨w.heap.size+1,0,none⟩ (I pr)).setCell ⟨w.heap.size+1,1,none⟩ (I rg)).setCell ⟨w.heap.size+1,2,none⟩ (.bool (decide (f=1)))).setCell ⟨w.heap.size+1,3,none⟩ (I li)).setCell ⟨w.heap.size+1,4,none⟩ (.int .u32 (m:Int))).setCell ⟨w.heap.size+1,5,none⟩ (I ii)).cell? ⟨w.heap.size+1,6,none⟩=some qZ:=by rw [qcr hY5];rfl
   have fY6:(((((((S5).setCell ⟨w.heap.size+1,0,none⟩ (I pr)).setCell ⟨w.heap.size+1,1,none⟩ (I rg)).setCell ⟨w.heap.size+1,2,none⟩ (.bool (decide (f=1)))).setCell ⟨w.heap.size+1,3,none⟩ (I li)).setCell ⟨w.heap.size+1,4,none⟩ (.int .u32 (m:Int))).setCell ⟨w.heap.size+1,5,none⟩ (I ii)).frozen? ⟨w.heap.size+1,6,none⟩=false:=frozen_of_row _ _ _ _ _ hY5;have hY6:=heap_setCell_same (((((((S5).setCell ⟨w.heap.size+1,0,none⟩ (I pr)).setCell ⟨w.heap.size+1,1,none⟩ (I rg)).setCell ⟨w.heap.size+1,2,none⟩ (.bool (decide (f=1)))).setCell ⟨w.heap.size+1,3,none⟩ (I li)).setCell ⟨w.heap.size+1,4,none⟩ (.int .u32 (m:Int))).setCell ⟨w.heap.size+1,5,none⟩ (I ii)) (w.heap.size+1) 6 _ _ (.slice sa o.length sc) hY5;have cY7:((((((((S5).setCell ⟨w.heap.size+1,0,none⟩ (I pr)).setCell ⟨w.heap.size+1,1,none⟩ (I rg)).setCell ⟨w.heap.size+1,2,none⟩ (.bool (decide (f=1)))).setCell ⟨w.heap.size+1,3,none⟩ (I li)).setCell ⟨w.heap.size+1,4,none⟩ (.int .u32 (m:Int))).setCell ⟨w.heap.size+1,5,none⟩ (I ii)).setCell ⟨w.heap.size+1,6,none⟩ (.slice sa o.length sc)).cell? ⟨w.heap.size+1,7,none⟩=some (.int .u32 0):=by rw [qcr hY6];rfl
   have fY7:((((((((S5).setCell ⟨w.heap.size+1,0,none⟩ (I pr)).setCell ⟨w.heap.size+1,1,none⟩ (I rg)).setCell ⟨w.heap.size+1,2,none⟩ (.bool (decide (f=1)))).setCell ⟨w.heap.size+1,3,none⟩ (I li)).setCell ⟨w.heap.size+1,4,none⟩ (.int .u32 (m:Int))).setCell ⟨w.heap.size+1,5,none⟩ (I ii)).setCell ⟨w.heap.size+1,6,none⟩ (.slice sa o.length sc)).frozen? ⟨w.heap.size+1,7,none⟩=false:=frozen_of_row _ _ _ _ _ hY6;have hY7:=heap_setCell_same ((((((((S5).setCell ⟨w.heap.size+1,0,none⟩ (I pr)).setCell ⟨w.heap.size+1,1,none⟩ (I rg)).setCell ⟨w.heap.size+1,2,none⟩ (.bool (decide (f=1)))).setCell ⟨w.heap.size+1,3,none⟩ (I li)).setCell ⟨w.heap.size+1,4,none⟩ (.int .u32 (m:Int))).setCell ⟨w.heap.size+1,5,none⟩ (I ii)).setCell ⟨w.heap.size+1,6,none⟩ (.slice sa o.length sc)) (w.heap.size+1) 7 _ _ (.int .u32 (a:Int)) hY6;have hEnd:RP w lo r (VTk lo) (pTk l0) (.returned (.agg #[I pr,I rg,.bool (decide (f=1)),I li,.int .u32 (m:Int),I ii,.slice sa o.length sc,.int .u32 (a:Int)])) (((((((((S5).setCell ⟨w.heap.size+1,0,none⟩ (I pr)).setCell ⟨w.heap.size+1,1,none⟩ (I rg)).setCell ⟨w.heap.size+1,2,none⟩ (.bool (decide (f=1)))).setCell ⟨w.heap.size+1,3,none⟩ (I li)).setCell ⟨w.heap.size+1,4,none⟩ (.int .u32 (m:Int))).setCell ⟨w.heap.size+1,5,none⟩ (I ii)).setCell ⟨w.heap.size+1,6,none⟩ (.slice sa o.length sc)).setCell ⟨w.heap.size+1,7,none⟩ (.int .u32 (a:Int))):=by
    rw [EE.out];exact ⟨_,rfl,⟨sa,sc,rfl,(qao (qao (qao (qao (qao (qao (qao (qao mq hY (by decide)) hY0 (by decide)) hY1 (by decide)) hY2 (by decide)) hY3 (by decide)) hY4 (by decide)) hY5 (by decide)) hY6 (by decide))⟩,((((((((tq.setY (by omega)).setY (by omega)).setY (by omega)).setY (by omega)).setY (by omega)).setY (by omega)).setY (by omega)).setY (by omega)),(qae (qae (qae (qae (qae (qae (qae (qae (qa1 HB.out GG) (by omega)) (by omega)) (by omega)) (by omega)) (by omega)) (by omega)) (by omega)) (by omega))⟩
   have hYL:(((((((((S5).setCell ⟨w.heap.size+1,0,none⟩ (I pr)).setCell ⟨w.heap.size+1,1,none⟩ (I rg)).setCell ⟨w.heap.size+1,2,none⟩ (.bool (decide (f=1)))).setCell ⟨w.heap.size+1,3,none⟩ (I li)).setCell ⟨w.heap.size+1,4,none⟩ (.int .u32 (m:Int))).setCell ⟨w.heap.size+1,5,none⟩ (I ii)).setCell ⟨w.heap.size+1,6,none⟩ (.slice sa o.length sc)).setCell ⟨w.heap.size+1,7,none⟩ (.int .u32 (a:Int))).heap[w.heap.size+1]?=some (.cells #[I pr,I rg,.bool (decide (f=1)),I li,.int .u32 (m:Int),I ii,.slice sa o.length sc,.int .u32 (a:Int)] 71):=hY7;clear EE hY;go_wp2;refine bodyPost_ret (qn6 Tryz.results38 _ (w.heap.size+1) _ _ _ _ _ _ _ _ _ rfl hYL) rfl ?_;exact hEnd
  ·have hS:=qji S4 f hf
   have e9:RP w lo r (VTk lo) (pTk l0) (gup 103) S4:=by
    rw [E0.out];unfold qc2;rw [if_neg hf];exact ⟨rfl,qa1 HB.out G0⟩
   clear E0 hZ;go_wp2_with (first | (go_at_call 114;refine hS.mono ?_;rintro e w3 ⟨rfl,rfl⟩));exact ⟨rfl,e9⟩
 have K2F:Hid (∀(W:World) (pr:Int) (rg:Int) (l2:List UInt8),(Rst W lo r l2)→(w1.grownBy W (some r))→(pTk l0=(andP (pn 1) fun f=>andP p1 fun li=>andP (pn 4) fun m=>andP pM fun ii=>andP pL fun o=>andP (pn 1) fun a=>qc2 f fun b=>(⟨pr,rg,b,li,m,ii,o,a⟩:TkR)) l2)→G 2 #[true,true,true,true,true,false,false] (T1 undef (I pr) (I rg) (.agg #[I pr,I rg,.bool false,I 0,.int .u32 0,I 0,qZ,.int .u32 0])) W):=fun W pr rg l2 tt gg ee=>by
  subst hT1;rw [HG.out];dsimp only;refine qW [5] ?_;refine qK (fun K hK=>?_) ?_
  ·go_simp
   have hh:=qah (r:=some r) (qa0 W (.cells #[I 0,I 0,.bool false,I 0,.int .u32 0,I 0,qZ,.int .u32 0] 71));refine hK.out _ _ (HX.out _ (qa1 gg hh)) (fun _=>?_);try simp only [qN]
   exact (HG.out _ _ _ _).mp (K2T.out _ pr rg _ _ (tt.al _) (qa1 gg hh) ee (heap_alloc_new _ _) gg.size)
  exact qn
 have K1T:Hid (∀(W:World) (pr:Int) (l1:List UInt8) (Z:Nat),(Rst W lo r l1)→(w1.grownBy W (some r))→(pTk l0=(andP p1 fun rg=>andP (pn 1) fun f=>andP p1 fun li=>andP (pn 4) fun m=>andP pM fun ii=>andP pL fun o=>andP (pn 1) fun a=>qc2 f fun b=>(⟨pr,rg,b,li,m,ii,o,a⟩:TkR)) l1)→(W.heap[Z]?=some (.cells #[I 0,I 0,.bool false,I 0,.int .u32 0,I 0,qZ,.int .u32 0] 71))→(w1.heap.size≤Z)→G 3 #[true,true,true,false,false,true,false] (T1 (.pointer (some ⟨Z,0,none⟩)) (I pr) undef undef) W):=fun W pr l1 Z tt gg ee hZ hZ1=>by
  subst hT1;rw [HG.out];dsimp only;refine qW [3] ?_;refine qK (fun K hK=>?_) ?_
  ·go_simp
   refine (qbd tt).mono ?_;intro e W1 hR;rcases hp:p1 l1 with c | ⟨rg,l2⟩
   ·rw [hp] at hR
    obtain ⟨rfl,hg⟩:=qar hR;have e9:RP w lo r (VTk lo) (pTk l0) (gup c) W1:=by
     rw [ee,qaj hp];exact ⟨rfl,qa1 HB.out (qa1 gg hg)⟩
    exact ⟨rfl,e9⟩
   ·rw [hp] at hR
    obtain ⟨u1,rfl,hv,t1,g1⟩:=qaq hR;have q:u1=I rg:=hv;subst q;refine hK.out _ _ (HX.out W1 (qa1 gg g1)) (fun _=>?_);try simp only [qN]
    refine wpAnyH_take (i:=4) (v:=.agg #[I pr,I rg,.bool false,I 0,.int .u32 0,I 0,qZ,.int .u32 0]) rfl (by kernel_rfl) (by kernel_rfl) (by kernel_rfl) (fun _ _ _ h=>h) (Or.inl ⟨by rfl,?_⟩) (HX.out W1 (qa1 gg g1)) ?_
    ·intro w' hSw
     try dsimp only at hSw
     go_simp
    try simp only [qN]
    exact (HG.out _ _ _ _).mp (K2T.out _ pr rg _ _ t1 (qa1 gg g1) (ee.trans (qa9 hp)) (qb8 g1 hZ (by have:=HB.out.size;omega)) hZ1)
  exact qn
 have K1F:Hid (∀(W:World) (pr:Int) (l1:List UInt8),(Rst W lo r l1)→(w1.grownBy W (some r))→(pTk l0=(andP p1 fun rg=>andP (pn 1) fun f=>andP p1 fun li=>andP (pn 4) fun m=>andP pM fun ii=>andP pL fun o=>andP (pn 1) fun a=>qc2 f fun b=>(⟨pr,rg,b,li,m,ii,o,a⟩:TkR)) l1)→G 4 #[true,true,true,false,false,false,false] (T1 undef (I pr) undef undef) W):=fun W pr l1 tt gg ee=>by
  subst hT1;rw [HG.out];dsimp only;refine qW [3,5] ?_;refine qK (fun K hK=>?_) ?_
  ·go_simp
   refine (qbd tt).mono ?_;intro e W1 hR;rcases hp:p1 l1 with c | ⟨rg,l2⟩
   ·rw [hp] at hR
    obtain ⟨rfl,hg⟩:=qar hR;have e9:RP w lo r (VTk lo) (pTk l0) (gup c) W1:=by
     rw [ee,qaj hp];exact ⟨rfl,qa1 HB.out (qa1 gg hg)⟩
    exact ⟨rfl,e9⟩
   ·rw [hp] at hR
    obtain ⟨u1,rfl,hv,t1,g1⟩:=qaq hR;have q:u1=I rg:=hv;subst q;refine hK.out _ _ (HX.out W1 (qa1 gg g1)) (fun _=>?_);try simp only [qN]
    refine wpAnyH_take (i:=4) (v:=.agg #[I pr,I rg,.bool false,I 0,.int .u32 0,I 0,qZ,.int .u32 0]) rfl (by kernel_rfl) (by kernel_rfl) (by kernel_rfl) (fun _ _ _ h=>h) (Or.inl ⟨by rfl,?_⟩) (HX.out W1 (qa1 gg g1)) ?_
    ·intro w' hSw
     try dsimp only at hSw
     go_simp
    try simp only [qN]
    exact (HG.out _ _ _ _).mp (K2F.out _ pr rg _  t1 (qa1 gg g1) (ee.trans (qa9 hp)))
  refine qK (fun K hK=>?_) ?_
  ·go_simp
   have hh:=qah (r:=some r) (qa0 W (.cells #[I 0,I 0,.bool false,I 0,.int .u32 0,I 0,qZ,.int .u32 0] 71));refine hK.out _ _ (HX.out _ (qa1 gg hh)) (fun _=>?_);try simp only [qN]
   exact (HG.out _ _ _ _).mp (K1T.out _ pr _ _ (tt.al _) (qa1 gg hh) ee (heap_alloc_new _ _) gg.size)
  exact qn
 have K0T:Hid (∀(W:World) (Z:Nat),(Rst W lo r l0)→(w1.grownBy W (some r))→(pTk l0=(andP p1 fun pr=>andP p1 fun rg=>andP (pn 1) fun f=>andP p1 fun li=>andP (pn 4) fun m=>andP pM fun ii=>andP pL fun o=>andP (pn 1) fun a=>qc2 f fun b=>(⟨pr,rg,b,li,m,ii,o,a⟩:TkR)) l0)→(W.heap[Z]?=some (.cells #[I 0,I 0,.bool false,I 0,.int .u32 0,I 0,qZ,.int .u32 0] 71))→(w1.heap.size≤Z)→G 4 #[true,false,true,false,false,true,false] (T1 (.pointer (some ⟨Z,0,none⟩)) undef undef undef) W):=fun W Z tt gg ee hZ hZ1=>by
  subst hT1;rw [HG.out];dsimp only;refine qW [1] ?_;refine qK (fun K hK=>?_) ?_
  ·go_simp
   refine (qbd tt).mono ?_;intro e W1 hR;rcases hp:p1 l0 with c | ⟨pr,l1⟩
   ·rw [hp] at hR
    obtain ⟨rfl,hg⟩:=qar hR;have e9:RP w lo r (VTk lo) (pTk l0) (gup c) W1:=by
     rw [ee,qaj hp];exact ⟨rfl,qa1 HB.out (qa1 gg hg)⟩
    exact ⟨rfl,e9⟩
   ·rw [hp] at hR
    obtain ⟨u1,rfl,hv,t1,g1⟩:=qaq hR;have q:u1=I pr:=hv;subst q;refine hK.out _ _ (HX.out W1 (qa1 gg g1)) (fun _=>?_);try simp only [qN]
    exact (HG.out _ _ _ _).mp (K1T.out _ pr _ _ t1 (qa1 gg g1) (ee.trans (qa9 hp)) (qb8 g1 hZ (by have:=HB.out.size;omega)) hZ1)
  exact qn
 have K0F:Hid (∀(W:World),(Rst W lo r l0)→(w1.grownBy W (some r))→(pTk l0=(andP p1 fun pr=>andP p1 fun rg=>andP (pn 1) fun f=>andP p1 fun li=>andP (pn 4) fun m=>andP pM fun ii=>andP pL fun o=>andP (pn 1) fun a=>qc2 f fun b=>(⟨pr,rg,b,li,m,ii,o,a⟩:TkR)) l0)→G 5 #[true,false,true,false,false,false,false] (T1 undef undef undef undef) W):=fun W tt gg ee=>by
  subst hT1;rw [HG.out];dsimp only;refine qW [1,5] ?_;refine qK (fun K hK=>?_) ?_
  ·go_simp
   refine (qbd tt).mono ?_;intro e W1 hR;rcases hp:p1 l0 with c | ⟨pr,l1⟩
   ·rw [hp] at hR
    obtain ⟨rfl,hg⟩:=qar hR;have e9:RP w lo r (VTk lo) (pTk l0) (gup c) W1:=by
     rw [ee,qaj hp];exact ⟨rfl,qa1 HB.out (qa1 gg hg)⟩
    exact ⟨rfl,e9⟩
   ·rw [hp] at hR
    obtain ⟨u1,rfl,hv,t1,g1⟩:=qaq hR;have q:u1=I pr:=hv;subst q;refine hK.out _ _ (HX.out W1 (qa1 gg g1)) (fun _=>?_);try simp only [qN]
    exact (HG.out _ _ _ _).mp (K1F.out _ pr _  t1 (qa1 gg g1) (ee.trans (qa9 hp)))
  refine qK (fun K hK=>?_) ?_
  ·go_simp
   have hh:=qah (r:=some r) (qa0 W (.cells #[I 0,I 0,.bool false,I 0,.int .u32 0,I 0,qZ,.int .u32 0] 71));refine hK.out _ _ (HX.out _ (qa1 gg hh)) (fun _=>?_);try simp only [qN]
   exact (HG.out _ _ _ _).mp (K0T.out _ _ (tt.al _) (qa1 gg hh) ee (heap_alloc_new _ _) gg.size)
  exact qn
 subst hT1;exact K0F.out _ t0 G0 E0.out
end Go.Proofs.YtijgopkhdjaolabGreat
