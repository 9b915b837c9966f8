import Derived.Test.YtijgopkhdjaolabGreatXHrrTk
import Derived.Test.YtijgopkhdjaolabGreatXHrrMs
import Derived.Deep.RegionHeldLaw
import Derived.Test.YtijgopkhdjaolabGreatXHy5
import Derived.Test.YtijgopkhdjaolabGreatXGc
set_option linter.unusedSimpArgs false
set_option linter.unusedVariables false
set_option maxHeartbeats 16000000
set_option maxRecDepth 100000
namespace Go.Proofs.YtijgopkhdjaolabGreat
open Go.RowKit Go.Shelf Go.Sort
open Go.Proofs.YtijgopkhdjaolabGreat.Ob (leB leV qa8 qag crc Rd RdAll qa7 Rdr)
theorem qnf {fn:Func} {m:Nat} (hf:fn.results=#[.cell m 87]) (tmps:Array Value) (b:Nat) (w:World) (z0 z1 z2 z3 z4 z5 z6 z7:Value) (h2:tmps[m]?=some (.pointer (some ⟨b,0,none⟩))) (hk:w.heap[b]?=some (.cells #[z0,z1,z2,z3,z4,z5,z6,z7] 87 (0,0))) (h1:z0.oneCell'=true∧z1.oneCell'=true∧z2.oneCell'=true∧z3.oneCell'=true∧z4.oneCell'=true∧z5.oneCell'=true∧z6.oneCell'=true∧z7.oneCell'=true):(results fn tmps).run Tryz.prog w=.ok (.agg #[z0,z1,z2,z3,z4,z5,z6,z7]) w:=by
 have a1:=fun i=>cell_of_row w b i _ _ (0,0) hk
 have y0:=a1 0;have y1:=a1 1;have y2:=a1 2;have y3:=a1 3;have y4:=a1 4;have y5:=a1 5;have y6:=a1 6;have y7:=a1 7;simp at y0 y1 y2 y3 y4 y5 y6 y7;simp [results,hf,go_sem,h2,y0,y1,y2,y3,y4,y5,y6,y7]
theorem qsu {w:World} {lo r:Nat} {l0:List UInt8} (t0:Rst w lo r l0) (j:Nat):Calls Tryz.prog 50 #[rdP r,I j] w fun e w'=>RP w lo r VMs (pMs l0) e w':=by
 have hlo:=t0.le;have hrl:=t0.lt;have hc0:=qcq w r;have hb1:=qa0 (w.alloc (rdO r)) (.cells #[I 0,I 0,I 0,.int .u64 0,I 0,I 0,I 0,.int .u32 0] 87);have hY0:=heap_alloc_new (w.alloc (rdO r)) (.cells #[I 0,I 0,I 0,.int .u64 0,I 0,I 0,I 0,.int .u32 0] 87);have HX:Hid (∀W,((w.alloc (rdO r)).alloc (.cells #[I 0,I 0,I 0,.int .u64 0,I 0,I 0,I 0,.int .u32 0] 87)).grownBy W (some r)→W.cell? ⟨w.heap.size,0,none⟩=some (.pointer (some ⟨r,0,none⟩))):=fun W hW=>hW.cell (by rw [qa5 hb1 _ _ (by simp)];exact hc0) (by show some w.heap.size≠some r;intro e;cases e;omega)
 have HY:Hid (∀W,((w.alloc (rdO r)).alloc (.cells #[I 0,I 0,I 0,.int .u64 0,I 0,I 0,I 0,.int .u32 0] 87)).grownBy W (some r)→W.heap[w.heap.size+1]?=some (.cells #[I 0,I 0,I 0,.int .u64 0,I 0,I 0,I 0,.int .u32 0] 87)):=fun W hW=>qb8 hW (by have:=hY0;rwa [show (w.alloc (rdO r)).heap.size=w.heap.size+1 by simp] at this) (by omega)
 have s0:=(t0.al (rdO r)).al (.cells #[I 0,I 0,I 0,.int .u64 0,I 0,I 0,I 0,.int .u32 0] 87);have HB:Hid (w.grownBy ((w.alloc (rdO r)).alloc (.cells #[I 0,I 0,I 0,.int .u64 0,I 0,I 0,I 0,.int .u32 0] 87)) (some r)):=qah ((qa0 w _).trans (hb1.mono (qa0 w _).size));have E0:Hid (pMs l0=pMs l0):=rfl;clear hc0 hb1 hY0 t0;go_enter Tryz.func50,Tryz.ntmps50
 go_upto_region 1 with fail;generalize (w.alloc (rdO r)).alloc (.cells #[I 0,I 0,I 0,.int .u64 0,I 0,I 0,I 0,.int .u32 0] 87)=w1 at *;have G0:=qah (r:=some r) (Below.refl w1.heap.size w1).drew;have HC:=HX.out w1.drew G0;refine wp_region_held_drew (S:=fun W=>W.cell? ⟨w.heap.size,0,none⟩=some (.pointer (some ⟨r,0,none⟩))) (by kernel_rfl) HC (fun hHeld=>?_);clear HC;change wpAnyH _ _ _ _ _ _ #[false,false,false,false,false,false,false,false,false,false,false,false,false,false] _ _;try simp only [qN]
 refine qTH 0 (rdP r) rfl hHeld ?_;try simp only [qN]
 refine qTH 2 (rdP r) rfl hHeld ?_;try simp only [qN]
 refine qTH 4 (rdP r) rfl hHeld ?_;try simp only [qN]
 refine qTH 6 (rdP r) rfl hHeld ?_;try simp only [qN]
 refine qTH 8 (rdP r) rfl hHeld ?_;try simp only [qN]
 refine qTH 10 (rdP r) rfl hHeld ?_;try simp only [qN]
 clear hHeld;have t0:=s0.below (Below.refl w1.heap.size w1).drew;clear s0;generalize w1.drew=W0 at *;refine qR1 (i:=1) rfl (fun K hK=>?_);go_simp;refine (qbd t0).mono ?_;intro e W1 hR;rcases hp:p1 l0 with c | ⟨k,l1⟩
 ·rw [hp] at hR
  obtain ⟨rfl,hg⟩:=qar hR;have e9:RP w lo r VMs (pMs l0) (gup c) W1:=by
   rw [E0.out];unfold pMs;rw [qaj hp];exact ⟨rfl,qa1 HB.out (qa1 G0 hg)⟩
  exact ⟨rfl,e9⟩
 rw [hp] at hR;obtain ⟨u1,rfl,hv,t1,g1⟩:=qaq hR;have q:u1=I k:=hv;subst q;have GG:=qa1 G0 g1;have EE:Hid (pMs l0=(andP p1 fun n=>andP p1 fun f=>andP (pn 8) fun i=>andP p1 fun q=>andP pAc fun a=>retP ⟨k,n,f,i,q,a⟩) l1):=by
  show _=_;rw [E0.out];unfold pMs;rw [qa9 hp]
 skip;refine hK.out _ _ (HX.out W1 GG) (fun hSS=>?_);clear hSS hK K hR hp E0 G0 t0;have G0:=GG;have E0:=EE;clear GG EE g1;try simp only [qN]
 refine qR1 (i:=3) rfl (fun K hK=>?_);go_simp;refine (qbd t1).mono ?_;intro e W2 hR;rcases hp:p1 l1 with c | ⟨n,l2⟩
 ·rw [hp] at hR
  obtain ⟨rfl,hg⟩:=qar hR;have e9:RP w lo r VMs (pMs l0) (gup c) W2:=by
   rw [E0.out];skip;rw [qaj hp];exact ⟨rfl,qa1 HB.out (qa1 G0 hg)⟩
  exact ⟨rfl,e9⟩
 rw [hp] at hR;obtain ⟨u2,rfl,hv,t2,g2⟩:=qaq hR;have q:u2=I n:=hv;subst q;have GG:=qa1 G0 g2;have EE:Hid (pMs l0=(andP p1 fun f=>andP (pn 8) fun i=>andP p1 fun q=>andP pAc fun a=>retP ⟨k,n,f,i,q,a⟩) l2):=by
  show _=_;rw [E0.out];skip;rw [qa9 hp]
 skip;refine hK.out _ _ (HX.out W2 GG) (fun hSS=>?_);clear hSS hK K hR hp E0 G0 t1;have G0:=GG;have E0:=EE;clear GG EE g2;try simp only [qN]
 refine qR1 (i:=5) rfl (fun K hK=>?_);go_simp;refine (qbd t2).mono ?_;intro e W3 hR;rcases hp:p1 l2 with c | ⟨f,l3⟩
 ·rw [hp] at hR
  obtain ⟨rfl,hg⟩:=qar hR;have e9:RP w lo r VMs (pMs l0) (gup c) W3:=by
   rw [E0.out];skip;rw [qaj hp];exact ⟨rfl,qa1 HB.out (qa1 G0 hg)⟩
  exact ⟨rfl,e9⟩
 rw [hp] at hR;obtain ⟨u3,rfl,hv,t3,g3⟩:=qaq hR;have q:u3=I f:=hv;subst q;have GG:=qa1 G0 g3;have EE:Hid (pMs l0=(andP (pn 8) fun i=>andP p1 fun q=>andP pAc fun a=>retP ⟨k,n,f,i,q,a⟩) l3):=by
  show _=_;rw [E0.out];skip;rw [qa9 hp]
 skip;refine hK.out _ _ (HX.out W3 GG) (fun hSS=>?_);clear hSS hK K hR hp E0 G0 t2;have G0:=GG;have E0:=EE;clear GG EE g3;try simp only [qN]
 refine qR1 (i:=7) rfl (fun K hK=>?_);go_simp;refine (qez t3 8 (by omega) (by omega)).mono ?_;intro e W4 hR;rcases hp:pn 8 l3 with c | ⟨i,l4⟩
 ·rw [hp] at hR
  obtain ⟨rfl,hg⟩:=qar hR;have e9:RP w lo r VMs (pMs l0) (gup c) W4:=by
   rw [E0.out];skip;rw [qaj hp];exact ⟨rfl,qa1 HB.out (qa1 G0 hg)⟩
  exact ⟨rfl,e9⟩
 rw [hp] at hR;obtain ⟨u4,rfl,hv,t4,g4⟩:=qaq hR;have q:u4=.int .u64 (i:Int):=hv;subst q;have GG:=qa1 G0 g4;have EE:Hid (pMs l0=(andP p1 fun q=>andP pAc fun a=>retP ⟨k,n,f,i,q,a⟩) l4):=by
  show _=_;rw [E0.out];skip;rw [qa9 hp]
 skip;refine hK.out _ _ (HX.out W4 GG) (fun hSS=>?_);clear hSS hK K hR hp E0 G0 t3;have G0:=GG;have E0:=EE;clear GG EE g4;try simp only [qN]
 refine qR1 (i:=9) rfl (fun K hK=>?_);go_simp;refine (qbd t4).mono ?_;intro e W5 hR;rcases hp:p1 l4 with c | ⟨q,l5⟩
 ·rw [hp] at hR
  obtain ⟨rfl,hg⟩:=qar hR;have e9:RP w lo r VMs (pMs l0) (gup c) W5:=by
   rw [E0.out];skip;rw [qaj hp];exact ⟨rfl,qa1 HB.out (qa1 G0 hg)⟩
  exact ⟨rfl,e9⟩
 rw [hp] at hR;obtain ⟨u5,rfl,hv,t5,g5⟩:=qaq hR;have q:u5=I q:=hv;subst q;have GG:=qa1 G0 g5;have EE:Hid (pMs l0=(andP pAc fun a=>retP ⟨k,n,f,i,q,a⟩) l5):=by
  show _=_;rw [E0.out];skip;rw [qa9 hp]
 skip;refine hK.out _ _ (HX.out W5 GG) (fun hSS=>?_);clear hSS hK K hR hp E0 G0 t4;have G0:=GG;have E0:=EE;clear GG EE g5;try simp only [qN]
 refine qR1 (i:=11) rfl (fun K hK=>?_);go_simp;refine (qpm t5).mono ?_;intro e W6 hR;rcases hp:pAc l5 with c | ⟨a,l6⟩
 ·rw [hp] at hR
  obtain ⟨rfl,hg⟩:=qar hR;have e9:RP w lo r VMs (pMs l0) (gup c) W6:=by
   rw [E0.out];skip;rw [qaj hp];exact ⟨rfl,qa1 HB.out (qa1 G0 hg)⟩
  exact ⟨rfl,e9⟩
 rw [hp] at hR;obtain ⟨u6,rfl,hv,t6,g6⟩:=qaq hR;have q:u6=.agg #[I a.kind,I a.task,.int .u32 (a.mask:Int)]:=hv;subst q;have GG:=qa1 G0 g6;have EE:Hid (pMs l0=(retP ⟨k,n,f,i,q,a⟩) l6):=by
  show _=_;rw [E0.out];skip;rw [qa9 hp]
 skip;refine hK.out _ _ (HX.out W6 GG) (fun hSS=>?_);clear hSS hK K hR hp E0 G0 t5;have G0:=GG;have E0:=EE;clear GG EE g6;try simp only [qN]
 refine wpAnyH_take (i:=12) (v:=.agg #[I k,I n,I f,.int .u64 (i:Int),I q,I a.kind,I a.task,.int .u32 (a.mask:Int)]) rfl (by kernel_rfl) (by kernel_rfl) (by kernel_rfl) (fun _ _ _ h=>h) (Or.inl ⟨by rfl,?_⟩) (HX.out W6 G0) ?_
 ·intro w' hSw
  try dsimp only at hSw
  go_simp
 try simp only [qN]
 have hY:=HY.out W6 G0;have cY0:(W6).cell? ⟨w.heap.size+1,0,none⟩=some (I 0):=by rw [qcr hY];rfl
 have fY0:(W6).frozen? ⟨w.heap.size+1,0,none⟩=false:=frozen_of_row _ _ _ _ _ hY;have hY0:=heap_setCell_same (W6) (w.heap.size+1) 0 _ _ (I k) hY;have cY1:((W6).setCell ⟨w.heap.size+1,0,none⟩ (I k)).cell? ⟨w.heap.size+1,1,none⟩=some (I 0):=by rw [qcr hY0];rfl
 have fY1:((W6).setCell ⟨w.heap.size+1,0,none⟩ (I k)).frozen? ⟨w.heap.size+1,1,none⟩=false:=frozen_of_row _ _ _ _ _ hY0;have hY1:=heap_setCell_same ((W6).setCell ⟨w.heap.size+1,0,none⟩ (I k)) (w.heap.size+1) 1 _ _ (I n) hY0;have cY2:(qS2 W6 (w.heap.size+1) (I k) (I n)).cell? ⟨w.heap.size+1,2,none⟩=some (I 0):=by rw [qcr hY1];rfl
 have fY2:(qS2 W6 (w.heap.size+1) (I k) (I n)).frozen? ⟨w.heap.size+1,2,none⟩=false:=frozen_of_row _ _ _ _ _ hY1;have hY2:=heap_setCell_same (qS2 W6 (w.heap.size+1) (I k) (I n)) (w.heap.size+1) 2 _ _ (I f) hY1;have cY3:(qS3 W6 (w.heap.size+1) (I k) (I n) (I f)).cell? ⟨w.heap.size+1,3,none⟩=some (.int .u64 0):=by rw [qcr hY2];rfl
 have fY3:(qS3 W6 (w.heap.size+1) (I k) (I n) (I f)).frozen? ⟨w.heap.size+1,3,none⟩=false:=frozen_of_row _ _ _ _ _ hY2;have hY3:=heap_setCell_same (qS3 W6 (w.heap.size+1) (I k) (I n) (I f)) (w.heap.size+1) 3 _ _ (.int .u64 (i:Int)) hY2;have cY4:(qS4 W6 (w.heap.size+1) (I k) (I n) (I f) (.int .u64 (i:Int))).cell? ⟨w.heap.size+1,4,none⟩=some (I 0):=by rw [qcr hY3];rfl
 have fY4:(qS4 W6 (w.heap.size+1) (I k) (I n) (I f) (.int .u64 (i:Int))).frozen? ⟨w.heap.size+1,4,none⟩=false:=frozen_of_row _ _ _ _ _ hY3;have hY4:=heap_setCell_same (qS4 W6 (w.heap.size+1) (I k) (I n) (I f) (.int .u64 (i:Int))) (w.heap.size+1) 4 _ _ (I q) hY3;have cY5:(qS5 W6 (w.heap.size+1) (I k) (I n) (I f) (.int .u64 (i:Int)) (I q)).cell? ⟨w.heap.size+1,5,none⟩=some (I 0):=by rw [qcr hY4];rfl
 have fY5:(qS5 W6 (w.heap.size+1) (I k) (I n) (I f) (.int .u64 (i:Int)) (I q)).frozen? ⟨w.heap.size+1,5,none⟩=false:=frozen_of_row _ _ _ _ _ hY4;have hY5:=heap_setCell_same (qS5 W6 (w.heap.size+1) (I k) (I n) (I f) (.int .u64 (i:Int)) (I q)) (w.heap.size+1) 5 _ _ (I a.kind) hY4;have cY6:(qS6 W6 (w.heap.size+1) (I k) (I n) (I f) (.int .u64 (i:Int)) (I q) (I a.kind)).cell? ⟨w.heap.size+1,6,none⟩=some (I 0):=by rw [qcr hY5];rfl
 have fY6:(qS6 W6 (w.heap.size+1) (I k) (I n) (I f) (.int .u64 (i:Int)) (I q) (I a.kind)).frozen? ⟨w.heap.size+1,6,none⟩=false:=frozen_of_row _ _ _ _ _ hY5;have hY6:=heap_setCell_same (qS6 W6 (w.heap.size+1) (I k) (I n) (I f) (.int .u64 (i:Int)) (I q) (I a.kind)) (w.heap.size+1) 6 _ _ (I a.task) hY5;have cY7:(qS7 W6 (w.heap.size+1) (I k) (I n) (I f) (.int .u64 (i:Int)) (I q) (I a.kind) (I a.task)).cell? ⟨w.heap.size+1,7,none⟩=some (.int .u32 0):=by rw [qcr hY6];rfl
 have fY7:(qS7 W6 (w.heap.size+1) (I k) (I n) (I f) (.int .u64 (i:Int)) (I q) (I a.kind) (I a.task)).frozen? ⟨w.heap.size+1,7,none⟩=false:=frozen_of_row _ _ _ _ _ hY6;have hY7:=heap_setCell_same (qS7 W6 (w.heap.size+1) (I k) (I n) (I f) (.int .u64 (i:Int)) (I q) (I a.kind) (I a.task)) (w.heap.size+1) 7 _ _ (.int .u32 (a.mask:Int)) hY6;refine qR1 (i:=13) rfl (fun K hK=>?_);go_simp;have hSf:(qS8 W6 (w.heap.size+1) (I k) (I n) (I f) (.int .u64 (i:Int)) (I q) (I a.kind) (I a.task) (.int .u32 (a.mask:Int))).cell? ⟨w.heap.size,0,none⟩=some (.pointer (some ⟨r,0,none⟩)):=by
  have hz:=HX.out W6 G0;repeat rw [World.cell?_setCell_far _ _ _ _ (by show w.heap.size+1≠w.heap.size;omega)]
  exact hz
 refine hK.out _ _ hSf (fun hSS=>?_);clear hSS hK K;try simp only [qN]
 refine wpAnyH_done (by kernel_rfl) ?_ _;have hYL:(qS8 W6 (w.heap.size+1) (I k) (I n) (I f) (.int .u64 (i:Int)) (I q) (I a.kind) (I a.task) (.int .u32 (a.mask:Int))).heap[w.heap.size+1]?=some (.cells #[I k,I n,I f,.int .u64 (i:Int),I q,I a.kind,I a.task,.int .u32 (a.mask:Int)] 87):=hY7;have hEnd:RP w lo r VMs (pMs l0) (.returned (.agg #[I k,I n,I f,.int .u64 (i:Int),I q,I a.kind,I a.task,.int .u32 (a.mask:Int)])) (qS8 W6 (w.heap.size+1) (I k) (I n) (I f) (.int .u64 (i:Int)) (I q) (I a.kind) (I a.task) (.int .u32 (a.mask:Int))):=by
  rw [E0.out];skip;refine ⟨_,rfl,rfl,((((((((t6.setY (by omega)).setY (by omega)).setY (by omega)).setY (by omega)).setY (by omega)).setY (by omega)).setY (by omega)).setY (by omega)),(qae (qae (qae (qae (qae (qae (qae (qae (qa1 HB.out G0) (by omega)) (by omega)) (by omega)) (by omega)) (by omega)) (by omega)) (by omega)) (by omega))⟩
 clear E0;go_wp2;refine bodyPost_ret (qnf Tryz.results50 _ (w.heap.size+1) _ _ _ _ _ _ _ _ _ rfl hYL ⟨rfl,rfl,rfl,rfl,rfl,rfl,rfl,rfl⟩) rfl ?_;exact hEnd
end Go.Proofs.YtijgopkhdjaolabGreat
namespace Go.Proofs.YtijgopkhdjaolabGreat
open Go.RowKit Go.Shelf Go.Sort
open Go.Proofs.YtijgopkhdjaolabGreat.Ob (leB leV qa8 qag crc Rd RdAll qa7 rd_drop)
def dMs : DS→MsR×DS:=dB qb0 fun k=>dB qb0 fun n=>dB qb0 fun f=>dB (dTk 8) fun i=>dB qb0 fun q=>dB dAc fun a=>dR ⟨k,n,f,i,q,a⟩
theorem qp0 (w:World) (r:Nat) (s:DS) (h:dSt w r s):Calls Tryz.prog 68 #[.pointer (some ⟨r,0,none⟩)] w fun e w'=>e=.returned (.agg #[I (dMs s).1.kind,I (dMs s).1.len,I (dMs s).1.frm,.int .u64 ((dMs s).1.init:Int),I (dMs s).1.queue,I (dMs s).1.ac.kind,I (dMs s).1.ac.task,.int .u32 ((dMs s).1.ac.mask:Int)])∧dSt w' r (dMs s).2∧w.grownBy w' (some r):=by
 have hE:Hid (dMs s=(⟨(dOne s).1,(dOne ((dOne s).2)).1,(dOne ((dOne ((dOne s).2)).2)).1,(dTk 8 ((dOne ((dOne ((dOne s).2)).2)).2)).1,(dOne ((dTk 8 ((dOne ((dOne ((dOne s).2)).2)).2)).2)).1,(dAc ((dOne ((dTk 8 ((dOne ((dOne ((dOne s).2)).2)).2)).2)).2)).1⟩,(dAc ((dOne ((dTk 8 ((dOne ((dOne ((dOne s).2)).2)).2)).2)).2)).2)):=by show _=_;simp only [dMs,dB,dR,qb0,dM]
 rw [hE.out];clear hE;have HJ0:Hid (DF w (w.alloc (.cells #[I 0,I 0,I 0,.int .u64 0,I 0,I 0,I 0,.int .u32 0] 87)) r s∧HC w (w.alloc (.cells #[I 0,I 0,I 0,.int .u64 0,I 0,I 0,I 0,.int .u32 0] 87)) r w.heap.size 87 #[I 0,I 0,I 0,.int .u64 0,I 0,I 0,I 0,.int .u32 0]):=⟨(DF.start h).below (qa0 w _),HC.new (DF.start h) #[I 0,I 0,I 0,.int .u64 0,I 0,I 0,I 0,.int .u32 0] 87⟩;have hlr:=h.lt;clear h;go_enter Tryz.func68,Tryz.ntmps68
 go_upto_region 1 with fail;generalize w.alloc (.cells #[I 0,I 0,I 0,.int .u64 0,I 0,I 0,I 0,.int .u32 0] 87)=w1 at *;generalize hX:w.heap.size=X at *;have HX:Hid (w.heap.size=X):=hX;have HLR:Hid (r < X):=hlr;clear hX hlr;have hT:=qbh w1 r s HJ0.out.1.d;go_upto_region 2 with (first | (go_at_call 21;refine hT.mono ?_;clear hT;have hb0:=qbj 1 s (by omega);change (dOne s).1 < 256 ^ 1 at hb0;rintro e w2 ⟨rfl,hd,hg⟩;have HJ1:Hid (DF w w2 r ((dOne s).2)∧HC w w2 r X 87 #[I 0,I 0,I 0,.int .u64 0,I 0,I 0,I 0,.int .u32 0]):=⟨HJ0.out.1.call hd hg,HJ0.out.2.call (by have:=HX.out;have:=HLR.out;omega) hg⟩;clear hd hg HJ0;have hT:=qbh w2 r ((dOne s).2) HJ1.out.1.d) | (go_at_call 21;refine hT.mono ?_;clear hT;have hb1:=qbj 1 ((dOne s).2) (by omega);change (dOne ((dOne s).2)).1 < 256 ^ 1 at hb1;rintro e w3 ⟨rfl,hd,hg⟩;have HJ2:Hid (DF w w3 r ((dOne ((dOne s).2)).2)∧HC w w3 r X 87 #[I 0,I 0,I 0,.int .u64 0,I 0,I 0,I 0,.int .u32 0]):=⟨HJ1.out.1.call hd hg,HJ1.out.2.call (by have:=HX.out;have:=HLR.out;omega) hg⟩;clear hd hg HJ1;have hT:=qbh w3 r ((dOne ((dOne s).2)).2) HJ2.out.1.d) | (go_at_call 21;refine hT.mono ?_;clear hT;have hb2:=qbj 1 ((dOne ((dOne s).2)).2) (by omega);change (dOne ((dOne ((dOne s).2)).2)).1 < 256 ^ 1 at hb2;rintro e w4 ⟨rfl,hd,hg⟩;have HJ3:Hid (DF w w4 r ((dOne ((dOne ((dOne s).2)).2)).2)∧HC w w4 r X 87 #[I 0,I 0,I 0,.int .u64 0,I 0,I 0,I 0,.int .u32 0]):=⟨HJ2.out.1.call hd hg,HJ2.out.2.call (by have:=HX.out;have:=HLR.out;omega) hg⟩;clear hd hg HJ2));generalize hq1:dOne s=q1 at *;have Hq1:Hid (dOne s=q1):=hq1;clear hq1;generalize hq2:dOne (q1.2)=q2 at *;have Hq2:Hid (dOne (q1.2)=q2):=hq2;clear hq2;generalize hq3:dOne (q2.2)=q3 at *;have Hq3:Hid (dOne (q2.2)=q3):=hq3;clear hq3;have hsz:=HJ3.out.1.g.size;have hXX:=HX.out;have HJ4:Hid (DF w (w4.alloc (.cells #[I q1.1,I q2.1,I q3.1,.int .u64 0,I 0,I 0,I 0,.int .u32 0] 87)) r q3.2∧HC w (w4.alloc (.cells #[I q1.1,I q2.1,I q3.1,.int .u64 0,I 0,I 0,I 0,.int .u32 0] 87)) r X 87 #[I 0,I 0,I 0,.int .u64 0,I 0,I 0,I 0,.int .u32 0]∧HC w (w4.alloc (.cells #[I q1.1,I q2.1,I q3.1,.int .u64 0,I 0,I 0,I 0,.int .u32 0] 87)) r w4.heap.size 87 #[I q1.1,I q2.1,I q3.1,.int .u64 0,I 0,I 0,I 0,.int .u32 0]∧X≠w4.heap.size):=⟨HJ3.out.1.below (qa0 _ _),HJ3.out.2.below (qa0 _ _),HC.new HJ3.out.1 _ _,by have:=qa6 HJ3.out.2.2;omega⟩;clear hsz hXX HJ3;generalize w4.alloc (.cells #[I q1.1,I q2.1,I q3.1,.int .u64 0,I 0,I 0,I 0,.int .u32 0] 87)=w5 at *;generalize w4.heap.size=Y at *;have hT:=qee w5 r 8 q3.2 HJ4.out.1.d (by omega) (by omega);go_upto_region 3 with (first | (go_at_call 20;refine hT.mono ?_;clear hT;rintro e w6 ⟨rfl,hd,hg⟩;have HJ5:Hid (DF w w6 r ((dTk 8 q3.2).2)∧HC w w6 r X 87 #[I 0,I 0,I 0,.int .u64 0,I 0,I 0,I 0,.int .u32 0]∧HC w w6 r Y 87 #[I q1.1,I q2.1,I q3.1,.int .u64 0,I 0,I 0,I 0,.int .u32 0]∧X≠Y):=⟨HJ4.out.1.call hd hg,HJ4.out.2.1.call (by have:=HX.out;have:=HLR.out;omega) hg,HJ4.out.2.2.1.call (by have:=HX.out;have:=HLR.out;omega) hg,HJ4.out.2.2.2⟩;clear hd hg HJ4;have k0:=HJ5.out.2.2.1;have a0:w6.cell? ⟨Y,3,none⟩=some (.int .u64 0):=(by rw [qcr k0.2];rfl);have f0:=frozen_of_row w6 Y 3 _ _ k0.2));generalize hq4:dTk 8 q3.2=q4 at *;have Hq4:Hid (dTk 8 q3.2=q4):=hq4;clear hq4;have HJ6:Hid (DF w (w6.setCell ⟨Y,3,none⟩ (.int .u64 (q4.1:Int))) r q4.2∧HC w (w6.setCell ⟨Y,3,none⟩ (.int .u64 (q4.1:Int))) r X 87 #[I 0,I 0,I 0,.int .u64 0,I 0,I 0,I 0,.int .u32 0]∧HC w (w6.setCell ⟨Y,3,none⟩ (.int .u64 (q4.1:Int))) r Y 87 #[I q1.1,I q2.1,I q3.1,.int .u64 (q4.1:Int),I 0,I 0,I 0,.int .u32 0]∧X≠Y):=⟨(HJ5.out.1.set (X:=Y) (i:=3) (v:=.int .u64 (q4.1:Int)) HJ5.out.2.2.1.1),(HJ5.out.2.1.other (Y:=Y) (i:=3) (v:=.int .u64 (q4.1:Int)) HJ5.out.2.2.2),(HJ5.out.2.2.1.set (i:=3) (v:=.int .u64 (q4.1:Int))),HJ5.out.2.2.2⟩;clear HJ5 k0 a0 f0;generalize (w6.setCell ⟨Y,3,none⟩ (.int .u64 (q4.1:Int)))=w7 at *;have hT:=qbh w7 r q4.2 HJ6.out.1.d;go_upto_region 4 with (first | (go_at_call 21;refine hT.mono ?_;clear hT;have hb4:=qbj 1 q4.2 (by omega);change (dOne q4.2).1 < 256 ^ 1 at hb4;rintro e w8 ⟨rfl,hd,hg⟩;have HJ7:Hid (DF w w8 r ((dOne q4.2).2)∧HC w w8 r X 87 #[I 0,I 0,I 0,.int .u64 0,I 0,I 0,I 0,.int .u32 0]∧HC w w8 r Y 87 #[I q1.1,I q2.1,I q3.1,.int .u64 (q4.1:Int),I 0,I 0,I 0,.int .u32 0]∧X≠Y):=⟨HJ6.out.1.call hd hg,HJ6.out.2.1.call (by have:=HX.out;have:=HLR.out;omega) hg,HJ6.out.2.2.1.call (by have:=HX.out;have:=HLR.out;omega) hg,HJ6.out.2.2.2⟩;clear hd hg HJ6;have k0:=HJ7.out.2.2.1;have a0:w8.cell? ⟨Y,4,none⟩=some (I 0):=(by rw [qcr k0.2];rfl);have f0:=frozen_of_row w8 Y 4 _ _ k0.2));generalize hq5:dOne q4.2=q5 at *;have Hq5:Hid (dOne q4.2=q5):=hq5;clear hq5;have HJ8:Hid (DF w (w8.setCell ⟨Y,4,none⟩ (I q5.1)) r q5.2∧HC w (w8.setCell ⟨Y,4,none⟩ (I q5.1)) r X 87 #[I 0,I 0,I 0,.int .u64 0,I 0,I 0,I 0,.int .u32 0]∧HC w (w8.setCell ⟨Y,4,none⟩ (I q5.1)) r Y 87 #[I q1.1,I q2.1,I q3.1,.int .u64 (q4.1:Int),I q5.1,I 0,I 0,.int .u32 0]∧X≠Y):=⟨(HJ7.out.1.set (X:=Y) (i:=4) (v:=I q5.1) HJ7.out.2.2.1.1),(HJ7.out.2.1.other (Y:=Y) (i:=4) (v:=I q5.1) HJ7.out.2.2.2),(HJ7.out.2.2.1.set (i:=4) (v:=I q5.1)),HJ7.out.2.2.2⟩;clear HJ7 k0 a0 f0;generalize (w8.setCell ⟨Y,4,none⟩ (I q5.1))=w9 at *;have hT:=qgf w9 r q5.2 HJ8.out.1.d;go_upto_region 5 with (first | (go_at_call 146;refine hT.mono ?_;clear hT;rintro e w10 ⟨rfl,hd,hg⟩;have HJ9:Hid (DF w w10 r ((dAc q5.2).2)∧HC w w10 r X 87 #[I 0,I 0,I 0,.int .u64 0,I 0,I 0,I 0,.int .u32 0]∧HC w w10 r Y 87 #[I q1.1,I q2.1,I q3.1,.int .u64 (q4.1:Int),I q5.1,I 0,I 0,.int .u32 0]∧X≠Y):=⟨HJ8.out.1.call hd hg,HJ8.out.2.1.call (by have:=HX.out;have:=HLR.out;omega) hg,HJ8.out.2.2.1.call (by have:=HX.out;have:=HLR.out;omega) hg,HJ8.out.2.2.2⟩;clear hd hg HJ8;have k0:=HJ9.out.2.2.1;have a0:w10.cell? ⟨Y,5,none⟩=some (I 0):=(by rw [qcr k0.2];rfl);have f0:=frozen_of_row w10 Y 5 _ _ k0.2;have k1:HC w (w10.setCell ⟨Y,5,none⟩ (I (dAc q5.2).1.kind)) r Y 87 #[I q1.1,I q2.1,I q3.1,.int .u64 (q4.1:Int),I q5.1,I (dAc q5.2).1.kind,I 0,.int .u32 0]:=k0.set;have a1:(w10.setCell ⟨Y,5,none⟩ (I (dAc q5.2).1.kind)).cell? ⟨Y,6,none⟩=some (I 0):=(by rw [qcr k1.2];rfl);have f1:=frozen_of_row (w10.setCell ⟨Y,5,none⟩ (I (dAc q5.2).1.kind)) Y 6 _ _ k1.2;have k2:HC w ((w10.setCell ⟨Y,5,none⟩ (I (dAc q5.2).1.kind)).setCell ⟨Y,6,none⟩ (I (dAc q5.2).1.task)) r Y 87 #[I q1.1,I q2.1,I q3.1,.int .u64 (q4.1:Int),I q5.1,I (dAc q5.2).1.kind,I (dAc q5.2).1.task,.int .u32 0]:=k1.set;have a2:((w10.setCell ⟨Y,5,none⟩ (I (dAc q5.2).1.kind)).setCell ⟨Y,6,none⟩ (I (dAc q5.2).1.task)).cell? ⟨Y,7,none⟩=some (.int .u32 0):=(by rw [qcr k2.2];rfl);have f2:=frozen_of_row ((w10.setCell ⟨Y,5,none⟩ (I (dAc q5.2).1.kind)).setCell ⟨Y,6,none⟩ (I (dAc q5.2).1.task)) Y 7 _ _ k2.2));generalize hq6:dAc q5.2=q6 at *;have Hq6:Hid (dAc q5.2=q6):=hq6;clear hq6;have HJ10:Hid (DF w (((w10.setCell ⟨Y,5,none⟩ (I q6.1.kind)).setCell ⟨Y,6,none⟩ (I q6.1.task)).setCell ⟨Y,7,none⟩ (.int .u32 (q6.1.mask:Int))) r q6.2∧HC w (((w10.setCell ⟨Y,5,none⟩ (I q6.1.kind)).setCell ⟨Y,6,none⟩ (I q6.1.task)).setCell ⟨Y,7,none⟩ (.int .u32 (q6.1.mask:Int))) r X 87 #[I 0,I 0,I 0,.int .u64 0,I 0,I 0,I 0,.int .u32 0]∧HC w (((w10.setCell ⟨Y,5,none⟩ (I q6.1.kind)).setCell ⟨Y,6,none⟩ (I q6.1.task)).setCell ⟨Y,7,none⟩ (.int .u32 (q6.1.mask:Int))) r Y 87 #[I q1.1,I q2.1,I q3.1,.int .u64 (q4.1:Int),I q5.1,I q6.1.kind,I q6.1.task,.int .u32 (q6.1.mask:Int)]∧X≠Y):=⟨(((HJ9.out.1.set (X:=Y) (i:=5) (v:=I q6.1.kind) HJ9.out.2.2.1.1).set (X:=Y) (i:=6) (v:=I q6.1.task) HJ9.out.2.2.1.1).set (X:=Y) (i:=7) (v:=.int .u32 (q6.1.mask:Int)) HJ9.out.2.2.1.1),(((HJ9.out.2.1.other (Y:=Y) (i:=5) (v:=I q6.1.kind) HJ9.out.2.2.2).other (Y:=Y) (i:=6) (v:=I q6.1.task) HJ9.out.2.2.2).other (Y:=Y) (i:=7) (v:=.int .u32 (q6.1.mask:Int)) HJ9.out.2.2.2),(((HJ9.out.2.2.1.set (i:=5) (v:=I q6.1.kind)).set (i:=6) (v:=I q6.1.task)).set (i:=7) (v:=.int .u32 (q6.1.mask:Int))),HJ9.out.2.2.2⟩;clear HJ9 k0 a0 f0 k1 a1 f1 k2 a2 f2;generalize (((w10.setCell ⟨Y,5,none⟩ (I q6.1.kind)).setCell ⟨Y,6,none⟩ (I q6.1.task)).setCell ⟨Y,7,none⟩ (.int .u32 (q6.1.mask:Int)))=w11 at *;have ky:=HJ10.out.2.2.1.2;have hz:=HJ10.out.2.1.2;have y0:w11.cell? ⟨Y,0,none⟩=some (I q1.1):=by rw [qcr ky];rfl
 have y1:w11.cell? ⟨Y,1,none⟩=some (I q2.1):=by rw [qcr ky];rfl
 have y2:w11.cell? ⟨Y,2,none⟩=some (I q3.1):=by rw [qcr ky];rfl
 have y3:w11.cell? ⟨Y,3,none⟩=some (.int .u64 (q4.1:Int)):=by rw [qcr ky];rfl
 have y4:w11.cell? ⟨Y,4,none⟩=some (I q5.1):=by rw [qcr ky];rfl
 have y5:w11.cell? ⟨Y,5,none⟩=some (I q6.1.kind):=by rw [qcr ky];rfl
 have y6:w11.cell? ⟨Y,6,none⟩=some (I q6.1.task):=by rw [qcr ky];rfl
 have y7:w11.cell? ⟨Y,7,none⟩=some (.int .u32 (q6.1.mask:Int)):=by rw [qcr ky];rfl
 have hi9:(Tryz.prog.info? 87).map (·.size)=some (#[I q1.1,I q2.1,I q3.1,.int .u64 (q4.1:Int),I q5.1,I q6.1.kind,I q6.1.task,.int .u32 (q6.1.mask:Int)]:Array Value).size:=by kernel_rfl
 clear ky;go_wp2_with (first | (refine wpList_store_row rfl 87 _ _ rfl X _ rfl rfl 87 _ hz hi9 rfl (by simp [Value.oneCell']) ?_));have hX:=HX.out;have hD:=HJ10.out.1.row (X:=X) (c:=#[I q1.1,I q2.1,I q3.1,.int .u64 (q4.1:Int),I q5.1,I q6.1.kind,I q6.1.task,.int .u32 (q6.1.mask:Int)]) (by omega);have hC:=HJ10.out.2.1.row (c2:=#[I q1.1,I q2.1,I q3.1,.int .u64 (q4.1:Int),I q5.1,I q6.1.kind,I q6.1.task,.int .u32 (q6.1.mask:Int)]);rw [Hq1.out];rw [Hq2.out];rw [Hq3.out];rw [Hq4.out];rw [Hq5.out];rw [Hq6.out];refine ⟨rfl,_,qnf rfl _ X _ _ _ _ _ _ _ _ _ ?_ hC.2 ⟨rfl,rfl,rfl,rfl,rfl,rfl,rfl,rfl⟩,rfl,hD.d,hD.g⟩;rfl
def Sim {α:Type} (p:Ps α) (d:DS→α×DS):Prop:=∀l,(∀x r,p l=.ok (x,r)→d (l,0)=(x,(r,0)))∧∀c,p l=.error c→(d (l,0)).2.2=c∧c≠0
def Stay {α:Type} (d:DS→α×DS):Prop:=∀s:DS,s.2≠0→(d s).2.2=s.2
theorem qg2 (c:Nat) (s:DS) (h:s.2≠0):(qcj c s).2=s.2:=by unfold qcj;rw [if_neg h]
theorem qb9 (m:Nat):Stay (dTk m):=fun s h=>by
 unfold dTk;split
 ·exact qg2 _ _ h
 ·first | rfl | (rw [if_neg h])
theorem qap {α:Type} (x:α):Stay (dR x):=fun s h=>rfl
theorem qa3 {α β:Type} {d:DS→α×DS} {f:α→DS→β×DS} (h:Stay d) (k:∀x,Stay (f x)):Stay (dB d f):=fun s hs=>by
 have h1:=h s hs;unfold dB;rw [k _ _ (by rw [h1];exact hs),h1]
theorem qlr (f:Nat):Stay (qc8 f):=fun s h=>by
 unfold qc8;dsimp only;split
 ·exact qg2 _ _ h
 ·rfl
theorem qaa {α:Type} {d:DS→α×DS} (n:Nat):Stay (dRep d n):=fun s h=>by rw [qcs h]
theorem qc1 : Stay dOne:=qb9 1
theorem qac : Stay qb0:=fun s h=>qb9 1 s h
theorem qeg : Stay dM:=fun s h=>qb9 1 s h
theorem qbb : Stay qax:=qb9 4
theorem qck : Stay qcd:=fun s h=>by
 unfold qcd;have h1:=qc1 s h;rw [qaa _ _ (by rw [h1];exact h),h1]
theorem qbv (m:Nat):Sim (pn m) (dTk m):=fun l=>by
 unfold pn dTk qcj;by_cases h:m≤l.length
 ·simp only [if_pos h]
  refine ⟨fun x r e=>?_,fun c e=>by cases e⟩;simp only [Except.ok.injEq,Prod.mk.injEq] at e;obtain ⟨rfl,rfl⟩:=e;have:¬l.length < m:=by omega
  simp [this]
 ·simp only [if_neg h]
  refine ⟨fun x r e=>(by cases e),fun c e=>?_⟩;simp only [Except.error.injEq] at e;subst e;have:l.length < m:=by omega
  simp [this]
theorem qe9 {α:Type} (x:α):Sim (retP x) (dR x):=fun l=>by
 refine ⟨fun y r e=>?_,fun c e=>by cases e⟩;unfold retP at e;simp only [Except.ok.injEq,Prod.mk.injEq] at e;obtain ⟨rfl,rfl⟩:=e;rfl
theorem qas {α β:Type} {p:Ps α} {d:DS→α×DS} {f:α→Ps β} {g:α→DS→β×DS} (h:Sim p d) (k:∀x,Sim (f x) (g x)) (s:∀x,Stay (g x)):Sim (andP p f) (dB d g):=fun l=>by
 unfold andP dB;cases hp:p l with
 | ok q=>
  obtain ⟨x,r⟩:=q;have h1:=(h l).1 x r hp;rw [h1];exact k x r
 | error c=>
  obtain ⟨h1,h2⟩:=(h l).2 c hp;refine ⟨fun x r e=>(by cases e),fun c' e=>?_⟩;simp only [Except.error.injEq] at e;subst e;exact ⟨by rw [s _ _ (by rw [h1];exact h2),h1],h2⟩
theorem qho {α β:Type} {p:Ps α} {d:DS→α×DS} (f:α→β) (h:Sim p d):Sim (andP p fun x=>retP (f x)) (fun s=>(f (d s).1,(d s).2)):=qas h (fun x=>qe9 (f x)) (fun x=>qap (f x))
theorem qbn : Sim p1 qb0:=qho (fun v=>((v:Nat):Int)) (qbv 1)
theorem qpp : Sim pM dM:=qho (fun v=>((v:Nat):Int) - 1) (qbv 1)
theorem qdg {α:Type} {p:Ps α} {d:DS→α×DS} (h:Sim p d) (hs:Stay d):∀n,Sim (qa4 p n) (dRep d n)
 | 0=>qe9 []
 | n+1=>fun l=>by
  have ih:=qdg h hs n;have q:Sim (andP p fun x=>andP (qa4 p n) fun xs=>retP (x :: xs)) (dB d fun x=>dB (dRep d n) fun xs=>dR (x :: xs)):=qas h (fun x=>qas ih (fun xs=>qe9 _) (fun xs=>qap _)) (fun x=>qa3 (qaa n) (fun xs=>qap _));have e:dRep d (n+1) (l,0)=(dB d fun x=>dB (dRep d n) fun xs=>dR (x :: xs)) (l,0):=by
   rw [qdf rfl];rfl
  rw [e];exact q l
theorem qjl : Sim pL qcd:=qas (qbv 1) (fun n=>qdg qbn qac n) (fun n=>qaa n)
theorem qng : Sim pAc dAc:=qas qbn (fun k=>qas qbn (fun t=>qas (qbv 4) (fun m=>qe9 _) (fun m=>qap _)) (fun t=>qa3 qbb (fun m=>qap _))) (fun k=>qa3 qac fun t=>qa3 qbb fun m=>qap _)
theorem qjm {α:Type} (f:Nat) (k:Bool→α):Sim (qc2 f k) (dB (qc8 f) fun b=>dR (k b)):=fun l=>by
 unfold qc2 dB qc8 dR qcj qpi retP;by_cases h:f≤1
 ·have h1:¬1 < f:=by omega
  simp only [if_pos h,if_neg h1];refine ⟨fun x r e=>?_,fun c e=>by cases e⟩;simp only [Except.ok.injEq,Prod.mk.injEq] at e;obtain ⟨rfl,rfl⟩:=e;rfl
 ·have h1:1 < f:=by omega
  simp only [if_neg h,if_pos h1];refine ⟨fun x r e=>(by cases e),fun c e=>?_⟩;simp only [Except.error.injEq] at e;subst e;simp
theorem qdu : Stay dAc:=qa3 qac fun k=>qa3 qac fun t=>qa3 qbb fun m=>qap _
theorem qcc {α:Type} (f:Nat) (k:Bool→α):Stay (dB (qc8 f) fun b=>dR (k b)):=qa3 (qlr f) fun b=>qap _
theorem qqk : Stay dTsk:=qa3 qac fun p=>qa3 qac fun g=>qa3 qc1 fun f=>qa3 qac fun li=>qa3 qbb fun m=>qa3 qeg fun i=>qa3 qck fun o=>qa3 qc1 fun a=>qcc _ _
theorem qrp : Sim pTk dTsk:=
 qas qbn (fun p=>qas qbn (fun g=>qas (qbv 1) (fun f=>qas qbn (fun li=>qas (qbv 4) (fun m=>qas qpp (fun i=>qas qjl (fun o=>qas (qbv 1) (fun a=>qjm _ _)
  (fun a=>qcc _ _)) (fun o=>qa3 qc1 fun a=>qcc _ _)) (fun i=>qa3 qck fun o=>qa3 qc1 fun a=>qcc _ _)) (fun m=>qa3 qeg fun i=>qa3 qck fun o=>qa3 qc1 fun a=>qcc _ _))
  (fun li=>qa3 qbb fun m=>qa3 qeg fun i=>qa3 qck fun o=>qa3 qc1 fun a=>qcc _ _)) (fun f=>qa3 qac fun li=>qa3 qbb fun m=>qa3 qeg fun i=>qa3 qck fun o=>qa3 qc1 fun a=>qcc _ _))
  (fun g=>qa3 qc1 fun f=>qa3 qac fun li=>qa3 qbb fun m=>qa3 qeg fun i=>qa3 qck fun o=>qa3 qc1 fun a=>qcc _ _))
  (fun p=>qa3 qac fun g=>qa3 qc1 fun f=>qa3 qac fun li=>qa3 qbb fun m=>qa3 qeg fun i=>qa3 qck fun o=>qa3 qc1 fun a=>qcc _ _)
theorem qql : Stay dRs:=qa3 qc1 fun f=>qa3 qeg fun c=>qcc _ _
theorem qrq : Sim pRs dRs:=qas (qbv 1) (fun f=>qas qpp (fun c=>qjm _ _) (fun c=>qcc _ _)) (fun f=>qa3 qeg fun c=>qcc _ _)
theorem qqm : Stay dAl:=qa3 qac fun c=>qa3 qdu fun a=>qa3 qc1 fun u=>qa3 qbb fun t=>qa3 qbb fun y=>qap _
theorem qrr : Sim pAl dAl:=
 qas qbn (fun c=>qas qng (fun a=>qas (qbv 1) (fun u=>qas (qbv 4) (fun t=>qas (qbv 4) (fun y=>qe9 _) (fun y=>qap _)) (fun t=>qa3 qbb fun y=>qap _)) (fun u=>qa3 qbb fun t=>qa3 qbb fun y=>qap _)) (fun a=>qa3 qc1 fun u=>qa3 qbb fun t=>qa3 qbb fun y=>qap _))
  (fun c=>qa3 qdu fun a=>qa3 qc1 fun u=>qa3 qbb fun t=>qa3 qbb fun y=>qap _)
theorem qqn : Stay dMs:=qa3 qac fun k=>qa3 qac fun n=>qa3 qac fun f=>qa3 (qb9 8) fun i=>qa3 qac fun q=>qa3 qdu fun a=>qap _
theorem qrs : Sim pMs dMs:=
 qas qbn (fun k=>qas qbn (fun n=>qas qbn (fun f=>qas (qbv 8) (fun i=>qas qbn (fun q=>qas qng (fun a=>qe9 _) (fun a=>qap _)) (fun q=>qa3 qdu fun a=>qap _)) (fun i=>qa3 qac fun q=>qa3 qdu fun a=>qap _))
  (fun f=>qa3 (qb9 8) fun i=>qa3 qac fun q=>qa3 qdu fun a=>qap _)) (fun n=>qa3 qac fun f=>qa3 (qb9 8) fun i=>qa3 qac fun q=>qa3 qdu fun a=>qap _))
  (fun k=>qa3 qac fun n=>qa3 qac fun f=>qa3 (qb9 8) fun i=>qa3 qac fun q=>qa3 qdu fun a=>qap _)
end Go.Proofs.YtijgopkhdjaolabGreat
namespace Go.Proofs.YtijgopkhdjaolabGreat
open Go.RowKit Go.Shelf Go.Sort
open Go.Proofs.YtijgopkhdjaolabGreat.Ob (leB leV qa8 qag crc Rd RdAll qa7 Rdr)
def VRg (_:World) (x:RgR) (u:Value):Prop:=u=.agg #[I x.prio,I x.cap]
def VRRg (lo:Nat) (W:World) (xs:List RgR) (u:Value):Prop:=∃(sa:Option Addr) (sc:Nat) (cs:List Value),u=.slice sa xs.length sc∧W.ownsRow lo 73 2 (.slice sa xs.length sc) xs.length cs∧RwX 2 rgrP xs cs
theorem qnh : (Tryz.prog.info? 73).map (fun i=>(i.zero,i.size,i.bytes))=some (some (.agg #[I 0,I 0]:Value),2,16):=by kernel_rfl
theorem qls {w:World} {lo r:Nat} {l:List UInt8} (n:Nat) (hn:n≤65535) (h:Rst w lo r l) (f:Nat) (bnd caps:Array Value) (eg:∀args W,(callFunc f args).run Tryz.prog W=.ok (.enter f args) W)
  (hf:∀(W:World) (l':List UInt8) (j:Nat),w.grownBy W (some r)→Rst W lo r l'→j < n→Calls Tryz.prog f (bnd++#[I j]++caps) W fun e w'=>RP W lo r VRg (pRg l') e w') :
  Calls Tryz.prog 39 #[I n,.func (.func f) bnd caps] w fun e w'=>RP w lo r (VRRg lo) (qa4 pRg n l) e w':=by
 obtain ⟨im,him,hm0,hm1,hm2⟩:=info_parts qnh;have HF:Hid (∀(W:World) (l':List UInt8) (j:Nat),w.grownBy W (some r)→Rst W lo r l'→j < n→Calls Tryz.prog f (bnd++#[I j]++caps) W fun e w'=>RP W lo r VRg (pRg l') e w'):=hf;have hlo:lo≤w.heap.size:=h.le;have hrl:r < lo:=h.lt;have HI:Hid (∃(xs:List RgR) (l':List UInt8) (cs:List Value),xs.length=0∧qa4 pRg n l=conP xs (qa4 pRg (n - 0) l')∧Rst w lo r l'∧w.grownBy w (some r)∧w.ownsRow w.heap.size 73 2 qZ 0 cs∧RwX 2 rgrP xs cs):=⟨[],l,[],rfl,(qda _).symm,h,qcf _ _,World.ownsRow_nil _ _ _ _,RwX.nil _ _⟩;clear hf h;go_enter Tryz.func39,Tryz.ntmps39
 go_wp2;go_loopw [5,6,8] (fun v5 _ v8 wr=>∃(j:Nat) (va:Option Addr) (vc:Nat),j≤n∧v8=I j∧v5=.slice va j vc∧Hid (∃(xs:List RgR) (l':List UInt8) (cs:List Value),xs.length=j∧qa4 pRg n l=conP xs (qa4 pRg (n - j) l')∧Rst wr lo r l'∧w.grownBy wr (some r)∧wr.ownsRow w.heap.size 73 2 v5 j cs∧RwX 2 rgrP xs cs)) (fun _ _ v8 _=>n - (intOf v8).toNat)
 case atStart=>exact ⟨0,none,0,by omega,rfl,rfl,HI.out⟩
 case round=>
  clear HI;obtain ⟨j,va,vc,hj,rfl,rfl,HJ⟩:=hrel;obtain ⟨xs,l1,cs,g1,g2,g3,g4,g5,g6⟩:=HJ.out;by_cases hlt:j < n
  ·have hlt':(j:Int) < n:=by omega
   have cx:=HF.out wr l1 j g4 g3 hlt;have H1:Hid (xs.length=j∧qa4 pRg n l=conP xs (qa4 pRg (n - (j+1)+1) l1)∧w.grownBy wr (some r)∧wr.ownsRow w.heap.size 73 2 (.slice va j vc) j cs∧RwX 2 rgrP xs cs):=⟨g1,by rw [g2,show n - j=n - (j+1)+1 by omega],g4,g5,g6⟩;clear HJ g1 g2 g3 g4 g5 g6;go_wp2;refine cx.mono ?_;clear cx;intro e7 w7 h7;cases hp:pRg l1 with
   | error c=>
    rw [hp] at h7;obtain ⟨rfl,hg7⟩:=qar h7;have e1:qa4 pRg n l=.error c:=H1.out.2.1.trans (qds xs hp);have e2:=qa1 H1.out.2.2.1 hg7;have e9:RP w lo r (VRRg lo) (qa4 pRg n l) (gup c) w7:=by rw [e1];exact ⟨rfl,e2⟩
    exact ⟨rfl,e9⟩
   | ok q=>
    obtain ⟨x,l2⟩:=q;rw [hp] at h7;obtain ⟨u,rfl,hv,hr7,hg7⟩:=qaq h7;have hv1:u=.agg #[I x.prio,I x.cap]:=hv;subst hv1;have e1:=H1.out.2.1.trans (qdt xs hp);have o7:=qaw H1.out.2.2.2.1 (by omega) hg7;have hO:=o7.alloc (.cells #[I x.prio,I x.cap] 73);have hw7:w.heap.size≤w7.heap.size:=Nat.le_trans H1.out.2.2.1.size hg7.size;have hsz:w.heap.size≤(w7.alloc (.cells #[I x.prio,I x.cap] 73)).heap.size:=Nat.le_trans hw7 (qa0 w7 _).size;have hnew:=qaz w7 #[I x.prio,I x.cap] 73;have hone:∀u∈(#[I x.prio,I x.cap]:Array Value).toList,u.oneCell'=true:=by
     intro u hu;simp only [List.mem_cons,List.not_mem_nil,or_false] at hu;rcases hu with rfl | rfl <;> rfl
    have HE:Hid (xs.length=j∧qa4 pRg n l=conP (xs++[x]) (qa4 pRg (n - (j+1)) l2)∧Rst w7 lo r l2∧w.grownBy w7 (some r)∧RwX 2 rgrP xs cs∧w7.ownsRow w.heap.size 73 2 (.slice va j vc) j cs):=⟨H1.out.1,e1,hr7,qa1 H1.out.2.2.1 hg7,H1.out.2.2.2.2,o7⟩;clear H1 h7 hp hr7 hg7 e1 o7 HF;go_wp2_with (first
     | (at_builtin;refine wpList_append_own _ rfl (.tmp 11) (.tmp 15) 25 rfl w.heap.size 73 im _ 2 16 Tryz.underlying25 him hm0 hm1 hm2 rfl (by decide) _ _ _ rfl hO ⟨w7.heap.size,0,none⟩ 1 1 (#[I x.prio,I x.cap]:Array Value).toList rfl rfl hnew hone (by unfold maxLen;omega) (by omega) hsz ?_;intro v6 w6 ho6 hg6 _;obtain ⟨a6,c6,rfl⟩:=qam ho6))
    have H9:Hid (∃(xs:List RgR) (l':List UInt8) (cs:List Value),xs.length=j+1∧qa4 pRg n l=conP xs (qa4 pRg (n - (j+1)) l')∧Rst w6 lo r l'∧w.grownBy w6 (some r)∧w6.ownsRow w.heap.size 73 2 (.slice a6 (j+1) c6) (j+1) cs∧RwX 2 rgrP xs cs):=by
     obtain ⟨f1,f2,f3,f4,f5,f6⟩:=HE.out;have hoth:∀b,b < w.heap.size→w6.heap[b]?=w7.heap[b]?:=fun b hb=>by
      rw [hg6.block b (by omega) (fun e=>by have:=(hO.lt b e.symm).1;omega)];exact heap_alloc_old w7 _ (by omega)
     have hs67:w7.heap.size≤w6.heap.size:=Nat.le_trans (qa0 w7 _).size hg6.size;refine ⟨xs++[x],l2,cs++(#[I x.prio,I x.cap]:Array Value).toList,by simp [f1],f2,f3.keep (fun b hb=>hoth b (by omega)) hs67,⟨?_,?_,?_,by omega,fun b hb hne=>(hoth b hb).trans (f4.block b hb hne)⟩,ho6,?_⟩
     ·exact (hg6.os.trans (show _=w7.os from rfl)).trans f4.os
     ·exact (hg6.tape.trans (show _=w7.tape from rfl)).trans f4.tape
     ·exact (hg6.output.trans (show _=w7.output from rfl)).trans f4.output
     ·refine RwX.snoc f5 x _ rfl (fun i hi=>?_)
      match i,hi with
      | 0,_=>exact ⟨_,rfl,rfl⟩
      | 1,_=>exact ⟨_,rfl,rfl⟩
    clear HE ho6 hg6 hO hnew hone hsz hw7;go_wp2;go_roundw
    case rel=>exact ⟨j+1,a6,c6,by omega,by go_num,rfl,H9.out⟩
    case measure=>simp [intOf];omega
  ·obtain rfl:j=n:=by omega
   have hge:¬((j:Int) < j):=by omega
   have HE:Hid (RP w lo r (VRRg lo) (qa4 pRg j l) (.returned (.slice va j vc)) wr):=by
    have e1:qa4 pRg j l=.ok (xs,l1):=by rw [g2,Nat.sub_self];simp [qa4,conP,retP]
    rw [e1];refine ⟨_,rfl,⟨va,vc,cs,by rw [g1],?_,g6⟩,g3,g4⟩;rw [g1];exact qbk g5 hlo
   clear HJ HF g1 g2 g3 g4 g5 g6;go_wp2;go_ret;exact HE.out
end Go.Proofs.YtijgopkhdjaolabGreat
