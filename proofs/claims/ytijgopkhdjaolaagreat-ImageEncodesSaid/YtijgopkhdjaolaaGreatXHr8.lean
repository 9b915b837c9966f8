import Derived.Test.YtijgopkhdjaolaaGreatXHr3
import Derived.Test.YtijgopkhdjaolaaGreatXHr5
import Derived.Deep.RegionHeldLaw
import Derived.Test.YtijgopkhdjaolaaGreatXHrrIs
namespace Go.Proofs.YtijgopkhdjaolaaGreat
open Go.RowKit Go.Shelf Go.Sort
open Go.Proofs.YtijgopkhdjaolaaGreat.Ob (leB leV qa8 qaj crc Rd RdAll qa9 Rdr)
set_option linter.unusedSimpArgs false
set_option linter.unusedVariables false
set_option maxHeartbeats 16000000
set_option maxRecDepth 100000
theorem qqk {fn:Func} {m:Nat} (hf:fn.results=#[.cell m 91]) (tmps:Array Value) (b:Nat) (w:World) (z0 z1 z2 z3 z4 z5 z6 z7:Value) (h2:tmps[m]?=some (.pointer (some ⟨b,0,none⟩))) (hk:w.heap[b]?=some (.cells #[z0,z1,z2,z3,z4,z5,z6,z7] 91 (0,0))) (h1:z0.oneCell'=true∧z1.oneCell'=true∧z2.oneCell'=true∧z3.oneCell'=true∧z4.oneCell'=true∧z5.oneCell'=true∧z6.oneCell'=true∧z7.oneCell'=true):(results fn tmps).run Tryz.prog w=.ok (.agg #[z0,z1,z2,z3,z4,z5,z6,z7]) w:=by
 have a1:=fun i=>cell_of_row w b i _ _ (0,0) hk
 have y0:=a1 0
 have y1:=a1 1
 have y2:=a1 2
 have y3:=a1 3
 have y4:=a1 4
 have y5:=a1 5
 have y6:=a1 6
 have y7:=a1 7
 simp at y0 y1 y2 y3 y4 y5 y6 y7
 simp [results,hf,go_sem,h2,y0,y1,y2,y3,y4,y5,y6,y7]
theorem qry {w:World} {lo r:Nat} {l0:List UInt8} (t0:Rst w lo r l0) (j:Nat):Calls Tryz.prog 118 #[rdP r,I j] w fun e w'=>RP w lo r VMs (pMs l0) e w':=by
 have hlo:=t0.le
 have hrl:=t0.lt
 have hc0:=qc7 w r
 have hb1:=qa0 (w.alloc (rdO r)) (.cells #[I 0,I 0,I 0,.int .u64 0,I 0,I 0,I 0,.int .u32 0] 91)
 have hY0:=heap_alloc_new (w.alloc (rdO r)) (.cells #[I 0,I 0,I 0,.int .u64 0,I 0,I 0,I 0,.int .u32 0] 91)
 have HX:Hid (∀W,((w.alloc (rdO r)).alloc (.cells #[I 0,I 0,I 0,.int .u64 0,I 0,I 0,I 0,.int .u32 0] 91)).grownBy W (some r)→W.cell? ⟨w.heap.size,0,none⟩=some (.pointer (some ⟨r,0,none⟩))):=fun W hW=>hW.cell (by rw [qa6 hb1 _ _ (by simp)];exact hc0) (by show some w.heap.size≠some r;intro e;cases e;omega)
 have HY:Hid (∀W,((w.alloc (rdO r)).alloc (.cells #[I 0,I 0,I 0,.int .u64 0,I 0,I 0,I 0,.int .u32 0] 91)).grownBy W (some r)→W.heap[w.heap.size+1]?=some (.cells #[I 0,I 0,I 0,.int .u64 0,I 0,I 0,I 0,.int .u32 0] 91)):=fun W hW=>qb2 hW (by have:=hY0;rwa [show (w.alloc (rdO r)).heap.size=w.heap.size+1 by simp] at this) (by omega)
 have s0:=(t0.al (rdO r)).al (.cells #[I 0,I 0,I 0,.int .u64 0,I 0,I 0,I 0,.int .u32 0] 91)
 have HB:Hid (w.grownBy ((w.alloc (rdO r)).alloc (.cells #[I 0,I 0,I 0,.int .u64 0,I 0,I 0,I 0,.int .u32 0] 91)) (some r)):=qad ((qa0 w _).trans (hb1.mono (qa0 w _).size))
 have E0:Hid (pMs l0=pMs l0):=rfl
 clear hc0 hb1 hY0 t0
 go_enter Tryz.func118,Tryz.ntmps118
 go_upto_region 1 with fail
 generalize (w.alloc (rdO r)).alloc (.cells #[I 0,I 0,I 0,.int .u64 0,I 0,I 0,I 0,.int .u32 0] 91)=w1 at *
 have G0:=qad (r:=some r) (Below.refl w1.heap.size w1).drew
 have HC:=HX.out w1.drew G0
 refine wp_region_held_drew (S:=fun W=>W.cell? ⟨w.heap.size,0,none⟩=some (.pointer (some ⟨r,0,none⟩))) (by kernel_rfl) HC (fun hHeld=>?_)
 clear HC
 change wpAnyH _ _ _ _ _ _ #[false,false,false,false,false,false,false,false,false,false,false,false,false,false] _ _
 try simp only [qN]
 refine qTI 0 (rdP r) rfl hHeld ?_
 try simp only [qN]
 refine qTI 2 (rdP r) rfl hHeld ?_
 try simp only [qN]
 refine qTI 4 (rdP r) rfl hHeld ?_
 try simp only [qN]
 refine qTI 6 (rdP r) rfl hHeld ?_
 try simp only [qN]
 refine qTI 8 (rdP r) rfl hHeld ?_
 try simp only [qN]
 refine qTI 10 (rdP r) rfl hHeld ?_
 try simp only [qN]
 clear hHeld
 have t0:=s0.below (Below.refl w1.heap.size w1).drew
 clear s0
 generalize w1.drew=W0 at *
 refine qR1 (i:=1) rfl (fun K hK=>?_)
 go_simp
 refine (qb4 t0).mono ?_
 intro e W1 hR
 rcases hp:p1 l0 with c | ⟨k,l1⟩
 ·rw [hp] at hR
  obtain ⟨rfl,hg⟩:=qap hR
  have e9:RP w lo r VMs (pMs l0) (gup c) W1:=by
   rw [E0.out]
   unfold pMs
   rw [qaf hp]
   exact ⟨rfl,qa1 HB.out (qa1 G0 hg)⟩
  exact ⟨rfl,e9⟩
 rw [hp] at hR
 obtain ⟨u1,rfl,hv,t1,g1⟩:=qao hR
 have q:u1=I k:=hv
 subst q
 have GG:=qa1 G0 g1
 have EE:Hid (pMs l0=(andP p1 fun n=>andP p1 fun f=>andP (pn 8) fun i=>andP p1 fun q=>andP pAc fun a=>retP ⟨k,n,f,i,q,a⟩) l1):=by
  show _=_
  rw [E0.out]
  unfold pMs
  rw [qa7 hp]
 skip
 refine hK.out _ _ (HX.out W1 GG) (fun hSS=>?_)
 clear hSS hK K hR hp E0 G0 t0
 have G0:=GG
 have E0:=EE
 clear GG EE g1
 try simp only [qN]
 refine qR1 (i:=3) rfl (fun K hK=>?_)
 go_simp
 refine (qb4 t1).mono ?_
 intro e W2 hR
 rcases hp:p1 l1 with c | ⟨n,l2⟩
 ·rw [hp] at hR
  obtain ⟨rfl,hg⟩:=qap hR
  have e9:RP w lo r VMs (pMs l0) (gup c) W2:=by
   rw [E0.out]
   skip
   rw [qaf hp]
   exact ⟨rfl,qa1 HB.out (qa1 G0 hg)⟩
  exact ⟨rfl,e9⟩
 rw [hp] at hR
 obtain ⟨u2,rfl,hv,t2,g2⟩:=qao hR
 have q:u2=I n:=hv
 subst q
 have GG:=qa1 G0 g2
 have EE:Hid (pMs l0=(andP p1 fun f=>andP (pn 8) fun i=>andP p1 fun q=>andP pAc fun a=>retP ⟨k,n,f,i,q,a⟩) l2):=by
  show _=_
  rw [E0.out]
  skip
  rw [qa7 hp]
 skip
 refine hK.out _ _ (HX.out W2 GG) (fun hSS=>?_)
 clear hSS hK K hR hp E0 G0 t1
 have G0:=GG
 have E0:=EE
 clear GG EE g2
 try simp only [qN]
 refine qR1 (i:=5) rfl (fun K hK=>?_)
 go_simp
 refine (qb4 t2).mono ?_
 intro e W3 hR
 rcases hp:p1 l2 with c | ⟨f,l3⟩
 ·rw [hp] at hR
  obtain ⟨rfl,hg⟩:=qap hR
  have e9:RP w lo r VMs (pMs l0) (gup c) W3:=by
   rw [E0.out]
   skip
   rw [qaf hp]
   exact ⟨rfl,qa1 HB.out (qa1 G0 hg)⟩
  exact ⟨rfl,e9⟩
 rw [hp] at hR
 obtain ⟨u3,rfl,hv,t3,g3⟩:=qao hR
 have q:u3=I f:=hv
 subst q
 have GG:=qa1 G0 g3
 have EE:Hid (pMs l0=(andP (pn 8) fun i=>andP p1 fun q=>andP pAc fun a=>retP ⟨k,n,f,i,q,a⟩) l3):=by
  show _=_
  rw [E0.out]
  skip
  rw [qa7 hp]
 skip
 refine hK.out _ _ (HX.out W3 GG) (fun hSS=>?_)
 clear hSS hK K hR hp E0 G0 t2
 have G0:=GG
 have E0:=EE
 clear GG EE g3
 try simp only [qN]
 refine qR1 (i:=7) rfl (fun K hK=>?_)
 go_simp
 refine (qea t3 8 (by omega) (by omega)).mono ?_
 intro e W4 hR
 rcases hp:pn 8 l3 with c | ⟨i,l4⟩
 ·rw [hp] at hR
  obtain ⟨rfl,hg⟩:=qap hR
  have e9:RP w lo r VMs (pMs l0) (gup c) W4:=by
   rw [E0.out]
   skip
   rw [qaf hp]
   exact ⟨rfl,qa1 HB.out (qa1 G0 hg)⟩
  exact ⟨rfl,e9⟩
 rw [hp] at hR
 obtain ⟨u4,rfl,hv,t4,g4⟩:=qao hR
 have q:u4=.int .u64 (i:Int):=hv
 subst q
 have GG:=qa1 G0 g4
 have EE:Hid (pMs l0=(andP p1 fun q=>andP pAc fun a=>retP ⟨k,n,f,i,q,a⟩) l4):=by
  show _=_
  rw [E0.out]
  skip
  rw [qa7 hp]
 skip
 refine hK.out _ _ (HX.out W4 GG) (fun hSS=>?_)
 clear hSS hK K hR hp E0 G0 t3
 have G0:=GG
 have E0:=EE
 clear GG EE g4
 try simp only [qN]
 refine qR1 (i:=9) rfl (fun K hK=>?_)
 go_simp
 refine (qb4 t4).mono ?_
 intro e W5 hR
 rcases hp:p1 l4 with c | ⟨q,l5⟩
 ·rw [hp] at hR
  obtain ⟨rfl,hg⟩:=qap hR
  have e9:RP w lo r VMs (pMs l0) (gup c) W5:=by
   rw [E0.out]
   skip
   rw [qaf hp]
   exact ⟨rfl,qa1 HB.out (qa1 G0 hg)⟩
  exact ⟨rfl,e9⟩
 rw [hp] at hR
 obtain ⟨u5,rfl,hv,t5,g5⟩:=qao hR
 have q:u5=I q:=hv
 subst q
 have GG:=qa1 G0 g5
 have EE:Hid (pMs l0=(andP pAc fun a=>retP ⟨k,n,f,i,q,a⟩) l5):=by
  show _=_
  rw [E0.out]
  skip
  rw [qa7 hp]
 skip
 refine hK.out _ _ (HX.out W5 GG) (fun hSS=>?_)
 clear hSS hK K hR hp E0 G0 t4
 have G0:=GG
 have E0:=EE
 clear GG EE g5
 try simp only [qN]
 refine qR1 (i:=11) rfl (fun K hK=>?_)
 go_simp
 refine (qoq t5).mono ?_
 intro e W6 hR
 rcases hp:pAc l5 with c | ⟨a,l6⟩
 ·rw [hp] at hR
  obtain ⟨rfl,hg⟩:=qap hR
  have e9:RP w lo r VMs (pMs l0) (gup c) W6:=by
   rw [E0.out]
   skip
   rw [qaf hp]
   exact ⟨rfl,qa1 HB.out (qa1 G0 hg)⟩
  exact ⟨rfl,e9⟩
 rw [hp] at hR
 obtain ⟨u6,rfl,hv,t6,g6⟩:=qao hR
 have q:u6=.agg #[I a.kind,I a.task,.int .u32 (a.mask:Int)]:=hv
 subst q
 have GG:=qa1 G0 g6
 have EE:Hid (pMs l0=(retP ⟨k,n,f,i,q,a⟩) l6):=by
  show _=_
  rw [E0.out]
  skip
  rw [qa7 hp]
 skip
 refine hK.out _ _ (HX.out W6 GG) (fun hSS=>?_)
 clear hSS hK K hR hp E0 G0 t5
 have G0:=GG
 have E0:=EE
 clear GG EE g6
 try simp only [qN]
 refine wpAnyH_take (i:=12) (v:=.agg #[I k,I n,I f,.int .u64 (i:Int),I q,I a.kind,I a.task,.int .u32 (a.mask:Int)]) rfl (by kernel_rfl) (by kernel_rfl) (by kernel_rfl) (fun _ _ _ h=>h) (Or.inl ⟨by rfl,?_⟩) (HX.out W6 G0) ?_
 ·intro w' hSw
  try dsimp only at hSw
  go_simp
 try simp only [qN]
 have hY:=HY.out W6 G0
 have cY0:(W6).cell? ⟨w.heap.size+1,0,none⟩=some (I 0):=by rw [qcr hY];rfl
 have fY0:(W6).frozen? ⟨w.heap.size+1,0,none⟩=false:=frozen_of_row _ _ _ _ _ hY
 have hY0:=heap_setCell_same (W6) (w.heap.size+1) 0 _ _ (I k) hY
 have cY1:((W6).setCell ⟨w.heap.size+1,0,none⟩ (I k)).cell? ⟨w.heap.size+1,1,none⟩=some (I 0):=by rw [qcr hY0];rfl
 have fY1:((W6).setCell ⟨w.heap.size+1,0,none⟩ (I k)).frozen? ⟨w.heap.size+1,1,none⟩=false:=frozen_of_row _ _ _ _ _ hY0
 have hY1:=heap_setCell_same ((W6).setCell ⟨w.heap.size+1,0,none⟩ (I k)) (w.heap.size+1) 1 _ _ (I n) hY0
 have cY2:(qS2 W6 (w.heap.size+1) (I k) (I n)).cell? ⟨w.heap.size+1,2,none⟩=some (I 0):=by rw [qcr hY1];rfl
 have fY2:(qS2 W6 (w.heap.size+1) (I k) (I n)).frozen? ⟨w.heap.size+1,2,none⟩=false:=frozen_of_row _ _ _ _ _ hY1
 have hY2:=heap_setCell_same (qS2 W6 (w.heap.size+1) (I k) (I n)) (w.heap.size+1) 2 _ _ (I f) hY1
 have cY3:(qS3 W6 (w.heap.size+1) (I k) (I n) (I f)).cell? ⟨w.heap.size+1,3,none⟩=some (.int .u64 0):=by rw [qcr hY2];rfl
 have fY3:(qS3 W6 (w.heap.size+1) (I k) (I n) (I f)).frozen? ⟨w.heap.size+1,3,none⟩=false:=frozen_of_row _ _ _ _ _ hY2
 have hY3:=heap_setCell_same (qS3 W6 (w.heap.size+1) (I k) (I n) (I f)) (w.heap.size+1) 3 _ _ (.int .u64 (i:Int)) hY2
 have cY4:(qS4 W6 (w.heap.size+1) (I k) (I n) (I f) (.int .u64 (i:Int))).cell? ⟨w.heap.size+1,4,none⟩=some (I 0):=by rw [qcr hY3];rfl
 have fY4:(qS4 W6 (w.heap.size+1) (I k) (I n) (I f) (.int .u64 (i:Int))).frozen? ⟨w.heap.size+1,4,none⟩=false:=frozen_of_row _ _ _ _ _ hY3
 have hY4:=heap_setCell_same (qS4 W6 (w.heap.size+1) (I k) (I n) (I f) (.int .u64 (i:Int))) (w.heap.size+1) 4 _ _ (I q) hY3
 have cY5:(qS5 W6 (w.heap.size+1) (I k) (I n) (I f) (.int .u64 (i:Int)) (I q)).cell? ⟨w.heap.size+1,5,none⟩=some (I 0):=by rw [qcr hY4];rfl
 have fY5:(qS5 W6 (w.heap.size+1) (I k) (I n) (I f) (.int .u64 (i:Int)) (I q)).frozen? ⟨w.heap.size+1,5,none⟩=false:=frozen_of_row _ _ _ _ _ hY4
 have hY5:=heap_setCell_same (qS5 W6 (w.heap.size+1) (I k) (I n) (I f) (.int .u64 (i:Int)) (I q)) (w.heap.size+1) 5 _ _ (I a.kind) hY4
 have cY6:(qS6 W6 (w.heap.size+1) (I k) (I n) (I f) (.int .u64 (i:Int)) (I q) (I a.kind)).cell? ⟨w.heap.size+1,6,none⟩=some (I 0):=by rw [qcr hY5];rfl
 have fY6:(qS6 W6 (w.heap.size+1) (I k) (I n) (I f) (.int .u64 (i:Int)) (I q) (I a.kind)).frozen? ⟨w.heap.size+1,6,none⟩=false:=frozen_of_row _ _ _ _ _ hY5
 have hY6:=heap_setCell_same (qS6 W6 (w.heap.size+1) (I k) (I n) (I f) (.int .u64 (i:Int)) (I q) (I a.kind)) (w.heap.size+1) 6 _ _ (I a.task) hY5
 have cY7:(qS7 W6 (w.heap.size+1) (I k) (I n) (I f) (.int .u64 (i:Int)) (I q) (I a.kind) (I a.task)).cell? ⟨w.heap.size+1,7,none⟩=some (.int .u32 0):=by rw [qcr hY6];rfl
 have fY7:(qS7 W6 (w.heap.size+1) (I k) (I n) (I f) (.int .u64 (i:Int)) (I q) (I a.kind) (I a.task)).frozen? ⟨w.heap.size+1,7,none⟩=false:=frozen_of_row _ _ _ _ _ hY6
 have hY7:=heap_setCell_same (qS7 W6 (w.heap.size+1) (I k) (I n) (I f) (.int .u64 (i:Int)) (I q) (I a.kind) (I a.task)) (w.heap.size+1) 7 _ _ (.int .u32 (a.mask:Int)) hY6
 refine qR1 (i:=13) rfl (fun K hK=>?_)
 go_simp
 have hSf:(qS8 W6 (w.heap.size+1) (I k) (I n) (I f) (.int .u64 (i:Int)) (I q) (I a.kind) (I a.task) (.int .u32 (a.mask:Int))).cell? ⟨w.heap.size,0,none⟩=some (.pointer (some ⟨r,0,none⟩)):=by
  have hz:=HX.out W6 G0
  repeat rw [World.cell?_setCell_far _ _ _ _ (by show w.heap.size+1≠w.heap.size;omega)]
  exact hz
 refine hK.out _ _ hSf (fun hSS=>?_)
 clear hSS hK K
 try simp only [qN]
 refine wpAnyH_done (by kernel_rfl) ?_ _
 have hYL:(qS8 W6 (w.heap.size+1) (I k) (I n) (I f) (.int .u64 (i:Int)) (I q) (I a.kind) (I a.task) (.int .u32 (a.mask:Int))).heap[w.heap.size+1]?=some (.cells #[I k,I n,I f,.int .u64 (i:Int),I q,I a.kind,I a.task,.int .u32 (a.mask:Int)] 91):=hY7
 have hEnd:RP w lo r VMs (pMs l0) (.returned (.agg #[I k,I n,I f,.int .u64 (i:Int),I q,I a.kind,I a.task,.int .u32 (a.mask:Int)])) (qS8 W6 (w.heap.size+1) (I k) (I n) (I f) (.int .u64 (i:Int)) (I q) (I a.kind) (I a.task) (.int .u32 (a.mask:Int))):=by
  rw [E0.out]
  skip
  refine ⟨_,rfl,rfl,((((((((t6.setY (by omega)).setY (by omega)).setY (by omega)).setY (by omega)).setY (by omega)).setY (by omega)).setY (by omega)).setY (by omega)),(qaa (qaa (qaa (qaa (qaa (qaa (qaa (qaa (qa1 HB.out G0) (by omega)) (by omega)) (by omega)) (by omega)) (by omega)) (by omega)) (by omega)) (by omega))⟩
 clear E0
 go_wp2
 refine bodyPost_ret (qqk Tryz.results118 _ (w.heap.size+1) _ _ _ _ _ _ _ _ _ rfl hYL ⟨rfl,rfl,rfl,rfl,rfl,rfl,rfl,rfl⟩) rfl ?_
 exact hEnd
theorem qql {fn:Func} {m:Nat} (hf:fn.results=#[.cell m 87]) (tmps:Array Value) (b:Nat) (w:World) (z0 z1 z2:Value) (h2:tmps[m]?=some (.pointer (some ⟨b,0,none⟩))) (hk:w.heap[b]?=some (.cells #[z0,z1,z2] 87 (0,0))) (h1:z0.oneCell'=true∧z1.oneCell'=true∧z2.oneCell'=true):(results fn tmps).run Tryz.prog w=.ok (.agg #[z0,z1,z2]) w:=by
 have a1:=fun i=>cell_of_row w b i _ _ (0,0) hk
 have y0:=a1 0
 have y1:=a1 1
 have y2:=a1 2
 simp at y0 y1 y2
 simp [results,hf,go_sem,h2,y0,y1,y2]
theorem qrz {w:World} {lo r:Nat} {l0:List UInt8} (t0:Rst w lo r l0) (j:Nat):Calls Tryz.prog 116 #[rdP r,I j] w fun e w'=>RP w lo r (VIs lo) (pIs l0) e w':=by
 have hlo:=t0.le
 have hrl:=t0.lt
 have hc0:=qc7 w r
 have hb1:=qa0 (w.alloc (rdO r)) (.cells #[I 0,I 0,qZ] 87)
 have hY0:=heap_alloc_new (w.alloc (rdO r)) (.cells #[I 0,I 0,qZ] 87)
 have HX:Hid (∀W,((w.alloc (rdO r)).alloc (.cells #[I 0,I 0,qZ] 87)).grownBy W (some r)→W.cell? ⟨w.heap.size,0,none⟩=some (.pointer (some ⟨r,0,none⟩))):=fun W hW=>hW.cell (by rw [qa6 hb1 _ _ (by simp)];exact hc0) (by show some w.heap.size≠some r;intro e;cases e;omega)
 have HY:Hid (∀W,((w.alloc (rdO r)).alloc (.cells #[I 0,I 0,qZ] 87)).grownBy W (some r)→W.heap[w.heap.size+1]?=some (.cells #[I 0,I 0,qZ] 87)):=fun W hW=>qb2 hW (by have:=hY0;rwa [show (w.alloc (rdO r)).heap.size=w.heap.size+1 by simp] at this) (by omega)
 have s0:=(t0.al (rdO r)).al (.cells #[I 0,I 0,qZ] 87)
 have HB:Hid (w.grownBy ((w.alloc (rdO r)).alloc (.cells #[I 0,I 0,qZ] 87)) (some r)):=qad ((qa0 w _).trans (hb1.mono (qa0 w _).size))
 have E0:Hid (pIs l0=pIs l0):=rfl
 clear hc0 hb1 hY0 t0
 go_enter Tryz.func116,Tryz.ntmps116
 go_upto_region 1 with fail
 generalize (w.alloc (rdO r)).alloc (.cells #[I 0,I 0,.slice none 0 0] 87)=w1 at *
 have G0:=qad (r:=some r) (Below.refl w1.heap.size w1).drew
 have HC:=HX.out w1.drew G0
 refine wp_region_held_drew (S:=fun W=>W.cell? ⟨w.heap.size,0,none⟩=some (.pointer (some ⟨r,0,none⟩))) (by kernel_rfl) HC (fun hHeld=>?_)
 clear HC
 change wpAnyH _ _ _ _ _ _ #[false,false,false,false,false,false,false,false] _ _
 try simp only [qN]
 refine qTI 0 (rdP r) rfl hHeld ?_
 try simp only [qN]
 refine qTI 2 (rdP r) rfl hHeld ?_
 try simp only [qN]
 refine qTI 4 (rdP r) rfl hHeld ?_
 try simp only [qN]
 clear hHeld
 have t0:=s0.below (Below.refl w1.heap.size w1).drew
 clear s0
 generalize w1.drew=W0 at *
 refine qR1 (i:=1) rfl (fun K hK=>?_)
 go_simp
 refine (qb4 t0).mono ?_
 intro e W1 hR
 rcases hp:p1 l0 with c | ⟨c,l1⟩
 ·rw [hp] at hR
  obtain ⟨rfl,hg⟩:=qap hR
  have e9:RP w lo r (VIs lo) (pIs l0) (gup c) W1:=by
   rw [E0.out]
   unfold pIs
   rw [qaf hp]
   exact ⟨rfl,qa1 HB.out (qa1 G0 hg)⟩
  exact ⟨rfl,e9⟩
 rw [hp] at hR
 obtain ⟨u1,rfl,hv,t1,g1⟩:=qao hR
 have q:u1=I c:=hv
 subst q
 have GG:=qa1 G0 g1
 have EE:Hid (pIs l0=(andP p1 fun p=>andP pL fun o=>retP ⟨c,p,o⟩) l1):=by
  show _=_
  rw [E0.out]
  unfold pIs
  rw [qa7 hp]
 skip
 refine hK.out _ _ (HX.out W1 GG) (fun hSS=>?_)
 clear hSS hK K hR hp E0 G0 t0
 have G0:=GG
 have E0:=EE
 clear GG EE g1
 try simp only [qN]
 refine qR1 (i:=3) rfl (fun K hK=>?_)
 go_simp
 refine (qb4 t1).mono ?_
 intro e W2 hR
 rcases hp:p1 l1 with c | ⟨p,l2⟩
 ·rw [hp] at hR
  obtain ⟨rfl,hg⟩:=qap hR
  have e9:RP w lo r (VIs lo) (pIs l0) (gup c) W2:=by
   rw [E0.out]
   skip
   rw [qaf hp]
   exact ⟨rfl,qa1 HB.out (qa1 G0 hg)⟩
  exact ⟨rfl,e9⟩
 rw [hp] at hR
 obtain ⟨u2,rfl,hv,t2,g2⟩:=qao hR
 have q:u2=I p:=hv
 subst q
 have GG:=qa1 G0 g2
 have EE:Hid (pIs l0=(andP pL fun o=>retP ⟨c,p,o⟩) l2):=by
  show _=_
  rw [E0.out]
  skip
  rw [qa7 hp]
 skip
 refine hK.out _ _ (HX.out W2 GG) (fun hSS=>?_)
 clear hSS hK K hR hp E0 G0 t1
 have G0:=GG
 have E0:=EE
 clear GG EE g2
 try simp only [qN]
 refine qR1 (i:=5) rfl (fun K hK=>?_)
 go_simp
 refine (qkh t2).mono ?_
 intro e W3 hR
 rcases hp:pL l2 with c | ⟨o,l3⟩
 ·rw [hp] at hR
  obtain ⟨rfl,hg⟩:=qap hR
  have e9:RP w lo r (VIs lo) (pIs l0) (gup c) W3:=by
   rw [E0.out]
   skip
   rw [qaf hp]
   exact ⟨rfl,qa1 HB.out (qa1 G0 hg)⟩
  exact ⟨rfl,e9⟩
 rw [hp] at hR
 obtain ⟨u3,rfl,hv,t3,g3⟩:=qao hR
 obtain ⟨sa,sc,rfl,m3⟩:=hv
 have GG:=qa1 G0 g3
 have EE:Hid (pIs l0=(retP ⟨c,p,o⟩) l3):=by
  show _=_
  rw [E0.out]
  skip
  rw [qa7 hp]
 skip
 refine hK.out _ _ (HX.out W3 GG) (fun hSS=>?_)
 clear hSS hK K hR hp E0 G0 t2
 have G0:=GG
 have E0:=EE
 clear GG EE g3
 try simp only [qN]
 refine wpAnyH_take (i:=6) (v:=.agg #[I c,I p,.slice sa o.length sc]) rfl (by kernel_rfl) (by kernel_rfl) (by kernel_rfl) (fun _ _ _ h=>h) (Or.inl ⟨by rfl,?_⟩) (HX.out W3 G0) ?_
 ·intro w' hSw
  try dsimp only at hSw
  go_simp
 try simp only [qN]
 have hY:=HY.out W3 G0
 have cY0:(W3).cell? ⟨w.heap.size+1,0,none⟩=some (I 0):=by rw [qcr hY];rfl
 have fY0:(W3).frozen? ⟨w.heap.size+1,0,none⟩=false:=frozen_of_row _ _ _ _ _ hY
 have hY0:=heap_setCell_same (W3) (w.heap.size+1) 0 _ _ (I c) hY
 have cY1:((W3).setCell ⟨w.heap.size+1,0,none⟩ (I c)).cell? ⟨w.heap.size+1,1,none⟩=some (I 0):=by rw [qcr hY0];rfl
 have fY1:((W3).setCell ⟨w.heap.size+1,0,none⟩ (I c)).frozen? ⟨w.heap.size+1,1,none⟩=false:=frozen_of_row _ _ _ _ _ hY0
 have hY1:=heap_setCell_same ((W3).setCell ⟨w.heap.size+1,0,none⟩ (I c)) (w.heap.size+1) 1 _ _ (I p) hY0
 have cY2:(qS2 W3 (w.heap.size+1) (I c) (I p)).cell? ⟨w.heap.size+1,2,none⟩=some qZ:=by rw [qcr hY1];rfl
 have fY2:(qS2 W3 (w.heap.size+1) (I c) (I p)).frozen? ⟨w.heap.size+1,2,none⟩=false:=frozen_of_row _ _ _ _ _ hY1
 have hY2:=heap_setCell_same (qS2 W3 (w.heap.size+1) (I c) (I p)) (w.heap.size+1) 2 _ _ (.slice sa o.length sc) hY1
 refine qR1 (i:=7) rfl (fun K hK=>?_)
 go_simp
 have hSf:(qS3 W3 (w.heap.size+1) (I c) (I p) (.slice sa o.length sc)).cell? ⟨w.heap.size,0,none⟩=some (.pointer (some ⟨r,0,none⟩)):=by
  have hz:=HX.out W3 G0
  repeat rw [World.cell?_setCell_far _ _ _ _ (by show w.heap.size+1≠w.heap.size;omega)]
  exact hz
 refine hK.out _ _ hSf (fun hSS=>?_)
 clear hSS hK K
 try simp only [qN]
 refine wpAnyH_done (by kernel_rfl) ?_ _
 have hYL:(qS3 W3 (w.heap.size+1) (I c) (I p) (.slice sa o.length sc)).heap[w.heap.size+1]?=some (.cells #[I c,I p,.slice sa o.length sc] 87):=hY2
 have hEnd:RP w lo r (VIs lo) (pIs l0) (.returned (.agg #[I c,I p,.slice sa o.length sc])) (qS3 W3 (w.heap.size+1) (I c) (I p) (.slice sa o.length sc)):=by
  rw [E0.out]
  skip
  refine ⟨_,rfl,⟨sa,sc,rfl,qak (qak (qak m3 hY (by decide)) hY0 (by decide)) hY1 (by decide)⟩,(((t3.setY (by omega)).setY (by omega)).setY (by omega)),(qaa (qaa (qaa (qa1 HB.out G0) (by omega)) (by omega)) (by omega))⟩
 clear E0
 go_wp2
 refine bodyPost_ret (qql Tryz.results116 _ (w.heap.size+1) _ _ _ _ rfl hYL ⟨rfl,rfl,rfl⟩) rfl ?_
 exact hEnd
theorem qqm {fn:Func} {m:Nat} (hf:fn.results=#[.cell m 78]) (tmps:Array Value) (b:Nat) (w:World) (z0 z1:Value) (h2:tmps[m]?=some (.pointer (some ⟨b,0,none⟩))) (hk:w.heap[b]?=some (.cells #[z0,z1] 78 (0,0))):(results fn tmps).run Tryz.prog w=.ok (.agg #[z0,z1]) w:=by
 have a1:=fun i=>cell_of_row w b i _ _ (0,0) hk
 have y0:=a1 0
 have y1:=a1 1
 simp at y0 y1
 simp [results,hf,go_sem,h2,y0,y1]
theorem qs0 {w:World} {lo r:Nat} {l0:List UInt8} (t0:Rst w lo r l0) (j:Nat):Calls Tryz.prog 110 #[rdP r,I j] w fun e w'=>RP w lo r VRs (pRs l0) e w':=by
 have hlo:=t0.le
 have hrl:=t0.lt
 have hc0:=qc7 w r
 have hb1:=qa0 (w.alloc (rdO r)) (.cells #[.bool false,I 0] 78)
 have hY0:=heap_alloc_new (w.alloc (rdO r)) (.cells #[.bool false,I 0] 78)
 have HX:Hid (∀W,((w.alloc (rdO r)).alloc (.cells #[.bool false,I 0] 78)).grownBy W (some r)→W.cell? ⟨w.heap.size,0,none⟩=some (.pointer (some ⟨r,0,none⟩))):=fun W hW=>hW.cell (by rw [qa6 hb1 _ _ (by simp)];exact hc0) (by show some w.heap.size≠some r;intro e;cases e;omega)
 have HY:Hid (∀W,((w.alloc (rdO r)).alloc (.cells #[.bool false,I 0] 78)).grownBy W (some r)→W.heap[w.heap.size+1]?=some (.cells #[.bool false,I 0] 78)):=fun W hW=>qb2 hW (by have:=hY0;rwa [show (w.alloc (rdO r)).heap.size=w.heap.size+1 by simp] at this) (by omega)
 have s0:=(t0.al (rdO r)).al (.cells #[.bool false,I 0] 78)
 have HB:Hid (w.grownBy ((w.alloc (rdO r)).alloc (.cells #[.bool false,I 0] 78)) (some r)):=qad ((qa0 w _).trans (hb1.mono (qa0 w _).size))
 have hs1:w.heap.size+2≤((w.alloc (rdO r)).alloc (.cells #[.bool false,I 0] 78)).heap.size:=by simp
 have E0:Hid (pRs l0=pRs l0):=rfl
 clear hc0 hb1 hY0 t0
 go_enter Tryz.func110,Tryz.ntmps110
 go_upto_region 1 with fail
 generalize (w.alloc (rdO r)).alloc (.cells #[.bool false,I 0] 78)=w1 at *
 have G0:=qad (r:=some r) (Below.refl w1.heap.size w1).drew
 have HC:=HX.out w1.drew G0
 refine wp_region_held_drew (S:=fun W=>W.cell? ⟨w.heap.size,0,none⟩=some (.pointer (some ⟨r,0,none⟩))) (by kernel_rfl) HC (fun hHeld=>?_)
 clear HC
 change wpAnyH _ _ _ _ _ _ #[false,false,false,false,false,false] _ _
 try simp only [qN]
 refine qTI 0 (rdP r) rfl hHeld ?_
 try simp only [qN]
 refine qTI 2 (rdP r) rfl hHeld ?_
 try simp only [qN]
 clear hHeld
 have t0:=s0.below (Below.refl w1.heap.size w1).drew
 clear s0
 generalize w1.drew=W0 at *
 refine qR1 (i:=1) rfl (fun K hK=>?_)
 go_simp
 refine (qb4 t0).mono ?_
 intro e W1 hR
 rcases hp:pn 1 l0 with c | ⟨f,l1⟩
 ·rw [show p1 l0=.error c from qaf hp] at hR
  obtain ⟨rfl,hg⟩:=qap hR
  have e9:RP w lo r VRs (pRs l0) (gup c) W1:=by
   rw [E0.out]
   unfold pRs
   rw [qaf hp]
   exact ⟨rfl,qa1 HB.out (qa1 G0 hg)⟩
  exact ⟨rfl,e9⟩
 rw [show p1 l0=.ok ((f:Int),l1) from qa7 hp] at hR
 obtain ⟨u1,rfl,hv,t1,g1⟩:=qao hR
 have q:u1=I f:=hv
 subst q
 have GG:=qa1 G0 g1
 have EE:Hid (pRs l0=(andP pM fun c=>qbq f fun b=>(⟨b,c⟩:RsR)) l1):=by
  show _=_
  rw [E0.out]
  unfold pRs
  rw [qa7 hp]
 have hw1:IntKind.u32.wrap (f:Int)=f:=by have:=qci hp;rw [IntKind.wrap_u32];omega
 refine hK.out _ _ (HX.out W1 GG) (fun hSS=>?_)
 clear hSS hK K hR hp E0 G0 t0
 have G0:=GG
 have E0:=EE
 clear GG EE g1
 try simp only [qN]
 refine qR1 (i:=3) rfl (fun K hK=>?_)
 go_simp
 refine (qix t1).mono ?_
 intro e W2 hR
 rcases hp:pM l1 with c | ⟨c,l2⟩
 ·rw [hp] at hR
  obtain ⟨rfl,hg⟩:=qap hR
  have e9:RP w lo r VRs (pRs l0) (gup c) W2:=by
   rw [E0.out]
   skip
   rw [qaf hp]
   exact ⟨rfl,qa1 HB.out (qa1 G0 hg)⟩
  exact ⟨rfl,e9⟩
 rw [hp] at hR
 obtain ⟨u2,rfl,hv,t2,g2⟩:=qao hR
 have q:u2=I c:=hv
 subst q
 have GG:=qa1 G0 g2
 have EE:Hid (pRs l0=(qbq f fun b=>(⟨b,c⟩:RsR)) l2):=by
  show _=_
  rw [E0.out]
  skip
  rw [qa7 hp]
 skip
 refine hK.out _ _ (HX.out W2 GG) (fun hSS=>?_)
 clear hSS hK K hR hp E0 G0 t1
 have G0:=GG
 have E0:=EE
 clear GG EE g2
 try simp only [qN]
 refine wpAnyH_take (i:=4) (v:=I f) rfl (by kernel_rfl) (by kernel_rfl) (by kernel_rfl) (fun _ _ _ h=>h) (Or.inl ⟨by rfl,?_⟩) (HX.out W2 G0) ?_
 ·intro w' hSw
  try dsimp only at hSw
  go_simp
 try simp only [qN]
 refine wpAnyH_take (i:=5) (v:=I c) rfl (by kernel_rfl) (by kernel_rfl) (by kernel_rfl) (fun _ _ _ h=>h) (Or.inl ⟨by rfl,?_⟩) (HX.out W2 G0) ?_
 ·intro w' hSw
  try dsimp only at hSw
  go_simp
 try simp only [qN]
 refine wpAnyH_done (by kernel_rfl) ?_ _
 have hY:=HY.out W2 G0
 by_cases hf:f≤1
 ·have hS:=qhl W2 f hf
  have cY0:(W2).cell? ⟨w.heap.size+1,0,none⟩=some (.bool false):=by rw [qcr hY];rfl
  have fY0:(W2).frozen? ⟨w.heap.size+1,0,none⟩=false:=frozen_of_row _ _ _ _ _ hY
  have hY0:=heap_setCell_same (W2) (w.heap.size+1) 0 _ _ (.bool (decide (f=1))) hY
  have cY1:((W2).setCell ⟨w.heap.size+1,0,none⟩ (.bool (decide (f=1)))).cell? ⟨w.heap.size+1,1,none⟩=some (I 0):=by rw [qcr hY0];rfl
  have fY1:((W2).setCell ⟨w.heap.size+1,0,none⟩ (.bool (decide (f=1)))).frozen? ⟨w.heap.size+1,1,none⟩=false:=frozen_of_row _ _ _ _ _ hY0
  have hY1:=heap_setCell_same ((W2).setCell ⟨w.heap.size+1,0,none⟩ (.bool (decide (f=1)))) (w.heap.size+1) 1 _ _ (I c) hY0
  have hEnd:RP w lo r VRs (pRs l0) (.returned (.agg #[.bool (decide (f=1)),I c])) (qS2 W2 (w.heap.size+1) (.bool (decide (f=1))) (I c)):=by
   rw [E0.out]
   unfold qbq
   rw [if_pos hf]
   exact ⟨_,rfl,rfl,(t2.setY (by omega)).setY (by omega),qaa (qaa (qa1 HB.out G0) (by omega)) (by omega)⟩
  have hYL:(qS2 W2 (w.heap.size+1) (.bool (decide (f=1))) (I c)).heap[w.heap.size+1]?=some (.cells #[.bool (decide (f=1)),I c] 78):=hY1
  clear E0 hY hw1
  go_wp2_with (first | (go_at_call 171;refine hS.mono ?_;rintro e w3 ⟨rfl,rfl⟩))
  refine bodyPost_ret (qqm Tryz.results110 _ (w.heap.size+1) _ _ _ rfl hYL) rfl ?_
  exact hEnd
 ·have hS:=qiy W2 f hf
  have e9:RP w lo r VRs (pRs l0) (gup 103) W2:=by
   rw [E0.out]
   unfold qbq
   rw [if_neg hf]
   exact ⟨rfl,qa1 HB.out G0⟩
  clear E0 hY hw1
  go_wp2_with (first | (go_at_call 171;refine hS.mono ?_;rintro e w3 ⟨rfl,rfl⟩))
  exact ⟨rfl,e9⟩
end Go.Proofs.YtijgopkhdjaolaaGreat
