import Derived.Test.YtijgopkhdjaolabGreatXHrrTk
import Derived.Test.YtijgopkhdjaolabGreatXHr4
import Derived.Deep.RegionHeldLaw
set_option linter.unusedSimpArgs false
set_option linter.unusedVariables false
set_option maxHeartbeats 16000000
set_option maxRecDepth 100000
namespace Go.Proofs.YtijgopkhdjaolabGreat
open Go.RowKit Go.Shelf Go.Sort
open Go.Proofs.YtijgopkhdjaolabGreat.Ob (leB leV qa8 qag crc Rd RdAll qa7 Rdr)
theorem qrv {fn:Func} {m:Nat} (hf:fn.results=#[.cell m 84]) (tmps:Array Value) (b:Nat) (w:World) (z0 z1 z2:Value) (h2:tmps[m]?=some (.pointer (some ⟨b,0,none⟩))) (hk:w.heap[b]?=some (.cells #[z0,z1,z2] 84 (0,0))) (h1:z0.oneCell'=true∧z1.oneCell'=true∧z2.oneCell'=true):(results fn tmps).run Tryz.prog w=.ok (.agg #[z0,z1,z2]) w:=by
 have a1:=fun i=>cell_of_row w b i _ _ (0,0) hk
 have y0:=a1 0;have y1:=a1 1;have y2:=a1 2;simp at y0 y1 y2;simp [results,hf,go_sem,h2,y0,y1,y2]
theorem qsx {w:World} {lo r:Nat} {l0:List UInt8} (t0:Rst w lo r l0) (j:Nat):Calls Tryz.prog 48 #[rdP r,I j] w fun e w'=>RP w lo r (VIs lo) (pIs l0) e w':=by
 have hlo:=t0.le;have hrl:=t0.lt;have hc0:=qcq w r;have hb1:=qa0 (w.alloc (rdO r)) (.cells #[I 0,I 0,qZ] 84);have hY0:=heap_alloc_new (w.alloc (rdO r)) (.cells #[I 0,I 0,qZ] 84);have HX:Hid (∀W,((w.alloc (rdO r)).alloc (.cells #[I 0,I 0,qZ] 84)).grownBy W (some r)→W.cell? ⟨w.heap.size,0,none⟩=some (.pointer (some ⟨r,0,none⟩))):=fun W hW=>hW.cell (by rw [qa5 hb1 _ _ (by simp)];exact hc0) (by show some w.heap.size≠some r;intro e;cases e;omega)
 have HY:Hid (∀W,((w.alloc (rdO r)).alloc (.cells #[I 0,I 0,qZ] 84)).grownBy W (some r)→W.heap[w.heap.size+1]?=some (.cells #[I 0,I 0,qZ] 84)):=fun W hW=>qb8 hW (by have:=hY0;rwa [show (w.alloc (rdO r)).heap.size=w.heap.size+1 by simp] at this) (by omega)
 have s0:=(t0.al (rdO r)).al (.cells #[I 0,I 0,qZ] 84);have HB:Hid (w.grownBy ((w.alloc (rdO r)).alloc (.cells #[I 0,I 0,qZ] 84)) (some r)):=qah ((qa0 w _).trans (hb1.mono (qa0 w _).size));have E0:Hid (pIs l0=pIs l0):=rfl;clear hc0 hb1 hY0 t0;go_enter Tryz.func48,Tryz.ntmps48
 go_upto_region 1 with fail;generalize (w.alloc (rdO r)).alloc (.cells #[I 0,I 0,.slice none 0 0] 84)=w1 at *;have G0:=qah (r:=some r) (Below.refl w1.heap.size w1).drew;have HC:=HX.out w1.drew G0;refine wp_region_held_drew (S:=fun W=>W.cell? ⟨w.heap.size,0,none⟩=some (.pointer (some ⟨r,0,none⟩))) (by kernel_rfl) HC (fun hHeld=>?_);clear HC;change wpAnyH _ _ _ _ _ _ #[false,false,false,false,false,false,false,false] _ _;try simp only [qN]
 refine qTH 0 (rdP r) rfl hHeld ?_;try simp only [qN]
 refine qTH 2 (rdP r) rfl hHeld ?_;try simp only [qN]
 refine qTH 4 (rdP r) rfl hHeld ?_;try simp only [qN]
 clear hHeld;have t0:=s0.below (Below.refl w1.heap.size w1).drew;clear s0;generalize w1.drew=W0 at *;refine qR1 (i:=1) rfl (fun K hK=>?_);go_simp;refine (qbd t0).mono ?_;intro e W1 hR;rcases hp:p1 l0 with c | ⟨c,l1⟩
 ·rw [hp] at hR
  obtain ⟨rfl,hg⟩:=qar hR;have e9:RP w lo r (VIs lo) (pIs l0) (gup c) W1:=by
   rw [E0.out];unfold pIs;rw [qaj hp];exact ⟨rfl,qa1 HB.out (qa1 G0 hg)⟩
  exact ⟨rfl,e9⟩
 rw [hp] at hR;obtain ⟨u1,rfl,hv,t1,g1⟩:=qaq hR;have q:u1=I c:=hv;subst q;have GG:=qa1 G0 g1;have EE:Hid (pIs l0=(andP p1 fun p=>andP pL fun o=>retP ⟨c,p,o⟩) l1):=by
  show _=_;rw [E0.out];unfold pIs;rw [qa9 hp]
 skip;refine hK.out _ _ (HX.out W1 GG) (fun hSS=>?_);clear hSS hK K hR hp E0 G0 t0;have G0:=GG;have E0:=EE;clear GG EE g1;try simp only [qN]
 refine qR1 (i:=3) rfl (fun K hK=>?_);go_simp;refine (qbd t1).mono ?_;intro e W2 hR;rcases hp:p1 l1 with c | ⟨p,l2⟩
 ·rw [hp] at hR
  obtain ⟨rfl,hg⟩:=qar hR;have e9:RP w lo r (VIs lo) (pIs l0) (gup c) W2:=by
   rw [E0.out];skip;rw [qaj hp];exact ⟨rfl,qa1 HB.out (qa1 G0 hg)⟩
  exact ⟨rfl,e9⟩
 rw [hp] at hR;obtain ⟨u2,rfl,hv,t2,g2⟩:=qaq hR;have q:u2=I p:=hv;subst q;have GG:=qa1 G0 g2;have EE:Hid (pIs l0=(andP pL fun o=>retP ⟨c,p,o⟩) l2):=by
  show _=_;rw [E0.out];skip;rw [qa9 hp]
 skip;refine hK.out _ _ (HX.out W2 GG) (fun hSS=>?_);clear hSS hK K hR hp E0 G0 t1;have G0:=GG;have E0:=EE;clear GG EE g2;try simp only [qN]
 refine qR1 (i:=5) rfl (fun K hK=>?_);go_simp;refine (qkx t2).mono ?_;intro e W3 hR;rcases hp:pL l2 with c | ⟨o,l3⟩
 ·rw [hp] at hR
  obtain ⟨rfl,hg⟩:=qar hR;have e9:RP w lo r (VIs lo) (pIs l0) (gup c) W3:=by
   rw [E0.out];skip;rw [qaj hp];exact ⟨rfl,qa1 HB.out (qa1 G0 hg)⟩
  exact ⟨rfl,e9⟩
 rw [hp] at hR;obtain ⟨u3,rfl,hv,t3,g3⟩:=qaq hR;obtain ⟨sa,sc,rfl,m3⟩:=hv;have GG:=qa1 G0 g3;have EE:Hid (pIs l0=(retP ⟨c,p,o⟩) l3):=by
  show _=_;rw [E0.out];skip;rw [qa9 hp]
 skip;refine hK.out _ _ (HX.out W3 GG) (fun hSS=>?_);clear hSS hK K hR hp E0 G0 t2;have G0:=GG;have E0:=EE;clear GG EE g3;try simp only [qN]
 refine wpAnyH_take (i:=6) (v:=.agg #[I c,I p,.slice sa o.length sc]) rfl (by kernel_rfl) (by kernel_rfl) (by kernel_rfl) (fun _ _ _ h=>h) (Or.inl ⟨by rfl,?_⟩) (HX.out W3 G0) ?_
 ·intro w' hSw
  try dsimp only at hSw
  go_simp
 try simp only [qN]
 have hY:=HY.out W3 G0;have cY0:(W3).cell? ⟨w.heap.size+1,0,none⟩=some (I 0):=by rw [qcr hY];rfl
 have fY0:(W3).frozen? ⟨w.heap.size+1,0,none⟩=false:=frozen_of_row _ _ _ _ _ hY;have hY0:=heap_setCell_same (W3) (w.heap.size+1) 0 _ _ (I c) hY;have cY1:((W3).setCell ⟨w.heap.size+1,0,none⟩ (I c)).cell? ⟨w.heap.size+1,1,none⟩=some (I 0):=by rw [qcr hY0];rfl
 have fY1:((W3).setCell ⟨w.heap.size+1,0,none⟩ (I c)).frozen? ⟨w.heap.size+1,1,none⟩=false:=frozen_of_row _ _ _ _ _ hY0;have hY1:=heap_setCell_same ((W3).setCell ⟨w.heap.size+1,0,none⟩ (I c)) (w.heap.size+1) 1 _ _ (I p) hY0;have cY2:(qS2 W3 (w.heap.size+1) (I c) (I p)).cell? ⟨w.heap.size+1,2,none⟩=some qZ:=by rw [qcr hY1];rfl
 have fY2:(qS2 W3 (w.heap.size+1) (I c) (I p)).frozen? ⟨w.heap.size+1,2,none⟩=false:=frozen_of_row _ _ _ _ _ hY1;have hY2:=heap_setCell_same (qS2 W3 (w.heap.size+1) (I c) (I p)) (w.heap.size+1) 2 _ _ (.slice sa o.length sc) hY1;refine qR1 (i:=7) rfl (fun K hK=>?_);go_simp;have hSf:(qS3 W3 (w.heap.size+1) (I c) (I p) (.slice sa o.length sc)).cell? ⟨w.heap.size,0,none⟩=some (.pointer (some ⟨r,0,none⟩)):=by
  have hz:=HX.out W3 G0;repeat rw [World.cell?_setCell_far _ _ _ _ (by show w.heap.size+1≠w.heap.size;omega)]
  exact hz
 refine hK.out _ _ hSf (fun hSS=>?_);clear hSS hK K;try simp only [qN]
 refine wpAnyH_done (by kernel_rfl) ?_ _;have hYL:(qS3 W3 (w.heap.size+1) (I c) (I p) (.slice sa o.length sc)).heap[w.heap.size+1]?=some (.cells #[I c,I p,.slice sa o.length sc] 84):=hY2;have hEnd:RP w lo r (VIs lo) (pIs l0) (.returned (.agg #[I c,I p,.slice sa o.length sc])) (qS3 W3 (w.heap.size+1) (I c) (I p) (.slice sa o.length sc)):=by
  rw [E0.out];skip;refine ⟨_,rfl,⟨sa,sc,rfl,qao (qao (qao m3 hY (by decide)) hY0 (by decide)) hY1 (by decide)⟩,(((t3.setY (by omega)).setY (by omega)).setY (by omega)),(qae (qae (qae (qa1 HB.out G0) (by omega)) (by omega)) (by omega))⟩
 clear E0;go_wp2;refine bodyPost_ret (qrv Tryz.results48 _ (w.heap.size+1) _ _ _ _ rfl hYL ⟨rfl,rfl,rfl⟩) rfl ?_;exact hEnd
end Go.Proofs.YtijgopkhdjaolabGreat
