import Derived.Test.YtijgopkhdjaolaaGreatXHr3
import Derived.Test.YtijgopkhdjaolaaGreatXHrrIs
import Derived.Deep.RegionHeldLaw
namespace Go.Proofs.YtijgopkhdjaolaaGreat
open Go.RowKit Go.Shelf Go.Sort
open Go.Proofs.YtijgopkhdjaolaaGreat.Ob (leB leV qac qam crc Rd RdAll qad Rdr)
set_option linter.unusedSimpArgs false
set_option linter.unusedVariables false
set_option maxHeartbeats 16000000
set_option maxRecDepth 100000
theorem qni {fn : Func} {m : Nat} (hf : fn.results = #[.cell m 87]) (tmps : Array Value) (b : Nat) (w : World) (z0 z1 z2 : Value) (h2 : tmps[m]? = some (.pointer (some ⟨b,0,none⟩))) (hk : w.heap[b]? = some (.cells #[z0,z1,z2] 87 (0,0))) (h1 : z0.oneCell' = true ∧ z1.oneCell' = true ∧ z2.oneCell' = true) : (results fn tmps).run Tryz.prog w = .ok (.agg #[z0,z1,z2]) w := by
 have a1 := fun i => cell_of_row w b i _ _ (0,0) hk
 have y0 := a1 0
 have y1 := a1 1
 have y2 := a1 2
 simp at y0 y1 y2
 simp [results,hf,go_sem,h2,y0,y1,y2]
theorem qoq {w : World} {lo r : Nat} {l0 : List UInt8} (t0 : Rst w lo r l0) (j : Nat) : Calls Tryz.prog 116 #[rdP r,I j] w fun e w' => RP w lo r (VIs lo) (pIs l0) e w' := by
 have hlo := t0.le
 have hrl := t0.lt
 have hc0 := qbo w r
 have hb1 := qa0 (w.alloc (rdO r)) (.cells #[I 0,I 0, .slice none 0 0] 87)
 have hY0 := heap_alloc_new (w.alloc (rdO r)) (.cells #[I 0,I 0, .slice none 0 0] 87)
 have HX : Hid (∀ W,((w.alloc (rdO r)).alloc (.cells #[I 0,I 0, .slice none 0 0] 87)).grownBy W (some r) → W.cell? ⟨w.heap.size,0,none⟩ = some (.pointer (some ⟨r,0,none⟩))) := fun W hW => hW.cell (by rw [qa6 hb1 _ _ (by simp)]; exact hc0) (by show some w.heap.size ≠ some r; intro e; cases e; omega)
 have HY : Hid (∀ W,((w.alloc (rdO r)).alloc (.cells #[I 0,I 0, .slice none 0 0] 87)).grownBy W (some r) → W.heap[w.heap.size + 1]? = some (.cells #[I 0,I 0, .slice none 0 0] 87)) := fun W hW => qas hW (by have := hY0; rwa [show (w.alloc (rdO r)).heap.size = w.heap.size + 1 by simp] at this) (by omega)
 have s0 := (t0.al (rdO r)).al (.cells #[I 0,I 0, .slice none 0 0] 87)
 have HB : Hid (w.grownBy ((w.alloc (rdO r)).alloc (.cells #[I 0,I 0, .slice none 0 0] 87)) (some r)) := qa9 ((qa0 w _).trans (hb1.mono (qa0 w _).size))
 have E0 : Hid (pIs l0 = pIs l0) := rfl
 clear hc0 hb1 hY0 t0
 go_enter Tryz.func116,Tryz.ntmps116
 go_upto_region 1 with fail
 generalize (w.alloc (rdO r)).alloc (.cells #[I 0,I 0, .slice none 0 0] 87) = w1 at *
 have G0 := qa9 (r := some r) (Below.refl w1.heap.size w1).drew
 have HC := HX.out w1.drew G0
 refine wp_region_held_drew (S := fun W => W.cell? ⟨w.heap.size,0,none⟩ = some (.pointer (some ⟨r,0,none⟩))) (by kernel_rfl) HC (fun hHeld => ?_)
 clear HC
 change wpAnyH _ _ _ _ _ _ #[false,false,false,false,false,false,false,false] _ _
 try simp only [Act.put,q7a,q7b,q7c,q7d,q7e,q7f]
 refine wpAnyH_take (i := 0) (v := rdP r) rfl (by kernel_rfl) (by kernel_rfl) (by kernel_rfl) (fun _ _ _ h => h) (Or.inl ⟨by rfl, ?_⟩) hHeld ?_
 ·intro w' hSw
  try dsimp only at hSw
  clear hHeld
  go_simp
 try simp only [Act.put,q7a,q7b,q7c,q7d,q7e,q7f]
 refine wpAnyH_take (i := 2) (v := rdP r) rfl (by kernel_rfl) (by kernel_rfl) (by kernel_rfl) (fun _ _ _ h => h) (Or.inl ⟨by rfl, ?_⟩) hHeld ?_
 ·intro w' hSw
  try dsimp only at hSw
  clear hHeld
  go_simp
 try simp only [Act.put,q7a,q7b,q7c,q7d,q7e,q7f]
 refine wpAnyH_take (i := 4) (v := rdP r) rfl (by kernel_rfl) (by kernel_rfl) (by kernel_rfl) (fun _ _ _ h => h) (Or.inl ⟨by rfl, ?_⟩) hHeld ?_
 ·intro w' hSw
  try dsimp only at hSw
  clear hHeld
  go_simp
 try simp only [Act.put,q7a,q7b,q7c,q7d,q7e,q7f]
 clear hHeld
 have t0 := s0.below (Below.refl w1.heap.size w1).drew
 clear s0
 generalize w1.drew = W0 at *
 refine wpAnyH_ready (rs := [1]) (by kernel_rfl) (by simp) ?_
 refine AllReadyH.cons rfl (fun K hK => ?_) AllReadyH.nil
 go_simp
 refine (qat t0).mono ?_
 intro e W1 hR
 rcases hp : p1 l0 with c | ⟨c,l1⟩
 ·rw [hp] at hR
  obtain ⟨rfl,hg⟩ := qal hR
  have e9 : RP w lo r (VIs lo) (pIs l0) (gup c) W1 := by
   rw [E0.out]
   unfold pIs
   rw [qab hp]
   exact ⟨rfl,qa1 HB.out (qa1 G0 hg)⟩
  exact ⟨rfl,e9⟩
 rw [hp] at hR
 obtain ⟨u1,rfl,hv,t1,g1⟩ := qak hR
 have q : u1 = I c := hv
 subst q
 have GG := qa1 G0 g1
 have EE : Hid (pIs l0 = (andP p1 fun p => andP pL fun o => retP ⟨c,p,o⟩) l1) := by
  show _ = _
  rw [E0.out]
  unfold pIs
  rw [qa7 hp]
 skip
 refine hK.out _ _ (HX.out W1 GG) (fun hSS => ?_)
 clear hSS hK K hR hp E0 G0 t0
 have G0 := GG
 have E0 := EE
 clear GG EE g1
 try simp only [Act.put,q7a,q7b,q7c,q7d,q7e,q7f]
 refine wpAnyH_ready (rs := [3]) (by kernel_rfl) (by simp) ?_
 refine AllReadyH.cons rfl (fun K hK => ?_) AllReadyH.nil
 go_simp
 refine (qat t1).mono ?_
 intro e W2 hR
 rcases hp : p1 l1 with c | ⟨p,l2⟩
 ·rw [hp] at hR
  obtain ⟨rfl,hg⟩ := qal hR
  have e9 : RP w lo r (VIs lo) (pIs l0) (gup c) W2 := by
   rw [E0.out]
   skip
   rw [qab hp]
   exact ⟨rfl,qa1 HB.out (qa1 G0 hg)⟩
  exact ⟨rfl,e9⟩
 rw [hp] at hR
 obtain ⟨u2,rfl,hv,t2,g2⟩ := qak hR
 have q : u2 = I p := hv
 subst q
 have GG := qa1 G0 g2
 have EE : Hid (pIs l0 = (andP pL fun o => retP ⟨c,p,o⟩) l2) := by
  show _ = _
  rw [E0.out]
  skip
  rw [qa7 hp]
 skip
 refine hK.out _ _ (HX.out W2 GG) (fun hSS => ?_)
 clear hSS hK K hR hp E0 G0 t1
 have G0 := GG
 have E0 := EE
 clear GG EE g2
 try simp only [Act.put,q7a,q7b,q7c,q7d,q7e,q7f]
 refine wpAnyH_ready (rs := [5]) (by kernel_rfl) (by simp) ?_
 refine AllReadyH.cons rfl (fun K hK => ?_) AllReadyH.nil
 go_simp
 refine (qhq t2).mono ?_
 intro e W3 hR
 rcases hp : pL l2 with c | ⟨o,l3⟩
 ·rw [hp] at hR
  obtain ⟨rfl,hg⟩ := qal hR
  have e9 : RP w lo r (VIs lo) (pIs l0) (gup c) W3 := by
   rw [E0.out]
   skip
   rw [qab hp]
   exact ⟨rfl,qa1 HB.out (qa1 G0 hg)⟩
  exact ⟨rfl,e9⟩
 rw [hp] at hR
 obtain ⟨u3,rfl,hv,t3,g3⟩ := qak hR
 obtain ⟨sa,sc,rfl,m3⟩ := hv
 have GG := qa1 G0 g3
 have EE : Hid (pIs l0 = (retP ⟨c,p,o⟩) l3) := by
  show _ = _
  rw [E0.out]
  skip
  rw [qa7 hp]
 skip
 refine hK.out _ _ (HX.out W3 GG) (fun hSS => ?_)
 clear hSS hK K hR hp E0 G0 t2
 have G0 := GG
 have E0 := EE
 clear GG EE g3
 try simp only [Act.put,q7a,q7b,q7c,q7d,q7e,q7f]
 refine wpAnyH_take (i := 6) (v := .agg #[I c,I p, .slice sa o.length sc]) rfl (by kernel_rfl) (by kernel_rfl) (by kernel_rfl) (fun _ _ _ h => h) (Or.inl ⟨by rfl, ?_⟩) (HX.out W3 G0) ?_
 ·intro w' hSw
  try dsimp only at hSw
  go_simp
 try simp only [Act.put,q7a,q7b,q7c,q7d,q7e,q7f]
 have hY := HY.out W3 G0
 have cY0 : (W3).cell? ⟨w.heap.size + 1,0,none⟩ = some (I 0) := by rw [cell_of_row _ _ _ _ _ (0,0) hY]; rfl
 have fY0 : (W3).frozen? ⟨w.heap.size + 1,0,none⟩ = false := frozen_of_row _ _ _ _ _ hY
 have hY0 := heap_setCell_same (W3) (w.heap.size + 1) 0 _ _ (I c) hY
 have cY1 : ((W3).setCell ⟨w.heap.size + 1,0,none⟩ (I c)).cell? ⟨w.heap.size + 1,1,none⟩ = some (I 0) := by rw [cell_of_row _ _ _ _ _ (0,0) hY0]; rfl
 have fY1 : ((W3).setCell ⟨w.heap.size + 1,0,none⟩ (I c)).frozen? ⟨w.heap.size + 1,1,none⟩ = false := frozen_of_row _ _ _ _ _ hY0
 have hY1 := heap_setCell_same ((W3).setCell ⟨w.heap.size + 1,0,none⟩ (I c)) (w.heap.size + 1) 1 _ _ (I p) hY0
 have cY2 : (((W3).setCell ⟨w.heap.size + 1,0,none⟩ (I c)).setCell ⟨w.heap.size + 1,1,none⟩ (I p)).cell? ⟨w.heap.size + 1,2,none⟩ = some (.slice none 0 0) := by rw [cell_of_row _ _ _ _ _ (0,0) hY1]; rfl
 have fY2 : (((W3).setCell ⟨w.heap.size + 1,0,none⟩ (I c)).setCell ⟨w.heap.size + 1,1,none⟩ (I p)).frozen? ⟨w.heap.size + 1,2,none⟩ = false := frozen_of_row _ _ _ _ _ hY1
 have hY2 := heap_setCell_same (((W3).setCell ⟨w.heap.size + 1,0,none⟩ (I c)).setCell ⟨w.heap.size + 1,1,none⟩ (I p)) (w.heap.size + 1) 2 _ _ (.slice sa o.length sc) hY1
 refine wpAnyH_ready (rs := [7]) (by kernel_rfl) (by simp) ?_
 refine AllReadyH.cons rfl (fun K hK => ?_) AllReadyH.nil
 go_simp
 have hSf : ((((W3).setCell ⟨w.heap.size + 1,0,none⟩ (I c)).setCell ⟨w.heap.size + 1,1,none⟩ (I p)).setCell ⟨w.heap.size + 1,2,none⟩ (.slice sa o.length sc)).cell? ⟨w.heap.size,0,none⟩ = some (.pointer (some ⟨r,0,none⟩)) := by
  have hz := HX.out W3 G0
  repeat rw [World.cell?_setCell_far _ _ _ _ (by show w.heap.size + 1 ≠ w.heap.size; omega)]
  exact hz
 refine hK.out _ _ hSf (fun hSS => ?_)
 clear hSS hK K
 try simp only [Act.put,q7a,q7b,q7c,q7d,q7e,q7f]
 refine wpAnyH_done (by kernel_rfl) ?_ _
 have hYL : ((((W3).setCell ⟨w.heap.size + 1,0,none⟩ (I c)).setCell ⟨w.heap.size + 1,1,none⟩ (I p)).setCell ⟨w.heap.size + 1,2,none⟩ (.slice sa o.length sc)).heap[w.heap.size + 1]? = some (.cells #[I c,I p, .slice sa o.length sc] 87) := hY2
 have hEnd : RP w lo r (VIs lo) (pIs l0) (.returned (.agg #[I c,I p, .slice sa o.length sc])) ((((W3).setCell ⟨w.heap.size + 1,0,none⟩ (I c)).setCell ⟨w.heap.size + 1,1,none⟩ (I p)).setCell ⟨w.heap.size + 1,2,none⟩ (.slice sa o.length sc)) := by
  rw [E0.out]
  skip
  refine ⟨_,rfl,⟨sa,sc,rfl,qah (qah (qah m3 hY (by decide)) hY0 (by decide)) hY1 (by decide)⟩,(((t3.setY (by omega)).setY (by omega)).setY (by omega)),(qa8 (qa8 (qa8 (qa1 HB.out G0) (by omega)) (by omega)) (by omega))⟩
 clear E0
 go_wp2
 refine bodyPost_ret (qni Tryz.results116 _ (w.heap.size + 1) _ _ _ _ rfl hYL ⟨rfl,rfl,rfl⟩) rfl ?_
 exact hEnd
theorem qnj {fn : Func} {m : Nat} (hf : fn.results = #[.cell m 78]) (tmps : Array Value) (b : Nat) (w : World) (z0 z1 : Value) (h2 : tmps[m]? = some (.pointer (some ⟨b,0,none⟩))) (hk : w.heap[b]? = some (.cells #[z0,z1] 78 (0,0))) : (results fn tmps).run Tryz.prog w = .ok (.agg #[z0,z1]) w := by
 have a1 := fun i => cell_of_row w b i _ _ (0,0) hk
 have y0 := a1 0
 have y1 := a1 1
 simp at y0 y1
 simp [results,hf,go_sem,h2,y0,y1]
theorem qor {w : World} {lo r : Nat} {l0 : List UInt8} (t0 : Rst w lo r l0) (j : Nat) : Calls Tryz.prog 110 #[rdP r,I j] w fun e w' => RP w lo r VRs (pRs l0) e w' := by
 have hlo := t0.le
 have hrl := t0.lt
 have hc0 := qbo w r
 have hb1 := qa0 (w.alloc (rdO r)) (.cells #[.bool false,I 0] 78)
 have hY0 := heap_alloc_new (w.alloc (rdO r)) (.cells #[.bool false,I 0] 78)
 have HX : Hid (∀ W,((w.alloc (rdO r)).alloc (.cells #[.bool false,I 0] 78)).grownBy W (some r) → W.cell? ⟨w.heap.size,0,none⟩ = some (.pointer (some ⟨r,0,none⟩))) := fun W hW => hW.cell (by rw [qa6 hb1 _ _ (by simp)]; exact hc0) (by show some w.heap.size ≠ some r; intro e; cases e; omega)
 have HY : Hid (∀ W,((w.alloc (rdO r)).alloc (.cells #[.bool false,I 0] 78)).grownBy W (some r) → W.heap[w.heap.size + 1]? = some (.cells #[.bool false,I 0] 78)) := fun W hW => qas hW (by have := hY0; rwa [show (w.alloc (rdO r)).heap.size = w.heap.size + 1 by simp] at this) (by omega)
 have s0 := (t0.al (rdO r)).al (.cells #[.bool false,I 0] 78)
 have HB : Hid (w.grownBy ((w.alloc (rdO r)).alloc (.cells #[.bool false,I 0] 78)) (some r)) := qa9 ((qa0 w _).trans (hb1.mono (qa0 w _).size))
 have hs1 : w.heap.size + 2 ≤ ((w.alloc (rdO r)).alloc (.cells #[.bool false,I 0] 78)).heap.size := by simp
 have E0 : Hid (pRs l0 = pRs l0) := rfl
 clear hc0 hb1 hY0 t0
 go_enter Tryz.func110,Tryz.ntmps110
 go_upto_region 1 with fail
 generalize (w.alloc (rdO r)).alloc (.cells #[.bool false,I 0] 78) = w1 at *
 have G0 := qa9 (r := some r) (Below.refl w1.heap.size w1).drew
 have HC := HX.out w1.drew G0
 refine wp_region_held_drew (S := fun W => W.cell? ⟨w.heap.size,0,none⟩ = some (.pointer (some ⟨r,0,none⟩))) (by kernel_rfl) HC (fun hHeld => ?_)
 clear HC
 change wpAnyH _ _ _ _ _ _ #[false,false,false,false,false,false] _ _
 try simp only [Act.put,q7a,q7b,q7c,q7d,q7e,q7f]
 refine wpAnyH_take (i := 0) (v := rdP r) rfl (by kernel_rfl) (by kernel_rfl) (by kernel_rfl) (fun _ _ _ h => h) (Or.inl ⟨by rfl, ?_⟩) hHeld ?_
 ·intro w' hSw
  try dsimp only at hSw
  clear hHeld
  go_simp
 try simp only [Act.put,q7a,q7b,q7c,q7d,q7e,q7f]
 refine wpAnyH_take (i := 2) (v := rdP r) rfl (by kernel_rfl) (by kernel_rfl) (by kernel_rfl) (fun _ _ _ h => h) (Or.inl ⟨by rfl, ?_⟩) hHeld ?_
 ·intro w' hSw
  try dsimp only at hSw
  clear hHeld
  go_simp
 try simp only [Act.put,q7a,q7b,q7c,q7d,q7e,q7f]
 clear hHeld
 have t0 := s0.below (Below.refl w1.heap.size w1).drew
 clear s0
 generalize w1.drew = W0 at *
 refine wpAnyH_ready (rs := [1]) (by kernel_rfl) (by simp) ?_
 refine AllReadyH.cons rfl (fun K hK => ?_) AllReadyH.nil
 go_simp
 refine (qat t0).mono ?_
 intro e W1 hR
 rcases hp : pn 1 l0 with c | ⟨f,l1⟩
 ·rw [show p1 l0 = .error c from qab hp] at hR
  obtain ⟨rfl,hg⟩ := qal hR
  have e9 : RP w lo r VRs (pRs l0) (gup c) W1 := by
   rw [E0.out]
   unfold pRs
   rw [qab hp]
   exact ⟨rfl,qa1 HB.out (qa1 G0 hg)⟩
  exact ⟨rfl,e9⟩
 rw [show p1 l0 = .ok ((f : Int),l1) from qa7 hp] at hR
 obtain ⟨u1,rfl,hv,t1,g1⟩ := qak hR
 have q : u1 = I f := hv
 subst q
 have GG := qa1 G0 g1
 have EE : Hid (pRs l0 = (andP pM fun c => qb9 f fun b => (⟨b,c⟩ : RsR)) l1) := by
  show _ = _
  rw [E0.out]
  unfold pRs
  rw [qa7 hp]
 have hw1 : IntKind.u32.wrap (f : Int) = f := by have := qbr hp; rw [IntKind.wrap_u32]; omega
 refine hK.out _ _ (HX.out W1 GG) (fun hSS => ?_)
 clear hSS hK K hR hp E0 G0 t0
 have G0 := GG
 have E0 := EE
 clear GG EE g1
 try simp only [Act.put,q7a,q7b,q7c,q7d,q7e,q7f]
 refine wpAnyH_ready (rs := [3]) (by kernel_rfl) (by simp) ?_
 refine AllReadyH.cons rfl (fun K hK => ?_) AllReadyH.nil
 go_simp
 refine (qgv t1).mono ?_
 intro e W2 hR
 rcases hp : pM l1 with c | ⟨c,l2⟩
 ·rw [hp] at hR
  obtain ⟨rfl,hg⟩ := qal hR
  have e9 : RP w lo r VRs (pRs l0) (gup c) W2 := by
   rw [E0.out]
   skip
   rw [qab hp]
   exact ⟨rfl,qa1 HB.out (qa1 G0 hg)⟩
  exact ⟨rfl,e9⟩
 rw [hp] at hR
 obtain ⟨u2,rfl,hv,t2,g2⟩ := qak hR
 have q : u2 = I c := hv
 subst q
 have GG := qa1 G0 g2
 have EE : Hid (pRs l0 = (qb9 f fun b => (⟨b,c⟩ : RsR)) l2) := by
  show _ = _
  rw [E0.out]
  skip
  rw [qa7 hp]
 skip
 refine hK.out _ _ (HX.out W2 GG) (fun hSS => ?_)
 clear hSS hK K hR hp E0 G0 t1
 have G0 := GG
 have E0 := EE
 clear GG EE g2
 try simp only [Act.put,q7a,q7b,q7c,q7d,q7e,q7f]
 refine wpAnyH_take (i := 4) (v := I f) rfl (by kernel_rfl) (by kernel_rfl) (by kernel_rfl) (fun _ _ _ h => h) (Or.inl ⟨by rfl, ?_⟩) (HX.out W2 G0) ?_
 ·intro w' hSw
  try dsimp only at hSw
  go_simp
 try simp only [Act.put,q7a,q7b,q7c,q7d,q7e,q7f]
 refine wpAnyH_take (i := 5) (v := I c) rfl (by kernel_rfl) (by kernel_rfl) (by kernel_rfl) (fun _ _ _ h => h) (Or.inl ⟨by rfl, ?_⟩) (HX.out W2 G0) ?_
 ·intro w' hSw
  try dsimp only at hSw
  go_simp
 try simp only [Act.put,q7a,q7b,q7c,q7d,q7e,q7f]
 refine wpAnyH_done (by kernel_rfl) ?_ _
 have hY := HY.out W2 G0
 by_cases hf : f ≤ 1
 ·have hS := qfl W2 f hf
  have cY0 : (W2).cell? ⟨w.heap.size + 1,0,none⟩ = some (.bool false) := by rw [cell_of_row _ _ _ _ _ (0,0) hY]; rfl
  have fY0 : (W2).frozen? ⟨w.heap.size + 1,0,none⟩ = false := frozen_of_row _ _ _ _ _ hY
  have hY0 := heap_setCell_same (W2) (w.heap.size + 1) 0 _ _ (.bool (decide (f = 1))) hY
  have cY1 : ((W2).setCell ⟨w.heap.size + 1,0,none⟩ (.bool (decide (f = 1)))).cell? ⟨w.heap.size + 1,1,none⟩ = some (I 0) := by rw [cell_of_row _ _ _ _ _ (0,0) hY0]; rfl
  have fY1 : ((W2).setCell ⟨w.heap.size + 1,0,none⟩ (.bool (decide (f = 1)))).frozen? ⟨w.heap.size + 1,1,none⟩ = false := frozen_of_row _ _ _ _ _ hY0
  have hY1 := heap_setCell_same ((W2).setCell ⟨w.heap.size + 1,0,none⟩ (.bool (decide (f = 1)))) (w.heap.size + 1) 1 _ _ (I c) hY0
  have hEnd : RP w lo r VRs (pRs l0) (.returned (.agg #[.bool (decide (f = 1)),I c])) (((W2).setCell ⟨w.heap.size + 1,0,none⟩ (.bool (decide (f = 1)))).setCell ⟨w.heap.size + 1,1,none⟩ (I c)) := by
   rw [E0.out]
   unfold qb9
   rw [if_pos hf]
   exact ⟨_,rfl,rfl,(t2.setY (by omega)).setY (by omega),qa8 (qa8 (qa1 HB.out G0) (by omega)) (by omega)⟩
  have hYL : (((W2).setCell ⟨w.heap.size + 1,0,none⟩ (.bool (decide (f = 1)))).setCell ⟨w.heap.size + 1,1,none⟩ (I c)).heap[w.heap.size + 1]? = some (.cells #[.bool (decide (f = 1)),I c] 78) := hY1
  clear E0 hY hw1
  go_wp2_with (first | (go_at_call 171; refine hS.mono ?_; rintro e w3 ⟨rfl,rfl⟩))
  refine bodyPost_ret (qnj Tryz.results110 _ (w.heap.size + 1) _ _ _ rfl hYL) rfl ?_
  exact hEnd
 ·have hS := qgw W2 f hf
  have e9 : RP w lo r VRs (pRs l0) (gup 103) W2 := by
   rw [E0.out]
   unfold qb9
   rw [if_neg hf]
   exact ⟨rfl,qa1 HB.out G0⟩
  clear E0 hY hw1
  go_wp2_with (first | (go_at_call 171; refine hS.mono ?_; rintro e w3 ⟨rfl,rfl⟩))
  exact ⟨rfl,e9⟩
end Go.Proofs.YtijgopkhdjaolaaGreat
