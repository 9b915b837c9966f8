import Derived.Test.YtijgopkhdjaolaaGreatXHr3
import Derived.Test.YtijgopkhdjaolaaGreatXHrrIs
import Derived.Deep.RegionHeldLaw
import Derived.Test.YtijgopkhdjaolaaGreatXHr4
namespace Go.Proofs.YtijgopkhdjaolaaGreat
open Go.RowKit Go.Shelf Go.Sort
open Go.Proofs.YtijgopkhdjaolaaGreat.Ob (leB leV qac qam crc Rd RdAll qad Rdr)
set_option linter.unusedSimpArgs false
set_option linter.unusedVariables false
set_option maxHeartbeats 16000000
set_option maxRecDepth 100000
theorem qng {fn : Func} {m : Nat} (hf : fn.results = #[.cell m 85]) (tmps : Array Value) (b : Nat) (w : World) (z0 z1 z2 z3 z4 z5 z6 : Value) (h2 : tmps[m]? = some (.pointer (some ⟨b,0,none⟩))) (hk : w.heap[b]? = some (.cells #[z0,z1,z2,z3,z4,z5,z6] 85 (0,0))) (h1 : z0.oneCell' = true ∧ z1.oneCell' = true ∧ z2.oneCell' = true ∧ z3.oneCell' = true ∧ z4.oneCell' = true ∧ z5.oneCell' = true ∧ z6.oneCell' = true) : (results fn tmps).run Tryz.prog w = .ok (.agg #[z0,z1,z2,z3,z4,z5,z6]) w := by
 have a1 := fun i => cell_of_row w b i _ _ (0,0) hk
 have y0 := a1 0
 have y1 := a1 1
 have y2 := a1 2
 have y3 := a1 3
 have y4 := a1 4
 have y5 := a1 5
 have y6 := a1 6
 simp at y0 y1 y2 y3 y4 y5 y6
 simp [results,hf,go_sem,h2,y0,y1,y2,y3,y4,y5,y6]
theorem qoo {w : World} {lo r : Nat} {l0 : List UInt8} (t0 : Rst w lo r l0) (j : Nat) : Calls Tryz.prog 114 #[rdP r,I j] w fun e w' => RP w lo r VAl (pAl l0) e w' := by
 have hlo := t0.le
 have hrl := t0.lt
 have hc0 := qbo w r
 have hb1 := qa0 (w.alloc (rdO r)) (.cells #[I 0,I 0,I 0, .int .u32 0, .int .u32 0, .int .u32 0, .int .u32 0] 85)
 have hY0 := heap_alloc_new (w.alloc (rdO r)) (.cells #[I 0,I 0,I 0, .int .u32 0, .int .u32 0, .int .u32 0, .int .u32 0] 85)
 have HX : Hid (∀ W,((w.alloc (rdO r)).alloc (.cells #[I 0,I 0,I 0, .int .u32 0, .int .u32 0, .int .u32 0, .int .u32 0] 85)).grownBy W (some r) → W.cell? ⟨w.heap.size,0,none⟩ = some (.pointer (some ⟨r,0,none⟩))) := fun W hW => hW.cell (by rw [qa6 hb1 _ _ (by simp)]; exact hc0) (by show some w.heap.size ≠ some r; intro e; cases e; omega)
 have HY : Hid (∀ W,((w.alloc (rdO r)).alloc (.cells #[I 0,I 0,I 0, .int .u32 0, .int .u32 0, .int .u32 0, .int .u32 0] 85)).grownBy W (some r) → W.heap[w.heap.size + 1]? = some (.cells #[I 0,I 0,I 0, .int .u32 0, .int .u32 0, .int .u32 0, .int .u32 0] 85)) := fun W hW => qas hW (by have := hY0; rwa [show (w.alloc (rdO r)).heap.size = w.heap.size + 1 by simp] at this) (by omega)
 have s0 := (t0.al (rdO r)).al (.cells #[I 0,I 0,I 0, .int .u32 0, .int .u32 0, .int .u32 0, .int .u32 0] 85)
 have HB : Hid (w.grownBy ((w.alloc (rdO r)).alloc (.cells #[I 0,I 0,I 0, .int .u32 0, .int .u32 0, .int .u32 0, .int .u32 0] 85)) (some r)) := qa9 ((qa0 w _).trans (hb1.mono (qa0 w _).size))
 have E0 : Hid (pAl l0 = pAl l0) := rfl
 clear hc0 hb1 hY0 t0
 go_enter Tryz.func114,Tryz.ntmps114
 go_upto_region 1 with fail
 generalize (w.alloc (rdO r)).alloc (.cells #[I 0,I 0,I 0, .int .u32 0, .int .u32 0, .int .u32 0, .int .u32 0] 85) = w1 at *
 have G0 := qa9 (r := some r) (Below.refl w1.heap.size w1).drew
 have HC := HX.out w1.drew G0
 refine wp_region_held_drew (S := fun W => W.cell? ⟨w.heap.size,0,none⟩ = some (.pointer (some ⟨r,0,none⟩))) (by kernel_rfl) HC (fun hHeld => ?_)
 clear HC
 change wpAnyH _ _ _ _ _ _ #[false,false,false,false,false,false,false,false,false,false,false,false,false] _ _
 try simp only [Act.put,q7a,q7b,q7c,q7d,q7e,q7f]
 refine wpAnyH_take (i := 0) (v := rdP r) rfl (by kernel_rfl) (by kernel_rfl) (by kernel_rfl) (fun _ _ _ h => h) (Or.inl ⟨by rfl, ?_⟩) hHeld ?_
 ·intro w' hSw
  try dsimp only at hSw
  clear hHeld
  go_simp
 try simp only [Act.put,q7a,q7b,q7c,q7d,q7e,q7f]
 refine wpAnyH_take (i := 2) (v := rdP r) rfl (by kernel_rfl) (by kernel_rfl) (by kernel_rfl) (fun _ _ _ h => h) (Or.inl ⟨by rfl, ?_⟩) hHeld ?_
 ·intro w' hSw
  try dsimp only at hSw
  clear hHeld
  go_simp
 try simp only [Act.put,q7a,q7b,q7c,q7d,q7e,q7f]
 refine wpAnyH_take (i := 4) (v := rdP r) rfl (by kernel_rfl) (by kernel_rfl) (by kernel_rfl) (fun _ _ _ h => h) (Or.inl ⟨by rfl, ?_⟩) hHeld ?_
 ·intro w' hSw
  try dsimp only at hSw
  clear hHeld
  go_simp
 try simp only [Act.put,q7a,q7b,q7c,q7d,q7e,q7f]
 refine wpAnyH_take (i := 7) (v := rdP r) rfl (by kernel_rfl) (by kernel_rfl) (by kernel_rfl) (fun _ _ _ h => h) (Or.inl ⟨by rfl, ?_⟩) hHeld ?_
 ·intro w' hSw
  try dsimp only at hSw
  clear hHeld
  go_simp
 try simp only [Act.put,q7a,q7b,q7c,q7d,q7e,q7f]
 refine wpAnyH_take (i := 9) (v := rdP r) rfl (by kernel_rfl) (by kernel_rfl) (by kernel_rfl) (fun _ _ _ h => h) (Or.inl ⟨by rfl, ?_⟩) hHeld ?_
 ·intro w' hSw
  try dsimp only at hSw
  clear hHeld
  go_simp
 try simp only [Act.put,q7a,q7b,q7c,q7d,q7e,q7f]
 clear hHeld
 have t0 := s0.below (Below.refl w1.heap.size w1).drew
 clear s0
 generalize w1.drew = W0 at *
 refine wpAnyH_ready (rs := [1]) (by kernel_rfl) (by simp) ?_
 refine AllReadyH.cons rfl (fun K hK => ?_) AllReadyH.nil
 go_simp
 refine (qat t0).mono ?_
 intro e W1 hR
 rcases hp : p1 l0 with c | ⟨c,l1⟩
 ·rw [hp] at hR
  obtain ⟨rfl,hg⟩ := qal hR
  have e9 : RP w lo r VAl (pAl l0) (gup c) W1 := by
   rw [E0.out]
   unfold pAl
   rw [qab hp]
   exact ⟨rfl,qa1 HB.out (qa1 G0 hg)⟩
  exact ⟨rfl,e9⟩
 rw [hp] at hR
 obtain ⟨u1,rfl,hv,t1,g1⟩ := qak hR
 have q : u1 = I c := hv
 subst q
 have GG := qa1 G0 g1
 have EE : Hid (pAl l0 = (andP pAc fun a => andP (pn 1) fun u => andP (pn 4) fun t => andP (pn 4) fun y => retP ⟨c,a,u,t,y⟩) l1) := by
  show _ = _
  rw [E0.out]
  unfold pAl
  rw [qa7 hp]
 skip
 refine hK.out _ _ (HX.out W1 GG) (fun hSS => ?_)
 clear hSS hK K hR hp E0 G0 t0
 have G0 := GG
 have E0 := EE
 clear GG EE g1
 try simp only [Act.put,q7a,q7b,q7c,q7d,q7e,q7f]
 refine wpAnyH_ready (rs := [3]) (by kernel_rfl) (by simp) ?_
 refine AllReadyH.cons rfl (fun K hK => ?_) AllReadyH.nil
 go_simp
 refine (qlf t1).mono ?_
 intro e W2 hR
 rcases hp : pAc l1 with c | ⟨a,l2⟩
 ·rw [hp] at hR
  obtain ⟨rfl,hg⟩ := qal hR
  have e9 : RP w lo r VAl (pAl l0) (gup c) W2 := by
   rw [E0.out]
   skip
   rw [qab hp]
   exact ⟨rfl,qa1 HB.out (qa1 G0 hg)⟩
  exact ⟨rfl,e9⟩
 rw [hp] at hR
 obtain ⟨u2,rfl,hv,t2,g2⟩ := qak hR
 have q : u2 = .agg #[I a.kind,I a.task, .int .u32 (a.mask : Int)] := hv
 subst q
 have GG := qa1 G0 g2
 have EE : Hid (pAl l0 = (andP (pn 1) fun u => andP (pn 4) fun t => andP (pn 4) fun y => retP ⟨c,a,u,t,y⟩) l2) := by
  show _ = _
  rw [E0.out]
  skip
  rw [qa7 hp]
 skip
 refine hK.out _ _ (HX.out W2 GG) (fun hSS => ?_)
 clear hSS hK K hR hp E0 G0 t1
 have G0 := GG
 have E0 := EE
 clear GG EE g2
 try simp only [Act.put,q7a,q7b,q7c,q7d,q7e,q7f]
 refine wpAnyH_ready (rs := [5]) (by kernel_rfl) (by simp) ?_
 refine AllReadyH.cons rfl (fun K hK => ?_) AllReadyH.nil
 go_simp
 refine (qat t2).mono ?_
 intro e W3 hR
 rcases hp : pn 1 l2 with c | ⟨u,l3⟩
 ·rw [show p1 l2 = .error c from qab hp] at hR
  obtain ⟨rfl,hg⟩ := qal hR
  have e9 : RP w lo r VAl (pAl l0) (gup c) W3 := by
   rw [E0.out]
   skip
   rw [qab hp]
   exact ⟨rfl,qa1 HB.out (qa1 G0 hg)⟩
  exact ⟨rfl,e9⟩
 rw [show p1 l2 = .ok ((u : Int),l3) from qa7 hp] at hR
 obtain ⟨u3,rfl,hv,t3,g3⟩ := qak hR
 have q : u3 = I u := hv
 subst q
 have GG := qa1 G0 g3
 have EE : Hid (pAl l0 = (andP (pn 4) fun t => andP (pn 4) fun y => retP ⟨c,a,u,t,y⟩) l3) := by
  show _ = _
  rw [E0.out]
  skip
  rw [qa7 hp]
 have hw3 : IntKind.u32.wrap (u : Int) = u := by have := qbr hp; rw [IntKind.wrap_u32]; omega
 refine hK.out _ _ (HX.out W3 GG) (fun hSS => ?_)
 clear hSS hK K hR hp E0 G0 t2
 have G0 := GG
 have E0 := EE
 clear GG EE g3
 try simp only [Act.put,q7a,q7b,q7c,q7d,q7e,q7f]
 refine wpAnyH_take (i := 6) (v := .int .u32 (u : Int)) rfl (by kernel_rfl) (by kernel_rfl) (by kernel_rfl) (fun _ _ _ h => h) (Or.inl ⟨by rfl, ?_⟩) (HX.out W3 G0) ?_
 ·intro w' hSw
  try dsimp only at hSw
  go_simp
 try simp only [Act.put,q7a,q7b,q7c,q7d,q7e,q7f]
 refine wpAnyH_ready (rs := [8]) (by kernel_rfl) (by simp) ?_
 refine AllReadyH.cons rfl (fun K hK => ?_) AllReadyH.nil
 go_simp
 refine (qco t3).mono ?_
 intro e W4 hR
 rcases hp : pn 4 l3 with c | ⟨t,l4⟩
 ·rw [hp] at hR
  obtain ⟨rfl,hg⟩ := qal hR
  have e9 : RP w lo r VAl (pAl l0) (gup c) W4 := by
   rw [E0.out]
   skip
   rw [qab hp]
   exact ⟨rfl,qa1 HB.out (qa1 G0 hg)⟩
  exact ⟨rfl,e9⟩
 rw [hp] at hR
 obtain ⟨u4,rfl,hv,t4,g4⟩ := qak hR
 have q : u4 = .int .u32 (t : Int) := hv
 subst q
 have GG := qa1 G0 g4
 have EE : Hid (pAl l0 = (andP (pn 4) fun y => retP ⟨c,a,u,t,y⟩) l4) := by
  show _ = _
  rw [E0.out]
  skip
  rw [qa7 hp]
 skip
 refine hK.out _ _ (HX.out W4 GG) (fun hSS => ?_)
 clear hSS hK K hR hp E0 G0 t3
 have G0 := GG
 have E0 := EE
 clear GG EE g4
 try simp only [Act.put,q7a,q7b,q7c,q7d,q7e,q7f]
 refine wpAnyH_ready (rs := [10]) (by kernel_rfl) (by simp) ?_
 refine AllReadyH.cons rfl (fun K hK => ?_) AllReadyH.nil
 go_simp
 refine (qco t4).mono ?_
 intro e W5 hR
 rcases hp : pn 4 l4 with c | ⟨y,l5⟩
 ·rw [hp] at hR
  obtain ⟨rfl,hg⟩ := qal hR
  have e9 : RP w lo r VAl (pAl l0) (gup c) W5 := by
   rw [E0.out]
   skip
   rw [qab hp]
   exact ⟨rfl,qa1 HB.out (qa1 G0 hg)⟩
  exact ⟨rfl,e9⟩
 rw [hp] at hR
 obtain ⟨u5,rfl,hv,t5,g5⟩ := qak hR
 have q : u5 = .int .u32 (y : Int) := hv
 subst q
 have GG := qa1 G0 g5
 have EE : Hid (pAl l0 = (retP ⟨c,a,u,t,y⟩) l5) := by
  show _ = _
  rw [E0.out]
  skip
  rw [qa7 hp]
 skip
 refine hK.out _ _ (HX.out W5 GG) (fun hSS => ?_)
 clear hSS hK K hR hp E0 G0 t4
 have G0 := GG
 have E0 := EE
 clear GG EE g5
 try simp only [Act.put,q7a,q7b,q7c,q7d,q7e,q7f]
 refine wpAnyH_take (i := 11) (v := .agg #[I c,I a.kind,I a.task, .int .u32 (a.mask : Int), .int .u32 (u : Int), .int .u32 (t : Int), .int .u32 (y : Int)]) rfl (by kernel_rfl) (by kernel_rfl) (by kernel_rfl) (fun _ _ _ h => h) (Or.inl ⟨by rfl, ?_⟩) (HX.out W5 G0) ?_
 ·intro w' hSw
  try dsimp only at hSw
  go_simp
 try simp only [Act.put,q7a,q7b,q7c,q7d,q7e,q7f]
 have hY := HY.out W5 G0
 have cY0 : (W5).cell? ⟨w.heap.size + 1,0,none⟩ = some (I 0) := by rw [cell_of_row _ _ _ _ _ (0,0) hY]; rfl
 have fY0 : (W5).frozen? ⟨w.heap.size + 1,0,none⟩ = false := frozen_of_row _ _ _ _ _ hY
 have hY0 := heap_setCell_same (W5) (w.heap.size + 1) 0 _ _ (I c) hY
 have cY1 : ((W5).setCell ⟨w.heap.size + 1,0,none⟩ (I c)).cell? ⟨w.heap.size + 1,1,none⟩ = some (I 0) := by rw [cell_of_row _ _ _ _ _ (0,0) hY0]; rfl
 have fY1 : ((W5).setCell ⟨w.heap.size + 1,0,none⟩ (I c)).frozen? ⟨w.heap.size + 1,1,none⟩ = false := frozen_of_row _ _ _ _ _ hY0
 have hY1 := heap_setCell_same ((W5).setCell ⟨w.heap.size + 1,0,none⟩ (I c)) (w.heap.size + 1) 1 _ _ (I a.kind) hY0
 have cY2 : (((W5).setCell ⟨w.heap.size + 1,0,none⟩ (I c)).setCell ⟨w.heap.size + 1,1,none⟩ (I a.kind)).cell? ⟨w.heap.size + 1,2,none⟩ = some (I 0) := by rw [cell_of_row _ _ _ _ _ (0,0) hY1]; rfl
 have fY2 : (((W5).setCell ⟨w.heap.size + 1,0,none⟩ (I c)).setCell ⟨w.heap.size + 1,1,none⟩ (I a.kind)).frozen? ⟨w.heap.size + 1,2,none⟩ = false := frozen_of_row _ _ _ _ _ hY1
 have hY2 := heap_setCell_same (((W5).setCell ⟨w.heap.size + 1,0,none⟩ (I c)).setCell ⟨w.heap.size + 1,1,none⟩ (I a.kind)) (w.heap.size + 1) 2 _ _ (I a.task) hY1
 have cY3 : ((((W5).setCell ⟨w.heap.size + 1,0,none⟩ (I c)).setCell ⟨w.heap.size + 1,1,none⟩ (I a.kind)).setCell ⟨w.heap.size + 1,2,none⟩ (I a.task)).cell? ⟨w.heap.size + 1,3,none⟩ = some (.int .u32 0) := by rw [cell_of_row _ _ _ _ _ (0,0) hY2]; rfl
 have fY3 : ((((W5).setCell ⟨w.heap.size + 1,0,none⟩ (I c)).setCell ⟨w.heap.size + 1,1,none⟩ (I a.kind)).setCell ⟨w.heap.size + 1,2,none⟩ (I a.task)).frozen? ⟨w.heap.size + 1,3,none⟩ = false := frozen_of_row _ _ _ _ _ hY2
 have hY3 := heap_setCell_same ((((W5).setCell ⟨w.heap.size + 1,0,none⟩ (I c)).setCell ⟨w.heap.size + 1,1,none⟩ (I a.kind)).setCell ⟨w.heap.size + 1,2,none⟩ (I a.task)) (w.heap.size + 1) 3 _ _ (.int .u32 (a.mask : Int)) hY2
 have cY4 : (((((W5).setCell ⟨w.heap.size + 1,0,none⟩ (I c)).setCell ⟨w.heap.size + 1,1,none⟩ (I a.kind)).setCell ⟨w.heap.size + 1,2,none⟩ (I a.task)).setCell ⟨w.heap.size + 1,3,none⟩ (.int .u32 (a.mask : Int))).cell? ⟨w.heap.size + 1,4,none⟩ = some (.int .u32 0) := by rw [cell_of_row _ _ _ _ _ (0,0) hY3]; rfl
 have fY4 : (((((W5).setCell ⟨w.heap.size + 1,0,none⟩ (I c)).setCell ⟨w.heap.size + 1,1,none⟩ (I a.kind)).setCell ⟨w.heap.size + 1,2,none⟩ (I a.task)).setCell ⟨w.heap.size + 1,3,none⟩ (.int .u32 (a.mask : Int))).frozen? ⟨w.heap.size + 1,4,none⟩ = false := frozen_of_row _ _ _ _ _ hY3
 have hY4 := heap_setCell_same (((((W5).setCell ⟨w.heap.size + 1,0,none⟩ (I c)).setCell ⟨w.heap.size + 1,1,none⟩ (I a.kind)).setCell ⟨w.heap.size + 1,2,none⟩ (I a.task)).setCell ⟨w.heap.size + 1,3,none⟩ (.int .u32 (a.mask : Int))) (w.heap.size + 1) 4 _ _ (.int .u32 (u : Int)) hY3
 have cY5 : ((((((W5).setCell ⟨w.heap.size + 1,0,none⟩ (I c)).setCell ⟨w.heap.size + 1,1,none⟩ (I a.kind)).setCell ⟨w.heap.size + 1,2,none⟩ (I a.task)).setCell ⟨w.heap.size + 1,3,none⟩ (.int .u32 (a.mask : Int))).setCell ⟨w.heap.size + 1,4,none⟩ (.int .u32 (u : Int))).cell? ⟨w.heap.size + 1,5,none⟩ = some (.int .u32 0) := by rw [cell_of_row _ _ _ _ _ (0,0) hY4]; rfl
 have fY5 : ((((((W5).setCell ⟨w.heap.size + 1,0,none⟩ (I c)).setCell ⟨w.heap.size + 1,1,none⟩ (I a.kind)).setCell ⟨w.heap.size + 1,2,none⟩ (I a.task)).setCell ⟨w.heap.size + 1,3,none⟩ (.int .u32 (a.mask : Int))).setCell ⟨w.heap.size + 1,4,none⟩ (.int .u32 (u : Int))).frozen? ⟨w.heap.size + 1,5,none⟩ = false := frozen_of_row _ _ _ _ _ hY4
 have hY5 := heap_setCell_same ((((((W5).setCell ⟨w.heap.size + 1,0,none⟩ (I c)).setCell ⟨w.heap.size + 1,1,none⟩ (I a.kind)).setCell ⟨w.heap.size + 1,2,none⟩ (I a.task)).setCell ⟨w.heap.size + 1,3,none⟩ (.int .u32 (a.mask : Int))).setCell ⟨w.heap.size + 1,4,none⟩ (.int .u32 (u : Int))) (w.heap.size + 1) 5 _ _ (.int .u32 (t : Int)) hY4
 have cY6 : (((((((W5).setCell ⟨w.heap.size + 1,0,none⟩ (I c)).setCell ⟨w.heap.size + 1,1,none⟩ (I a.kind)).setCell ⟨w.heap.size + 1,2,none⟩ (I a.task)).setCell ⟨w.heap.size + 1,3,none⟩ (.int .u32 (a.mask : Int))).setCell ⟨w.heap.size + 1,4,none⟩ (.int .u32 (u : Int))).setCell ⟨w.heap.size + 1,5,none⟩ (.int .u32 (t : Int))).cell? ⟨w.heap.size + 1,6,none⟩ = some (.int .u32 0) := by rw [cell_of_row _ _ _ _ _ (0,0) hY5]; rfl
 have fY6 : (((((((W5).setCell ⟨w.heap.size + 1,0,none⟩ (I c)).setCell ⟨w.heap.size + 1,1,none⟩ (I a.kind)).setCell ⟨w.heap.size + 1,2,none⟩ (I a.task)).setCell ⟨w.heap.size + 1,3,none⟩ (.int .u32 (a.mask : Int))).setCell ⟨w.heap.size + 1,4,none⟩ (.int .u32 (u : Int))).setCell ⟨w.heap.size + 1,5,none⟩ (.int .u32 (t : Int))).frozen? ⟨w.heap.size + 1,6,none⟩ = false := frozen_of_row _ _ _ _ _ hY5
 have hY6 := heap_setCell_same (((((((W5).setCell ⟨w.heap.size + 1,0,none⟩ (I c)).setCell ⟨w.heap.size + 1,1,none⟩ (I a.kind)).setCell ⟨w.heap.size + 1,2,none⟩ (I a.task)).setCell ⟨w.heap.size + 1,3,none⟩ (.int .u32 (a.mask : Int))).setCell ⟨w.heap.size + 1,4,none⟩ (.int .u32 (u : Int))).setCell ⟨w.heap.size + 1,5,none⟩ (.int .u32 (t : Int))) (w.heap.size + 1) 6 _ _ (.int .u32 (y : Int)) hY5
 refine wpAnyH_ready (rs := [12]) (by kernel_rfl) (by simp) ?_
 refine AllReadyH.cons rfl (fun K hK => ?_) AllReadyH.nil
 go_simp
 have hSf : ((((((((W5).setCell ⟨w.heap.size + 1,0,none⟩ (I c)).setCell ⟨w.heap.size + 1,1,none⟩ (I a.kind)).setCell ⟨w.heap.size + 1,2,none⟩ (I a.task)).setCell ⟨w.heap.size + 1,3,none⟩ (.int .u32 (a.mask : Int))).setCell ⟨w.heap.size + 1,4,none⟩ (.int .u32 (u : Int))).setCell ⟨w.heap.size + 1,5,none⟩ (.int .u32 (t : Int))).setCell ⟨w.heap.size + 1,6,none⟩ (.int .u32 (y : Int))).cell? ⟨w.heap.size,0,none⟩ = some (.pointer (some ⟨r,0,none⟩)) := by
  have hz := HX.out W5 G0
  repeat rw [World.cell?_setCell_far _ _ _ _ (by show w.heap.size + 1 ≠ w.heap.size; omega)]
  exact hz
 refine hK.out _ _ hSf (fun hSS => ?_)
 clear hSS hK K
 try simp only [Act.put,q7a,q7b,q7c,q7d,q7e,q7f]
 refine wpAnyH_done (by kernel_rfl) ?_ _
 have hYL : ((((((((W5).setCell ⟨w.heap.size + 1,0,none⟩ (I c)).setCell ⟨w.heap.size + 1,1,none⟩ (I a.kind)).setCell ⟨w.heap.size + 1,2,none⟩ (I a.task)).setCell ⟨w.heap.size + 1,3,none⟩ (.int .u32 (a.mask : Int))).setCell ⟨w.heap.size + 1,4,none⟩ (.int .u32 (u : Int))).setCell ⟨w.heap.size + 1,5,none⟩ (.int .u32 (t : Int))).setCell ⟨w.heap.size + 1,6,none⟩ (.int .u32 (y : Int))).heap[w.heap.size + 1]? = some (.cells #[I c,I a.kind,I a.task, .int .u32 (a.mask : Int), .int .u32 (u : Int), .int .u32 (t : Int), .int .u32 (y : Int)] 85) := hY6
 have hEnd : RP w lo r VAl (pAl l0) (.returned (.agg #[I c,I a.kind,I a.task, .int .u32 (a.mask : Int), .int .u32 (u : Int), .int .u32 (t : Int), .int .u32 (y : Int)])) ((((((((W5).setCell ⟨w.heap.size + 1,0,none⟩ (I c)).setCell ⟨w.heap.size + 1,1,none⟩ (I a.kind)).setCell ⟨w.heap.size + 1,2,none⟩ (I a.task)).setCell ⟨w.heap.size + 1,3,none⟩ (.int .u32 (a.mask : Int))).setCell ⟨w.heap.size + 1,4,none⟩ (.int .u32 (u : Int))).setCell ⟨w.heap.size + 1,5,none⟩ (.int .u32 (t : Int))).setCell ⟨w.heap.size + 1,6,none⟩ (.int .u32 (y : Int))) := by
  rw [E0.out]
  skip
  refine ⟨_,rfl,rfl,(((((((t5.setY (by omega)).setY (by omega)).setY (by omega)).setY (by omega)).setY (by omega)).setY (by omega)).setY (by omega)),(qa8 (qa8 (qa8 (qa8 (qa8 (qa8 (qa8 (qa1 HB.out G0) (by omega)) (by omega)) (by omega)) (by omega)) (by omega)) (by omega)) (by omega))⟩
 clear E0
 go_wp2
 refine bodyPost_ret (qng Tryz.results114 _ (w.heap.size + 1) _ _ _ _ _ _ _ _ rfl hYL ⟨rfl,rfl,rfl,rfl,rfl,rfl,rfl⟩) rfl ?_
 exact hEnd
theorem qnh {fn : Func} {m : Nat} (hf : fn.results = #[.cell m 91]) (tmps : Array Value) (b : Nat) (w : World) (z0 z1 z2 z3 z4 z5 z6 z7 : Value) (h2 : tmps[m]? = some (.pointer (some ⟨b,0,none⟩))) (hk : w.heap[b]? = some (.cells #[z0,z1,z2,z3,z4,z5,z6,z7] 91 (0,0))) (h1 : z0.oneCell' = true ∧ z1.oneCell' = true ∧ z2.oneCell' = true ∧ z3.oneCell' = true ∧ z4.oneCell' = true ∧ z5.oneCell' = true ∧ z6.oneCell' = true ∧ z7.oneCell' = true) : (results fn tmps).run Tryz.prog w = .ok (.agg #[z0,z1,z2,z3,z4,z5,z6,z7]) w := by
 have a1 := fun i => cell_of_row w b i _ _ (0,0) hk
 have y0 := a1 0
 have y1 := a1 1
 have y2 := a1 2
 have y3 := a1 3
 have y4 := a1 4
 have y5 := a1 5
 have y6 := a1 6
 have y7 := a1 7
 simp at y0 y1 y2 y3 y4 y5 y6 y7
 simp [results,hf,go_sem,h2,y0,y1,y2,y3,y4,y5,y6,y7]
theorem qop {w : World} {lo r : Nat} {l0 : List UInt8} (t0 : Rst w lo r l0) (j : Nat) : Calls Tryz.prog 118 #[rdP r,I j] w fun e w' => RP w lo r VMs (pMs l0) e w' := by
 have hlo := t0.le
 have hrl := t0.lt
 have hc0 := qbo w r
 have hb1 := qa0 (w.alloc (rdO r)) (.cells #[I 0,I 0,I 0, .int .u64 0,I 0,I 0,I 0, .int .u32 0] 91)
 have hY0 := heap_alloc_new (w.alloc (rdO r)) (.cells #[I 0,I 0,I 0, .int .u64 0,I 0,I 0,I 0, .int .u32 0] 91)
 have HX : Hid (∀ W,((w.alloc (rdO r)).alloc (.cells #[I 0,I 0,I 0, .int .u64 0,I 0,I 0,I 0, .int .u32 0] 91)).grownBy W (some r) → W.cell? ⟨w.heap.size,0,none⟩ = some (.pointer (some ⟨r,0,none⟩))) := fun W hW => hW.cell (by rw [qa6 hb1 _ _ (by simp)]; exact hc0) (by show some w.heap.size ≠ some r; intro e; cases e; omega)
 have HY : Hid (∀ W,((w.alloc (rdO r)).alloc (.cells #[I 0,I 0,I 0, .int .u64 0,I 0,I 0,I 0, .int .u32 0] 91)).grownBy W (some r) → W.heap[w.heap.size + 1]? = some (.cells #[I 0,I 0,I 0, .int .u64 0,I 0,I 0,I 0, .int .u32 0] 91)) := fun W hW => qas hW (by have := hY0; rwa [show (w.alloc (rdO r)).heap.size = w.heap.size + 1 by simp] at this) (by omega)
 have s0 := (t0.al (rdO r)).al (.cells #[I 0,I 0,I 0, .int .u64 0,I 0,I 0,I 0, .int .u32 0] 91)
 have HB : Hid (w.grownBy ((w.alloc (rdO r)).alloc (.cells #[I 0,I 0,I 0, .int .u64 0,I 0,I 0,I 0, .int .u32 0] 91)) (some r)) := qa9 ((qa0 w _).trans (hb1.mono (qa0 w _).size))
 have E0 : Hid (pMs l0 = pMs l0) := rfl
 clear hc0 hb1 hY0 t0
 go_enter Tryz.func118,Tryz.ntmps118
 go_upto_region 1 with fail
 generalize (w.alloc (rdO r)).alloc (.cells #[I 0,I 0,I 0, .int .u64 0,I 0,I 0,I 0, .int .u32 0] 91) = w1 at *
 have G0 := qa9 (r := some r) (Below.refl w1.heap.size w1).drew
 have HC := HX.out w1.drew G0
 refine wp_region_held_drew (S := fun W => W.cell? ⟨w.heap.size,0,none⟩ = some (.pointer (some ⟨r,0,none⟩))) (by kernel_rfl) HC (fun hHeld => ?_)
 clear HC
 change wpAnyH _ _ _ _ _ _ #[false,false,false,false,false,false,false,false,false,false,false,false,false,false] _ _
 try simp only [Act.put,q7a,q7b,q7c,q7d,q7e,q7f]
 refine wpAnyH_take (i := 0) (v := rdP r) rfl (by kernel_rfl) (by kernel_rfl) (by kernel_rfl) (fun _ _ _ h => h) (Or.inl ⟨by rfl, ?_⟩) hHeld ?_
 ·intro w' hSw
  try dsimp only at hSw
  clear hHeld
  go_simp
 try simp only [Act.put,q7a,q7b,q7c,q7d,q7e,q7f]
 refine wpAnyH_take (i := 2) (v := rdP r) rfl (by kernel_rfl) (by kernel_rfl) (by kernel_rfl) (fun _ _ _ h => h) (Or.inl ⟨by rfl, ?_⟩) hHeld ?_
 ·intro w' hSw
  try dsimp only at hSw
  clear hHeld
  go_simp
 try simp only [Act.put,q7a,q7b,q7c,q7d,q7e,q7f]
 refine wpAnyH_take (i := 4) (v := rdP r) rfl (by kernel_rfl) (by kernel_rfl) (by kernel_rfl) (fun _ _ _ h => h) (Or.inl ⟨by rfl, ?_⟩) hHeld ?_
 ·intro w' hSw
  try dsimp only at hSw
  clear hHeld
  go_simp
 try simp only [Act.put,q7a,q7b,q7c,q7d,q7e,q7f]
 refine wpAnyH_take (i := 6) (v := rdP r) rfl (by kernel_rfl) (by kernel_rfl) (by kernel_rfl) (fun _ _ _ h => h) (Or.inl ⟨by rfl, ?_⟩) hHeld ?_
 ·intro w' hSw
  try dsimp only at hSw
  clear hHeld
  go_simp
 try simp only [Act.put,q7a,q7b,q7c,q7d,q7e,q7f]
 refine wpAnyH_take (i := 8) (v := rdP r) rfl (by kernel_rfl) (by kernel_rfl) (by kernel_rfl) (fun _ _ _ h => h) (Or.inl ⟨by rfl, ?_⟩) hHeld ?_
 ·intro w' hSw
  try dsimp only at hSw
  clear hHeld
  go_simp
 try simp only [Act.put,q7a,q7b,q7c,q7d,q7e,q7f]
 refine wpAnyH_take (i := 10) (v := rdP r) rfl (by kernel_rfl) (by kernel_rfl) (by kernel_rfl) (fun _ _ _ h => h) (Or.inl ⟨by rfl, ?_⟩) hHeld ?_
 ·intro w' hSw
  try dsimp only at hSw
  clear hHeld
  go_simp
 try simp only [Act.put,q7a,q7b,q7c,q7d,q7e,q7f]
 clear hHeld
 have t0 := s0.below (Below.refl w1.heap.size w1).drew
 clear s0
 generalize w1.drew = W0 at *
 refine wpAnyH_ready (rs := [1]) (by kernel_rfl) (by simp) ?_
 refine AllReadyH.cons rfl (fun K hK => ?_) AllReadyH.nil
 go_simp
 refine (qat t0).mono ?_
 intro e W1 hR
 rcases hp : p1 l0 with c | ⟨k,l1⟩
 ·rw [hp] at hR
  obtain ⟨rfl,hg⟩ := qal hR
  have e9 : RP w lo r VMs (pMs l0) (gup c) W1 := by
   rw [E0.out]
   unfold pMs
   rw [qab hp]
   exact ⟨rfl,qa1 HB.out (qa1 G0 hg)⟩
  exact ⟨rfl,e9⟩
 rw [hp] at hR
 obtain ⟨u1,rfl,hv,t1,g1⟩ := qak hR
 have q : u1 = I k := hv
 subst q
 have GG := qa1 G0 g1
 have EE : Hid (pMs l0 = (andP p1 fun n => andP p1 fun f => andP (pn 8) fun i => andP p1 fun q => andP pAc fun a => retP ⟨k,n,f,i,q,a⟩) l1) := by
  show _ = _
  rw [E0.out]
  unfold pMs
  rw [qa7 hp]
 skip
 refine hK.out _ _ (HX.out W1 GG) (fun hSS => ?_)
 clear hSS hK K hR hp E0 G0 t0
 have G0 := GG
 have E0 := EE
 clear GG EE g1
 try simp only [Act.put,q7a,q7b,q7c,q7d,q7e,q7f]
 refine wpAnyH_ready (rs := [3]) (by kernel_rfl) (by simp) ?_
 refine AllReadyH.cons rfl (fun K hK => ?_) AllReadyH.nil
 go_simp
 refine (qat t1).mono ?_
 intro e W2 hR
 rcases hp : p1 l1 with c | ⟨n,l2⟩
 ·rw [hp] at hR
  obtain ⟨rfl,hg⟩ := qal hR
  have e9 : RP w lo r VMs (pMs l0) (gup c) W2 := by
   rw [E0.out]
   skip
   rw [qab hp]
   exact ⟨rfl,qa1 HB.out (qa1 G0 hg)⟩
  exact ⟨rfl,e9⟩
 rw [hp] at hR
 obtain ⟨u2,rfl,hv,t2,g2⟩ := qak hR
 have q : u2 = I n := hv
 subst q
 have GG := qa1 G0 g2
 have EE : Hid (pMs l0 = (andP p1 fun f => andP (pn 8) fun i => andP p1 fun q => andP pAc fun a => retP ⟨k,n,f,i,q,a⟩) l2) := by
  show _ = _
  rw [E0.out]
  skip
  rw [qa7 hp]
 skip
 refine hK.out _ _ (HX.out W2 GG) (fun hSS => ?_)
 clear hSS hK K hR hp E0 G0 t1
 have G0 := GG
 have E0 := EE
 clear GG EE g2
 try simp only [Act.put,q7a,q7b,q7c,q7d,q7e,q7f]
 refine wpAnyH_ready (rs := [5]) (by kernel_rfl) (by simp) ?_
 refine AllReadyH.cons rfl (fun K hK => ?_) AllReadyH.nil
 go_simp
 refine (qat t2).mono ?_
 intro e W3 hR
 rcases hp : p1 l2 with c | ⟨f,l3⟩
 ·rw [hp] at hR
  obtain ⟨rfl,hg⟩ := qal hR
  have e9 : RP w lo r VMs (pMs l0) (gup c) W3 := by
   rw [E0.out]
   skip
   rw [qab hp]
   exact ⟨rfl,qa1 HB.out (qa1 G0 hg)⟩
  exact ⟨rfl,e9⟩
 rw [hp] at hR
 obtain ⟨u3,rfl,hv,t3,g3⟩ := qak hR
 have q : u3 = I f := hv
 subst q
 have GG := qa1 G0 g3
 have EE : Hid (pMs l0 = (andP (pn 8) fun i => andP p1 fun q => andP pAc fun a => retP ⟨k,n,f,i,q,a⟩) l3) := by
  show _ = _
  rw [E0.out]
  skip
  rw [qa7 hp]
 skip
 refine hK.out _ _ (HX.out W3 GG) (fun hSS => ?_)
 clear hSS hK K hR hp E0 G0 t2
 have G0 := GG
 have E0 := EE
 clear GG EE g3
 try simp only [Act.put,q7a,q7b,q7c,q7d,q7e,q7f]
 refine wpAnyH_ready (rs := [7]) (by kernel_rfl) (by simp) ?_
 refine AllReadyH.cons rfl (fun K hK => ?_) AllReadyH.nil
 go_simp
 refine (qd4 t3 8 (by omega) (by omega)).mono ?_
 intro e W4 hR
 rcases hp : pn 8 l3 with c | ⟨i,l4⟩
 ·rw [hp] at hR
  obtain ⟨rfl,hg⟩ := qal hR
  have e9 : RP w lo r VMs (pMs l0) (gup c) W4 := by
   rw [E0.out]
   skip
   rw [qab hp]
   exact ⟨rfl,qa1 HB.out (qa1 G0 hg)⟩
  exact ⟨rfl,e9⟩
 rw [hp] at hR
 obtain ⟨u4,rfl,hv,t4,g4⟩ := qak hR
 have q : u4 = .int .u64 (i : Int) := hv
 subst q
 have GG := qa1 G0 g4
 have EE : Hid (pMs l0 = (andP p1 fun q => andP pAc fun a => retP ⟨k,n,f,i,q,a⟩) l4) := by
  show _ = _
  rw [E0.out]
  skip
  rw [qa7 hp]
 skip
 refine hK.out _ _ (HX.out W4 GG) (fun hSS => ?_)
 clear hSS hK K hR hp E0 G0 t3
 have G0 := GG
 have E0 := EE
 clear GG EE g4
 try simp only [Act.put,q7a,q7b,q7c,q7d,q7e,q7f]
 refine wpAnyH_ready (rs := [9]) (by kernel_rfl) (by simp) ?_
 refine AllReadyH.cons rfl (fun K hK => ?_) AllReadyH.nil
 go_simp
 refine (qat t4).mono ?_
 intro e W5 hR
 rcases hp : p1 l4 with c | ⟨q,l5⟩
 ·rw [hp] at hR
  obtain ⟨rfl,hg⟩ := qal hR
  have e9 : RP w lo r VMs (pMs l0) (gup c) W5 := by
   rw [E0.out]
   skip
   rw [qab hp]
   exact ⟨rfl,qa1 HB.out (qa1 G0 hg)⟩
  exact ⟨rfl,e9⟩
 rw [hp] at hR
 obtain ⟨u5,rfl,hv,t5,g5⟩ := qak hR
 have q : u5 = I q := hv
 subst q
 have GG := qa1 G0 g5
 have EE : Hid (pMs l0 = (andP pAc fun a => retP ⟨k,n,f,i,q,a⟩) l5) := by
  show _ = _
  rw [E0.out]
  skip
  rw [qa7 hp]
 skip
 refine hK.out _ _ (HX.out W5 GG) (fun hSS => ?_)
 clear hSS hK K hR hp E0 G0 t4
 have G0 := GG
 have E0 := EE
 clear GG EE g5
 try simp only [Act.put,q7a,q7b,q7c,q7d,q7e,q7f]
 refine wpAnyH_ready (rs := [11]) (by kernel_rfl) (by simp) ?_
 refine AllReadyH.cons rfl (fun K hK => ?_) AllReadyH.nil
 go_simp
 refine (qlf t5).mono ?_
 intro e W6 hR
 rcases hp : pAc l5 with c | ⟨a,l6⟩
 ·rw [hp] at hR
  obtain ⟨rfl,hg⟩ := qal hR
  have e9 : RP w lo r VMs (pMs l0) (gup c) W6 := by
   rw [E0.out]
   skip
   rw [qab hp]
   exact ⟨rfl,qa1 HB.out (qa1 G0 hg)⟩
  exact ⟨rfl,e9⟩
 rw [hp] at hR
 obtain ⟨u6,rfl,hv,t6,g6⟩ := qak hR
 have q : u6 = .agg #[I a.kind,I a.task, .int .u32 (a.mask : Int)] := hv
 subst q
 have GG := qa1 G0 g6
 have EE : Hid (pMs l0 = (retP ⟨k,n,f,i,q,a⟩) l6) := by
  show _ = _
  rw [E0.out]
  skip
  rw [qa7 hp]
 skip
 refine hK.out _ _ (HX.out W6 GG) (fun hSS => ?_)
 clear hSS hK K hR hp E0 G0 t5
 have G0 := GG
 have E0 := EE
 clear GG EE g6
 try simp only [Act.put,q7a,q7b,q7c,q7d,q7e,q7f]
 refine wpAnyH_take (i := 12) (v := .agg #[I k,I n,I f, .int .u64 (i : Int),I q,I a.kind,I a.task, .int .u32 (a.mask : Int)]) rfl (by kernel_rfl) (by kernel_rfl) (by kernel_rfl) (fun _ _ _ h => h) (Or.inl ⟨by rfl, ?_⟩) (HX.out W6 G0) ?_
 ·intro w' hSw
  try dsimp only at hSw
  go_simp
 try simp only [Act.put,q7a,q7b,q7c,q7d,q7e,q7f]
 have hY := HY.out W6 G0
 have cY0 : (W6).cell? ⟨w.heap.size + 1,0,none⟩ = some (I 0) := by rw [cell_of_row _ _ _ _ _ (0,0) hY]; rfl
 have fY0 : (W6).frozen? ⟨w.heap.size + 1,0,none⟩ = false := frozen_of_row _ _ _ _ _ hY
 have hY0 := heap_setCell_same (W6) (w.heap.size + 1) 0 _ _ (I k) hY
 have cY1 : ((W6).setCell ⟨w.heap.size + 1,0,none⟩ (I k)).cell? ⟨w.heap.size + 1,1,none⟩ = some (I 0) := by rw [cell_of_row _ _ _ _ _ (0,0) hY0]; rfl
 have fY1 : ((W6).setCell ⟨w.heap.size + 1,0,none⟩ (I k)).frozen? ⟨w.heap.size + 1,1,none⟩ = false := frozen_of_row _ _ _ _ _ hY0
 have hY1 := heap_setCell_same ((W6).setCell ⟨w.heap.size + 1,0,none⟩ (I k)) (w.heap.size + 1) 1 _ _ (I n) hY0
 have cY2 : (((W6).setCell ⟨w.heap.size + 1,0,none⟩ (I k)).setCell ⟨w.heap.size + 1,1,none⟩ (I n)).cell? ⟨w.heap.size + 1,2,none⟩ = some (I 0) := by rw [cell_of_row _ _ _ _ _ (0,0) hY1]; rfl
 have fY2 : (((W6).setCell ⟨w.heap.size + 1,0,none⟩ (I k)).setCell ⟨w.heap.size + 1,1,none⟩ (I n)).frozen? ⟨w.heap.size + 1,2,none⟩ = false := frozen_of_row _ _ _ _ _ hY1
 have hY2 := heap_setCell_same (((W6).setCell ⟨w.heap.size + 1,0,none⟩ (I k)).setCell ⟨w.heap.size + 1,1,none⟩ (I n)) (w.heap.size + 1) 2 _ _ (I f) hY1
 have cY3 : ((((W6).setCell ⟨w.heap.size + 1,0,none⟩ (I k)).setCell ⟨w.heap.size + 1,1,none⟩ (I n)).setCell ⟨w.heap.size + 1,2,none⟩ (I f)).cell? ⟨w.heap.size + 1,3,none⟩ = some (.int .u64 0) := by rw [cell_of_row _ _ _ _ _ (0,0) hY2]; rfl
 have fY3 : ((((W6).setCell ⟨w.heap.size + 1,0,none⟩ (I k)).setCell ⟨w.heap.size + 1,1,none⟩ (I n)).setCell ⟨w.heap.size + 1,2,none⟩ (I f)).frozen? ⟨w.heap.size + 1,3,none⟩ = false := frozen_of_row _ _ _ _ _ hY2
 have hY3 := heap_setCell_same ((((W6).setCell ⟨w.heap.size + 1,0,none⟩ (I k)).setCell ⟨w.heap.size + 1,1,none⟩ (I n)).setCell ⟨w.heap.size + 1,2,none⟩ (I f)) (w.heap.size + 1) 3 _ _ (.int .u64 (i : Int)) hY2
 have cY4 : (((((W6).setCell ⟨w.heap.size + 1,0,none⟩ (I k)).setCell ⟨w.heap.size + 1,1,none⟩ (I n)).setCell ⟨w.heap.size + 1,2,none⟩ (I f)).setCell ⟨w.heap.size + 1,3,none⟩ (.int .u64 (i : Int))).cell? ⟨w.heap.size + 1,4,none⟩ = some (I 0) := by rw [cell_of_row _ _ _ _ _ (0,0) hY3]; rfl
 have fY4 : (((((W6).setCell ⟨w.heap.size + 1,0,none⟩ (I k)).setCell ⟨w.heap.size + 1,1,none⟩ (I n)).setCell ⟨w.heap.size + 1,2,none⟩ (I f)).setCell ⟨w.heap.size + 1,3,none⟩ (.int .u64 (i : Int))).frozen? ⟨w.heap.size + 1,4,none⟩ = false := frozen_of_row _ _ _ _ _ hY3
 have hY4 := heap_setCell_same (((((W6).setCell ⟨w.heap.size + 1,0,none⟩ (I k)).setCell ⟨w.heap.size + 1,1,none⟩ (I n)).setCell ⟨w.heap.size + 1,2,none⟩ (I f)).setCell ⟨w.heap.size + 1,3,none⟩ (.int .u64 (i : Int))) (w.heap.size + 1) 4 _ _ (I q) hY3
 have cY5 : ((((((W6).setCell ⟨w.heap.size + 1,0,none⟩ (I k)).setCell ⟨w.heap.size + 1,1,none⟩ (I n)).setCell ⟨w.heap.size + 1,2,none⟩ (I f)).setCell ⟨w.heap.size + 1,3,none⟩ (.int .u64 (i : Int))).setCell ⟨w.heap.size + 1,4,none⟩ (I q)).cell? ⟨w.heap.size + 1,5,none⟩ = some (I 0) := by rw [cell_of_row _ _ _ _ _ (0,0) hY4]; rfl
 have fY5 : ((((((W6).setCell ⟨w.heap.size + 1,0,none⟩ (I k)).setCell ⟨w.heap.size + 1,1,none⟩ (I n)).setCell ⟨w.heap.size + 1,2,none⟩ (I f)).setCell ⟨w.heap.size + 1,3,none⟩ (.int .u64 (i : Int))).setCell ⟨w.heap.size + 1,4,none⟩ (I q)).frozen? ⟨w.heap.size + 1,5,none⟩ = false := frozen_of_row _ _ _ _ _ hY4
 have hY5 := heap_setCell_same ((((((W6).setCell ⟨w.heap.size + 1,0,none⟩ (I k)).setCell ⟨w.heap.size + 1,1,none⟩ (I n)).setCell ⟨w.heap.size + 1,2,none⟩ (I f)).setCell ⟨w.heap.size + 1,3,none⟩ (.int .u64 (i : Int))).setCell ⟨w.heap.size + 1,4,none⟩ (I q)) (w.heap.size + 1) 5 _ _ (I a.kind) hY4
 have cY6 : (((((((W6).setCell ⟨w.heap.size + 1,0,none⟩ (I k)).setCell ⟨w.heap.size + 1,1,none⟩ (I n)).setCell ⟨w.heap.size + 1,2,none⟩ (I f)).setCell ⟨w.heap.size + 1,3,none⟩ (.int .u64 (i : Int))).setCell ⟨w.heap.size + 1,4,none⟩ (I q)).setCell ⟨w.heap.size + 1,5,none⟩ (I a.kind)).cell? ⟨w.heap.size + 1,6,none⟩ = some (I 0) := by rw [cell_of_row _ _ _ _ _ (0,0) hY5]; rfl
 have fY6 : (((((((W6).setCell ⟨w.heap.size + 1,0,none⟩ (I k)).setCell ⟨w.heap.size + 1,1,none⟩ (I n)).setCell ⟨w.heap.size + 1,2,none⟩ (I f)).setCell ⟨w.heap.size + 1,3,none⟩ (.int .u64 (i : Int))).setCell ⟨w.heap.size + 1,4,none⟩ (I q)).setCell ⟨w.heap.size + 1,5,none⟩ (I a.kind)).frozen? ⟨w.heap.size + 1,6,none⟩ = false := frozen_of_row _ _ _ _ _ hY5
 have hY6 := heap_setCell_same (((((((W6).setCell ⟨w.heap.size + 1,0,none⟩ (I k)).setCell ⟨w.heap.size + 1,1,none⟩ (I n)).setCell ⟨w.heap.size + 1,2,none⟩ (I f)).setCell ⟨w.heap.size + 1,3,none⟩ (.int .u64 (i : Int))).setCell ⟨w.heap.size + 1,4,none⟩ (I q)).setCell ⟨w.heap.size + 1,5,none⟩ (I a.kind)) (w.heap.size + 1) 6 _ _ (I a.task) hY5
 have cY7 : ((((((((W6).setCell ⟨w.heap.size + 1,0,none⟩ (I k)).setCell ⟨w.heap.size + 1,1,none⟩ (I n)).setCell ⟨w.heap.size + 1,2,none⟩ (I f)).setCell ⟨w.heap.size + 1,3,none⟩ (.int .u64 (i : Int))).setCell ⟨w.heap.size + 1,4,none⟩ (I q)).setCell ⟨w.heap.size + 1,5,none⟩ (I a.kind)).setCell ⟨w.heap.size + 1,6,none⟩ (I a.task)).cell? ⟨w.heap.size + 1,7,none⟩ = some (.int .u32 0) := by rw [cell_of_row _ _ _ _ _ (0,0) hY6]; rfl
 have fY7 : ((((((((W6).setCell ⟨w.heap.size + 1,0,none⟩ (I k)).setCell ⟨w.heap.size + 1,1,none⟩ (I n)).setCell ⟨w.heap.size + 1,2,none⟩ (I f)).setCell ⟨w.heap.size + 1,3,none⟩ (.int .u64 (i : Int))).setCell ⟨w.heap.size + 1,4,none⟩ (I q)).setCell ⟨w.heap.size + 1,5,none⟩ (I a.kind)).setCell ⟨w.heap.size + 1,6,none⟩ (I a.task)).frozen? ⟨w.heap.size + 1,7,none⟩ = false := frozen_of_row _ _ _ _ _ hY6
 have hY7 := heap_setCell_same ((((((((W6).setCell ⟨w.heap.size + 1,0,none⟩ (I k)).setCell ⟨w.heap.size + 1,1,none⟩ (I n)).setCell ⟨w.heap.size + 1,2,none⟩ (I f)).setCell ⟨w.heap.size + 1,3,none⟩ (.int .u64 (i : Int))).setCell ⟨w.heap.size + 1,4,none⟩ (I q)).setCell ⟨w.heap.size + 1,5,none⟩ (I a.kind)).setCell ⟨w.heap.size + 1,6,none⟩ (I a.task)) (w.heap.size + 1) 7 _ _ (.int .u32 (a.mask : Int)) hY6
 refine wpAnyH_ready (rs := [13]) (by kernel_rfl) (by simp) ?_
 refine AllReadyH.cons rfl (fun K hK => ?_) AllReadyH.nil
 go_simp
 have hSf : (((((((((W6).setCell ⟨w.heap.size + 1,0,none⟩ (I k)).setCell ⟨w.heap.size + 1,1,none⟩ (I n)).setCell ⟨w.heap.size + 1,2,none⟩ (I f)).setCell ⟨w.heap.size + 1,3,none⟩ (.int .u64 (i : Int))).setCell ⟨w.heap.size + 1,4,none⟩ (I q)).setCell ⟨w.heap.size + 1,5,none⟩ (I a.kind)).setCell ⟨w.heap.size + 1,6,none⟩ (I a.task)).setCell ⟨w.heap.size + 1,7,none⟩ (.int .u32 (a.mask : Int))).cell? ⟨w.heap.size,0,none⟩ = some (.pointer (some ⟨r,0,none⟩)) := by
  have hz := HX.out W6 G0
  repeat rw [World.cell?_setCell_far _ _ _ _ (by show w.heap.size + 1 ≠ w.heap.size; omega)]
  exact hz
 refine hK.out _ _ hSf (fun hSS => ?_)
 clear hSS hK K
 try simp only [Act.put,q7a,q7b,q7c,q7d,q7e,q7f]
 refine wpAnyH_done (by kernel_rfl) ?_ _
 have hYL : (((((((((W6).setCell ⟨w.heap.size + 1,0,none⟩ (I k)).setCell ⟨w.heap.size + 1,1,none⟩ (I n)).setCell ⟨w.heap.size + 1,2,none⟩ (I f)).setCell ⟨w.heap.size + 1,3,none⟩ (.int .u64 (i : Int))).setCell ⟨w.heap.size + 1,4,none⟩ (I q)).setCell ⟨w.heap.size + 1,5,none⟩ (I a.kind)).setCell ⟨w.heap.size + 1,6,none⟩ (I a.task)).setCell ⟨w.heap.size + 1,7,none⟩ (.int .u32 (a.mask : Int))).heap[w.heap.size + 1]? = some (.cells #[I k,I n,I f, .int .u64 (i : Int),I q,I a.kind,I a.task, .int .u32 (a.mask : Int)] 91) := hY7
 have hEnd : RP w lo r VMs (pMs l0) (.returned (.agg #[I k,I n,I f, .int .u64 (i : Int),I q,I a.kind,I a.task, .int .u32 (a.mask : Int)])) (((((((((W6).setCell ⟨w.heap.size + 1,0,none⟩ (I k)).setCell ⟨w.heap.size + 1,1,none⟩ (I n)).setCell ⟨w.heap.size + 1,2,none⟩ (I f)).setCell ⟨w.heap.size + 1,3,none⟩ (.int .u64 (i : Int))).setCell ⟨w.heap.size + 1,4,none⟩ (I q)).setCell ⟨w.heap.size + 1,5,none⟩ (I a.kind)).setCell ⟨w.heap.size + 1,6,none⟩ (I a.task)).setCell ⟨w.heap.size + 1,7,none⟩ (.int .u32 (a.mask : Int))) := by
  rw [E0.out]
  skip
  refine ⟨_,rfl,rfl,((((((((t6.setY (by omega)).setY (by omega)).setY (by omega)).setY (by omega)).setY (by omega)).setY (by omega)).setY (by omega)).setY (by omega)),(qa8 (qa8 (qa8 (qa8 (qa8 (qa8 (qa8 (qa8 (qa1 HB.out G0) (by omega)) (by omega)) (by omega)) (by omega)) (by omega)) (by omega)) (by omega)) (by omega))⟩
 clear E0
 go_wp2
 refine bodyPost_ret (qnh Tryz.results118 _ (w.heap.size + 1) _ _ _ _ _ _ _ _ _ rfl hYL ⟨rfl,rfl,rfl,rfl,rfl,rfl,rfl,rfl⟩) rfl ?_
 exact hEnd
end Go.Proofs.YtijgopkhdjaolaaGreat
