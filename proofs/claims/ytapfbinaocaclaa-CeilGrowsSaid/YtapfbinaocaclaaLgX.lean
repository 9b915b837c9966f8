import Derived.Test.YtapfbinaocaclaaLge8
import Derived.Test.YtapfbinaocaclaaEez
namespace Go.Proofs.Ytapfbinaocaclaa
open Go.RowKit Go.Sort
set_option linter.unusedVariables false
set_option linter.unusedSimpArgs false

set_option maxHeartbeats 8000000 in
set_option maxRecDepth 100000 in
theorem grows_main (w : World) (c : Cf) (v : Vs) (h : CfAt w c v) (hn : c.ress.length ≤ 8796093022208) (hnt : c.tasks.length ≤ 8796093022208) (hni : c.isrs.length ≤ 8796093022208) (hz : SizeOK c) (hl : lookE c = 0) (k : Nat) (x : Tk) (hx : c.tasks[k]? = some x) (hp : ¬ x.prio > 1073741824) (more : Int) (hm0 : 0 ≤ more) (hm1 : more ≤ 255) : Calls Try.prog 4 #[.agg (cfC c v), I (k : Int), .int .u8 more] w fun e w' => e = .returned (.bool true) ∧ Below w.heap.size w w' := by
  have hi18 : (Try.prog.info? 33).map (·.size) = some (cfC c v).size := by rw [show (cfC c v).size = 18 from rfl]; kernel_rfl
  have hV := heap_alloc_new w (.cells (cfC c v) 33)
  have hb := below_alloc w (.cells (cfC c v) 33)
  have HNT : Hid (v.t.n = c.tasks.length) := h.t.n
  have ht1 : v.t.n ≤ v.t.c := h.t.c
  have ht2 : v.t.c ≤ 9223372036854775807 := h.t.m
  have HCV : Hid (∀ W : World, W.heap[w.heap.size]? = some (.cells (cfC c v) 33 (0, 0)) → W.cell? ⟨w.heap.size, 11, none⟩ = some (.slice v.t.a v.t.n v.t.c)) := fun W hW => by
    obtain ⟨_, h10, h11, h12, h13, h14, h15, h16, h17⟩ := var18_all hW
    exact h11
  have HCf : Hid (CfAt w c v) := h
  have hlo := hz.tp x (List.mem_of_getElem? hx)
  have HGR : Hid (GrowC c (growD c k more) k) := grow_is c k more hm0
  have HLK : Hid (lookE c = 0) := hl
  have hld : lookE (growD c k more) = 0 := by rw [look_al HGR.out.al]; exact hl
  have HX : Hid (c.tasks[k]? = some x) := hx
  have K1 : Hid (∀ W, Below w.heap.size w W → Calls Try.prog 8 #[.agg (cfC c v)] W fun e w' => RckP W ⟨ceilL c, schE c, c.tasks.map (runP c), cntT c c.tasks.length, cntI c c.isrs.length⟩ 0 e w') := fun W hW => by
    have := reckon_any W c v (h.below hW) hn hnt hni
    rw [hl, show rckX c = ⟨ceilL c, schE c, c.tasks.map (runP c), cntT c c.tasks.length, cntI c c.isrs.length⟩ by unfold rckX; rw [if_pos hl]] at this
    exact this
  have hdt : (growD c k more).tasks.length = c.tasks.length := by rw [grow_map, List.length_map, List.length_mapIdx]
  have hdi : (growD c k more).isrs.length = c.isrs.length := by show ((cpyC c).isrs).length = _; unfold cpyC; simp
  have KD : Hid (∀ W tt tr ti, CfAt W (growD c k more) (cpV tt tr ti) → Calls Try.prog 8 #[.agg (cfC (cpyC c) (cpV tt tr ti))] W fun e w' => RckP W ⟨ceilL (growD c k more), schE (growD c k more), (growD c k more).tasks.map (runP (growD c k more)), cntT (growD c k more) (growD c k more).tasks.length, cntI (growD c k more) (growD c k more).isrs.length⟩ 0 e w') := fun W tt tr ti hW => by
    have := reckon_any W (growD c k more) (cpV tt tr ti) hW hn (by rw [hdt]; exact hnt) (by rw [hdi]; exact hni)
    rw [hld, show rckX (growD c k more) = _ by unfold rckX; rw [if_pos hld]] at this
    exact this
  have KC : Hid (∀ W, Below w.heap.size w W → Calls Try.prog 15 #[.agg (cfC c v)] W fun e w' => CpyP W c e w') := fun W hW => copy_any W c v (h.below hW) hz
  have KU : Hid (∀ W, Below w.heap.size w W → ∀ q : Nat, q < c.ress.length → Calls Try.prog 14 #[.agg (cfC c v), I (q : Int)] W fun e w' => Own3 W (usrT c (q : Int)) (usrI c (q : Int)) 0 e w' ∧ grpE c (q : Int) = 0) := fun W hW q hq => by
    have hg : grpE c (q : Int) = 0 := by unfold grpE; rw [if_pos hl, if_pos (isId_nat hq)]
    have := users_any W c v (h.below hW) hn hnt hni (q : Int)
    rw [hg] at this
    exact this.mono (fun e w' he => ⟨he, hg⟩)
  have HSC : Hid (schE c ≤ schE (growD c k more)) := sch_mono HGR.out (fun e => by rw [e] at hx; simp at hx)
  have HDT : Hid ((growD c k more).tasks.length = c.tasks.length) := hdt
  obtain ⟨g, off, t4, t5, t6, t7, e, hg, a0, a1, a2, a3, a4, a5, a6, a7, q4, q5, q6, q7⟩ := tk_at h hx
  have hk1 : (k : Int) < v.t.n := by have := h.t.n; have := (List.getElem?_eq_some_iff.1 hx).1; omega
  have hk2 : ¬ (k : Int) < 0 := by omega
  have hk3 : ¬ (k : Int) ≥ v.t.n := by omega
  have HA1 : Hid (∀ W, Below w.heap.size w W → W.cell? ⟨g, off + k * 8 + 1, none⟩ = some (I x.prio)) := fun W hW => by rw [cell_below hW _ _ hg]; exact a1
  have HEE : Hid (v.t.a = some ⟨g, off, none⟩) := e
  clear a0 a1 a2 a3 a4 a5 a6 a7 q4 q5 q6 q7 e hx hdt hdi hld hl hz hg
  generalize hXS : schE c = XS at *
  generalize hYS : schE (growD c k more) = YS at *
  generalize cfC c v = C at *
  obtain ⟨W0, hW0⟩ : ∃ W0, W0 = w.alloc (.cells C 33) := ⟨_, rfl⟩
  rw [← hW0] at hV hb
  have HF0 : Hid (∀ W, Below W0.heap.size W0 W → W.heap[w.heap.size]? = some (.cells C 33 (0, 0)) ∧ Below w.heap.size w W) := fun W hW => ⟨(hW.block _ (heap_lt hV)).trans hV, hb.trans (hW.mono hb.size)⟩
  have HB : Hid (Below W0.heap.size W0 W0) := Below.refl _ _
  clear h hb hn hnt hni
  go_enter Try.func4, Try.ntmps4
  go_upto_region 1 with fail
  rw [← hW0]
  clear hW0
  go_upto_region 4 with (first | (refine wpList_load_row rfl 33 _ rfl w.heap.size rfl 33 _ (0, 0) _ hV Try.underlying33 rfl hi18 ?_) | (go_at_call 8; refine (K1.out _ (HF0.out _ HB.out).2).mono ?_; clear K1; rintro e w1 ⟨s0, s2, s3, s4, rfl, hC1, hb1⟩; unfold ceC; have HXL : Hid (∀ S : Array Value, Below W0.heap.size W0 (w1.alloc (.cells S 36))) := fun S => (HB.out.trans (hb1.mono HB.out.size)).trans ((below_alloc w1 _).mono (HB.out.trans (hb1.mono HB.out.size)).size); have hV : ∀ S : Array Value, (w1.alloc (.cells S 36)).heap[w.heap.size]? = some (.cells C 33 (0, 0)) := fun S => (HF0.out _ (HXL.out S)).1; have y11 : ∀ S : Array Value, (w1.alloc (.cells S 36)).cell? ⟨w.heap.size, 11, none⟩ = some (.slice v.t.a v.t.n v.t.c) := fun S => HCV.out _ (hV S); rw [HEE.out] at y11; have b1 : ∀ S : Array Value, (w1.alloc (.cells S 36)).cell? ⟨g, off + k * 8 + 1, none⟩ = some (I x.prio) := fun S => HA1.out _ (HF0.out _ (HXL.out S)).2; have HC1 : Hid (CeAt w1 ⟨ceilL c, XS, c.tasks.map (runP c), cntT c c.tasks.length, cntI c c.isrs.length⟩ s0 s2 s3 s4) := hC1.at; clear hC1; clear hb1 HB) | (go_at_call 10; refine (num_any _ _).mono ?_; rintro e w' ⟨rfl, rfl⟩))
  have HA : Hid (CeAt (w1.alloc (.cells #[.slice s0.a s0.n s0.c, I XS, .slice s2.a s2.n s2.c, .slice s3.a s3.n s3.c, .slice s4.a s4.n s4.c] 36)) ⟨ceilL c, XS, c.tasks.map (runP c), cntT c c.tasks.length, cntI c c.isrs.length⟩ s0 s2 s3 s4 ∧ (w1.alloc (.cells #[.slice s0.a s0.n s0.c, I XS, .slice s2.a s2.n s2.c, .slice s3.a s3.n s3.c, .slice s4.a s4.n s4.c] 36)).heap[w1.heap.size]? = some (.cells #[.slice s0.a s0.n s0.c, I XS, .slice s2.a s2.n s2.c, .slice s3.a s3.n s3.c, .slice s4.a s4.n s4.c] 36 (0, 0)) ∧ Below W0.heap.size W0 (w1.alloc (.cells #[.slice s0.a s0.n s0.c, I XS, .slice s2.a s2.n s2.c, .slice s3.a s3.n s3.c, .slice s4.a s4.n s4.c] 36))) := ⟨HC1.out.below (below_alloc _ _), heap_alloc_new _ _, HXL.out _⟩
  have hVA := hV #[.slice s0.a s0.n s0.c, I XS, .slice s2.a s2.n s2.c, .slice s3.a s3.n s3.c, .slice s4.a s4.n s4.c]
  clear hV y11 b1 HXL HC1
  generalize (w1.alloc (.cells #[.slice s0.a s0.n s0.c, I XS, .slice s2.a s2.n s2.c, .slice s3.a s3.n s3.c, .slice s4.a s4.n s4.c] 36)) = wA at *
  generalize w1.heap.size = X1 at *
  have kc := KC.out _ (HF0.out _ HA.out.2.2).2
  go_upto_region 5 with (first | (refine wpList_load_row rfl 33 _ rfl w.heap.size rfl 33 _ (0, 0) _ hVA Try.underlying33 rfl hi18 ?_) | (go_at_call 15; refine kc.mono ?_; clear kc; rintro e w2 ⟨tt, tr, ti, rfl, hO2, hb2⟩; unfold cfC))
  change Code.wp _ _ _ _ (w2.alloc (.cells (cfC (cpyC c) (cpV tt tr ti)) 33))
  have hVB := heap_alloc_new w2 (.cells (cfC (cpyC c) (cpV tt tr ti)) 33)
  have hbB := below_alloc w2 (.cells (cfC (cpyC c) (cpV tt tr ti)) 33)
  have hOB := hO2.below hbB
  have HBB : Hid (Below wA.heap.size wA (w2.alloc (.cells (cfC (cpyC c) (cpV tt tr ti)) 33))) := hb2.trans (hbB.mono hb2.size)
  obtain ⟨_, _, z11, _⟩ := var18_all hVB
  have z11' : (w2.alloc (.cells (cfC (cpyC c) (cpV tt tr ti)) 33)).cell? ⟨w2.heap.size, 11, none⟩ = some (.slice tt.a tt.n tt.c) := z11
  clear z11 hbB hO2 hb2 hVA
  generalize hwB : w2.alloc (.cells (cfC (cpyC c) (cpV tt tr ti)) 33) = wB at *
  clear hwB
  generalize w2.heap.size = D at *
  obtain ⟨gt, ett, hgt, hgtl, etn, etc, etm, cpz, fpz, _, ⟨cur, hcur⟩, hCD⟩ := hOB.grow HX.out more
  have hneD : D ≠ gt := fun e9 => by
    rw [e9, hcur] at hVB
    injection hVB with hVB
    injection hVB with _ e4
    exact absurd e4 (by decide)
  rw [ett] at z11'
  have hkt : (k : Int) < tt.n := by have := HNT.out; omega
  have etm2 : tt.c ≤ 9223372036854775807 := etm
  have gsC := grown_set wB gt (k * 8 + 1) (I (x.prio + more))
  have hdC : ∀ W : World, Below W.heap.size W W.drew := fun W => ⟨rfl, rfl, rfl, Nat.le_refl _, fun _ _ => rfl⟩
  have HC3 : Hid (CfAt (wB.setCell ⟨gt, k * 8 + 1, none⟩ (I (x.prio + more))).drew (growD c k more) (cpV tt tr ti) ∧ (wB.setCell ⟨gt, k * 8 + 1, none⟩ (I (x.prio + more))).drew.heap[D]? = some (.cells (cfC (cpyC c) (cpV tt tr ti)) 33 (0, 0)) ∧ Below wA.heap.size wA (wB.setCell ⟨gt, k * 8 + 1, none⟩ (I (x.prio + more))).drew) := by
    have b1 := HBB.out.grown gsC HBB.out.size (fun q e9 => by cases e9; exact hgt)
    have hD3 : (wB.setCell ⟨gt, k * 8 + 1, none⟩ (I (x.prio + more))).heap[D]? = some (.cells (cfC (cpyC c) (cpV tt tr ti)) 33 (0, 0)) := heap_kept hVB gsC (fun e9 => hneD (Option.some.inj e9))
    exact ⟨hCD.below (hdC _), hD3, b1.trans ((hdC _).mono b1.size)⟩
  clear hCD hVB hOB HBB hcur hgtl hdC gsC ett etm
  go_big_region
  have f1 : decide ((k : Int) < 0) = false := decide_eq_false (by omega)
  have f2 : decide (1073741824 < x.prio) = false := decide_eq_false (by omega)
  simp only [f1, f2, Bool.or_self, Bool.false_or]
  clear f1 f2 z11' cpz fpz
  generalize (wB.setCell ⟨gt, k * 8 + 1, none⟩ (I (x.prio + more))).drew = wC at *
  have kd := KD.out _ _ _ _ HC3.out.1
  have hVC := HC3.out.2.1
  have hi18d : (Try.prog.info? 33).map (·.size) = some (cfC (cpyC c) (cpV tt tr ti)).size := by rw [show (cfC (cpyC c) (cpV tt tr ti)).size = 18 from rfl]; kernel_rfl
  have HC4 : Hid (Below wA.heap.size wA wC) := HC3.out.2.2
  clear HC3
  generalize cfC (cpyC c) (cpV tt tr ti) = C2 at *
  go_upto_region 7 with (first | (refine wpList_load_row rfl 33 _ rfl D rfl 33 _ (0, 0) _ hVC Try.underlying33 rfl hi18d ?_) | (go_at_call 8; refine kd.mono ?_; clear kd; rintro e w4 ⟨r0, r2, r3, r4, rfl, hC4, hb4⟩; unfold ceC; have HC5 : Hid (CeAt w4 ⟨ceilL (growD c k more), YS, (growD c k more).tasks.map (runP (growD c k more)), cntT (growD c k more) (growD c k more).tasks.length, cntI (growD c k more) (growD c k more).isrs.length⟩ r0 r2 r3 r4 ∧ Below wA.heap.size wA w4) := ⟨hC4.at, HC4.out.trans (hb4.mono HC4.out.size)⟩; clear hC4 hb4 HC4 hVC))
  have hb5 := below_alloc w4 (.cells #[.slice r0.a r0.n r0.c, I YS, .slice r2.a r2.n r2.c, .slice r3.a r3.n r3.c, .slice r4.a r4.n r4.c] 36)
  have hy5 := heap_alloc_new w4 (.cells #[.slice r0.a r0.n r0.c, I YS, .slice r2.a r2.n r2.c, .slice r3.a r3.n r3.c, .slice r4.a r4.n r4.c] 36)
  have HD : Hid (CeAt (w4.alloc (.cells #[.slice r0.a r0.n r0.c, I YS, .slice r2.a r2.n r2.c, .slice r3.a r3.n r3.c, .slice r4.a r4.n r4.c] 36)) ⟨ceilL (growD c k more), YS, (growD c k more).tasks.map (runP (growD c k more)), cntT (growD c k more) (growD c k more).tasks.length, cntI (growD c k more) (growD c k more).isrs.length⟩ r0 r2 r3 r4 ∧ Below wA.heap.size wA (w4.alloc (.cells #[.slice r0.a r0.n r0.c, I YS, .slice r2.a r2.n r2.c, .slice r3.a r3.n r3.c, .slice r4.a r4.n r4.c] 36)) ∧ (w4.alloc (.cells #[.slice r0.a r0.n r0.c, I YS, .slice r2.a r2.n r2.c, .slice r3.a r3.n r3.c, .slice r4.a r4.n r4.c] 36)).heap[w4.heap.size]? = some (.cells #[.slice r0.a r0.n r0.c, I YS, .slice r2.a r2.n r2.c, .slice r3.a r3.n r3.c, .slice r4.a r4.n r4.c] 36 (0, 0))) := ⟨HC5.out.1.below hb5, HC5.out.2.trans (hb5.mono HC5.out.2.size), hy5⟩
  clear HC5 hb5 hy5
  generalize (w4.alloc (.cells #[.slice r0.a r0.n r0.c, I YS, .slice r2.a r2.n r2.c, .slice r3.a r3.n r3.c, .slice r4.a r4.n r4.c] 36)) = wD at *
  generalize w4.heap.size = Y1 at *
  have HF : Hid (∀ W, Below wD.heap.size wD W → (W.cell? ⟨X1, 0, none⟩ = some (.slice s0.a s0.n s0.c) ∧ W.cell? ⟨X1, 1, none⟩ = some (I XS) ∧ W.cell? ⟨X1, 2, none⟩ = some (.slice s2.a s2.n s2.c)) ∧ (W.cell? ⟨Y1, 0, none⟩ = some (.slice r0.a r0.n r0.c) ∧ W.cell? ⟨Y1, 1, none⟩ = some (I YS) ∧ W.cell? ⟨Y1, 2, none⟩ = some (.slice r2.a r2.n r2.c)) ∧ (RowsAt W 1 intP s0 (ceilL c) ∧ RowsAt W 1 intP s2 (c.tasks.map (runP c)) ∧ RowsAt W 1 intP r0 (ceilL (growD c k more)) ∧ RowsAt W 1 intP r2 ((growD c k more).tasks.map (runP (growD c k more)))) ∧ W.heap[w.heap.size]? = some (.cells C 33 (0, 0)) ∧ Below w.heap.size w W) := fun W hW => by
    have hAW : Below wA.heap.size wA W := HD.out.2.1.trans (hW.mono HD.out.2.1.size)
    obtain ⟨x0, x1, x2, _, _⟩ := row5 ((hAW.block _ (heap_lt HA.out.2.1)).trans HA.out.2.1)
    obtain ⟨z0, z1, z2, _, _⟩ := row5 ((hW.block _ (heap_lt HD.out.2.2)).trans HD.out.2.2)
    have c1 := HA.out.1.below hAW
    have c2 := HD.out.1.below hW
    have h0 := HF0.out W (HA.out.2.2.trans (hAW.mono HA.out.2.2.size))
    exact ⟨⟨x0, x1, x2⟩, ⟨z0, z1, z2⟩, ⟨c1.a, c1.b, c2.a, c2.b⟩, h0.1, h0.2⟩
  have HN0 : Hid (s0.n = c.ress.length ∧ r0.n = c.ress.length ∧ s2.n = c.tasks.length ∧ r2.n = c.tasks.length) := by
    have h1 := HA.out.1.a.n
    have h2 := HA.out.1.b.n
    have h3 := HD.out.1.a.n
    have h4 := HD.out.1.b.n
    refine ⟨by rw [h1]; unfold ceilL; simp, by rw [h3]; unfold ceilL; rw [List.length_map, List.length_range]; rfl, by rw [h2]; simp, by rw [h4, List.length_map]; exact HDT.out⟩
  have b0c : s0.n ≤ s0.c := HA.out.1.a.c
  have b0m : s0.c ≤ 9223372036854775807 := HA.out.1.a.m
  have b2c : s2.n ≤ s2.c := HA.out.1.b.c
  have b2m : s2.c ≤ 9223372036854775807 := HA.out.1.b.m
  have d0c : r0.n ≤ r0.c := HD.out.1.a.c
  have d0m : r0.c ≤ 9223372036854775807 := HD.out.1.a.m
  have d2c : r2.n ≤ r2.c := HD.out.1.b.c
  have d2m : r2.c ≤ 9223372036854775807 := HD.out.1.b.m
  have hn1 : ((s0.n : Int) != (r0.n : Int)) = false := by rw [HN0.out.1, HN0.out.2.1]; simp
  have hn2 : ((s2.n : Int) != (r2.n : Int)) = false := by rw [HN0.out.2.2.1, HN0.out.2.2.2]; simp
  have hn3 : ¬ YS < XS := by have := HSC.out; omega
  clear HD HA
  obtain ⟨⟨x0, x1, x2⟩, ⟨z0, z1, z2⟩, _, _, _⟩ := HF.out _ (Below.refl _ _)
  go_wp2
  have f3 : decide (YS < XS) = false := decide_eq_false (by have := HSC.out; omega)
  (try simp only [f3, Bool.or_self, Bool.false_or, Bool.or_false])
  clear x0 x1 x2 z0 z1 z2 f3 hn1 hn2 hn3
  go_loopw [12] (fun iv wr => ∃ i : Nat, i ≤ s0.n ∧ iv = .int .i64 i ∧ Hid (Below wD.heap.size wD wr)) (fun iv _ => s0.n - (intOf iv).toNat)
  case atStart => exact ⟨0, by omega, rfl, Below.refl _ _⟩
  case round =>
    obtain ⟨i, hi, rfl, HJ⟩ := hrel
    obtain ⟨⟨x0, x1, x2⟩, ⟨z0, z1, z2⟩, ⟨rw0, rw2, rd0, rd2⟩, hVr, hbw⟩ := HF.out _ HJ.out
    by_cases hlt : i < s0.n
    · have hlt' : (i : Int) < s0.n := by omega
      have hlr : (i : Int) < r0.n := by have := HN0.out; omega
      have hir : i < c.ress.length := by have := HN0.out; omega
      have e1 : (ceilL c)[i]? = some (ceilE c i) := by unfold ceilL; rw [List.getElem?_map, List.getElem?_range hir]; rfl
      have e2 : (ceilL (growD c k more))[i]? = some (ceilE (growD c k more) i) := by unfold ceilL; rw [List.getElem?_map, List.getElem?_range (by show i < (cpyC c).ress.length; exact hir)]; rfl
      have HCM : Hid (ceilE c i ≤ ceilE (growD c k more) i) := ceil_mono HGR.out HLK.out hir
      have HCS : Hid (usesB c x.res (i : Int) = false → ceilE (growD c k more) i = ceilE c i) := fun hu => ceil_same HGR.out HLK.out hir HX.out hu
      have ku := KU.out _ hbw i hir
      have HB0 : Hid (Below wD.heap.size wD wr) := HJ.out
      have hle := HCM.out
      generalize ceilE (growD c k more) i = yi at *
      generalize ceilE c i = xi at *
      have HE1 : Hid ((ceilL c)[i]? = some xi) := e1
      have HE2 : Hid ((ceilL (growD c k more))[i]? = some yi) := e2
      clear x0 x1 x2 z0 z1 z2 rw0 rw2 rd0 rd2 hbw HJ e1 e2 HCM
      obtain ⟨⟨x0, _, _⟩, ⟨z0, _, _⟩, _, _, _⟩ := HF.out _ HB0.out
      go_upto_region 13 with (first | (refine wpList_load_row rfl 33 _ rfl w.heap.size rfl 33 _ (0, 0) _ hVr Try.underlying33 rfl hi18 ?_) | (go_at_call 14; refine ku.mono ?_; clear ku hVr; rintro e w5 ⟨hp5, hgz⟩; obtain ⟨sT, sI, rfl, hRT, hRI, hb5⟩ := hp5.got; have H5 : Hid (Below wD.heap.size wD w5 ∧ RowsAt w5 1 intP sT (usrT c (i : Int)) ∧ grpE c (i : Int) = 0) := ⟨HB0.out.trans (hb5.mono HB0.out.size), hRT, hgz⟩; clear hp5 hRT hRI hb5 hgz HB0 x0 z0))
      obtain ⟨⟨x0, _, _⟩, ⟨z0, _, _⟩, ⟨rw0, _, rd0, _⟩, _, _⟩ := HF.out _ H5.out.1
      obtain ⟨ga, oa, ea, hga, va⟩ := ints_at rw0 HE1.out
      obtain ⟨gb, ob, eb, hgb, vb⟩ := ints_at rd0 HE2.out
      rw [ea] at x0
      rw [eb] at z0
      have cr1 := cell_regrown x0
      have cr2 := cell_regrown z0
      have cr3 := cell_regrown va
      have cr4 := cell_regrown vb
      have c1 : ∀ d os, Calls Try.prog 13 #[.slice sT.a sT.n sT.c, I (k : Int)] (grow (redrawn w5 d) os) fun e w'' => e = .returned (.bool (hasB (usrT c (i : Int)) (k : Int))) ∧ ∃ p : Regrown, w'' = grow (redrawn w5 p.d) p.os := fun d os => Calls.regrown_of ((has_any _ sT _ (H5.out.2.1.below (below_regrown _ d os) (fun _ _ _ _ h => h)) (k : Int)).mono (fun e w' ⟨h1, h2⟩ => ⟨h1, by rw [h2]; exact Below.refl _ _⟩))
      have HEQ : Hid (hasB (usrT c (i : Int)) (k : Int) = false → yi = xi) := fun hh => HCS.out (usr_has H5.out.2.2 HX.out hh)
      have HB5 : Hid (Below wD.heap.size wD w5) := H5.out.1
      have hle2 : ¬ yi < xi := by omega
      clear rw0 rd0 ea eb HCS HE1 HE2 H5
      generalize hasB (usrT c (i : Int)) (k : Int) = hb at *
      cases hb with
      | true =>
        refine wp_region_quiet_below (by kernel_rfl) (by kernel_rfl) ?_
        repeat (go_big_quiet_step (first | exact c1 _ _))
        refine wpQuiet_nil ?_
        rintro _ ⟨⟨dq, osq⟩, rfl⟩
        dsimp only
        have HB6 : Hid (Below wD.heap.size wD (grow (redrawn w5 dq) osq)) := HB5.out.trans ((below_regrown w5 dq osq).mono HB5.out.size)
        clear c1 cr1 cr2 cr3 cr4 x0 z0 va vb
        generalize grow (redrawn w5 dq) osq = w6 at *
        go_wp2
        go_roundw
        case rel => exact ⟨i + 1, by omega, by go_num, HB6.out⟩
        case measure => simp [intOf]; omega
      | false =>
        have hyx := HEQ.out rfl
        subst hyx
        refine wp_region_quiet_below (by kernel_rfl) (by kernel_rfl) ?_
        repeat (go_big_quiet_step (first | exact c1 _ _))
        refine wpQuiet_nil ?_
        rintro _ ⟨⟨dq, osq⟩, rfl⟩
        dsimp only
        have HB6 : Hid (Below wD.heap.size wD (grow (redrawn w5 dq) osq)) := HB5.out.trans ((below_regrown w5 dq osq).mono HB5.out.size)
        clear c1 cr1 cr2 cr3 cr4 x0 z0 va vb
        generalize grow (redrawn w5 dq) osq = w6 at *
        go_wp2
        go_roundw
        case rel => exact ⟨i + 1, by omega, by go_num, HB6.out⟩
        case measure => simp [intOf]; omega
    · obtain rfl : i = s0.n := by omega
      have hlt' : ¬ ((s0.n : Nat) : Int) < (s0.n : Nat) := by omega
      have HB0 : Hid (Below wD.heap.size wD wr) := HJ.out
      clear x1 z0 z1 z2 rw0 rw2 rd0 rd2 hVr hbw HJ
      go_wp2
      clear x0 x2
      go_loopw [16] (fun iv wr => ∃ i : Nat, i ≤ s2.n ∧ iv = .int .i64 i ∧ Hid (Below wD.heap.size wD wr)) (fun iv _ => s2.n - (intOf iv).toNat)
      case atStart => exact ⟨0, by omega, rfl, HB0.out⟩
      case round =>
        clear HB0
        obtain ⟨i, hi, rfl, HJ⟩ := hrel
        obtain ⟨⟨x0, x1, x2⟩, ⟨z0, z1, z2⟩, ⟨rw0, rw2, rd0, rd2⟩, hVr, hbw⟩ := HF.out _ HJ.out
        by_cases hlt : i < s2.n
        · have hlt' : (i : Int) < s2.n := by omega
          have hlr : (i : Int) < r2.n := by have := HN0.out; omega
          have hlv : (i : Int) < v.t.n := by have := HN0.out; have := HNT.out; omega
          obtain ⟨xx, hxx⟩ : ∃ xx, c.tasks[i]? = some xx := ⟨_, List.getElem?_eq_getElem (by have := HN0.out; omega)⟩
          obtain ⟨yy, hyy, _⟩ := HGR.out.t1 i xx hxx
          have e1 : (c.tasks.map (runP c))[i]? = some (runP c xx) := by rw [List.getElem?_map, hxx]; rfl
          have e2 : ((growD c k more).tasks.map (runP (growD c k more)))[i]? = some (runP (growD c k more) yy) := by rw [List.getElem?_map, hyy]; rfl
          have l1 : ¬ runP (growD c k more) yy < runP c xx := by have := run_mono HGR.out HLK.out hxx hyy; omega
          have l2 : ¬ runP c xx < xx.prio := by have := run_own c xx; omega
          obtain ⟨ga, oa, ea, hga, va⟩ := ints_at rw2 e1
          obtain ⟨gb, ob, eb, hgb, vb⟩ := ints_at rd2 e2
          obtain ⟨gp, op, u4, u5, u6, u7, ep, hgp, a0, a1, a2, a3, a4, a5, a6, a7, q4, q5, q6, q7⟩ := tk_at (HCf.out.below hbw) hxx
          have y11 := HCV.out _ hVr
          rw [ea] at x2
          rw [eb] at z2
          rw [ep] at y11
          have HB0 : Hid (Below wD.heap.size wD wr) := HJ.out
          generalize runP (growD c k more) yy = yi at *
          generalize runP c xx = xi at *
          clear a0 a2 a3 a4 a5 a6 a7 q4 q5 q6 q7 ea eb ep e1 e2 hxx hyy rw0 rw2 rd0 rd2 x0 x1 z0 z1 hVr hbw HJ
          go_wp2
          have l1 : ¬ yi < xi := by omega
          have l2 : ¬ xi < xx.prio := by omega
          go_quiet (fail)
          have HD4 := below_drewN (Below.refl wr.heap.size wr) nq
          have HB4 : Hid (Below wD.heap.size wD (wr.drewN nq)) := HB0.out.trans (HD4.mono HB0.out.size)
          clear HD4 HB0 x2 z2 y11 va vb a1
          generalize wr.drewN nq = w6 at *
          go_wp2
          go_roundw
          case rel => exact ⟨i + 1, by omega, by go_num, HB4.out⟩
          case measure => simp [intOf]; omega
        · obtain rfl : i = s2.n := by omega
          have hlt' : ¬ ((s2.n : Nat) : Int) < (s2.n : Nat) := by omega
          have Hbw : Hid (Below w.heap.size w wr) := hbw
          clear x0 x1 z0 z1 z2 rw0 rw2 rd0 rd2 hVr hbw HJ
          go_wp2_with (go_at_call 12; refine (alive_any _).mono ?_; rintro e w6 ⟨rfl, hb6⟩)
          go_ret
          exact ⟨rfl, Hbw.out.trans (hb6.mono Hbw.out.size)⟩
end Go.Proofs.Ytapfbinaocaclaa

namespace Go.Proofs.Ytapfbinaocaclaa
open Go.RowKit
theorem grows_any (w : World) (c : Cf) (v : Vs) (h : CfAt w c v) (hn : c.ress.length ≤ 8796093022208) (hnt : c.tasks.length ≤ 8796093022208) (hni : c.isrs.length ≤ 8796093022208) (hz : SizeOK c) (task more : Int) (hm0 : 0 ≤ more) (hm1 : more ≤ 255) : Calls Try.prog 4 #[.agg (cfC c v), I task, .int .u8 more] w fun e w' => e = .returned (.bool true) ∧ Below w.heap.size w w' := by
  by_cases h0 : lookE c = 0
  · by_cases h1 : task < 0
    · exact grows_early w c v h hn hnt hni task more (.inr (.inl h1))
    · by_cases h2 : task ≥ c.tasks.length
      · exact grows_early w c v h hn hnt hni task more (.inr (.inr (.inl h2)))
      · obtain ⟨k, rfl⟩ := Int.eq_ofNat_of_zero_le (show 0 ≤ task by omega)
        obtain ⟨x, hx⟩ : ∃ x, c.tasks[k]? = some x := ⟨_, List.getElem?_eq_getElem (by omega)⟩
        by_cases h3 : x.prio > 1073741824
        · exact grows_early w c v h hn hnt hni _ more (.inr (.inr (.inr ⟨k, x, rfl, hx, h3⟩)))
        · exact grows_main w c v h hn hnt hni hz h0 k x hx h3 more hm0 hm1
  · exact grows_early w c v h hn hnt hni task more (.inl h0)
end Go.Proofs.Ytapfbinaocaclaa

