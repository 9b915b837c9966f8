import Derived.Test.YtapfbinaocaclaaEcy8
import Derived.Test.YtapfbinaocaclaaLsX
import Derived.Test.YtapfbinaocaclaaErX
import Derived.Test.YtapfbinaocaclaaEsm8
import Derived.Test.YtapfbinaocaclaaLge8
namespace Go.Proofs.Ytapfbinaocaclaa
open Go.RowKit
set_option linter.unusedVariables false

/-! ### Lists: a copy answers alike -/
theorem al_cpy (c : Cf) : AlikeC c (cpyC c) := by
  refine ⟨rfl, ?_, ?_⟩
  · show (c.tasks.map cpT).map _ = _
    rw [List.map_map]
    rfl
  · show (c.isrs.map cpI).map _ = _
    rw [List.map_map]
    rfl
theorem addL_cpy (c : Cf) : addL (cpyC c) = addL c := by
  funext p l f
  unfold addL
  have h : ∀ r, rootN (cpyC c) r = rootN c r := fun r => rootN_al (c := c) (d := cpyC c) rfl r
  simp only [h]
theorem topT_cpy (c : Cf) (k : Nat) : topT (cpyC c) k = topT c k := by
  unfold topT
  show ((c.tasks.map cpT).take k).foldl _ _ = _
  rw [← List.map_take, List.foldl_map, addL_cpy]
  rfl
theorem topI_cpy (c : Cf) (k : Nat) : topI (cpyC c) k = topI c k := by
  unfold topI
  show ((c.isrs.map cpI).take k).foldl _ _ = _
  rw [← List.map_take, List.foldl_map, addL_cpy, topT_cpy]
  show _ = List.foldl _ (topT c c.tasks.length) _
  rw [show (cpyC c).tasks.length = c.tasks.length from by show (c.tasks.map cpT).length = _; rw [List.length_map]]
  rfl
theorem ceilE_cpy (c : Cf) : ceilE (cpyC c) = ceilE c := by
  funext i
  unfold ceilE
  rw [topI_cpy, rootN_al (c := c) (d := cpyC c) rfl, show (cpyC c).isrs.length = c.isrs.length from by show (c.isrs.map cpI).length = _; rw [List.length_map]]
theorem schE_cpy (c : Cf) : schE (cpyC c) = schE c := by
  unfold schE schT
  show toldI (((c.tasks.map cpT).take (c.tasks.map cpT).length).foldl _ _) = _
  rw [List.take_length, List.take_length, List.foldl_map]
  rfl
theorem runP_cpy (c : Cf) (x : Tk) : runP (cpyC c) (cpT x) = runP c x := by
  unfold runP runF
  simp only [rkind_al (c := c) (d := cpyC c) rfl, ceilE_cpy, schE_cpy]
  rfl
theorem cntU_cpy (c : Cf) (b : Bool) (l : List Int) : cntU (cpyC c) b l = cntU c b l := by
  unfold cntU takenL
  simp only [rkind_al (c := c) (d := cpyC c) rfl]
  rfl
theorem rck_cpy (c : Cf) : rckX (cpyC c) = rckX c := by
  unfold rckX
  rw [look_al (al_cpy c)]
  by_cases h : lookE c = 0
  · rw [if_pos h, if_pos h]
    have e1 : ceilL (cpyC c) = ceilL c := by unfold ceilL; rw [ceilE_cpy]; rfl
    have e2 : (cpyC c).tasks.map (runP (cpyC c)) = c.tasks.map (runP c) := by
      show (c.tasks.map cpT).map _ = _
      rw [List.map_map]
      exact List.map_congr_left (fun x _ => runP_cpy c x)
    have e3 : cntT (cpyC c) (cpyC c).tasks.length = cntT c c.tasks.length := by
      unfold cntT
      show ((c.tasks.map cpT).take (c.tasks.map cpT).length).map _ = _
      rw [List.take_length, List.take_length, List.map_map]
      exact List.map_congr_left (fun x _ => by show ((cntU (cpyC c) false x.res : Nat) : Int) = _; rw [cntU_cpy])
    have e4 : cntI (cpyC c) (cpyC c).isrs.length = cntI c c.isrs.length := by
      unfold cntI
      show ((c.isrs.map cpI).take (c.isrs.map cpI).length).map _ = _
      rw [List.take_length, List.take_length, List.map_map]
      exact List.map_congr_left (fun x _ => by show ((cntU (cpyC c) true x.res : Nat) : Int) = _; rw [cntU_cpy])
    rw [e1, schE_cpy, e2, e3, e4]
  · rw [if_neg h, if_neg h]
end Go.Proofs.Ytapfbinaocaclaa

namespace Go.Proofs.Ytapfbinaocaclaa
open Go.RowKit Go.Sort
set_option linter.unusedVariables false
set_option linter.unusedSimpArgs false

/-! ### CeilChecks -/
set_option maxHeartbeats 8000000 in
set_option maxRecDepth 100000 in
theorem checks_any (w : World) (c : Cf) (v : Vs) (h : CfAt w c v) (hn : c.ress.length ≤ 8796093022208) (hnt : c.tasks.length ≤ 8796093022208) (hni : c.isrs.length ≤ 8796093022208) (hz : SizeOK c) : Calls Try.prog 5 #[.agg (cfC c v)] w fun e w' => e = .returned (.bool true) ∧ Below w.heap.size w w' := by
  have hi18 : (Try.prog.info? 33).map (·.size) = some (cfC c v).size := by rw [show (cfC c v).size = 18 from rfl]; kernel_rfl
  have hi5 : (Try.prog.info? 36).map (·.size) = some 5 := by kernel_rfl
  have hV := heap_alloc_new w (.cells (cfC c v) 33)
  have hb := below_alloc w (.cells (cfC c v) 33)
  have KC : Hid (∀ W, Below w.heap.size w W → Calls Try.prog 15 #[.agg (cfC c v)] W fun e w' => CpyP W c e w') := fun W hW => copy_any W c v (h.below hW) hz
  have K4 : Hid (∀ W, Below w.heap.size w W → Calls Try.prog 16 #[.agg (cfC c v)] W fun e w' => RckP W (rckX c) (lookE c) e w') := fun W hW => rreckon_any W c v (h.below hW) hn hz
  have K5 : Hid (∀ W, Below w.heap.size w W → Calls Try.prog 17 #[.agg (cfC c v)] W fun e w' => e = .returned (I (lookE c)) ∧ Below W.heap.size W w') := fun W hW => rcheck_any W c v (h.below hW) hn
  have K2 : Hid (∀ W tt tr ti, CfAt W (cpyC c) (cpV tt tr ti) → Calls Try.prog 11 #[.agg (cfC (cpyC c) (cpV tt tr ti))] W fun e w' => e = .returned (I (lookE c)) ∧ Below W.heap.size W w') := fun W tt tr ti hW => by
    have := ccheck_any W (cpyC c) (cpV tt tr ti) hW hn
    rw [look_al (al_cpy c)] at this
    exact this
  have K3 : Hid (∀ W tt tr ti, CfAt W (cpyC c) (cpV tt tr ti) → Calls Try.prog 8 #[.agg (cfC (cpyC c) (cpV tt tr ti))] W fun e w' => RckP W (rckX c) (lookE c) e w') := fun W tt tr ti hW => by
    have := reckon_any W (cpyC c) (cpV tt tr ti) hW hn (by show (c.tasks.map cpT).length ≤ _; rw [List.length_map]; exact hnt) (by show (c.isrs.map cpI).length ≤ _; rw [List.length_map]; exact hni)
    rw [look_al (al_cpy c), rck_cpy] at this
    exact this
  have K7 : Hid (∀ W tt tr ti, Below w.heap.size w W → CfAt W (cpyC c) (cpV tt tr ti) → Calls Try.prog 19 #[.agg (cfC (cpyC c) (cpV tt tr ti)), .agg (cfC c v)] W fun e w' => e = .returned (.bool true) ∧ Below W.heap.size W w') := fun W tt tr ti hb hW => (lsame_any W (cpyC c) c (cpV tt tr ti) v hW (h.below hb) (alk_copy c)).mono (fun e w' he => ⟨he.1, he.2⟩)
  have K6 : Hid (∀ W s0 s2 s3 s4 t0 t2 t3 t4, CeAt W (rckX c) s0 s2 s3 s4 → CeAt W (rckX c) t0 t2 t3 t4 → Calls Try.prog 18 #[.agg (ceC (rckX c).sch s0 s2 s3 s4), .agg (ceC (rckX c).sch t0 t2 t3 t4)] W fun e w' => e = .returned (.bool true) ∧ Below W.heap.size W w') := fun W s0 s2 s3 s4 t0 t2 t3 t4 h1 h2 => (rsame_any W (rckX c) (rckX c) s0 s2 s3 s4 t0 t2 t3 t4 h1 h2).mono (fun e w' he => ⟨by rw [he.1]; simp [sameB], he.2⟩)
  have HI18 : Hid (∀ tt tr ti, (Try.prog.info? 33).map (·.size) = some (cfC (cpyC c) (cpV tt tr ti)).size) := fun tt tr ti => by rw [show (cfC (cpyC c) (cpV tt tr ti)).size = 18 from rfl]; kernel_rfl
  generalize cfC c v = C at *
  generalize lookE c = E at *
  generalize rckX c = X at *
  obtain ⟨W0, hW0⟩ : ∃ W0, W0 = w.alloc (.cells C 33) := ⟨_, rfl⟩
  rw [← hW0] at hV hb
  have HF0 : Hid (∀ W, Below W0.heap.size W0 W → W.heap[w.heap.size]? = some (.cells C 33 (0, 0)) ∧ Below w.heap.size w W) := fun W hW => ⟨(hW.block _ (heap_lt hV)).trans hV, hb.trans (hW.mono hb.size)⟩
  have kc := KC.out W0 hb
  clear h hb hn hnt hni hz KC
  go_enter Try.func5, Try.ntmps5
  go_upto_region 1 with fail
  rw [← hW0]
  clear hW0
  go_upto_region 2 with (first | (refine wpList_load_row rfl 33 _ rfl w.heap.size rfl 33 _ (0, 0) _ hV Try.underlying33 rfl hi18 ?_) | (go_at_call 15; refine kc.mono ?_; clear kc; rintro e w2 ⟨tt, tr, ti, rfl, hO2, hb2⟩; unfold cfC))
  change Code.wp _ _ _ _ (w2.alloc (.cells (cfC (cpyC c) (cpV tt tr ti)) 33))
  have hVB := heap_alloc_new w2 (.cells (cfC (cpyC c) (cpV tt tr ti)) 33)
  have hbB := below_alloc w2 (.cells (cfC (cpyC c) (cpV tt tr ti)) 33)
  have hOB := (hO2.below hbB).cf
  have hBB : Below W0.heap.size W0 (w2.alloc (.cells (cfC (cpyC c) (cpV tt tr ti)) 33)) := hb2.trans (hbB.mono hb2.size)
  clear hbB hO2 hb2 hV
  generalize hwB : w2.alloc (.cells (cfC (cpyC c) (cpV tt tr ti)) 33) = wB at *
  clear hwB
  generalize w2.heap.size = D at *
  have HF : Hid (∀ W, Below wB.heap.size wB W → W.heap[w.heap.size]? = some (.cells C 33 (0, 0)) ∧ W.heap[D]? = some (.cells (cfC (cpyC c) (cpV tt tr ti)) 33 (0, 0)) ∧ Below w.heap.size w W ∧ CfAt W (cpyC c) (cpV tt tr ti)) := fun W hW => by
    have h1 := hBB.trans (hW.mono hBB.size)
    exact ⟨(HF0.out W h1).1, (hW.block _ (heap_lt hVB)).trans hVB, (HF0.out W h1).2, hOB.below hW⟩
  have k2 := K2.out wB tt tr ti hOB
  have K3' : Hid (∀ W, Below wB.heap.size wB W → Calls Try.prog 8 #[.agg (cfC (cpyC c) (cpV tt tr ti))] W fun e w' => RckP W X E e w') := fun W hW => K3.out W tt tr ti (hOB.below hW)
  have K7' : Hid (∀ W, Below wB.heap.size wB W → Calls Try.prog 19 #[.agg (cfC (cpyC c) (cpV tt tr ti)), .agg C] W fun e w' => e = .returned (.bool true) ∧ Below W.heap.size W w') := fun W hW => K7.out W tt tr ti (HF.out W hW).2.2.1 (hOB.below hW)
  have hi18' := HI18.out tt tr ti
  clear hOB hBB K2 K3 K7 HF0 HI18
  generalize cfC (cpyC c) (cpV tt tr ti) = CI at *
  go_upto_region 3 with (first | (refine wpList_load_row rfl 33 _ rfl D rfl 33 _ (0, 0) _ hVB Try.underlying33 rfl hi18' ?_) | (go_at_call 11; refine k2.mono ?_; clear k2; rintro e w3 ⟨rfl, hb3⟩; obtain ⟨hV3, hVD3, hbw3, _⟩ := HF.out _ hb3; have HB3 : Hid (Below wB.heap.size wB w3) := hb3; clear hb3 hVB))
  have k3 := K3'.out _ HB3.out
  go_upto_region 4 with (first | (refine wpList_load_row rfl 33 _ rfl D rfl 33 _ (0, 0) _ hVD3 Try.underlying33 rfl hi18' ?_) | (go_at_call 8; refine k3.mono ?_; clear k3; rintro e w4 ⟨s0, s2, s3, s4, rfl, hC4, hb4⟩; unfold ceC))
  change Code.wp _ _ _ _ (w4.alloc (.cells #[.slice s0.a s0.n s0.c, I X.sch, .slice s2.a s2.n s2.c, .slice s3.a s3.n s3.c, .slice s4.a s4.n s4.c] 36))
  have HE : Hid (CeAt (w4.alloc (.cells #[.slice s0.a s0.n s0.c, I X.sch, .slice s2.a s2.n s2.c, .slice s3.a s3.n s3.c, .slice s4.a s4.n s4.c] 36)) X s0 s2 s3 s4 ∧ (w4.alloc (.cells #[.slice s0.a s0.n s0.c, I X.sch, .slice s2.a s2.n s2.c, .slice s3.a s3.n s3.c, .slice s4.a s4.n s4.c] 36)).heap[w4.heap.size]? = some (.cells #[.slice s0.a s0.n s0.c, I X.sch, .slice s2.a s2.n s2.c, .slice s3.a s3.n s3.c, .slice s4.a s4.n s4.c] 36 (0, 0)) ∧ Below wB.heap.size wB (w4.alloc (.cells #[.slice s0.a s0.n s0.c, I X.sch, .slice s2.a s2.n s2.c, .slice s3.a s3.n s3.c, .slice s4.a s4.n s4.c] 36))) := by
    have h1 := HB3.out.trans (hb4.mono HB3.out.size)
    exact ⟨hC4.at.below (below_alloc _ _), heap_alloc_new _ _, h1.trans ((below_alloc w4 _).mono h1.size)⟩
  clear hC4 hb4 HB3 hV3 hVD3 hbw3
  generalize (w4.alloc (.cells #[.slice s0.a s0.n s0.c, I X.sch, .slice s2.a s2.n s2.c, .slice s3.a s3.n s3.c, .slice s4.a s4.n s4.c] 36)) = wE at *
  generalize w4.heap.size = X1 at *
  obtain ⟨hV5, _, hbw5, _⟩ := HF.out _ HE.out.2.2
  have k4 := K4.out _ hbw5
  go_upto_region 5 with (first | (refine wpList_load_row rfl 33 _ rfl w.heap.size rfl 33 _ (0, 0) _ hV5 Try.underlying33 rfl hi18 ?_) | (go_at_call 16; refine k4.mono ?_; clear k4; rintro e w5 ⟨t0, t2, t3, t4, rfl, hC5, hb5⟩; unfold ceC))
  change Code.wp _ _ _ _ (w5.alloc (.cells #[.slice t0.a t0.n t0.c, I X.sch, .slice t2.a t2.n t2.c, .slice t3.a t3.n t3.c, .slice t4.a t4.n t4.c] 36))
  have HG : Hid (CeAt (w5.alloc (.cells #[.slice t0.a t0.n t0.c, I X.sch, .slice t2.a t2.n t2.c, .slice t3.a t3.n t3.c, .slice t4.a t4.n t4.c] 36)) X t0 t2 t3 t4 ∧ (w5.alloc (.cells #[.slice t0.a t0.n t0.c, I X.sch, .slice t2.a t2.n t2.c, .slice t3.a t3.n t3.c, .slice t4.a t4.n t4.c] 36)).heap[w5.heap.size]? = some (.cells #[.slice t0.a t0.n t0.c, I X.sch, .slice t2.a t2.n t2.c, .slice t3.a t3.n t3.c, .slice t4.a t4.n t4.c] 36 (0, 0)) ∧ Below wE.heap.size wE (w5.alloc (.cells #[.slice t0.a t0.n t0.c, I X.sch, .slice t2.a t2.n t2.c, .slice t3.a t3.n t3.c, .slice t4.a t4.n t4.c] 36))) :=
    ⟨hC5.at.below (below_alloc _ _), heap_alloc_new _ _, hb5.trans ((below_alloc w5 _).mono hb5.size)⟩
  clear hC5 hb5 hV5 hbw5
  generalize (w5.alloc (.cells #[.slice t0.a t0.n t0.c, I X.sch, .slice t2.a t2.n t2.c, .slice t3.a t3.n t3.c, .slice t4.a t4.n t4.c] 36)) = wG at *
  generalize w5.heap.size = X2 at *
  have HH : Hid (∀ W, Below wG.heap.size wG W → W.heap[w.heap.size]? = some (.cells C 33 (0, 0)) ∧ W.heap[D]? = some (.cells CI 33 (0, 0)) ∧ Below w.heap.size w W ∧ W.heap[X1]? = some (.cells #[.slice s0.a s0.n s0.c, I X.sch, .slice s2.a s2.n s2.c, .slice s3.a s3.n s3.c, .slice s4.a s4.n s4.c] 36 (0, 0)) ∧ W.heap[X2]? = some (.cells #[.slice t0.a t0.n t0.c, I X.sch, .slice t2.a t2.n t2.c, .slice t3.a t3.n t3.c, .slice t4.a t4.n t4.c] 36 (0, 0)) ∧ CeAt W X s0 s2 s3 s4 ∧ CeAt W X t0 t2 t3 t4 ∧ Below wB.heap.size wB W) := fun W hW => by
    have h1 := HG.out.2.2.trans (hW.mono HG.out.2.2.size)
    have h2 := HE.out.2.2.trans (h1.mono HE.out.2.2.size)
    obtain ⟨q1, q2, q3, _⟩ := HF.out W h2
    exact ⟨q1, q2, q3, (h1.block _ (heap_lt HE.out.2.1)).trans HE.out.2.1, (hW.block _ (heap_lt HG.out.2.1)).trans HG.out.2.1, HE.out.1.below h1, HG.out.1.below hW, h2⟩
  have HB5 : Hid (Below wG.heap.size wG wG) := Below.refl _ _
  have HRB : Hid (∀ d os, Below wG.heap.size wG (grow (redrawn wG d) os)) := fun d os => below_regrown wG d os
  have cN : ∀ (x : Int) d os, Calls Try.prog 10 #[I x] (grow (redrawn wG d) os) fun e w'' => e = .returned (I x) ∧ ∃ p : Regrown, w'' = grow (redrawn wG p.d) p.os := fun x d os => Calls.regrown_of ((num_any _ x).mono (fun e w' h => ⟨h.1, h.2 ▸ Below.refl _ _⟩))
  have cK : ∀ d os, Calls Try.prog 17 #[.agg C] (grow (redrawn wG d) os) fun e w'' => e = .returned (I E) ∧ ∃ p : Regrown, w'' = grow (redrawn wG p.d) p.os := fun d os => Calls.regrown_of (K5.out _ (HH.out _ (HRB.out d os)).2.2.1)
  unfold ceC at K6
  have cS : ∀ d os, Calls Try.prog 18 #[.agg #[.slice s0.a s0.n s0.c, I X.sch, .slice s2.a s2.n s2.c, .slice s3.a s3.n s3.c, .slice s4.a s4.n s4.c], .agg #[.slice t0.a t0.n t0.c, I X.sch, .slice t2.a t2.n t2.c, .slice t3.a t3.n t3.c, .slice t4.a t4.n t4.c]] (grow (redrawn wG d) os) fun e w'' => e = .returned (.bool true) ∧ ∃ p : Regrown, w'' = grow (redrawn wG p.d) p.os := fun d os => Calls.regrown_of (K6.out _ s0 s2 s3 s4 t0 t2 t3 t4 (HH.out _ (HRB.out d os)).2.2.2.2.2.1 (HH.out _ (HRB.out d os)).2.2.2.2.2.2.1)
  have cM : ∀ d os, Calls Try.prog 19 #[.agg CI, .agg C] (grow (redrawn wG d) os) fun e w'' => e = .returned (.bool true) ∧ ∃ p : Regrown, w'' = grow (redrawn wG p.d) p.os := fun d os => Calls.regrown_of (K7'.out _ (HH.out _ (HRB.out d os)).2.2.2.2.2.2.2)
  have cA : ∀ d os, Calls Try.prog 12 #[] (grow (redrawn wG d) os) fun e w'' => e = .returned (.bool true) ∧ ∃ p : Regrown, w'' = grow (redrawn wG p.d) p.os := fun d os => Calls.regrown_of (alive_any _)
  obtain ⟨hV5, hVD5, hbw5, hX1, hX2, _⟩ := HH.out _ HB5.out
  clear HE HG HF K3' K4 K5 hbw5 K6 K7' HB5
  go_wp2
  refine wp_region_quiet_below (by kernel_rfl) (by kernel_rfl) ?_
  repeat (go_big_quiet_step (first | exact cN _ _ _))
  refine wpQuiet_load_row (by kernel_rfl) 33 _ rfl w.heap.size rfl 33 _ (0, 0) _ (heap_regrown hV5) Try.underlying33 rfl hi18 ?_
  try simp only [Act.put, List.getElem_toArray, List.getElem_cons_succ, List.getElem_cons_zero, List.setIfInBounds_toArray, List.set_cons_zero, List.set_cons_succ]
  repeat (go_big_quiet_step (first | exact cK _ _ | exact cN _ _ _))
  refine wpQuiet_load_row (by kernel_rfl) 36 _ rfl X1 rfl 36 _ (0, 0) _ (heap_regrown hX1) Try.underlying36 rfl hi5 ?_
  try simp only [Act.put, List.getElem_toArray, List.getElem_cons_succ, List.getElem_cons_zero, List.setIfInBounds_toArray, List.set_cons_zero, List.set_cons_succ]
  refine wpQuiet_load_row (by kernel_rfl) 36 _ rfl X2 rfl 36 _ (0, 0) _ (heap_regrown hX2) Try.underlying36 rfl hi5 ?_
  try simp only [Act.put, List.getElem_toArray, List.getElem_cons_succ, List.getElem_cons_zero, List.setIfInBounds_toArray, List.set_cons_zero, List.set_cons_succ]
  repeat (go_big_quiet_step (first | exact cS _ _))
  refine wpQuiet_load_row (by kernel_rfl) 33 _ rfl D rfl 33 _ (0, 0) _ (heap_regrown hVD5) Try.underlying33 rfl hi18' ?_
  try simp only [Act.put, List.getElem_toArray, List.getElem_cons_succ, List.getElem_cons_zero, List.setIfInBounds_toArray, List.set_cons_zero, List.set_cons_succ]
  refine wpQuiet_load_row (by kernel_rfl) 33 _ rfl w.heap.size rfl 33 _ (0, 0) _ (heap_regrown hV5) Try.underlying33 rfl hi18 ?_
  try simp only [Act.put, List.getElem_toArray, List.getElem_cons_succ, List.getElem_cons_zero, List.setIfInBounds_toArray, List.set_cons_zero, List.set_cons_succ]
  repeat (go_big_quiet_step (first | exact cM _ _))
  repeat (go_big_quiet_step (first | exact cA _ _))
  refine wpQuiet_nil ?_
  rintro _ ⟨⟨dq, osq⟩, rfl⟩
  dsimp only
  have HB9 : Hid (Below wG.heap.size wG (grow (redrawn wG dq) osq)) := below_regrown wG dq osq
  clear cN cK cS cM cA hV5 hVD5 hX1 hX2 HRB
  generalize grow (redrawn wG dq) osq = w9 at *
  go_wp2
  go_ret
  exact ⟨rfl, (HH.out _ HB9.out).2.2.1⟩
end Go.Proofs.Ytapfbinaocaclaa

