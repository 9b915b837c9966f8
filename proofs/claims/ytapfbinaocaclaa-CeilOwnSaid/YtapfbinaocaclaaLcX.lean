import Derived.Test.YtapfbinaocaclaaEcy8
import Derived.Test.YtapfbinaocaclaaLsX
import Derived.Test.YtapfbinaocaclaaLox8
import Derived.Test.YtapfbinaocaclaaErX
import Derived.Test.YtapfbinaocaclaaEsm8
import Derived.Test.YtapfbinaocaclaaLge8
namespace Go.Proofs.Ytapfbinaocaclaa
open Go.RowKit
set_option linter.unusedVariables false

/-! ### Lists: a copy answers alike -/
theorem al_cpy (c : Cf) : AlikeC c (cpyC c) := by
  refine ⟨rfl, ?_, ?_⟩
  · show (c.tasks.map cpT).map _ = _
    rw [List.map_map]
    rfl
  · show (c.isrs.map cpI).map _ = _
    rw [List.map_map]
    rfl
theorem addL_cpy (c : Cf) : addL (cpyC c) = addL c := by
  funext p l f
  unfold addL
  have h : ∀ r, rootN (cpyC c) r = rootN c r := fun r => rootN_al (c := c) (d := cpyC c) rfl r
  simp only [h]
theorem topT_cpy (c : Cf) (k : Nat) : topT (cpyC c) k = topT c k := by
  unfold topT
  show ((c.tasks.map cpT).take k).foldl _ _ = _
  rw [← List.map_take, List.foldl_map, addL_cpy]
  rfl
theorem topI_cpy (c : Cf) (k : Nat) : topI (cpyC c) k = topI c k := by
  unfold topI
  show ((c.isrs.map cpI).take k).foldl _ _ = _
  rw [← List.map_take, List.foldl_map, addL_cpy, topT_cpy]
  show _ = List.foldl _ (topT c c.tasks.length) _
  rw [show (cpyC c).tasks.length = c.tasks.length from by show (c.tasks.map cpT).length = _; rw [List.length_map]]
  rfl
theorem ceilE_cpy (c : Cf) : ceilE (cpyC c) = ceilE c := by
  funext i
  unfold ceilE
  rw [topI_cpy, rootN_al (c := c) (d := cpyC c) rfl, show (cpyC c).isrs.length = c.isrs.length from by show (c.isrs.map cpI).length = _; rw [List.length_map]]
theorem schE_cpy (c : Cf) : schE (cpyC c) = schE c := by
  unfold schE schT
  show toldI (((c.tasks.map cpT).take (c.tasks.map cpT).length).foldl _ _) = _
  rw [List.take_length, List.take_length, List.foldl_map]
  rfl
theorem runP_cpy (c : Cf) (x : Tk) : runP (cpyC c) (cpT x) = runP c x := by
  unfold runP runF
  simp only [rkind_al (c := c) (d := cpyC c) rfl, ceilE_cpy, schE_cpy]
  rfl
theorem cntU_cpy (c : Cf) (b : Bool) (l : List Int) : cntU (cpyC c) b l = cntU c b l := by
  unfold cntU takenL
  simp only [rkind_al (c := c) (d := cpyC c) rfl]
  rfl
theorem rck_cpy (c : Cf) : rckX (cpyC c) = rckX c := by
  unfold rckX
  rw [look_al (al_cpy c)]
  by_cases h : lookE c = 0
  · rw [if_pos h, if_pos h]
    have e1 : ceilL (cpyC c) = ceilL c := by unfold ceilL; rw [ceilE_cpy]; rfl
    have e2 : (cpyC c).tasks.map (runP (cpyC c)) = c.tasks.map (runP c) := by
      show (c.tasks.map cpT).map _ = _
      rw [List.map_map]
      exact List.map_congr_left (fun x _ => runP_cpy c x)
    have e3 : cntT (cpyC c) (cpyC c).tasks.length = cntT c c.tasks.length := by
      unfold cntT
      show ((c.tasks.map cpT).take (c.tasks.map cpT).length).map _ = _
      rw [List.take_length, List.take_length, List.map_map]
      exact List.map_congr_left (fun x _ => by show ((cntU (cpyC c) false x.res : Nat) : Int) = _; rw [cntU_cpy])
    have e4 : cntI (cpyC c) (cpyC c).isrs.length = cntI c c.isrs.length := by
      unfold cntI
      show ((c.isrs.map cpI).take (c.isrs.map cpI).length).map _ = _
      rw [List.take_length, List.take_length, List.map_map]
      exact List.map_congr_left (fun x _ => by show ((cntU (cpyC c) true x.res : Nat) : Int) = _; rw [cntU_cpy])
    rw [e1, schE_cpy, e2, e3, e4]
  · rw [if_neg h, if_neg h]
end Go.Proofs.Ytapfbinaocaclaa

namespace Go.Proofs.Ytapfbinaocaclaa
open Go.RowKit Go.Sort
set_option linter.unusedVariables false
set_option linter.unusedSimpArgs false

/-! ### CeilOwn -/
set_option maxHeartbeats 8000000 in
set_option maxRecDepth 100000 in
theorem own_any (w : World) (c : Cf) (v : Vs) (h : CfAt w c v) (hn : c.ress.length ≤ 8796093022208) (hnt : c.tasks.length ≤ 8796093022208) (hni : c.isrs.length ≤ 8796093022208) (hz : SizeOK c) (r : Int) : Calls Try.prog 7 #[.agg (cfC c v), I r] w fun e w' => e = .returned (.bool true) ∧ Below w.heap.size w w' := by
  have hi18 : (Try.prog.info? 33).map (·.size) = some (cfC c v).size := by rw [show (cfC c v).size = 18 from rfl]; kernel_rfl
  have hi5 : (Try.prog.info? 36).map (·.size) = some 5 := by kernel_rfl
  have hV := heap_alloc_new w (.cells (cfC c v) 33)
  have hb := below_alloc w (.cells (cfC c v) 33)
  have K1 : Hid (∀ W, Below w.heap.size w W → Calls Try.prog 8 #[.agg (cfC c v)] W fun e w' => RckP W (rckX c) (lookE c) e w') := fun W hW => reckon_any W c v (h.below hW) hn hnt hni
  have K2 : Hid (∀ W, Below w.heap.size w W → Calls Try.prog 9 #[.agg (cfC c v), I r] W fun e w' => Own2 W (grpL c r) (grpE c r) e w') := fun W hW => group_any W c v (h.below hW) hn r
  have K3 : Hid (∀ W, Below w.heap.size w W → Calls Try.prog 14 #[.agg (cfC c v), I r] W fun e w' => Own3 W (usrT c r) (usrI c r) (grpE c r) e w') := fun W hW => users_any W c v (h.below hW) hn hnt hni r
  have K4 : Hid (∀ W, Below w.heap.size w W → Calls Try.prog 16 #[.agg (cfC c v)] W fun e w' => RckP W (rckX c) (lookE c) e w') := fun W hW => rreckon_any W c v (h.below hW) hn hz
  have K5 : Hid (∀ W, Below w.heap.size w W → Calls Try.prog 20 #[.agg (cfC c v), I r] W fun e w' => Own2 W (grpL c r) (grpE c r) e w') := fun W hW => rgroup_any W c v (h.below hW) hn r
  have K6 : Hid (∀ W, Below w.heap.size w W → Calls Try.prog 15 #[.agg (cfC c v)] W fun e w' => CpyP W c e w') := fun W hW => copy_any W c v (h.below hW) hz
  have K7 : Hid (∀ W tt tr ti, Below w.heap.size w W → CfAt W (cpyC c) (cpV tt tr ti) → Calls Try.prog 19 #[.agg (cfC c v), .agg (cfC (cpyC c) (cpV tt tr ti))] W fun e w' => e = .returned (.bool true) ∧ Below W.heap.size W w') := fun W tt tr ti hb hW => (lsame_any W c (cpyC c) v (cpV tt tr ti) (h.below hb) hW (alk_copy c).symm).mono (fun e w' he => ⟨he.1, he.2⟩)
  have K8 : Hid (∀ W s0 s2 s3 s4 t0 t2 t3 t4, CeAt W (rckX c) s0 s2 s3 s4 → CeAt W (rckX c) t0 t2 t3 t4 → Calls Try.prog 18 #[.agg (ceC (rckX c).sch s0 s2 s3 s4), .agg (ceC (rckX c).sch t0 t2 t3 t4)] W fun e w' => e = .returned (.bool true) ∧ Below W.heap.size W w') := fun W s0 s2 s3 s4 t0 t2 t3 t4 h1 h2 => (rsame_any W (rckX c) (rckX c) s0 s2 s3 s4 t0 t2 t3 t4 h1 h2).mono (fun e w' he => ⟨by rw [he.1]; simp [sameB], he.2⟩)
  have HI18 : Hid (∀ tt tr ti, (Try.prog.info? 33).map (·.size) = some (cfC (cpyC c) (cpV tt tr ti)).size) := fun tt tr ti => by rw [show (cfC (cpyC c) (cpV tt tr ti)).size = 18 from rfl]; kernel_rfl
  have HL := own_lens c r hn hnt hni
  generalize cfC c v = C at *
  generalize lookE c = E at *
  generalize rckX c = X at *
  generalize grpL c r = L1 at *
  generalize grpE c r = R1 at *
  generalize usrT c r = L2 at *
  generalize usrI c r = L3 at *
  have HLL : Hid (∀ (i : Nat) (l : List Int), (owL X L1 L2 L3)[i]? = some l → l.length ≤ 8796093022208) := HL
  obtain ⟨W0, hW0⟩ : ∃ W0, W0 = w.alloc (.cells C 33) := ⟨_, rfl⟩
  rw [← hW0] at hV hb
  have HF0 : Hid (∀ W, Below W0.heap.size W0 W → W.heap[w.heap.size]? = some (.cells C 33 (0, 0)) ∧ Below w.heap.size w W) := fun W hW => ⟨(hW.block _ (heap_lt hV)).trans hV, hb.trans (hW.mono hb.size)⟩
  have k1 := K1.out W0 hb
  clear h hb hn hnt hni hz HL
  go_enter Try.func7, Try.ntmps7
  go_upto_region 1 with fail
  rw [← hW0]
  clear hW0
  go_upto_region 2 with (first | (refine wpList_load_row rfl 33 _ rfl w.heap.size rfl 33 _ (0, 0) _ hV Try.underlying33 rfl hi18 ?_) | (go_at_call 8; refine k1.mono ?_; clear k1; rintro e w1 ⟨s0, s2, s3, s4, rfl, hC1, hb1⟩; unfold ceC))
  change Code.wp _ _ _ _ (w1.alloc (.cells #[.slice s0.a s0.n s0.c, I X.sch, .slice s2.a s2.n s2.c, .slice s3.a s3.n s3.c, .slice s4.a s4.n s4.c] 36))
  have H1 : Hid (Below W0.heap.size W0 (w1.alloc (.cells #[.slice s0.a s0.n s0.c, I X.sch, .slice s2.a s2.n s2.c, .slice s3.a s3.n s3.c, .slice s4.a s4.n s4.c] 36)) ∧ OwnC W0 (w1.alloc (.cells #[.slice s0.a s0.n s0.c, I X.sch, .slice s2.a s2.n s2.c, .slice s3.a s3.n s3.c, .slice s4.a s4.n s4.c] 36)) X s0 s2 s3 s4 ∧ (w1.alloc (.cells #[.slice s0.a s0.n s0.c, I X.sch, .slice s2.a s2.n s2.c, .slice s3.a s3.n s3.c, .slice s4.a s4.n s4.c] 36)).heap[w1.heap.size]? = some (.cells #[.slice s0.a s0.n s0.c, I X.sch, .slice s2.a s2.n s2.c, .slice s3.a s3.n s3.c, .slice s4.a s4.n s4.c] 36 (0, 0))) :=
    ⟨hb1.trans ((below_alloc w1 _).mono hb1.size), hC1.alloc _, heap_alloc_new _ _⟩
  clear hC1 hb1 hV
  generalize (w1.alloc (.cells #[.slice s0.a s0.n s0.c, I X.sch, .slice s2.a s2.n s2.c, .slice s3.a s3.n s3.c, .slice s4.a s4.n s4.c] 36)) = A1 at *
  generalize w1.heap.size = X1 at *
  have HB1 : Hid (Below W0.heap.size W0 A1) := H1.out.1
  obtain ⟨hV1, hbw1⟩ := HF0.out _ HB1.out
  have k1 := K1.out _ hbw1
  clear K1 hbw1
  go_upto_region 3 with (first | (refine wpList_load_row rfl 33 _ rfl w.heap.size rfl 33 _ (0, 0) _ hV1 Try.underlying33 rfl hi18 ?_) | (go_at_call 8; refine k1.mono ?_; clear k1; rintro e w2 ⟨y0, y2, y3, y4, rfl, hC2, hb2⟩; unfold ceC))
  change Code.wp _ _ _ _ (w2.alloc (.cells #[.slice y0.a y0.n y0.c, I X.sch, .slice y2.a y2.n y2.c, .slice y3.a y3.n y3.c, .slice y4.a y4.n y4.c] 36))
  have H2 : Hid (Below A1.heap.size A1 (w2.alloc (.cells #[.slice y0.a y0.n y0.c, I X.sch, .slice y2.a y2.n y2.c, .slice y3.a y3.n y3.c, .slice y4.a y4.n y4.c] 36)) ∧ OwnC A1 (w2.alloc (.cells #[.slice y0.a y0.n y0.c, I X.sch, .slice y2.a y2.n y2.c, .slice y3.a y3.n y3.c, .slice y4.a y4.n y4.c] 36)) X y0 y2 y3 y4 ∧ (w2.alloc (.cells #[.slice y0.a y0.n y0.c, I X.sch, .slice y2.a y2.n y2.c, .slice y3.a y3.n y3.c, .slice y4.a y4.n y4.c] 36)).heap[w2.heap.size]? = some (.cells #[.slice y0.a y0.n y0.c, I X.sch, .slice y2.a y2.n y2.c, .slice y3.a y3.n y3.c, .slice y4.a y4.n y4.c] 36 (0, 0)) ∧ A1.heap.size ≤ w2.heap.size) :=
    ⟨hb2.trans ((below_alloc w2 _).mono hb2.size), hC2.alloc _, heap_alloc_new _ _, hb2.size⟩
  clear hC2 hb2 hV1
  generalize (w2.alloc (.cells #[.slice y0.a y0.n y0.c, I X.sch, .slice y2.a y2.n y2.c, .slice y3.a y3.n y3.c, .slice y4.a y4.n y4.c] 36)) = A2 at *
  generalize w2.heap.size = X2 at *
  have HB2 : Hid (Below W0.heap.size W0 A2) := HB1.out.trans (H2.out.1.mono HB1.out.size)
  obtain ⟨hV2, hbw2⟩ := HF0.out _ HB2.out
  have k2 := K2.out _ hbw2
  clear hbw2 HB1
  go_upto_region 4 with (first | (refine wpList_load_row rfl 33 _ rfl w.heap.size rfl 33 _ (0, 0) _ hV2 Try.underlying33 rfl hi18 ?_) | (go_at_call 9; refine k2.mono ?_; clear k2; rintro e A3 hp3; obtain ⟨sa, rfl, hO3, hb3⟩ := hp3.own; clear hp3))
  have H3 : Hid (Below A2.heap.size A2 A3 ∧ A3.ownsRow A2.heap.size 3 1 (slV sa) L1.length (L1.map fun x => I x)) := ⟨hb3, hO3⟩
  have HB3 : Hid (Below W0.heap.size W0 A3) := HB2.out.trans (hb3.mono HB2.out.size)
  obtain ⟨hV3, hbw3⟩ := HF0.out _ HB3.out
  have k2 := K2.out _ hbw3
  clear hbw3 HB2 hb3 hO3 hV2 K2
  go_upto_region 5 with (first | (refine wpList_load_row rfl 33 _ rfl w.heap.size rfl 33 _ (0, 0) _ hV3 Try.underlying33 rfl hi18 ?_) | (go_at_call 9; refine k2.mono ?_; clear k2; rintro e A4 hp4; obtain ⟨sb, rfl, hO4, hb4⟩ := hp4.own; clear hp4))
  have H4 : Hid (Below A3.heap.size A3 A4 ∧ A4.ownsRow A3.heap.size 3 1 (slV sb) L1.length (L1.map fun x => I x)) := ⟨hb4, hO4⟩
  have HB4 : Hid (Below W0.heap.size W0 A4) := HB3.out.trans (hb4.mono HB3.out.size)
  obtain ⟨hV4, hbw4⟩ := HF0.out _ HB4.out
  have k3 := K3.out _ hbw4
  clear hbw4 HB3 hb4 hO4 hV3 K3
  go_upto_region 6 with (first | (refine wpList_load_row rfl 33 _ rfl w.heap.size rfl 33 _ (0, 0) _ hV4 Try.underlying33 rfl hi18 ?_) | (go_at_call 14; refine k3.mono ?_; clear k3; rintro e A5 hp5; obtain ⟨st, su, rfl, hO5, hP5, ha5, hb5⟩ := hp5.own; clear hp5))
  have H5 : Hid (Below A4.heap.size A4 A5 ∧ A5.ownsRow A4.heap.size 3 1 (slV st) L2.length (L2.map fun x => I x) ∧ A5.ownsRow A4.heap.size 3 1 (slV su) L3.length (L3.map fun x => I x) ∧ Apt (slV st) (slV su)) := ⟨hb5, hO5, hP5, ha5⟩
  have HB5 : Hid (Below W0.heap.size W0 A5) := HB4.out.trans (hb5.mono HB4.out.size)
  obtain ⟨hV5, hbw5⟩ := HF0.out _ HB5.out
  have k4 := K4.out _ hbw5
  clear hbw5 HB4 hb5 hO5 hP5 ha5 hV4 K4
  go_upto_region 7 with (first | (refine wpList_load_row rfl 33 _ rfl w.heap.size rfl 33 _ (0, 0) _ hV5 Try.underlying33 rfl hi18 ?_) | (go_at_call 16; refine k4.mono ?_; clear k4; rintro e w6 ⟨t0, t2, t3, t4, rfl, hC6, hb6⟩; unfold ceC))
  change Code.wp _ _ _ _ (w6.alloc (.cells #[.slice t0.a t0.n t0.c, I X.sch, .slice t2.a t2.n t2.c, .slice t3.a t3.n t3.c, .slice t4.a t4.n t4.c] 36))
  have H6 : Hid (Below A5.heap.size A5 (w6.alloc (.cells #[.slice t0.a t0.n t0.c, I X.sch, .slice t2.a t2.n t2.c, .slice t3.a t3.n t3.c, .slice t4.a t4.n t4.c] 36)) ∧ OwnC A5 (w6.alloc (.cells #[.slice t0.a t0.n t0.c, I X.sch, .slice t2.a t2.n t2.c, .slice t3.a t3.n t3.c, .slice t4.a t4.n t4.c] 36)) X t0 t2 t3 t4 ∧ (w6.alloc (.cells #[.slice t0.a t0.n t0.c, I X.sch, .slice t2.a t2.n t2.c, .slice t3.a t3.n t3.c, .slice t4.a t4.n t4.c] 36)).heap[w6.heap.size]? = some (.cells #[.slice t0.a t0.n t0.c, I X.sch, .slice t2.a t2.n t2.c, .slice t3.a t3.n t3.c, .slice t4.a t4.n t4.c] 36 (0, 0)) ∧ A5.heap.size ≤ w6.heap.size) :=
    ⟨hb6.trans ((below_alloc w6 _).mono hb6.size), hC6.alloc _, heap_alloc_new _ _, hb6.size⟩
  clear hC6 hb6 hV5
  generalize (w6.alloc (.cells #[.slice t0.a t0.n t0.c, I X.sch, .slice t2.a t2.n t2.c, .slice t3.a t3.n t3.c, .slice t4.a t4.n t4.c] 36)) = A6 at *
  generalize w6.heap.size = X6 at *
  have HB6 : Hid (Below W0.heap.size W0 A6) := HB5.out.trans (H6.out.1.mono HB5.out.size)
  obtain ⟨hV6, hbw6⟩ := HF0.out _ HB6.out
  have k5 := K5.out _ hbw6
  clear hbw6 HB5 K5
  go_upto_region 8 with (first | (refine wpList_load_row rfl 33 _ rfl w.heap.size rfl 33 _ (0, 0) _ hV6 Try.underlying33 rfl hi18 ?_) | (go_at_call 20; refine k5.mono ?_; clear k5; rintro e A7 hp7; obtain ⟨sg, rfl, hO7, hb7⟩ := hp7.own; clear hp7))
  have H7 : Hid (Below A6.heap.size A6 A7 ∧ A7.ownsRow A6.heap.size 3 1 (slV sg) L1.length (L1.map fun x => I x)) := ⟨hb7, hO7⟩
  have HB7 : Hid (Below W0.heap.size W0 A7) := HB6.out.trans (hb7.mono HB6.out.size)
  obtain ⟨hV7, hbw7⟩ := HF0.out _ HB7.out
  have k6 := K6.out _ hbw7
  clear hbw7 HB6 hb7 hO7 hV6 K6
  go_upto_region 9 with (first | (refine wpList_load_row rfl 33 _ rfl w.heap.size rfl 33 _ (0, 0) _ hV7 Try.underlying33 rfl hi18 ?_) | (go_at_call 15; refine k6.mono ?_; clear k6; rintro e w8 ⟨tt, tr, ti, rfl, hO8, hb8⟩; unfold cfC))
  change Code.wp _ _ _ _ (w8.alloc (.cells (cfC (cpyC c) (cpV tt tr ti)) 33))
  have H8 : Hid (Below A7.heap.size A7 (w8.alloc (.cells (cfC (cpyC c) (cpV tt tr ti)) 33)) ∧ CpO A7 c tt tr ti (w8.alloc (.cells (cfC (cpyC c) (cpV tt tr ti)) 33)) ∧ (w8.alloc (.cells (cfC (cpyC c) (cpV tt tr ti)) 33)).heap[w8.heap.size]? = some (.cells (cfC (cpyC c) (cpV tt tr ti)) 33 (0, 0)) ∧ A7.heap.size ≤ w8.heap.size) :=
    ⟨hb8.trans ((below_alloc w8 _).mono hb8.size), hO8.below (below_alloc _ _), heap_alloc_new _ _, hb8.size⟩
  have hi18' := HI18.out tt tr ti
  have K7' : Hid (∀ W, Below w.heap.size w W → CfAt W (cpyC c) (cpV tt tr ti) → Calls Try.prog 19 #[.agg C, .agg (cfC (cpyC c) (cpV tt tr ti))] W fun e w' => e = .returned (.bool true) ∧ Below W.heap.size W w') := fun W hW => K7.out W tt tr ti hW
  clear hO8 hb8 hV7 K7 HI18
  generalize cfC (cpyC c) (cpV tt tr ti) = CI at *
  generalize (w8.alloc (.cells CI 33)) = A8 at *
  generalize w8.heap.size = X8 at *
  have h18 : Hid (Below A1.heap.size A1 A8) := H2.out.1.trans ((H3.out.1.trans ((H4.out.1.trans ((H5.out.1.trans ((H6.out.1.trans ((H7.out.1.trans (H8.out.1.mono H7.out.1.size)).mono H6.out.1.size)).mono H5.out.1.size)).mono H4.out.1.size)).mono H3.out.1.size)).mono H2.out.1.size)
  have hx1 := (h18.out.block _ (heap_lt H1.out.2.2)).trans H1.out.2.2
  have z0 := cell_of_row A8 X1 0 _ _ (0, 0) hx1
  have z2 := cell_of_row A8 X1 2 _ _ (0, 0) hx1
  have z3 := cell_of_row A8 X1 3 _ _ (0, 0) hx1
  have z4 := cell_of_row A8 X1 4 _ _ (0, 0) hx1
  simp at z0 z2 z3 z4
  clear hx1 h18
  go_upto_region 10 with fail
  clear z0 z2 z3 z4
  have HA : Hid (OwA W0 A1 A2 A3 A4 A5 A6 A7 A8 (A8.alloc (.cells #[slV s0, slV s2, slV s3, slV s4, slV sa, slV st, slV su] 34)) c X L1 L2 L3 s0 s2 s3 s4 y0 y2 y3 y4 t0 t2 t3 t4 sa sb st su sg tt tr ti) := ⟨H1.out.1, H1.out.2.1, H2.out.1, H2.out.2.1, H3.out.1, H3.out.2, H4.out.1, H4.out.2, H5.out.1, H5.out.2.1, H5.out.2.2.1, H5.out.2.2.2, H6.out.1, H6.out.2.1, H7.out.1, H7.out.2, H8.out.1, H8.out.2.1, below_alloc _ _⟩
  have HD : Hid ((A8.alloc (.cells #[slV s0, slV s2, slV s3, slV s4, slV sa, slV st, slV su] 34)).heap[A8.heap.size]? = some (.cells #[slV s0, slV s2, slV s3, slV s4, slV sa, slV st, slV su] 34 (0, 0))) := heap_alloc_new _ _
  change Code.wp _ _ _ _ (A8.alloc (.cells #[slV s0, slV s2, slV s3, slV s4, slV sa, slV st, slV su] 34))
  generalize A8.alloc (.cells #[slV s0, slV s2, slV s3, slV s4, slV sa, slV st, slV su] 34) = A9 at *
  have HK := ow_all HF0.out HA.out H2.out.2.2 H6.out.2.2 H8.out.2.2 HD.out
  have HS : Hid (Sev W0.heap.size (owU s0 s2 s3 s4 sa st su) (owL X L1 L2 L3) A9 A9) := HA.out.sev
  have HU := ow_us HA.out HLL.out
  have HBW : Hid (W0.heap.size ≤ A9.heap.size) := HA.out.to.1.size
  clear H1 H2 H3 H4 H5 H6 H7 H8 HA HD HB7 HLL HF0
  generalize A8.heap.size = D at *
  generalize owU s0 s2 s3 s4 sa st su = us at *
  generalize owL X L1 L2 L3 = ls at *
  generalize W0.heap.size = B at *
  exact own_tail w A9 c X E C CI y0 y2 y3 y4 t0 t2 t3 t4 sb sg tt tr ti L1 us ls B D X2 X6 X8 hi5 hi18 hi18' K8 K7' HK HU HBW HS _ _ _ _ _ _ _ _ _ _ _ _ _ _ _ _ _ _ _ _ _ _ _ _ _ _ _ _ _ _ _ _ _ _ _ _ _ _ _ _ _ _ _ _ _ _ _ _ _ _ _ _ _ _ _ _ _ _ _ _ _ _ _ _ _ _ _ _ _ _ _ _ _ _ _ _ _ _ _ _ _ _ _ _ _ _ _ _ _ _ _ _ _ _ _ _ _ _ _ _ _ _ _ _ _ _ _ _ _ _ _ _ _ _ _ _ _ _ _ _ _ _ _ _ _ _ _ _ _ _ _ _ _ _ _ _ _ _ _ _ _ _ _ _ _ _ _ _ _ _ _ _ _ _ _ _ _ _ _ _ _ _ _ _ _ (by assumption) (by assumption)
end Go.Proofs.Ytapfbinaocaclaa

