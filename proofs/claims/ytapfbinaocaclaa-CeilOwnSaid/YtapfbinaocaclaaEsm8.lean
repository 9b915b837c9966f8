import Derived.Test.YtapfbinaocaclaaEey
import Derived.Test.YtapfbinaocaclaaEcy8
namespace Go.Proofs.Ytapfbinaocaclaa
open Go.RowKit Go.Sort
set_option linter.unusedVariables false
set_option linter.unusedSimpArgs false

/-! ### The law's same, where two configurations are alike -/
structure Alk (c d : Cf) : Prop where
  o : d.o8 = c.o8
  r : d.ress = c.ress
  tl : d.tasks.length = c.tasks.length
  il : d.isrs.length = c.isrs.length
  t : ∀ (j : Nat) (x : Tk), c.tasks[j]? = some x → ∃ y, d.tasks[j]? = some y ∧ y.prio = x.prio ∧ y.full = x.full ∧ y.res = x.res
  i : ∀ (j : Nat) (x : Is), c.isrs[j]? = some x → ∃ y, d.isrs[j]? = some y ∧ y.prio = x.prio ∧ y.res = x.res
theorem alk_copy (c : Cf) : Alk (cpyC c) c := by
  refine ⟨rfl, rfl, by simp [cpyC], by simp [cpyC], fun j x hx => ?_, fun j x hx => ?_⟩
  · simp only [cpyC, List.getElem?_map] at hx
    cases h : c.tasks[j]? with
    | none => rw [h] at hx; cases hx
    | some y => rw [h] at hx; cases hx; exact ⟨y, rfl, rfl, rfl, rfl⟩
  · simp only [cpyC, List.getElem?_map] at hx
    cases h : c.isrs[j]? with
    | none => rw [h] at hx; cases hx
    | some y => rw [h] at hx; cases hx; exact ⟨y, rfl, rfl, rfl⟩
theorem Alk.symm {c d : Cf} (h : Alk c d) : Alk d c := by
  refine ⟨h.o.symm, h.r.symm, h.tl.symm, h.il.symm, fun j y hy => ?_, fun j y hy => ?_⟩
  · obtain ⟨x, hx⟩ : ∃ x, c.tasks[j]? = some x := ⟨_, List.getElem?_eq_getElem (by rw [← h.tl]; exact (List.getElem?_eq_some_iff.1 hy).1)⟩
    obtain ⟨y', hy', e1, e2, e3⟩ := h.t j x hx
    rw [hy] at hy'
    cases hy'
    exact ⟨x, hx, e1.symm, e2.symm, e3.symm⟩
  · obtain ⟨x, hx⟩ : ∃ x, c.isrs[j]? = some x := ⟨_, List.getElem?_eq_getElem (by rw [← h.il]; exact (List.getElem?_eq_some_iff.1 hy).1)⟩
    obtain ⟨y', hy', e1, e2⟩ := h.i j x hx
    rw [hy] at hy'
    cases hy'
    exact ⟨x, hx, e1.symm, e2.symm⟩
set_option maxHeartbeats 8000000 in
set_option maxRecDepth 100000 in
theorem lsame_any (w : World) (c d : Cf) (v u : Vs) (h : CfAt w c v) (h2 : CfAt w d u) (ha : Alk c d) : Calls Try.prog 19 #[.agg (cfC c v), .agg (cfC d u)] w fun e w' => Ans w true e w' := by
  have HB0 : Hid (Below w.heap.size w ((w.alloc (.cells (cfC c v) 33)).alloc (.cells (cfC d u) 33))) := ((Below.refl w.heap.size w).alloc (Nat.le_refl _) _).alloc (by simp) _
  have hV0 := heap_two0 w (.cells (cfC c v) 33) (.cells (cfC d u) 33)
  have hV1 := heap_two w (.cells (cfC c v) 33) (.cells (cfC d u) 33)
  have HCf : Hid (CfAt w c v) := h
  have HDf : Hid (CfAt w d u) := h2
  have HAl : Hid (Alk c d) := ha
  have eT : u.t.n = v.t.n := h2.t.n.trans (ha.tl.trans h.t.n.symm)
  have eR : u.r.n = v.r.n := by rw [h2.r.n, h.r.n, ha.r]
  have eI : u.i.n = v.i.n := h2.i.n.trans (ha.il.trans h.i.n.symm)
  have eO : d.o8 = c.o8 := ha.o
  have HNT : Hid (v.t.n = c.tasks.length) := h.t.n
  have HNR : Hid (v.r.n = c.ress.length) := h.r.n
  have HNI : Hid (v.i.n = c.isrs.length) := h.i.n
  have ht1 : v.t.n ≤ v.t.c := h.t.c
  have ht2 : v.t.c ≤ 9223372036854775807 := h.t.m
  have hr1 : v.r.n ≤ v.r.c := h.r.c
  have hr2 : v.r.c ≤ 9223372036854775807 := h.r.m
  have hi1 : v.i.n ≤ v.i.c := h.i.c
  have hi2 : v.i.c ≤ 9223372036854775807 := h.i.m
  obtain ⟨W0, hW0⟩ : ∃ W0, W0 = (w.alloc (.cells (cfC c v) 33)).alloc (.cells (cfC d u) 33) := ⟨_, rfl⟩
  rw [← hW0] at hV0 hV1 HB0
  have HF : Hid (∀ W, Below W0.heap.size W0 W → W.cell? ⟨w.heap.size, 11, none⟩ = some (.slice v.t.a v.t.n v.t.c) ∧ W.cell? ⟨w.heap.size, 12, none⟩ = some (.slice v.r.a v.r.n v.r.c) ∧ W.cell? ⟨w.heap.size, 16, none⟩ = some (.slice v.i.a v.i.n v.i.c) ∧ W.cell? ⟨w.heap.size, 9, none⟩ = some (.bool c.o8) ∧ W.cell? ⟨w.heap.size + 1, 11, none⟩ = some (.slice u.t.a v.t.n u.t.c) ∧ W.cell? ⟨w.heap.size + 1, 12, none⟩ = some (.slice u.r.a v.r.n u.r.c) ∧ W.cell? ⟨w.heap.size + 1, 16, none⟩ = some (.slice u.i.a v.i.n u.i.c) ∧ W.cell? ⟨w.heap.size + 1, 9, none⟩ = some (.bool c.o8) ∧ Below w.heap.size w W) := fun W hW => by
    have k0 := (hW.block _ (heap_lt hV0)).trans hV0
    have k1 := (hW.block _ (heap_lt hV1)).trans hV1
    obtain ⟨_, a10, a11, a12, a13, a14, a15, a16, a17⟩ := var18_all k0
    obtain ⟨_, b10, b11, b12, b13, b14, b15, b16, b17⟩ := var18_all k1
    rw [← eT, ← eR, ← eI]
    refine ⟨by rw [eT]; exact a11, by rw [eR]; exact a12, by rw [eI]; exact a16, by rw [cell_of_row W _ 9 _ _ (0, 0) k0]; rfl, b11, b12, b16, by rw [cell_of_row W _ 9 _ _ (0, 0) k1, ← eO]; rfl, HB0.out.trans (hW.mono HB0.out.size)⟩
  have HB1 : Hid (Below W0.heap.size W0 W0) := Below.refl _ _
  obtain ⟨y11, y12, y16, y9, z11, z12, z16, z9, _⟩ := HF.out W0 (Below.refl _ _)
  clear h h2 ha hV0 hV1 HB0
  generalize cfC c v = C at *
  generalize cfC d u = D at *
  go_enter Try.func19, Try.ntmps19
  go_upto_region 1 with fail
  rw [← hW0]
  clear hW0
  go_upto_region 3 with fail
  go_wp2
  clear y11 y12 y16 y9 z11 z12 z16 z9
  go_loopw [5] (fun iv wr => ∃ j : Nat, j ≤ v.t.n ∧ iv = .int .i64 j ∧ Hid (Below W0.heap.size W0 wr)) (fun iv _ => v.t.n - (intOf iv).toNat)
  case atStart => exact ⟨0, by omega, rfl, HB1.out⟩
  case round =>
    clear HB1
    obtain ⟨j, hj, rfl, HJ⟩ := hrel
    obtain ⟨y11, y12, y16, y9, z11, z12, z16, z9, hbw⟩ := HF.out _ HJ.out
    by_cases hlt : j < v.t.n
    · have hlt' : (j : Int) < v.t.n := by omega
      obtain ⟨x, hx⟩ : ∃ x, c.tasks[j]? = some x := ⟨_, List.getElem?_eq_getElem (by rw [← HNT.out]; exact hlt)⟩
      obtain ⟨y, hy, e1, e2, e3⟩ := HAl.out.t j x hx
      obtain ⟨g, off, s4, s5, s6, s7, e, hg, a0, a1, a2, a3, a4, a5, a6, a7, r4, r5, r6, r7⟩ := tk_at (HCf.out.below hbw) hx
      obtain ⟨g', off', t4, t5, t6, t7, e', hg', c0, c1, c2, c3, c4, c5, c6, c7, q4, q5, q6, q7⟩ := tk_at (HDf.out.below hbw) hy
      rw [e1] at c1
      rw [e2] at c2
      rw [e3] at q5
      rw [e] at y11
      rw [e'] at z11
      have k1 := cell_regrown y11
      have k2 := cell_regrown z11
      have k3 := cell_regrown a1
      have k4 := cell_regrown a2
      have k5 := cell_regrown a5
      have k6 := cell_regrown c1
      have k7 := cell_regrown c2
      have k8 := cell_regrown c5
      have hu1 : v.t.n ≤ u.t.c := by rw [← eT]; exact HDf.out.t.c
      have hu2 : u.t.c ≤ 9223372036854775807 := HDf.out.t.m
      have c1 : ∀ d os, Calls Try.prog 21 #[.slice s5.a s5.n s5.c, .slice t5.a t5.n t5.c] (grow (redrawn wr d) os) fun e w'' => e = .returned (.bool true) ∧ ∃ p : Regrown, w'' = grow (redrawn wr p.d) p.os := fun d os => Calls.regrown_of ((rints_any _ s5 t5 x.res x.res (r5.below (below_regrown wr d os) (fun _ _ _ _ h => h)) (q5.below (below_regrown wr d os) (fun _ _ _ _ h => h))).mono (fun e w' h => ⟨by rw [h.1]; simp, h.2⟩))
      clear a0 a1 a2 a3 a4 a5 a6 a7 c0 c2 c3 c4 c5 c6 c7 r4 r5 r6 r7 q4 q5 q6 q7 e1 e2 e3 e e' hx hy hbw y12 y16 y9 z12 z16 z9
      go_wp2
      refine wp_region_quiet_below (by kernel_rfl) (by kernel_rfl) ?_
      repeat (go_big_quiet_step (first | exact c1 _ _))
      refine wpQuiet_nil ?_
      rintro _ ⟨⟨dq, osq⟩, rfl⟩
      dsimp only
      have hb4 := below_regrown wr dq osq
      have HB4 : Hid (Below W0.heap.size W0 (grow (redrawn wr dq) osq)) := HJ.out.trans (hb4.mono HJ.out.size)
      clear hb4
      generalize grow (redrawn wr dq) osq = w4 at *
      go_wp2
      go_roundw
      case rel => exact ⟨j + 1, by omega, by go_num, HB4.out⟩
      case measure => simp [intOf]; omega
    · obtain rfl : j = v.t.n := by omega
      have hlt' : ¬ ((v.t.n : Nat) : Int) < (v.t.n : Nat) := by omega
      have HB1 : Hid (Below W0.heap.size W0 wr) := HJ.out
      have Hbw : Hid (Below w.heap.size w wr) := hbw
      clear HJ hbw
      go_wp2
      clear y11 y12 y16 y9 z11 z12 z16 z9
      go_loopw [6] (fun iv wr => ∃ j : Nat, j ≤ v.r.n ∧ iv = .int .i64 j ∧ Hid (Below W0.heap.size W0 wr)) (fun iv _ => v.r.n - (intOf iv).toNat)
      case atStart => exact ⟨0, by omega, rfl, HB1.out⟩
      case round =>
        clear HB1
        obtain ⟨j, hj, rfl, HJ⟩ := hrel
        obtain ⟨y11, y12, y16, y9, z11, z12, z16, z9, hbw⟩ := HF.out _ HJ.out
        by_cases hlt : j < v.r.n
        · have hlt' : (j : Int) < v.r.n := by omega
          obtain ⟨x, hx⟩ : ∃ x, c.ress[j]? = some x := ⟨_, List.getElem?_eq_getElem (by rw [← HNR.out]; exact hlt)⟩
          obtain ⟨g, off, e, hg, a0, a1, a2⟩ := rs_at (HCf.out.below hbw) hx
          obtain ⟨g', off', e', hg', c0, c1, c2⟩ := rs_at (HDf.out.below hbw) (show d.ress[j]? = some x by rw [HAl.out.r]; exact hx)
          rw [e] at y12
          rw [e'] at z12
          have k1 := cell_regrown y12
          have k2 := cell_regrown z12
          have k3 := cell_regrown a0
          have k4 := cell_regrown a1
          have k5 := cell_regrown a2
          have k6 := cell_regrown c0
          have k7 := cell_regrown c1
          have k8 := cell_regrown c2
          have hu1 : v.r.n ≤ u.r.c := by rw [← eR]; exact HDf.out.r.c
          have hu2 : u.r.c ≤ 9223372036854775807 := HDf.out.r.m
          clear a0 a1 a2 c0 c1 c2 e e' hx hbw y11 y16 y9 z11 z16 z9
          go_wp2
          refine wp_region_quiet_below (by kernel_rfl) (by kernel_rfl) ?_
          repeat (go_big_quiet_step (fail))
          refine wpQuiet_nil ?_
          rintro _ ⟨⟨dq, osq⟩, rfl⟩
          dsimp only
          have hb4 := below_regrown wr dq osq
          have HB4 : Hid (Below W0.heap.size W0 (grow (redrawn wr dq) osq)) := HJ.out.trans (hb4.mono HJ.out.size)
          clear hb4
          generalize grow (redrawn wr dq) osq = w4 at *
          go_wp2
          go_roundw
          case rel => exact ⟨j + 1, by omega, by go_num, HB4.out⟩
          case measure => simp [intOf]; omega
        · obtain rfl : j = v.r.n := by omega
          have hlt' : ¬ ((v.r.n : Nat) : Int) < (v.r.n : Nat) := by omega
          have HB1 : Hid (Below W0.heap.size W0 wr) := HJ.out
          have Hbw : Hid (Below w.heap.size w wr) := hbw
          clear HJ hbw
          go_wp2
          clear y11 y12 y16 y9 z11 z12 z16 z9
          go_loopw [7] (fun iv wr => ∃ j : Nat, j ≤ v.i.n ∧ iv = .int .i64 j ∧ Hid (Below W0.heap.size W0 wr)) (fun iv _ => v.i.n - (intOf iv).toNat)
          case atStart => exact ⟨0, by omega, rfl, HB1.out⟩
          case round =>
            clear HB1
            obtain ⟨j, hj, rfl, HJ⟩ := hrel
            obtain ⟨y11, y12, y16, y9, z11, z12, z16, z9, hbw⟩ := HF.out _ HJ.out
            by_cases hlt : j < v.i.n
            · have hlt' : (j : Int) < v.i.n := by omega
              obtain ⟨x, hx⟩ : ∃ x, c.isrs[j]? = some x := ⟨_, List.getElem?_eq_getElem (by rw [← HNI.out]; exact hlt)⟩
              obtain ⟨y, hy, e1, e3⟩ := HAl.out.i j x hx
              obtain ⟨g, off, s3, s4, e, hg, a0, a1, a2, a3, a4, r3, r4⟩ := is_at (HCf.out.below hbw) hx
              obtain ⟨g', off', t3, t4, e', hg', c0, c1, c2, c3, c4, q3, q4⟩ := is_at (HDf.out.below hbw) hy
              rw [e1] at c2
              rw [e3] at q3
              rw [e] at y16
              rw [e'] at z16
              have k1 := cell_regrown y16
              have k2 := cell_regrown z16
              have k3 := cell_regrown a2
              have k4 := cell_regrown a3
              have k5 := cell_regrown c2
              have k6 := cell_regrown c3
              have hu1 : v.i.n ≤ u.i.c := by rw [← eI]; exact HDf.out.i.c
              have hu2 : u.i.c ≤ 9223372036854775807 := HDf.out.i.m
              have c1 : ∀ d os, Calls Try.prog 21 #[.slice s3.a s3.n s3.c, .slice t3.a t3.n t3.c] (grow (redrawn wr d) os) fun e w'' => e = .returned (.bool true) ∧ ∃ p : Regrown, w'' = grow (redrawn wr p.d) p.os := fun d os => Calls.regrown_of ((rints_any _ s3 t3 x.res x.res (r3.below (below_regrown wr d os) (fun _ _ _ _ h => h)) (q3.below (below_regrown wr d os) (fun _ _ _ _ h => h))).mono (fun e w' h => ⟨by rw [h.1]; simp, h.2⟩))
              clear a0 a1 a2 a3 a4 c0 c2 c3 c4 r3 r4 q3 q4 e1 e3 e e' hx hy hbw y11 y12 y9 z11 z12 z9
              go_wp2
              refine wp_region_quiet_below (by kernel_rfl) (by kernel_rfl) ?_
              repeat (go_big_quiet_step (first | exact c1 _ _))
              refine wpQuiet_nil ?_
              rintro _ ⟨⟨dq, osq⟩, rfl⟩
              dsimp only
              have hb4 := below_regrown wr dq osq
              have HB4 : Hid (Below W0.heap.size W0 (grow (redrawn wr dq) osq)) := HJ.out.trans (hb4.mono HJ.out.size)
              clear hb4
              generalize grow (redrawn wr dq) osq = w4 at *
              go_wp2
              go_roundw
              case rel => exact ⟨j + 1, by omega, by go_num, HB4.out⟩
              case measure => simp [intOf]; omega
            · obtain rfl : j = v.i.n := by omega
              have hlt' : ¬ ((v.i.n : Nat) : Int) < (v.i.n : Nat) := by omega
              have HB1 : Hid (Below W0.heap.size W0 wr) := HJ.out
              have Hbw : Hid (Below w.heap.size w wr) := hbw
              clear HJ hbw
              go_wp2
              go_ret
              exact ⟨rfl, Hbw.out⟩
end Go.Proofs.Ytapfbinaocaclaa
