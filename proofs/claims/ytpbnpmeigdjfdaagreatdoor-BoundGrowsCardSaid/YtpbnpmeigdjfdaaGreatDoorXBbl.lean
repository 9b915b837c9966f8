import Derived.Test.YtpbnpmeigdjfdaaGreatDoorBbk
namespace Go.Proofs.YtpbnpmeigdjfdaaGreatDoor
open Go.RowKit Go.Sort
set_option linter.unusedSimpArgs false
set_option linter.unusedVariables false
set_option maxHeartbeats 16000000
set_option maxRecDepth 100000
def capS (lim N M : Nat) : Prop := min N (lim + 1) = min M (lim + 1) ∧ N ≤ 3000000000000000
theorem capS.over {lim N M k : Nat} (h : capS lim N M) (hN : lim < N) : capS lim N (M + k) := ⟨by have := h.1; omega, h.2⟩
theorem capS.step {lim N M k : Nat} (h : capS lim N M) (hN : N ≤ lim) (hl : lim ≤ 1000000) (hk : k ≤ 2147483647000000) : capS lim (N + k) (M + k) := ⟨by have := h.1; omega, by omega⟩
theorem totN_app (a b : List (Nat × Nat)) (r : Nat) : totN (a ++ b) r = totN a r + totN b r := by simp [totN]
theorem totN_one (x : Nat × Nat) (r : Nat) : totN [x] r = bring r x := by simp [totN]
theorem bring_le2 {r : Nat} {x : Nat × Nat} (hr : r ≤ 1000000) (h1 : x.1 ≤ 2147483647) (h2 : 1 ≤ x.2 ∧ x.2 ≤ 2147483647) : bring r x ≤ 2147483647000000 := (bring_le hr ⟨h1, h2.1, h2.2⟩).2
theorem wr_bring {N r wk pk : Nat} (hr : r ≤ 1000000) (h1 : wk ≤ 2147483647) (h2 : 1 ≤ pk ∧ pk ≤ 2147483647) : (((r : Int) + (pk : Int) - 1) / (pk : Int) * (wk : Int)) = ((bring r (wk, pk) : Nat) : Int) := by
 unfold bring
 dsimp only
 rw [show ((r : Int) + (pk : Int) - 1) = ((r + pk - 1 : Nat) : Int) by omega, Int.natCast_mul, Int.natCast_ediv]
theorem wr_add {N k : Nat} (h : N ≤ 1000000) (hk : k ≤ 2147483647000000) : IntKind.u64.wrap ((N : Int) + IntKind.u64.wrap (k : Int)) = ((N + k : Nat) : Int) := by
 rw [show IntKind.u64.wrap (k : Int) = (k : Int) by rw [IntKind.wrap_u64]; omega, IntKind.wrap_u64]
 omega
theorem sum27_any (w : World) (c : Cf) (v : Vs) (h : CfAt w c v) (f : Fg) (vf : Vf) (hf : FgAt w f vf) (hF : Fits c f) (t : Nat) (ht : t < c.tasks.length) (b r lim : Nat) (hb : b ≤ 2147483647) (hr : r ≤ lim) (hl : lim ≤ 1000000) :
  Calls Tryz.prog 22 #[.agg (cfC c v), .agg (fgC vf), I t, U b, U r, U lim] w fun e w' => e = .returned (U (min (needN (natAt f.w t + b) (rvL c f t) r) (lim + 1))) ∧ Below w.heap.size w w' := by
 have hb2 : Below w.heap.size w ((w.alloc (.cells (cfC c v) 33)).alloc (.cells (fgC vf) 37)) := ((Below.refl w.heap.size w).alloc (Nat.le_refl _) _).alloc (by simp) _
 have hV0 := heap_two0 w (.cells (cfC c v) 33) (.cells (fgC vf) 37)
 have hV1 := heap_two w (.cells (cfC c v) 33) (.cells (fgC vf) 37)
 obtain ⟨l1, l2, l3, l4⟩ := tim_len hF.t
 obtain ⟨k1, k2, k3, k4⟩ := tim_ok hF.t
 have HN : Hid (v.t.n = c.tasks.length) := h.t.n
 have HW : Hid (vf.w.n = v.t.n) := by show _ = _; rw [hf.k.n, l1, h.t.n]
 have HP : Hid (vf.p.n = v.t.n) := by show _ = _; rw [hf.p.n, l2, h.t.n]
 have HI : Hid (v.i.n = c.isrs.length) := h.i.n
 have HIW : Hid (vf.i.n = v.i.n) := by show _ = _; rw [hf.i.n, l3, h.i.n]
 have HIE : Hid (vf.e.n = v.i.n) := by show _ = _; rw [hf.e.n, l4, h.i.n]
 have HFI : Hid (f.i.length = c.isrs.length) := l3
 have HCf : Hid (CfAt w c v) := h
 have HFg : Hid (FgAt w f vf) := hf
 have HK : Hid ((∀ x ∈ f.w, 1 ≤ x ∧ x ≤ 2147483647) ∧ (∀ x ∈ f.p, 1 ≤ x ∧ x ≤ 2147483647) ∧ (∀ x ∈ f.i, x ≤ 2147483647) ∧ (∀ x ∈ f.e, 1 ≤ x ∧ x ≤ 2147483647)) := ⟨k1, k2, k3, k4⟩
 have m1 := h.t.c
 have m2 := h.t.m
 have m3 := h.i.c
 have m4 := h.i.m
 have m5 := hf.k.c
 have m6 := hf.k.m
 have m7 := hf.p.c
 have m8 := hf.p.m
 have m9 := hf.i.c
 have m10 := hf.i.m
 have m11 := hf.e.c
 have m12 := hf.e.m
 unfold maxLen at m2 m4 m6 m8 m10 m12
 have HX : Hid (∀ W, Below ((w.alloc (.cells (cfC c v) 33)).alloc (.cells (fgC vf) 37)).heap.size ((w.alloc (.cells (cfC c v) 33)).alloc (.cells (fgC vf) 37)) W → W.cell? ⟨w.heap.size, 11, none⟩ = some (.slice v.t.a v.t.n v.t.c) ∧ W.cell? ⟨w.heap.size, 16, none⟩ = some (.slice v.i.a v.i.n v.i.c) ∧ W.cell? ⟨w.heap.size + 1, 0, none⟩ = some (.slice vf.w.a vf.w.n vf.w.c) ∧ W.cell? ⟨w.heap.size + 1, 1, none⟩ = some (.slice vf.p.a vf.p.n vf.p.c) ∧ W.cell? ⟨w.heap.size + 1, 2, none⟩ = some (.slice vf.i.a vf.i.n vf.i.c) ∧ W.cell? ⟨w.heap.size + 1, 3, none⟩ = some (.slice vf.e.a vf.e.n vf.e.c) ∧ Below w.heap.size w W) := fun W hW => by
  have q0 := (hW.block _ (heap_lt hV0)).trans hV0
  have q1 := (hW.block _ (heap_lt hV1)).trans hV1
  exact ⟨cell_at3 q0 11, cell_at3 q0 16, cell_at3 q1 0, cell_at3 q1 1, cell_at3 q1 2, cell_at3 q1 3, hb2.trans (hW.mono hb2.size)⟩
 obtain ⟨x0, hx0⟩ : ∃ x, c.tasks[t]? = some x := ⟨_, List.getElem?_eq_getElem ht⟩
 obtain ⟨wt, hwt⟩ : ∃ wt, f.w[t]? = some wt := ⟨_, List.getElem?_eq_getElem (by rw [l1]; exact ht)⟩
 have htv : (t : Int) < v.t.n := by have := HN.out; omega
 have htw : (t : Int) < vf.w.n := by have := HW.out; omega
 have hwtx := k1 _ (List.mem_of_getElem? hwt)
 have hpr : pri c t = x0.prio := pri_at hx0
 obtain ⟨g0, o0, _, _, _, _, e0, hg0, _, a1, _⟩ := tk_row h hx0
 obtain ⟨g1, o1, e1, hg1, d1⟩ := nat_at hf.k hwt
 have HE0 : Hid (v.t.a = some ⟨g0, o0, none⟩) := e0
 have HA : Hid (∀ W, Below w.heap.size w W → W.cell? ⟨g0, o0 + t * 8 + 1, none⟩ = some (I x0.prio)) := fun W hW => (cell_below hW _ _ hg0).trans a1
 have dd1 : ((w.alloc (.cells (cfC c v) 33)).alloc (.cells (fgC vf) 37)).cell? ⟨g1, o1 + t, none⟩ = some (U wt) := (cell_below hb2 _ _ hg1).trans d1
 obtain ⟨_, _, yw, _⟩ := HX.out _ (Below.refl _ _)
 rw [e1] at yw
 have HZ : Hid (needN (natAt f.w t + b) (rvL c f t) r = wt + b + totN (rvT c f t c.tasks.length ++ rvI f f.i.length) r) := by show _ = _; rw [natAt_at hwt]; rfl
 generalize needN (natAt f.w t + b) (rvL c f t) r = Z at *
 generalize cfC c v = C at *
 generalize hFF : fgC vf = F at *
 clear h hf hF ht hx0 hwt hb2 hV0 hV1 l1 l2 l3 l4 k1 k2 k3 k4 e0 hg0 a1 e1 hg1 d1 hFF
 go_enter Tryz.func22, Tryz.ntmps22
 go_upto_region 1 with fail
 generalize (w.alloc (.cells C 33)).alloc (.cells F 37) = W2 at *
 go_upto_region 2 with fail
 go_wp2
 clear yw dd1
 go_loopw [13, 14] (fun nv iv wr => ∃ (j N : Nat), j ≤ v.t.n ∧ iv = .int .i64 j ∧ nv = .int .u64 N ∧ Hid (capS lim N (wt + b + totN (rvT c f t j) r) ∧ Below W2.heap.size W2 wr)) (fun _ iv _ => v.t.n - (intOf iv).toNat)
 case atStart => exact ⟨0, wt + b, by omega, rfl, by simp, ⟨by show _ = _; simp [rvT, totN], by omega⟩, Below.refl _ _⟩
 case round =>
  obtain ⟨j, N, hj, rfl, rfl, HJ⟩ := hrel
  obtain ⟨hC, hB⟩ := HJ.out
  obtain ⟨y11, y16, y0, y1, _, _, hbw⟩ := HX.out _ hB
  by_cases hlt : j < v.t.n
  ·have hlt' : (j : Int) < v.t.n := by omega
   have hltw : (j : Int) < vf.w.n := by have := HW.out; omega
   have hltp : (j : Int) < vf.p.n := by have := HP.out; omega
   have hjc : j < c.tasks.length := by rw [← HN.out]; exact hlt
   obtain ⟨x, hx⟩ : ∃ x, c.tasks[j]? = some x := ⟨_, List.getElem?_eq_getElem hjc⟩
   obtain ⟨wk, hwk⟩ : ∃ wk, f.w[j]? = some wk := ⟨_, List.getElem?_eq_getElem (by have := HFg.out.k.n; omega)⟩
   obtain ⟨pk, hpk⟩ : ∃ pk, f.p[j]? = some pk := ⟨_, List.getElem?_eq_getElem (by have := HFg.out.p.n; omega)⟩
   have hwx := HK.out.1 _ (List.mem_of_getElem? hwk)
   have hpx := HK.out.2.1 _ (List.mem_of_getElem? hpk)
   obtain ⟨g, off, _, _, _, _, e, hg, _, aj, _⟩ := tk_row (HCf.out.below hbw) hx
   obtain ⟨g2, o2, e2, hg2, d2⟩ := nat_at HFg.out.k hwk
   obtain ⟨g3, o3, e3, hg3, d3⟩ := nat_at HFg.out.p hpk
   have at0 := HA.out _ hbw
   rw [e] at y11
   obtain ⟨rfl, rfl⟩ : g0 = g ∧ o0 = off := by have := HE0.out.symm.trans e; cases this; exact ⟨rfl, rfl⟩
   have HK1 : Hid (totN (rvT c f t (j + 1)) r = totN (rvT c f t j) r + (if j ≠ t ∧ x0.prio ≤ x.prio then bring r (wk, pk) else 0)) := by
    show _ = _
    rw [rvT_succ, totN_app, hpr, pri_at hx, natAt_at hwk, natAt_at hpk]
    split
    ·rw [totN_one]
    ·rfl
   have HXS : Hid (∀ U' : World, Below W2.heap.size W2 U' → (U'.cell? ⟨w.heap.size + 1, 0, none⟩ = some (.slice (some ⟨g2, o2, none⟩) vf.w.n vf.w.c) ∧ U'.cell? ⟨w.heap.size + 1, 1, none⟩ = some (.slice (some ⟨g3, o3, none⟩) vf.p.n vf.p.c) ∧ U'.cell? ⟨g2, o2 + j, none⟩ = some (U wk) ∧ U'.cell? ⟨g3, o3 + j, none⟩ = some (U pk))) := fun U' hU => by
    obtain ⟨_, _, q1, q2, _, _, q3⟩ := HX.out _ hU
    rw [e2] at q1
    rw [e3] at q2
    exact ⟨q1, q2, (cell_below q3 _ _ hg2).trans d2, (cell_below q3 _ _ hg3).trans d3⟩
   clear e2 e3 hg2 hg3 d2 d3
   have HB5 : Hid (Below W2.heap.size W2 wr) := hB
   have HC : Hid (capS lim N (wt + b + totN (rvT c f t j) r)) := hC
   have r11 := cell_regrown y11
   have ra0 := cell_regrown at0
   have ra1 := cell_regrown aj
   generalize totN (rvT c f t j) r = M at *
   clear hx hwk hpk hjc hC HJ hB e at0 aj
   by_cases c1 : j = t
   ·have d1 : ((j : Int) != (t : Int)) = false := by simp [c1]
    have d1' : (j != t) = false := by simp [c1]
    have HK2 : Hid (totN (rvT c f t (j + 1)) r = M) := by show _ = _; rw [HK1.out, if_neg (fun h => h.1 c1)]; rfl
    clear HK1 c1
    go_wp2
    clear y11 y16 y0 y1
    refine wp_region_quiet_below (by kernel_rfl) (by kernel_rfl) ?_
    repeat (go_big_quiet_step (fail))
    refine wpQuiet_nil ?_
    rintro _ ⟨⟨dq, osq⟩, rfl⟩
    dsimp only
    have HB6 : Hid (Below W2.heap.size W2 (grow (redrawn wr dq) osq)) := HB5.out.trans ((below_regrown wr dq osq).mono HB5.out.size)
    clear r11 ra0 ra1 HB5
    generalize grow (redrawn wr dq) osq = w4 at *
    go_wp2
    go_roundw
    case rel => exact ⟨j + 1, N, by omega, by go_num, rfl, by show _ ∧ _; rw [HK2.out]; exact ⟨HC.out, HB6.out⟩⟩
    case measure => simp [intOf]; omega
   ·have d1 : ((j : Int) != (t : Int)) = true := by simp; omega
    have d1' : (j != t) = true := by simp [c1]
    by_cases c2 : x0.prio ≤ x.prio
    ·have dd2 : decide (x0.prio ≤ x.prio) = true := decide_eq_true c2
     have HK2 : Hid (totN (rvT c f t (j + 1)) r = M + bring r (wk, pk)) := by show _ = _; rw [HK1.out, if_pos ⟨c1, c2⟩]
     clear HK1 c1 c2
     by_cases c3 : N ≤ lim
     ·have dd3 : decide (N ≤ lim) = true := decide_eq_true c3
      have HBK : Hid (bring r (wk, pk) ≤ 2147483647000000) := bring_le2 (by omega) hwx.2 hpx
      have hwr := wr_bring (N := N) (r := r) (by omega) hwx.2 hpx
      have HCN : Hid (capS lim (N + bring r (wk, pk)) (wt + b + M + bring r (wk, pk))) := HC.out.step c3 hl HBK.out
      go_wp2
      refine wp_region_quiet_below (by kernel_rfl) (by kernel_rfl) ?_
      repeat (go_big_quiet_step (fail))
      refine wpQuiet_nil ?_
      rintro _ ⟨⟨dq, osq⟩, rfl⟩
      dsimp only
      have HB6 : Hid (Below W2.heap.size W2 (grow (redrawn wr dq) osq)) := HB5.out.trans ((below_regrown wr dq osq).mono HB5.out.size)
      clear r11 ra0 ra1 HB5
      generalize grow (redrawn wr dq) osq = w4 at *
      go_upto_region 6 with fail
      have sA := HXS.out _ HB6.out
      have sD := HXS.out w4.drew HB6.out.drew
      clear HXS y11 y16 y0 y1
      go_region_held_law (fun U' => U'.cell? ⟨w.heap.size + 1, 0, none⟩ = some (.slice (some ⟨g2, o2, none⟩) vf.w.n vf.w.c) ∧ U'.cell? ⟨w.heap.size + 1, 1, none⟩ = some (.slice (some ⟨g3, o3, none⟩) vf.p.n vf.p.c) ∧ U'.cell? ⟨g2, o2 + j, none⟩ = some (U wk) ∧ U'.cell? ⟨g3, o3 + j, none⟩ = some (U pk)) (first | exact sA | exact sD | (go_keep; done)) (fail)
      rw [wr_add (by omega) HBK.out]
      have HB7 : Hid (Below W2.heap.size W2 w4.drew) := HB6.out.drew
      clear sA sD
      generalize bring r (wk, pk) = bk at *
      generalize w4.drew = w5 at *
      go_wp2
      go_roundw
      case rel => exact ⟨j + 1, N + bk, by omega, by go_num, rfl, by show _ ∧ _; rw [HK2.out, ← Nat.add_assoc]; exact ⟨HCN.out, HB7.out⟩⟩
      case measure => simp [intOf]; omega
     ·have dd3 : decide (N ≤ lim) = false := decide_eq_false c3
      have HC3 : Hid (capS lim N (wt + b + (M + bring r (wk, pk)))) := by show capS _ _ _; rw [← Nat.add_assoc]; exact HC.out.over (by omega)
      go_wp2
      clear y11 y16 y0 y1
      refine wp_region_quiet_below (by kernel_rfl) (by kernel_rfl) ?_
      repeat (go_big_quiet_step (fail))
      refine wpQuiet_nil ?_
      rintro _ ⟨⟨dq, osq⟩, rfl⟩
      dsimp only
      have HB6 : Hid (Below W2.heap.size W2 (grow (redrawn wr dq) osq)) := HB5.out.trans ((below_regrown wr dq osq).mono HB5.out.size)
      clear r11 ra0 ra1 HB5
      generalize grow (redrawn wr dq) osq = w4 at *
      go_wp2
      go_roundw
      case rel => exact ⟨j + 1, N, by omega, by go_num, rfl, by show _ ∧ _; rw [HK2.out]; exact ⟨HC3.out, HB6.out⟩⟩
      case measure => simp [intOf]; omega
    ·have dd2 : decide (x0.prio ≤ x.prio) = false := decide_eq_false c2
     have HK2 : Hid (totN (rvT c f t (j + 1)) r = M) := by show _ = _; rw [HK1.out, if_neg (fun h => c2 h.2)]; rfl
     clear HK1 c1 c2
     go_wp2
     clear y11 y16 y0 y1
     refine wp_region_quiet_below (by kernel_rfl) (by kernel_rfl) ?_
     repeat (go_big_quiet_step (fail))
     refine wpQuiet_nil ?_
     rintro _ ⟨⟨dq, osq⟩, rfl⟩
     dsimp only
     have HB6 : Hid (Below W2.heap.size W2 (grow (redrawn wr dq) osq)) := HB5.out.trans ((below_regrown wr dq osq).mono HB5.out.size)
     clear r11 ra0 ra1 HB5
     generalize grow (redrawn wr dq) osq = w4 at *
     go_wp2
     go_roundw
     case rel => exact ⟨j + 1, N, by omega, by go_num, rfl, by show _ ∧ _; rw [HK2.out]; exact ⟨HC.out, HB6.out⟩⟩
     case measure => simp [intOf]; omega
  ·obtain rfl : j = v.t.n := by omega
   have hlt' : ¬ ((v.t.n : Nat) : Int) < (v.t.n : Nat) := by omega
   have HT : Hid (capS lim N (wt + b + totN (rvT c f t c.tasks.length ++ rvI f 0) r) ∧ Below W2.heap.size W2 wr) := by
    refine ⟨?_, hB⟩
    rw [← HN.out, show rvI f 0 = [] from rfl, List.append_nil]
    exact hC
   clear hC hB HJ y16 y0 y1 hbw
   go_wp2
   clear y11
   go_loopw [13, 15] (fun nv iv wr => ∃ (j N : Nat), j ≤ v.i.n ∧ iv = .int .i64 j ∧ nv = .int .u64 N ∧ Hid (capS lim N (wt + b + totN (rvT c f t c.tasks.length ++ rvI f j) r) ∧ Below W2.heap.size W2 wr)) (fun _ iv _ => v.i.n - (intOf iv).toNat)
   case atStart => exact ⟨0, N, by omega, rfl, rfl, HT.out⟩
   case round =>
    clear HT
    obtain ⟨j, N, hj, rfl, rfl, HJ⟩ := hrel
    obtain ⟨hC, hB⟩ := HJ.out
    obtain ⟨y11, y16, _, _, y2, y3, hbw⟩ := HX.out _ hB
    by_cases hlt : j < v.i.n
    ·have hlt' : (j : Int) < v.i.n := by omega
     have hltw : (j : Int) < vf.i.n := by have := HIW.out; omega
     have hltp : (j : Int) < vf.e.n := by have := HIE.out; omega
     obtain ⟨wk, hwk⟩ : ∃ wk, f.i[j]? = some wk := ⟨_, List.getElem?_eq_getElem (by have := HFg.out.i.n; omega)⟩
     obtain ⟨pk, hpk⟩ : ∃ pk, f.e[j]? = some pk := ⟨_, List.getElem?_eq_getElem (by have := HFg.out.e.n; omega)⟩
     have hwx := HK.out.2.2.1 _ (List.mem_of_getElem? hwk)
     have hpx := HK.out.2.2.2 _ (List.mem_of_getElem? hpk)
     obtain ⟨g2, o2, e2, hg2, d2⟩ := nat_at HFg.out.i hwk
     obtain ⟨g3, o3, e3, hg3, d3⟩ := nat_at HFg.out.e hpk
     have HK2 : Hid (totN (rvT c f t c.tasks.length ++ rvI f (j + 1)) r = totN (rvT c f t c.tasks.length ++ rvI f j) r + bring r (wk, pk)) := by
      show _ = _
      rw [rvI_succ, natAt_at hwk, natAt_at hpk, ← List.append_assoc, totN_app _ [_], totN_one]
     have HXS : Hid (∀ U' : World, Below W2.heap.size W2 U' → (U'.cell? ⟨w.heap.size + 1, 2, none⟩ = some (.slice (some ⟨g2, o2, none⟩) vf.i.n vf.i.c) ∧ U'.cell? ⟨w.heap.size + 1, 3, none⟩ = some (.slice (some ⟨g3, o3, none⟩) vf.e.n vf.e.c) ∧ U'.cell? ⟨g2, o2 + j, none⟩ = some (U wk) ∧ U'.cell? ⟨g3, o3 + j, none⟩ = some (U pk))) := fun U' hU => by
      obtain ⟨_, _, _, _, q1, q2, q3⟩ := HX.out _ hU
      rw [e2] at q1
      rw [e3] at q2
      exact ⟨q1, q2, (cell_below q3 _ _ hg2).trans d2, (cell_below q3 _ _ hg3).trans d3⟩
     have HC : Hid (capS lim N (wt + b + totN (rvT c f t c.tasks.length ++ rvI f j) r)) := hC
     have HB6 : Hid (Below W2.heap.size W2 wr) := hB
     generalize totN (rvT c f t c.tasks.length ++ rvI f j) r = M at *
     clear hwk hpk hC HJ hB y11 y2 y3 hbw e2 e3 hg2 hg3 d2 d3
     by_cases c3 : N ≤ lim
     ·have c3' : (N : Int) ≤ (lim : Int) := by omega
      have HBK : Hid (bring r (wk, pk) ≤ 2147483647000000) := bring_le2 (by omega) hwx hpx
      have hwr := wr_bring (N := N) (r := r) (by omega) hwx hpx
      have HCN : Hid (capS lim (N + bring r (wk, pk)) (wt + b + M + bring r (wk, pk))) := HC.out.step c3 hl HBK.out
      go_upto_region 11 with fail
      have sA := HXS.out _ HB6.out
      have sD := HXS.out wr.drew HB6.out.drew
      clear HXS y16
      go_region_held_law (fun U' => U'.cell? ⟨w.heap.size + 1, 2, none⟩ = some (.slice (some ⟨g2, o2, none⟩) vf.i.n vf.i.c) ∧ U'.cell? ⟨w.heap.size + 1, 3, none⟩ = some (.slice (some ⟨g3, o3, none⟩) vf.e.n vf.e.c) ∧ U'.cell? ⟨g2, o2 + j, none⟩ = some (U wk) ∧ U'.cell? ⟨g3, o3 + j, none⟩ = some (U pk)) (first | exact sA | exact sD | (go_keep; done)) (fail)
      rw [wr_add (by omega) HBK.out]
      have HB7 : Hid (Below W2.heap.size W2 wr.drew) := HB6.out.drew
      clear sA sD
      generalize bring r (wk, pk) = bk at *
      generalize wr.drew = w5 at *
      go_wp2
      go_roundw
      case rel => exact ⟨j + 1, N + bk, by omega, by go_num, rfl, by show _ ∧ _; rw [HK2.out, ← Nat.add_assoc]; exact ⟨HCN.out, HB7.out⟩⟩
      case measure => simp [intOf]; omega
     ·have c3' : ¬ (N : Int) ≤ (lim : Int) := by omega
      have HC3 : Hid (capS lim N (wt + b + (M + bring r (wk, pk)))) := by show capS _ _ _; rw [← Nat.add_assoc]; exact HC.out.over (by omega)
      clear HXS
      go_wp2
      go_roundw
      case rel => exact ⟨j + 1, N, by omega, by go_num, rfl, by show _ ∧ _; rw [HK2.out]; exact ⟨HC3.out, HB6.out⟩⟩
      case measure => simp [intOf]; omega
    ·obtain rfl : j = v.i.n := by omega
     have hlt' : ¬ ((v.i.n : Nat) : Int) < (v.i.n : Nat) := by omega
     have HE : Hid (min N (lim + 1) = min Z (lim + 1)) := by
      show _ = _
      rw [HZ.out, hC.1, HFI.out, HI.out]
     have HBW : Hid (Below w.heap.size w wr) := hbw
     clear hC hB HJ y11 y2 y3 hbw
     go_wp2
     all_goals
      go_ret
      refine ⟨?_, HBW.out⟩
      have hz := HE.out
      exact ret_int (by omega)
theorem Sum27_any (w : World) (c : Cf) (v : Vs) (h : CfAt w c v) (f : Fg) (vf : Vf) (hf : FgAt w f vf) (hF : Fits c f) (t : Nat) (ht : t < c.tasks.length) (b r lim : Nat) (hb : b ≤ 2147483647) (hr : r ≤ lim) (hl : lim ≤ 1000000) :
  Calls Tryz.prog 10 #[.agg (cfC c v), .agg (fgC vf), I t, U b, U r, U lim] w fun e w' => e = .returned (U (min (needN (natAt f.w t + b) (rvL c f t) r) (lim + 1))) ∧ Below w.heap.size w w' := by
 have hi18 : (Tryz.prog.info? 33).map (·.size) = some (cfC c v).size := by rw [show (cfC c v).size = 18 from rfl]; kernel_rfl
 have hi5 : (Tryz.prog.info? 37).map (·.size) = some (fgC vf).size := by rw [show (fgC vf).size = 5 from rfl]; kernel_rfl
 have hb2 : Below w.heap.size w ((w.alloc (.cells (cfC c v) 33)).alloc (.cells (fgC vf) 37)) := ((Below.refl w.heap.size w).alloc (Nat.le_refl _) _).alloc (by simp) _
 have hV0 := heap_two0 w (.cells (cfC c v) 33) (.cells (fgC vf) 37)
 have hV1 := heap_two w (.cells (cfC c v) 33) (.cells (fgC vf) 37)
 have k1 := sum27_any _ c v (h.below hb2) f vf (hf.below hb2) hF t ht b r lim hb hr hl
 generalize min (needN (natAt f.w t + b) (rvL c f t) r) (lim + 1) = R at *
 generalize cfC c v = C at *
 generalize fgC vf = F at *
 clear h hf hF ht hb hr hl
 go_enter Tryz.func10, Tryz.ntmps10
 go_wp2_with (first | (refine wpList_load_row rfl 33 _ rfl w.heap.size rfl 33 _ (0, 0) _ hV0 Tryz.underlying33 rfl hi18 ?_) | (refine wpList_load_row rfl 37 _ rfl (w.heap.size + 1) rfl 37 _ (0, 0) _ hV1 Tryz.underlying37 rfl hi5 ?_) | (go_at_call 22; refine k1.mono ?_; clear k1; rintro e w1 ⟨rfl, hb1⟩))
 go_ret
 exact ⟨rfl, hb2.trans (hb1.mono hb2.size)⟩
def cf3 : Cf := ⟨[99], [111], false, false, false, false, false, false, false, false, [[109]], [⟨[97], 3, true, 1, [], [], [], []⟩, ⟨[98], 2, true, 1, [], [], [], []⟩, ⟨[99], 1, false, 1, [], [], [], []⟩], [], [], [], [], [], []⟩
def fg3 : Fg := ⟨[2, 3, 4], [10, 15, 50], [], [], []⟩
theorem h3a : recZ cf3 fg3 0 100 = 0 ∧ recZ cf3 fg3 1 100 = 0 ∧ recZ cf3 fg3 1 8 = 0 ∧ atZ cf3 fg3 0 = 0 := by refine ⟨?_, ?_, ?_, ?_⟩ <;> kernel_rfl
theorem h3b : recR cf3 fg3 0 100 = ⟨4, 6, true⟩ := by kernel_rfl
theorem h3c : recR cf3 fg3 1 100 = ⟨4, 9, true⟩ := by kernel_rfl
theorem h3d : recR cf3 fg3 1 8 = ⟨4, 0, false⟩ := by kernel_rfl
theorem h3e : blkR cf3 fg3 0 = 4 := by kernel_rfl
end Go.Proofs.YtpbnpmeigdjfdaaGreatDoor
