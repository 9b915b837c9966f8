import Derived.Test.YtglnfifdjlgbcaaGreatDoorXTcp
namespace Go.Proofs.YtglnfifdjlgbcaaGreatDoor
open Go.RowKit Go.Shelf Go.Sort
set_option linter.unusedVariables false
set_option linter.unusedSimpArgs false

/-! ### isrsFit -/
set_option maxRecDepth 100000 in
theorem isrsFit1_any (y x : IsR) (sy sx : Sl) (X : Nat) (w : World) (hX : w.heap[X]? = some (.cells (isrC x sx) 148)) :
    Calls Tryz.prog 206 #[.agg (isrC y sy), .pointer (some ⟨X, 0, none⟩)] w fun e w' => e = .returned (.bool (apartB y x)) ∧ Below w.heap.size w w' := by
  have hb := below_alloc w (.cells (isrC y sy) 148)
  have hX0 : (w.alloc (.cells (isrC y sy) 148)).heap[X]? = some (.cells (isrC x sx) 148) := (hb.block X (heap_lt hX)).trans hX
  have hY0 := heap_alloc_new w (.cells (isrC y sy) 148)
  have ka := areApart_any y x sy sx (w.alloc (.cells (isrC y sy) 148))
  have hi88 : (Tryz.prog.info? 148).map (·.size) = some (isrC x sx).size := by kernel_rfl
  have hi88' : (Tryz.prog.info? 148).map (·.size) = some (isrC y sy).size := by kernel_rfl
  generalize apartB y x = bb at *
  clear hX
  unfold isrC at *
  have a0 := cell_of_row _ X 0 _ _ (0, 0) hX0
  have a1 := cell_of_row _ X 1 _ _ (0, 0) hX0
  have a2 := cell_of_row _ X 2 _ _ (0, 0) hX0
  simp at a0 a1 a2
  clear hX0 hY0
  go_enter Tryz.func206, Tryz.ntmps206
  go_wp2_with (go_at_call 207; refine ka.mono ?_; clear ka; rintro e w' ⟨rfl, hb2⟩)
  go_ret
  exact ⟨rfl, hb.trans (hb2.mono hb.size)⟩
theorem relem_sz (w : World) : (sizeOf (Tryz.prog.elem 27)).run Tryz.prog w = .ok 3 w := by
  have : Tryz.prog.elem 27 = 148 := by kernel_rfl
  rw [this]
  have h : (Tryz.prog.info? 148).map (·.size) = some 3 := by kernel_rfl
  cases hq : Tryz.prog.info? 148 with
  | none => rw [hq] at h; cases h
  | some i =>
    rw [hq] at h
    simp at h
    simp [sizeOf, typeInfo, hq, h]
theorem rundS : Tryz.prog.underlying 27 = some (.slice (Tryz.prog.elem 27)) := by kernel_rfl
theorem rsl_to (g off L c m : Nat) (h : m ≤ c) (wx : World) :
    (Instr.slice 27 (.slice (some ⟨g, off, none⟩) L c) none (some (I m)) none).run Tryz.prog wx = .ok (.slice (some ⟨g, off, none⟩) m c) wx := by
  rw [run_slice_h wx 27 _ L c rundS .i64 (m : Int) (by omega) (by omega), relem_sz]
  have e1 : ((m : Int)).toNat = m := by omega
  simp only [Result.andThen, sliced, e1, Option.map_some, Nat.zero_mul, Nat.sub_zero]
  simp [Addr.add]
theorem RowsAt.take {α : Type} {w : World} {k : Nat} {P : α → Nat → Value → Prop} {s : Sl} {l : List α} (h : RowsAt w k P s l) (j : Nat) (hj : j ≤ s.n) : RowsAt w k P ⟨s.a, j, s.c⟩ (l.take j) := by
  refine ⟨by rw [List.length_take]; have := h.n; simp only; omega, Nat.le_trans hj h.c, h.m, fun i x hx => ?_⟩
  refine h.row i x ?_
  rw [List.getElem?_take] at hx
  split at hx
  · exact hx
  · cases hx
set_option maxHeartbeats 16000000 in
set_option maxRecDepth 100000 in
theorem isrsFit_any (tb : Tb) (v : Ts) (w : World) (h : TbAt w tb v) : Calls Tryz.prog 99 #[.agg (tbC tb v)] w fun e w' => e = .returned (.bool (isrsG tb [] tb.isrs)) ∧ Below w.heap.size w w' := by
  have hV := heap_alloc_new w (.cells (tbC tb v) 30)
  have HB : Hid (Below w.heap.size w (w.alloc (.cells (tbC tb v) 30))) := below_alloc w _
  have HT : Hid (TbAt (w.alloc (.cells (tbC tb v) 30)) tb v) := h.below HB.out
  have HVV : Hid ((w.alloc (.cells (tbC tb v) 30)).heap[w.heap.size]? = some (.cells (tbC tb v) 30)) := hV
  obtain ⟨c0, c1, c2, c3, c4, c5, c6, c7, c8, c9, c10, c11, c12⟩ := var13 hV
  have HS : Hid (v.i.n = tb.isrs.length) := h.i.n
  have hsc : v.i.n ≤ v.i.c := h.i.c
  have hsm : v.i.c ≤ maxLen := h.i.m
  unfold maxLen at hsm
  have hi30 : (Tryz.prog.info? 30).map (·.size) = some (tbC tb v).size := by kernel_rfl
  obtain ⟨R, hR⟩ : ∃ R, R = isrsG tb [] tb.isrs := ⟨_, rfl⟩
  rw [← hR]
  have HR : Hid (R = isrsG tb (tb.isrs.take 0) (tb.isrs.drop 0)) := by show _ = _; simpa using hR
  clear hR h hV c0 c1 c2 c3 c4 c5 c6 c8 c9 c10 c11 c12
  go_enter Tryz.func99, Tryz.ntmps99
  unfold tbC at *
  generalize hW : w.alloc (.cells #[I tb.uses, I tb.modes, .slice v.t.a v.t.n v.t.c, .slice v.g.a v.g.n v.g.c, .slice v.r.a v.r.n v.r.c, .slice v.k.a v.k.n v.k.c, .slice v.a.a v.a.n v.a.c, .slice v.i.a v.i.n v.i.c, .slice v.s.a v.s.n v.s.c, I tb.depth, I tb.frames, I tb.errors, I tb.calls] 30) = W1 at *
  go_upto_region 1 with fail
  clear hW
  go_wp2
  go_loopw [3, 4, 8] (fun _ _ iv wr => ∃ (j : Nat), j ≤ v.i.n ∧ iv = .int .i64 j ∧ Hid (R = isrsG tb (tb.isrs.take j) (tb.isrs.drop j) ∧ Below W1.heap.size W1 wr)) (fun _ _ iv _ => v.i.n - (intOf iv).toNat)
  case atStart => exact ⟨0, by omega, rfl, HR.out, Below.refl _ _⟩
  case round =>
    clear HR
    obtain ⟨j, hj, rfl, HJ⟩ := hrel
    by_cases hlt : j < v.i.n
    · have hlt' : (j : Int) < v.i.n := by omega
      obtain ⟨x, hx⟩ : ∃ x, tb.isrs[j]? = some x := ⟨_, List.getElem?_eq_getElem (by rw [← HS.out]; exact hlt)⟩
      obtain ⟨g5, o5, s2, e5, hg5, x0, x1, x2, r2⟩ := isr_at (HT.out.below HJ.out.2) hx
      have HX : Hid (R = (isB tb x && (tb.isrs.take j).all (fun a => apartB a x) && isrsG tb (tb.isrs.take (j + 1)) (tb.isrs.drop (j + 1)))) := by
        have h9 := HJ.out.1
        rw [drop_at hx, isrsG] at h9
        rw [List.take_add_one, hx]
        exact h9
      have b0 := HJ.out.2
      have bX : Below W1.heap.size W1 (wr.alloc (.cells #[I x.cat, I x.prio, .slice s2.a s2.n s2.c] 148)) := b0.trans ((below_alloc wr _).mono b0.size)
      have hXX := heap_alloc_new wr (.cells #[I x.cat, I x.prio, .slice s2.a s2.n s2.c] 148)
      have hV0 : (wr.alloc (.cells #[I x.cat, I x.prio, .slice s2.a s2.n s2.c] 148)).heap[w.heap.size]? = some (.cells #[I tb.uses, I tb.modes, .slice v.t.a v.t.n v.t.c, .slice v.g.a v.g.n v.g.c, .slice v.r.a v.r.n v.r.c, .slice v.k.a v.k.n v.k.c, .slice v.a.a v.a.n v.a.c, .slice v.i.a v.i.n v.i.c, .slice v.s.a v.s.n v.s.c, I tb.depth, I tb.frames, I tb.errors, I tb.calls] 30) := (bX.block w.heap.size (heap_lt HVV.out)).trans HVV.out
      have r20 := r2.below (below_alloc wr (.cells #[I x.cat, I x.prio, .slice s2.a s2.n s2.c] 148)) (fun _ _ _ _ h => h)
      have hga := e5
      rw [e5]
      clear hx HJ b0 r2
      go_upto_region 4 with fail
      generalize wr.heap.size = X at *
      generalize (wr.alloc (.cells #[I x.cat, I x.prio, .slice s2.a s2.n s2.c] 148)) = W0 at *
      have kf := isrFits_any tb v x s2 W0 (HT.out.below bX) r20
      unfold tbC isrC at kf
      have ke : ∀ W2, Below W0.heap.size W0 W2 → Calls Tryz.prog 205 #[.slice (some ⟨g5, o5, none⟩) j v.i.c, .func (.func 206) #[] #[.pointer (some ⟨X, 0, none⟩)]] W2 fun e w' => e = .returned (.bool ((tb.isrs.take j).all (fun a => apartB a x))) ∧ Below W2.heap.size W2 w' := fun W2 hW2 =>
        every_isr W2 ⟨some ⟨g5, o5, none⟩, j, v.i.c⟩ (tb.isrs.take j) (fun W hW => by
          have := ((HT.out.below bX).below (hW2.trans (hW.mono hW2.size))).i.take j (by omega)
          rw [hga] at this
          exact this) 206 #[.pointer (some ⟨X, 0, none⟩)] (enters_of Tryz.func206 (by kernel_rfl) rfl) (fun a => apartB a x) (fun W hW y hy sy _ => isrsFit1_any y x sy s2 X W (((hW2.trans (hW.mono hW2.size)).block X (heap_lt hXX)).trans hXX))
      have hsl := fun wx => rsl_to g5 o5 v.i.n v.i.c j (by omega) wx
      have y0 := cell_of_row _ X 0 _ _ (0, 0) hXX
      have y1 := cell_of_row _ X 1 _ _ (0, 0) hXX
      have y2 := cell_of_row _ X 2 _ _ (0, 0) hXX
      simp at y0 y1 y2
      have HV7 : Hid (∀ W2, Below W0.heap.size W0 W2 → W2.cell? ⟨w.heap.size, 7, none⟩ = some (.slice (some ⟨g5, o5, none⟩) v.i.n v.i.c)) := fun W2 hW2 => by
        have h1 := (var13 ((hW2.block w.heap.size (heap_lt hV0)).trans hV0)).2.2.2.2.2.2.2.1
        rw [hga] at h1
        exact h1
      have HB0 : Hid (Below w.heap.size w W0) := HB.out.trans (bX.mono HB.out.size)
      have HBX : Hid (Below W1.heap.size W1 W0) := bX
      clear hXX bX r20 e5 hga x0 x1 x2
      have hV0' : Hid (W0.heap[w.heap.size]? = some (.cells #[I tb.uses, I tb.modes, .slice v.t.a v.t.n v.t.c, .slice v.g.a v.g.n v.g.c, .slice v.r.a v.r.n v.r.c, .slice v.k.a v.k.n v.k.c, .slice v.a.a v.a.n v.a.c, .slice v.i.a v.i.n v.i.c, .slice v.s.a v.s.n v.s.c, I tb.depth, I tb.frames, I tb.errors, I tb.calls] 30)) := hV0
      clear hV0
      cases b1 : isB tb x with
      | false =>
        rw [b1] at kf HX
        go_wp2_with (first
          | (refine wpList_load_row rfl 30 _ rfl w.heap.size rfl 30 _ (0, 0) _ hV0'.out Tryz.underlying30 rfl hi30 ?_)
          | (go_at_call 204; refine kf.mono ?_; clear kf; rintro e w2 ⟨rfl, hb2⟩))
        go_ret
        exact ⟨ret_bool' (by rw [HX.out]; simp), HB0.out.trans (hb2.mono HB0.out.size)⟩
      | true =>
        rw [b1] at kf HX
        cases b2 : (tb.isrs.take j).all (fun a => apartB a x) with
        | false =>
          rw [b2] at HX
          go_wp2_with (first
            | (refine wpList_load_row rfl 30 _ rfl w.heap.size rfl 30 _ (0, 0) _ hV0'.out Tryz.underlying30 rfl hi30 ?_)
            | (go_at_call 204; refine kf.mono ?_; clear kf; rintro e w2 ⟨rfl, hb2⟩; have q7 := HV7.out w2 hb2; have kg := ke w2 hb2; rw [b2] at kg)
            | (go_at_call 205; refine kg.mono ?_; clear kg; rintro e w3 ⟨rfl, hb3⟩))
          go_ret
          exact ⟨ret_bool' (by rw [HX.out]; simp), HB0.out.trans ((hb2.trans (hb3.mono hb2.size)).mono HB0.out.size)⟩
        | true =>
          rw [b2] at HX
          go_wp2_with (first
            | (refine wpList_load_row rfl 30 _ rfl w.heap.size rfl 30 _ (0, 0) _ hV0'.out Tryz.underlying30 rfl hi30 ?_)
            | (go_at_call 204; refine kf.mono ?_; clear kf; rintro e w2 ⟨rfl, hb2⟩; have q7 := HV7.out w2 hb2; have kg := ke w2 hb2; rw [b2] at kg)
            | (go_at_call 205; refine kg.mono ?_; clear kg; rintro e w3 ⟨rfl, hb3⟩))
          go_roundw
          case rel => exact ⟨j + 1, by omega, by go_num, by rw [HX.out]; simp, HBX.out.trans ((hb2.trans (hb3.mono hb2.size)).mono HBX.out.size)⟩
          case measure => simp [intOf]; omega
    · obtain rfl : j = v.i.n := by omega
      have hlt' : ¬ ((v.i.n : Nat) : Int) < (v.i.n : Nat) := by omega
      have HE : Hid (R = true) := by
        have := HJ.out.1
        rw [List.drop_eq_nil_of_le (by rw [HS.out]; exact Nat.le_refl _), isrsG] at this
        exact this
      have HB9 : Hid (Below w.heap.size w wr) := HB.out.trans (HJ.out.2.mono HB.out.size)
      clear HJ
      go_wp2
      go_ret
      exact ⟨ret_bool' HE.out.symm, HB9.out⟩
end Go.Proofs.YtglnfifdjlgbcaaGreatDoor

namespace Go.Proofs.YtglnfifdjlgbcaaGreatDoor
open Go.RowKit Go.Shelf Go.Sort
set_option linter.unusedVariables false
set_option linter.unusedSimpArgs false

/-! ### senderFits -/
set_option maxHeartbeats 16000000 in
set_option maxRecDepth 100000 in
theorem senderFits_any (tb : Tb) (v : Ts) (x : MsR) (w : World) (h : TbAt w tb v) (hx : x.init < 18446744073709551616) (hf : tb.msgs.all fldB = true) :
    Calls Tryz.prog 211 #[.agg (tbC tb v), .agg (msrC x)] w fun e w' => e = .returned (.bool (sndB tb x)) ∧ Below w.heap.size w w' := by
  have hb : Below w.heap.size w ((w.alloc (.cells (tbC tb v) 30)).alloc (.cells (msrC x) 161)) := (below_alloc w _).trans ((below_alloc _ _).mono (by simp))
  have hV0 : ((w.alloc (.cells (tbC tb v) 30)).alloc (.cells (msrC x) 161)).heap[w.heap.size]? = some (.cells (tbC tb v) 30) := by
    rw [heap_alloc_old _ _ (by simp)]; exact heap_alloc_new w _
  have hX : ((w.alloc (.cells (tbC tb v) 30)).alloc (.cells (msrC x) 161)).heap[w.heap.size + 1]? = some (.cells (msrC x) 161) := by
    have := heap_alloc_new (w.alloc (.cells (tbC tb v) 30)) (.cells (msrC x) 161)
    rw [World.size_alloc] at this
    exact this
  have hT0 := h.below hb
  have HB0 : Hid (Below w.heap.size w ((w.alloc (.cells (tbC tb v) 30)).alloc (.cells (msrC x) 161))) := hb
  have HN : Hid (v.s.n = tb.msgs.length) := h.s.n
  have hgc : v.s.n ≤ v.s.c := h.s.c
  have hgm : v.s.c ≤ maxLen := h.s.m
  unfold maxLen at hgm
  obtain ⟨R, hR⟩ : ∃ R, R = sndB tb x := ⟨_, rfl⟩
  rw [← hR]
  have HX : Hid (R = (idB x.frm v.s.n && ((msOf tb x.frm).kind == 1) && decide (x.init < 2 ^ (8 * (msOf tb x.frm).len.toNat)))) := by
    show _ = _
    rw [hR, HN.out]
    rfl
  have kI := fun W => isID_msgs x.frm v.s W
  clear hR h hb
  go_enter Tryz.func211, Tryz.ntmps211
  unfold tbC msrC at *
  go_upto_region 1 with fail
  generalize ((w.alloc (.cells #[I tb.uses, I tb.modes, .slice v.t.a v.t.n v.t.c, .slice v.g.a v.g.n v.g.c, .slice v.r.a v.r.n v.r.c, .slice v.k.a v.k.n v.k.c, .slice v.a.a v.a.n v.a.c, .slice v.i.a v.i.n v.i.c, .slice v.s.a v.s.n v.s.c, I tb.depth, I tb.frames, I tb.errors, I tb.calls] 30)).alloc (.cells #[I x.kind, I x.len, I x.frm, .int .u64 (x.init : Int), I x.queue, I x.ac.kind, I x.ac.task, .int .u32 (x.ac.mask : Int)] 161)) = W0 at *
  have z8 := (var13 hV0).2.2.2.2.2.2.2.2.1
  have x2 := cell_of_row _ (w.heap.size + 1) 2 _ _ (0, 0) hX
  have x3 := cell_of_row _ (w.heap.size + 1) 3 _ _ (0, 0) hX
  simp at x2 x3
  clear hX hV0
  cases b1 : idB x.frm v.s.n with
  | false =>
    rw [b1] at HX
    go_wp2_with (first | (go_at_call 250; refine (kI _).mono ?_; clear kI; rw [b1]; rintro e w' ⟨rfl, rfl⟩))
    go_ret
    exact ⟨ret_bool' (by rw [HX.out]; simp), HB0.out⟩
  | true =>
    rw [b1] at HX
    have hid2 : 0 ≤ x.frm ∧ x.frm < (v.s.n : Int) := by unfold idB at b1; simpa using b1
    obtain ⟨k, hk⟩ := Int.eq_ofNat_of_zero_le hid2.1
    obtain ⟨r, hr⟩ : ∃ r, tb.msgs[k]? = some r := ⟨_, List.getElem?_eq_getElem (by rw [← HN.out]; omega)⟩
    obtain ⟨gr, orr, er, hgr, t0, t1, t2, t3, t4, t5, t6, t7⟩ := msr_at hT0 hr
    have HP : Hid (msOf tb x.frm = r) := by
      show _ = _
      unfold msOf
      rw [hk, Int.toNat_natCast, hr]
    have hfr := List.all_eq_true.1 hf r (List.mem_of_getElem? hr)
    have hk1 : (k : Int) < v.s.n := by omega
    have kJ : ∀ W, Calls Tryz.prog 250 #[I k, .slice (some ⟨gr, orr, none⟩) v.s.n v.s.c] W fun e w' => e = .returned (.bool true) ∧ w' = W := fun W => by
      have := kI W
      rw [b1, hk, er] at this
      exact this
    rw [HP.out] at HX
    rw [hk] at x2
    rw [er] at z8
    clear kI hr er b1 hid2 t2 t3 t4 t5 t6 t7 hT0 hf hk
    cases b2 : (r.kind == 1) with
    | false =>
      rw [b2] at HX
      go_wp2_with (first | (go_at_call 250; refine (kJ _).mono ?_; clear kJ; rintro e w' ⟨rfl, rfl⟩))
      go_ret
      exact ⟨ret_bool' (by rw [HX.out]; simp), HB0.out⟩
    | true =>
      rw [b2] at HX
      have hlen : r.len = 1 ∨ r.len = 2 ∨ r.len = 4 ∨ r.len = 8 := by
        unfold fldB at hfr
        rw [if_pos (by simpa using b2)] at hfr
        simp at hfr
        omega
      clear hfr
      rcases hlen with e | e | e | e
      all_goals
        rw [e] at t1 HX
        go_wp2_with (first | (go_at_call 250; refine (kJ _).mono ?_; clear kJ; rintro e w' ⟨rfl, rfl⟩))
        go_region
        all_goals
          go_wp2
          go_ret
          exact ⟨ret_bool' (by rw [HX.out, Bool.eq_iff_iff]; simp; omega), HB0.out.drew⟩
/-! ### messagesFit -/
set_option maxHeartbeats 16000000 in
set_option maxRecDepth 100000 in
theorem messagesFit1_any (tb : Tb) (v : Ts) (x : MsR) (V : Nat) (w : World) (h : TbAt w tb v) (hV : w.heap[V]? = some (.cells (tbC tb v) 30)) (hx : x.init < 18446744073709551616) (hf : tb.msgs.all fldB = true) :
    Calls Tryz.prog 210 #[.agg (msrC x), .pointer (some ⟨V, 0, none⟩)] w fun e w' => e = .returned (.bool (msB tb x)) ∧ Below w.heap.size w w' := by
  have hb := below_alloc w (.cells (msrC x) 161)
  have hX := heap_alloc_new w (.cells (msrC x) 161)
  have hV0 : (w.alloc (.cells (msrC x) 161)).heap[V]? = some (.cells (tbC tb v) 30) := (hb.block V (heap_lt hV)).trans hV
  have hT0 := h.below hb
  have HB0 : Hid (Below w.heap.size w (w.alloc (.cells (msrC x) 161))) := hb
  have hi30 : (Tryz.prog.info? 30).map (·.size) = some (tbC tb v).size := by kernel_rfl
  have hi97 : (Tryz.prog.info? 161).map (·.size) = some (msrC x).size := by kernel_rfl
  have k0 := fun W hW => actionFits_any tb v x.ac 0 0 W (hT0.below hW)
  have k4 := fun W hW => actionFits_any tb v x.ac 0 4 W (hT0.below hW)
  have kS := senderFits_any tb v x (w.alloc (.cells (msrC x) 161)) hT0 hx hf
  obtain ⟨R, hR⟩ : ∃ R, R = msB tb x := ⟨_, rfl⟩
  rw [← hR]
  unfold msB at hR
  clear h hV hb hx hf hT0
  go_enter Tryz.func210, Tryz.ntmps210
  unfold tbC msrC acrC at *
  go_upto_region 1 with fail
  generalize (w.alloc (.cells #[I x.kind, I x.len, I x.frm, .int .u64 (x.init : Int), I x.queue, I x.ac.kind, I x.ac.task, .int .u32 (x.ac.mask : Int)] 161)) = W0 at *
  have HV : Hid (∀ W, Below W0.heap.size W0 W → W.heap[V]? = some (.cells #[I tb.uses, I tb.modes, .slice v.t.a v.t.n v.t.c, .slice v.g.a v.g.n v.g.c, .slice v.r.a v.r.n v.r.c, .slice v.k.a v.k.n v.k.c, .slice v.a.a v.a.n v.a.c, .slice v.i.a v.i.n v.i.c, .slice v.s.a v.s.n v.s.c, I tb.depth, I tb.frames, I tb.errors, I tb.calls] 30)) := fun W hW => (hW.block V (heap_lt hV0)).trans hV0
  have HXX : Hid (∀ W, Below W0.heap.size W0 W → W.heap[w.heap.size]? = some (.cells #[I x.kind, I x.len, I x.frm, .int .u64 (x.init : Int), I x.queue, I x.ac.kind, I x.ac.task, .int .u32 (x.ac.mask : Int)] 161)) := fun W hW => (hW.block w.heap.size (heap_lt hX)).trans hX
  have y0 := cell_of_row _ w.heap.size 0 _ _ (0, 0) hX
  have y5 := cell_of_row _ w.heap.size 5 _ _ (0, 0) hX
  have y6 := cell_of_row _ w.heap.size 6 _ _ (0, 0) hX
  have y7 := cell_of_row _ w.heap.size 7 _ _ (0, 0) hX
  simp at y0 y5 y6 y7
  have kA0 := k0 W0 (Below.refl _ _)
  clear k0
  by_cases b1 : x.kind = 1
  · have b1' : (x.kind == 1) = true := by simpa using b1
    rw [if_pos b1] at hR
    have HX : Hid (R = acB tb x.ac 0 0) := hR
    clear hR b1 kS k4
    go_wp2_with (first
      | (refine wpList_load_row rfl 30 _ rfl V rfl 30 _ (0, 0) _ hV0 Tryz.underlying30 rfl hi30 ?_)
      | (go_at_call 202; refine kA0.mono ?_; clear kA0; rintro e w' ⟨rfl, hb2⟩))
    go_ret
    exact ⟨ret_bool' HX.out.symm, HB0.out.trans (hb2.mono HB0.out.size)⟩
  · have b1' : (x.kind == 1) = false := by simpa using b1
    rw [if_neg b1] at hR
    have HX : Hid (R = (sndB tb x && acB tb x.ac 0 4)) := hR
    clear hR b1 kA0
    cases b2 : sndB tb x with
    | false =>
      rw [b2] at kS HX
      go_wp2_with (first
      | (refine wpList_load_row rfl 30 _ rfl V rfl 30 _ (0, 0) _ hV0 Tryz.underlying30 rfl hi30 ?_)
      | (refine wpList_load_row rfl 161 _ rfl w.heap.size rfl 161 _ (0, 0) _ hX Tryz.underlying161 rfl hi97 ?_)
      | (go_at_call 211; refine kS.mono ?_; clear kS; rintro e w2 ⟨rfl, hb2⟩))
      go_ret
      exact ⟨ret_bool' (by rw [HX.out]; simp), HB0.out.trans (hb2.mono HB0.out.size)⟩
    | true =>
      rw [b2] at kS HX
      go_wp2_with (first
      | (refine wpList_load_row rfl 30 _ rfl V rfl 30 _ (0, 0) _ hV0 Tryz.underlying30 rfl hi30 ?_)
      | (refine wpList_load_row rfl 161 _ rfl w.heap.size rfl 161 _ (0, 0) _ hX Tryz.underlying161 rfl hi97 ?_)
      | (go_at_call 211; refine kS.mono ?_; clear kS y0 y5 y6 y7; rintro e w2 ⟨rfl, hb2⟩; obtain ⟨d0, d1, d2, d3, d4, d5, d6, d7, d8, d9, d10, d11, d12⟩ := var13 (HV.out w2 hb2); have hX2 := HXX.out w2 hb2; have f5 := cell_of_row _ w.heap.size 5 _ _ (0, 0) hX2; have f6 := cell_of_row _ w.heap.size 6 _ _ (0, 0) hX2; have f7 := cell_of_row _ w.heap.size 7 _ _ (0, 0) hX2; simp at f5 f6 f7; have kA := k4 w2 hb2; clear hX2 k4)
      | (go_at_call 202; refine kA.mono ?_; clear kA; rintro e w3 ⟨rfl, hb3⟩))
      go_ret
      exact ⟨ret_bool' (by rw [HX.out]; simp), HB0.out.trans ((hb2.trans (hb3.mono hb2.size)).mono HB0.out.size)⟩
set_option maxRecDepth 100000 in
theorem messagesFit_any (tb : Tb) (v : Ts) (w : World) (h : TbAt w tb v) (hw : WfT tb) : Calls Tryz.prog 100 #[.agg (tbC tb v)] w fun e w' => e = .returned (.bool (tb.msgs.all fldB && tb.msgs.all (msB tb))) ∧ Below w.heap.size w w' := by
  have hb := below_alloc w (.cells (tbC tb v) 30)
  have hV := heap_alloc_new w (.cells (tbC tb v) 30)
  have k1 := every_msr (w.alloc (.cells (tbC tb v) 30)) v.s tb.msgs (fun W hW => (h.below (hb.trans (hW.mono hb.size))).s) 209 #[] (enters_of Tryz.func209 (by kernel_rfl) rfl) fldB (fun W hW x hx => fieldsFit_any x W)
  have k2 : tb.msgs.all fldB = true → ∀ W2, Below (w.alloc (.cells (tbC tb v) 30)).heap.size (w.alloc (.cells (tbC tb v) 30)) W2 → Calls Tryz.prog 208 #[.slice v.s.a v.s.n v.s.c, .func (.func 210) #[] #[.pointer (some ⟨w.heap.size, 0, none⟩)]] W2 fun e w' => e = .returned (.bool (tb.msgs.all (msB tb))) ∧ Below W2.heap.size W2 w' := fun hf W2 hW2 =>
    every_msr W2 v.s tb.msgs (fun W hW => (h.below (hb.trans ((hW2.trans (hW.mono hW2.size)).mono hb.size))).s) 210 #[.pointer (some ⟨w.heap.size, 0, none⟩)] (enters_of Tryz.func210 (by kernel_rfl) rfl) (msB tb) (fun W hW x hx => messagesFit1_any tb v x w.heap.size W (h.below (hb.trans ((hW2.trans (hW.mono hW2.size)).mono hb.size))) (((hW2.trans (hW.mono hW2.size)).block w.heap.size (heap_lt hV)).trans hV) (hw.s x hx).1 hf)
  have c8 := (var13 hV).2.2.2.2.2.2.2.2.1
  have HV8 : Hid (∀ W, Below (w.alloc (.cells (tbC tb v) 30)).heap.size (w.alloc (.cells (tbC tb v) 30)) W → W.cell? ⟨w.heap.size, 8, none⟩ = some (.slice v.s.a v.s.n v.s.c)) := fun W hW => (var13 ((hW.block w.heap.size (heap_lt hV)).trans hV)).2.2.2.2.2.2.2.2.1
  unfold tbC at *
  clear h hV hw
  generalize hR1 : tb.msgs.all fldB = R1 at *
  generalize hR2 : tb.msgs.all (msB tb) = R2 at *
  go_enter Tryz.func100, Tryz.ntmps100
  go_upto_region 1 with fail
  generalize (w.alloc (.cells #[I tb.uses, I tb.modes, .slice v.t.a v.t.n v.t.c, .slice v.g.a v.g.n v.g.c, .slice v.r.a v.r.n v.r.c, .slice v.k.a v.k.n v.k.c, .slice v.a.a v.a.n v.a.c, .slice v.i.a v.i.n v.i.c, .slice v.s.a v.s.n v.s.c, I tb.depth, I tb.frames, I tb.errors, I tb.calls] 30)) = W0 at *
  cases R1
  · go_wp2_with (first | (go_at_call 208; refine k1.mono ?_; clear k1; rintro e w2 ⟨rfl, hb2⟩))
    go_ret
    exact ⟨rfl, hb.trans (hb2.mono hb.size)⟩
  · go_wp2_with (first
      | (go_at_call 208; refine k1.mono ?_; clear k1; rintro e w2 ⟨rfl, hb2⟩; have q8 := HV8.out w2 hb2; have kg := k2 rfl w2 hb2; clear k2)
      | (go_at_call 208; refine kg.mono ?_; clear kg; rintro e w3 ⟨rfl, hb3⟩))
    go_ret
    exact ⟨ret_bool' (by simp), hb.trans ((hb2.trans (hb3.mono hb2.size)).mono hb.size)⟩
end Go.Proofs.YtglnfifdjlgbcaaGreatDoor

namespace Go.Proofs.YtglnfifdjlgbcaaGreatDoor
open Go.RowKit Go.Shelf Go.Sort
set_option linter.unusedVariables false
set_option linter.unusedSimpArgs false

/-! ### tasksFit -/
set_option maxHeartbeats 16000000 in
set_option maxRecDepth 100000 in
theorem tasksFit1_any (tb : Tb) (v : Ts) (x : TkR) (s6 : Sl) (V : Nat) (w : World) (h : TbAt w tb v) (hs : RowsAt w 1 intP s6 x.own) (hV : w.heap[V]? = some (.cells (tbC tb v) 30)) (ha : x.auto < 4294967296) (hm : 1 ≤ tb.modes ∧ tb.modes ≤ 8) :
    Calls Tryz.prog 191 #[.agg (tkrC x s6), .pointer (some ⟨V, 0, none⟩)] w fun e w' => e = .returned (.bool (tkB tb x)) ∧ Below w.heap.size w w' := by
  have hb := below_alloc w (.cells (tkrC x s6) 42)
  have hX := heap_alloc_new w (.cells (tkrC x s6) 42)
  have hV0 : (w.alloc (.cells (tkrC x s6) 42)).heap[V]? = some (.cells (tbC tb v) 30) := (hb.block V (heap_lt hV)).trans hV
  have hT0 := h.below hb
  have hs0 := hs.below hb (fun _ _ _ _ h => h)
  have HB0 : Hid (Below w.heap.size w (w.alloc (.cells (tkrC x s6) 42))) := hb
  have HN : Hid (v.g.n = tb.rings.length) := h.g.n
  have hgc : v.g.n ≤ v.g.c := h.g.c
  have hgm : v.g.c ≤ maxLen := h.g.m
  unfold maxLen at hgm
  have hi30 : (Tryz.prog.info? 30).map (·.size) = some (tbC tb v).size := by kernel_rfl
  have hi67 : (Tryz.prog.info? 42).map (·.size) = some (tkrC x s6).size := by kernel_rfl
  obtain ⟨R, hR⟩ : ∃ R, R = tkB tb x := ⟨_, rfl⟩
  rw [← hR]
  have HX : Hid (R = (idB x.ring v.g.n && (prioAt tb.rings x.ring == x.prio) && limitB x && ((x.inner == -1 || inI x.inner x.prio 127) && ownG tb x.prio (-1) x.own && autoB tb x.auto))) := by
    show _ = _
    rw [hR, HN.out]
    rfl
  clear hR h hs hV hb
  go_enter Tryz.func191, Tryz.ntmps191
  unfold tkrC tbC at *
  go_upto_region 1 with fail
  generalize (w.alloc (.cells #[I x.prio, I x.ring, .bool x.full, I x.limit, .int .u32 (x.mask : Int), I x.inner, .slice s6.a s6.n s6.c, .int .u32 (x.auto : Int)] 42)) = W0 at *
  have cI : ∀ d os, Calls Tryz.prog 192 #[I x.ring, .slice v.g.a v.g.n v.g.c] (grow (redrawn W0 d) os) fun e w'' => e = .returned (.bool (idB x.ring v.g.n)) ∧ ∃ p : Regrown, w'' = grow (redrawn W0 p.d) p.os := regrown_bel9 (fun W hW => calls_bel9 (isID_rings x.ring v.g W))
  have cL : ∀ d os, Calls Tryz.prog 193 #[.agg #[I x.prio, I x.ring, .bool x.full, I x.limit, .int .u32 (x.mask : Int), I x.inner, .slice s6.a s6.n s6.c, .int .u32 (x.auto : Int)]] (grow (redrawn W0 d) os) fun e w'' => e = .returned (.bool (limitB x)) ∧ ∃ p : Regrown, w'' = grow (redrawn W0 p.d) p.os := regrown_bel9 (fun W hW => limitFits_any x s6 W)
  have cW : ∀ d os, Calls Tryz.prog 185 #[I x.inner, I x.prio, I 127] (grow (redrawn W0 d) os) fun e w'' => e = .returned (.bool (inI x.inner x.prio 127)) ∧ ∃ p : Regrown, w'' = grow (redrawn W0 p.d) p.os := regrown_bel9 (fun W hW => calls_bel9 (withinI_any x.inner x.prio 127 W))
  have cO : ∀ d os, Calls Tryz.prog 194 #[.agg #[I tb.uses, I tb.modes, .slice v.t.a v.t.n v.t.c, .slice v.g.a v.g.n v.g.c, .slice v.r.a v.r.n v.r.c, .slice v.k.a v.k.n v.k.c, .slice v.a.a v.a.n v.a.c, .slice v.i.a v.i.n v.i.c, .slice v.s.a v.s.n v.s.c, I tb.depth, I tb.frames, I tb.errors, I tb.calls], .slice s6.a s6.n s6.c, I x.prio] (grow (redrawn W0 d) os) fun e w'' => e = .returned (.bool (ownG tb x.prio (-1) x.own)) ∧ ∃ p : Regrown, w'' = grow (redrawn W0 p.d) p.os := regrown_bel9 (fun W hW => ownFits_any tb v W (hT0.below hW) s6 x.own (hs0.below hW (fun _ _ _ _ h => h)) x.prio)
  have cA : ∀ d os, Calls Tryz.prog 195 #[.agg #[I tb.uses, I tb.modes, .slice v.t.a v.t.n v.t.c, .slice v.g.a v.g.n v.g.c, .slice v.r.a v.r.n v.r.c, .slice v.k.a v.k.n v.k.c, .slice v.a.a v.a.n v.a.c, .slice v.i.a v.i.n v.i.c, .slice v.s.a v.s.n v.s.c, I tb.depth, I tb.frames, I tb.errors, I tb.calls], .int .u32 (x.auto : Int)] (grow (redrawn W0 d) os) fun e w'' => e = .returned (.bool (autoB tb x.auto)) ∧ ∃ p : Regrown, w'' = grow (redrawn W0 p.d) p.os := regrown_bel9 (fun W hW => autoFits_any tb v x.auto ha hm W)
  have z3 := cell_regrown (var13 hV0).2.2.2.1
  have xc := cell_of_row _ w.heap.size 0 _ _ (0, 0) hX
  have xr := cell_of_row _ w.heap.size 1 _ _ (0, 0) hX
  have xi := cell_of_row _ w.heap.size 5 _ _ (0, 0) hX
  have xo := cell_of_row _ w.heap.size 6 _ _ (0, 0) hX
  have xa := cell_of_row _ w.heap.size 7 _ _ (0, 0) hX
  simp at xc xr xi xo xa
  have y0 := cell_regrown xc
  have y1 := cell_regrown xr
  have y5 := cell_regrown xi
  have y6 := cell_regrown xo
  have y7 := cell_regrown xa
  have hRX := heap_regrown9 hX
  have hRV := heap_regrown9 hV0
  clear hs0 hX hV0 xc xr xi xo xa ha hm
  cases b1 : idB x.ring v.g.n with
  | false =>
    rw [b1] at cI HX
    refine wp_region_quiet_below (by kernel_rfl) (by kernel_rfl) ?_
    repeat (first | (go_big_quiet_step (first | exact cI _ _)) | (refine wpQuiet_load_row9 (by kernel_rfl) 42 _ rfl w.heap.size rfl 42 _ (0, 0) _ hRX Tryz.underlying42 rfl hi67 ?_; simp only [Act.put, List.getElem_toArray, List.getElem_cons_succ, List.getElem_cons_zero, List.setIfInBounds_toArray, List.set_cons_zero, List.set_cons_succ]) | (refine wpQuiet_load_row9 (by kernel_rfl) 30 _ rfl V rfl 30 _ (0, 0) _ hRV Tryz.underlying30 rfl hi30 ?_; simp only [Act.put, List.getElem_toArray, List.getElem_cons_succ, List.getElem_cons_zero, List.setIfInBounds_toArray, List.set_cons_zero, List.set_cons_succ]))
    refine wpQuiet_nil ?_
    rintro _ ⟨⟨dq, osq⟩, rfl⟩
    dsimp only
    have HB9 : Hid (Below w.heap.size w (grow (redrawn W0 dq) osq)) := HB0.out.trans ((below_regrown W0 dq osq).mono HB0.out.size)
    clear cI cL cW cO cA z3 y0 y1 y5 y6 y7 hRX hRV
    generalize grow (redrawn W0 dq) osq = w9 at *
    go_wp2
    go_ret
    exact ⟨ret_bool' (by rw [HX.out]; simp), HB9.out⟩
  | true =>
    rw [b1] at cI HX
    have hid2 : 0 ≤ x.ring ∧ x.ring < (v.g.n : Int) := by unfold idB at b1; simpa using b1
    obtain ⟨k, hk⟩ := Int.eq_ofNat_of_zero_le hid2.1
    obtain ⟨r, hr⟩ : ∃ r, tb.rings[k]? = some r := ⟨_, List.getElem?_eq_getElem (by rw [← HN.out]; omega)⟩
    obtain ⟨gr, orr, er, hgr, t0, t1⟩ := rgr_at hT0 hr
    have HP : Hid (prioAt tb.rings x.ring = r.prio) := by
      show _ = _
      unfold prioAt
      rw [hk, Int.toNat_natCast, hr]
    have hk1 : (k : Int) < v.g.n := by omega
    have x5 := cell_regrown t0
    rw [HP.out] at HX
    rw [er] at z3 cI
    clear hr er b1 hid2 t0 t1 hT0 HP
    generalize x.ring = xr at *
    subst hk
    cases b2 : (r.prio == x.prio) with
    | false =>
      rw [b2] at HX
      refine wp_region_quiet_below (by kernel_rfl) (by kernel_rfl) ?_
      repeat (first | (go_big_quiet_step (first | exact cI _ _)) | (refine wpQuiet_load_row9 (by kernel_rfl) 42 _ rfl w.heap.size rfl 42 _ (0, 0) _ hRX Tryz.underlying42 rfl hi67 ?_; simp only [Act.put, List.getElem_toArray, List.getElem_cons_succ, List.getElem_cons_zero, List.setIfInBounds_toArray, List.set_cons_zero, List.set_cons_succ]) | (refine wpQuiet_load_row9 (by kernel_rfl) 30 _ rfl V rfl 30 _ (0, 0) _ hRV Tryz.underlying30 rfl hi30 ?_; simp only [Act.put, List.getElem_toArray, List.getElem_cons_succ, List.getElem_cons_zero, List.setIfInBounds_toArray, List.set_cons_zero, List.set_cons_succ]))
      refine wpQuiet_nil ?_
      rintro _ ⟨⟨dq, osq⟩, rfl⟩
      dsimp only
      have HB9 : Hid (Below w.heap.size w (grow (redrawn W0 dq) osq)) := HB0.out.trans ((below_regrown W0 dq osq).mono HB0.out.size)
      clear cI cL cW cO cA z3 y0 y1 y5 y6 y7 hRX hRV x5
      generalize grow (redrawn W0 dq) osq = w9 at *
      go_wp2
      go_ret
      exact ⟨ret_bool' (by rw [HX.out]; simp), HB9.out⟩
    | true =>
      rw [b2] at HX
      cases b3 : limitB x with
      | false =>
        rw [b3] at cL HX
        refine wp_region_quiet_below (by kernel_rfl) (by kernel_rfl) ?_
        repeat (first | (go_big_quiet_step (first | exact cI _ _ | exact cL _ _)) | (refine wpQuiet_load_row9 (by kernel_rfl) 42 _ rfl w.heap.size rfl 42 _ (0, 0) _ hRX Tryz.underlying42 rfl hi67 ?_; simp only [Act.put, List.getElem_toArray, List.getElem_cons_succ, List.getElem_cons_zero, List.setIfInBounds_toArray, List.set_cons_zero, List.set_cons_succ]) | (refine wpQuiet_load_row9 (by kernel_rfl) 30 _ rfl V rfl 30 _ (0, 0) _ hRV Tryz.underlying30 rfl hi30 ?_; simp only [Act.put, List.getElem_toArray, List.getElem_cons_succ, List.getElem_cons_zero, List.setIfInBounds_toArray, List.set_cons_zero, List.set_cons_succ]))
        refine wpQuiet_nil ?_
        rintro _ ⟨⟨dq, osq⟩, rfl⟩
        dsimp only
        have HB9 : Hid (Below w.heap.size w (grow (redrawn W0 dq) osq)) := HB0.out.trans ((below_regrown W0 dq osq).mono HB0.out.size)
        clear cI cL cW cO cA z3 y0 y1 y5 y6 y7 hRX hRV x5
        generalize grow (redrawn W0 dq) osq = w9 at *
        go_wp2
        go_ret
        exact ⟨ret_bool' (by rw [HX.out]; simp), HB9.out⟩
      | true =>
        rw [b3] at cL HX
        cases b4 : (x.inner == -1) with
        | true =>
          rw [b4] at HX
          cases b5 : ownG tb x.prio (-1) x.own with
          | false =>
            rw [b5] at cO HX
            refine wp_region_quiet_below (by kernel_rfl) (by kernel_rfl) ?_
            repeat (first | (go_big_quiet_step (first | exact cI _ _ | exact cL _ _ | exact cO _ _)) | (refine wpQuiet_load_row9 (by kernel_rfl) 42 _ rfl w.heap.size rfl 42 _ (0, 0) _ hRX Tryz.underlying42 rfl hi67 ?_; simp only [Act.put, List.getElem_toArray, List.getElem_cons_succ, List.getElem_cons_zero, List.setIfInBounds_toArray, List.set_cons_zero, List.set_cons_succ]) | (refine wpQuiet_load_row9 (by kernel_rfl) 30 _ rfl V rfl 30 _ (0, 0) _ hRV Tryz.underlying30 rfl hi30 ?_; simp only [Act.put, List.getElem_toArray, List.getElem_cons_succ, List.getElem_cons_zero, List.setIfInBounds_toArray, List.set_cons_zero, List.set_cons_succ]))
            refine wpQuiet_nil ?_
            rintro _ ⟨⟨dq, osq⟩, rfl⟩
            dsimp only
            have HB9 : Hid (Below w.heap.size w (grow (redrawn W0 dq) osq)) := HB0.out.trans ((below_regrown W0 dq osq).mono HB0.out.size)
            clear cI cL cW cO cA z3 y0 y1 y5 y6 y7 hRX hRV x5
            generalize grow (redrawn W0 dq) osq = w9 at *
            go_wp2
            go_ret
            exact ⟨ret_bool' (by rw [HX.out]; simp), HB9.out⟩
          | true =>
            rw [b5] at cO HX
            generalize autoB tb x.auto = bb at *
            refine wp_region_quiet_below (by kernel_rfl) (by kernel_rfl) ?_
            repeat (first | (go_big_quiet_step (first | exact cI _ _ | exact cL _ _ | exact cO _ _ | exact cA _ _)) | (refine wpQuiet_load_row9 (by kernel_rfl) 42 _ rfl w.heap.size rfl 42 _ (0, 0) _ hRX Tryz.underlying42 rfl hi67 ?_; simp only [Act.put, List.getElem_toArray, List.getElem_cons_succ, List.getElem_cons_zero, List.setIfInBounds_toArray, List.set_cons_zero, List.set_cons_succ]) | (refine wpQuiet_load_row9 (by kernel_rfl) 30 _ rfl V rfl 30 _ (0, 0) _ hRV Tryz.underlying30 rfl hi30 ?_; simp only [Act.put, List.getElem_toArray, List.getElem_cons_succ, List.getElem_cons_zero, List.setIfInBounds_toArray, List.set_cons_zero, List.set_cons_succ]))
            refine wpQuiet_nil ?_
            rintro _ ⟨⟨dq, osq⟩, rfl⟩
            dsimp only
            have HB9 : Hid (Below w.heap.size w (grow (redrawn W0 dq) osq)) := HB0.out.trans ((below_regrown W0 dq osq).mono HB0.out.size)
            clear cI cL cW cO cA z3 y0 y1 y5 y6 y7 hRX hRV x5
            generalize grow (redrawn W0 dq) osq = w9 at *
            go_wp2
            go_ret
            exact ⟨ret_bool' (by rw [HX.out]; simp), HB9.out⟩
        | false =>
          rw [b4] at HX
          cases b6 : inI x.inner x.prio 127 with
          | false =>
            rw [b6] at cW HX
            refine wp_region_quiet_below (by kernel_rfl) (by kernel_rfl) ?_
            repeat (first | (go_big_quiet_step (first | exact cI _ _ | exact cL _ _ | exact cW _ _)) | (refine wpQuiet_load_row9 (by kernel_rfl) 42 _ rfl w.heap.size rfl 42 _ (0, 0) _ hRX Tryz.underlying42 rfl hi67 ?_; simp only [Act.put, List.getElem_toArray, List.getElem_cons_succ, List.getElem_cons_zero, List.setIfInBounds_toArray, List.set_cons_zero, List.set_cons_succ]) | (refine wpQuiet_load_row9 (by kernel_rfl) 30 _ rfl V rfl 30 _ (0, 0) _ hRV Tryz.underlying30 rfl hi30 ?_; simp only [Act.put, List.getElem_toArray, List.getElem_cons_succ, List.getElem_cons_zero, List.setIfInBounds_toArray, List.set_cons_zero, List.set_cons_succ]))
            refine wpQuiet_nil ?_
            rintro _ ⟨⟨dq, osq⟩, rfl⟩
            dsimp only
            have HB9 : Hid (Below w.heap.size w (grow (redrawn W0 dq) osq)) := HB0.out.trans ((below_regrown W0 dq osq).mono HB0.out.size)
            clear cI cL cW cO cA z3 y0 y1 y5 y6 y7 hRX hRV x5
            generalize grow (redrawn W0 dq) osq = w9 at *
            go_wp2
            go_ret
            exact ⟨ret_bool' (by rw [HX.out]; simp), HB9.out⟩
          | true =>
            rw [b6] at cW HX
            cases b5 : ownG tb x.prio (-1) x.own with
            | false =>
              rw [b5] at cO HX
              refine wp_region_quiet_below (by kernel_rfl) (by kernel_rfl) ?_
              repeat (first | (go_big_quiet_step (first | exact cI _ _ | exact cL _ _ | exact cW _ _ | exact cO _ _)) | (refine wpQuiet_load_row9 (by kernel_rfl) 42 _ rfl w.heap.size rfl 42 _ (0, 0) _ hRX Tryz.underlying42 rfl hi67 ?_; simp only [Act.put, List.getElem_toArray, List.getElem_cons_succ, List.getElem_cons_zero, List.setIfInBounds_toArray, List.set_cons_zero, List.set_cons_succ]) | (refine wpQuiet_load_row9 (by kernel_rfl) 30 _ rfl V rfl 30 _ (0, 0) _ hRV Tryz.underlying30 rfl hi30 ?_; simp only [Act.put, List.getElem_toArray, List.getElem_cons_succ, List.getElem_cons_zero, List.setIfInBounds_toArray, List.set_cons_zero, List.set_cons_succ]))
              refine wpQuiet_nil ?_
              rintro _ ⟨⟨dq, osq⟩, rfl⟩
              dsimp only
              have HB9 : Hid (Below w.heap.size w (grow (redrawn W0 dq) osq)) := HB0.out.trans ((below_regrown W0 dq osq).mono HB0.out.size)
              clear cI cL cW cO cA z3 y0 y1 y5 y6 y7 hRX hRV x5
              generalize grow (redrawn W0 dq) osq = w9 at *
              go_wp2
              go_ret
              exact ⟨ret_bool' (by rw [HX.out]; simp), HB9.out⟩
            | true =>
              rw [b5] at cO HX
              generalize autoB tb x.auto = bb at *
              refine wp_region_quiet_below (by kernel_rfl) (by kernel_rfl) ?_
              repeat (first | (go_big_quiet_step (first | exact cI _ _ | exact cL _ _ | exact cW _ _ | exact cO _ _ | exact cA _ _)) | (refine wpQuiet_load_row9 (by kernel_rfl) 42 _ rfl w.heap.size rfl 42 _ (0, 0) _ hRX Tryz.underlying42 rfl hi67 ?_; simp only [Act.put, List.getElem_toArray, List.getElem_cons_succ, List.getElem_cons_zero, List.setIfInBounds_toArray, List.set_cons_zero, List.set_cons_succ]) | (refine wpQuiet_load_row9 (by kernel_rfl) 30 _ rfl V rfl 30 _ (0, 0) _ hRV Tryz.underlying30 rfl hi30 ?_; simp only [Act.put, List.getElem_toArray, List.getElem_cons_succ, List.getElem_cons_zero, List.setIfInBounds_toArray, List.set_cons_zero, List.set_cons_succ]))
              refine wpQuiet_nil ?_
              rintro _ ⟨⟨dq, osq⟩, rfl⟩
              dsimp only
              have HB9 : Hid (Below w.heap.size w (grow (redrawn W0 dq) osq)) := HB0.out.trans ((below_regrown W0 dq osq).mono HB0.out.size)
              clear cI cL cW cO cA z3 y0 y1 y5 y6 y7 hRX hRV x5
              generalize grow (redrawn W0 dq) osq = w9 at *
              go_wp2
              go_ret
              exact ⟨ret_bool' (by rw [HX.out]; simp), HB9.out⟩
set_option maxRecDepth 100000 in
theorem tasksFit_any (tb : Tb) (v : Ts) (w : World) (h : TbAt w tb v) (hw : WfT tb) (hm : 1 ≤ tb.modes ∧ tb.modes ≤ 8) : Calls Tryz.prog 96 #[.agg (tbC tb v)] w fun e w' => e = .returned (.bool (tb.tasks.all (tkB tb))) ∧ Below w.heap.size w w' := by
  have hb := below_alloc w (.cells (tbC tb v) 30)
  have hV := heap_alloc_new w (.cells (tbC tb v) 30)
  have ke := every_tkr (w.alloc (.cells (tbC tb v) 30)) v.t tb.tasks (fun W hW => (h.below (hb.trans (hW.mono hb.size))).t) 191 #[.pointer (some ⟨w.heap.size, 0, none⟩)] (enters_of Tryz.func191 (by kernel_rfl) rfl) (tkB tb) (fun W hW x hx s6 hs => tasksFit1_any tb v x s6 w.heap.size W (h.below (hb.trans (hW.mono hb.size))) hs ((hW.block w.heap.size (heap_lt hV)).trans hV) (hw.t x hx).2 hm)
  have c2 := (var13 hV).2.2.1
  unfold tbC at *
  clear h hV hw hm
  generalize hR : tb.tasks.all (tkB tb) = R at *
  go_enter Tryz.func96, Tryz.ntmps96
  go_wp2_with (go_at_call 190; refine ke.mono ?_; clear ke; rintro e w' ⟨rfl, hb2⟩)
  go_ret
  exact ⟨rfl, hb.trans (hb2.mono hb.size)⟩
end Go.Proofs.YtglnfifdjlgbcaaGreatDoor

