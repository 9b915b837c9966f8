import Derived.Test.YticgikbnlpgnkaaYb
namespace Go.Proofs.Yticgikbnlpgnkaa
open Go.RowKit
set_option linter.unusedVariables false
set_option linter.unusedSimpArgs false

/-! ### Queues: Tail, Head, Take -/
theorem intsV_len (l : List Int) : (intsV l).length = l.length := by simp [intsV]
theorem intsV_snoc (l : List Int) (x : Int) : intsV l ++ [I x] = intsV (l ++ [x]) := by simp [intsV]
theorem intsV_cons (l : List Int) (x : Int) : I x :: intsV l = intsV (x :: l) := by simp [intsV]
theorem shl_two {p : Nat} (hp : p < 64) : IntKind.u64.wrap ((2 : Int) ^ p) = ((2 ^ p : Nat) : Int) := by
  have := shl_one hp
  rwa [Int.toNat_natCast, Int.one_mul] at this
theorem qinfo : (Try.prog.info? 35).map (fun i => (i.zero, i.size, i.bytes)) = some (some (.agg #[.int .i64 0, .int .i64 0]), 2, 16) := by kernel_rfl
abbrev qV (p x : Int) : Value := .agg #[I p, I x]
section
variable {w w0 : World} {Q F : Nat} {f : RS}
theorem qTail_no (h : Qm w Q F f) {p : Int} (hx : ringAt f p = none) (v : Int) : Calls Try.prog 10 #[qP Q, I p, I v] w fun e w' => e = .returned (I 130) ∧ w = w' := by
  have hM := mayPutQ_no h hx
  go_enter Try.func10, Try.ntmps10
  go_wp2_with (first | (go_at_call 31; refine hM.mono ?_; rintro e w1 ⟨rfl, rfl⟩))
  go_ret
  exact ⟨rfl, rfl⟩
theorem qTail_none {u : Value} (hN : Calls Try.prog 33 #[u] w fun e w' => e = .returned (.bool true) ∧ w = w') (p v : Int) : Calls Try.prog 10 #[u, I p, I v] w fun e w' => e = .returned (I 1) ∧ w = w' := by
  have hM := mayPutQ_none hN p
  go_enter Try.func10, Try.ntmps10
  go_wp2_with (first | (go_at_call 31; refine hM.mono ?_; rintro e w1 ⟨rfl, rfl⟩))
  go_ret
  exact ⟨rfl, rfl⟩
theorem qTail_full (h : Qm w Q F f) {p : Int} {x : Ri} (hx : ringAt f p = some x) (hl : x.l.length = x.c) (v : Int) : Calls Try.prog 10 #[qP Q, I p, I v] w fun e w' => e = .returned (I 131) ∧ Below w.heap.size w w' := by
  have hM := mayPutQ_full h hx (h.r _ x (ringAt_some hx)).2.2 hl
  clear hl hx h
  go_enter Try.func10, Try.ntmps10
  go_wp2_with (first | (go_at_call 31; refine hM.mono ?_; rintro e w1 ⟨rfl, b1⟩))
  go_ret
  exact ⟨rfl, b1⟩
set_option maxHeartbeats 4000000 in
theorem qTail_ok (h : Qu w Q F f) {p : Nat} {x : Ri} (hx : f p = some x) (hl : x.l.length < x.c) (v : Int) : Calls Try.prog 10 #[qP Q, I p, I v] w fun e w' => e = .returned (I 0) ∧ Qu w' Q (F ||| 2 ^ p) (upd f p ⟨x.B, x.g, x.c, max x.h (x.l.length + 1), x.l ++ [v]⟩) ∧ Fz (Qb Q f) w w' := by
  obtain ⟨hp, hc1, hq⟩ := h.m.r p x hx
  have hxr : ringAt f (p : Int) = some x := (ringAt_nat f hp).trans hx
  have hM := (mayPutQ_ok h.m hxr hq hl).mono (R' := fun e w' => e = .returned (I 0) ∧ w'.cell? ⟨Q, 2 + p, none⟩ = some (iP x.B) ∧ Hid (Qu w' Q F f ∧ Fz (Qb Q f) w w')) (fun e w' ⟨k, b⟩ => by
    have h1 := h.below b
    refine ⟨k, ?_, h1, Fz.of_below b⟩
    have := h1.m.cp hp
    rw [hx] at this
    exact this)
  have h1 : (p : Int) < 64 := by omega
  have h2 : ¬ (p : Int) < 0 := by omega
  have hx2 : Hid (f p = some x) := hx
  have hF : Hid (Bt F f ∧ p < 64) := ⟨h.b, hp⟩
  have HL : Hid (x.l.length < x.c) := hl
  clear hxr hq hl hx hp hc1 h
  go_enter Try.func10, Try.ntmps10
  go_wp2_with (first
    | (go_at_call 31; refine hM.mono ?_; rintro e w1 ⟨rfl, hc, HQ⟩; clear hM)
    | (go_at_call 32; refine ((iLastQ (HQ.out.1.m.r p x hx2.out).2.2 (by rw [intsV_len]; exact HL.out) v).mono (R' := fun e w' => e = .returned (I 0) ∧ w'.cell? ⟨Q, 1, none⟩ = some (.int .u64 F) ∧ w'.frozen? ⟨Q, 1, none⟩ = false ∧ Hid (Qm w' Q F (upd f p ⟨x.B, x.g, x.c, max x.h (x.l.length + 1), x.l ++ [v]⟩) ∧ Fz (Qb Q f) w1 w')) (fun e w' ⟨k, q, fx⟩ => by
        rw [intsV_snoc, intsV_len] at q
        obtain ⟨r1, r2⟩ := HQ.out.1.m.ring hx2.out fx q
        exact ⟨k, r1.c1, r1.frz 1, r1, r2⟩)).mono ?_; rintro e w2 ⟨rfl, hc1, hz1, HR⟩; clear hc))
  go_region
  all_goals
    go_wp2
    go_ret
    obtain ⟨r1, r2⟩ := HR.out
    obtain ⟨q1, q2⟩ := HQ.out
    obtain ⟨s1, s2⟩ := r1.fill (F ||| 2 ^ p)
    have e2 := or_one hF.out.1.1 hF.out.2
    rw [shl_two hF.out.2, e2]
    refine ⟨rfl, Qu.drewN (n := 1) ⟨s1, hF.out.1.put hx2.out hF.out.2 _ (by simp)⟩, ((q2.trans r2).trans (s2.mono (fun b e => (Qb.upd hx2.out _ _ b).1 e))).drewN 1⟩
theorem qHead_no (h : Qm w Q F f) {p : Int} (hx : ringAt f p = none) (v : Int) : Calls Try.prog 13 #[qP Q, I p, I v] w fun e w' => e = .returned (I 130) ∧ w = w' := by
  have hM := mayPutQ_no h hx
  go_enter Try.func13, Try.ntmps13
  go_wp2_with (first | (go_at_call 31; refine hM.mono ?_; rintro e w1 ⟨rfl, rfl⟩))
  go_ret
  exact ⟨rfl, rfl⟩
theorem qHead_none {u : Value} (hN : Calls Try.prog 33 #[u] w fun e w' => e = .returned (.bool true) ∧ w = w') (p v : Int) : Calls Try.prog 13 #[u, I p, I v] w fun e w' => e = .returned (I 1) ∧ w = w' := by
  have hM := mayPutQ_none hN p
  go_enter Try.func13, Try.ntmps13
  go_wp2_with (first | (go_at_call 31; refine hM.mono ?_; rintro e w1 ⟨rfl, rfl⟩))
  go_ret
  exact ⟨rfl, rfl⟩
theorem qHead_full (h : Qm w Q F f) {p : Int} {x : Ri} (hx : ringAt f p = some x) (hl : x.l.length = x.c) (v : Int) : Calls Try.prog 13 #[qP Q, I p, I v] w fun e w' => e = .returned (I 131) ∧ Below w.heap.size w w' := by
  have hM := mayPutQ_full h hx (h.r _ x (ringAt_some hx)).2.2 hl
  clear hl hx h
  go_enter Try.func13, Try.ntmps13
  go_wp2_with (first | (go_at_call 31; refine hM.mono ?_; rintro e w1 ⟨rfl, b1⟩))
  go_ret
  exact ⟨rfl, b1⟩
set_option maxHeartbeats 4000000 in
theorem qHead_ok (h : Qu w Q F f) {p : Nat} {x : Ri} (hx : f p = some x) (hl : x.l.length < x.c) (v : Int) : Calls Try.prog 13 #[qP Q, I p, I v] w fun e w' => e = .returned (I 0) ∧ Qu w' Q (F ||| 2 ^ p) (upd f p ⟨x.B, x.g, x.c, max x.h (x.l.length + 1), v :: x.l⟩) ∧ Fz (Qb Q f) w w' := by
  obtain ⟨hp, hc1, hq⟩ := h.m.r p x hx
  have hxr : ringAt f (p : Int) = some x := (ringAt_nat f hp).trans hx
  have hM := (mayPutQ_ok h.m hxr hq hl).mono (R' := fun e w' => e = .returned (I 0) ∧ w'.cell? ⟨Q, 2 + p, none⟩ = some (iP x.B) ∧ Hid (Qu w' Q F f ∧ Fz (Qb Q f) w w')) (fun e w' ⟨k, b⟩ => by
    have h1 := h.below b
    refine ⟨k, ?_, h1, Fz.of_below b⟩
    have := h1.m.cp hp
    rw [hx] at this
    exact this)
  have h1 : (p : Int) < 64 := by omega
  have h2 : ¬ (p : Int) < 0 := by omega
  have hx2 : Hid (f p = some x) := hx
  have hF : Hid (Bt F f ∧ p < 64) := ⟨h.b, hp⟩
  have HL : Hid (x.l.length < x.c) := hl
  clear hxr hq hl hx hp hc1 h
  go_enter Try.func13, Try.ntmps13
  go_wp2_with (first
    | (go_at_call 31; refine hM.mono ?_; rintro e w1 ⟨rfl, hc, HQ⟩; clear hM)
    | (go_at_call 36; refine ((iFirstQ (HQ.out.1.m.r p x hx2.out).2.2 (by rw [intsV_len]; exact HL.out) v).mono (R' := fun e w' => e = .returned (I 0) ∧ w'.cell? ⟨Q, 1, none⟩ = some (.int .u64 F) ∧ w'.frozen? ⟨Q, 1, none⟩ = false ∧ Hid (Qm w' Q F (upd f p ⟨x.B, x.g, x.c, max x.h (x.l.length + 1), v :: x.l⟩) ∧ Fz (Qb Q f) w1 w')) (fun e w' ⟨k, q, fx⟩ => by
        rw [intsV_cons, intsV_len] at q
        obtain ⟨r1, r2⟩ := HQ.out.1.m.ring hx2.out fx q
        exact ⟨k, r1.c1, r1.frz 1, r1, r2⟩)).mono ?_; rintro e w2 ⟨rfl, hc1, hz1, HR⟩; clear hc))
  go_region
  all_goals
    go_wp2
    go_ret
    obtain ⟨r1, r2⟩ := HR.out
    obtain ⟨q1, q2⟩ := HQ.out
    obtain ⟨s1, s2⟩ := r1.fill (F ||| 2 ^ p)
    have e2 := or_one hF.out.1.1 hF.out.2
    rw [shl_two hF.out.2, e2]
    refine ⟨rfl, Qu.drewN (n := 1) ⟨s1, hF.out.1.put hx2.out hF.out.2 _ (by simp)⟩, ((q2.trans r2).trans (s2.mono (fun b e => (Qb.upd hx2.out _ _ b).1 e))).drewN 1⟩
theorem qTake_none {u : Value} (hN : ∀ w, Below w0.heap.size w0 w → Calls Try.prog 33 #[u] w fun e w' => e = .returned (.bool true) ∧ w = w') : Calls Try.prog 12 #[u] w0 fun e w' => e = .returned (.tuple #[qV 0 0, I 1]) ∧ Below w0.heap.size w0 w' := by
  have b1 := below_alloc w0 (.cells #[.int .i64 0, .int .i64 0] 35)
  have hN1 := hN _ b1
  clear hN
  go_enter Try.func12, Try.ntmps12
  go_wp2_with (first | (go_at_call 33; refine hN1.mono ?_; rintro e w1 ⟨rfl, rfl⟩))
  refine bodyPost_ret (v := .tuple #[qV 0 0, I 1]) (by simp [results, Try.results12, go_sem]) rfl ⟨rfl, b1⟩
theorem qTake_no (h : Qu w Q F f) (h0 : F = 0) : Calls Try.prog 12 #[qP Q] w fun e w' => e = .returned (.tuple #[qV 0 0, I 132]) ∧ Below w.heap.size w w' := by
  have b1 := below_alloc w (.cells #[.int .i64 0, .int .i64 0] 35)
  have hN := qnone_any (h.below b1).m
  have hH := qHighest_no (h.below b1) h0
  clear h h0
  go_enter Try.func12, Try.ntmps12
  go_wp2_with (first | (go_at_call 33; refine hN.mono ?_; rintro e w1 ⟨rfl, rfl⟩) | (go_at_call 30; refine hH.mono ?_; rintro e w1 ⟨rfl, rfl⟩))
  refine bodyPost_ret (v := .tuple #[qV 0 0, I 132]) (by simp [results, Try.results12, go_sem]) rfl ⟨rfl, b1⟩
theorem qTake_ring (hq : Qm w Q F f) {p : Nat} {x : Ri} {v : Int} {t : List Int} (hx : f p = some x) (hl : x.l = v :: t) {R0 : Nat} (hR : w.heap[R0]? = some (.cells #[.int .i64 0, .int .i64 0] 35)) : Calls Try.prog 34 #[iP x.B] w fun e w' => e = .returned (.tuple #[I v, I 0]) ∧ iQ w' x.B x.g x.c x.h (intsV t) ∧ w'.cell? ⟨Q, 1, none⟩ = some (.int .u64 F) ∧ w'.frozen? ⟨Q, 1, none⟩ = false ∧ w'.heap[R0]? = some (.cells #[.int .i64 0, .int .i64 0] 35) ∧ Hid (Qm w' Q F (upd f p ⟨x.B, x.g, x.c, x.h, t⟩) ∧ Fz (Qb Q f) w w') := by
  have hi := (hq.r p x hx).2.2
  rw [hl, ← intsV_cons] at hi
  refine (iTakeQ v hi).mono ?_
  rintro e w' ⟨rfl, q, fx⟩
  obtain ⟨r1, r2⟩ := hq.ring hx fx q
  obtain ⟨c1, h1⟩ := hi.ty
  obtain ⟨c2, h2⟩ := hi.tyg
  refine ⟨rfl, q, r1.c1, r1.frz 1, fx.heap hR ?_, r1, r2⟩
  simp only [List.mem_cons, List.not_mem_nil, or_false, not_or]
  refine ⟨fun e => ?_, fun e => ?_⟩
  · rw [e, h1] at hR; simp only [Option.some.injEq, Obj.cells.injEq] at hR; exact absurd hR.2.1 (by decide)
  · rw [e, h2] at hR; simp only [Option.some.injEq, Obj.cells.injEq] at hR; exact absurd hR.2.1 (by decide)
/-- The result's variable is written. -/
theorem qTake_end {W0 W : World} {R0 : Nat} (hR : W.heap[R0]? = some (.cells #[.int .i64 0, .int .i64 0] 35)) (hq : Qu W Q F f) (p v : Int) : (∀ hs : W0.heap.size ≤ R0, Fz (Qb Q f) W0 W → Fz (Qb Q f) W0 ((W.setCell ⟨R0, 0, none⟩ (I p)).setCell ⟨R0, 1, none⟩ (I v))) ∧ Qu ((W.setCell ⟨R0, 0, none⟩ (I p)).setCell ⟨R0, 1, none⟩ (I v)) Q F f ∧ ((W.setCell ⟨R0, 0, none⟩ (I p)).setCell ⟨R0, 1, none⟩ (I v)).cell? ⟨R0, 0, none⟩ = some (I p) ∧ ((W.setCell ⟨R0, 0, none⟩ (I p)).setCell ⟨R0, 1, none⟩ (I v)).cell? ⟨R0, 1, none⟩ = some (I v) := by
  have hF : Fz (fun b => b = R0) W ((W.setCell ⟨R0, 0, none⟩ (I p)).setCell ⟨R0, 1, none⟩ (I v)) := ((Fz.refl (fun b => b = R0) W).set (b := R0) (.inl rfl) 0 _).set (b := R0) (.inl rfl) 1 _
  have h3 := heap_setCell_same _ R0 1 _ _ (I v) (heap_setCell_same W R0 0 _ _ (I p) hR)
  refine ⟨fun hs hf => hf.step hF (fun x e => .inr (by omega)), hq.kept hF ?_, ?_, ?_⟩
  · rintro b hb rfl
    rcases hb with e | ⟨q, x, hx, e⟩
    · obtain ⟨cs, ho, _⟩ := hq.m.o
      rw [← e, hR] at ho; simp only [Option.some.injEq, Obj.cells.injEq] at ho; exact absurd ho.2.1 (by decide)
    · have hi := (hq.m.r q x hx).2.2
      rcases e with e | e
      · obtain ⟨c1, h1⟩ := hi.ty
        rw [← e, hR] at h1; simp only [Option.some.injEq, Obj.cells.injEq] at h1; exact absurd h1.2.1 (by decide)
      · obtain ⟨c1, h1⟩ := hi.tyg
        rw [← e, hR] at h1; simp only [Option.some.injEq, Obj.cells.injEq] at h1; exact absurd h1.2.1 (by decide)
  · rw [cell_of_row _ R0 _ _ _ (0, 0) h3]; rfl
  · rw [cell_of_row _ R0 _ _ _ (0, 0) h3]; rfl
set_option maxHeartbeats 4000000 in
theorem qTake_ok (h : Qu w Q F f) {p : Nat} {x : Ri} {v : Int} {t : List Int} (hp : Lib.bitLen F = p + 1) (h0 : F ≠ 0) (hx : f p = some x) (hl : x.l = v :: t) : Calls Try.prog 12 #[qP Q] w fun e w' => e = .returned (.tuple #[qV p v, I 0]) ∧ (∃ F', Qu w' Q F' (upd f p ⟨x.B, x.g, x.c, x.h, t⟩)) ∧ Fz (Qb Q f) w w' := by
  have b1 := below_alloc w (.cells #[.int .i64 0, .int .i64 0] 35)
  have hR := heap_alloc_new w (.cells #[.int .i64 0, .int .i64 0] 35)
  have hq := h.below b1
  have F1 : Fz (Qb Q f) w (w.alloc (.cells #[.int .i64 0, .int .i64 0] 35)) := Fz.of_below b1
  have hN := qnone_any hq.m
  have hH := qHighest_ok hq hp h0
  have hp64 := (h.m.r p x hx).1
  have hc := hq.m.cp hp64
  rw [hx] at hc
  change (w.alloc (.cells #[.int .i64 0, .int .i64 0] 35)).cell? ⟨Q, 2 + p, none⟩ = some (iP x.B) at hc
  have hT := qTake_ring hq.m hx hl hR
  have h1 : (p : Int) < 64 := by omega
  have h2 : ¬ (p : Int) < 0 := by omega
  have HB : Hid (Bt F f ∧ p < 64 ∧ f p = some x ∧ x.l = v :: t) := ⟨h.b, hp64, hx, hl⟩
  clear hp h0 hx hl hR hq h b1 hp64
  by_cases ht : t = []
  · subst ht
    go_enter Try.func12, Try.ntmps12
    go_wp2_with (first
      | (go_at_call 33; refine hN.mono ?_; rintro e w1 ⟨rfl, rfl⟩)
      | (go_at_call 30; refine hH.mono ?_; rintro e w1 ⟨rfl, rfl⟩; clear hN hH)
      | (go_at_call 34; refine hT.mono ?_; rintro e w2 ⟨rfl, q2, c2, z2, hR2, HR⟩; clear hT hc)
      | (go_at_call 35; refine (iLenQ q2).mono ?_; rintro e w3 ⟨rfl, rfl⟩))
    go_region
    all_goals
      obtain ⟨r1, r2⟩ := HR.out
      obtain ⟨hb, hp64, hx, hl⟩ := HB.out
      obtain ⟨s1, s2⟩ := r1.fill (clrN F p)
      rw [shl_two hp64, clr_one]
      have hR3 : ((w2.setCell ⟨Q, 1, none⟩ (.int .u64 (clrN F p))).drew).heap[w.heap.size]? = some (.cells #[.int .i64 0, .int .i64 0] 35) := (heap_setCell_other w2 ⟨Q, 1, none⟩ w.heap.size _ (fun e => by
        obtain ⟨cs, ho, _⟩ := r1.o
        have e2 : w.heap.size = Q := e
        rw [← e2, hR2] at ho; simp only [Option.some.injEq, Obj.cells.injEq] at ho; exact absurd ho.2.1 (by decide))).trans hR2
      have q3 : Qu (w2.setCell ⟨Q, 1, none⟩ (.int .u64 (clrN F p))).drew Q (clrN F p) (upd f p ⟨x.B, x.g, x.c, x.h, []⟩) := Qu.drewN (n := 1) ⟨s1, hb.clr hx hp64 _⟩
      have F3 : Fz (Qb Q f) w (w2.setCell ⟨Q, 1, none⟩ (.int .u64 (clrN F p))).drew := ((F1.trans r2).trans (s2.mono (fun b e => (Qb.upd hx _ _ b).1 e))).drewN 1
      clear r1 r2 hb hp64 hx s1 s2 q2 c2 z2 hR2 HR F1
      generalize (w2.setCell ⟨Q, 1, none⟩ (.int .u64 (clrN F p))).drew = W3 at *
      have z0 : W3.frozen? ⟨w.heap.size, 0, none⟩ = false := frozen_of_row _ _ 0 _ _ hR3
      have z1 : W3.frozen? ⟨w.heap.size, 1, none⟩ = false := frozen_of_row _ _ 1 _ _ hR3
      have y0 : W3.cell? ⟨w.heap.size, 0, none⟩ = some (.int .i64 0) := by rw [cell_of_row _ _ _ _ _ (0, 0) hR3]; rfl
      have y1 : W3.cell? ⟨w.heap.size, 1, none⟩ = some (.int .i64 0) := by rw [cell_of_row _ _ _ _ _ (0, 0) hR3]; rfl
      obtain ⟨e3, e4, e5, e6⟩ := qTake_end (W0 := w) hR3 q3 p v
      clear hR3 q3
      go_wp2
      refine bodyPost_ret (v := .tuple #[qV p v, I 0]) (by simp [results, Try.results12, go_sem, e5, e6]) rfl ⟨rfl, ⟨_, e4⟩, ?_⟩
      exact (e3 (Nat.le_refl _) (F3.mono (fun b e => (Qb.upd HB.out.2.2.1 _ _ b).2 e))).mono (fun b e => (Qb.upd HB.out.2.2.1 _ _ b).1 e)
  · have h3 : ¬ ((intsV t).length : Int) = 0 := by rw [intsV_len]; have := List.length_pos_iff.2 ht; omega
    have HT : Hid (t ≠ []) := ht
    clear ht
    go_enter Try.func12, Try.ntmps12
    go_wp2_with (first
      | (go_at_call 33; refine hN.mono ?_; rintro e w1 ⟨rfl, rfl⟩)
      | (go_at_call 30; refine hH.mono ?_; rintro e w1 ⟨rfl, rfl⟩; clear hN hH)
      | (go_at_call 34; refine hT.mono ?_; rintro e w2 ⟨rfl, q2, c2, z2, hR2, HR⟩; clear hT hc; have z0 : w2.frozen? ⟨w.heap.size, 0, none⟩ = false := frozen_of_row _ _ 0 _ _ hR2; have z1 : w2.frozen? ⟨w.heap.size, 1, none⟩ = false := frozen_of_row _ _ 1 _ _ hR2; have y0 : w2.cell? ⟨w.heap.size, 0, none⟩ = some (.int .i64 0) := (by rw [cell_of_row _ _ _ _ _ (0, 0) hR2]; rfl); have y1 : w2.cell? ⟨w.heap.size, 1, none⟩ = some (.int .i64 0) := (by rw [cell_of_row _ _ _ _ _ (0, 0) hR2]; rfl))
      | (go_at_call 35; refine (iLenQ q2).mono ?_; rintro e w3 ⟨rfl, rfl⟩))
    obtain ⟨r1, r2⟩ := HR.out
    obtain ⟨hb, hp64, hx, hl⟩ := HB.out
    have q3 : Qu w2 Q F (upd f p ⟨x.B, x.g, x.c, x.h, t⟩) := ⟨r1, hb.same hx _ (by rw [hl]; simp [HT.out])⟩
    obtain ⟨e3, e4, e5, e6⟩ := qTake_end (W0 := w) hR2 q3 p v
    refine bodyPost_ret (v := .tuple #[qV p v, I 0]) (by simp [results, Try.results12, go_sem, e5, e6]) rfl ⟨rfl, ⟨_, e4⟩, ?_⟩
    exact (e3 (Nat.le_refl _) ((F1.trans r2).mono (fun b e => (Qb.upd hx _ _ b).2 e))).mono (fun b e => (Qb.upd hx _ _ b).1 e)
end
end Go.Proofs.Yticgikbnlpgnkaa
