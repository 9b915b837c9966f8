import Derived.Test.YtapfbinaocaclaaEew
namespace Go.Proofs.Ytapfbinaocaclaa
open Go.RowKit Go.Maps
set_option linter.unusedVariables false
set_option linter.unusedSimpArgs false

/-! ### What must come, whatever else is so -/
theorem OwnC.at {w w' : World} {x : Ce} {s0 s2 s3 s4 : Sl} (h : OwnC w w' x s0 s2 s3 s4) : CeAt w' x s0 s2 s3 s4 := by
  have e : ∀ {s : Sl} {l : List Int}, w'.ownsRow w.heap.size 3 1 (.slice s.a s.n s.c) l.length (l.map fun x => I x) → RowsAt w' 1 intP s l := fun {s l} h => by
    obtain ⟨q, hq, hR⟩ := rows_ints h (l := l) rfl rfl
    injection hq with p1 p2 p3
    cases q
    cases s
    simp only at p1 p2 p3
    subst p1
    subst p2
    subst p3
    exact hR
  exact ⟨e h.a, e h.b, e h.c, e h.d⟩
theorem CeAt.below {w w' : World} {x : Ce} {s0 s2 s3 s4 : Sl} (h : CeAt w x s0 s2 s3 s4) (hb : Below w.heap.size w w') : CeAt w' x s0 s2 s3 s4 := ⟨h.a.below hb (fun _ _ _ _ h => h), h.b.below hb (fun _ _ _ _ h => h), h.c.below hb (fun _ _ _ _ h => h), h.d.below hb (fun _ _ _ _ h => h)⟩
set_option maxHeartbeats 2000000 in
set_option maxRecDepth 100000 in
theorem num_any (w : World) (x : Int) : Calls Try.prog 10 #[I x] w fun e w' => e = .returned (I x) ∧ w = w' := by
  go_enter Try.func10, Try.ntmps10
  go_wp2
  go_ret
  exact ⟨rfl, rfl⟩
def oneX : Ce := ⟨[70, 70, 2], 3, [1, 3, 3], [1, 1, 0], [1]⟩
theorem reckon_one (W : World) (b : Nat) (h : OneAt W (b + 1) b 0) : Calls Try.prog 8 #[.agg (cfC (oneC 0) (oneV b))] W fun e w' => RckP W oneX 0 e w' := by
  have := reckon_any W (oneC 0) (oneV b) h.cf (by decide) (by decide) (by decide)
  rw [one_rck, one_look] at this
  exact this
theorem group_one (W : World) (b : Nat) (h : OneAt W (b + 1) b 0) : Calls Try.prog 9 #[.agg (cfC (oneC 0) (oneV b)), I 1] W fun e w' => Own2 W [0, 1] 0 e w' := by
  have := group_any W (oneC 0) (oneV b) h.cf (by decide) 1
  rw [one_grp.1, one_grp.2] at this
  exact this
theorem blocks_one (W : World) (b : Nat) (h : OneAt W (b + 1) b 0) : Calls Try.prog 23 #[.agg (cfC (oneC 0) (oneV b)), I 0, I 1] W fun e w' => Own2 W [0] 0 e w' := by
  have := blocks_any W (oneC 0) (oneV b) h.cf (by decide) 0 1
  rw [one_blk.1, one_blk.2] at this
  exact this
theorem check_bad (W : World) (g b : Nat) (h : OneAt W g b 3) : Calls Try.prog 11 #[.agg (cfC (oneC 0) (oneV b))] W fun e w' => e = .returned (I 80) ∧ Below W.heap.size W w' := by
  have := ccheck_any W (oneC 3) (oneV b) h.cf (by decide)
  rw [one_bad] at this
  exact this
theorem Own2.got {w : World} {l : List Int} {k : Int} {e : Ending} {w' : World} (h : Own2 w l k e w') : ∃ s : Sl, e = .returned (.tuple #[.slice s.a s.n s.c, I k]) ∧ RowsAt w' 1 intP s l ∧ Below w.heap.size w w' := by
  obtain ⟨u, rfl, hO, hb⟩ := h
  obtain ⟨s, rfl, hR⟩ := rows_ints hO (l := l) rfl rfl
  exact ⟨s, rfl, hR, hb⟩
/-- A row that came out against one that is laid down anew. -/
theorem ints_lit (W : World) (s : Sl) (l : List Int) (h : RowsAt W 1 intP s l) (hl : l.length ≤ maxLen) : Calls Try.prog 21 #[.slice s.a s.n s.c, .slice (some ⟨W.heap.size, 0, none⟩) l.length l.length] (W.alloc (.cells (l.map fun x => I x).toArray 3)) fun e w' => e = .returned (.bool true) ∧ Below W.heap.size W w' := by
  have hb := below_alloc W (.cells (l.map fun x => I x).toArray 3)
  refine (rints_any _ s ⟨some ⟨W.heap.size, 0, none⟩, l.length, l.length⟩ l l (h.below hb (fun _ _ _ _ h => h)) (rows_row (heap_alloc_new _ _) hl)).mono ?_
  rintro e w' ⟨rfl, hb'⟩
  exact ⟨ret_bool (decide_eq_true rfl), hb.trans (hb'.mono hb.size)⟩
theorem same_lit (W : World) (s0 s2 s3 s4 : Sl) (h : CeAt W oneX s0 s2 s3 s4) :
    Calls Try.prog 18 #[.agg #[.slice s0.a s0.n s0.c, I oneX.sch, .slice s2.a s2.n s2.c, .slice s3.a s3.n s3.c, .slice s4.a s4.n s4.c], .agg #[.slice (some ⟨W.heap.size, 0, none⟩) 3 3, I 3, .slice (some ⟨W.heap.size + 1, 0, none⟩) 3 3, .slice (some ⟨W.heap.size + 1 + 1, 0, none⟩) 3 3, .slice (some ⟨W.heap.size + 1 + 1 + 1, 0, none⟩) 1 1]]
      ((((W.alloc (.cells #[I 70, I 70, I 2] 3)).alloc (.cells #[I 1, I 3, I 3] 3)).alloc (.cells #[I 1, I 1, I 0] 3)).alloc (.cells #[I 1] 3)) fun e w' => e = .returned (.bool true) ∧ Below W.heap.size W w' := by
  have hb : Below W.heap.size W ((((W.alloc (.cells #[I 70, I 70, I 2] 3)).alloc (.cells #[I 1, I 3, I 3] 3)).alloc (.cells #[I 1, I 1, I 0] 3)).alloc (.cells #[I 1] 3)) := ((((Below.refl W.heap.size W).alloc (Nat.le_refl _) _).alloc (by simp) _).alloc (by simp; omega) _).alloc (by simp; omega) _
  have n2 : ((((W.alloc (.cells #[I 70, I 70, I 2] 3)).alloc (.cells #[I 1, I 3, I 3] 3)).alloc (.cells #[I 1, I 1, I 0] 3)).alloc (.cells #[I 1] 3)).heap[W.heap.size + 1 + 1]? = some (.cells #[I 1, I 1, I 0] 3 (0, 0)) := heap_over _ _ (by have := heap_alloc_new ((W.alloc (.cells #[I 70, I 70, I 2] 3)).alloc (.cells #[I 1, I 3, I 3] 3)) (.cells #[I 1, I 1, I 0] 3); simp only [World.size_alloc] at this; exact this)
  have n3 : ((((W.alloc (.cells #[I 70, I 70, I 2] 3)).alloc (.cells #[I 1, I 3, I 3] 3)).alloc (.cells #[I 1, I 1, I 0] 3)).alloc (.cells #[I 1] 3)).heap[W.heap.size + 1 + 1 + 1]? = some (.cells #[I 1] 3 (0, 0)) := by have := heap_alloc_new (((W.alloc (.cells #[I 70, I 70, I 2] 3)).alloc (.cells #[I 1, I 3, I 3] 3)).alloc (.cells #[I 1, I 1, I 0] 3)) (.cells #[I 1] 3); simp only [World.size_alloc] at this; exact this
  refine (rsame_any _ oneX oneX s0 s2 s3 s4 ⟨some ⟨W.heap.size, 0, none⟩, 3, 3⟩ ⟨some ⟨W.heap.size + 1, 0, none⟩, 3, 3⟩ ⟨some ⟨W.heap.size + 1 + 1, 0, none⟩, 3, 3⟩ ⟨some ⟨W.heap.size + 1 + 1 + 1, 0, none⟩, 1, 1⟩ (h.below hb) ⟨rows_row (l := [70, 70, 2]) (heap_over _ _ (heap_over _ _ (heap_two0 W _ _))) (by simp [maxLen]), rows_row (l := [1, 3, 3]) (heap_over _ _ (heap_over _ _ (heap_two W _ _))) (by simp [maxLen]), rows_row (l := [1, 1, 0]) n2 (by simp [maxLen]), rows_row (l := [1]) n3 (by simp [maxLen])⟩).mono ?_
  rintro e w' ⟨rfl, hb'⟩
  exact ⟨rfl, hb.trans (hb'.mono hb.size)⟩
set_option maxHeartbeats 8000000 in
set_option maxRecDepth 100000 in
theorem alive_any (w : World) : Calls Try.prog 12 #[] w fun e w' => e = .returned (.bool true) ∧ Below w.heap.size w w' := by
  have hi18 : (Try.prog.info? 33).map (·.size) = some 18 := by kernel_rfl
  go_enter Try.func12, Try.ntmps12
  go_upto_region 2 with (first | (go_at_call 32; refine (one_any _).mono ?_; rintro e w1 ⟨rfl, hA1, hb1⟩; have kq := reckon_one _ _ hA1; generalize cfC (oneC 0) (oneV w.heap.size) = C1 at kq ⊢) | (go_at_call 8; refine kq.mono ?_; clear kq; rintro e w2 ⟨s0, s2, s3, s4, rfl, hC2, hb2⟩; unfold ceC))
  have H3 : Hid (CeAt (w2.alloc (.cells #[.slice s0.a s0.n s0.c, I oneX.sch, .slice s2.a s2.n s2.c, .slice s3.a s3.n s3.c, .slice s4.a s4.n s4.c] 36)) oneX s0 s2 s3 s4 ∧ (w2.alloc (.cells #[.slice s0.a s0.n s0.c, I oneX.sch, .slice s2.a s2.n s2.c, .slice s3.a s3.n s3.c, .slice s4.a s4.n s4.c] 36)).heap[w2.heap.size]? = some (.cells #[.slice s0.a s0.n s0.c, I oneX.sch, .slice s2.a s2.n s2.c, .slice s3.a s3.n s3.c, .slice s4.a s4.n s4.c] 36 (0, 0)) ∧ Below w.heap.size w (w2.alloc (.cells #[.slice s0.a s0.n s0.c, I oneX.sch, .slice s2.a s2.n s2.c, .slice s3.a s3.n s3.c, .slice s4.a s4.n s4.c] 36))) := ⟨hC2.at.below (below_alloc _ _), heap_alloc_new _ _, (hb1.trans (hb2.mono hb1.size)).trans ((below_alloc w2 _).mono (Nat.le_trans hb1.size hb2.size))⟩
  clear hA1 hb1 hC2 hb2
  generalize (w2.alloc (.cells #[.slice s0.a s0.n s0.c, I oneX.sch, .slice s2.a s2.n s2.c, .slice s3.a s3.n s3.c, .slice s4.a s4.n s4.c] 36)) = w3 at *
  generalize w2.heap.size = x0 at *
  go_upto_region 3 with (first | (go_at_call 32; refine (one_any _).mono ?_; rintro e w4 ⟨rfl, hA4, hb4⟩; have kq := group_one _ _ hA4; generalize cfC (oneC 0) (oneV w3.heap.size) = C2 at kq ⊢) | (go_at_call 9; refine kq.mono ?_; clear kq; rintro e w5 hp5; obtain ⟨sg, rfl, hR5, hb5⟩ := hp5.got))
  have H5 : Hid (RowsAt w5 1 intP sg [0, 1] ∧ Below w3.heap.size w3 w5) := ⟨hR5, hb4.trans (hb5.mono hb4.size)⟩
  clear hA4 hb4 hp5 hR5 hb5
  go_upto_region 4 with (first | (go_at_call 32; refine (one_any _).mono ?_; rintro e w6 ⟨rfl, hA6, hb6⟩; have kq := blocks_one _ _ hA6; generalize cfC (oneC 0) (oneV w5.heap.size) = C3 at kq ⊢) | (go_at_call 23; refine kq.mono ?_; clear kq; rintro e w7 hp7; obtain ⟨sl, rfl, hR7, hb7⟩ := hp7.got))
  have H7 : Hid (RowsAt w7 1 intP sl [0] ∧ Below w5.heap.size w5 w7) := ⟨hR7, hb6.trans (hb7.mono hb6.size)⟩
  clear hA6 hb6 hp7 hR7 hb7
  go_upto_region 5 with (go_at_call 32; refine (one_any _).mono ?_; rintro e w8 ⟨rfl, hA8, hb8⟩; unfold cfC)
  have hV9 := heap_alloc_new w8 (.cells (cfC (oneC 0) (oneV w7.heap.size)) 33)
  have hb9 := below_alloc w8 (.cells (cfC (oneC 0) (oneV w7.heap.size)) 33)
  obtain ⟨w9, hw9⟩ : ∃ w9, w9 = w8.alloc (.cells (cfC (oneC 0) (oneV w7.heap.size)) 33) := ⟨_, rfl⟩
  rw [← hw9] at hV9 hb9
  change Code.wp _ _ _ _ (w8.alloc (.cells (cfC (oneC 0) (oneV w7.heap.size)) 33))
  rw [← hw9]
  clear hw9
  have hA9 := hA8.below hb9
  have hb79 : Hid (Below w7.heap.size w7 w9) := hb8.trans (hb9.mono hb8.size)
  clear hA8 hb8 hb9
  obtain ⟨_, _, y11, _⟩ := var18_all hV9
  have y11' : w9.cell? ⟨w8.heap.size, 11, none⟩ = some (.slice (some ⟨w7.heap.size + 4, 0, none⟩) 3 3) := y11
  clear y11
  have h4 := heap_over w9 (.cells #[I 3] 3) hA9.h4
  have y5 : (w9.alloc (.cells #[I 3] 3)).cell? ⟨w7.heap.size + 4, 5, none⟩ = some (.slice (some ⟨w7.heap.size + 1, 0, none⟩) 1 1) := by rw [cell_of_row _ _ 5 _ _ (0, 0) h4]; rfl
  have f5 := frozen_of_row (w9.alloc (.cells #[I 3] 3)) (w7.heap.size + 4) 5 _ _ h4
  go_upto_region 6 with fail
  have H10 : Hid (OneAt ((w9.alloc (.cells #[I 3] 3)).setCell ⟨w7.heap.size + 4, 5, none⟩ (.slice (some ⟨w9.heap.size, 0, none⟩) 1 1)) w9.heap.size w7.heap.size 3 ∧ Below w7.heap.size w7 ((w9.alloc (.cells #[I 3] 3)).setCell ⟨w7.heap.size + 4, 5, none⟩ (.slice (some ⟨w9.heap.size, 0, none⟩) 1 1)) ∧ ((w9.alloc (.cells #[I 3] 3)).setCell ⟨w7.heap.size + 4, 5, none⟩ (.slice (some ⟨w9.heap.size, 0, none⟩) 1 1)).heap[w8.heap.size]? = some (.cells (cfC (oneC 0) (oneV w7.heap.size)) 33 (0, 0))) := by
    have hA := hA9.below (below_alloc w9 (.cells #[I 3] 3))
    have gs := grown_set (w9.alloc (.cells #[I 3] 3)) (w7.heap.size + 4) 5 (.slice (some ⟨w9.heap.size, 0, none⟩) 1 1)
    have l7 := heap_lt hA9.h7
    have l9 := heap_lt hV9
    have hn : w8.heap.size ≠ w7.heap.size + 4 := fun e => by
      have := hA9.h4
      rw [← e, hV9] at this
      injection this with this
      injection this with _ e4
      exact absurd e4 (by decide)
    refine ⟨⟨heap_kept (heap_alloc_new _ _) gs (fun e => by have := Option.some.inj e; omega), heap_kept hA.h2 gs (fun e => by have := Option.some.inj e; omega), heap_kept hA.h3 gs (fun e => by have := Option.some.inj e; omega), ?_, heap_kept hA.h5 gs (fun e => by have := Option.some.inj e; omega), heap_kept hA.h6 gs (fun e => by have := Option.some.inj e; omega), heap_kept hA.h7 gs (fun e => by have := Option.some.inj e; omega)⟩, ?_, heap_kept (heap_over _ _ hV9) gs (fun e => hn (Option.some.inj e))⟩
    · exact heap_setCell_same _ _ 5 _ _ _ hA.h4
    · have b1 := hb79.out.trans ((below_alloc w9 (.cells #[I 3] 3)).mono hb79.out.size)
      exact b1.grown gs b1.size (fun k e => by cases e; omega)
  clear hV9 hA9 hb79 y11' h4 y5 f5
  generalize (w9.alloc (.cells #[I 3] 3)).setCell ⟨w7.heap.size + 4, 5, none⟩ (.slice (some ⟨w9.heap.size, 0, none⟩) 1 1) = w10 at *
  have hb310 : Below w3.heap.size w3 w10 := (H5.out.2.trans (H7.out.2.mono H5.out.2.size)).trans (H10.out.2.1.mono (Nat.le_trans H5.out.2.size H7.out.2.size))
  have ks := same_lit w10 s0 s2 s3 s4 (H3.out.1.below hb310)
  have hx10 := (hb310.block _ (heap_lt H3.out.2.1)).trans H3.out.2.1
  obtain ⟨z0, z1, z2, z3, z4⟩ := row5 hx10
  have HS : Hid (RowsAt w10 1 intP sg [0, 1] ∧ RowsAt w10 1 intP sl [0] ∧ Below w.heap.size w w10) := ⟨(H5.out.1.below H7.out.2 (fun _ _ _ _ h => h)).below H10.out.2.1 (fun _ _ _ _ h => h), H7.out.1.below H10.out.2.1 (fun _ _ _ _ h => h), H3.out.2.2.trans (hb310.mono H3.out.2.2.size)⟩
  clear H3 H5 H7 hb310 hx10
  have hi18' : (Try.prog.info? 33).map (·.size) = some (cfC (oneC 0) (oneV w7.heap.size)).size := by rw [show (cfC (oneC 0) (oneV w7.heap.size)).size = 18 from rfl]; kernel_rfl
  have HCH : Hid (∀ W, Below w10.heap.size w10 W → W.heap[w8.heap.size]? = some (.cells (cfC (oneC 0) (oneV w7.heap.size)) 33 (0, 0)) ∧ Calls Try.prog 11 #[.agg (cfC (oneC 0) (oneV w7.heap.size))] W fun e w' => e = .returned (I 80) ∧ Below W.heap.size W w') := fun W hW => ⟨(hW.block _ (heap_lt H10.out.2.2)).trans H10.out.2.2, check_bad W w9.heap.size w7.heap.size (H10.out.1.below hW)⟩
  clear H10
  generalize cfC (oneC 0) (oneV w7.heap.size) = C4 at *
  go_wp2_with (first | (go_at_call 10; refine (num_any _ _).mono ?_; rintro e w' ⟨rfl, rfl⟩) | (go_at_call 18; refine ks.mono ?_; clear ks; rintro e w11 ⟨rfl, hb11⟩; have ki := ints_lit w11 sg [0, 1] (HS.out.1.below hb11 (fun _ _ _ _ h => h)) (by simp [maxLen]); have HB11 : Hid (Below w10.heap.size w10 w11) := hb11; clear hb11 z0 z1 z2 z3 z4) | (go_at_call 21; refine ki.mono ?_; clear ki; rintro e w12 ⟨rfl, hb12⟩; have HB12 : Hid (Below w10.heap.size w10 w12) := HB11.out.trans (hb12.mono HB11.out.size); have kj := ints_lit w12 sl [0] (HS.out.2.1.below HB12.out (fun _ _ _ _ h => h)) (by simp [maxLen]); clear hb12 HB11) | (go_at_call 21; refine kj.mono ?_; clear kj; rintro e w13 ⟨rfl, hb13⟩; have HB13 : Hid (Below w10.heap.size w10 w13) := HB12.out.trans (hb13.mono HB12.out.size); obtain ⟨hV13, kc⟩ := HCH.out _ HB13.out; clear hb13 HB12) | (refine wpList_load_row_g 33 _ rfl w8.heap.size rfl 33 _ (0, 0) _ hV13 Try.underlying33 rfl hi18' (by kernel_rfl) ?_; simp only [Act.put, List.setIfInBounds_toArray, List.set_cons_succ, List.set_cons_zero]; go_wp2_with (first | (go_at_call 11; refine kc.mono ?_; clear kc hV13; rintro e w14 ⟨rfl, hb14⟩) | (go_at_call 10; refine (num_any _ _).mono ?_; rintro e w' ⟨rfl, rfl⟩))))
  go_ret
  have b14 := HB13.out.trans (hb14.mono HB13.out.size)
  exact ⟨rfl, HS.out.2.2.trans (b14.mono HS.out.2.2.size)⟩
end Go.Proofs.Ytapfbinaocaclaa
