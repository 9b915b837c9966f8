import Derived.Test.YthmecgfbapemjaaDoorDk
import Derived.Deep.CutBlock
namespace Go.Proofs.YthmecgfbapemjaaDoor
open Go.RowKit Go.Shelf Go.Sort
set_option linter.unusedVariables false
set_option linter.unusedSimpArgs false

/-! ### play, over whatever answers alike -/
structure Both (M : Nat → Prop) (J : World → Prop) (t d : Value) : Prop where
  up : ∀ Z Z', J Z → Below Z.heap.size Z Z' → J Z'
  lt : ∀ Z b, J Z → M b → b < Z.heap.size
  act : ∀ Z i, J Z → Calls Tryd.prog 11 #[t, I i] Z fun e w' => Fz M Z w' ∧ ∃ (b : Bool) (s : Int), e = .returned (.tuple #[.bool b, I s]) ∧ Calls Tryd.prog 34 #[d, I i] w' fun e' w'' => e' = .returned (.tuple #[.bool b, I s]) ∧ J w'' ∧ Fz M w' w''
  sta : ∀ Z i, J Z → Calls Tryd.prog 35 #[d, I i, I 2, I 0] Z fun e w' => Fz M Z w' ∧ ∃ (z f : Int), e = .returned (.tuple #[I z, I f]) ∧ Calls Tryd.prog 12 #[t, I i] w' fun e' w'' => e' = .returned (I f) ∧ J w'' ∧ Fz M w' w''
  pre : ∀ Z, J Z → Calls Tryd.prog 17 #[t] Z fun e w' => Fz M Z w' ∧ ∃ (z f : Int), e = .returned (.tuple #[I z, I f]) ∧ Calls Tryd.prog 35 #[d, I (-1), I 0, I 2] w' fun e' w'' => e' = .returned (.tuple #[I z, I f]) ∧ J w'' ∧ Fz M w' w''
  wai : ∀ Z, J Z → Calls Tryd.prog 14 #[t] Z fun e w' => Fz M Z w' ∧ ∃ (z f : Int), e = .returned (.tuple #[I z, I f]) ∧ Calls Tryd.prog 35 #[d, I (-1), I 0, I 1] w' fun e' w'' => e' = .returned (.tuple #[I z, I f]) ∧ J w'' ∧ Fz M w' w''
  rel : ∀ Z i, J Z → Calls Tryd.prog 35 #[d, I i, I 1, I 2] Z fun e w' => Fz M Z w' ∧ ∃ (z f : Int), e = .returned (.tuple #[I z, I f]) ∧ Calls Tryd.prog 16 #[t, I i] w' fun e' w'' => e' = .returned (I f) ∧ J w'' ∧ Fz M w' w''
  fin : ∀ Z, J Z → Calls Tryd.prog 20 #[t] Z fun e w' => Fz M Z w' ∧ ∃ (z s f : Int), e = .returned (.tuple #[I z, I s, I f]) ∧ Calls Tryd.prog 36 #[d] w' fun e' w'' => e' = .returned (.tuple #[I z, I s, I f]) ∧ J w'' ∧ Fz M w' w''
  aga : ∀ Z, J Z → Calls Tryd.prog 18 #[t] Z fun e w' => Fz M Z w' ∧ ∃ (z f : Int), e = .returned (.tuple #[I z, I f]) ∧ Calls Tryd.prog 35 #[d, I (-1), I 0, I 2] w' fun e' w'' => e' = .returned (.tuple #[I z, I f]) ∧ J w'' ∧ Fz M w' w''
  res : ∀ Z, J Z → Calls Tryd.prog 26 #[t] Z fun e w' => Fz M Z w' ∧ e = .returned (.tuple #[]) ∧ Calls Tryd.prog 37 #[d] w' fun e' w'' => e' = .returned (.tuple #[]) ∧ J w'' ∧ Fz M w' w''
set_option maxHeartbeats 16000000 in
set_option maxRecDepth 100000 in
theorem play_gen {M : Nat → Prop} {J : World → Prop} {t d : Value} (h : Both M J t d) (wo : World) (hJ : J wo) (kd tk : Int) : Calls Tryd.prog 22 #[t, d, .agg #[I kd, I tk]] wo fun e w' => e = .returned (.bool true) ∧ J w' ∧ Fz M wo w' := by
  have HT : Hid (Both M J t d) := h
  have HJ0 : Hid (J (wo.alloc (.cells #[I kd, I tk] 48)) ∧ Fz M wo (wo.alloc (.cells #[I kd, I tk] 48))) := ⟨h.up _ _ hJ (below_alloc _ _), Fz.of_below (below_alloc _ _)⟩
  have hXn : ¬ M wo.heap.size := fun e => by have := h.lt _ _ hJ e; omega
  clear h hJ
  go_enter Tryd.func22, Tryd.ntmps22
  go_upto_block 0 with fail
  have y1 : (wo.alloc (.cells #[I kd, I tk] 48)).cell? ⟨wo.heap.size, 1, none⟩ = some (I tk) := by rw [cell_of_row _ _ _ _ _ (0, 0) (heap_alloc_new wo _)]; rfl
  generalize wo.heap.size = X at *
  generalize (wo.alloc (.cells #[I kd, I tk] 48)) = wx at *
  by_cases k1 : kd = 1
  · subst k1
    as_aux_lemma =>
      have r0 := HT.out.act wx tk HJ0.out.1
      go_wp2_with (first
        | (go_at_call 11; refine r0.mono ?_; clear r0; rintro e w1 ⟨f1, ⟨b, s, rfl, r1⟩⟩; have z1 := f1.cell y1 hXn; have HF1 : Hid (Fz M wo w1) := HJ0.out.2.trans f1; clear f1)
        | (go_at_call 34; refine r1.mono ?_; clear r1; rintro e w2 ⟨rfl, j2, f2⟩; have H2 : Hid (J w2 ∧ Fz M wo w2) := ⟨j2, HF1.out.trans f2⟩; clear j2 f2)
        | (go_at_call 9; refine (num_any _ _).mono ?_; rintro e w0 ⟨rfl, rfl⟩))
      go_ret
      exact ⟨by first | rfl | exact ret_bool (by simp), H2.out.1, H2.out.2⟩
  by_cases k2 : kd = 2
  · subst k2
    as_aux_lemma =>
      have r0 := HT.out.sta wx tk HJ0.out.1
      go_wp2_with (first
        | (go_at_call 35; refine r0.mono ?_; clear r0; rintro e w1 ⟨f1, ⟨z, f, rfl, r1⟩⟩; have z1 := f1.cell y1 hXn; have HF1 : Hid (Fz M wo w1) := HJ0.out.2.trans f1; clear f1)
        | (go_at_call 12; refine r1.mono ?_; clear r1; rintro e w2 ⟨rfl, j2, f2⟩; have H2 : Hid (J w2 ∧ Fz M wo w2) := ⟨j2, HF1.out.trans f2⟩; clear j2 f2)
        | (go_at_call 9; refine (num_any _ _).mono ?_; rintro e w0 ⟨rfl, rfl⟩))
      go_ret
      exact ⟨by first | rfl | exact ret_bool (by simp), H2.out.1, H2.out.2⟩
  by_cases k3 : kd = 3
  · subst k3
    as_aux_lemma =>
      have r0 := HT.out.pre wx HJ0.out.1
      go_wp2_with (first
        | (go_at_call 17; refine r0.mono ?_; clear r0; rintro e w1 ⟨f1, ⟨z, f, rfl, r1⟩⟩; have z1 := f1.cell y1 hXn; have HF1 : Hid (Fz M wo w1) := HJ0.out.2.trans f1; clear f1)
        | (go_at_call 35; refine r1.mono ?_; clear r1; rintro e w2 ⟨rfl, j2, f2⟩; have H2 : Hid (J w2 ∧ Fz M wo w2) := ⟨j2, HF1.out.trans f2⟩; clear j2 f2)
        | (go_at_call 9; refine (num_any _ _).mono ?_; rintro e w0 ⟨rfl, rfl⟩))
      go_ret
      exact ⟨by first | rfl | exact ret_bool (by simp), H2.out.1, H2.out.2⟩
  by_cases k4 : kd = 4
  · subst k4
    as_aux_lemma =>
      have r0 := HT.out.wai wx HJ0.out.1
      go_wp2_with (first
        | (go_at_call 14; refine r0.mono ?_; clear r0; rintro e w1 ⟨f1, ⟨z, f, rfl, r1⟩⟩; have z1 := f1.cell y1 hXn; have HF1 : Hid (Fz M wo w1) := HJ0.out.2.trans f1; clear f1)
        | (go_at_call 35; refine r1.mono ?_; clear r1; rintro e w2 ⟨rfl, j2, f2⟩; have H2 : Hid (J w2 ∧ Fz M wo w2) := ⟨j2, HF1.out.trans f2⟩; clear j2 f2)
        | (go_at_call 9; refine (num_any _ _).mono ?_; rintro e w0 ⟨rfl, rfl⟩))
      go_ret
      exact ⟨by first | rfl | exact ret_bool (by simp), H2.out.1, H2.out.2⟩
  by_cases k5 : kd = 5
  · subst k5
    as_aux_lemma =>
      have r0 := HT.out.rel wx tk HJ0.out.1
      go_wp2_with (first
        | (go_at_call 35; refine r0.mono ?_; clear r0; rintro e w1 ⟨f1, ⟨z, f, rfl, r1⟩⟩; have z1 := f1.cell y1 hXn; have HF1 : Hid (Fz M wo w1) := HJ0.out.2.trans f1; clear f1)
        | (go_at_call 16; refine r1.mono ?_; clear r1; rintro e w2 ⟨rfl, j2, f2⟩; have H2 : Hid (J w2 ∧ Fz M wo w2) := ⟨j2, HF1.out.trans f2⟩; clear j2 f2)
        | (go_at_call 9; refine (num_any _ _).mono ?_; rintro e w0 ⟨rfl, rfl⟩))
      go_ret
      exact ⟨by first | rfl | exact ret_bool (by simp), H2.out.1, H2.out.2⟩
  by_cases k6 : kd = 6
  · subst k6
    as_aux_lemma =>
      have r0 := HT.out.fin wx HJ0.out.1
      go_wp2_with (first
        | (go_at_call 20; refine r0.mono ?_; clear r0; rintro e w1 ⟨f1, ⟨z, s, f, rfl, r1⟩⟩; have z1 := f1.cell y1 hXn; have HF1 : Hid (Fz M wo w1) := HJ0.out.2.trans f1; clear f1)
        | (go_at_call 36; refine r1.mono ?_; clear r1; rintro e w2 ⟨rfl, j2, f2⟩; have H2 : Hid (J w2 ∧ Fz M wo w2) := ⟨j2, HF1.out.trans f2⟩; clear j2 f2)
        | (go_at_call 9; refine (num_any _ _).mono ?_; rintro e w0 ⟨rfl, rfl⟩))
      go_ret
      exact ⟨by first | rfl | exact ret_bool (by simp), H2.out.1, H2.out.2⟩
  by_cases k7 : kd = 7
  · subst k7
    as_aux_lemma =>
      have r0 := HT.out.aga wx HJ0.out.1
      go_wp2_with (first
        | (go_at_call 18; refine r0.mono ?_; clear r0; rintro e w1 ⟨f1, ⟨z, f, rfl, r1⟩⟩; have z1 := f1.cell y1 hXn; have HF1 : Hid (Fz M wo w1) := HJ0.out.2.trans f1; clear f1)
        | (go_at_call 35; refine r1.mono ?_; clear r1; rintro e w2 ⟨rfl, j2, f2⟩; have H2 : Hid (J w2 ∧ Fz M wo w2) := ⟨j2, HF1.out.trans f2⟩; clear j2 f2)
        | (go_at_call 9; refine (num_any _ _).mono ?_; rintro e w0 ⟨rfl, rfl⟩))
      go_ret
      exact ⟨by first | rfl | exact ret_bool (by simp), H2.out.1, H2.out.2⟩
  by_cases k8 : kd = 8
  · subst k8
    as_aux_lemma =>
      have r0 := HT.out.res wx HJ0.out.1
      go_wp2_with (first
        | (go_at_call 26; refine r0.mono ?_; clear r0; rintro e w1 ⟨f1, ⟨rfl, r1⟩⟩; have z1 := f1.cell y1 hXn; have HF1 : Hid (Fz M wo w1) := HJ0.out.2.trans f1; clear f1)
        | (go_at_call 37; refine r1.mono ?_; clear r1; rintro e w2 ⟨rfl, j2, f2⟩; have H2 : Hid (J w2 ∧ Fz M wo w2) := ⟨j2, HF1.out.trans f2⟩; clear j2 f2)
        | (go_at_call 9; refine (num_any _ _).mono ?_; rintro e w0 ⟨rfl, rfl⟩))
      go_ret
      exact ⟨rfl, H2.out.1, H2.out.2⟩
  have kk : (kd == 1) = false ∧ (kd == 2) = false ∧ (kd == 3) = false ∧ (kd == 4) = false ∧ (kd == 5) = false ∧ (kd == 6) = false ∧ (kd == 7) = false ∧ (kd == 8) = false := ⟨beq_eq_false_iff_ne.2 k1, beq_eq_false_iff_ne.2 k2, beq_eq_false_iff_ne.2 k3, beq_eq_false_iff_ne.2 k4, beq_eq_false_iff_ne.2 k5, beq_eq_false_iff_ne.2 k6, beq_eq_false_iff_ne.2 k7, beq_eq_false_iff_ne.2 k8⟩
  obtain ⟨b1, b2, b3, b4, b5, b6, b7, b8⟩ := kk
  clear k1 k2 k3 k4 k5 k6 k7 k8
  go_wp2
  go_ret
  exact ⟨rfl, HJ0.out.1, HJ0.out.2⟩
end Go.Proofs.YthmecgfbapemjaaDoor
