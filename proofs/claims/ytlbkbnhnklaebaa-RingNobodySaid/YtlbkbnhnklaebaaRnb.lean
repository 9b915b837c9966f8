import Derived.Test.YtlbkbnhnklaebaaRit
import Derived.Test.YtlbkbnhnklaebaaRax
namespace Go.Proofs.Ytlbkbnhnklaebaa
open Go.RowKit
set_option linter.unusedVariables false
set_option linter.unusedSimpArgs false

/-! ### A ring that no call made -/
def Nob (w0 : World) (v : Value) : Prop := ∀ W, Below w0.heap.size w0 W → Calls Try.prog 38 #[v] W fun e w' => e = .returned (.bool true) ∧ W = w'
theorem Nob.below {w w' : World} {v : Value} (h : Nob w v) (hb : Below w.heap.size w w') : Nob w' v := fun W hW => h W (hb.trans (hW.mono hb.size))
theorem nob_nil (w : World) : Nob w (.pointer none) := fun W _ => inone_nil W
theorem nob_zero (w : World) (B : Nat) (h : w.cell? ⟨B, 0, none⟩ = some (.bool false)) : Nob w (iP B) := fun W hb => inone_zero W B ((hb.cell (p := ⟨B, 0, none⟩) (World.block_lt_of_cell? _ _ h)).trans h)
section
variable {w : World} {v : Value}
theorem nLast (h : Nob w v) (x : Int) : Calls Try.prog 11 #[v, I x] w fun e w' => e = .returned (I 1) ∧ w = w' := by
  have hN := h w (Below.refl _ _)
  have hm : Calls Try.prog 35 #[v] w fun e w' => e = .returned (I 1) ∧ w = w' := by
    go_enter Try.func35, Try.ntmps35
    go_wp2_with (first | (go_at_call 38; refine hN.mono ?_; rintro e w1 ⟨rfl, rfl⟩))
    go_ret
    exact ⟨rfl, rfl⟩
  go_enter Try.func11, Try.ntmps11
  go_wp2_with (first | (go_at_call 35; refine hm.mono ?_; rintro e w1 ⟨rfl, rfl⟩))
  go_ret
  exact ⟨rfl, rfl⟩
theorem nFirst (h : Nob w v) (x : Int) : Calls Try.prog 15 #[v, I x] w fun e w' => e = .returned (I 1) ∧ w = w' := by
  have hN := h w (Below.refl _ _)
  have hm : Calls Try.prog 35 #[v] w fun e w' => e = .returned (I 1) ∧ w = w' := by
    go_enter Try.func35, Try.ntmps35
    go_wp2_with (first | (go_at_call 38; refine hN.mono ?_; rintro e w1 ⟨rfl, rfl⟩))
    go_ret
    exact ⟨rfl, rfl⟩
  go_enter Try.func15, Try.ntmps15
  go_wp2_with (first | (go_at_call 35; refine hm.mono ?_; rintro e w1 ⟨rfl, rfl⟩))
  go_ret
  exact ⟨rfl, rfl⟩
theorem nTake (h : Nob w v) : Calls Try.prog 12 #[v] w fun e w' => e = .returned (.tuple #[I 0, I 1]) ∧ w = w' := by
  have hN := h w (Below.refl _ _)
  go_enter Try.func12, Try.ntmps12
  go_wp2_with (first | (go_at_call 38; refine hN.mono ?_; rintro e w1 ⟨rfl, rfl⟩))
  go_ret2
  exact ⟨rfl, rfl⟩
theorem nLen (h : Nob w v) : Calls Try.prog 13 #[v] w fun e w' => e = .returned (I 0) ∧ w = w' := by
  have hN := h w (Below.refl _ _)
  go_enter Try.func13, Try.ntmps13
  go_wp2_with (first | (go_at_call 38; refine hN.mono ?_; rintro e w1 ⟨rfl, rfl⟩))
  go_ret
  exact ⟨rfl, rfl⟩
theorem nRoom (h : Nob w v) : Calls Try.prog 29 #[v] w fun e w' => e = .returned (I 0) ∧ w = w' := by
  have hN := h w (Below.refl _ _)
  go_enter Try.func29, Try.ntmps29
  go_wp2_with (first | (go_at_call 38; refine hN.mono ?_; rintro e w1 ⟨rfl, rfl⟩))
  go_ret
  exact ⟨rfl, rfl⟩
theorem nHigh (h : Nob w v) : Calls Try.prog 16 #[v] w fun e w' => e = .returned (I 0) ∧ w = w' := by
  have hN := h w (Below.refl _ _)
  go_enter Try.func16, Try.ntmps16
  go_wp2_with (first | (go_at_call 38; refine hN.mono ?_; rintro e w1 ⟨rfl, rfl⟩))
  go_ret
  exact ⟨rfl, rfl⟩
theorem nClear (h : Nob w v) : Calls Try.prog 33 #[v] w fun e w' => e = .returned (I 0) ∧ w = w' := by
  have hN := h w (Below.refl _ _)
  go_enter Try.func33, Try.ntmps33
  go_wp2_with (first | (go_at_call 38; refine hN.mono ?_; rintro e w1 ⟨rfl, rfl⟩))
  go_ret
  exact ⟨rfl, rfl⟩
theorem nCopy (h : Nob w v) : Calls Try.prog 31 #[v] w fun e w' => e = .returned (.pointer none) ∧ w = w' := by
  have hN := h w (Below.refl _ _)
  go_enter Try.func31, Try.ntmps31
  go_wp2_with (first | (go_at_call 38; refine hN.mono ?_; rintro e w1 ⟨rfl, rfl⟩))
  go_ret
  exact ⟨rfl, rfl⟩
theorem nAt (h : Nob w v) (i : Int) : Calls Try.prog 52 #[v, I i] w fun e w' => e = .returned (.tuple #[I 0, .bool false]) ∧ w = w' := by
  by_cases h1 : i < 0
  · go_enter Try.func52, Try.ntmps52
    go_wp2
    go_ret2
    exact ⟨rfl, rfl⟩
  · have h2 : 0 ≤ i := by omega
    have hL := nLen h
    go_enter Try.func52, Try.ntmps52
    go_wp2_with (first | (go_at_call 13; refine hL.mono ?_; rintro e w1 ⟨rfl, rfl⟩))
    go_ret2
    exact ⟨rfl, rfl⟩
theorem nFull (h : Nob w v) : Calls Try.prog 30 #[v] w fun e w' => e = .returned (.bool false) ∧ Below w.heap.size w w' := by
  have hN := fun q => (h (w.drewN q) (below_drewN q (Below.refl _ _))).mono (R' := fun e w' => e = .returned (.bool true) ∧ w' = w.drewN q) (fun e w' k => ⟨k.1, k.2.symm⟩)
  go_enter Try.func30, Try.ntmps30
  go_wp2
  go_quiet ((go_at_call 38; exact Calls.quiet_of_same (hN _)))
  go_wp2
  go_ret
  exact ⟨rfl, below_drewN _ (Below.refl _ _)⟩
theorem nAll (p : Option Addr) (w : World) : Calls Try.prog 28 #[.pointer p] w fun e w' => e = .returned (.func (.func 54) #[] #[.pointer (some ⟨w.heap.size, 0, none⟩)]) ∧ w' = w.alloc (.cells #[.pointer p] 24) := by
  go_enter Try.func28, Try.ntmps28
  go_wp2
  go_ret
  exact ⟨rfl, rfl⟩
end
/-- the document's ring that no call made -/
structure Dz (w : World) (D : Nat) : Prop where
  o : w.heap[D]? = some (.cells #[.bool false, I 0, .slice none 0 0, I 0] 47)
theorem Dz.cells {w : World} {D : Nat} (h : Dz w D) : w.cell? ⟨D, 0, none⟩ = some (.bool false) ∧ w.cell? ⟨D, 1, none⟩ = some (I 0) ∧ w.cell? ⟨D, 2, none⟩ = some (.slice none 0 0) ∧ w.cell? ⟨D, 3, none⟩ = some (I 0) := by
  refine ⟨?_, ?_, ?_, ?_⟩ <;> (rw [cell_of_row w D _ _ _ (0, 0) h.o]; rfl)
theorem Dz.below {w w' : World} {D : Nat} (h : Dz w D) (hb : Below w.heap.size w w') : Dz w' D := ⟨(hb.block D (heap_lt h.o)).trans h.o⟩
section
variable {w : World} {D : Nat}
theorem zPut (h : Dz w D) (x : Int) (b : Bool) : Calls Try.prog 20 #[dP D, I x, .bool b] w fun e w' => e = .returned (I 1) ∧ w = w' := by
  obtain ⟨c0, c1, c2, c3⟩ := h.cells
  go_enter Try.func20, Try.ntmps20
  go_wp2
  go_ret
  exact ⟨rfl, rfl⟩
theorem zTake (h : Dz w D) : Calls Try.prog 23 #[dP D] w fun e w' => e = .returned (.tuple #[I 0, I 1]) ∧ w = w' := by
  obtain ⟨c0, c1, c2, c3⟩ := h.cells
  go_enter Try.func23, Try.ntmps23
  go_wp2
  go_ret2
  exact ⟨rfl, rfl⟩
theorem zAt (h : Dz w D) (i : Int) : Calls Try.prog 25 #[dP D, I i] w fun e w' => e = .returned (.tuple #[I 0, .bool false]) ∧ w = w' := by
  obtain ⟨c0, c1, c2, c3⟩ := h.cells
  by_cases h1 : i < 0
  · go_enter Try.func25, Try.ntmps25
    go_wp2
    go_ret2
    exact ⟨rfl, rfl⟩
  · have h2 : 0 ≤ i := by omega
    go_enter Try.func25, Try.ntmps25
    go_wp2
    go_ret2
    exact ⟨rfl, rfl⟩
theorem zClear (h : Dz w D) : Calls Try.prog 53 #[dP D] w fun e w' => e = .returned (I 0) ∧ Dz w' D ∧ Fx [D] w w' := by
  obtain ⟨c0, c1, c2, c3⟩ := h.cells
  have fz : ∀ j, w.frozen? ⟨D, j, none⟩ = false := fun j => frozen_of_row w D j _ _ h.o
  have hs := heap_setCell_same w D 2 _ _ (.slice none 0 0) h.o
  have HH : Hid (Dz (w.setCell ⟨D, 2, none⟩ (.slice none 0 0)) D) := ⟨hs⟩
  clear h hs
  go_enter Try.func53, Try.ntmps53
  go_wp2
  go_ret
  exact ⟨rfl, HH.out, (Fx.refl _ _).set (b := D) (.inl (by simp)) _ _⟩
end
/-- nil, or a ring that is all zero -/
def NobV (w : World) (p : Option Addr) : Prop := p = none ∨ ∃ B cs, p = some ⟨B, 0, none⟩ ∧ w.heap[B]? = some (.cells cs 62) ∧ cs[0]? = some (.bool false)
theorem NobV.nob {w : World} {p : Option Addr} (h : NobV w p) : Nob w (.pointer p) := by
  rcases h with rfl | ⟨B, cs, rfl, h1, h2⟩
  · exact nob_nil w
  · exact nob_zero w B (by rw [cell_of_row w B _ _ _ (0, 0) h1]; exact h2)
theorem NobV.fx {w w' : World} {p : Option Addr} {D : Nat} (h : NobV w p) (hz : Dz w D) (hf : Fx [D] w w') : NobV w' p := by
  rcases h with rfl | ⟨B, cs, rfl, h1, h2⟩
  · exact .inl rfl
  · refine .inr ⟨B, cs, rfl, hf.heap h1 (fun e => ?_), h2⟩
    simp at e
    subst e
    have := hz.o
    rw [h1] at this
    simp only [Option.some.injEq, Obj.cells.injEq] at this
    exact absurd this.2.1 (by decide)
theorem NobV.below {w w' : World} {p : Option Addr} (h : NobV w p) (hb : Below w.heap.size w w') : NobV w' p := by
  rcases h with rfl | ⟨B, cs, rfl, h1, h2⟩
  · exact .inl rfl
  · exact .inr ⟨B, cs, rfl, (hb.block B (heap_lt h1)).trans h1, h2⟩
set_option maxRecDepth 100000 in
set_option maxHeartbeats 4000000 in
theorem nplay1 {w : World} {p : Option Addr} {D : Nat} (h : NobV w p) (hz : Dz w D) (vv : Int) : Calls Try.prog 27 #[.pointer p, dP D, .agg #[I 1, I vv]] w fun e w' => e = .returned (.bool true) ∧ Dz w' D ∧ Fx [D] w w' := by
  have b1 := below_alloc w (.cells #[I 1, I vv] 49)
  have h1 := (h.below b1).nob
  have z1 := hz.below b1
  have cV : (w.alloc (.cells #[I 1, I vv] 49)).cell? ⟨w.heap.size, 1, none⟩ = some (I vv) := by rw [cell_of_row _ _ _ _ _ (0, 0) (heap_alloc_new w _)]; rfl
  have F1 : Fx [D] w (w.alloc (.cells #[I 1, I vv] 49)) := Fx.of_below b1
  go_enter Try.func27, Try.ntmps27
  go_wp2
  generalize (w.alloc (.cells #[I 1, I vv] 49)) = W at *
  have bd : Below W.heap.size W W.drew := (Below.refl _ _).drew
  have R1 := nLast (h1.below bd) vv
  have R2 := zPut (z1.below bd) vv false
  have z2 := z1.below bd
  go_region_held_law (fun w' => w'.cell? ⟨w.heap.size, 1, none⟩ = some (I vv))
    (first | exact cV | (go_keep; done))
    (first
      | (go_at_call 10; refine (num_any _ (by decide) _).mono ?_; rintro e w9 ⟨rfl, rfl⟩)
      | (go_at_call 11; refine R1.mono ?_; rintro e w1 ⟨rfl, rfl⟩)
      | (go_at_call 20; refine R2.mono ?_; rintro e w3 ⟨rfl, rfl⟩))
  all_goals
    go_wp2
    go_ret
    exact ⟨rfl, z2, F1.drewN 1⟩
set_option maxRecDepth 100000 in
set_option maxHeartbeats 4000000 in
theorem nplay2 {w : World} {p : Option Addr} {D : Nat} (h : NobV w p) (hz : Dz w D) (vv : Int) : Calls Try.prog 27 #[.pointer p, dP D, .agg #[I 2, I vv]] w fun e w' => e = .returned (.bool true) ∧ Dz w' D ∧ Fx [D] w w' := by
  have b1 := below_alloc w (.cells #[I 2, I vv] 49)
  have h1 := (h.below b1).nob
  have z1 := hz.below b1
  have cV : (w.alloc (.cells #[I 2, I vv] 49)).cell? ⟨w.heap.size, 1, none⟩ = some (I vv) := by rw [cell_of_row _ _ _ _ _ (0, 0) (heap_alloc_new w _)]; rfl
  have F1 : Fx [D] w (w.alloc (.cells #[I 2, I vv] 49)) := Fx.of_below b1
  go_enter Try.func27, Try.ntmps27
  go_wp2
  generalize (w.alloc (.cells #[I 2, I vv] 49)) = W at *
  have bd : Below W.heap.size W W.drew := (Below.refl _ _).drew
  have R1 := nFirst (h1.below bd) vv
  have R2 := zPut (z1.below bd) vv true
  have z2 := z1.below bd
  go_region_held_law (fun w' => w'.cell? ⟨w.heap.size, 1, none⟩ = some (I vv))
    (first | exact cV | (go_keep; done))
    (first
      | (go_at_call 10; refine (num_any _ (by decide) _).mono ?_; rintro e w9 ⟨rfl, rfl⟩)
      | (go_at_call 15; refine R1.mono ?_; rintro e w1 ⟨rfl, rfl⟩)
      | (go_at_call 20; refine R2.mono ?_; rintro e w3 ⟨rfl, rfl⟩))
  all_goals
    go_wp2
    go_ret
    exact ⟨rfl, z2, F1.drewN 1⟩
set_option maxRecDepth 100000 in
set_option maxHeartbeats 4000000 in
theorem nplay3 {w : World} {p : Option Addr} {D : Nat} (h : NobV w p) (hz : Dz w D) (vv : Int) : Calls Try.prog 27 #[.pointer p, dP D, .agg #[I 3, I vv]] w fun e w' => e = .returned (.bool true) ∧ Dz w' D ∧ Fx [D] w w' := by
  have b1 := below_alloc w (.cells #[I 3, I vv] 49)
  have h1 := (h.below b1).nob
  have z1 := hz.below b1
  have cV : (w.alloc (.cells #[I 3, I vv] 49)).cell? ⟨w.heap.size, 1, none⟩ = some (I vv) := by rw [cell_of_row _ _ _ _ _ (0, 0) (heap_alloc_new w _)]; rfl
  have F1 : Fx [D] w (w.alloc (.cells #[I 3, I vv] 49)) := Fx.of_below b1
  have R1 := nTake h1
  have R2 := zTake z1
  go_enter Try.func27, Try.ntmps27
  go_wp2_with (first
    | (go_at_call 10; refine (num_any _ (by decide) _).mono ?_; rintro e w9 ⟨rfl, rfl⟩)
    | (go_at_call 12; refine R1.mono ?_; rintro e w1 ⟨rfl, rfl⟩)
    | (go_at_call 23; refine R2.mono ?_; rintro e w1 ⟨rfl, rfl⟩))
  go_ret
  exact ⟨rfl, z1, F1⟩
set_option maxRecDepth 100000 in
set_option maxHeartbeats 4000000 in
theorem nplay4 {w : World} {p : Option Addr} {D : Nat} (h : NobV w p) (hz : Dz w D) (vv : Int) : Calls Try.prog 27 #[.pointer p, dP D, .agg #[I 4, I vv]] w fun e w' => e = .returned (.bool true) ∧ Dz w' D ∧ Fx [D] w w' := by
  have b1 := below_alloc w (.cells #[I 4, I vv] 49)
  have h1 := (h.below b1).nob
  have z1 := hz.below b1
  have cV : (w.alloc (.cells #[I 4, I vv] 49)).cell? ⟨w.heap.size, 1, none⟩ = some (I vv) := by rw [cell_of_row _ _ _ _ _ (0, 0) (heap_alloc_new w _)]; rfl
  have F1 : Fx [D] w (w.alloc (.cells #[I 4, I vv] 49)) := Fx.of_below b1
  have R1 := nAt h1 vv
  have R2 := zAt z1 vv
  go_enter Try.func27, Try.ntmps27
  go_wp2_with (first
    | (go_at_call 52; refine R1.mono ?_; rintro e w1 ⟨rfl, rfl⟩)
    | (go_at_call 25; refine R2.mono ?_; rintro e w1 ⟨rfl, rfl⟩))
  go_ret
  exact ⟨rfl, z1, F1⟩
set_option maxRecDepth 100000 in
set_option maxHeartbeats 4000000 in
theorem nplay5 {w : World} {p : Option Addr} {D : Nat} (h : NobV w p) (hz : Dz w D) (vv : Int) : Calls Try.prog 27 #[.pointer p, dP D, .agg #[I 5, I vv]] w fun e w' => e = .returned (.bool true) ∧ Dz w' D ∧ Fx [D] w w' := by
  have b1 := below_alloc w (.cells #[I 5, I vv] 49)
  have h1 := (h.below b1).nob
  have z1 := hz.below b1
  have cV : (w.alloc (.cells #[I 5, I vv] 49)).cell? ⟨w.heap.size, 1, none⟩ = some (I vv) := by rw [cell_of_row _ _ _ _ _ (0, 0) (heap_alloc_new w _)]; rfl
  have F1 : Fx [D] w (w.alloc (.cells #[I 5, I vv] 49)) := Fx.of_below b1
  have R1 := nClear h1
  have R2 := zClear z1
  go_enter Try.func27, Try.ntmps27
  go_wp2_with (first
    | (go_at_call 33; refine R1.mono ?_; rintro e w1 ⟨rfl, rfl⟩)
    | (go_at_call 53; refine R2.mono ?_; rintro e w3 ⟨rfl, z3, f3⟩))
  go_ret
  exact ⟨rfl, z3, F1.trans f3⟩
theorem nplay_any {w : World} {p : Option Addr} {D : Nat} (h : NobV w p) (hz : Dz w D) (kd vv : Int) : Calls Try.prog 27 #[.pointer p, dP D, .agg #[I kd, I vv]] w fun e w' => e = .returned (.bool true) ∧ NobV w' p ∧ Dz w' D ∧ Fx [D] w w' := by
  have g : Calls Try.prog 27 #[.pointer p, dP D, .agg #[I kd, I vv]] w fun e w' => e = .returned (.bool true) ∧ Dz w' D ∧ Fx [D] w w' := by
    by_cases h1 : kd = 1
    · subst h1; exact nplay1 h hz vv
    by_cases h2 : kd = 2
    · subst h2; exact nplay2 h hz vv
    by_cases h3 : kd = 3
    · subst h3; exact nplay3 h hz vv
    by_cases h4 : kd = 4
    · subst h4; exact nplay4 h hz vv
    by_cases h5 : kd = 5
    · subst h5; exact nplay5 h hz vv
    exact (play0 w _ _ kd vv h1 h2 h3 h4 h5).mono (fun e w' k => ⟨k.1, hz.below k.2, Fx.of_below k.2⟩)
  exact g.mono (fun e w' k => ⟨k.1, h.fx hz k.2.2, k.2⟩)
end Go.Proofs.Ytlbkbnhnklaebaa
