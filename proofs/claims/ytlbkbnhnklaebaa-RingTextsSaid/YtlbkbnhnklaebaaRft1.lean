import Derived.Test.YtlbkbnhnklaebaaRet1
namespace Go.Proofs.Ytlbkbnhnklaebaa
open Go.RowKit
set_option linter.unusedVariables false
set_option linter.unusedSimpArgs false

/-! ### Rings of texts: At, Take -/
theorem telem_sz (w : World) : (sizeOf (Try.prog.elem 36)).run Try.prog w = .ok 2 w := by
  obtain ⟨i0, hi, hz0, hz1, hz2⟩ := info_parts tinfo
  have : Try.prog.elem 36 = 42 := by kernel_rfl
  rw [this]
  simp [sizeOf, typeInfo, hi, hz1]
theorem tundS : Try.prog.underlying 36 = some (.slice (Try.prog.elem 36)) := by kernel_rfl
theorem tsl_one (g n k : Nat) (h : k < n) (wx : World) :
    (Instr.slice 36 (.slice (some ⟨g, 0, none⟩) n n) (some (I k)) (some (I ((k : Int) + 1))) none).run Try.prog wx = .ok (.slice (some ⟨g, k * 2, none⟩) 1 (n - k)) wx := by
  rw [run_slice_lh wx 36 _ n n tundS .i64 .i64 (k : Int) ((k : Int) + 1) (by omega) (by omega) (by omega), telem_sz]
  have e1 : ((k : Int)).toNat = k := by omega
  have e2 : ((k : Int) + 1).toNat = k + 1 := by omega
  simp only [Result.andThen, sliced, e1, e2, Option.map_some, Nat.add_sub_cancel_left, addr_add, Nat.zero_add]
  rw [if_neg (by omega)]
theorem tclear_run {w : World} {g : Nat} {R : List Tx} (hq : w.heap[g]? = some (.cells (flat R).toArray 42)) (k c : Nat) (h : k < R.length) (ty : TypeId) :
    (Builtin.clear_ #[36] ty #[.slice (some ⟨g, k * 2, none⟩) 1 c]).run Try.prog w = .ok (.tuple #[]) (w.setCells g (k * 2) [.string ⟨#[]⟩, .int .i64 0]) := by
  have ht := Try.underlying36
  have hv : ∀ w, (zeroValue 42).run Try.prog w = .ok (.agg #[.string ⟨#[]⟩, .int .i64 0]) w := fun w => by kernel_rfl
  have hzc : (Builtin.zeroCells (Value.cells (.agg #[.string ⟨#[]⟩, .int .i64 0])) 1).toList = [.string ⟨#[]⟩, .int .i64 0] := by kernel_rfl
  have hl := flat_len R
  have hst := run_storeCells_cells (P := Try.prog) g (k * 2) [.string ⟨#[]⟩, .int .i64 0] 0 w (fun j hj => by
      rw [cell_of_row w g _ _ _ (0, 0) hq]
      simp at hj ⊢; omega) (fun j hj => frozen_of_row w g _ _ _ hq) (by intro v hv'; simp at hv'; rcases hv' with rfl | rfl <;> rfl)
  simp only [Nat.add_zero] at hst
  simp [Builtin.clear_, run_underlying ht, hv, hzc, hst]
section
variable {w : World} {B g n f hi : Nat} {R l : List Tx}
set_option maxRecDepth 100000 in
theorem tAt0_no (h : tRg w B g n f hi R []) : Calls Try.prog 24 #[tP B, I 0] w fun e w' => e = .returned (.tuple #[.agg #[.string ⟨#[]⟩, I 0], .bool false]) ∧ Below w.heap.size w w' := by
  have b1 := below_alloc w (.cells #[.string ⟨#[]⟩, I 0] 42)
  have hL := tLen_any (h.below b1)
  go_enter Try.func24, Try.ntmps24
  go_wp2_with (first | (go_at_call 26; refine hL.mono ?_; rintro e w1 ⟨rfl, rfl⟩))
  exact bodyPost_ret (v := .tuple #[.agg #[.string ⟨#[]⟩, I 0], .bool false]) (by simp [results, Try.results24, go_sem]) rfl ⟨rfl, b1.alloc (by simp) _⟩
set_option maxRecDepth 100000 in
set_option maxHeartbeats 4000000 in
theorem tAt0_ok (x : Tx) (h : tRg w B g n f hi R (x :: l)) : Calls Try.prog 24 #[tP B, I 0] w fun e w' => e = .returned (.tuple #[tV x, .bool true]) ∧ Below w.heap.size w w' := by
  have b1 := below_alloc w (.cells #[.string ⟨#[]⟩, I 0] 42)
  have hle := h.lle
  simp only [List.length_cons] at hle
  have hm := h.m
  have h1 := h.below b1
  have hlt := h.lts
  have hA0 : (w.alloc (.cells #[.string ⟨#[]⟩, I 0] 42)).heap[w.heap.size]? = some (.cells #[.string ⟨#[]⟩, I 0] 42) := heap_alloc_new w _
  have hf := h.flt (by omega)
  have hL := tLen_any h1
  have ec : (((x :: l).length : Nat) : Int) = (l.length : Int) + 1 := by simp
  rw [ec] at hL
  have hx2 : ¬ ((l.length : Int) + 1 ≤ 0) := by omega
  have c1 := h1.cells.2.1
  obtain ⟨d1, d2⟩ := h1.at h1.r.hd
  have hp := (tplace_any (h1.drewN 1) (by omega) 0 (by omega)).mono (R' := fun e w' => e = .returned (I f) ∧ Below w.heap.size w w' ∧ w'.cell? ⟨g, f * 2, none⟩ = some (.string x.1) ∧ w'.cell? ⟨g, f * 2 + 1, none⟩ = some (I x.2) ∧ Hid (w'.heap[w.heap.size]? = some (.cells #[.string ⟨#[]⟩, I 0] 42)) ∧ w'.cell? ⟨B, 1, none⟩ = some (.slice (some ⟨g, 0, none⟩) n n) ∧ (w'.cell? ⟨w.heap.size, 0, none⟩ = some (.string ⟨#[]⟩) ∧ w'.cell? ⟨w.heap.size, 1, none⟩ = some (I 0) ∧ ∀ j, w'.frozen? ⟨w.heap.size, j, none⟩ = false)) (fun e w' ⟨k', q2, hq⟩ => by
    subst hq
    have h2 := (h1.drewN 1).drewN q2
    have hA := ((below_drewN q2 (below_drewN 1 (Below.refl (w.alloc (.cells #[.string ⟨#[]⟩, I 0] 42)).heap.size _))).block _ (heap_lt hA0)).trans hA0
    rw [Nat.add_zero, Nat.mod_eq_of_lt hf] at k'
    exact ⟨k', below_drewN q2 (below_drewN 1 b1), (h2.at h2.r.hd).1, (h2.at h2.r.hd).2, hA, h2.cells.2.1, by rw [cell_of_row _ _ _ _ _ (0, 0) hA]; rfl, by rw [cell_of_row _ _ _ _ _ (0, 0) hA]; rfl, fun j => frozen_of_row _ _ j _ _ hA⟩)
  have hx0 : ¬ ((f : Int) < 0) := by omega
  have hx1 : (f : Int) < n := by omega
  have hNB : B ≠ w.heap.size := by omega
  have hNG : g ≠ w.heap.size := by omega
  clear h h1 ec hA0 b1
  go_enter Try.func24, Try.ntmps24
  go_wp2_with (first | (go_at_call 26; refine hL.mono ?_; rintro e w1 ⟨rfl, rfl⟩))
  generalize (w.alloc (.cells #[.string ⟨#[]⟩, I 0] 42)) = W at *
  go_region_held_law (fun w' => w'.cell? ⟨B, 1, none⟩ = some (.slice (some ⟨g, 0, none⟩) n n) ∧ w'.cell? ⟨g, f * 2, none⟩ = some (.string x.1) ∧ w'.cell? ⟨g, f * 2 + 1, none⟩ = some (I x.2))
    (first | exact ⟨c1, d1, d2⟩ | exact ⟨y1, x2, x3⟩ | exact ⟨(cell_set_ne hNB).trans ((cell_set_ne hNB).trans y1), (cell_set_ne hNG).trans ((cell_set_ne hNG).trans x2), (cell_set_ne hNG).trans ((cell_set_ne hNG).trans x3)⟩ | (go_keep; done))
    (first | (go_at_call 49; refine hp.mono ?_; rintro e w2 ⟨rfl, b2, x2, x3, HA2, y1, y2, y3, y4⟩))
  all_goals
    go_wp2
    have hA5 := heap_setCell_same _ w.heap.size 1 _ _ (I x.2) (heap_setCell_same w2 w.heap.size 0 _ _ (.string x.1) HA2.out)
    have e0 : ((w2.setCell ⟨w.heap.size, 0, none⟩ (.string x.1)).setCell ⟨w.heap.size, 1, none⟩ (I x.2)).cell? ⟨w.heap.size, 0, none⟩ = some (.string x.1) := by rw [cell_of_row _ _ _ _ _ (0, 0) hA5]; rfl
    have e1 : ((w2.setCell ⟨w.heap.size, 0, none⟩ (.string x.1)).setCell ⟨w.heap.size, 1, none⟩ (I x.2)).cell? ⟨w.heap.size, 1, none⟩ = some (I x.2) := by rw [cell_of_row _ _ _ _ _ (0, 0) hA5]; rfl
    have b5 : Below w.heap.size w ((w2.setCell ⟨w.heap.size, 0, none⟩ (.string x.1)).setCell ⟨w.heap.size, 1, none⟩ (I x.2)) := (b2.setCell (p := ⟨w.heap.size, 0, none⟩) (Nat.le_refl _) _).setCell (p := ⟨w.heap.size, 1, none⟩) (Nat.le_refl _) _
    generalize ((w2.setCell ⟨w.heap.size, 0, none⟩ (.string x.1)).setCell ⟨w.heap.size, 1, none⟩ (I x.2)) = W9 at *
    exact bodyPost_ret (v := .tuple #[tV x, .bool true]) (by simp [results, Try.results24, go_sem, e0, e1]) rfl ⟨rfl, b5⟩
set_option maxRecDepth 100000 in
theorem tTake_no (h : tRg w B g n f hi R []) : Calls Try.prog 22 #[tP B] w fun e w' => e = .returned (.tuple #[.agg #[.string ⟨#[]⟩, I 0], I 122]) ∧ Below w.heap.size w w' := by
  have b1 := below_alloc w (.cells #[.string ⟨#[]⟩, I 0] 42)
  have b2 := b1.alloc (by simp) (.cells #[.string ⟨#[]⟩, I 0] 42)
  have hN := tnone_any (h.below b2)
  have c3 := (h.below b2).cells.2.2.2.1
  go_enter Try.func22, Try.ntmps22
  go_wp2_with (first | (go_at_call 51; refine hN.mono ?_; rintro e w1 ⟨rfl, rfl⟩))
  exact bodyPost_ret (v := .tuple #[.agg #[.string ⟨#[]⟩, I 0], I 122]) (by simp [results, Try.results22, go_sem]) rfl ⟨rfl, b2⟩
set_option maxRecDepth 100000 in
set_option maxHeartbeats 4000000 in
theorem tTake_ok (x : Tx) (h : tRg w B g n f hi R (x :: l)) : Calls Try.prog 22 #[tP B] w fun e w' => e = .returned (.tuple #[tV x, I 0]) ∧ tRg w' B g n ((f + 1) % n) hi (R.set f zx) l ∧ Fx [B, g] w w' := by
  have hm := h.m
  have hle := h.lle
  simp only [List.length_cons] at hle
  have hf := h.flt (by omega)
  have hlt := h.lts
  have b1 := below_alloc w (.cells #[.string ⟨#[]⟩, I 0] 42)
  have b2 := b1.alloc (by simp) (.cells #[.string ⟨#[]⟩, I 0] 42)
  have hA1 := heap_over _ (.cells #[.string ⟨#[]⟩, I 0] 42) (heap_alloc_new w (.cells #[.string ⟨#[]⟩, I 0] 42))
  have hA2 := heap_alloc_new (w.alloc (.cells #[.string ⟨#[]⟩, I 0] 42)) (.cells #[.string ⟨#[]⟩, I 0] 42)
  rw [World.size_alloc] at hA2
  have h2 := h.below b2
  have F2 : Fx [B, g] w ((w.alloc (.cells #[.string ⟨#[]⟩, I 0] 42)).alloc (.cells #[.string ⟨#[]⟩, I 0] 42)) := Fx.of_below b2
  obtain ⟨-, c1, c2, c3, -⟩ := h2.cells
  have ec : (((x :: l).length : Nat) : Int) = (l.length : Int) + 1 := by simp
  rw [ec] at c3
  obtain ⟨d1, d2⟩ := h2.at h2.r.hd
  have hx0 : ¬ ((f : Int) < 0) := by omega
  have hx1 : (f : Int) < n := by omega
  have hx2 : ¬ ((l.length : Int) + 1 = 0) := by omega
  have hN := tnone_any h2
  have hNE := h.ne
  have n1 : B ≠ w.heap.size + 1 := by omega
  have n2 : g ≠ w.heap.size + 1 := by omega
  clear h ec b1 b2
  go_enter Try.func22, Try.ntmps22
  go_wp2_with (first | (go_at_call 51; refine hN.mono ?_; rintro e w1 ⟨rfl, rfl⟩))
  generalize ((w.alloc (.cells #[.string ⟨#[]⟩, I 0] 42)).alloc (.cells #[.string ⟨#[]⟩, I 0] 42)) = W at *
  have a0 : W.cell? ⟨w.heap.size + 1, 0, none⟩ = some (.string ⟨#[]⟩) := by rw [cell_of_row W _ _ _ _ (0, 0) hA2]; rfl
  have a1 : W.cell? ⟨w.heap.size + 1, 1, none⟩ = some (I 0) := by rw [cell_of_row W _ _ _ _ (0, 0) hA2]; rfl
  have az : ∀ j, W.frozen? ⟨w.heap.size + 1, j, none⟩ = false := fun j => frozen_of_row W _ j _ _ hA2
  go_region_held_law (fun w' => w'.cell? ⟨B, 1, none⟩ = some (.slice (some ⟨g, 0, none⟩) n n) ∧ w'.cell? ⟨B, 2, none⟩ = some (I f) ∧ w'.cell? ⟨g, f * 2, none⟩ = some (.string x.1) ∧ w'.cell? ⟨g, f * 2 + 1, none⟩ = some (I x.2))
    (first | exact ⟨c1, c2, d1, d2⟩ | exact ⟨(cell_set_ne n1).trans ((cell_set_ne n1).trans c1), (cell_set_ne n1).trans ((cell_set_ne n1).trans c2), (cell_set_ne n2).trans ((cell_set_ne n2).trans d1), (cell_set_ne n2).trans ((cell_set_ne n2).trans d2)⟩ | (go_keep; done))
    (fail)
  have hX := h2.kept (bs := [w.heap.size + 1]) (w' := ((W.setCell ⟨w.heap.size + 1, 0, none⟩ (.string x.1)).setCell ⟨w.heap.size + 1, 1, none⟩ (I x.2)).drew) ((((Fx.refl _ _).set (b := w.heap.size + 1) (.inl (by simp)) _ _).set (b := w.heap.size + 1) (.inl (by simp)) _ _).drewN 1) (by simpa using n1) (by simpa using n2)
  have FX : Fx [B, g] w ((W.setCell ⟨w.heap.size + 1, 0, none⟩ (.string x.1)).setCell ⟨w.heap.size + 1, 1, none⟩ (I x.2)).drew := (((F2.set (b := w.heap.size + 1) (.inr (by omega)) _ _).set (b := w.heap.size + 1) (.inr (by omega)) _ _).drewN 1)
  have hA5 : ((W.setCell ⟨w.heap.size + 1, 0, none⟩ (.string x.1)).setCell ⟨w.heap.size + 1, 1, none⟩ (I x.2)).drew.heap[w.heap.size + 1]? = some (.cells #[.string x.1, I x.2] 42) := heap_setCell_same _ (w.heap.size + 1) 1 _ _ (I x.2) (heap_setCell_same W (w.heap.size + 1) 0 _ _ (.string x.1) hA2)
  have hA4 : ((W.setCell ⟨w.heap.size + 1, 0, none⟩ (.string x.1)).setCell ⟨w.heap.size + 1, 1, none⟩ (I x.2)).drew.heap[w.heap.size]? = some (.cells #[.string ⟨#[]⟩, I 0] 42) := (heap_setCell_other _ ⟨w.heap.size + 1, 1, none⟩ w.heap.size _ (by show w.heap.size ≠ w.heap.size + 1; omega)).trans ((heap_setCell_other W ⟨w.heap.size + 1, 0, none⟩ w.heap.size _ (by show w.heap.size ≠ w.heap.size + 1; omega)).trans hA1)
  clear c1 c2 c3 d1 d2 a0 a1 az hN h2 F2 hA1 hA2
  generalize ((W.setCell ⟨w.heap.size + 1, 0, none⟩ (.string x.1)).setCell ⟨w.heap.size + 1, 1, none⟩ (I x.2)).drew = X at *
  obtain ⟨-, c1, c2, c3, -⟩ := hX.cells
  have hs := tsl_one g n f hf
  have hcl := tclear_run (w := X.drew) hX.q f (n - f) (by rw [hX.k]; omega)
  have hwr : IntKind.i64.wrap ((f : Int) + 1) = (f : Int) + 1 := by rw [IntKind.wrap_i64]; omega
  go_wp2
  go_region_held_law (fun w' => w'.cell? ⟨B, 1, none⟩ = some (.slice (some ⟨g, 0, none⟩) n n) ∧ w'.cell? ⟨B, 2, none⟩ = some (I f))
    (first | exact ⟨c1, c2⟩ | exact ⟨(cell_set_ne hNE).trans ((cell_set_ne hNE).trans c1), (cell_set_ne hNE).trans ((cell_set_ne hNE).trans c2)⟩ | (go_keep; done))
    (first | (refine step_clear rfl (.tmp 37) 36 rfl (.slice (some ⟨g, f * 2, none⟩) 1 (n - f)) (by simp [Act.eval, Act.put]) _ hcl ?_))
  have hset : X.drew.setCells g (f * 2) [.string ⟨#[]⟩, .int .i64 0] = (X.drew.setCell ⟨g, f * 2, none⟩ (.string ⟨#[]⟩)).setCell ⟨g, f * 2 + 1, none⟩ (I 0) := rfl
  try rw [hset]
  clear hset
  have hG3 : ((X.drew.setCell ⟨g, f * 2, none⟩ (.string ⟨#[]⟩)).setCell ⟨g, f * 2 + 1, none⟩ (I 0)).heap[g]? = some (.cells (flat (R.set f zx)).toArray 42) := by
    have := heap_setCell_same _ g (f * 2 + 1) _ _ (I 0) (heap_setCell_same X.drew g (f * 2) _ _ (.string ⟨#[]⟩) hX.q)
    rw [this, flat_set]; simp [zx]
  have hB3 : ((X.drew.setCell ⟨g, f * 2, none⟩ (.string ⟨#[]⟩)).setCell ⟨g, f * 2 + 1, none⟩ (I 0)).heap[B]? = some (.cells #[.bool true, .slice (some ⟨g, 0, none⟩) n n, I f, I ((l.length : Int) + 1), I hi] 84) := by
    have := (heap_setCell_other _ ⟨g, f * 2 + 1, none⟩ B (I 0) hNE).trans ((heap_setCell_other X.drew ⟨g, f * 2, none⟩ B (.string ⟨#[]⟩) hNE).trans hX.o)
    rw [this]; simp
  have F3 : Fx [B, g] w ((X.drew.setCell ⟨g, f * 2, none⟩ (.string ⟨#[]⟩)).setCell ⟨g, f * 2 + 1, none⟩ (I 0)) := ((FX.drewN 1).set (b := g) (.inl (by simp)) _ _).set (b := g) (.inl (by simp)) _ _
  have hA6 : ((X.drew.setCell ⟨g, f * 2, none⟩ (.string ⟨#[]⟩)).setCell ⟨g, f * 2 + 1, none⟩ (I 0)).heap[w.heap.size + 1]? = some (.cells #[.string x.1, I x.2] 42) := (heap_setCell_other _ ⟨g, f * 2 + 1, none⟩ (w.heap.size + 1) (I 0) (fun e => n2 e.symm)).trans ((heap_setCell_other X.drew ⟨g, f * 2, none⟩ (w.heap.size + 1) _ (fun e => n2 e.symm)).trans hA5)
  have hA7 : ((X.drew.setCell ⟨g, f * 2, none⟩ (.string ⟨#[]⟩)).setCell ⟨g, f * 2 + 1, none⟩ (I 0)).heap[w.heap.size]? = some (.cells #[.string ⟨#[]⟩, I 0] 42) := (heap_setCell_other _ ⟨g, f * 2 + 1, none⟩ w.heap.size (I 0) (by show w.heap.size ≠ g; omega)).trans ((heap_setCell_other X.drew ⟨g, f * 2, none⟩ w.heap.size _ (by show w.heap.size ≠ g; omega)).trans hA4)
  have HK : Hid (Rw (R.set f zx) ((f + 1) % n) l ∧ R.length = n ∧ (l.length + 1 ≤ hi ∧ hi ≤ n)) := by
    have r := hX.r.take zx
    rw [hX.k] at r
    exact ⟨r, hX.k, by have := hX.y; simpa using this⟩
  clear c1 c2 c3 hs hcl hwr hX FX hA4 hA5
  generalize ((X.drew.setCell ⟨g, f * 2, none⟩ (.string ⟨#[]⟩)).setCell ⟨g, f * 2 + 1, none⟩ (I 0)) = Y at *
  have c1 : Y.cell? ⟨B, 1, none⟩ = some (.slice (some ⟨g, 0, none⟩) n n) := by rw [cell_of_row Y B _ _ _ (0, 0) hB3]; rfl
  have c2 : Y.cell? ⟨B, 2, none⟩ = some (I f) := by rw [cell_of_row Y B _ _ _ (0, 0) hB3]; rfl
  have hp := (tplace_raw Y B g n f 1 c1 c2 hm hf (by omega)).mono (R' := fun e w' => e = .returned (I ((f + 1) % n : Nat)) ∧ Hid (w'.heap[B]? = some (.cells #[.bool true, .slice (some ⟨g, 0, none⟩) n n, I f, I ((l.length : Int) + 1), I hi] 84)) ∧ Hid (w'.heap[g]? = some (.cells (flat (R.set f zx)).toArray 42)) ∧ Fx [B, g] w w' ∧ Hid (w'.heap[w.heap.size + 1]? = some (.cells #[.string x.1, I x.2] 42)) ∧ Hid (w'.heap[w.heap.size]? = some (.cells #[.string ⟨#[]⟩, I 0] 42)) ∧ (w'.cell? ⟨B, 2, none⟩ = some (I f) ∧ w'.cell? ⟨B, 3, none⟩ = some (I ((l.length : Int) + 1)) ∧ (∀ j, w'.frozen? ⟨B, j, none⟩ = false) ∧ w'.cell? ⟨w.heap.size + 1, 0, none⟩ = some (.string x.1) ∧ w'.cell? ⟨w.heap.size + 1, 1, none⟩ = some (I x.2) ∧ w'.cell? ⟨w.heap.size, 0, none⟩ = some (.string ⟨#[]⟩) ∧ w'.cell? ⟨w.heap.size, 1, none⟩ = some (I 0) ∧ (∀ j, w'.frozen? ⟨w.heap.size, j, none⟩ = false))) (fun e w' ⟨k, q2, hq⟩ => by
    subst hq
    have F0 : Fx [B, g] Y (Y.drewN q2) := (Fx.refl _ _).drewN q2
    have b0 := (below_drewN q2 (Below.refl Y.heap.size Y)).block
    have hB := (b0 B (heap_lt hB3)).trans hB3
    have hG := (b0 g (heap_lt hG3)).trans hG3
    have hA := (b0 _ (heap_lt hA6)).trans hA6
    have hZ := (b0 _ (heap_lt hA7)).trans hA7
    exact ⟨k, hB, hG, F3.trans F0, hA, hZ, by rw [cell_of_row _ B _ _ _ (0, 0) hB]; rfl, by rw [cell_of_row _ B _ _ _ (0, 0) hB]; rfl, fun j => frozen_of_row _ B j _ _ hB, by rw [cell_of_row _ _ _ _ _ (0, 0) hA]; rfl, by rw [cell_of_row _ _ _ _ _ (0, 0) hA]; rfl, by rw [cell_of_row _ _ _ _ _ (0, 0) hZ]; rfl, by rw [cell_of_row _ _ _ _ _ (0, 0) hZ]; rfl, fun j => frozen_of_row _ _ j _ _ hZ⟩)
  clear c1 c2 hB3 hG3 F3 hA6 hA7
  generalize hpp : (f + 1) % n = p at *
  have HP : Hid ((f + 1) % n = p) := hpp
  have n3 : B ≠ w.heap.size := by omega
  have n4 : g ≠ w.heap.size := by omega
  clear hpp
  go_wp2_with (go_at_call 49; refine hp.mono ?_; rintro e w4 ⟨rfl, hB4, hG4, F4, hA4, hZ4, x2, x3, z4, u0, u1, v0, v1, z5⟩)
  obtain ⟨r, hk, hy1, hy2⟩ := HK.out
  have hBQ : ((((w4.setCell ⟨B, 2, none⟩ (I p)).setCell ⟨B, 3, none⟩ (I l.length)).setCell ⟨w.heap.size, 0, none⟩ (.string x.1)).setCell ⟨w.heap.size, 1, none⟩ (I x.2)).heap[B]? = some (.cells #[.bool true, .slice (some ⟨g, 0, none⟩) n n, I p, I l.length, I hi] 84) := by
    rw [heap_setCell_other _ ⟨w.heap.size, 1, none⟩ B _ n3, heap_setCell_other _ ⟨w.heap.size, 0, none⟩ B _ n3, heap_setCell_same _ B 3 _ _ (I l.length) (heap_setCell_same w4 B 2 _ _ (I p) hB4.out)]
    simp
  have hGQ : ((((w4.setCell ⟨B, 2, none⟩ (I p)).setCell ⟨B, 3, none⟩ (I l.length)).setCell ⟨w.heap.size, 0, none⟩ (.string x.1)).setCell ⟨w.heap.size, 1, none⟩ (I x.2)).heap[g]? = some (.cells (flat (R.set f zx)).toArray 42) := by
    rw [heap_setCell_other _ ⟨w.heap.size, 1, none⟩ g _ n4, heap_setCell_other _ ⟨w.heap.size, 0, none⟩ g _ n4, heap_setCell_other _ ⟨B, 3, none⟩ g _ (fun e => hNE e.symm), heap_setCell_other _ ⟨B, 2, none⟩ g _ (fun e => hNE e.symm)]
    exact hG4.out
  have hZ5 : ((w4.setCell ⟨B, 2, none⟩ (I p)).setCell ⟨B, 3, none⟩ (I l.length)).heap[w.heap.size]? = some (.cells #[.string ⟨#[]⟩, I 0] 42) := by
    rw [heap_setCell_other _ ⟨B, 3, none⟩ w.heap.size _ (fun e => n3 e.symm), heap_setCell_other _ ⟨B, 2, none⟩ w.heap.size _ (fun e => n3 e.symm)]
    exact hZ4.out
  have hAQ := heap_setCell_same _ w.heap.size 1 _ _ (I x.2) (heap_setCell_same _ w.heap.size 0 _ _ (.string x.1) hZ5)
  have e0 : ((((w4.setCell ⟨B, 2, none⟩ (I p)).setCell ⟨B, 3, none⟩ (I l.length)).setCell ⟨w.heap.size, 0, none⟩ (.string x.1)).setCell ⟨w.heap.size, 1, none⟩ (I x.2)).cell? ⟨w.heap.size, 0, none⟩ = some (.string x.1) := by rw [cell_of_row _ _ _ _ _ (0, 0) hAQ]; rfl
  have e1 : ((((w4.setCell ⟨B, 2, none⟩ (I p)).setCell ⟨B, 3, none⟩ (I l.length)).setCell ⟨w.heap.size, 0, none⟩ (.string x.1)).setCell ⟨w.heap.size, 1, none⟩ (I x.2)).cell? ⟨w.heap.size, 1, none⟩ = some (I x.2) := by rw [cell_of_row _ _ _ _ _ (0, 0) hAQ]; rfl
  have FQ : Fx [B, g] w ((((w4.setCell ⟨B, 2, none⟩ (I p)).setCell ⟨B, 3, none⟩ (I l.length)).setCell ⟨w.heap.size, 0, none⟩ (.string x.1)).setCell ⟨w.heap.size, 1, none⟩ (I x.2)) := (((F4.set (b := B) (.inl (by simp)) _ _).set (b := B) (.inl (by simp)) _ _).set (b := w.heap.size) (.inr (Nat.le_refl _)) _ _).set (b := w.heap.size) (.inr (Nat.le_refl _)) _ _
  clear hAQ hZ5 x2 x3 z4 u0 u1 v0 v1 z5 hp
  generalize ((((w4.setCell ⟨B, 2, none⟩ (I p)).setCell ⟨B, 3, none⟩ (I l.length)).setCell ⟨w.heap.size, 0, none⟩ (.string x.1)).setCell ⟨w.heap.size, 1, none⟩ (I x.2)) = Q9 at *
  refine bodyPost_ret (v := .tuple #[tV x, I 0]) (by simp [results, Try.results22, go_sem, e0, e1]) rfl ⟨rfl, ?_, FQ⟩
  rw [HP.out]
  exact ⟨hBQ, hGQ, by simpa using hk, hm, HP.out ▸ r, ⟨by omega, hy2⟩, hNE⟩
end
end Go.Proofs.Ytlbkbnhnklaebaa
