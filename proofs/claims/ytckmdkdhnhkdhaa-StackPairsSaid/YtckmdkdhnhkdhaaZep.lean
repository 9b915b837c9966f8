import Derived.Test.YtckmdkdhnhkdhaaZdp
namespace Go.Proofs.Ytckmdkdhnhkdhaa
open Go.RowKit
set_option linter.unusedVariables false
set_option linter.unusedSimpArgs false

/-! ### Stacks of pairs: keep, Pop -/
theorem pelem_sz (w : World) : (sizeOf (Try.prog.elem 36)).run Try.prog w = .ok 2 w := by
  obtain ⟨i0, hi, hz0, hz1, hz2⟩ := info_parts pinfo
  have : Try.prog.elem 36 = 42 := by kernel_rfl
  rw [this]
  simp [sizeOf, typeInfo, hi, hz1]
theorem pundS : Try.prog.underlying 36 = some (.slice (Try.prog.elem 36)) := by kernel_rfl
theorem psl_one (g n k : Nat) (h : k < n) (wx : World) :
    (Instr.slice 36 (.slice (some ⟨g, 0, none⟩) n n) (some (I k)) (some (I ((k : Int) + 1))) none).run Try.prog wx = .ok (.slice (some ⟨g, k * 2, none⟩) 1 (n - k)) wx := by
  rw [run_slice_lh wx 36 _ n n pundS .i64 .i64 (k : Int) ((k : Int) + 1) (by omega) (by omega) (by omega), pelem_sz]
  have e1 : ((k : Int)).toNat = k := by omega
  have e2 : ((k : Int) + 1).toNat = k + 1 := by omega
  simp only [Result.andThen, sliced, e1, e2, Option.map_some, Nat.add_sub_cancel_left, addr_add, Nat.zero_add]
  rw [if_neg (by omega)]
theorem pclear_run {w : World} {g : Nat} {R : List Pa} (hq : w.heap[g]? = some (.cells (flat R).toArray 42)) (k c : Nat) (h : k < R.length) (ty : TypeId) :
    (Builtin.clear_ #[36] ty #[.slice (some ⟨g, k * 2, none⟩) 1 c]).run Try.prog w = .ok (.tuple #[]) (w.setCells g (k * 2) [.int .i64 0, .string ⟨#[]⟩]) := by
  have ht := Try.underlying36
  have hv : ∀ w, (zeroValue 42).run Try.prog w = .ok (.agg #[.int .i64 0, .string ⟨#[]⟩]) w := fun w => by kernel_rfl
  have hzc : (Builtin.zeroCells (Value.cells (.agg #[.int .i64 0, .string ⟨#[]⟩])) 1).toList = [.int .i64 0, .string ⟨#[]⟩] := by kernel_rfl
  have hl := flat_len R
  have hst := run_storeCells_cells (P := Try.prog) g (k * 2) [.int .i64 0, .string ⟨#[]⟩] 0 w (fun j hj => by
      rw [cell_of_row w g _ _ _ (0, 0) hq]
      simp at hj ⊢; omega) (fun j hj => frozen_of_row w g _ _ _ hq) (by intro v hv'; simp at hv'; rcases hv' with rfl | rfl <;> rfl)
  simp only [Nat.add_zero] at hst
  simp [Builtin.clear_, run_underlying ht, hv, hzc, hst]
section
variable {w : World} {B g n hi : Nat} {R l : List Pa}
set_option maxHeartbeats 4000000 in
set_option maxRecDepth 100000 in
theorem pkeep_any (x : Pa) (h : pSk w B g n hi R (l ++ [x])) : Calls Try.prog 47 #[pP B, I l.length] w fun e w' => e = .returned (.tuple #[]) ∧ (∃ R', pSk w' B g n hi R' l) ∧ Fx [B, g] w w' := by
  obtain ⟨-, c1, c2, -⟩ := h.cells
  have ee : (l ++ [x]).length = l.length + 1 := by simp
  have hle := h.lle
  have hNE := h.ne
  rw [ee] at hle c2
  have e2 : ((l.length + 1 : Nat) : Int) = (l.length : Int) + 1 := by omega
  rw [e2] at c2
  have hs := psl_one g n l.length (by omega)
  have hcl := pclear_run (w := w.drew) (R := R) h.q l.length (n - l.length) (by rw [h.k]; omega)
  have hset : w.drew.setCells g (l.length * 2) [.int .i64 0, .string ⟨#[]⟩] = (w.drew.setCell ⟨g, l.length * 2, none⟩ (I 0)).setCell ⟨g, l.length * 2 + 1, none⟩ (.string ⟨#[]⟩) := rfl
  rw [hset] at hcl
  have hB3 : ((w.drew.setCell ⟨g, l.length * 2, none⟩ (I 0)).setCell ⟨g, l.length * 2 + 1, none⟩ (.string ⟨#[]⟩)).heap[B]? = some (.cells #[.bool true, .slice (some ⟨g, 0, none⟩) n n, I ((l.length : Int) + 1), I hi] 86) := by
    have := (heap_setCell_other _ ⟨g, l.length * 2 + 1, none⟩ B (.string ⟨#[]⟩) hNE).trans ((heap_setCell_other w.drew ⟨g, l.length * 2, none⟩ B (I 0) hNE).trans h.o)
    rw [this, ee, e2]
  have hG3 : ((w.drew.setCell ⟨g, l.length * 2, none⟩ (I 0)).setCell ⟨g, l.length * 2 + 1, none⟩ (.string ⟨#[]⟩)).heap[g]? = some (.cells (flat (R.set l.length zx)).toArray 42) := by
    have := heap_setCell_same _ g (l.length * 2 + 1) _ _ (.string ⟨#[]⟩) (heap_setCell_same w.drew g (l.length * 2) _ _ (I 0) h.q)
    rw [this, flat_set]; simp [zx]
  have F3 : Fx [B, g] w ((w.drew.setCell ⟨g, l.length * 2, none⟩ (I 0)).setCell ⟨g, l.length * 2 + 1, none⟩ (.string ⟨#[]⟩)) := (((Fx.refl _ _).drewN 1).set (b := g) (.inl (by simp)) _ _).set (b := g) (.inl (by simp)) _ _
  generalize ((w.drew.setCell ⟨g, l.length * 2, none⟩ (I 0)).setCell ⟨g, l.length * 2 + 1, none⟩ (.string ⟨#[]⟩)) = w3 at *
  have k1 : w3.cell? ⟨B, 1, none⟩ = some (.slice (some ⟨g, 0, none⟩) n n) := by rw [cell_of_row w3 B _ _ _ (0, 0) hB3]; rfl
  have k2 : w3.cell? ⟨B, 2, none⟩ = some (I ((l.length : Int) + 1)) := by rw [cell_of_row w3 B _ _ _ (0, 0) hB3]; rfl
  have z3 : ∀ j, w3.frozen? ⟨B, j, none⟩ = false := fun j => frozen_of_row w3 B j _ _ hB3
  have HH : Hid (pSk w B g n hi R (l ++ [x])) := h
  have HB : Hid (w3.heap[B]? = some (.cells #[.bool true, .slice (some ⟨g, 0, none⟩) n n, I ((l.length : Int) + 1), I hi] 86)) := hB3
  have HG : Hid (w3.heap[g]? = some (.cells (flat (R.set l.length zx)).toArray 42)) := hG3
  clear hB3 hG3 h ee e2 hset
  go_enter Try.func47, Try.ntmps47
  go_wp2
  go_region_held_law (fun w' => w'.cell? ⟨B, 1, none⟩ = some (.slice (some ⟨g, 0, none⟩) n n) ∧ w'.cell? ⟨B, 2, none⟩ = some (I ((l.length : Int) + 1)))
    (first | exact ⟨c1, c2⟩ | exact ⟨k1, k2⟩ | (go_keep; done))
    (first | (refine step_clear rfl (.tmp 13) 36 rfl (.slice (some ⟨g, l.length * 2, none⟩) 1 (n - l.length)) (by simp [Act.eval, Act.put]) _ hcl ?_))
  go_wp2
  refine bodyPost_end (v := .tuple #[]) (by simp [results, Try.results47, go_sem]) rfl ?_
  have h := HH.out
  have hB5 := heap_setCell_same w3 B 2 _ _ (I l.length) HB.out
  have hy := h.y
  rw [List.length_append, List.length_singleton] at hy
  refine ⟨rfl, ⟨R.set l.length zx, by rw [hB5]; simp, (heap_setCell_other _ ⟨B, 2, none⟩ g _ (fun e => hNE e.symm)).trans HG.out, by simpa using h.k, h.m, ?_, by omega, hNE⟩, F3.set (b := B) (.inl (by simp)) _ _⟩
  have hr := h.r
  rw [List.length_append, List.length_singleton] at hr
  have := congrArg (List.take l.length) hr
  rw [List.take_take, Nat.min_eq_left (Nat.le_succ _), List.take_left] at this
  rw [List.take_set_of_le (Nat.le_refl _)]
  exact this
set_option maxRecDepth 100000 in
theorem pPop_no (h : pSk w B g n hi R []) : Calls Try.prog 22 #[pP B] w fun e w' => e = .returned (.tuple #[.agg #[I 0, .string ⟨#[]⟩], I 142]) ∧ Below w.heap.size w w' := by
  have b1 := below_alloc w (.cells #[I 0, .string ⟨#[]⟩] 42)
  have b2 := b1.alloc (by simp) (.cells #[I 0, .string ⟨#[]⟩] 42)
  have hN := pnone_any (h.below b2)
  have c3 := (h.below b2).cells.2.2.1
  go_enter Try.func22, Try.ntmps22
  go_wp2_with (first | (go_at_call 45; refine hN.mono ?_; rintro e w1 ⟨rfl, rfl⟩))
  exact bodyPost_ret (v := .tuple #[.agg #[I 0, .string ⟨#[]⟩], I 142]) (by simp [results, Try.results22, go_sem]) rfl ⟨rfl, b2⟩
set_option maxRecDepth 100000 in
set_option maxHeartbeats 4000000 in
theorem pPop_ok (x : Pa) (h : pSk w B g n hi R (l ++ [x])) : Calls Try.prog 22 #[pP B] w fun e w' => e = .returned (.tuple #[pV x, I 0]) ∧ (∃ R', pSk w' B g n hi R' l) ∧ Fx [B, g] w w' := by
  have ee : (l ++ [x]).length = l.length + 1 := by simp
  have hle := h.lle
  rw [ee] at hle
  have hm := h.m
  have hlt := h.lts
  have b1 := below_alloc w (.cells #[I 0, .string ⟨#[]⟩] 42)
  have b2 := b1.alloc (by simp) (.cells #[I 0, .string ⟨#[]⟩] 42)
  have hA1 := heap_over _ (.cells #[I 0, .string ⟨#[]⟩] 42) (heap_alloc_new w (.cells #[I 0, .string ⟨#[]⟩] 42))
  have hA2 := heap_alloc_new (w.alloc (.cells #[I 0, .string ⟨#[]⟩] 42)) (.cells #[I 0, .string ⟨#[]⟩] 42)
  rw [World.size_alloc] at hA2
  have h2 := h.below b2
  have F2 : Fx [B, g] w ((w.alloc (.cells #[I 0, .string ⟨#[]⟩] 42)).alloc (.cells #[I 0, .string ⟨#[]⟩] 42)) := Fx.of_below b2
  obtain ⟨-, c1, c3, -⟩ := h2.cells
  rw [ee] at c3
  have e2 : ((l.length + 1 : Nat) : Int) = (l.length : Int) + 1 := by omega
  rw [e2] at c3
  obtain ⟨d1, d2⟩ := h2.at (j := l.length) (v := x) (by simp)
  have hN := pnone_any h2
  have hx2 : ¬ ((l.length : Int) + 1 = 0) := by omega
  have hx0 : ¬ ((l.length : Int) < 0) := by omega
  have hx1 : (l.length : Int) < n := by omega
  have hNE := h.ne
  have n1 : B ≠ w.heap.size + 1 := by omega
  have n2 : g ≠ w.heap.size + 1 := by omega
  clear h ee e2 b1 b2
  go_enter Try.func22, Try.ntmps22
  go_wp2_with (first | (go_at_call 45; refine hN.mono ?_; clear hN; rintro e w1 ⟨rfl, rfl⟩))
  generalize ((w.alloc (.cells #[I 0, .string ⟨#[]⟩] 42)).alloc (.cells #[I 0, .string ⟨#[]⟩] 42)) = W at *
  have a0 : W.cell? ⟨w.heap.size + 1, 0, none⟩ = some (I 0) := by rw [cell_of_row W _ _ _ _ (0, 0) hA2]; rfl
  have a1 : W.cell? ⟨w.heap.size + 1, 1, none⟩ = some (.string ⟨#[]⟩) := by rw [cell_of_row W _ _ _ _ (0, 0) hA2]; rfl
  have az : ∀ j, W.frozen? ⟨w.heap.size + 1, j, none⟩ = false := fun j => frozen_of_row W _ j _ _ hA2
  have hwr : IntKind.i64.wrap ((l.length : Int) + 1 - 1) = (l.length : Int) := by rw [IntKind.wrap_i64]; omega
  have hwr2 : IntKind.i64.wrap (l.length : Int) = (l.length : Int) := by rw [IntKind.wrap_i64]; omega
  go_region_held_law (fun w' => w'.cell? ⟨B, 1, none⟩ = some (.slice (some ⟨g, 0, none⟩) n n) ∧ w'.cell? ⟨B, 2, none⟩ = some (I ((l.length : Int) + 1)) ∧ w'.cell? ⟨g, l.length * 2, none⟩ = some (I x.1) ∧ w'.cell? ⟨g, l.length * 2 + 1, none⟩ = some (.string x.2))
    (first | exact ⟨c1, c3, d1, d2⟩ | exact ⟨(cell_set_ne n1).trans ((cell_set_ne n1).trans c1), (cell_set_ne n1).trans ((cell_set_ne n1).trans c3), (cell_set_ne n2).trans ((cell_set_ne n2).trans d1), (cell_set_ne n2).trans ((cell_set_ne n2).trans d2)⟩ | (go_keep; done))
    (fail)
  have hX := h2.kept (bs := [w.heap.size + 1]) (w' := ((W.setCell ⟨w.heap.size + 1, 0, none⟩ (I x.1)).setCell ⟨w.heap.size + 1, 1, none⟩ (.string x.2)).drew) ((((Fx.refl _ _).set (b := w.heap.size + 1) (.inl (by simp)) _ _).set (b := w.heap.size + 1) (.inl (by simp)) _ _).drewN 1) (by simpa using n1) (by simpa using n2)
  have FX : Fx [B, g] w ((W.setCell ⟨w.heap.size + 1, 0, none⟩ (I x.1)).setCell ⟨w.heap.size + 1, 1, none⟩ (.string x.2)).drew := (((F2.set (b := w.heap.size + 1) (.inr (by omega)) _ _).set (b := w.heap.size + 1) (.inr (by omega)) _ _).drewN 1)
  have hA5 : ((W.setCell ⟨w.heap.size + 1, 0, none⟩ (I x.1)).setCell ⟨w.heap.size + 1, 1, none⟩ (.string x.2)).drew.heap[w.heap.size + 1]? = some (.cells #[I x.1, .string x.2] 42) := heap_setCell_same _ (w.heap.size + 1) 1 _ _ (.string x.2) (heap_setCell_same W (w.heap.size + 1) 0 _ _ (I x.1) hA2)
  have hA4 : ((W.setCell ⟨w.heap.size + 1, 0, none⟩ (I x.1)).setCell ⟨w.heap.size + 1, 1, none⟩ (.string x.2)).drew.heap[w.heap.size]? = some (.cells #[I 0, .string ⟨#[]⟩] 42) := (heap_setCell_other _ ⟨w.heap.size + 1, 1, none⟩ w.heap.size _ (by show w.heap.size ≠ w.heap.size + 1; omega)).trans ((heap_setCell_other W ⟨w.heap.size + 1, 0, none⟩ w.heap.size _ (by show w.heap.size ≠ w.heap.size + 1; omega)).trans hA1)
  clear c1 c3 d1 d2 a0 a1 az h2 F2 hA1 hA2 hwr hwr2
  generalize ((W.setCell ⟨w.heap.size + 1, 0, none⟩ (I x.1)).setCell ⟨w.heap.size + 1, 1, none⟩ (.string x.2)).drew = X at *
  have c2 : X.cell? ⟨B, 2, none⟩ = some (I ((l.length : Int) + 1)) := by have := hX.cells.2.2.1; rw [List.length_append, List.length_singleton] at this; rw [this]; simp
  have hlX : w.heap.size + 1 < X.heap.size := heap_lt hA5
  have hK := (pkeep_any x hX).mono (R' := fun e w' => e = .returned (.tuple #[]) ∧ Hid ((∃ R', pSk w' B g n hi R' l) ∧ Fx [B, g] w w' ∧ w'.heap[w.heap.size]? = some (.cells #[I 0, .string ⟨#[]⟩] 42)) ∧ w'.cell? ⟨w.heap.size + 1, 0, none⟩ = some (I x.1) ∧ w'.cell? ⟨w.heap.size + 1, 1, none⟩ = some (.string x.2) ∧ w'.cell? ⟨w.heap.size, 0, none⟩ = some (I 0) ∧ w'.cell? ⟨w.heap.size, 1, none⟩ = some (.string ⟨#[]⟩) ∧ ∀ j, w'.frozen? ⟨w.heap.size, j, none⟩ = false) (fun e w' ⟨k, r, f⟩ => by
    have hA := f.heap hA5 (by simp; omega)
    have hZ := f.heap hA4 (by simp; omega)
    exact ⟨k, ⟨r, FX.trans f, hZ⟩, by rw [cell_of_row _ _ _ _ _ (0, 0) hA]; rfl, by rw [cell_of_row _ _ _ _ _ (0, 0) hA]; rfl, by rw [cell_of_row _ _ _ _ _ (0, 0) hZ]; rfl, by rw [cell_of_row _ _ _ _ _ (0, 0) hZ]; rfl, fun j => frozen_of_row _ _ j _ _ hZ⟩)
  clear hX FX hA4 hA5
  go_wp2_with (first | (go_at_call 47; refine hK.mono ?_; clear hK c2; rintro e w4 ⟨rfl, HK, u0, u1, v0, v1, z5⟩))
  obtain ⟨⟨R', hR'⟩, F4, hZ4⟩ := HK.out
  have hAQ := heap_setCell_same _ w.heap.size 1 _ _ (.string x.2) (heap_setCell_same w4 w.heap.size 0 _ _ (I x.1) hZ4)
  have e0 : ((w4.setCell ⟨w.heap.size, 0, none⟩ (I x.1)).setCell ⟨w.heap.size, 1, none⟩ (.string x.2)).cell? ⟨w.heap.size, 0, none⟩ = some (I x.1) := by rw [cell_of_row _ _ _ _ _ (0, 0) hAQ]; rfl
  have e1 : ((w4.setCell ⟨w.heap.size, 0, none⟩ (I x.1)).setCell ⟨w.heap.size, 1, none⟩ (.string x.2)).cell? ⟨w.heap.size, 1, none⟩ = some (.string x.2) := by rw [cell_of_row _ _ _ _ _ (0, 0) hAQ]; rfl
  have FQ : Fx [B, g] w ((w4.setCell ⟨w.heap.size, 0, none⟩ (I x.1)).setCell ⟨w.heap.size, 1, none⟩ (.string x.2)) := (F4.set (b := w.heap.size) (.inr (Nat.le_refl _)) _ _).set (b := w.heap.size) (.inr (Nat.le_refl _)) _ _
  have hQ : pSk ((w4.setCell ⟨w.heap.size, 0, none⟩ (I x.1)).setCell ⟨w.heap.size, 1, none⟩ (.string x.2)) B g n hi R' l := hR'.kept (bs := [w.heap.size]) (((Fx.refl _ _).set (b := w.heap.size) (.inl (by simp)) _ _).set (b := w.heap.size) (.inl (by simp)) _ _) (by simp; omega) (by simp; omega)
  clear hAQ u0 u1 v0 v1 z5
  generalize ((w4.setCell ⟨w.heap.size, 0, none⟩ (I x.1)).setCell ⟨w.heap.size, 1, none⟩ (.string x.2)) = Q9 at *
  exact bodyPost_ret (v := .tuple #[pV x, I 0]) (by simp [results, Try.results22, go_sem, e0, e1]) rfl ⟨rfl, ⟨R', hQ⟩, FQ⟩
end
end Go.Proofs.Ytckmdkdhnhkdhaa
