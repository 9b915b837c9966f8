import Derived.Test.YticgikbnlpgnkaaRde
namespace Go.Proofs.Yticgikbnlpgnkaa
open Go.RowKit
set_option linter.unusedVariables false
set_option linter.unusedSimpArgs false

/-! ### Rings of ints: Clear, Copy -/
theorem sets_row (g E : Nat) : ∀ (vs : List Value) (k : Nat) (w : World) (R : List Value), w.heap[g]? = some (.cells R.toArray E) → ∃ R' : List Value, (w.setCells g k vs).heap[g]? = some (.cells R'.toArray E) ∧ R'.length = R.length ∧ Fx [g] w (w.setCells g k vs)
  | [], k, w, R, h => ⟨R, h, rfl, Fx.refl _ _⟩
  | v :: vs, k, w, R, h => by
    have h2 : (w.setCell ⟨g, k, none⟩ v).heap[g]? = some (.cells (R.set k v).toArray E) := by
      rw [heap_setCell_same w g k _ _ v h]; simp
    obtain ⟨R', h3, h4, h5⟩ := sets_row g E vs (k + 1) (w.setCell ⟨g, k, none⟩ v) _ h2
    exact ⟨R', h3, by simpa using h4, ((Fx.refl [g] w).set (.inl (by simp)) k v).trans h5⟩
theorem clear_zero (w : World) (a : Option Addr) (c : Nat) (ty : TypeId) : (Builtin.clear_ #[76] ty #[.slice a 0 c]).run Try.prog w = .ok (.tuple #[]) w := by
  have ht := Try.underlying76
  cases a <;> simp [Builtin.clear_, run_underlying ht]
theorem clear_row {w : World} {g : Nat} {R : List Value} (hq : w.heap[g]? = some (.cells R.toArray 3)) (k m c : Nat) (h : k + m ≤ R.length) : ∃ (w' : World) (R' : List Value), (∀ ty, (Builtin.clear_ #[76] ty #[.slice (some ⟨g, k, none⟩) m c]).run Try.prog w = .ok (.tuple #[]) w') ∧ w'.heap[g]? = some (.cells R'.toArray 3) ∧ R'.length = R.length ∧ Fx [g] w w' := by
  rcases Nat.eq_zero_or_pos m with rfl | hm
  · exact ⟨w, R, fun ty => clear_zero w _ _ ty, hq, rfl, Fx.refl _ _⟩
  · obtain ⟨R', h1, h2, h3⟩ := sets_row g 3 (List.replicate m (Value.int .i64 0)) k w R hq
    exact ⟨_, R', fun ty => iclear_run (n := 0) hq k m c hm h ty, h1, h2, h3⟩
section
variable {w : World} {B g n f hi : Nat} {R l : List Value}
theorem Rg.fresh {w3 : World} {R' : List Value} (h : iRg w B g n f hi R l) (hf : Fx [g] w w3) (hg : w3.heap[g]? = some (.cells R'.toArray 3)) (hR : R'.length = R.length) : iQ ((w3.setCell ⟨B, 2, none⟩ (I 0)).setCell ⟨B, 3, none⟩ (I 0)) B g n hi [] ∧ Fx [B, g] w ((w3.setCell ⟨B, 2, none⟩ (I 0)).setCell ⟨B, 3, none⟩ (I 0)) := by
  have hNE := h.ne
  have hB := hf.heap h.o (by simpa using hNE)
  have h5 := heap_setCell_same _ B 3 _ _ (I 0) (heap_setCell_same w3 B 2 _ _ (I 0) hB)
  refine ⟨⟨0, R', ?_, ?_, by rw [hR]; exact h.k, h.m, Rw.new _, ⟨Nat.zero_le _, h.y.2⟩, hNE⟩, ((hf.mono (by simp)).set (b := B) (.inl (by simp)) _ _).set (b := B) (.inl (by simp)) _ _⟩
  · rw [h5]; simp
  · rw [heap_setCell_other _ ⟨B, 3, none⟩ g _ (fun e => hNE e.symm), heap_setCell_other _ ⟨B, 2, none⟩ g _ (fun e => hNE e.symm)]
    exact hg
set_option maxHeartbeats 4000000 in
set_option maxRecDepth 100000 in
theorem iClear_any (h : iRg w B g n f hi R l) : Calls Try.prog 49 #[iP B] w fun e w' => e = .returned (I l.length) ∧ iQ w' B g n hi [] ∧ Fx [B, g] w w' := by
  obtain ⟨-, c1, c2, c3, -⟩ := h.cells
  have hN := inone_any h
  have hm := h.m
  have hle := h.lle
  have hNE := h.ne
  by_cases hx : f + l.length ≤ n
  · have hp := (parts_one h hx).mono (R' := fun e w' => e = .returned (.tuple #[.slice (some ⟨g, f, none⟩) l.length (n - f), .slice none 0 0]) ∧ ∃ (w3 : World) (R' : List Value), (∀ ty, (Builtin.clear_ #[76] ty #[.slice (some ⟨g, f, none⟩) l.length (n - f)]).run Try.prog w' = .ok (.tuple #[]) w3) ∧ w3.heap[g]? = some (.cells R'.toArray 3) ∧ R'.length = R.length ∧ Fx [g] w w3 ∧ w3.cell? ⟨B, 2, none⟩ = some (I f) ∧ w3.cell? ⟨B, 3, none⟩ = some (I l.length) ∧ ∀ j, w3.frozen? ⟨B, j, none⟩ = false) (fun e w' ⟨k, b⟩ => by
      refine ⟨k, ?_⟩
      have h1 := h.below b
      obtain ⟨w3, R', r1, r2, r3, r4⟩ := clear_row h1.q f l.length (n - f) (by rw [h1.k]; exact hx)
      have hB := r4.heap h1.o (by simpa using hNE)
      exact ⟨w3, R', r1, r2, r3, (Fx.of_below b).trans r4, by rw [cell_of_row w3 B _ _ _ (0, 0) hB]; rfl, by rw [cell_of_row w3 B _ _ _ (0, 0) hB]; rfl, fun j => frozen_of_row w3 B j _ _ hB⟩)
    have hc0 := fun w ty => clear_zero w none 0 ty
    go_enter Try.func49, Try.ntmps49
    go_wp2_with (first
      | (go_at_call 58; refine hN.mono ?_; rintro e w1 ⟨rfl, rfl⟩)
      | (go_at_call 62; refine hp.mono ?_; rintro e w1 ⟨rfl, w3, R', r1, r2, r3, r4, r5, r6, r7⟩))
    go_ret
    exact ⟨rfl, h.fresh r4 r2 r3⟩
  · have hx2 : n < f + l.length := by omega
    have hf2 : f < n := by have := h.hf; omega
    have hp := (parts_two h hx2).mono (R' := fun e w' => e = .returned (.tuple #[.slice (some ⟨g, f, none⟩) (n - f) (n - f), .slice (some ⟨g, 0, none⟩) (f + l.length - n) n]) ∧ ∃ (w2 w3 : World) (R' : List Value), (∀ ty, (Builtin.clear_ #[76] ty #[.slice (some ⟨g, f, none⟩) (n - f) (n - f)]).run Try.prog w' = .ok (.tuple #[]) w2) ∧ (∀ ty, (Builtin.clear_ #[76] ty #[.slice (some ⟨g, 0, none⟩) (f + l.length - n) n]).run Try.prog w2 = .ok (.tuple #[]) w3) ∧ w3.heap[g]? = some (.cells R'.toArray 3) ∧ R'.length = R.length ∧ Fx [g] w w3 ∧ w3.cell? ⟨B, 2, none⟩ = some (I f) ∧ w3.cell? ⟨B, 3, none⟩ = some (I l.length) ∧ ∀ j, w3.frozen? ⟨B, j, none⟩ = false) (fun e w' ⟨k, b⟩ => by
      refine ⟨k, ?_⟩
      have h1 := h.below b
      obtain ⟨w2, R2, q1, q2, q3, q4⟩ := clear_row h1.q f (n - f) (n - f) (by rw [h1.k]; omega)
      obtain ⟨w3, R', r1, r2, r3, r4⟩ := clear_row q2 0 (f + l.length - n) n (by rw [q3, h1.k]; omega)
      have hB := (q4.trans r4).heap h1.o (by simpa using hNE)
      exact ⟨w2, w3, R', q1, r1, r2, r3.trans q3, (Fx.of_below b).trans (q4.trans r4), by rw [cell_of_row w3 B _ _ _ (0, 0) hB]; rfl, by rw [cell_of_row w3 B _ _ _ (0, 0) hB]; rfl, fun j => frozen_of_row w3 B j _ _ hB⟩)
    go_enter Try.func49, Try.ntmps49
    go_wp2_with (first
      | (go_at_call 58; refine hN.mono ?_; rintro e w1 ⟨rfl, rfl⟩)
      | (go_at_call 62; refine hp.mono ?_; rintro e w1 ⟨rfl, w2, w3, R', q1, r1, r2, r3, r4, r5, r6, r7⟩))
    go_ret
    exact ⟨rfl, h.fresh r4 r2 r3⟩
end
end Go.Proofs.Yticgikbnlpgnkaa
