import Derived.Test.YticgikbnlpgnkaaRfi1
namespace Go.Proofs.Yticgikbnlpgnkaa
open Go.RowKit
set_option linter.unusedVariables false
set_option linter.unusedSimpArgs false

/-! ### Rings of int: Take -/
theorem ielem_sz (w : World) : (sizeOf (Try.prog.elem 76)).run Try.prog w = .ok 1 w := by
  obtain ⟨i0, hi, hz0, hz1, hz2⟩ := info_parts iinfo
  have : Try.prog.elem 76 = 3 := by kernel_rfl
  rw [this]
  simp [sizeOf, typeInfo, hi, hz1]
theorem iundS : Try.prog.underlying 76 = some (.slice (Try.prog.elem 76)) := by kernel_rfl
theorem isl_mid (g n k m : Nat) (h : k + m ≤ n) (hk : k = 0 ∨ k < n) (z hi : Int) (ez : z = k) (ehi : hi = (k : Int) + m) (wx : World) :
    (Instr.slice 76 (.slice (some ⟨g, 0, none⟩) n n) (some (I z)) (some (I hi)) none).run Try.prog wx = .ok (.slice (some ⟨g, k, none⟩) m (n - k)) wx := by
  subst ez ehi
  rw [run_slice_lh wx 76 _ n n iundS .i64 .i64 (k : Int) ((k : Int) + m) (by omega) (by omega) (by omega), ielem_sz]
  have e1 : ((k : Int)).toNat = k := by omega
  have e2 : ((k : Int) + m).toNat = k + m := by omega
  simp only [Result.andThen, sliced, e1, e2, Option.map_some, Nat.mul_one, Nat.add_sub_cancel_left, addr_add, Nat.zero_add]
  split
  · obtain rfl : k = 0 := by omega
    rfl
  · rfl
theorem isl_from (g n k : Nat) (hk : k < n) (wx : World) :
    (Instr.slice 76 (.slice (some ⟨g, 0, none⟩) n n) (some (I k)) none none).run Try.prog wx = .ok (.slice (some ⟨g, k, none⟩) (n - k) (n - k)) wx := by
  rw [run_slice_l wx 76 _ n n iundS .i64 (k : Int) (by omega) (by omega), ielem_sz]
  have e1 : ((k : Int)).toNat = k := by omega
  have e3 : ¬ n = k := by omega
  simp only [Result.andThen, sliced, e1, Option.map_some, Nat.mul_one, if_neg e3, addr_add, Nat.zero_add]
theorem isl_to (g n m : Nat) (h : m ≤ n) (z : Int) (ez : z = m) (wx : World) :
    (Instr.slice 76 (.slice (some ⟨g, 0, none⟩) n n) none (some (I z)) none).run Try.prog wx = .ok (.slice (some ⟨g, 0, none⟩) m n) wx := by
  subst ez
  rw [run_slice_h wx 76 _ n n iundS .i64 (m : Int) (by omega) (by omega), ielem_sz]
  have e1 : ((m : Int)).toNat = m := by omega
  simp only [Result.andThen, sliced, e1, Option.map_some, Nat.mul_one, addr_add, Nat.zero_add]
  split <;> simp
theorem iclear_run {w : World} {g n : Nat} {R : List Value} (hq : w.heap[g]? = some (.cells R.toArray 3)) (k m c : Nat) (hm : 0 < m) (h : k + m ≤ R.length) (ty : TypeId) :
    (Builtin.clear_ #[76] ty #[.slice (some ⟨g, k, none⟩) m c]).run Try.prog w = .ok (.tuple #[]) (w.setCells g k (List.replicate m (Value.int .i64 0))) :=
  Lib.run_clear_slice w 76 3 ty (Value.int .i64 0) Try.underlying76 (fun w => by kernel_rfl) rfl rfl g k m c hm
    (fun j hj => by
      rw [cell_of_row w g _ _ _ (0, 0) hq]
      simp; omega)
    (fun j hj => frozen_of_row w g _ _ _ hq)
section
variable {w : World} {B g n f hi : Nat} {R l : List Value}
theorem iTake_ok (x : Int) (h : iRg w B g n f hi R ((Value.int .i64 x) :: l)) : Calls Try.prog 34 #[iP B] w fun e w' => e = .returned (.tuple #[(Value.int .i64 x), I 0]) ∧ iRg w' B g n ((f + 1) % n) hi (R.set f (Value.int .i64 0)) l ∧ Fx [B, g] w w' := by
  have hm := h.m
  have hle := h.lle
  simp only [List.length_cons] at hle
  have hf := h.flt (by omega)
  obtain ⟨-, c1, c2, c3, -⟩ := h.cells
  have ec : ((((Value.int .i64 x) :: l).length : Nat) : Int) = (l.length : Int) + 1 := by simp
  rw [ec] at c3
  have hc := h.at h.r.hd
  have hx0 : ¬ ((f : Int) < 0) := by omega
  have hx1 : (f : Int) < n := by omega
  have hx2 : ¬ ((l.length : Int) + 1 = 0) := by omega
  have hN := inone_any h
  have H : Hid (iRg w B g n f hi R ((Value.int .i64 x) :: l)) := h
  clear h ec
  go_enter Try.func34, Try.ntmps34
  go_wp2_with (first | (go_at_call 58; refine hN.mono ?_; rintro e w1 ⟨rfl, rfl⟩))
  go_quiet (fail)
  go_wp2
  have h2 := H.out.drewN nq
  have F2 : Fx [B, g] w (w.drewN nq) := (Fx.refl _ _).drewN nq
  clear c1 c2 c3 hc hN H
  generalize w.drewN nq = W at *
  obtain ⟨-, c1, c2, c3, -⟩ := h2.cells
  have hs := isl_mid g n f 1 (by omega) (.inr hf) (f : Int) ((f : Int) + 1) rfl (by omega)
  have hcl := iclear_run (w := W.drew) (n := n) h2.q f 1 (n - f) (by omega) (by rw [h2.k]; omega)
  have hNE := h2.ne
  have hwr : IntKind.i64.wrap ((f : Int) + 1) = (f : Int) + 1 := by rw [IntKind.wrap_i64]; omega
  go_region_held_law (fun w' => w'.cell? ⟨B, 1, none⟩ = some (.slice (some ⟨g, 0, none⟩) n n) ∧ w'.cell? ⟨B, 2, none⟩ = some (I f))
    (first | exact ⟨c1, c2⟩ | exact ⟨(cell_set_ne hNE).trans c1, (cell_set_ne hNE).trans c2⟩ | (go_keep; done))
    (first | (refine step_clear rfl (.tmp 37) 76 rfl (.slice (some ⟨g, f, none⟩) 1 (n - f)) (by simp [Act.eval, Act.put]) _ hcl ?_))
  have hG3 : ((W.drew.setCell ⟨g, f, none⟩ (Value.int .i64 0))).heap[g]? = some (.cells (R.set f (Value.int .i64 0)).toArray 3) := by
    have := heap_setCell_same W.drew g f _ _ (Value.int .i64 0) h2.q
    rw [this]; simp
  have hB3 : ((W.drew.setCell ⟨g, f, none⟩ (Value.int .i64 0))).heap[B]? = some (.cells #[.bool true, .slice (some ⟨g, 0, none⟩) n n, I f, I ((l.length : Int) + 1), I hi] 89) := by
    have := (heap_setCell_other W.drew ⟨g, f, none⟩ B (Value.int .i64 0) hNE).trans h2.o
    rw [this]; simp
  have F3 : Fx [B, g] w (W.drew.setCell ⟨g, f, none⟩ (Value.int .i64 0)) := (F2.drewN 1).set (b := g) (.inl (by simp)) f (Value.int .i64 0)
  have HK : Hid (Rw (R.set f (Value.int .i64 0)) ((f + 1) % n) l ∧ R.length = n ∧ (l.length + 1 ≤ hi ∧ hi ≤ n)) := by
    have r := h2.r.take (Value.int .i64 0)
    rw [h2.k] at r
    exact ⟨r, h2.k, by have := h2.y; simpa using this⟩
  have hset : W.drew.setCells g f (List.replicate 1 (Value.int .i64 0)) = W.drew.setCell ⟨g, f, none⟩ (Value.int .i64 0) := rfl
  try rw [hset]
  clear hset
  clear c1 c2 c3 hs hcl hwr h2 F2
  generalize (W.drew.setCell ⟨g, f, none⟩ (Value.int .i64 0)) = X at *
  have c1 : X.cell? ⟨B, 1, none⟩ = some (.slice (some ⟨g, 0, none⟩) n n) := by rw [cell_of_row X B _ _ _ (0, 0) hB3]; rfl
  have c2 : X.cell? ⟨B, 2, none⟩ = some (I f) := by rw [cell_of_row X B _ _ _ (0, 0) hB3]; rfl
  have hp := (iplace_raw X B g n f 1 c1 c2 hm hf (by omega)).mono (R' := fun e w' => e = .returned (I ((f + 1) % n : Nat)) ∧ w'.heap[B]? = some (.cells #[.bool true, .slice (some ⟨g, 0, none⟩) n n, I f, I ((l.length : Int) + 1), I hi] 89) ∧ w'.heap[g]? = some (.cells (R.set f (Value.int .i64 0)).toArray 3) ∧ Fx [B, g] w w' ∧ w'.cell? ⟨B, 2, none⟩ = some (I f) ∧ w'.cell? ⟨B, 3, none⟩ = some (I ((l.length : Int) + 1)) ∧ ∀ j, w'.frozen? ⟨B, j, none⟩ = false) (fun e w' ⟨k, q2, hq⟩ => by
    subst hq
    have F0 : Fx [B, g] X (X.drewN q2) := (Fx.refl _ _).drewN q2
    have b0 := (below_drewN q2 (Below.refl X.heap.size X)).block
    have hB := (b0 B (heap_lt hB3)).trans hB3
    have hG := (b0 g (heap_lt hG3)).trans hG3
    exact ⟨k, hB, hG, F3.trans F0, by rw [cell_of_row _ B _ _ _ (0, 0) hB]; rfl, by rw [cell_of_row _ B _ _ _ (0, 0) hB]; rfl, fun j => frozen_of_row _ B j _ _ hB⟩)
  clear c1 c2 hB3 hG3 F3
  generalize hpp : (f + 1) % n = p at *
  have HP : Hid ((f + 1) % n = p) := hpp
  clear hpp
  go_wp2_with (go_at_call 56; refine hp.mono ?_; rintro e w4 ⟨rfl, hB4, hG4, F4, x2, x3, z4⟩)
  go_ret2
  obtain ⟨r, hk, hy1, hy2⟩ := HK.out
  have hB5 := heap_setCell_same _ B 3 _ _ (I l.length) (heap_setCell_same w4 B 2 _ _ (I p) hB4)
  rw [HP.out]
  refine ⟨rfl, ⟨by rw [hB5]; simp, ?_, by simpa using hk, hm, r, ⟨by omega, hy2⟩, hNE⟩, (F4.set (b := B) (.inl (by simp)) _ _).set (b := B) (.inl (by simp)) _ _⟩
  rw [heap_setCell_other _ ⟨B, 3, none⟩ g _ (fun e => hNE e.symm), heap_setCell_other _ ⟨B, 2, none⟩ g _ (fun e => hNE e.symm)]
  exact hG4
end
end Go.Proofs.Yticgikbnlpgnkaa
