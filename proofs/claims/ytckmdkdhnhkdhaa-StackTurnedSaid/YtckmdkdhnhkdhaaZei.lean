import Derived.Test.YtckmdkdhnhkdhaaZdi
namespace Go.Proofs.Ytckmdkdhnhkdhaa
open Go.RowKit
set_option linter.unusedVariables false
set_option linter.unusedSimpArgs false

/-! ### Stacks of int: keep, Pop, Top -/
theorem ielem_sz (w : World) : (sizeOf (Try.prog.elem 22)).run Try.prog w = .ok 1 w := by
  obtain ⟨i0, hi, hz0, hz1, hz2⟩ := info_parts iinfo
  have : Try.prog.elem 22 = 3 := by kernel_rfl
  rw [this]
  simp [sizeOf, typeInfo, hi, hz1]
theorem iundS : Try.prog.underlying 22 = some (.slice (Try.prog.elem 22)) := by kernel_rfl
theorem isl_mid (g n k c : Nat) (hk : k ≤ c) (hc : c ≤ n) : ∃ ad : Option Addr, (∀ wx : World, (Instr.slice 22 (.slice (some ⟨g, 0, none⟩) n n) (some (I k)) (some (I c)) none).run Try.prog wx = .ok (.slice ad (c - k) (n - k)) wx) ∧ (k < c → ad = some ⟨g, k, none⟩) := by
  refine ⟨if n = k then some ⟨g, 0, none⟩ else some ⟨g, k, none⟩, fun wx => ?_, fun h => if_neg (by omega)⟩
  rw [run_slice_lh wx 22 _ n n iundS .i64 .i64 (k : Int) (c : Int) (by omega) (by omega) (by omega), ielem_sz]
  have e1 : ((k : Int)).toNat = k := by omega
  have e2 : ((c : Int)).toNat = c := by omega
  simp only [Result.andThen, sliced, e1, e2, Option.map_some, Nat.mul_one, addr_add, Nat.zero_add]
theorem iclear_zero (w : World) (a : Option Addr) (c : Nat) (ty : TypeId) : (Builtin.clear_ #[22] ty #[.slice a 0 c]).run Try.prog w = .ok (.tuple #[]) w := by
  have ht := Try.underlying22
  cases a <;> simp [Builtin.clear_, run_underlying ht]
theorem iclear_run {w : World} {g : Nat} {R : List Value} (hq : w.heap[g]? = some (.cells R.toArray 3)) (k m c : Nat) (hm : 0 < m) (h : k + m ≤ R.length) (ty : TypeId) :
    (Builtin.clear_ #[22] ty #[.slice (some ⟨g, k, none⟩) m c]).run Try.prog w = .ok (.tuple #[]) (w.setCells g k (List.replicate m (Value.int .i64 0))) :=
  Lib.run_clear_slice w 22 3 ty (Value.int .i64 0) Try.underlying22 (fun w => by kernel_rfl) rfl rfl g k m c hm
    (fun j hj => by
      rw [cell_of_row w g _ _ _ (0, 0) hq]
      simp; omega)
    (fun j hj => frozen_of_row w g _ _ _ hq)
theorem isets_row (g E : Nat) : ∀ (vs : List Value) (k : Nat) (w : World) (R : List Value), (∀ v ∈ vs, v.oneCell' = true) → (∀ x ∈ R, x.oneCell' = true) → w.heap[g]? = some (.cells R.toArray E) → ∃ R' : List Value, (w.setCells g k vs).heap[g]? = some (.cells R'.toArray E) ∧ R'.length = R.length ∧ R'.take k = R.take k ∧ (∀ x ∈ R', x.oneCell' = true) ∧ Fx [g] w (w.setCells g k vs)
  | [], k, w, R, _, hR, h => ⟨R, h, rfl, rfl, hR, Fx.refl _ _⟩
  | v :: vs, k, w, R, hv, hR, h => by
    have h2 : (w.setCell ⟨g, k, none⟩ v).heap[g]? = some (.cells (R.set k v).toArray E) := by
      rw [heap_setCell_same w g k _ _ v h]; simp
    obtain ⟨R', h3, h4, h5, h7, h6⟩ := isets_row g E vs (k + 1) (w.setCell ⟨g, k, none⟩ v) _ (fun x hx => hv x (List.mem_cons_of_mem _ hx)) (fun x hx => by
      rcases List.mem_or_eq_of_mem_set hx with e | rfl
      · exact hR x e
      · exact hv x (List.mem_cons_self ..)) h2
    refine ⟨R', h3, by simpa using h4, ?_, h7, ((Fx.refl [g] w).set (.inl (by simp)) k v).trans h6⟩
    have := congrArg (List.take k) h5
    rw [List.take_take, List.take_take, Nat.min_eq_left (Nat.le_succ k), List.take_set_of_le (Nat.le_refl _)] at this
    exact this
/-- 'clear' of a stretch of the room. -/
theorem iclear_row {w : World} {g n : Nat} {R : List Value} (hq : w.heap[g]? = some (.cells R.toArray 3)) (hn : R.length = n) (hu : ∀ x ∈ R, x.oneCell' = true) (k c : Nat) (hk : k ≤ c) (hc : c ≤ n) {ad : Option Addr} (had : k < c → ad = some ⟨g, k, none⟩) : ∃ (w' : World) (R' : List Value), (∀ ty, (Builtin.clear_ #[22] ty #[.slice ad (c - k) (n - k)]).run Try.prog w = .ok (.tuple #[]) w') ∧ w'.heap[g]? = some (.cells R'.toArray 3) ∧ R'.length = R.length ∧ R'.take k = R.take k ∧ (∀ x ∈ R', x.oneCell' = true) ∧ Fx [g] w w' := by
  by_cases hm : k < c
  · obtain ⟨R', h1, h2, h3, h5, h4⟩ := isets_row g 3 (List.replicate (c - k) (Value.int .i64 0)) k w R (fun x hx => by rw [List.eq_of_mem_replicate hx]; rfl) hu hq
    rw [had hm]
    exact ⟨_, R', fun ty => iclear_run hq k (c - k) (n - k) (by omega) (by omega) ty, h1, h2, h3, h5, h4⟩
  · rw [show c - k = 0 by omega]
    exact ⟨w, R, fun ty => iclear_zero w _ _ ty, hq, rfl, rfl, hu, Fx.refl _ _⟩
section
variable {w : World} {B g n hi : Nat} {R l : List Value}
set_option maxHeartbeats 2000000 in
theorem ikeep_any (h : iSk w B g n hi R l) (m : Nat) (hm : m ≤ l.length) : Calls Try.prog 37 #[iP B, I m] w fun e w' => e = .returned (.tuple #[]) ∧ (∃ R', iSk w' B g n hi R' (l.take m)) ∧ Fx [B, g] w w' := by
  obtain ⟨-, c1, c2, -⟩ := h.cells
  have hle := h.lle
  have hNE := h.ne
  obtain ⟨ad, hs, had⟩ := isl_mid g n m l.length hm hle
  obtain ⟨w3, R', r1, r2, r3, r4, r6, r5⟩ := iclear_row (w := w.drew) (n := n) h.q h.k h.u m l.length hm hle had
  have hB3 : w3.heap[B]? = some (.cells #[.bool true, .slice (some ⟨g, 0, none⟩) n n, I l.length, I hi] 62) := r5.heap h.o (by simpa using hNE)
  have k1 : w3.cell? ⟨B, 1, none⟩ = some (.slice (some ⟨g, 0, none⟩) n n) := by rw [cell_of_row w3 B _ _ _ (0, 0) hB3]; rfl
  have k2 : w3.cell? ⟨B, 2, none⟩ = some (I l.length) := by rw [cell_of_row w3 B _ _ _ (0, 0) hB3]; rfl
  have z3 : ∀ j, w3.frozen? ⟨B, j, none⟩ = false := fun j => frozen_of_row w3 B j _ _ hB3
  have HH : Hid (iSk w B g n hi R l) := h
  have HB : Hid (w3.heap[B]? = some (.cells #[.bool true, .slice (some ⟨g, 0, none⟩) n n, I l.length, I hi] 62)) := hB3
  have HR : Hid (w3.heap[g]? = some (.cells R'.toArray 3) ∧ R'.length = R.length ∧ R'.take m = R.take m ∧ (∀ x ∈ R', x.oneCell' = true) ∧ Fx [g] w.drew w3) := ⟨r2, r3, r4, r6, r5⟩
  have HM : Hid (m ≤ l.length) := hm
  clear hB3 r2 r3 r4 r5 r6 had h hm hle
  go_enter Try.func37, Try.ntmps37
  go_wp2
  go_region_held_law (fun w' => w'.cell? ⟨B, 1, none⟩ = some (.slice (some ⟨g, 0, none⟩) n n) ∧ w'.cell? ⟨B, 2, none⟩ = some (I l.length))
    (first | exact ⟨c1, c2⟩ | exact ⟨k1, k2⟩ | (go_keep; done))
    (first | (refine step_clear rfl (.tmp 13) 22 rfl (.slice ad (l.length - m) (n - m)) (by simp [Act.eval, Act.put]) _ r1 ?_))
  go_wp2
  refine bodyPost_end (v := .tuple #[]) (by simp [results, Try.results37, go_sem]) rfl ?_
  have h := HH.out
  obtain ⟨r2, r3, r4, r6, r5⟩ := HR.out
  have hm := HM.out
  have hB5 := heap_setCell_same w3 B 2 _ _ (I m) HB.out
  have hl : (l.take m).length = m := by rw [List.length_take]; omega
  have hy := h.y
  refine ⟨rfl, ⟨R', ?_, (heap_setCell_other _ ⟨B, 2, none⟩ g _ (fun e => hNE e.symm)).trans r2, by rw [r3]; exact h.k, h.m, ?_, ?_, hNE, r6⟩, ?_⟩
  · rw [hl, hB5]; simp
  · rw [hl, r4]
    conv => rhs; rw [← h.r]
    rw [List.take_take, Nat.min_eq_left hm]
  · rw [hl]; omega
  · exact (((Fx.refl [B, g] w).drewN 1).trans (r5.mono (by simp))).set (b := B) (.inl (by simp)) _ _
theorem iPop_no (h : iSk w B g n hi R []) : Calls Try.prog 14 #[iP B] w fun e w' => e = .returned (.tuple #[(Value.int .i64 0), I 142]) ∧ w = w' := by
  obtain ⟨-, -, c3, -⟩ := h.cells
  go_enter Try.func14, Try.ntmps14
  go_wp2_with (first | (go_at_call 34; refine (inone_any h).mono ?_; rintro e w1 ⟨rfl, rfl⟩))
  go_ret2
  exact ⟨rfl, rfl⟩
set_option maxHeartbeats 2000000 in
theorem iPop_ok (x : Int) (h : iSk w B g n hi R (l ++ [(Value.int .i64 x)])) : Calls Try.prog 14 #[iP B] w fun e w' => e = .returned (.tuple #[(Value.int .i64 x), I 0]) ∧ (∃ R', iSk w' B g n hi R' l) ∧ Fx [B, g] w w' := by
  have ee : (l ++ [(Value.int .i64 x)]).length = l.length + 1 := by simp
  have hle := h.lle
  have hm := h.m
  have hK := fun q => (ikeep_any (h.drewN q) l.length (by simp)).mono (R' := fun e w' => e = .returned (.tuple #[]) ∧ (∃ R', iSk w' B g n hi R' l) ∧ Fx [B, g] w w') (fun e w' ⟨k, ⟨R', hR⟩, f⟩ => ⟨k, ⟨R', by rw [List.take_left] at hR; exact hR⟩, ((Fx.refl _ w).drewN q).trans f⟩)
  obtain ⟨-, c1, c3, -⟩ := h.cells
  have hc := h.at (j := l.length) (v := (Value.int .i64 x)) (by simp)
  have c39 := fun q => (h.drewN q).cells.2.2.1
  rw [ee] at c3 hle
  simp only [ee] at c39
  have e2 : ((l.length + 1 : Nat) : Int) = (l.length : Int) + 1 := by omega
  rw [e2] at c3
  simp only [e2] at c39
  have hN := inone_any h
  have hx2 : ¬ ((l.length : Int) + 1 = 0) := by omega
  have hx0 : ¬ ((l.length : Int) < 0) := by omega
  have hx1 : (l.length : Int) < n := by omega
  clear h ee e2
  go_enter Try.func14, Try.ntmps14
  go_wp2_with (first | (go_at_call 34; refine hN.mono ?_; rintro e w1 ⟨rfl, rfl⟩))
  go_quiet (fail)
  have c39 := c39 nq
  have hK := hK nq
  clear c3 c1 hc hN
  go_wp2_with (first | (go_at_call 37; refine hK.mono ?_; rintro e w2 ⟨rfl, R2, f2⟩))
  go_ret2
  exact ⟨rfl, R2, f2⟩
theorem iTop_no (h : iSk w B g n hi R []) : Calls Try.prog 28 #[iP B] w fun e w' => e = .returned (.tuple #[(Value.int .i64 0), .bool false]) ∧ w = w' := by
  have hL := iLen_any h
  go_enter Try.func28, Try.ntmps28
  go_wp2_with (first | (go_at_call 13; refine hL.mono ?_; rintro e w1 ⟨rfl, rfl⟩))
  go_ret2
  exact ⟨rfl, rfl⟩
theorem iTop_ok (x : Int) (h : iSk w B g n hi R (l ++ [(Value.int .i64 x)])) : Calls Try.prog 28 #[iP B] w fun e w' => e = .returned (.tuple #[(Value.int .i64 x), .bool true]) ∧ Below w.heap.size w w' := by
  have ee : (l ++ [(Value.int .i64 x)]).length = l.length + 1 := by simp
  have hle := h.lle
  have hm := h.m
  obtain ⟨-, c1, c3, -⟩ := h.cells
  have hc := h.at (j := l.length) (v := (Value.int .i64 x)) (by simp)
  have hL := iLen_any h
  rw [ee] at c3 hle hL
  have e2 : ((l.length + 1 : Nat) : Int) = (l.length : Int) + 1 := by omega
  rw [e2] at c3 hL
  have hx2 : ¬ ((l.length : Int) + 1 = 0) := by omega
  have hx0 : ¬ ((l.length : Int) < 0) := by omega
  have hx1 : (l.length : Int) < n := by omega
  clear h ee e2
  go_enter Try.func28, Try.ntmps28
  go_wp2_with (first | (go_at_call 13; refine hL.mono ?_; rintro e w1 ⟨rfl, rfl⟩))
  go_quiet (fail)
  go_wp2
  go_ret2
  exact ⟨rfl, below_drewN _ (Below.refl _ _)⟩
end
end Go.Proofs.Ytckmdkdhnhkdhaa
