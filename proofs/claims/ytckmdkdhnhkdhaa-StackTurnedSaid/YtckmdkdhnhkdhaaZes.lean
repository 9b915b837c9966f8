import Derived.Test.YtckmdkdhnhkdhaaZds
namespace Go.Proofs.Ytckmdkdhnhkdhaa
open Go.RowKit
set_option linter.unusedVariables false
set_option linter.unusedSimpArgs false

/-! ### Stacks of string: keep, Pop, Top -/
theorem selem_sz (w : World) : (sizeOf (Try.prog.elem 93)).run Try.prog w = .ok 1 w := by
  obtain ⟨i0, hi, hz0, hz1, hz2⟩ := info_parts sinfo
  have : Try.prog.elem 93 = 9 := by kernel_rfl
  rw [this]
  simp [sizeOf, typeInfo, hi, hz1]
theorem sundS : Try.prog.underlying 93 = some (.slice (Try.prog.elem 93)) := by kernel_rfl
theorem ssl_mid (g n k c : Nat) (hk : k ≤ c) (hc : c ≤ n) : ∃ ad : Option Addr, (∀ wx : World, (Instr.slice 93 (.slice (some ⟨g, 0, none⟩) n n) (some (I k)) (some (I c)) none).run Try.prog wx = .ok (.slice ad (c - k) (n - k)) wx) ∧ (k < c → ad = some ⟨g, k, none⟩) := by
  refine ⟨if n = k then some ⟨g, 0, none⟩ else some ⟨g, k, none⟩, fun wx => ?_, fun h => if_neg (by omega)⟩
  rw [run_slice_lh wx 93 _ n n sundS .i64 .i64 (k : Int) (c : Int) (by omega) (by omega) (by omega), selem_sz]
  have e1 : ((k : Int)).toNat = k := by omega
  have e2 : ((c : Int)).toNat = c := by omega
  simp only [Result.andThen, sliced, e1, e2, Option.map_some, Nat.mul_one, addr_add, Nat.zero_add]
theorem sclear_zero (w : World) (a : Option Addr) (c : Nat) (ty : TypeId) : (Builtin.clear_ #[93] ty #[.slice a 0 c]).run Try.prog w = .ok (.tuple #[]) w := by
  have ht := Try.underlying93
  cases a <;> simp [Builtin.clear_, run_underlying ht]
theorem sclear_run {w : World} {g : Nat} {R : List Value} (hq : w.heap[g]? = some (.cells R.toArray 9)) (k m c : Nat) (hm : 0 < m) (h : k + m ≤ R.length) (ty : TypeId) :
    (Builtin.clear_ #[93] ty #[.slice (some ⟨g, k, none⟩) m c]).run Try.prog w = .ok (.tuple #[]) (w.setCells g k (List.replicate m (Value.string ⟨#[]⟩))) :=
  Lib.run_clear_slice w 93 9 ty (Value.string ⟨#[]⟩) Try.underlying93 (fun w => by kernel_rfl) rfl rfl g k m c hm
    (fun j hj => by
      rw [cell_of_row w g _ _ _ (0, 0) hq]
      simp; omega)
    (fun j hj => frozen_of_row w g _ _ _ hq)
theorem ssets_row (g E : Nat) : ∀ (vs : List Value) (k : Nat) (w : World) (R : List Value), (∀ v ∈ vs, v.oneCell' = true) → (∀ x ∈ R, x.oneCell' = true) → w.heap[g]? = some (.cells R.toArray E) → ∃ R' : List Value, (w.setCells g k vs).heap[g]? = some (.cells R'.toArray E) ∧ R'.length = R.length ∧ R'.take k = R.take k ∧ (∀ x ∈ R', x.oneCell' = true) ∧ Fx [g] w (w.setCells g k vs)
  | [], k, w, R, _, hR, h => ⟨R, h, rfl, rfl, hR, Fx.refl _ _⟩
  | v :: vs, k, w, R, hv, hR, h => by
    have h2 : (w.setCell ⟨g, k, none⟩ v).heap[g]? = some (.cells (R.set k v).toArray E) := by
      rw [heap_setCell_same w g k _ _ v h]; simp
    obtain ⟨R', h3, h4, h5, h7, h6⟩ := ssets_row g E vs (k + 1) (w.setCell ⟨g, k, none⟩ v) _ (fun x hx => hv x (List.mem_cons_of_mem _ hx)) (fun x hx => by
      rcases List.mem_or_eq_of_mem_set hx with e | rfl
      · exact hR x e
      · exact hv x (List.mem_cons_self ..)) h2
    refine ⟨R', h3, by simpa using h4, ?_, h7, ((Fx.refl [g] w).set (.inl (by simp)) k v).trans h6⟩
    have := congrArg (List.take k) h5
    rw [List.take_take, List.take_take, Nat.min_eq_left (Nat.le_succ k), List.take_set_of_le (Nat.le_refl _)] at this
    exact this
/-- 'clear' of a stretch of the room. -/
theorem sclear_row {w : World} {g n : Nat} {R : List Value} (hq : w.heap[g]? = some (.cells R.toArray 9)) (hn : R.length = n) (hu : ∀ x ∈ R, x.oneCell' = true) (k c : Nat) (hk : k ≤ c) (hc : c ≤ n) {ad : Option Addr} (had : k < c → ad = some ⟨g, k, none⟩) : ∃ (w' : World) (R' : List Value), (∀ ty, (Builtin.clear_ #[93] ty #[.slice ad (c - k) (n - k)]).run Try.prog w = .ok (.tuple #[]) w') ∧ w'.heap[g]? = some (.cells R'.toArray 9) ∧ R'.length = R.length ∧ R'.take k = R.take k ∧ (∀ x ∈ R', x.oneCell' = true) ∧ Fx [g] w w' := by
  by_cases hm : k < c
  · obtain ⟨R', h1, h2, h3, h5, h4⟩ := ssets_row g 9 (List.replicate (c - k) (Value.string ⟨#[]⟩)) k w R (fun x hx => by rw [List.eq_of_mem_replicate hx]; rfl) hu hq
    rw [had hm]
    exact ⟨_, R', fun ty => sclear_run hq k (c - k) (n - k) (by omega) (by omega) ty, h1, h2, h3, h5, h4⟩
  · rw [show c - k = 0 by omega]
    exact ⟨w, R, fun ty => sclear_zero w _ _ ty, hq, rfl, rfl, hu, Fx.refl _ _⟩
section
variable {w : World} {B g n hi : Nat} {R l : List Value}
set_option maxHeartbeats 2000000 in
theorem skeep_any (h : sSk w B g n hi R l) (m : Nat) (hm : m ≤ l.length) : Calls Try.prog 58 #[sP B, I m] w fun e w' => e = .returned (.tuple #[]) ∧ (∃ R', sSk w' B g n hi R' (l.take m)) ∧ Fx [B, g] w w' := by
  obtain ⟨-, c1, c2, -⟩ := h.cells
  have hle := h.lle
  have hNE := h.ne
  obtain ⟨ad, hs, had⟩ := ssl_mid g n m l.length hm hle
  obtain ⟨w3, R', r1, r2, r3, r4, r6, r5⟩ := sclear_row (w := w.drew) (n := n) h.q h.k h.u m l.length hm hle had
  have hB3 : w3.heap[B]? = some (.cells #[.bool true, .slice (some ⟨g, 0, none⟩) n n, I l.length, I hi] 95) := r5.heap h.o (by simpa using hNE)
  have k1 : w3.cell? ⟨B, 1, none⟩ = some (.slice (some ⟨g, 0, none⟩) n n) := by rw [cell_of_row w3 B _ _ _ (0, 0) hB3]; rfl
  have k2 : w3.cell? ⟨B, 2, none⟩ = some (I l.length) := by rw [cell_of_row w3 B _ _ _ (0, 0) hB3]; rfl
  have z3 : ∀ j, w3.frozen? ⟨B, j, none⟩ = false := fun j => frozen_of_row w3 B j _ _ hB3
  have HH : Hid (sSk w B g n hi R l) := h
  have HB : Hid (w3.heap[B]? = some (.cells #[.bool true, .slice (some ⟨g, 0, none⟩) n n, I l.length, I hi] 95)) := hB3
  have HR : Hid (w3.heap[g]? = some (.cells R'.toArray 9) ∧ R'.length = R.length ∧ R'.take m = R.take m ∧ (∀ x ∈ R', x.oneCell' = true) ∧ Fx [g] w.drew w3) := ⟨r2, r3, r4, r6, r5⟩
  have HM : Hid (m ≤ l.length) := hm
  clear hB3 r2 r3 r4 r5 r6 had h hm hle
  go_enter Try.func58, Try.ntmps58
  go_wp2
  go_region_held_law (fun w' => w'.cell? ⟨B, 1, none⟩ = some (.slice (some ⟨g, 0, none⟩) n n) ∧ w'.cell? ⟨B, 2, none⟩ = some (I l.length))
    (first | exact ⟨c1, c2⟩ | exact ⟨k1, k2⟩ | (go_keep; done))
    (first | (refine step_clear rfl (.tmp 13) 93 rfl (.slice ad (l.length - m) (n - m)) (by simp [Act.eval, Act.put]) _ r1 ?_))
  go_wp2
  refine bodyPost_end (v := .tuple #[]) (by simp [results, Try.results58, go_sem]) rfl ?_
  have h := HH.out
  obtain ⟨r2, r3, r4, r6, r5⟩ := HR.out
  have hm := HM.out
  have hB5 := heap_setCell_same w3 B 2 _ _ (I m) HB.out
  have hl : (l.take m).length = m := by rw [List.length_take]; omega
  have hy := h.y
  refine ⟨rfl, ⟨R', ?_, (heap_setCell_other _ ⟨B, 2, none⟩ g _ (fun e => hNE e.symm)).trans r2, by rw [r3]; exact h.k, h.m, ?_, ?_, hNE, r6⟩, ?_⟩
  · rw [hl, hB5]; simp
  · rw [hl, r4]
    conv => rhs; rw [← h.r]
    rw [List.take_take, Nat.min_eq_left hm]
  · rw [hl]; omega
  · exact (((Fx.refl [B, g] w).drewN 1).trans (r5.mono (by simp))).set (b := B) (.inl (by simp)) _ _
theorem sPop_no (h : sSk w B g n hi R []) : Calls Try.prog 41 #[sP B] w fun e w' => e = .returned (.tuple #[(Value.string ⟨#[]⟩), I 142]) ∧ w = w' := by
  obtain ⟨-, -, c3, -⟩ := h.cells
  go_enter Try.func41, Try.ntmps41
  go_wp2_with (first | (go_at_call 55; refine (snone_any h).mono ?_; rintro e w1 ⟨rfl, rfl⟩))
  go_ret2
  exact ⟨rfl, rfl⟩
set_option maxHeartbeats 2000000 in
theorem sPop_ok (x : ByteArray) (h : sSk w B g n hi R (l ++ [(Value.string x)])) : Calls Try.prog 41 #[sP B] w fun e w' => e = .returned (.tuple #[(Value.string x), I 0]) ∧ (∃ R', sSk w' B g n hi R' l) ∧ Fx [B, g] w w' := by
  have ee : (l ++ [(Value.string x)]).length = l.length + 1 := by simp
  have hle := h.lle
  have hm := h.m
  have hK := fun q => (skeep_any (h.drewN q) l.length (by simp)).mono (R' := fun e w' => e = .returned (.tuple #[]) ∧ (∃ R', sSk w' B g n hi R' l) ∧ Fx [B, g] w w') (fun e w' ⟨k, ⟨R', hR⟩, f⟩ => ⟨k, ⟨R', by rw [List.take_left] at hR; exact hR⟩, ((Fx.refl _ w).drewN q).trans f⟩)
  obtain ⟨-, c1, c3, -⟩ := h.cells
  have hc := h.at (j := l.length) (v := (Value.string x)) (by simp)
  have c39 := fun q => (h.drewN q).cells.2.2.1
  rw [ee] at c3 hle
  simp only [ee] at c39
  have e2 : ((l.length + 1 : Nat) : Int) = (l.length : Int) + 1 := by omega
  rw [e2] at c3
  simp only [e2] at c39
  have hN := snone_any h
  have hx2 : ¬ ((l.length : Int) + 1 = 0) := by omega
  have hx0 : ¬ ((l.length : Int) < 0) := by omega
  have hx1 : (l.length : Int) < n := by omega
  clear h ee e2
  go_enter Try.func41, Try.ntmps41
  go_wp2_with (first | (go_at_call 55; refine hN.mono ?_; rintro e w1 ⟨rfl, rfl⟩))
  go_quiet (fail)
  have c39 := c39 nq
  have hK := hK nq
  clear c3 c1 hc hN
  go_wp2_with (first | (go_at_call 58; refine hK.mono ?_; rintro e w2 ⟨rfl, R2, f2⟩))
  go_ret2
  exact ⟨rfl, R2, f2⟩
end
end Go.Proofs.Ytckmdkdhnhkdhaa
