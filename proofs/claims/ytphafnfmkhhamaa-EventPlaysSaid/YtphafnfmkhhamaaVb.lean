import Derived.Test.YtphafnfmkhhamaaVa
import Derived.Deep.MidRow
import Derived.Deep.WholeRow
namespace Go.Proofs.Ytphafnfmkhhamaa
open Go.RowKit
set_option linter.unusedVariables false
set_option linter.unusedSimpArgs false

/-! ### A table of events -/
structure Et where
  x : Bool
  s : Bool
  on : Int
  wa : Int
abbrev U (i : Int) : Value := .int .u32 i
def et0 : Et := ⟨false, false, 0, 0⟩
def et1 : Et := ⟨true, false, 0, 0⟩
abbrev eP (B : Nat) : Value := .pointer (some ⟨B, 0, none⟩)
/-- A table: its block B, its tasks f, of which there are n. -/
structure Ev (w : World) (B n : Nat) (f : Nat → Et) : Prop where
  o : ∃ cs, w.heap[B]? = some (.cells cs 46) ∧ cs.size = 1026
  c0 : w.cell? ⟨B, 0, none⟩ = some (.bool true)
  c1 : w.cell? ⟨B, 1, none⟩ = some (I n)
  m : n ≤ 256
  e : ∀ i, i < 256 → w.cell? ⟨B, 2 + i * 4, none⟩ = some (.bool (f i).x) ∧ w.cell? ⟨B, 2 + i * 4 + 1, none⟩ = some (.bool (f i).s) ∧ w.cell? ⟨B, 2 + i * 4 + 2, none⟩ = some (U (f i).on) ∧ w.cell? ⟨B, 2 + i * 4 + 3, none⟩ = some (U (f i).wa)
  z : ∀ i, (f i).x = false → f i = et0
section
variable {w : World} {B n : Nat} {f : Nat → Et}
theorem Ev.lt (h : Ev w B n f) : B < w.heap.size := by obtain ⟨cs, h1, -⟩ := h.o; exact heap_lt h1
theorem Ev.frz (h : Ev w B n f) (j : Nat) : w.frozen? ⟨B, j, none⟩ = false := by obtain ⟨cs, h1, -⟩ := h.o; exact frozen_of_row w B j _ _ h1
theorem Ev.keptZ (h : Ev w B n f) {M : Nat → Prop} {w' : World} (hf : Fz M w w') (h1 : ¬ M B) : Ev w' B n f := by
  obtain ⟨cs, hc, hs⟩ := h.o
  refine ⟨⟨cs, hf.heap hc h1, hs⟩, hf.cell h.c0 h1, hf.cell h.c1 h1, h.m, fun i hi => ?_, h.z⟩
  obtain ⟨a, b, c, d⟩ := h.e i hi
  exact ⟨hf.cell a h1, hf.cell b h1, hf.cell c h1, hf.cell d h1⟩
theorem Ev.kept (h : Ev w B n f) {bs : List Nat} {w' : World} (hf : Fx bs w w') (h1 : B ∉ bs) : Ev w' B n f := h.keptZ (Fz.of_fx (M := fun x => x ∈ bs) hf (fun _ e => e)) h1
theorem Ev.below (h : Ev w B n f) {w' : World} (hf : Below w.heap.size w w') : Ev w' B n f := h.kept (bs := []) (Fx.of_below hf) (by simp)
theorem none_any (h : Ev w B n f) : Calls Try.prog 29 #[eP B] w fun e w' => e = .returned (.bool false) ∧ w = w' := by
  have c0 := h.c0
  go_enter Try.func29, Try.ntmps29
  go_wp2
  go_ret
  exact ⟨rfl, rfl⟩
theorem none_nil (w : World) : Calls Try.prog 29 #[.pointer none] w fun e w' => e = .returned (.bool true) ∧ w = w' := by
  go_enter Try.func29, Try.ntmps29
  go_wp2
  go_ret
  exact ⟨rfl, rfl⟩
theorem none_zero (w : World) (B : Nat) (c0 : w.cell? ⟨B, 0, none⟩ = some (.bool false)) : Calls Try.prog 29 #[eP B] w fun e w' => e = .returned (.bool true) ∧ w = w' := by
  go_enter Try.func29, Try.ntmps29
  go_wp2
  go_ret
  exact ⟨rfl, rfl⟩
theorem fresh_any (w : World) : Calls Try.prog 26 #[] w fun e w' => e = .returned (.agg #[.bool true, .bool false, U 0, U 0]) ∧ w' = w.alloc (.cells #[.bool true, .bool false, U 0, U 0] 43) := by
  go_enter Try.func26, Try.ntmps26
  go_wp2
  refine bodyPost_ret (v := .agg #[.bool true, .bool false, U 0, U 0]) ?_ rfl ⟨rfl, rfl⟩
  exact results_cell_row (P := Try.prog) Try.results26 _ _ w.heap.size 43 _ (0, 0) _ rfl (heap_alloc_new w _) Try.underlying43 rfl (by kernel_rfl)
theorem of_out (h : Ev w B n f) (t : Int) (ht : t < 0 ∨ (n : Int) ≤ t) : Calls Try.prog 27 #[eP B, I t] w fun e w' => e = .returned (.tuple #[.pointer none, I 3]) ∧ w = w' := by
  have c1 := h.c1
  have hN := none_any h
  by_cases h0 : t < 0
  · go_enter Try.func27, Try.ntmps27
    go_wp2_with (first | (go_at_call 29; refine hN.mono ?_; rintro e w1 ⟨rfl, rfl⟩))
    go_ret2
    exact ⟨rfl, rfl⟩
  · have h1 : (n : Int) ≤ t := by omega
    have h2 : ¬ t < (n : Int) := by omega
    go_enter Try.func27, Try.ntmps27
    go_wp2_with (first | (go_at_call 29; refine hN.mono ?_; rintro e w1 ⟨rfl, rfl⟩))
    go_ret2
    exact ⟨rfl, rfl⟩
set_option maxRecDepth 100000 in
theorem of_ok (h : Ev w B n f) (k : Nat) (hk : k < n) (hx : (f k).x = true) : Calls Try.prog 27 #[eP B, I k] w fun e w' => e = .returned (.tuple #[.pointer (some ⟨B, 2 + k * 4, none⟩), I 0]) ∧ w = w' := by
  have c1 := h.c1
  have hm := h.m
  have hN := none_any h
  obtain ⟨a, b, c, d⟩ := h.e k (by omega)
  rw [hx] at a
  have h0 : ¬ ((k : Int) < 0) := by omega
  have h1 : ¬ ((n : Int) ≤ k) := by omega
  have h2 : (k : Int) < n := by omega
  have h3 : (k : Int) < 256 := by omega
  have h4 : k < 256 := by omega
  go_enter Try.func27, Try.ntmps27
  go_wp2_with (first | (go_at_call 29; refine hN.mono ?_; rintro e w1 ⟨rfl, rfl⟩))
  go_ret2
  exact ⟨rfl, rfl⟩
set_option maxRecDepth 100000 in
theorem of_basic (h : Ev w B n f) (k : Nat) (hk : k < n) (hx : (f k).x = false) : Calls Try.prog 27 #[eP B, I k] w fun e w' => e = .returned (.tuple #[.pointer none, I 1]) ∧ w = w' := by
  have c1 := h.c1
  have hm := h.m
  have hN := none_any h
  obtain ⟨a, b, c, d⟩ := h.e k (by omega)
  rw [h.z k hx] at a b c d
  unfold et0 at a b c d
  simp only at a b c d
  have h0 : ¬ ((k : Int) < 0) := by omega
  have h1 : ¬ ((n : Int) ≤ k) := by omega
  have h2 : (k : Int) < n := by omega
  have h3 : (k : Int) < 256 := by omega
  have h4 : k < 256 := by omega
  go_enter Try.func27, Try.ntmps27
  go_wp2_with (first | (go_at_call 29; refine hN.mono ?_; rintro e w1 ⟨rfl, rfl⟩))
  go_ret2
  exact ⟨rfl, rfl⟩
/-- what of answers: a status, if there is one -/
def stE (n : Nat) (f : Nat → Et) (t : Int) : Int := if t < 0 ∨ (n : Int) ≤ t then 3 else if (f t.toNat).x then 0 else 1
theorem of_no (h : Ev w B n f) (t : Int) (ht : stE n f t ≠ 0) : Calls Try.prog 27 #[eP B, I t] w fun e w' => e = .returned (.tuple #[.pointer none, I (stE n f t)]) ∧ w = w' := by
  by_cases h1 : t < 0 ∨ (n : Int) ≤ t
  · rw [show stE n f t = 3 by unfold stE; rw [if_pos h1]]
    exact of_out h t h1
  · have e1 : stE n f t = if (f t.toNat).x then 0 else 1 := by unfold stE; rw [if_neg h1]
    obtain ⟨k, rfl⟩ := Int.eq_ofNat_of_zero_le (show 0 ≤ t by omega)
    rw [e1] at ht ⊢
    cases hx : (f k).x with
    | true => simp [hx] at ht
    | false =>
      simp only [Int.toNat_natCast, hx]
      exact of_basic h k (by omega) hx
theorem stE_zero {t : Int} (h : stE n f t = 0) : ∃ k : Nat, t = k ∧ k < n ∧ (f k).x = true := by
  unfold stE at h
  split at h
  · omega
  · refine ⟨t.toNat, by omega, by omega, ?_⟩
    split at h
    · assumption
    · omega
theorem stE_cases (n : Nat) (f : Nat → Et) (t : Int) : stE n f t = 3 ∨ stE n f t = 1 ∨ stE n f t = 0 := by
  unfold stE
  split
  · exact .inl rfl
  · split
    · exact .inr (.inr rfl)
    · exact .inr (.inl rfl)
end
def upf (f : Nat → Et) (k : Nat) (v : Et) : Nat → Et := fun i => if i = k then v else f i
theorem upf_same (f : Nat → Et) (k : Nat) (v : Et) : upf f k v k = v := by simp [upf]
theorem upf_upf (f : Nat → Et) (k : Nat) (a b : Et) : upf (upf f k a) k b = upf f k b := by funext i; simp only [upf]; split <;> rfl
section
variable {w : World} {B n : Nat} {f : Nat → Et}
theorem cell_set_off {w : World} {B i j : Nat} {v u : Value} (h : w.cell? ⟨B, i, none⟩ = some u) (hij : j ≠ i) : (w.setCell ⟨B, j, none⟩ v).cell? ⟨B, i, none⟩ = some u := by
  rw [World.cell?_setCell_other _ _ _ _ (by intro e; injection e with e1 e2 e3; exact hij e2)]
  exact h
theorem cell_set_on {w : World} {B i : Nat} {v u : Value} (h : w.cell? ⟨B, i, none⟩ = some u) : (w.setCell ⟨B, i, none⟩ v).cell? ⟨B, i, none⟩ = some v := World.cell?_setCell_same _ _ _ h
theorem Ev.setc (h : Ev w B n f) (j : Nat) (v : Value) : ∃ cs, (w.setCell ⟨B, j, none⟩ v).heap[B]? = some (.cells cs 46) ∧ cs.size = 1026 := by
  obtain ⟨cs, h1, h2⟩ := h.o
  exact ⟨_, heap_setCell_same w B j cs _ v h1, by simpa using h2⟩
theorem Ev.setOn (h : Ev w B n f) {k : Nat} (hk : k < 256) (hx : (f k).x = true) (v : Int) : Ev (w.setCell ⟨B, 2 + k * 4 + 2, none⟩ (U v)) B n (upf f k ⟨(f k).x, (f k).s, v, (f k).wa⟩) := by
  refine ⟨h.setc _ _, cell_set_off h.c0 (by omega), cell_set_off h.c1 (by omega), h.m, fun i hi => ?_, fun i => ?_⟩
  · obtain ⟨a, b, c, d⟩ := h.e i hi
    by_cases e : i = k
    · subst e
      rw [upf_same]
      exact ⟨cell_set_off a (by omega), cell_set_off b (by omega), cell_set_on c, cell_set_off d (by omega)⟩
    · rw [show upf f k ⟨(f k).x, (f k).s, v, (f k).wa⟩ i = f i by simp [upf, e]]
      exact ⟨cell_set_off a (by omega), cell_set_off b (by omega), cell_set_off c (by omega), cell_set_off d (by omega)⟩
  · by_cases e : i = k
    · subst e; rw [upf_same]; intro e2; rw [hx] at e2; cases e2
    · rw [show upf f k ⟨(f k).x, (f k).s, v, (f k).wa⟩ i = f i by simp [upf, e]]; exact h.z i
theorem Ev.setS (h : Ev w B n f) {k : Nat} (hk : k < 256) (hx : (f k).x = true) (v : Bool) : Ev (w.setCell ⟨B, 2 + k * 4 + 1, none⟩ (.bool v)) B n (upf f k ⟨(f k).x, v, (f k).on, (f k).wa⟩) := by
  refine ⟨h.setc _ _, cell_set_off h.c0 (by omega), cell_set_off h.c1 (by omega), h.m, fun i hi => ?_, fun i => ?_⟩
  · obtain ⟨a, b, c, d⟩ := h.e i hi
    by_cases e : i = k
    · subst e
      rw [upf_same]
      exact ⟨cell_set_off a (by omega), cell_set_on b, cell_set_off c (by omega), cell_set_off d (by omega)⟩
    · rw [show upf f k ⟨(f k).x, v, (f k).on, (f k).wa⟩ i = f i by simp [upf, e]]
      exact ⟨cell_set_off a (by omega), cell_set_off b (by omega), cell_set_off c (by omega), cell_set_off d (by omega)⟩
  · by_cases e : i = k
    · subst e; rw [upf_same]; intro e2; rw [hx] at e2; cases e2
    · rw [show upf f k ⟨(f k).x, v, (f k).on, (f k).wa⟩ i = f i by simp [upf, e]]; exact h.z i
theorem Ev.setWa (h : Ev w B n f) {k : Nat} (hk : k < 256) (hx : (f k).x = true) (v : Int) : Ev (w.setCell ⟨B, 2 + k * 4 + 3, none⟩ (U v)) B n (upf f k ⟨(f k).x, (f k).s, (f k).on, v⟩) := by
  refine ⟨h.setc _ _, cell_set_off h.c0 (by omega), cell_set_off h.c1 (by omega), h.m, fun i hi => ?_, fun i => ?_⟩
  · obtain ⟨a, b, c, d⟩ := h.e i hi
    by_cases e : i = k
    · subst e
      rw [upf_same]
      exact ⟨cell_set_off a (by omega), cell_set_off b (by omega), cell_set_off c (by omega), cell_set_on d⟩
    · rw [show upf f k ⟨(f k).x, (f k).s, (f k).on, v⟩ i = f i by simp [upf, e]]
      exact ⟨cell_set_off a (by omega), cell_set_off b (by omega), cell_set_off c (by omega), cell_set_off d (by omega)⟩
  · by_cases e : i = k
    · subst e; rw [upf_same]; intro e2; rw [hx] at e2; cases e2
    · rw [show upf f k ⟨(f k).x, (f k).s, (f k).on, v⟩ i = f i by simp [upf, e]]; exact h.z i
end
end Go.Proofs.Ytphafnfmkhhamaa
