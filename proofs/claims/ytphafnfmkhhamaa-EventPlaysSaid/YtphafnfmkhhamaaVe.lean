import Derived.Test.YtphafnfmkhhamaaVd
namespace Go.Proofs.Ytphafnfmkhhamaa
open Go.RowKit
set_option linter.unusedVariables false
set_option linter.unusedSimpArgs false

section
variable {w : World} {B n : Nat} {f : Nat → Et}
theorem Wait_s (h : Ev w B n f) (k : Nat) (hk : k < n) (hx : (f k).x = true) (m : Int) (hs : (f k).s = true) : Calls Try.prog 10 #[eP B, I k, U m] w fun e w' => e = .returned (.tuple #[.bool false, I 7]) ∧ w = w' := by
  have hO := of_ok h k hk hx
  have hm := h.m
  obtain ⟨-, c1, c2, c3⟩ := h.e k (by omega)
  rw [hs] at c1
  go_enter Try.func10, Try.ntmps10
  go_wp2_with (first | (go_at_call 27; refine hO.mono ?_; rintro e w1 ⟨rfl, rfl⟩))
  go_ret2
  exact ⟨rfl, rfl⟩
theorem Wait_d (h : Ev w B n f) (k : Nat) (hk : k < n) (hx : (f k).x = true) (m : Int) (hs : (f k).s = false) (hz : andU (f k).on m ≠ 0) : Calls Try.prog 10 #[eP B, I k, U m] w fun e w' => e = .returned (.tuple #[.bool false, I 0]) ∧ w = w' := by
  have hO := of_ok h k hk hx
  have hm := h.m
  obtain ⟨-, c1, c2, c3⟩ := h.e k (by omega)
  rw [hs] at c1
  simp only [andU] at hz
  go_enter Try.func10, Try.ntmps10
  go_wp2_with (first | (go_at_call 27; refine hO.mono ?_; rintro e w1 ⟨rfl, rfl⟩))
  go_ret2
  exact ⟨rfl, rfl⟩
theorem Wait_w (h : Ev w B n f) (k : Nat) (hk : k < n) (hx : (f k).x = true) (m : Int) (hs : (f k).s = false) (hz : andU (f k).on m = 0) : Calls Try.prog 10 #[eP B, I k, U m] w fun e w' => e = .returned (.tuple #[.bool true, I 0]) ∧ Ev w' B n (upf f k ⟨true, true, (f k).on, m⟩) ∧ Fx [B] w w' := by
  have hO := of_ok h k hk hx
  have hm := h.m
  have E1 := h.setS (k := k) (by omega) hx true
  rw [hx] at E1
  have E2 := E1.setWa (k := k) (by omega) (by rw [upf_same]) m
  rw [upf_same, upf_upf] at E2
  have F2 := ((Fx.refl [B] w).set (.inl (by simp : B ∈ [B])) (2 + k * 4 + 1) (.bool true)).set (.inl (by simp : B ∈ [B])) (2 + k * 4 + 3) (U m)
  have fz := fun j => h.frz j
  obtain ⟨-, c1, c2, c3⟩ := h.e k (by omega)
  have c4 : (w.setCell ⟨B, 2 + k * 4 + 1, none⟩ (.bool true)).cell? ⟨B, 2 + k * 4 + 3, none⟩ = some (U (f k).wa) := cell_set_off c3 (by omega)
  clear E1
  rw [hs] at c1
  simp only [andU] at hz
  go_enter Try.func10, Try.ntmps10
  go_wp2_with (first | (go_at_call 27; refine hO.mono ?_; rintro e w1 ⟨rfl, rfl⟩))
  go_ret2
  exact ⟨rfl, E2, F2⟩
def waitE (e : Et) (m : Int) : Et := if e.s || decide (andU e.on m ≠ 0) then e else ⟨e.x, true, e.on, m⟩
def waitB (e : Et) (m : Int) : Bool := !e.s && decide (andU e.on m = 0)
def waitI (e : Et) : Int := if e.s then 7 else 0
theorem upf_self (f : Nat → Et) (k : Nat) : upf f k (f k) = f := by funext i; simp only [upf]; split <;> simp_all
theorem Wait_ok (h : Ev w B n f) (k : Nat) (hk : k < n) (hx : (f k).x = true) (m : Int) : Calls Try.prog 10 #[eP B, I k, U m] w fun e w' => e = .returned (.tuple #[.bool (waitB (f k) m), I (waitI (f k))]) ∧ Ev w' B n (upf f k (waitE (f k) m)) ∧ Fx [B] w w' := by
  cases hs : (f k).s with
  | true =>
    rw [show waitE (f k) m = f k by simp [waitE, hs], show waitB (f k) m = false by simp [waitB, hs], show waitI (f k) = 7 by simp [waitI, hs], upf_self]
    refine (Wait_s h k hk hx m hs).mono ?_
    rintro e w1 ⟨rfl, rfl⟩
    exact ⟨rfl, h, Fx.refl _ _⟩
  | false =>
    by_cases hz : andU (f k).on m = 0
    · rw [show waitE (f k) m = ⟨true, true, (f k).on, m⟩ by simp [waitE, hs, hz, hx], show waitB (f k) m = true by simp [waitB, hs, hz], show waitI (f k) = 0 by simp [waitI, hs]]
      exact Wait_w h k hk hx m hs hz
    · rw [show waitE (f k) m = f k by simp [waitE, hs, hz], show waitB (f k) m = false by simp [waitB, hs, hz], show waitI (f k) = 0 by simp [waitI, hs], upf_self]
      refine (Wait_d h k hk hx m hs hz).mono ?_
      rintro e w1 ⟨rfl, rfl⟩
      exact ⟨rfl, h, Fx.refl _ _⟩
theorem Ev.setX (h : Ev w B n f) {k : Nat} (hk : k < 256) : Ev (w.setCell ⟨B, 2 + k * 4, none⟩ (.bool true)) B n (upf f k ⟨true, (f k).s, (f k).on, (f k).wa⟩) := by
  refine ⟨h.setc _ _, cell_set_off h.c0 (by omega), cell_set_off h.c1 (by omega), h.m, fun i hi => ?_, fun i => ?_⟩
  · obtain ⟨a, b, c, d⟩ := h.e i hi
    by_cases e : i = k
    · subst e
      rw [upf_same]
      exact ⟨cell_set_on a, cell_set_off b (by omega), cell_set_off c (by omega), cell_set_off d (by omega)⟩
    · rw [show upf f k ⟨true, (f k).s, (f k).on, (f k).wa⟩ i = f i by simp [upf, e]]
      exact ⟨cell_set_off a (by omega), cell_set_off b (by omega), cell_set_off c (by omega), cell_set_off d (by omega)⟩
  · by_cases e : i = k
    · subst e; rw [upf_same]; intro e2; cases e2
    · rw [show upf f k ⟨true, (f k).s, (f k).on, (f k).wa⟩ i = f i by simp [upf, e]]; exact h.z i
/-- the world behind a store of fresh events at a task -/
def fr4 (w : World) (B k : Nat) : World := (((w.setCell ⟨B, 2 + k * 4, none⟩ (.bool true)).setCell ⟨B, 2 + k * 4 + 1, none⟩ (.bool false)).setCell ⟨B, 2 + k * 4 + 2, none⟩ (U 0)).setCell ⟨B, 2 + k * 4 + 3, none⟩ (U 0)
theorem Ev.fr4 (h : Ev w B n f) {k : Nat} (hk : k < 256) : Ev (fr4 w B k) B n (upf f k et1) := by
  have h1 := h.setX hk
  have h2 := h1.setS hk (by rw [upf_same]) false
  rw [upf_same, upf_upf] at h2
  have h3 := h2.setOn hk (by rw [upf_same]) 0
  rw [upf_same, upf_upf] at h3
  have h4 := h3.setWa hk (by rw [upf_same]) 0
  rw [upf_same, upf_upf] at h4
  exact h4
theorem fx_fr4 (w : World) (B k : Nat) : Fx [B] w (fr4 w B k) :=
  ((((Fx.refl [B] w).set (.inl (by simp)) _ _).set (.inl (by simp)) _ _).set (.inl (by simp)) _ _).set (.inl (by simp)) _ _
/-- what a store of fresh events at a task asks -/
theorem Ev.ask4 (h : Ev w B n f) {k : Nat} (hk : k < 256) : (∀ j, w.frozen? ⟨B, j, none⟩ = false) ∧ w.cell? ⟨B, 2 + k * 4, none⟩ = some (.bool (f k).x) ∧ (w.setCell ⟨B, 2 + k * 4, none⟩ (.bool true)).cell? ⟨B, 2 + k * 4 + 1, none⟩ = some (.bool (f k).s) ∧
    ((w.setCell ⟨B, 2 + k * 4, none⟩ (.bool true)).setCell ⟨B, 2 + k * 4 + 1, none⟩ (.bool false)).cell? ⟨B, 2 + k * 4 + 2, none⟩ = some (U (f k).on) ∧
    (((w.setCell ⟨B, 2 + k * 4, none⟩ (.bool true)).setCell ⟨B, 2 + k * 4 + 1, none⟩ (.bool false)).setCell ⟨B, 2 + k * 4 + 2, none⟩ (U 0)).cell? ⟨B, 2 + k * 4 + 3, none⟩ = some (U (f k).wa) := by
  obtain ⟨a, b, c, d⟩ := h.e k hk
  exact ⟨h.frz, a, cell_set_off b (by omega), cell_set_off (cell_set_off c (by omega)) (by omega), cell_set_off (cell_set_off (cell_set_off d (by omega)) (by omega)) (by omega)⟩
theorem fresh_bel (w : World) : Calls Try.prog 26 #[] w fun e w' => e = .returned (.agg #[.bool true, .bool false, U 0, U 0]) ∧ Below w.heap.size w w' := by
  refine (fresh_any w).mono ?_
  rintro e w1 ⟨rfl, rfl⟩
  exact ⟨rfl, below_alloc _ _⟩
set_option maxRecDepth 100000 in
theorem Fresh_ok (h : Ev w B n f) (k : Nat) (hk : k < n) (hx : (f k).x = true) : Calls Try.prog 11 #[eP B, I k] w fun e w' => e = .returned (I 0) ∧ Ev w' B n (upf f k et1) ∧ Fx [B] w w' := by
  have hO := of_ok h k hk hx
  have hm : k < 256 := by have := h.m; omega
  have hE : Hid (Ev w B n f) := h
  clear h
  go_enter Try.func11, Try.ntmps11
  go_wp2_with (first | (go_at_call 27; refine hO.mono ?_; clear hO; rintro e w1 ⟨rfl, rfl⟩) | (go_at_call 26; refine (fresh_bel _).mono ?_; rintro e w2 ⟨rfl, hb⟩; have hE2 := hE.out.below hb; have F2 : Fx [B] w w2 := Fx.of_below hb; clear hb hE; obtain ⟨fz, a0, a1, a2, a3⟩ := hE2.ask4 hm))
  go_ret
  exact ⟨rfl, hE2.fr4 hm, F2.trans (fx_fr4 w2 B k)⟩
end
end Go.Proofs.Ytphafnfmkhhamaa
