import Derived.Test.YtphafnfmkhhamaaVc
import Derived.Deep.Cut
namespace Go.Proofs.Ytphafnfmkhhamaa
open Go.RowKit
set_option linter.unusedVariables false
set_option linter.unusedSimpArgs false

def dueE (e : Et) (m : Int) : Bool := e.s && decide (andU (orU e.on m) e.wa ≠ 0)
def setE (e : Et) (m : Int) : Et := if dueE e m then ⟨e.x, false, orU e.on m, 0⟩ else ⟨e.x, e.s, orU e.on m, e.wa⟩
section
variable {w : World} {B n : Nat} {f : Nat → Et}
set_option maxRecDepth 100000 in
theorem Set_f (h : Ev w B n f) (k : Nat) (hk : k < n) (hx : (f k).x = true) (m : Int) (hs : (f k).s = false) : Calls Try.prog 8 #[eP B, I k, U m] w fun e w' => e = .returned (.tuple #[.bool false, I 0]) ∧ Ev w' B n (upf f k ⟨true, false, orU (f k).on m, (f k).wa⟩) ∧ Fx [B] w w' := by
  have hO := of_ok h k hk hx
  have hm := h.m
  have hE := h.setOn (k := k) (by omega) hx (orU (f k).on m)
  have hF : Fx [B] w (w.setCell ⟨B, 2 + k * 4 + 2, none⟩ (U (orU (f k).on m))) := (Fx.refl _ _).set (.inl (by simp)) _ _
  have fz := h.frz (2 + k * 4 + 2)
  obtain ⟨-, -, c, -⟩ := h.e k (by omega)
  rw [hx, hs] at hE
  clear h hx hs
  simp only [orU, andU] at *
  go_enter Try.func8, Try.ntmps8
  go_upto_region 5 with (first | (go_at_call 27; refine hO.mono ?_; rintro e w1 ⟨rfl, rfl⟩))
  generalize (w.setCell ⟨B, 2 + k * 4 + 2, none⟩ (U (bits .or .u32 (f k).on m))) = w1 at *
  clear c fz hO
  obtain ⟨-, c1, c2, c3⟩ := hE.e k (by omega)
  rw [upf_same] at c1 c2 c3
  simp only at c1 c2 c3
  go_region
  all_goals
    have hE2 := hE.below ((Below.refl _ _).drew)
    have hF2 : Fx [B] w w1.drew := hF.drewN 1
    clear hE hF c1 c2 c3
    generalize w1.drew = w2 at *
    have E1 := hE2.setS (k := k) (by omega) (by rw [upf_same]) false
    have E2 := E1.setWa (k := k) (by omega) (by rw [upf_same, upf_same]) 0
    rw [upf_same, upf_upf, upf_same, upf_upf] at E2
    have F2 := (hF2.set (.inl (by simp : B ∈ [B])) (2 + k * 4 + 1) (.bool false)).set (.inl (by simp : B ∈ [B])) (2 + k * 4 + 3) (U 0)
    have fz := fun j => hE2.frz j
    obtain ⟨-, c1, c2, c3⟩ := hE2.e k (by omega)
    rw [upf_same] at c1 c2 c3
    have c4 : (w2.setCell ⟨B, 2 + k * 4 + 1, none⟩ (.bool false)).cell? ⟨B, 2 + k * 4 + 3, none⟩ = some (U (f k).wa) := cell_set_off c3 (by omega)
    simp only at E2 c1 c2 c3
    clear E1
    go_wp2
    go_ret2
    exact ⟨rfl, hE2, hF2⟩
set_option maxRecDepth 100000 in
theorem Set_t (h : Ev w B n f) (k : Nat) (hk : k < n) (hx : (f k).x = true) (m : Int) (hs : (f k).s = true) (hz : andU (orU (f k).on m) (f k).wa ≠ 0) : Calls Try.prog 8 #[eP B, I k, U m] w fun e w' => e = .returned (.tuple #[.bool true, I 0]) ∧ Ev w' B n (upf f k ⟨true, false, orU (f k).on m, 0⟩) ∧ Fx [B] w w' := by
  have hO := of_ok h k hk hx
  have hm := h.m
  have hE := h.setOn (k := k) (by omega) hx (orU (f k).on m)
  have hF : Fx [B] w (w.setCell ⟨B, 2 + k * 4 + 2, none⟩ (U (orU (f k).on m))) := (Fx.refl _ _).set (.inl (by simp)) _ _
  have fz := h.frz (2 + k * 4 + 2)
  obtain ⟨-, -, c, -⟩ := h.e k (by omega)
  rw [hx, hs] at hE
  clear h hx hs
  simp only [orU, andU] at *
  go_enter Try.func8, Try.ntmps8
  go_upto_region 5 with (first | (go_at_call 27; refine hO.mono ?_; rintro e w1 ⟨rfl, rfl⟩))
  generalize (w.setCell ⟨B, 2 + k * 4 + 2, none⟩ (U (bits .or .u32 (f k).on m))) = w1 at *
  clear c fz hO
  obtain ⟨-, c1, c2, c3⟩ := hE.e k (by omega)
  rw [upf_same] at c1 c2 c3
  simp only at c1 c2 c3
  go_region
  all_goals
    have hE2 := hE.below ((Below.refl _ _).drew)
    have hF2 : Fx [B] w w1.drew := hF.drewN 1
    clear hE hF c1 c2 c3
    generalize w1.drew = w2 at *
    have E1 := hE2.setS (k := k) (by omega) (by rw [upf_same]) false
    have E2 := E1.setWa (k := k) (by omega) (by rw [upf_same, upf_same]) 0
    rw [upf_same, upf_upf, upf_same, upf_upf] at E2
    have F2 := (hF2.set (.inl (by simp : B ∈ [B])) (2 + k * 4 + 1) (.bool false)).set (.inl (by simp : B ∈ [B])) (2 + k * 4 + 3) (U 0)
    have fz := fun j => hE2.frz j
    obtain ⟨-, c1, c2, c3⟩ := hE2.e k (by omega)
    rw [upf_same] at c1 c2 c3
    have c4 : (w2.setCell ⟨B, 2 + k * 4 + 1, none⟩ (.bool false)).cell? ⟨B, 2 + k * 4 + 3, none⟩ = some (U (f k).wa) := cell_set_off c3 (by omega)
    simp only at E2 c1 c2 c3
    clear E1
    go_wp2
    go_ret2
    refine ⟨?_, E2, F2⟩
    show Ending.returned (.tuple #[.bool (bits .and .u32 _ _ != 0), I 0]) = _
    rw [show (bits .and .u32 (bits .or .u32 (f k).on m) (f k).wa != 0) = true by simpa using hz]
set_option maxRecDepth 100000 in
theorem Set_u (h : Ev w B n f) (k : Nat) (hk : k < n) (hx : (f k).x = true) (m : Int) (hs : (f k).s = true) (hz : andU (orU (f k).on m) (f k).wa = 0) : Calls Try.prog 8 #[eP B, I k, U m] w fun e w' => e = .returned (.tuple #[.bool false, I 0]) ∧ Ev w' B n (upf f k ⟨true, true, orU (f k).on m, (f k).wa⟩) ∧ Fx [B] w w' := by
  have hO := of_ok h k hk hx
  have hm := h.m
  have hE := h.setOn (k := k) (by omega) hx (orU (f k).on m)
  have hF : Fx [B] w (w.setCell ⟨B, 2 + k * 4 + 2, none⟩ (U (orU (f k).on m))) := (Fx.refl _ _).set (.inl (by simp)) _ _
  have fz := h.frz (2 + k * 4 + 2)
  obtain ⟨-, -, c, -⟩ := h.e k (by omega)
  rw [hx, hs] at hE
  clear h hx hs
  simp only [orU, andU] at *
  go_enter Try.func8, Try.ntmps8
  go_upto_region 5 with (first | (go_at_call 27; refine hO.mono ?_; rintro e w1 ⟨rfl, rfl⟩))
  generalize (w.setCell ⟨B, 2 + k * 4 + 2, none⟩ (U (bits .or .u32 (f k).on m))) = w1 at *
  clear c fz hO
  obtain ⟨-, c1, c2, c3⟩ := hE.e k (by omega)
  rw [upf_same] at c1 c2 c3
  simp only at c1 c2 c3
  go_region
  all_goals
    have hE2 := hE.below ((Below.refl _ _).drew)
    have hF2 : Fx [B] w w1.drew := hF.drewN 1
    clear hE hF c1 c2 c3
    generalize w1.drew = w2 at *
    have E1 := hE2.setS (k := k) (by omega) (by rw [upf_same]) false
    have E2 := E1.setWa (k := k) (by omega) (by rw [upf_same, upf_same]) 0
    rw [upf_same, upf_upf, upf_same, upf_upf] at E2
    have F2 := (hF2.set (.inl (by simp : B ∈ [B])) (2 + k * 4 + 1) (.bool false)).set (.inl (by simp : B ∈ [B])) (2 + k * 4 + 3) (U 0)
    have fz := fun j => hE2.frz j
    obtain ⟨-, c1, c2, c3⟩ := hE2.e k (by omega)
    rw [upf_same] at c1 c2 c3
    have c4 : (w2.setCell ⟨B, 2 + k * 4 + 1, none⟩ (.bool false)).cell? ⟨B, 2 + k * 4 + 3, none⟩ = some (U (f k).wa) := cell_set_off c3 (by omega)
    simp only at E2 c1 c2 c3
    clear E1
    go_wp2
    go_ret2
    exact ⟨rfl, hE2, hF2⟩
theorem Set_ok (h : Ev w B n f) (k : Nat) (hk : k < n) (hx : (f k).x = true) (m : Int) : Calls Try.prog 8 #[eP B, I k, U m] w fun e w' => e = .returned (.tuple #[.bool (dueE (f k) m), I 0]) ∧ Ev w' B n (upf f k (setE (f k) m)) ∧ Fx [B] w w' := by
  cases hs : (f k).s with
  | false =>
    rw [show setE (f k) m = ⟨true, false, orU (f k).on m, (f k).wa⟩ by simp [setE, dueE, hs, hx], show dueE (f k) m = false by simp [dueE, hs]]
    exact Set_f h k hk hx m hs
  | true =>
    by_cases hz : andU (orU (f k).on m) (f k).wa = 0
    · rw [show setE (f k) m = ⟨true, true, orU (f k).on m, (f k).wa⟩ by simp [setE, dueE, hs, hx, hz], show dueE (f k) m = false by simp [dueE, hs, hz]]
      exact Set_u h k hk hx m hs hz
    · rw [show setE (f k) m = ⟨true, false, orU (f k).on m, 0⟩ by simp [setE, dueE, hs, hx, hz], show dueE (f k) m = true by simp [dueE, hs, hz]]
      exact Set_t h k hk hx m hs hz
end
end Go.Proofs.Ytphafnfmkhhamaa
