import Derived.Test.YtphafnfmkhhamaaVb
namespace Go.Proofs.Ytphafnfmkhhamaa
open Go.RowKit
set_option linter.unusedVariables false
set_option linter.unusedSimpArgs false

/-! ### Set, Clear, Get, Wait, Waits, Fresh -/
abbrev orU (a b : Int) : Int := bits .or .u32 a b
abbrev andU (a b : Int) : Int := bits .and .u32 a b
abbrev anU (a b : Int) : Int := bits .andNot .u32 a b
section
variable {w : World} {B n : Nat} {f : Nat → Et}
theorem Get_no (h : Ev w B n f) (t : Int) (ht : stE n f t ≠ 0) : Calls Try.prog 12 #[eP B, I t] w fun e w' => e = .returned (.tuple #[U 0, I (stE n f t)]) ∧ w = w' := by
  have hO := of_no h t ht
  generalize stE n f t = s at *
  go_enter Try.func12, Try.ntmps12
  go_wp2_with (first | (go_at_call 27; refine hO.mono ?_; rintro e w1 ⟨rfl, rfl⟩))
  go_ret2
  exact ⟨rfl, rfl⟩
theorem Get_ok (h : Ev w B n f) (k : Nat) (hk : k < n) (hx : (f k).x = true) : Calls Try.prog 12 #[eP B, I k] w fun e w' => e = .returned (.tuple #[U (f k).on, I 0]) ∧ w = w' := by
  have hO := of_ok h k hk hx
  have hm := h.m
  obtain ⟨a, b, c, d⟩ := h.e k (by omega)
  go_enter Try.func12, Try.ntmps12
  go_wp2_with (first | (go_at_call 27; refine hO.mono ?_; rintro e w1 ⟨rfl, rfl⟩))
  go_ret2
  exact ⟨rfl, rfl⟩
theorem Waits_no (h : Ev w B n f) (t : Int) (ht : stE n f t ≠ 0) : Calls Try.prog 13 #[eP B, I t] w fun e w' => e = .returned (U 0) ∧ w = w' := by
  have hO := of_no h t ht
  generalize stE n f t = s at *
  go_enter Try.func13, Try.ntmps13
  go_wp2_with (first | (go_at_call 27; refine hO.mono ?_; rintro e w1 ⟨rfl, rfl⟩))
  go_ret
  exact ⟨rfl, rfl⟩
theorem Waits_ok (h : Ev w B n f) (k : Nat) (hk : k < n) (hx : (f k).x = true) : Calls Try.prog 13 #[eP B, I k] w fun e w' => e = .returned (U (f k).wa) ∧ w = w' := by
  have hO := of_ok h k hk hx
  have hm := h.m
  obtain ⟨a, b, c, d⟩ := h.e k (by omega)
  go_enter Try.func13, Try.ntmps13
  go_wp2_with (first | (go_at_call 27; refine hO.mono ?_; rintro e w1 ⟨rfl, rfl⟩))
  go_ret
  exact ⟨rfl, rfl⟩
theorem Clear_no (h : Ev w B n f) (t m : Int) (ht : stE n f t ≠ 0) : Calls Try.prog 9 #[eP B, I t, U m] w fun e w' => e = .returned (I (stE n f t)) ∧ w = w' := by
  have hO := of_no h t ht
  generalize stE n f t = s at *
  go_enter Try.func9, Try.ntmps9
  go_wp2_with (first | (go_at_call 27; refine hO.mono ?_; rintro e w1 ⟨rfl, rfl⟩))
  go_ret
  exact ⟨rfl, rfl⟩
theorem Clear_ok (h : Ev w B n f) (k : Nat) (hk : k < n) (hx : (f k).x = true) (m : Int) : Calls Try.prog 9 #[eP B, I k, U m] w fun e w' => e = .returned (I 0) ∧ Ev w' B n (upf f k ⟨(f k).x, (f k).s, anU (f k).on m, (f k).wa⟩) ∧ Fx [B] w w' := by
  have hO := of_ok h k hk hx
  have hm := h.m
  have hE := h.setOn (k := k) (by omega) hx (anU (f k).on m)
  have hF : Fx [B] w (w.setCell ⟨B, 2 + k * 4 + 2, none⟩ (U (anU (f k).on m))) := (Fx.refl _ _).set (.inl (by simp)) _ _
  have fz := h.frz (2 + k * 4 + 2)
  obtain ⟨a, b, c, d⟩ := h.e k (by omega)
  go_enter Try.func9, Try.ntmps9
  go_wp2_with (first | (go_at_call 27; refine hO.mono ?_; rintro e w1 ⟨rfl, rfl⟩))
  go_ret
  exact ⟨rfl, hE, hF⟩
theorem Set_no (h : Ev w B n f) (t m : Int) (ht : stE n f t ≠ 0) : Calls Try.prog 8 #[eP B, I t, U m] w fun e w' => e = .returned (.tuple #[.bool false, I (stE n f t)]) ∧ w = w' := by
  have hO := of_no h t ht
  generalize stE n f t = s at *
  go_enter Try.func8, Try.ntmps8
  go_wp2_with (first | (go_at_call 27; refine hO.mono ?_; rintro e w1 ⟨rfl, rfl⟩))
  go_ret2
  exact ⟨rfl, rfl⟩
theorem Wait_no (h : Ev w B n f) (t m : Int) (ht : stE n f t ≠ 0) : Calls Try.prog 10 #[eP B, I t, U m] w fun e w' => e = .returned (.tuple #[.bool false, I (stE n f t)]) ∧ w = w' := by
  have hO := of_no h t ht
  generalize stE n f t = s at *
  go_enter Try.func10, Try.ntmps10
  go_wp2_with (first | (go_at_call 27; refine hO.mono ?_; rintro e w1 ⟨rfl, rfl⟩))
  go_ret2
  exact ⟨rfl, rfl⟩
theorem Fresh_no (h : Ev w B n f) (t : Int) (ht : stE n f t ≠ 0) : Calls Try.prog 11 #[eP B, I t] w fun e w' => e = .returned (I (stE n f t)) ∧ w = w' := by
  have hO := of_no h t ht
  generalize stE n f t = s at *
  go_enter Try.func11, Try.ntmps11
  go_wp2_with (first | (go_at_call 27; refine hO.mono ?_; rintro e w1 ⟨rfl, rfl⟩))
  go_ret
  exact ⟨rfl, rfl⟩
end
end Go.Proofs.Ytphafnfmkhhamaa
