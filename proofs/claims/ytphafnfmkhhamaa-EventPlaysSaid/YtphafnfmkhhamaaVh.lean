import Derived.Test.YtphafnfmkhhamaaVg
namespace Go.Proofs.Ytphafnfmkhhamaa
open Go.RowKit
set_option linter.unusedVariables false
set_option linter.unusedSimpArgs false

/-! ### Reset -/
def rstTo (f : Nat → Et) (k : Nat) (i : Nat) : Et := if i < k ∧ (f i).x = true then et1 else f i
theorem rstTo_zero (f : Nat → Et) : rstTo f 0 = f := by funext i; simp [rstTo]
theorem rstTo_x (f : Nat → Et) (k i : Nat) : (rstTo f k i).x = (f i).x := by
  unfold rstTo
  split
  · rename_i h; rw [h.2]; rfl
  · rfl
theorem rstTo_skip {f : Nat → Et} {k : Nat} (h : (f k).x = false) : rstTo f (k + 1) = rstTo f k := by
  funext i
  unfold rstTo
  by_cases e : i = k
  · subst e; simp [h]
  · by_cases e2 : i < k
    · simp [e2, show i < k + 1 by omega]
    · simp [e2, show ¬ i < k + 1 by omega]
theorem rstTo_put {f : Nat → Et} {k : Nat} (h : (f k).x = true) : rstTo f (k + 1) = upf (rstTo f k) k et1 := by
  funext i
  show _ = if i = k then et1 else rstTo f k i
  unfold rstTo
  by_cases e : i = k
  · subst e; simp [h]
  · rw [if_neg e]
    by_cases e2 : i < k
    · simp [e2, show i < k + 1 by omega]
    · simp [e2, show ¬ i < k + 1 by omega]
section
variable {w : World} {B n : Nat} {f : Nat → Et}
theorem Fresh_any (h : Ev w B n f) (k : Nat) (hk : k < n) : Calls Try.prog 11 #[eP B, I k] w fun e w' => e = .returned (I (stE n f k)) ∧ Ev w' B n (if (f k).x then upf f k et1 else f) ∧ Fx [B] w w' := by
  cases hx : (f k).x with
  | true =>
    rw [show stE n f k = 0 by unfold stE; rw [if_neg (by omega)]; simp [hx]]
    exact Fresh_ok h k hk hx
  | false =>
    have h1 : stE n f k = 1 := by unfold stE; rw [if_neg (by omega)]; simp [hx]
    refine (Fresh_no h k (by rw [h1]; decide)).mono ?_
    rintro e w1 ⟨rfl, rfl⟩
    exact ⟨rfl, by simpa using h, Fx.refl _ _⟩
set_option maxRecDepth 100000 in
theorem Reset_ok (h : Ev w B n f) : Calls Try.prog 22 #[eP B] w fun e w' => e = .returned (I 0) ∧ Ev w' B n (rstTo f n) ∧ Fx [B] w w' := by
  have hN := none_any h
  have c1 := h.c1
  have hm := h.m
  have HI : Hid (Ev w B n (rstTo f 0) ∧ Fx [B] w w) := ⟨by rw [rstTo_zero]; exact h, Fx.refl _ _⟩
  clear h
  go_enter Try.func22, Try.ntmps22
  go_wp2_with (first | (go_at_call 29; refine hN.mono ?_; rintro e w1 ⟨rfl, rfl⟩))
  clear hN c1
  go_loopw [10] (fun i wr => ∃ k : Nat, k ≤ n ∧ i = I k ∧ Hid (Ev wr B n (rstTo f k) ∧ Fx [B] w wr)) (fun i _ => n - (intOf i).toNat)
  case atStart => exact ⟨0, by omega, rfl, HI.out⟩
  case round =>
    clear HI
    obtain ⟨k, hk, rfl, HJ⟩ := hrel
    by_cases hlt : k < n
    · have hltI : (k : Int) < n := by omega
      have hF := Fresh_any HJ.out.1 k hlt
      rw [rstTo_x] at hF
      have F0 : Hid (Fx [B] w wr) := HJ.out.2
      clear HJ
      go_wp2_with (first | (go_at_call 11; refine hF.mono ?_; clear hF; rintro e w2 ⟨rfl, hE2, f2⟩; have H9 : Hid (Ev w2 B n (rstTo f (k + 1)) ∧ Fx [B] w w2) := ⟨by (cases hx : (f k).x with | true => rw [rstTo_put hx]; simpa [hx] using hE2 | false => rw [rstTo_skip hx]; simpa [hx] using hE2), F0.out.trans f2⟩; clear hE2 f2 F0))
      go_roundw
      case rel => exact ⟨k + 1, by omega, by go_num, H9.out⟩
      case measure => simp [intOf]; omega
    · obtain rfl : k = n := by omega
      have hge : ¬ ((k : Int) < k) := by omega
      go_wp2
      go_ret
      exact ⟨rfl, HJ.out.1, HJ.out.2⟩
end
end Go.Proofs.Ytphafnfmkhhamaa
