import Derived.Test.YtphafnfmkhhamaaVh
namespace Go.Proofs.Ytphafnfmkhhamaa
open Go.RowKit
set_option linter.unusedVariables false
set_option linter.unusedSimpArgs false

/-! ### Every call, of every task -/
def setB (n : Nat) (f : Nat → Et) (t m : Int) : Bool := if stE n f t = 0 then dueE (f t.toNat) m else false
def setF (n : Nat) (f : Nat → Et) (t m : Int) : Nat → Et := if stE n f t = 0 then upf f t.toNat (setE (f t.toNat) m) else f
def clrF (n : Nat) (f : Nat → Et) (t m : Int) : Nat → Et := if stE n f t = 0 then upf f t.toNat ⟨(f t.toNat).x, (f t.toNat).s, anU (f t.toNat).on m, (f t.toNat).wa⟩ else f
def getI (n : Nat) (f : Nat → Et) (t : Int) : Int := if stE n f t = 0 then (f t.toNat).on else 0
def wtsI (n : Nat) (f : Nat → Et) (t : Int) : Int := if stE n f t = 0 then (f t.toNat).wa else 0
def waiB (n : Nat) (f : Nat → Et) (t m : Int) : Bool := if stE n f t = 0 then waitB (f t.toNat) m else false
def waiI (n : Nat) (f : Nat → Et) (t : Int) : Int := if stE n f t = 0 then waitI (f t.toNat) else stE n f t
def waiF (n : Nat) (f : Nat → Et) (t m : Int) : Nat → Et := if stE n f t = 0 then upf f t.toNat (waitE (f t.toNat) m) else f
def freF (n : Nat) (f : Nat → Et) (t : Int) : Nat → Et := if stE n f t = 0 then upf f t.toNat et1 else f
section
variable {w : World} {B n : Nat} {f : Nat → Et}
theorem Set_any (h : Ev w B n f) (t m : Int) : Calls Try.prog 8 #[eP B, I t, U m] w fun e w' => e = .returned (.tuple #[.bool (setB n f t m), I (stE n f t)]) ∧ Ev w' B n (setF n f t m) ∧ Fx [B] w w' := by
  by_cases hs : stE n f t = 0
  · obtain ⟨k, rfl, hk, hx⟩ := stE_zero hs
    simp only [setB, setF, hs, if_true, Int.toNat_natCast]
    exact Set_ok h k hk hx m
  · simp only [setB, setF, hs, if_false]
    refine (Set_no h t m hs).mono ?_
    rintro e w1 ⟨rfl, rfl⟩
    exact ⟨rfl, h, Fx.refl _ _⟩
theorem Clear_any (h : Ev w B n f) (t m : Int) : Calls Try.prog 9 #[eP B, I t, U m] w fun e w' => e = .returned (I (stE n f t)) ∧ Ev w' B n (clrF n f t m) ∧ Fx [B] w w' := by
  by_cases hs : stE n f t = 0
  · obtain ⟨k, rfl, hk, hx⟩ := stE_zero hs
    simp only [clrF, hs, if_true, Int.toNat_natCast]
    exact Clear_ok h k hk hx m
  · simp only [clrF, hs, if_false]
    refine (Clear_no h t m hs).mono ?_
    rintro e w1 ⟨rfl, rfl⟩
    exact ⟨rfl, h, Fx.refl _ _⟩
theorem Get_any (h : Ev w B n f) (t : Int) : Calls Try.prog 12 #[eP B, I t] w fun e w' => e = .returned (.tuple #[U (getI n f t), I (stE n f t)]) ∧ w = w' := by
  by_cases hs : stE n f t = 0
  · obtain ⟨k, rfl, hk, hx⟩ := stE_zero hs
    simp only [getI, hs, if_true, Int.toNat_natCast]
    exact Get_ok h k hk hx
  · simp only [getI, hs, if_false]
    exact Get_no h t hs
theorem Waits_any (h : Ev w B n f) (t : Int) : Calls Try.prog 13 #[eP B, I t] w fun e w' => e = .returned (U (wtsI n f t)) ∧ w = w' := by
  by_cases hs : stE n f t = 0
  · obtain ⟨k, rfl, hk, hx⟩ := stE_zero hs
    simp only [wtsI, hs, if_true, Int.toNat_natCast]
    exact Waits_ok h k hk hx
  · simp only [wtsI, hs, if_false]
    exact Waits_no h t hs
theorem Wait_any (h : Ev w B n f) (t m : Int) : Calls Try.prog 10 #[eP B, I t, U m] w fun e w' => e = .returned (.tuple #[.bool (waiB n f t m), I (waiI n f t)]) ∧ Ev w' B n (waiF n f t m) ∧ Fx [B] w w' := by
  by_cases hs : stE n f t = 0
  · obtain ⟨k, rfl, hk, hx⟩ := stE_zero hs
    simp only [waiB, waiI, waiF, hs, if_true, Int.toNat_natCast]
    exact Wait_ok h k hk hx m
  · simp only [waiB, waiI, waiF, hs, if_false]
    refine (Wait_no h t m hs).mono ?_
    rintro e w1 ⟨rfl, rfl⟩
    exact ⟨rfl, h, Fx.refl _ _⟩
theorem Fre_any (h : Ev w B n f) (t : Int) : Calls Try.prog 11 #[eP B, I t] w fun e w' => e = .returned (I (stE n f t)) ∧ Ev w' B n (freF n f t) ∧ Fx [B] w w' := by
  by_cases hs : stE n f t = 0
  · obtain ⟨k, rfl, hk, hx⟩ := stE_zero hs
    simp only [freF, hs, if_true, Int.toNat_natCast]
    exact Fresh_ok h k hk hx
  · simp only [freF, hs, if_false]
    refine (Fresh_no h t hs).mono ?_
    rintro e w1 ⟨rfl, rfl⟩
    exact ⟨rfl, h, Fx.refl _ _⟩
end
/-! ### heads -/
theorem two_cells (w : World) (a b : Int) (j : Nat) (v : Int) (h : [a, b][j]? = some v) : ∃ g off, (some ⟨w.heap.size, 0, none⟩ : Option Addr) = some ⟨g, off, none⟩ ∧ g < (w.alloc (.cells #[U a, U b] 22)).heap.size ∧ (w.alloc (.cells #[U a, U b] 22)).cell? ⟨g, off + j, none⟩ = some (U v) := by
  refine ⟨w.heap.size, 0, rfl, by simp, ?_⟩
  rw [cell_of_row _ _ _ _ _ (0, 0) (heap_alloc_new w _)]
  match j, h with
  | 0, h => cases h; rfl
  | 1, h => cases h; rfl
theorem New_two (w : World) (a b : Int) : Calls Try.prog 6 #[.slice (some ⟨w.heap.size, 0, none⟩) 2 2] (w.alloc (.cells #[U a, U b] 22)) fun e w' => e = .returned (.tuple #[eP (w.heap.size + 1), I 0]) ∧ Ev w' (w.heap.size + 1) 2 (tsk [a, b]) ∧ Below w.heap.size w w' := by
  refine (New_ok (w.alloc (.cells #[U a, U b] 22)) _ 2 [a, b] (by simp) (two_cells w a b)).mono ?_
  rintro e w' ⟨rfl, hE, hb⟩
  have hs : (w.alloc (.cells #[U a, U b] 22)).heap.size = w.heap.size + 1 := by simp
  rw [hs] at hE ⊢
  exact ⟨rfl, hE, (below_alloc w _).trans (hb.mono (by rw [hs]; omega))⟩
theorem hd1 : dueE (tsk [3, 0] 0) 1 = false := by kernel_rfl
theorem hd2 : setE (tsk [3, 0] 0) 1 = ⟨true, false, 1, 0⟩ := by kernel_rfl
theorem hd3 : dueE ⟨true, true, 1, 2⟩ 2 = true := by kernel_rfl
theorem hd4 : setE ⟨true, true, 1, 2⟩ 2 = ⟨true, false, 3, 0⟩ := by kernel_rfl
theorem hd5 : stE 2 (upf (tsk [3, 0]) 0 ⟨true, false, 3, 0⟩) 1 = 1 := by kernel_rfl
theorem hd6 : andU 1 2 = 0 := by kernel_rfl
set_option maxRecDepth 100000 in
theorem heads_any (w : World) : Calls Try.prog 7 #[] w fun e w' => e = .returned (.bool true) ∧ Below w.heap.size w w' := by
  have h0 := New_two w 3 0
  go_enter Try.func7, Try.ntmps7
  go_wp2_with (first
    | (go_at_call 6; refine h0.mono ?_; clear h0; rintro e w1 ⟨rfl, E1, b1⟩; have F1 : Fx [w.heap.size + 1] w w1 := Fx.of_below b1; clear b1)
    | (go_at_call 8; have R := Set_ok E1 0 (by decide) rfl 1; rw [hd1, hd2] at R; refine R.mono ?_; clear R E1; rintro e w2 ⟨rfl, E2, f2⟩; have F2 := F1.trans f2; clear F1 f2)
    | (go_at_call 10; have R := Wait_w E2 0 (by decide) rfl 2 rfl hd6; refine R.mono ?_; clear R E2; rintro e w3 ⟨rfl, E3, f3⟩; rw [upf_same, upf_upf] at E3; have F3 := F2.trans f3; clear F2 f3)
    | (go_at_call 8; have R := Set_ok E3 0 (by decide) rfl 2; rw [upf_same, upf_upf, hd3, hd4] at R; refine R.mono ?_; clear R E3; rintro e w4 ⟨rfl, E4, f4⟩; have F4 := F3.trans f4; clear F3 f4)
    | (go_at_call 12; refine (Get_ok E4 0 (by decide) rfl).mono ?_; rw [upf_same]; rintro e w5 ⟨rfl, rfl⟩)
    | (go_at_call 8; refine (Set_no E4 1 1 (by rw [hd5]; decide)).mono ?_; rw [hd5]; rintro e w6 ⟨rfl, rfl⟩))
  go_ret
  exact ⟨rfl, F4.below (Nat.le_refl _) (by intro x hx; simp at hx; omega)⟩
end Go.Proofs.Ytphafnfmkhhamaa
