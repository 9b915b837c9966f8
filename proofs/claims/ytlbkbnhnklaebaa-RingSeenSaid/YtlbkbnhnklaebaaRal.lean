import Derived.Test.YtlbkbnhnklaebaaRhs1
namespace Go.Proofs.Ytlbkbnhnklaebaa
open Go.RowKit
set_option linter.unusedVariables false
set_option linter.unusedSimpArgs false

/-! ### alive -/
theorem num_any (i : Int) (hi : -100000 ≤ i ∧ i ≤ 100000) (w : World) : Calls Try.prog 10 #[I i] w fun e w' => e = .returned (I i) ∧ w = w' := by
  obtain ⟨h1, h2⟩ := hi
  go_enter Try.func10, Try.ntmps10
  go_wp2
  go_ret
  exact ⟨rfl, rfl⟩
theorem sFullT {w : World} {B g n hi : Nat} {l : List Value} (h : sQ w B g n hi l) (hc : l.length = n) : Calls Try.prog 42 #[sP B] w fun e w' => e = .returned (.bool true) ∧ sQ w' B g n hi l ∧ Below w.heap.size w w' := by
  have := sFullQ h
  rwa [decide_eq_true hc] at this
set_option maxHeartbeats 4000000 in
theorem alive_any (w : World) : Calls Try.prog 14 #[] w fun e w' => e = .returned (.bool true) ∧ Below w.heap.size w w' := by
  have h0 := sNewQ w 2 (by decide)
  generalize hB : w.heap.size + 1 = B at *
  have HB : Hid (w.heap.size + 1 = B) := hB
  clear hB
  go_enter Try.func14, Try.ntmps14
  go_wp2_with (first
    | (go_at_call 10; refine (num_any _ (by decide) _).mono ?_; rintro e w9 ⟨rfl, rfl⟩)
    | (go_at_call 39; refine h0.mono ?_; clear h0; rintro e w1 ⟨rfl, hq1, b1⟩; have F1 : Fx [B, w.heap.size] w w1 := Fx.of_below b1; clear b1)
    | (go_at_call 40; refine (sLastQ hq1 (by decide) _).mono ?_; clear hq1; rintro e w2 ⟨rfl, hq2, f2⟩; have F2 := F1.trans f2; clear F1 f2)
    | (go_at_call 41; refine (sFirstQ hq2 (by decide) _).mono ?_; clear hq2; rintro e w3 ⟨rfl, hq3, f3⟩; have F3 := F2.trans f3; clear F2 f3)
    | (go_at_call 40; refine (sLastF hq3 (by decide) _).mono ?_; clear hq3; rintro e w4 ⟨rfl, hq4, f4⟩; have F4 := F3.trans (Fx.of_below f4); clear F3 f4)
    | (go_at_call 42; refine (sFullT hq4 (by decide)).mono ?_; clear hq4; rintro e w5 ⟨rfl, hq5, f5⟩; have F5 := F4.trans (Fx.of_below f5); clear F4 f5)
    | (go_at_call 43; refine (sTakeQ _ hq5).mono ?_; clear hq5; rintro e w6 ⟨rfl, hq6, f6⟩; have F6 := F5.trans f6; clear F5 f6)
    | (go_at_call 44; refine (sAtQ hq6 0 _ rfl).mono ?_; clear hq6; rintro e w7 ⟨rfl, hq7, f7⟩; have F7 := F6.trans (Fx.of_below f7); clear F6 f7)
    | (go_at_call 45; refine (sLenQ hq7).mono ?_; rintro e w8 ⟨rfl, rfl⟩)
    | (go_at_call 46; refine (sHighQ hq7).mono ?_; rintro e w8 ⟨rfl, rfl⟩)
    | (go_at_call 47; refine (sRoomQ hq7).mono ?_; rintro e w8 ⟨rfl, rfl⟩))
  go_ret
  exact ⟨rfl, F7.below (Nat.le_refl _) (by have := HB.out; intro x hx; simp at hx; omega)⟩
end Go.Proofs.Ytlbkbnhnklaebaa
