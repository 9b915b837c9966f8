import Derived.Test.YtckmdkdhnhkdhaaZks
namespace Go.Proofs.Ytckmdkdhnhkdhaa
open Go.RowKit
set_option linter.unusedVariables false
set_option linter.unusedSimpArgs false

/-! ### alive -/
theorem num_any (i : Int) (hi : -100000 ≤ i ∧ i ≤ 100000) (w : World) : Calls Try.prog 11 #[I i] w fun e w' => e = .returned (I i) ∧ w = w' := by
  obtain ⟨h1, h2⟩ := hi
  go_enter Try.func11, Try.ntmps11
  go_wp2
  go_ret
  exact ⟨rfl, rfl⟩
theorem find_ab : fndO (fun x => sEq x ⟨#[97]⟩) [(⟨#[98]⟩ : ByteArray), ⟨#[97]⟩] = (1, true) := fndO_some (k := 1) rfl (by kernel_rfl) (fun j z hj hz => by
  obtain rfl : j = 0 := by omega
  cases hz
  kernel_rfl)
set_option maxHeartbeats 4000000 in
theorem alive_any (w : World) : Calls Try.prog 16 #[] w fun e w' => e = .returned (.bool true) ∧ Below w.heap.size w w' := by
  have h0 := sNewQ w 2 (by decide)
  generalize hB : w.heap.size + 1 = B at *
  have HB : Hid (w.heap.size + 1 = B) := hB
  clear hB
  go_enter Try.func16, Try.ntmps16
  go_wp2_with (first
    | (go_at_call 11; refine (num_any _ (by decide) _).mono ?_; rintro e w9 ⟨rfl, rfl⟩)
    | (go_at_call 38; refine h0.mono ?_; clear h0; rintro e w1 ⟨rfl, hq1, b1⟩; have F1 : Fx [B, w.heap.size] w w1 := Fx.of_below b1; clear b1)
    | (go_at_call 39; refine (sPushQ hq1 (by decide) _).mono ?_; clear hq1; rintro e w2 ⟨rfl, hq2, f2⟩; have F2 := F1.trans f2; clear F1 f2)
    | (go_at_call 39; refine (sPushQ hq2 (by decide) _).mono ?_; clear hq2; rintro e w3 ⟨rfl, hq3, f3⟩; have F3 := F2.trans f3; clear F2 f3)
    | (go_at_call 39; refine (sPushF hq3 (by decide) _).mono ?_; rintro e w4 ⟨rfl, f4⟩; have hq4 := hq3.below f4; have F4 := F3.trans (Fx.of_below f4); clear hq3 F3 f4)
    | (go_at_call 40; refine (sFindQ hq4 _).mono ?_; rintro e w5 ⟨he, f5⟩; rw [show fndO (fun x => sEq x ⟨#[97]⟩) (List.reverse ([] ++ [(⟨#[97]⟩ : ByteArray)] ++ [⟨#[98]⟩])) = (1, true) from find_ab] at he; subst he; have hq5 := hq4.below f5; have F5 := F4.trans (Fx.of_below f5); clear hq4 F4 f5)
    | (go_at_call 41; refine (sPopQ _ hq5).mono ?_; clear hq5; rintro e w6 ⟨rfl, hq6, f6⟩; have F6 := F5.trans f6; clear F5 f6)
    | (go_at_call 42; refine (sLenQ hq6).mono ?_; rintro e w8 ⟨rfl, rfl⟩)
    | (go_at_call 43; refine (sHighQ hq6).mono ?_; rintro e w8 ⟨rfl, rfl⟩)
    | (go_at_call 44; refine (sDepthQ hq6).mono ?_; rintro e w8 ⟨rfl, rfl⟩))
  go_ret
  exact ⟨rfl, F6.below (Nat.le_refl _) (by have := HB.out; intro x hx; simp at hx; omega)⟩
end Go.Proofs.Ytckmdkdhnhkdhaa
