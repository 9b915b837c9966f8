import Derived.Test.YtpoekphebmonnabUl
import Derived.Deep.Cut
namespace Go.Proofs.Ytpoekphebmonnab
open Go.RowKit
set_option linter.unusedVariables false
set_option linter.unusedSimpArgs false

/-! ### Sums -/
abbrev U (i : Int) : Value := .int .u32 i
abbrev Q (i : Int) : Value := .int .u64 i
def mnN (a b : Nat) : Nat := min a b
theorem min_two (ats : Array TypeId) (ty : TypeId) (k : IntKind) (a b : Nat) : Builtin.min_ ats ty #[.int k (a : Int), .int k (b : Int)] = pure (.int k ((mnN a b : Nat) : Int)) := by
  show (do let s ← Builtin.min2 (.int k (a : Int)) (.int k (b : Int)); pure s : Sem Value) = _
  simp only [Builtin.min2]
  cases k <;> (show (pure _ : Sem Value) = _; congr 2; unfold mnN; split <;> omega)
theorem w64 {x : Int} (h0 : 0 ≤ x) (h1 : x < 18446744073709551616) : IntKind.u64.wrap x = x := by
  have : IntKind.u64.wrap x = x % 18446744073709551616 := by simp [IntKind.wrap, IntKind.bits, IntKind.signed]
  rw [this]; omega
theorem w32 {x : Int} (h0 : 0 ≤ x) (h1 : x < 4294967296) : IntKind.u32.wrap x = x := by
  have : IntKind.u32.wrap x = x % 4294967296 := by simp [IntKind.wrap, IntKind.bits, IntKind.signed]
  rw [this]; omega
attribute [local go_sem 5000] min_two
theorem round_any (w : World) (g : Nat) (hg : g < 4294967296) : Calls Try.prog 41 #[U g] w fun e w' => e = .returned (Q ((g : Int) + 1)) ∧ w = w' := by
  go_enter Try.func41, Try.ntmps41
  go_wp2
  go_ret
  exact ⟨rfl, rfl⟩
def aftN (g n t : Nat) : Nat := (min n g + t % (g + 1)) % (g + 1)
theorem aftN_le (g n t : Nat) : aftN g n t ≤ g := by unfold aftN; have := Nat.mod_lt (min n g + t % (g + 1)) (show 0 < g + 1 by omega); omega
theorem aft_eq {g m t : Nat} (hg : g < 4294967296) (hm : m ≤ g) : IntKind.u32.wrap ((IntKind.u64.wrap ((m : Int) + (t : Int) % ((g : Int) + 1))).tmod ((g : Int) + 1)) = (((m + t % (g + 1)) % (g + 1) : Nat) : Int) := by
  have h1 : (t : Int) % ((g : Int) + 1) = ((t % (g + 1) : Nat) : Int) := by rw [Int.natCast_emod]; rfl
  have h2 : t % (g + 1) < g + 1 := Nat.mod_lt _ (by omega)
  rw [h1, show (m : Int) + ((t % (g + 1) : Nat) : Int) = ((m + t % (g + 1) : Nat) : Int) by omega, w64 (by omega) (by omega), Int.tmod_eq_emod_of_nonneg (by omega), show ((g : Int) + 1) = ((g + 1 : Nat) : Int) by omega, ← Int.natCast_emod]
  have h3 : (m + t % (g + 1)) % (g + 1) < g + 1 := Nat.mod_lt _ (by omega)
  exact w32 (by omega) (by omega)
theorem aft_eq2 {g m t : Nat} (hg : g < 4294967296) (hm : m ≤ g) : IntKind.u32.wrap ((IntKind.u64.wrap ((m : Int) + (t : Int) % ((g : Int) + 1))) % ((g : Int) + 1)) = (((m + t % (g + 1)) % (g + 1) : Nat) : Int) := by
  rw [← aft_eq hg hm, Int.tmod_eq_emod_of_nonneg]
  have : IntKind.u64.wrap ((m : Int) + (t : Int) % ((g : Int) + 1)) = ((m : Int) + (t : Int) % ((g : Int) + 1)) % 18446744073709551616 := by simp [IntKind.wrap, IntKind.bits, IntKind.signed]
  rw [this]; omega
theorem After_any (w : World) (g n t : Nat) (hg : g < 4294967296) (hn : n < 4294967296) (ht : t < 18446744073709551616) : Calls Try.prog 18 #[U g, U n, Q t] w fun e w' => e = .returned (U (aftN g n t : Nat)) ∧ Below w.heap.size w w' := by
  have hr := fun W => round_any W g hg
  have hm : mnN n g ≤ g := by unfold mnN; omega
  have hm2 : mnN n g < 4294967296 := by omega
  go_enter Try.func18, Try.ntmps18
  go_wp2
  go_region_held_law (fun _ => True) (first | trivial) (first | (go_at_call 41; refine (hr _).mono ?_; rintro e w1 ⟨rfl, rfl⟩))
  all_goals
    go_wp2
    go_ret
    refine ⟨?_, (Below.refl _ _).drew⟩
    first | exact ret_int (aft_eq hg hm) | exact ret_int (aft_eq2 hg hm)
theorem Next_any (w : World) (g n : Nat) (hg : g < 4294967296) (hn : n < 4294967296) : Calls Try.prog 38 #[U g, U n] w fun e w' => e = .returned (U (aftN g n 1 : Nat)) ∧ Below w.heap.size w w' := by
  have hr := After_any w g n 1 hg hn (by omega)
  go_enter Try.func38, Try.ntmps38
  go_wp2_with (first | (go_at_call 18; refine hr.mono ?_; rintro e w1 ⟨rfl, b1⟩))
  go_ret
  exact ⟨rfl, b1⟩
def untN (g n v : Nat) : Nat := if min n g < min v g then min v g - min n g else g + 1 - (min n g - min v g)
theorem untN_pos (g n v : Nat) : 1 ≤ untN g n v ∧ untN g n v ≤ g + 1 := by unfold untN; split <;> omega
theorem Until_any (w : World) (g n v : Nat) (hg : g < 4294967296) (hn : n < 4294967296) (hv : v < 4294967296) : Calls Try.prog 52 #[U g, U n, U v] w fun e w' => e = .returned (Q (untN g n v : Nat)) ∧ w = w' := by
  have hr := round_any w g hg
  have e1 : mnN n g = min n g := rfl
  have e2 : mnN v g = min v g := rfl
  unfold untN
  rw [← e1, ← e2]
  have h1 : mnN n g ≤ g := by unfold mnN; omega
  have h2 : mnN v g ≤ g := by unfold mnN; omega
  clear e1 e2
  by_cases hlt : mnN n g < mnN v g
  · rw [if_pos hlt]
    have hltI : (mnN n g : Int) < mnN v g := by omega
    go_enter Try.func52, Try.ntmps52
    go_wp2
    go_ret
    exact ⟨ret_int (by omega), rfl⟩
  · rw [if_neg hlt]
    have hltI : ¬ (mnN n g : Int) < mnN v g := by omega
    go_enter Try.func52, Try.ntmps52
    go_wp2_with (first | (go_at_call 41; refine hr.mono ?_; rintro e w1 ⟨rfl, rfl⟩))
    go_ret
    exact ⟨ret_int (by omega), rfl⟩
/-! ### The document's -/
theorem within_any (w : World) (g v : Nat) (hg : g < 4294967296) (hv : v < 4294967296) : Calls Try.prog 54 #[U g, U v] w fun e w' => e = .returned (Q (min v g : Nat)) ∧ w = w' := by
  by_cases hlt : g < v
  · have hltI : (g : Int) < v := by omega
    go_enter Try.func54, Try.ntmps54
    go_wp2
    go_ret
    exact ⟨ret_int (by omega), rfl⟩
  · have hltI : ¬ (g : Int) < v := by omega
    go_enter Try.func54, Try.ntmps54
    go_wp2
    go_ret
    exact ⟨ret_int (by omega), rfl⟩
theorem dAfter_any (w : World) (g n t : Nat) (hg : g < 4294967296) (hn : n < 4294967296) (ht : t < 18446744073709551616) : Calls Try.prog 55 #[U g, U n, Q t] w fun e w' => e = .returned (U (aftN g n t : Nat)) ∧ Below w.heap.size w w' := by
  have hr := fun W => within_any W g n hg hn
  have hm : min n g ≤ g := by omega
  show Calls _ _ _ _ fun e w' => e = .returned (U (((min n g + t % (g + 1)) % (g + 1) : Nat) : Int)) ∧ _
  generalize min n g = m at *
  have hm2 : m < 4294967296 := by omega
  go_enter Try.func55, Try.ntmps55
  go_wp2
  go_region_held_law (fun _ => True) (first | trivial) (first | (go_at_call 54; refine (hr _).mono ?_; rintro e w1 ⟨rfl, rfl⟩))
  all_goals
    go_wp2
    go_ret
    refine ⟨?_, (Below.refl _ _).drew⟩
    first | exact ret_int (aft_eq hg hm) | exact ret_int (aft_eq2 hg hm)
theorem dNext_any (w : World) (g n : Nat) (hg : g < 4294967296) (hn : n < 4294967296) : Calls Try.prog 46 #[U g, U n] w fun e w' => e = .returned (U (aftN g n 1 : Nat)) ∧ Below w.heap.size w w' := by
  have hr := dAfter_any w g n 1 hg hn (by omega)
  go_enter Try.func46, Try.ntmps46
  go_wp2_with (first | (go_at_call 55; refine hr.mono ?_; rintro e w1 ⟨rfl, b1⟩))
  go_ret
  exact ⟨rfl, b1⟩
theorem dUntil_any (w : World) (g n v : Nat) (hg : g < 4294967296) (hn : n < 4294967296) (hv : v < 4294967296) : Calls Try.prog 44 #[U g, U n, U v] w fun e w' => e = .returned (Q (untN g n v : Nat)) ∧ w = w' := by
  have hr1 := within_any w g n hg hn
  have hr2 := within_any w g v hg hv
  have h1 : min n g ≤ g := by omega
  have h2 : min v g ≤ g := by omega
  unfold untN
  generalize min n g = a at *
  generalize min v g = b at *
  by_cases hlt : a < b
  · rw [if_pos hlt]
    have hltI : (a : Int) < b := by omega
    go_enter Try.func44, Try.ntmps44
    go_wp2_with (first | (go_at_call 54; refine hr1.mono ?_; clear hr1; rintro e w1 ⟨rfl, rfl⟩) | (go_at_call 54; refine hr2.mono ?_; clear hr2; rintro e w1 ⟨rfl, rfl⟩))
    go_ret
    exact ⟨ret_int (by omega), rfl⟩
  · rw [if_neg hlt]
    have hltI : ¬ (a : Int) < b := by omega
    go_enter Try.func44, Try.ntmps44
    go_wp2_with (first | (go_at_call 54; refine hr1.mono ?_; clear hr1; rintro e w1 ⟨rfl, rfl⟩) | (go_at_call 54; refine hr2.mono ?_; clear hr2; rintro e w1 ⟨rfl, rfl⟩))
    go_ret
    exact ⟨ret_int (by omega), rfl⟩
end Go.Proofs.Ytpoekphebmonnab
