import Derived.Test.YtlbgppijeoonjaaGreatDoorScaX
import Derived.Lib.ConvBytes
import Derived.Lib.ParseIntBMem
import Derived.Lib.Hide
import Derived.Lib.AtoiErrMem
import Derived.Laws.Closers25
import Derived.Laws.Closers25b
import Derived.BigCall
import Derived.BigGuard
namespace Go.Proofs.YtlbgppijeoonjaaGreatDoor
open Go.RowKit
set_option linter.unusedVariables false

theorem valB_app (b v : Nat) (a c : List UInt8) : valB b v (a ++ c) = valB b (valB b v a) c := by
  induction a generalizing v with
  | nil => rfl
  | cons x t ih => exact ih _
theorem valB_mono (b v : Nat) (hb : 1 ≤ b) (l : List UInt8) : v ≤ valB b v l := by
  induction l generalizing v with
  | nil => exact Nat.le_refl _
  | cons c t ih => exact Nat.le_trans (Nat.le_trans (Nat.le_mul_of_pos_left v hb) (Nat.le_add_right _ _)) (ih _)
theorem valB_take (b : Nat) (l : List UInt8) (k : Nat) (h : k < l.length) : valB b 0 (l.take (k + 1)) = b * valB b 0 (l.take k) + hexV l[k] := by
  rw [List.take_succ_eq_append_getElem h, valB_app]; rfl
theorem valB_take_le (b : Nat) (hb : 1 ≤ b) (l : List UInt8) (k : Nat) : valB b 0 (l.take k) ≤ valB b 0 l := by
  conv => rhs; rw [← List.take_append_drop k l, valB_app]
  exact valB_mono _ _ hb _
theorem digB_take (b : Nat) (l : List UInt8) (k : Nat) (h : k < l.length) (ha : digB b (l.take k) = true) (hd : hexV l[k] < b) : digB b (l.take (k + 1)) = true := by
  unfold digB at *
  rw [List.take_succ_eq_append_getElem h, List.all_append, ha]
  simp [hd]
theorem numB_bad (b : Nat) (l : List UInt8) (k : Nat) (h : k < l.length) (hd : ¬ hexV l[k] < b) : numB b l = none := by
  unfold numB
  rw [if_neg]
  rintro ⟨_, h2, _⟩
  exact hd (of_decide_eq_true (List.all_eq_true.1 h2 _ (List.getElem_mem h)))
theorem numB_big (b : Nat) (hb : 1 ≤ b) (l : List UInt8) (k : Nat) (h : k < l.length) (hd : 4294967295 < b * valB b 0 (l.take k) + hexV l[k]) : numB b l = none := by
  unfold numB
  rw [if_neg]
  rintro ⟨_, _, h3⟩
  rw [← valB_take b l k h] at hd
  have := valB_take_le b hb l (k + 1)
  omega
theorem low1 : ∀ n : Nat, n < 256 → bits .or .u8 (n : Int) 32 = ((n ||| 32 : Nat) : Int) := by decide +kernel
theorem low2 : ∀ n : Nat, n < 256 → (n ||| 32) < 256 := by decide +kernel
theorem low3 : ∀ n : Nat, n < 256 → (n < 48 ∨ 57 < n) → 97 ≤ (n ||| 32) → (n ||| 32) - 87 < 16 → hexV (UInt8.ofNat n) = (n ||| 32) - 87 := by decide +kernel
theorem low4 : ∀ n : Nat, n < 256 → (n < 48 ∨ 57 < n) → 97 ≤ (n ||| 32) → 16 ≤ (n ||| 32) - 87 → hexV (UInt8.ofNat n) = 99 := by decide +kernel
theorem low5 : ∀ n : Nat, n < 256 → (n < 48 ∨ 57 < n) → ((n ||| 32) < 97 ∨ 122 < (n ||| 32)) → hexV (UInt8.ofNat n) = 99 := by decide +kernel
theorem dig_hexV (c : UInt8) (h : 48 ≤ c.toNat ∧ c.toNat ≤ 57) : hexV c = c.toNat - 48 := by
  unfold hexV; rw [if_pos (show isG c = true from decide_eq_true h)]

/-- What ParseUint answers. -/
def PuPost (b : Nat) (l : List UInt8) (e : Ending) : Prop :=
  (∃ v, numB b l = some v ∧ e = .returned (.tuple #[.int .u64 (v : Int), .nilIface])) ∨
  (numB b l = none ∧ ∃ x c : Int, (c = 1 ∨ c = 2) ∧ e = .returned (.tuple #[.int .u64 x, .iface 212 (.int .i64 c)]))

end Go.Proofs.YtlbgppijeoonjaaGreatDoor
