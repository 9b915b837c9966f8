import Derived.Test.YticgikbnlpgnkaaRib
namespace Go.Proofs.Yticgikbnlpgnkaa
open Go.RowKit
set_option linter.unusedVariables false
set_option linter.unusedSimpArgs false

/-! ### Rings of int: what only reads -/
abbrev iRg (w : World) (B g n f hi : Nat) (R l : List Value) : Prop := Rg w 89 3 B g n f hi R l
abbrev iP (B : Nat) : Value := .pointer (some ⟨B, 0, none⟩)
section
variable {w : World} {B g n f hi : Nat} {R l : List Value}
theorem inone_any (h : iRg w B g n f hi R l) : Calls Try.prog 58 #[iP B] w fun e w' => e = .returned (.bool false) ∧ w = w' := by
  obtain ⟨c0, -, -, -, -⟩ := h.cells
  go_enter Try.func58, Try.ntmps58
  go_wp2
  go_ret
  exact ⟨rfl, rfl⟩
theorem inone_nil (w : World) : Calls Try.prog 58 #[.pointer none] w fun e w' => e = .returned (.bool true) ∧ w = w' := by
  go_enter Try.func58, Try.ntmps58
  go_wp2
  go_ret
  exact ⟨rfl, rfl⟩
theorem inone_zero (w : World) (B : Nat) (c0 : w.cell? ⟨B, 0, none⟩ = some (.bool false)) : Calls Try.prog 58 #[iP B] w fun e w' => e = .returned (.bool true) ∧ w = w' := by
  go_enter Try.func58, Try.ntmps58
  go_wp2
  go_ret
  exact ⟨rfl, rfl⟩
theorem iplace_raw (w : World) (B g n f i : Nat) (c1 : w.cell? ⟨B, 1, none⟩ = some (.slice (some ⟨g, 0, none⟩) n n)) (c2 : w.cell? ⟨B, 2, none⟩ = some (I f)) (hm : n ≤ 65536) (hf : f < n) (hi2 : i ≤ n) : Calls Try.prog 56 #[iP B, I i] w fun e w' => e = .returned (I ((f + i) % n : Nat)) ∧ ∃ q, w' = w.drewN q := by
  have h1 : ¬ ((n : Int) = 0) := by omega
  go_enter Try.func56, Try.ntmps56
  go_wp2
  go_quiet (fail)
  go_wp2
  go_ret
  exact ⟨ret_int (by norm_cast), nq, rfl⟩
theorem iplace_any (h : iRg w B g n f hi R l) (hn : 0 < n) (i : Nat) (hi2 : i ≤ n) : Calls Try.prog 56 #[iP B, I i] w fun e w' => e = .returned (I ((f + i) % n : Nat)) ∧ ∃ q, w' = w.drewN q :=
  iplace_raw w B g n f i h.cells.2.1 h.cells.2.2.1 h.m (h.flt hn) hi2
end
end Go.Proofs.Yticgikbnlpgnkaa
