import Derived.Test.YtlbkbnhnklaebaaRib
namespace Go.Proofs.Ytlbkbnhnklaebaa
open Go.RowKit
set_option linter.unusedVariables false
set_option linter.unusedSimpArgs false

/-! ### Rings of string: what only reads -/
abbrev sRg (w : World) (B g n f hi : Nat) (R l : List Value) : Prop := Rg w 93 9 B g n f hi R l
abbrev sP (B : Nat) : Value := .pointer (some ⟨B, 0, none⟩)
section
variable {w : World} {B g n f hi : Nat} {R l : List Value}
theorem snone_any (h : sRg w B g n f hi R l) : Calls Try.prog 63 #[sP B] w fun e w' => e = .returned (.bool false) ∧ w = w' := by
  obtain ⟨c0, -, -, -, -⟩ := h.cells
  go_enter Try.func63, Try.ntmps63
  go_wp2
  go_ret
  exact ⟨rfl, rfl⟩
theorem snone_nil (w : World) : Calls Try.prog 63 #[.pointer none] w fun e w' => e = .returned (.bool true) ∧ w = w' := by
  go_enter Try.func63, Try.ntmps63
  go_wp2
  go_ret
  exact ⟨rfl, rfl⟩
theorem snone_zero (w : World) (B : Nat) (c0 : w.cell? ⟨B, 0, none⟩ = some (.bool false)) : Calls Try.prog 63 #[sP B] w fun e w' => e = .returned (.bool true) ∧ w = w' := by
  go_enter Try.func63, Try.ntmps63
  go_wp2
  go_ret
  exact ⟨rfl, rfl⟩
theorem splace_raw (w : World) (B g n f i : Nat) (c1 : w.cell? ⟨B, 1, none⟩ = some (.slice (some ⟨g, 0, none⟩) n n)) (c2 : w.cell? ⟨B, 2, none⟩ = some (I f)) (hm : n ≤ 65536) (hf : f < n) (hi2 : i ≤ n) : Calls Try.prog 61 #[sP B, I i] w fun e w' => e = .returned (I ((f + i) % n : Nat)) ∧ ∃ q, w' = w.drewN q := by
  have h1 : ¬ ((n : Int) = 0) := by omega
  go_enter Try.func61, Try.ntmps61
  go_wp2
  go_quiet (fail)
  go_wp2
  go_ret
  exact ⟨ret_int (by norm_cast), nq, rfl⟩
theorem splace_any (h : sRg w B g n f hi R l) (hn : 0 < n) (i : Nat) (hi2 : i ≤ n) : Calls Try.prog 61 #[sP B, I i] w fun e w' => e = .returned (I ((f + i) % n : Nat)) ∧ ∃ q, w' = w.drewN q :=
  splace_raw w B g n f i h.cells.2.1 h.cells.2.2.1 h.m (h.flt hn) hi2
end
end Go.Proofs.Ytlbkbnhnklaebaa
