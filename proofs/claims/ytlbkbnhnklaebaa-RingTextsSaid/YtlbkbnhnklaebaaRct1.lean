import Derived.Test.YtlbkbnhnklaebaaRqb
namespace Go.Proofs.Ytlbkbnhnklaebaa
open Go.RowKit
set_option linter.unusedVariables false
set_option linter.unusedSimpArgs false

/-! ### Rings of tappetlaw12.Text: what only reads -/
abbrev tRg (w : World) (B g n f hi : Nat) (R l : List Tx) : Prop := Rq w 84 42 B g n f hi R l
abbrev tP (B : Nat) : Value := .pointer (some ⟨B, 0, none⟩)
section
variable {w : World} {B g n f hi : Nat} {R l : List Tx}
theorem tnone_any (h : tRg w B g n f hi R l) : Calls Try.prog 51 #[tP B] w fun e w' => e = .returned (.bool false) ∧ w = w' := by
  obtain ⟨c0, -, -, -, -⟩ := h.cells
  go_enter Try.func51, Try.ntmps51
  go_wp2
  go_ret
  exact ⟨rfl, rfl⟩
theorem tnone_nil (w : World) : Calls Try.prog 51 #[.pointer none] w fun e w' => e = .returned (.bool true) ∧ w = w' := by
  go_enter Try.func51, Try.ntmps51
  go_wp2
  go_ret
  exact ⟨rfl, rfl⟩
theorem tnone_zero (w : World) (B : Nat) (c0 : w.cell? ⟨B, 0, none⟩ = some (.bool false)) : Calls Try.prog 51 #[tP B] w fun e w' => e = .returned (.bool true) ∧ w = w' := by
  go_enter Try.func51, Try.ntmps51
  go_wp2
  go_ret
  exact ⟨rfl, rfl⟩
theorem tplace_raw (w : World) (B g n f i : Nat) (c1 : w.cell? ⟨B, 1, none⟩ = some (.slice (some ⟨g, 0, none⟩) n n)) (c2 : w.cell? ⟨B, 2, none⟩ = some (I f)) (hm : n ≤ 65536) (hf : f < n) (hi2 : i ≤ n) : Calls Try.prog 49 #[tP B, I i] w fun e w' => e = .returned (I ((f + i) % n : Nat)) ∧ ∃ q, w' = w.drewN q := by
  have h1 : ¬ ((n : Int) = 0) := by omega
  go_enter Try.func49, Try.ntmps49
  go_wp2
  go_quiet (fail)
  go_wp2
  go_ret
  exact ⟨ret_int (by norm_cast), nq, rfl⟩
theorem tplace_any (h : tRg w B g n f hi R l) (hn : 0 < n) (i : Nat) (hi2 : i ≤ n) : Calls Try.prog 49 #[tP B, I i] w fun e w' => e = .returned (I ((f + i) % n : Nat)) ∧ ∃ q, w' = w.drewN q :=
  tplace_raw w B g n f i h.cells.2.1 h.cells.2.2.1 h.m (h.flt hn) hi2
end
end Go.Proofs.Ytlbkbnhnklaebaa
