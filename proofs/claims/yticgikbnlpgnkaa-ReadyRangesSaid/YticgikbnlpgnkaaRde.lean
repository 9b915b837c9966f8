import Derived.Test.YticgikbnlpgnkaaRdc
import Derived.Deep.Cut
namespace Go.Proofs.Yticgikbnlpgnkaa
open Go.RowKit
set_option linter.unusedVariables false
set_option linter.unusedSimpArgs false

/-! ### The document's ring: its calls -/
theorem own_sl {w : World} {b E n : Nat} {v : Value} {xs : List Value} (h : w.ownsRow b E 1 v n xs) : ∃ a cc, v = .slice a n cc := by
  rcases h.2 with ⟨h1, h0⟩ | ⟨g, cap, cur, h1, _⟩
  · exact ⟨none, 0, by rw [h0]; exact h1⟩
  · exact ⟨_, _, h1⟩
section
variable {w : World} {D n hi : Nat} {v : Value} {l : List Int}
end
end Go.Proofs.Yticgikbnlpgnkaa
