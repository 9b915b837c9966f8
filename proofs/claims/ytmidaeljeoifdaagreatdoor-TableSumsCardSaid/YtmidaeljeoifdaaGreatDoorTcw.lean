import Derived.Test.YtmidaeljeoifdaaGreatDoorTcj
namespace Go.Proofs.YtmidaeljeoifdaaGreatDoor
open Go.RowKit Go.Shelf Go.Sort
set_option linter.unusedVariables false
set_option linter.unusedSimpArgs false
structure WfT (tb : Tb) : Prop where
 t : ∀ x ∈ tb.tasks, x.mask < 4294967296 ∧ x.auto < 4294967296
 k : ∀ x ∈ tb.ctrs, x.max < 4294967296 ∧ x.base < 4294967296 ∧ x.min < 4294967296
 a : ∀ x ∈ tb.als, x.ac.mask < 4294967296 ∧ x.auto < 4294967296 ∧ x.time < 4294967296 ∧ x.cycle < 4294967296
 s : ∀ x ∈ tb.msgs, x.init < 18446744073709551616 ∧ x.ac.mask < 4294967296
theorem calls_bel9 {P : Program} {f : Nat} {args : Array Value} {r : Value} {W : World} (h : Calls P f args W fun e w' => e = .returned r ∧ w' = W) : Calls P f args W fun e w' => e = .returned r ∧ Below W.heap.size W w' := h.mono (fun e w' h => ⟨h.1, by rw [h.2]; exact Below.refl _ _⟩)
end Go.Proofs.YtmidaeljeoifdaaGreatDoor
