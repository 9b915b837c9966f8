import Derived.Test.YtmidaeljeoifdaaGreatDoorKba
namespace Go.Proofs.YtmidaeljeoifdaaGreatDoor
set_option linter.unusedVariables false
structure NamesOK (c : Cf) : Prop where
 p : c.cpu.length < 9223372036854775808
 o : c.osn.length < 9223372036854775808
 m : ∀ x ∈ c.modes, x.length < 9223372036854775808
 t : ∀ x ∈ c.tasks, x.name.length < 9223372036854775808
 r : ∀ x ∈ c.ress, x.name.length < 9223372036854775808
 e : ∀ x ∈ c.evs, x.name.length < 9223372036854775808
 k : ∀ x ∈ c.ctrs, x.name.length < 9223372036854775808
 a : ∀ x ∈ c.als, x.name.length < 9223372036854775808 ∧ x.ac.name.length < 9223372036854775808
 i : ∀ x ∈ c.isrs, x.name.length < 9223372036854775808
 s : ∀ x ∈ c.msgs, x.name.length < 9223372036854775808 ∧ x.ac.name.length < 9223372036854775808
end Go.Proofs.YtmidaeljeoifdaaGreatDoor
