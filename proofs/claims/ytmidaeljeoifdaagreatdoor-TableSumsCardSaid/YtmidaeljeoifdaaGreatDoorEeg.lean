import Derived.Test.YtmidaeljeoifdaaGreatDoorEef
namespace Go.Proofs.YtmidaeljeoifdaaGreatDoor.Ce
open Go.RowKit Go.Sort Go.Maps
set_option linter.unusedVariables false
set_option linter.unusedSimpArgs false
theorem LookP.mono {c : Cf} {R : Int} {w w1 w' : World} {e : Ending} (h : LookP c R w1 e w') (hb : Below w.heap.size w w1) : LookP c R w e w' :=
 ⟨hb.trans (h.1.mono hb.size), h.2.imp (fun ⟨a, b, he, hl, hE⟩ => ⟨a, b, he, Nat.le_trans hb.size hl, hE⟩) id⟩
theorem LookP.got {c : Cf} {R : Int} {w w' : World} {e : Ending} (h : LookP c R w e w') (hR : R = 0) : ∃ b, e = .returned (.tuple #[.map (some b), I 0]) ∧ w.heap.size ≤ b ∧ EndsAt w' b c := by
 rcases h.2 with ⟨_, h⟩ | ⟨h, _⟩
 ·exact h
 ·exact absurd hR h
theorem LookP.not {c : Cf} {R : Int} {w w' : World} {e : Ending} (h : LookP c R w e w') (hR : R ≠ 0) : e = .returned (.tuple #[.map none, I R]) := by
 rcases h.2 with ⟨h, _⟩ | ⟨_, h⟩
 ·exact absurd h hR
 ·exact h
end Go.Proofs.YtmidaeljeoifdaaGreatDoor.Ce
