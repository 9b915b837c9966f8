import Derived.Test.YtmidaeljeoifdaaGreatDoorKtg
namespace Go.Proofs.YtmidaeljeoifdaaGreatDoor
open Go.RowKit
set_option linter.unusedVariables false
theorem rmessage_any (w : World) (c : Cf) (v : Vs) (h : CfAt w c v) (i : Nat) (x : Ms) (hi : c.msgs[i]? = some x) (hsz : x.ac.name.length < 9223372036854775808) :
  Calls Tryz.prog 166 #[.agg (cfC c v), I i] w fun e w' => e = .returned (I (msgE c x)) ∧ Below w.heap.size w w' := by
 by_cases h1 : x.kind = 1
 ·exact rmsg_send w c v h i x hi h1
 by_cases h2 : x.kind = 2
 ·exact rmsg_r2 w c v h i x hi h2 hsz
 by_cases h3 : x.kind = 3
 ·exact rmsg_r3 w c v h i x hi h3 hsz
 exact rmsg_out w c v h i x hi (by simp [inR]; omega)
end Go.Proofs.YtmidaeljeoifdaaGreatDoor
