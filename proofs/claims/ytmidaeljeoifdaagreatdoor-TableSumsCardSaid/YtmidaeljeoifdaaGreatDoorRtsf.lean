import Derived.Test.YtmidaeljeoifdaaGreatDoorRts9
namespace Go.Proofs.YtmidaeljeoifdaaGreatDoor
set_option maxRecDepth 100000
set_option maxHeartbeats 16000000
open Go.ChangeShapes Go.WideShapes Go.RowKit
set_option linter.unusedVariables false
theorem and_mkTs {a b : Bool} (h1 : a = true) (h2 : b = true) : (a && b) = true := by rw [h1, h2]; rfl
theorem tableSums_facts : joinedFacts Tryz.prog 4 Tryz.f4 Rows.tableSumsSpec Rows.tableSumsRow = true := by
 unfold joinedFacts
 repeat' (with_reducible refine and_mkTs ?_ ?_)
 all_goals (as_aux_lemma => kernel_rfl)
end Go.Proofs.YtmidaeljeoifdaaGreatDoor
