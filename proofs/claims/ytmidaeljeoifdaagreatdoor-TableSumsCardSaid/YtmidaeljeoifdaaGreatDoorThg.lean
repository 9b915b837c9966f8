import Derived.Test.YtmidaeljeoifdaaGreatDoorThf
namespace Go.Proofs.YtmidaeljeoifdaaGreatDoor
open Go.RowKit Go.Shelf Go.Sort Go.Maps
set_option linter.unusedVariables false
set_option linter.unusedSimpArgs false
set_option maxHeartbeats 8000000
set_option maxRecDepth 100000
theorem rrinfo : (Tryz.prog.info? 60).map (fun i => (i.zero, i.size, i.bytes)) = some (some (.agg #[.bool false, I 0]), 2, 16) := by kernel_rfl
def trow (x : Tk) : TkR := ⟨x.prio, 0, x.full, x.act, 0, -1, [], 0⟩
end Go.Proofs.YtmidaeljeoifdaaGreatDoor
