import Derived.Test.YtmidaeljeoifdaaGreatDoorEcz
import Derived.Lib.QuietBelow
namespace Go.Proofs.YtmidaeljeoifdaaGreatDoor.Ce
open Go.RowKit Go.Sort
set_option linter.unusedVariables false
set_option linter.unusedSimpArgs false
def usesB (c : Cf) (l : List Int) (r : Int) : Bool := l.any (fun x => rootN c x == rootN c r)
end Go.Proofs.YtmidaeljeoifdaaGreatDoor.Ce
