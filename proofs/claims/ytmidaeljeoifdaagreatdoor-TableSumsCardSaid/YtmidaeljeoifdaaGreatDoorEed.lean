import Derived.Test.YtmidaeljeoifdaaGreatDoorEec
namespace Go.Proofs.YtmidaeljeoifdaaGreatDoor.Ce
open Go.RowKit Go.Sort
set_option linter.unusedVariables false
set_option linter.unusedSimpArgs false
end Go.Proofs.YtmidaeljeoifdaaGreatDoor.Ce
