import Derived.Test.YtmidaeljeoifdaaGreatDoorTr1
namespace Go.Proofs.YtmidaeljeoifdaaGreatDoor
open Go.RowKit Go.Shelf Go.Sort Go.Maps
set_option linter.unusedVariables false
set_option linter.unusedSimpArgs false
end Go.Proofs.YtmidaeljeoifdaaGreatDoor
