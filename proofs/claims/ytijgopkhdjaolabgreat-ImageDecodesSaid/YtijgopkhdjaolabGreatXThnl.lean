import Derived.Test.YtijgopkhdjaolabGreatKba
import Derived.OpenShut
import Derived.Deep.Strs
import Derived.SizedLaws
import Derived.ChangeOld
import Derived.Test.YtijgopkhdjaolabGreatXTcw
set_option linter.unusedSimpArgs false
set_option linter.unusedVariables false
set_option maxHeartbeats 16000000
set_option maxRecDepth 100000
namespace Go.Proofs.YtijgopkhdjaolabGreat
open Go.ChangeShapes Go.RowKit Go.WideShapes
end Go.Proofs.YtijgopkhdjaolabGreat
