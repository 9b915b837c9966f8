import Derived.Test.YtijgopkhdjaolaaGreatRows
import Derived.Test.YtijgopkhdjaolaaGreatXHoq
import Derived.ProofKit
import Derived.OpenShut
import Derived.ShutString
import Derived.ChangeOld
import Derived.SizedLaws
import Derived.Test.YtijgopkhdjaolaaGreatThnl
namespace Go.Proofs.YtijgopkhdjaolaaGreat
open Go.ChangeAt Go.ChangeShapes Go.RowKit Go.WideShapes
set_option linter.unusedSimpArgs false
set_option linter.unusedVariables false
set_option maxHeartbeats 16000000
set_option maxRecDepth 100000
theorem qpf : ownKnob Tryz.prog.godebug = none := by kernel_rfl
theorem qnx : laidOutB Tryz.prog = true := by kernel_rfl
end Go.Proofs.YtijgopkhdjaolaaGreat
