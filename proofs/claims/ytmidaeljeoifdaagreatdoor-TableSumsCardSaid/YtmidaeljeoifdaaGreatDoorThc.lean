import Derived.Test.YtmidaeljeoifdaaGreatDoorThb
import Derived.Test.YtmidaeljeoifdaaGreatDoorTcn
namespace Go.Proofs.YtmidaeljeoifdaaGreatDoor
open Go.RowKit Go.Shelf Go.Sort Go.Maps
set_option linter.unusedVariables false
set_option linter.unusedSimpArgs false
set_option maxHeartbeats 8000000
set_option maxRecDepth 100000
theorem prio1_any (w : World) (x : Tk) (s4 s5 s6 s7 : Sl) : Calls Tryz.prog 137 (#[.agg #[S x.name, I x.prio, .bool x.full, I x.act, .slice s4.a s4.n s4.c, .slice s5.a s5.n s5.c, .slice s6.a s6.n s6.c, .slice s7.a s7.n s7.c]] ++ #[]) w fun e w' => e = .returned (I x.prio) ∧ Below w.heap.size w w' := by
 have hb : ∀ o, Below w.heap.size w (w.alloc o) := fun o => below_alloc w o
 go_enter Tryz.func137, Tryz.ntmps137
 go_wp2
 go_ret
 exact ⟨rfl, hb _⟩
end Go.Proofs.YtmidaeljeoifdaaGreatDoor
