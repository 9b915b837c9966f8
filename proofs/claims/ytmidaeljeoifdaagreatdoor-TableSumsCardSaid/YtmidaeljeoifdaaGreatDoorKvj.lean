import Derived.Test.YtmidaeljeoifdaaGreatDoorKvi
namespace Go.Proofs.YtmidaeljeoifdaaGreatDoor
open Go.RowKit
set_option linter.unusedVariables false
structure HS (w W : World) (bc bm g : Nat) (C cur : Array Value) : Prop where
 below : Below w.heap.size w W
 hc : W.heap[bc]? = some (.cells C 47 (0, 0))
 hm : W.heap[bm]? = some (.cells #[S [109]] 9 (0, 0))
 ht : W.heap[g]? = some (.cells cur 58 (0, 0))
 bge : w.heap.size ≤ bc
 gge : w.heap.size ≤ g
end Go.Proofs.YtmidaeljeoifdaaGreatDoor
