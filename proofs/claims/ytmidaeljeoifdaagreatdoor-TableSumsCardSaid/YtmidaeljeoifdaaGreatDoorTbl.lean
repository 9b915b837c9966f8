import Derived.Test.YtmidaeljeoifdaaGreatDoorTba
namespace Go.Proofs.YtmidaeljeoifdaaGreatDoor
open Go.RowKit
set_option linter.unusedVariables false
set_option linter.unusedSimpArgs false
def inI (v lo hi : Int) : Bool := decide (lo ≤ v) && decide (v ≤ hi)
def idB (v : Int) (n : Nat) : Bool := decide (0 ≤ v) && decide (v < (n : Int))
def limitB (x : TkR) : Bool := if x.mask ≠ 0 then x.limit == 1 else inI x.limit 1 255
def capN (l : List TkR) (p : Int) : Int := match l with
 | [] => 0
 | x :: r => (if x.prio = p then x.limit else 0) + capN r p
def prioAt (l : List RgR) (i : Int) : Int := match l[i.toNat]? with | some r => r.prio | none => 0
end Go.Proofs.YtmidaeljeoifdaaGreatDoor
