import Derived.Test.YtmidaeljeoifdaaGreatDoorKsj
import Derived.Test.YtmidaeljeoifdaaGreatDoorKri
import Derived.Test.YtmidaeljeoifdaaGreatDoorKrm
namespace Go.Proofs.YtmidaeljeoifdaaGreatDoor
set_option linter.unusedVariables false
def almE (c : Cf) (x : Al) : Int :=
 if isId x.ctr c.ctrs.length = false then 73
 else if (actE c x.ac 1 3 != 0) = true then actE c x.ac 1 3
 else if risF (-1) x.auto c.modes.length = false then 73
 else if timesL c x = true then 0 else 74
def isrE (c : Cf) (i : Nat) (x : Is) : Int :=
 if (inR x.cat 1 2 && inR x.prio 64 127) = false then 74
 else if (risF (-1) x.res c.ress.length && risF (-1) x.msgs c.msgs.length) = false then 73
 else if 0 < intN c x.res then 70
 else if (x.cat == 1 && decide (0 < x.res.length + x.msgs.length)) = true then 70
 else if (c.isrs.take i).all (fun a => !clashL a x) = true then 0 else 70
def msgE (c : Cf) (x : Ms) : Int :=
 if msgF x = false then 74
 else if (x.kind == 1) = true then (if (inR x.ac.kind 0 0 && bareB x.ac) = true then 0 else 74)
 else if (isId x.frm c.msgs.length && mkind c x.frm == 1) = false then 73
 else if (decide ((x.init : Int) ≤ 4294967295) && fitI x.init (mlen c x.frm)) = false then 74
 else actE c x.ac 0 4
end Go.Proofs.YtmidaeljeoifdaaGreatDoor
