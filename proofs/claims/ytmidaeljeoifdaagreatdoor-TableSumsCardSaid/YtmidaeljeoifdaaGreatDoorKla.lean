import Derived.Test.YtmidaeljeoifdaaGreatDoorKru
import Derived.Test.YtmidaeljeoifdaaGreatDoorKsj
namespace Go.Proofs.YtmidaeljeoifdaaGreatDoor
set_option linter.unusedVariables false
def codeO (e : Int) : Option Int := if e = 0 then none else some e
def resB (c : Cf) (i : Nat) (x : Rs) : Nat → Bool
 | 0 => inR x.kind 1 3
 | 1 => x.kind == 2 || x.link == 0
 | 2 => isId x.link c.ress.length
 | _ => x.kind != 2 || (decide (0 ≤ rootF c c.ress.length i) && rkind c (rootF c c.ress.length i) == 1)
theorem res_first (c : Cf) (i : Nat) (x : Rs) (hi : i < c.ress.length) : firstF resourceChecksL 0 (resB c i x) = codeO (resE c i x) := by
 unfold resourceChecksL
 simp only [firstF, resB]
 unfold resE codeO
 cases h1 : inR x.kind 1 3 with
 | false => simp
 | true =>
  cases h2 : (x.kind == 2 || x.link == 0) with
  | false => simp
  | true =>
   cases h3 : x.kind == 2 with
   | false =>
    have hl : x.link = 0 := by rw [h3, Bool.false_or] at h2; simpa using h2
    have hid : isId x.link c.ress.length = true := by rw [hl]; simp [isId]; omega
    have hne : (x.kind != 2) = true := by simp [bne, h3]
    simp [hid, hne]
   | true =>
    have hne : (x.kind != 2) = false := by simp [bne, h3]
    cases h4 : isId x.link c.ress.length with
    | false => simp
    | true =>
     generalize (decide (0 ≤ rootF c c.ress.length i) && rkind c (rootF c c.ress.length i) == 1) = b
     cases b <;> simp [hne]
def ctrB (x : Ct) : Nat → Bool := fun _ => inR x.max 1 2147483647 && inR x.base 1 2147483647 && inR x.min 1 x.max
theorem ctr_first (x : Ct) : firstF counterChecksL 0 (ctrB x) = codeO (ctrE x) := by
 have e1 : firstF counterChecksL 0 (ctrB x) = if ctrB x 0 = true then none else some 74 := rfl
 have e2 : ctrE x = if ctrB x 0 = true then 0 else 74 := rfl
 rw [e1, e2]
 cases ctrB x 0 <;> rfl
end Go.Proofs.YtmidaeljeoifdaaGreatDoor
