import Derived.Test.YtmidaeljeoifdaaGreatDoorKla
import Derived.Test.YtmidaeljeoifdaaGreatDoorKta
import Derived.Test.YtmidaeljeoifdaaGreatDoorKtx
import Derived.Test.YtmidaeljeoifdaaGreatDoorKvl
namespace Go.Proofs.YtmidaeljeoifdaaGreatDoor
set_option linter.unusedVariables false
def evE (x : Ev) : Int := if (x.mask : Int) = 0 then 74 else 0
theorem ev_first (c : Cf) (j : Nat) (x : Ev) : firstF eventChecksL 0 (evQ c j x) = codeO (evE x) := by
 have e1 : firstF eventChecksL 0 (evQ c j x) = if ((x.mask : Int) != 0) = true then none else some 74 := rfl
 rw [e1]
 unfold evE codeO
 by_cases h : (x.mask : Int) = 0
 ·rw [if_neg (by simp [h]), if_pos h]; rfl
 ·rw [if_pos (by simpa using h), if_neg h]; rfl
theorem tk_first (c : Cf) (j : Nat) (x : Tk) (hx : c.tasks[j]? = some x) : firstF taskChecksL 0 (tkQ c j x) = codeO (tskE c x) := by
 have hex : extL c (j : Int) = decide (0 < x.evs.length) := by
  have hj := (List.getElem?_eq_some_iff.1 hx).1
  unfold extL
  rw [isId_nat hj]
  simp [hx]
 unfold taskChecksL
 simp only [firstF, tkQ]
 unfold tskE
 rw [hex]
 generalize (inR x.prio 0 63 && inR x.act 1 255) = b0
 generalize (risF (-1) x.auto c.modes.length && risF (-1) x.res c.ress.length && risF (-1) x.evs c.evs.length && risF (-1) x.msgs c.msgs.length) = b1
 generalize apartF c 0 x.evs = b5
 generalize intN c x.res = m
 generalize x.evs.length = n
 cases b0 with
 | false => rfl
 | true =>
  cases b1 with
  | false => rfl
  | true =>
   by_cases h2 : 32 < n
   ·rw [if_pos rfl, if_pos rfl, if_neg (by simp; omega), if_neg (show ¬ (true = false) by decide), if_neg (show ¬ (true = false) by decide), if_pos h2]; rfl
   ·rw [if_pos rfl, if_pos rfl, if_pos (by simp; omega), if_neg (show ¬ (true = false) by decide), if_neg (show ¬ (true = false) by decide), if_neg h2]
    have h3 : (!decide (0 < n) || x.act == 1) = !(decide (0 < n) && x.act != 1) := by simp [bne]
    rw [h3]
    generalize (decide (0 < n) && x.act != 1) = b3
    cases b3 with
    | true => rfl
    | false =>
     rw [if_pos (show (!false) = true from rfl), if_neg (show ¬ (false = true) by decide)]
     by_cases h4 : 1 < m
     ·rw [if_neg (by simp; omega), if_pos h4]; rfl
     ·rw [if_pos (by simp; omega), if_neg h4]
      cases b5 <;> rfl
theorem act_first (c : Cf) (a : Ac) (lo hi : Int) (cs : List Ck) (B : Nat → Bool) (k : Nat) (x1 x2 x3 x4 x5 : Ck) (y1 : x1.code = 74) (y2 : x2.code = 74) (y3 : x3.code = 73) (y4 : x4.code = 70) (y5 : x5.code = 72)
  (h1 : B k = inR a.kind lo hi) (h2 : B (k + 1) = bareB a) (h3 : B (k + 1 + 1) = objB c a) (h4 : B (k + 1 + 1 + 1) = ownB c a) (h5 : B (k + 1 + 1 + 1 + 1) = calB a) :
  firstF (x1 :: x2 :: x3 :: x4 :: x5 :: cs) k B = if actE c a lo hi = 0 then firstF cs (k + 1 + 1 + 1 + 1 + 1) B else some (actE c a lo hi) := by
 simp only [firstF, h1, h2, h3, h4, h5, y1, y2, y3, y4, y5]
 unfold actE
 cases inR a.kind lo hi <;> cases bareB a <;> cases objB c a <;> cases ownB c a <;> cases calB a <;> simp
theorem al_first (c : Cf) (j : Nat) (x : Al) : firstF (alarmChecksL 0) 0 (alQ c j x) = codeO (almE c x) := by
 have e0 : firstF (alarmChecksL 0) 0 (alQ c j x) = if isId x.ctr c.ctrs.length = true then firstF (alarmChecksL 0).tail 1 (alQ c j x) else some 73 := rfl
 have e1 : firstF (alarmChecksL 0).tail 1 (alQ c j x) = if actE c x.ac 1 3 = 0 then firstF ((alarmChecksL 0).drop 6) 6 (alQ c j x) else some (actE c x.ac 1 3) :=
  act_first c x.ac 1 3 _ _ 1 _ _ _ _ _ rfl rfl rfl rfl rfl rfl rfl rfl rfl rfl
 have e2 : firstF ((alarmChecksL 0).drop 6) 6 (alQ c j x) = if risF (-1) x.auto c.modes.length = true then (if timesL c x = true then none else some 74) else some 73 := rfl
 rw [e0, e1, e2]
 unfold almE
 generalize isId x.ctr c.ctrs.length = b0
 generalize actE c x.ac 1 3 = a
 generalize risF (-1) x.auto c.modes.length = b1
 generalize timesL c x = b2
 cases b0 with
 | false => rfl
 | true =>
  by_cases ha : a = 0
  ·subst ha
   cases b1 <;> cases b2 <;> rfl
  ·rw [if_pos rfl, if_neg ha, if_neg (by decide), if_pos (show (a != 0) = true by simpa using ha), codeO, if_neg ha]
theorem is_first (c : Cf) (j : Nat) (x : Is) : firstF isrChecksL 0 (isQ c j x) = codeO (isrE c j x) := by
 unfold isrChecksL
 simp only [firstF, isQ]
 unfold isrE
 generalize (inR x.cat 1 2 && inR x.prio 64 127) = b0
 generalize (risF (-1) x.res c.ress.length && risF (-1) x.msgs c.msgs.length) = b1
 generalize (c.isrs.take j).all (fun a => !clashL a x) = b4
 have h3 : (x.cat != 1 || ((x.res.length : Int) == 0 && (x.msgs.length : Int) == 0)) = !(x.cat == 1 && decide (0 < x.res.length + x.msgs.length)) := by
  cases hc : x.cat == 1
  ·simp [bne, hc]
  ·simp only [bne, hc, Bool.not_true, Bool.false_or, Bool.true_and]
   rw [Bool.eq_iff_iff]
   simp
 rw [h3]
 generalize (x.cat == 1 && decide (0 < x.res.length + x.msgs.length)) = b3
 generalize intN c x.res = m
 cases b0 with
 | false => rfl
 | true =>
  cases b1 with
  | false => rfl
  | true =>
   by_cases h2 : 0 < m
   ·rw [if_pos rfl, if_pos rfl, if_neg (by simp; omega), if_neg (show ¬ (true = false) by decide), if_neg (show ¬ (true = false) by decide), if_pos h2]; rfl
   ·rw [if_pos rfl, if_pos rfl, if_pos (by simp; omega), if_neg (show ¬ (true = false) by decide), if_neg (show ¬ (true = false) by decide), if_neg h2]
    cases b3 <;> cases b4 <;> rfl
theorem ms_first (c : Cf) (j : Nat) (x : Ms) : firstF (messageChecksL 0) 0 (msQ c j x) = codeO (msgE c x) := by
 have e0 : firstF (messageChecksL 0) 0 (msQ c j x) = if msgF x = true then (if (x.kind == 1 || (isId x.frm c.msgs.length && mkind c x.frm == 1)) = true then (if (x.kind == 1 || (decide ((x.init : Int) ≤ 4294967295) && fitI x.init (mlen c x.frm))) = true then firstF ((messageChecksL 0).drop 3) 3 (msQ c j x) else some 74) else some 73) else some 74 := rfl
 have e1 : firstF ((messageChecksL 0).drop 3) 3 (msQ c j x) = if actE c x.ac 0 (if x.kind == 1 then 0 else 4) = 0 then firstF [] 8 (msQ c j x) else some (actE c x.ac 0 (if x.kind == 1 then 0 else 4)) :=
  act_first c x.ac 0 (if x.kind == 1 then 0 else 4) _ _ 3 _ _ _ _ _ rfl rfl rfl rfl rfl rfl rfl rfl rfl rfl
 have e2 : firstF [] 8 (msQ c j x) = none := rfl
 rw [e0, e1, e2]
 unfold msgE
 generalize msgF x = b0
 cases hk : x.kind == 1 with
 | true =>
  cases b0 with
  | false => rfl
  | true =>
   rw [Bool.true_or, Bool.true_or, if_pos rfl, if_pos rfl, if_pos rfl, if_neg (show ¬ (true = false) by decide)]
   have ha : actE c x.ac 0 (if true = true then 0 else 4) = if (inR x.ac.kind 0 0 && bareB x.ac) = true then 0 else 74 := by
    rw [if_pos rfl]
    unfold actE
    cases hb : inR x.ac.kind 0 0 && bareB x.ac with
    | false => rfl
    | true =>
     have hk0 : x.ac.kind = 0 := by
      have := (and2 hb).1
      simp [inR] at this
      omega
     have h1 : objB c x.ac = true := by unfold objB; rw [hk0]; rfl
     have h2 : ownB c x.ac = true := by unfold ownB; rw [hk0]; rfl
     have h3 : calB x.ac = true := by unfold calB; rw [hk0]; rfl
     rw [h1, h2, h3]; rfl
   rw [ha, if_pos (show true = true from rfl)]
   rfl
 | false =>
  rw [Bool.false_or, Bool.false_or]
  generalize (isId x.frm c.msgs.length && mkind c x.frm == 1) = b1
  generalize (decide ((x.init : Int) ≤ 4294967295) && fitI x.init (mlen c x.frm)) = b2
  rw [if_neg (show ¬ (false = true) by decide)]
  generalize actE c x.ac 0 4 = a
  cases b0 with
  | false => rfl
  | true =>
   cases b1 with
   | false => rfl
   | true =>
    cases b2 with
    | false => rfl
    | true => rfl
end Go.Proofs.YtmidaeljeoifdaaGreatDoor
