import Derived.Test.YtpbnpmeigdjfdaaGreatDoorXKvl
import Derived.Test.YtpbnpmeigdjfdaaGreatDoorEcu
namespace Go.Proofs.YtpbnpmeigdjfdaaGreatDoor
open Go.RowKit
set_option linter.unusedSimpArgs false
set_option linter.unusedVariables false
set_option maxHeartbeats 16000000
set_option maxRecDepth 100000
theorem ce_isId (v n : Int) : Ce.isId v n = isId v n := rfl
theorem ce_rkind (c : Cf) (r : Int) : Ce.rkind c r = rkind c r := rfl
theorem ce_rlink (c : Cf) (r : Int) : Ce.rlink c r = rlink c r := rfl
theorem ce_ris (n : Int) : ∀ (l : List Int) (a : Int), Ce.risF a l n = risF a l n
 | [], a => by rw [Ce.risF, risF]
 | x :: l, a => by rw [Ce.risF, risF, ce_ris n l x, ce_isId]
theorem ce_rootF (c : Cf) : ∀ (f : Nat) (r : Int), Ce.rootF c f r = rootF c f r
 | 0, r => by rw [Ce.rootF, rootF]
 | f + 1, r => by rw [Ce.rootF, rootF, ce_rootF c f, ce_isId, ce_rkind, ce_rlink]
theorem filter_two (p : Int → Bool) : ∀ l : List Int, (l.filter p).length + (l.filter fun x => !p x).length = l.length
 | [] => rfl
 | x :: l => by
  have := filter_two p l
  cases h : p x <;> simp [h] <;> omega
theorem taken_len (c : Cf) (l : List Int) : ((Ce.takenL c l).length : Int) + (intN c l : Int) = l.length := by
 have h := filter_two (fun x => rkind c x == 3) l
 have e : Ce.takenL c l = l.filter fun x => !(rkind c x == 3) := rfl
 rw [e]
 unfold intN
 omega
theorem look_may {c : Cf} (h : allF c = none) : Ce.lookE c = 0 := by
 have M := may_of h
 have hr : ∀ (j : Nat) (x : Rs), c.ress[j]? = some x → ∀ k, k < 4 → resQ c j x k = true := fun j x hj => (M.r.2 j x hj).2.2
 have hm : Ce.meetB c = true := by
  unfold Ce.meetB
  rw [Bool.and_eq_true]
  constructor
  ·apply List.all_eq_true.2
   intro x hx
   obtain ⟨j, hj⟩ := List.getElem?_of_mem hx
   have hq := (M.t.2 j x hj).2.2 1 (by omega)
   have hq2 : (risF (-1) x.auto c.modes.length && risF (-1) x.res c.ress.length && risF (-1) x.evs c.evs.length && risF (-1) x.msgs c.msgs.length) = true := hq
   simp only [Bool.and_eq_true] at hq2
   unfold Ce.risT
   rw [ce_ris]
   exact hq2.1.1.2
  ·apply List.all_eq_true.2
   intro x hx
   obtain ⟨j, hj⟩ := List.getElem?_of_mem hx
   have hq := (M.i.2 j x hj).2.2 1 (by omega)
   have hq2 : (risF (-1) x.res c.ress.length && risF (-1) x.msgs c.msgs.length) = true := hq
   simp only [Bool.and_eq_true] at hq2
   unfold Ce.risI
   rw [ce_ris]
   exact hq2.1
 have hl : Ce.lkB c = true := by
  unfold Ce.lkB
  apply List.all_eq_true.2
  intro x hx
  obtain ⟨j, hj⟩ := List.getElem?_of_mem hx
  have q0 : inR x.kind 1 3 = true := hr j x hj 0 (by omega)
  have q2 : isId x.link c.ress.length = true := hr j x hj 2 (by omega)
  unfold inR at q0
  simp at q0
  unfold Ce.lmB
  rw [ce_isId, q2]
  have : x.kind = 1 ∨ x.kind = 2 ∨ x.kind = 3 := by omega
  rcases this with e | e | e <;> simp [e]
 have kd : ∀ (i : Nat) (x : Rs), c.ress[i]? = some x → rkind c (i : Int) = x.kind := fun i x hi => by
  unfold rkind
  rw [Int.toNat_natCast, hi]
 have he : Ce.endsB c = true := by
  apply Ce.endsB_of
  intro i hi
  obtain ⟨x, hx⟩ : ∃ x, c.ress[i]? = some x := ⟨_, List.getElem?_eq_getElem hi⟩
  by_cases hk : x.kind = 2
  ·have q3 : (x.kind != 2 || (decide (0 ≤ rootF c c.ress.length i) && rkind c (rootF c c.ress.length i) == 1)) = true := hr i x hx 3 (by omega)
   rw [hk] at q3
   simp at q3
   unfold Ce.rootN
   rw [ce_rootF]
   exact q3.1
  ·rw [Ce.root_end (by rw [ce_isId]; unfold isId; simp; omega) (by rw [ce_rkind, kd i x hx]; exact hk)]
   omega
 have hn : Ce.linksB c = true := by
  unfold Ce.linksB
  apply List.all_eq_true.2
  intro i hi
  have hi' := List.mem_range.1 hi
  obtain ⟨x, hx⟩ : ∃ x, c.ress[i]? = some x := ⟨_, List.getElem?_eq_getElem hi'⟩
  unfold Ce.lfB Ce.rootN
  rw [ce_rootF, ce_rkind, ce_rkind, kd i x hx]
  by_cases hk : x.kind = 2
  ·have q3 : (x.kind != 2 || (decide (0 ≤ rootF c c.ress.length i) && rkind c (rootF c c.ress.length i) == 1)) = true := hr i x hx 3 (by omega)
   rw [hk] at q3
   simp at q3
   rw [q3.2, hk]
   rfl
  ·simp [hk]
 have hf : Ce.fitB c = true := by
  unfold Ce.fitB
  rw [Bool.and_eq_true]
  constructor
  ·apply List.all_eq_true.2
   intro x hx
   obtain ⟨j, hj⟩ := List.getElem?_of_mem hx
   have hq : decide ((intN c x.res : Int) ≤ 1) = true := (M.t.2 j x hj).2.2 4 (by omega)
   have := taken_len c x.res
   unfold Ce.fitU
   simp at hq ⊢
   omega
  ·apply List.all_eq_true.2
   intro x hx
   obtain ⟨j, hj⟩ := List.getElem?_of_mem hx
   have hq : ((intN c x.res : Int) == 0) = true := (M.i.2 j x hj).2.2 2 (by omega)
   have := taken_len c x.res
   unfold Ce.fitU
   simp at hq ⊢
   omega
 unfold Ce.lookE
 rw [hm, hl, he, hn, hf]
 rfl
end Go.Proofs.YtpbnpmeigdjfdaaGreatDoor
