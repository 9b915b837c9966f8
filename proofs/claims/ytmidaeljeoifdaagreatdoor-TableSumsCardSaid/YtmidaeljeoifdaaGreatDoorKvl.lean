import Derived.Test.YtmidaeljeoifdaaGreatDoorKvk
import Derived.Test.YtmidaeljeoifdaaGreatDoorKrw
namespace Go.Proofs.YtmidaeljeoifdaaGreatDoor
set_option linter.unusedVariables false
theorem rkind_at {c : Cf} {j : Nat} {x : Rs} (h : c.ress[j]? = some x) : rkind c (j : Int) = x.kind := by simp [rkind, h]
theorem rlink_at {c : Cf} {j : Nat} {x : Rs} (h : c.ress[j]? = some x) : rlink c (j : Int) = x.link := by simp [rlink, h]
theorem isId_nat {j n : Nat} (h : j < n) : isId (j : Int) n = true := by simp [isId]; omega
theorem first_code {cs : List Ck} {k : Nat} {B : Nat → Bool} {e : Int} (h : firstF cs k B = some e) (hc : ∀ x ∈ cs, x.code ≠ 0) : e ≠ 0 := by
 induction cs generalizing k with
 | nil => cases h
 | cons x r ih =>
  rw [firstF] at h
  split at h
  ·exact ih h (fun y hy => hc y (List.mem_cons_of_mem _ hy))
  ·cases h; exact hc x (List.mem_cons_self ..)
theorem looks_code {E : Nat → Option Int} {m j : Nat} {e i : Int} (h : looksF E m j = some (e, i)) (hE : ∀ j e, E j = some e → e ≠ 0) : e ≠ 0 := by
 induction m generalizing j with
 | zero => cases h
 | succ m ih =>
  rw [looksF] at h
  split at h
  ·rename_i c hc
   cases h
   exact hE j _ hc
  ·exact ih h
theorem lookL_code {names : List (List UInt8)} {lo hi : Int} {cs : List Ck} {B : Nat → Nat → Bool} {e i : Int} (hc : ∀ x ∈ cs, x.code ≠ 0) (h : lookL names lo hi cs B = some (e, i)) : e ≠ 0 := by
 unfold lookL at h
 split at h
 ·refine looks_code h (fun j e he => ?_)
  unfold objF at he
  split at he
  ·cases he
  ·split at he
   ·cases he; omega
   ·exact first_code he hc
 ·cases h; omega
theorem all_code {l : List (List UInt8 × Option (Int × Int))} {e i : Int} {wd : List UInt8} (h : lookAll l = some (e, wd, i)) (hc : ∀ x ∈ l, ∀ c j, x.2 = some (c, j) → c ≠ 0) : e ≠ 0 := by
 induction l with
 | nil => cases h
 | cons y r ih =>
  obtain ⟨w', o⟩ := y
  rw [lookAll] at h
  cases o with
  | some p =>
   obtain ⟨a, b⟩ := p
   cases h
   exact hc _ (List.mem_cons_self ..) _ _ rfl
  | none => exact ih h (fun x hx => hc x (List.mem_cons_of_mem _ hx))
theorem allF_code {c : Cf} {e i : Int} {wd : List UInt8} (h : allF c = some (e, wd, i)) : e ≠ 0 := by
 refine all_code h ?_
 unfold tenR
 simp only [List.forall_mem_cons]
 refine ⟨?_, ?_, ?_, ?_, ?_, ?_, ?_, ?_, ?_, ?_, fun x hx => by cases hx⟩ <;>
  (intro c j hc
   refine lookL_code ?_ hc
   simp [resourceChecksL, eventChecksL, taskChecksL, counterChecksL, alarmChecksL, isrChecksL, messageChecksL])
end Go.Proofs.YtmidaeljeoifdaaGreatDoor
