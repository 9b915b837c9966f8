import Derived.Test.YtidhjajobacnaaaGreatDoorKvk
import Derived.Test.YtidhjajobacnaaaGreatDoorKrw
namespace Go.Proofs.YtidhjajobacnaaaGreatDoor
set_option linter.unusedVariables false

/-! ### Roots of a configuration that may be; codes -/
theorem root_out (c : Cf) (f : Nat) (r : Int) (h : isId r c.ress.length = false) : rootF c f r = -1 := by
  cases f with
  | zero => rfl
  | succ f => rw [rootF, h]; rfl
theorem rkind_at {c : Cf} {j : Nat} {x : Rs} (h : c.ress[j]? = some x) : rkind c (j : Int) = x.kind := by simp [rkind, h]
theorem rlink_at {c : Cf} {j : Nat} {x : Rs} (h : c.ress[j]? = some x) : rlink c (j : Int) = x.link := by simp [rlink, h]
theorem isId_nat {j n : Nat} (h : j < n) : isId (j : Int) n = true := by simp [isId]; omega
theorem may_root {c : Cf} (h : May c) (j : Nat) (x : Rs) (hx : c.ress[j]? = some x) :
    ∃ (p : Nat) (y : Rs), rootF c c.ress.length j = (p : Int) ∧ c.ress[p]? = some y ∧ y.kind ≠ 2 ∧ (x.kind = 2 → rootF c c.ress.length x.link = (p : Int)) ∧ (x.kind ≠ 2 → p = j) := by
  have hj := (List.getElem?_eq_some_iff.1 hx).1
  by_cases hk : x.kind = 2
  · have hq : (x.kind != 2 || (decide (0 ≤ rootF c c.ress.length j) && rkind c (rootF c c.ress.length j) == 1)) = true := (h.r.2 j x hx).2.2 3 (by omega)
    rw [hk] at hq
    have hq2 : 0 ≤ rootF c c.ress.length j ∧ rkind c (rootF c c.ress.length j) = 1 := by simpa using hq
    have hlt := rootF_lt c c.ress.length j
    obtain ⟨p, hp⟩ := Int.eq_ofNat_of_zero_le hq2.1
    rw [hp] at hq2 hlt
    have hpl : p < c.ress.length := by omega
    obtain ⟨y, hy⟩ : ∃ y, c.ress[p]? = some y := ⟨_, List.getElem?_eq_getElem hpl⟩
    have hyk := hq2.2
    rw [show ((p : Nat) : Int) = (p : Int) from rfl, rkind_at hy] at hyk
    refine ⟨p, y, hp, hy, by rw [hyk]; omega, fun _ => ?_, fun hn => absurd hk hn⟩
    have hm := rootF_more c (j : Int)
    rw [rootF, isId_nat hj, if_pos rfl, rkind_at hx, if_pos hk, rlink_at hx] at hm
    rw [hm, hp]
  · refine ⟨j, x, ?_, hx, hk, fun hn => absurd hn hk, fun _ => rfl⟩
    obtain ⟨m, hm⟩ : ∃ m, c.ress.length = m + 1 := ⟨c.ress.length - 1, by omega⟩
    have e : rootF c c.ress.length (j : Int) = if isId (j : Int) c.ress.length = true then (if rkind c (j : Int) = 2 then rootF c m (rlink c (j : Int)) else (j : Int)) else -1 := by
      rw [show rootF c c.ress.length (j : Int) = rootF c (m + 1) (j : Int) by rw [hm], rootF]
    rw [e, isId_nat hj, if_pos rfl, rkind_at hx, if_neg hk]
theorem first_code {cs : List Ck} {k : Nat} {B : Nat → Bool} {e : Int} (h : firstF cs k B = some e) (hc : ∀ x ∈ cs, x.code ≠ 0) : e ≠ 0 := by
  induction cs generalizing k with
  | nil => cases h
  | cons x r ih =>
    rw [firstF] at h
    split at h
    · exact ih h (fun y hy => hc y (List.mem_cons_of_mem _ hy))
    · cases h; exact hc x (List.mem_cons_self ..)
theorem looks_code {E : Nat → Option Int} {m j : Nat} {e i : Int} (h : looksF E m j = some (e, i)) (hE : ∀ j e, E j = some e → e ≠ 0) : e ≠ 0 := by
  induction m generalizing j with
  | zero => cases h
  | succ m ih =>
    rw [looksF] at h
    split at h
    · rename_i c hc
      cases h
      exact hE j _ hc
    · exact ih h
theorem lookL_code {names : List (List UInt8)} {lo hi : Int} {cs : List Ck} {B : Nat → Nat → Bool} {e i : Int} (hc : ∀ x ∈ cs, x.code ≠ 0) (h : lookL names lo hi cs B = some (e, i)) : e ≠ 0 := by
  unfold lookL at h
  split at h
  · refine looks_code h (fun j e he => ?_)
    unfold objF at he
    split at he
    · cases he
    · split at he
      · cases he; omega
      · exact first_code he hc
  · cases h; omega
theorem all_code {l : List (List UInt8 × Option (Int × Int))} {e i : Int} {wd : List UInt8} (h : lookAll l = some (e, wd, i)) (hc : ∀ x ∈ l, ∀ c j, x.2 = some (c, j) → c ≠ 0) : e ≠ 0 := by
  induction l with
  | nil => cases h
  | cons y r ih =>
    obtain ⟨w', o⟩ := y
    rw [lookAll] at h
    cases o with
    | some p =>
      obtain ⟨a, b⟩ := p
      cases h
      exact hc _ (List.mem_cons_self ..) _ _ rfl
    | none => exact ih h (fun x hx => hc x (List.mem_cons_of_mem _ hx))
theorem allF_code {c : Cf} {e i : Int} {wd : List UInt8} (h : allF c = some (e, wd, i)) : e ≠ 0 := by
  refine all_code h ?_
  unfold tenR
  simp only [List.forall_mem_cons]
  refine ⟨?_, ?_, ?_, ?_, ?_, ?_, ?_, ?_, ?_, ?_, fun x hx => by cases hx⟩ <;>
    (intro c j hc
     refine lookL_code ?_ hc
     simp [resourceChecksL, eventChecksL, taskChecksL, counterChecksL, alarmChecksL, isrChecksL, messageChecksL])
end Go.Proofs.YtidhjajobacnaaaGreatDoor
