import Derived.Test.YtidhjajobacnaaaGreatDoorKrt
import Derived.Test.YtidhjajobacnaaaGreatDoorKvk
namespace Go.Proofs.YtidhjajobacnaaaGreatDoor
set_option linter.unusedVariables false

/-! ### Going from resource to resource: who has met as many as there are goes round -/
theorem pigeon : ∀ (n : Nat) (f : Nat → Nat), (∀ k, k ≤ n → f k < n) → ∃ i j, i < j ∧ j ≤ n ∧ f i = f j
  | 0, f, h => absurd (h 0 (Nat.le_refl 0)) (Nat.not_lt_zero _)
  | n + 1, f, h => by
    by_cases hv : ∃ i, i ≤ n ∧ f i = f (n + 1)
    · obtain ⟨i, hi, e⟩ := hv
      exact ⟨i, n + 1, by omega, Nat.le_refl _, e⟩
    · have hne : ∀ i, i ≤ n → f i ≠ f (n + 1) := fun i hi e => hv ⟨i, hi, e⟩
      have hvl := h (n + 1) (Nat.le_refl _)
      obtain ⟨i, j, hij, hjn, e⟩ := pigeon n (fun k => if f k = n then f (n + 1) else f k) (fun k hk => by
        have h1 := h k (by omega)
        have h2 := hne k hk
        split <;> omega)
      have h1 := hne i (by omega)
      have h2 := hne j hjn
      refine ⟨i, j, hij, by omega, ?_⟩
      split at e <;> split at e <;> omega
def goes (c : Cf) (r : Int) : Bool := isId r c.ress.length && rkind c r == 2
def iter (c : Cf) : Nat → Int → Int
  | 0, r => r
  | k + 1, r => iter c k (rlink c r)
theorem iter_succ (c : Cf) : ∀ (k : Nat) (r : Int), iter c (k + 1) r = rlink c (iter c k r)
  | 0, r => rfl
  | k + 1, r => by rw [iter, iter_succ c k (rlink c r)]; rfl
theorem iter_add (c : Cf) (a b : Nat) (r : Int) : iter c (a + b) r = iter c b (iter c a r) := by
  induction a generalizing r with
  | zero => rw [Nat.zero_add]; rfl
  | succ a ih => rw [show a + 1 + b = (a + b) + 1 by omega, iter, iter, ih]
theorem rootF_all (c : Cf) : ∀ (f : Nat) (r : Int), (∀ k, k < f → goes c (iter c k r) = true) → rootF c f r = -1
  | 0, r, _ => rfl
  | f + 1, r, h => by
    have h0 : goes c r = true := h 0 (by omega)
    simp [goes] at h0
    rw [rootF, if_pos h0.1, if_pos h0.2]
    exact rootF_all c f _ (fun k hk => h (k + 1) (by omega))
theorem rootF_some (c : Cf) : ∀ (f g : Nat) (r : Int) (k : Nat), k < f → k < g → goes c (iter c k r) = false → rootF c f r = rootF c g r
  | 0, _, _, _, h, _, _ => absurd h (Nat.not_lt_zero _)
  | _, 0, _, _, _, h, _ => absurd h (Nat.not_lt_zero _)
  | f + 1, g + 1, r, k, hf, hg, hk => by
    rw [rootF, rootF]
    split
    · split
      · cases k with
        | zero =>
          rename_i h1 h2
          have : goes c r = false := hk
          simp [goes, h1, h2] at this
        | succ k => exact rootF_some c f g _ k (by omega) (by omega) hk
      · rfl
    · rfl
theorem rootF_more (c : Cf) (r : Int) : rootF c (c.ress.length + 1) r = rootF c c.ress.length r := by
  by_cases h : ∃ k, k < c.ress.length ∧ goes c (iter c k r) = false
  · obtain ⟨k, hk, hg⟩ := h
    exact rootF_some c _ _ r k (by omega) hk hg
  · have hall : ∀ k, k < c.ress.length → goes c (iter c k r) = true := fun k hk => by
      cases hg : goes c (iter c k r) with
      | true => rfl
      | false => exact absurd ⟨k, hk, hg⟩ h
    rw [rootF_all c c.ress.length r hall]
    by_cases hn : isId (iter c c.ress.length r) c.ress.length = true
    · have hid : ∀ k, k ≤ c.ress.length → isId (iter c k r) c.ress.length = true := fun k hk => by
        by_cases e : k < c.ress.length
        · have := hall k e
          simp [goes] at this
          exact this.1
        · obtain rfl : k = c.ress.length := by omega
          exact hn
      have hnn : ∀ k, k ≤ c.ress.length → 0 ≤ iter c k r ∧ iter c k r < c.ress.length := fun k hk => by
        have := hid k hk
        simpa [isId] using this
      obtain ⟨i, j, hij, hjn, e⟩ := pigeon c.ress.length (fun k => (iter c k r).toNat) (fun k hk => by have := hnn k hk; omega)
      have e2 : iter c i r = iter c j r := by
        have h1 := hnn i (by omega)
        have h2 := hnn j hjn
        omega
      have e3 : iter c (i + (c.ress.length - j)) r = iter c c.ress.length r := by
        rw [iter_add, e2, ← iter_add]
        congr 1
        omega
      have h4 := hall (i + (c.ress.length - j)) (by omega)
      refine rootF_all c _ r (fun k hk => ?_)
      by_cases ek : k < c.ress.length
      · exact hall k ek
      · obtain rfl : k = c.ress.length := by omega
        rw [← e3]
        exact h4
    · obtain ⟨m, hm⟩ : ∃ m, m = c.ress.length := ⟨_, rfl⟩
      have key : ∀ (f : Nat) (q : Int), (∀ k, k < f → goes c (iter c k q) = true) → isId (iter c f q) c.ress.length = false → rootF c (f + 1) q = -1 := by
        intro f
        induction f with
        | zero =>
          intro q _ hq
          have hq' : isId q c.ress.length = false := hq
          rw [rootF, if_neg (by rw [hq']; decide)]
        | succ f ih =>
          intro q hk hq
          have h0 : goes c q = true := hk 0 (by omega)
          simp [goes] at h0
          rw [rootF, if_pos h0.1, if_pos h0.2]
          exact ih _ (fun k hk2 => hk (k + 1) (by omega)) hq
      exact key _ r hall (by simpa using hn)
end Go.Proofs.YtidhjajobacnaaaGreatDoor

namespace Go.Proofs.YtidhjajobacnaaaGreatDoor
set_option linter.unusedVariables false

/-! ### Roots of a configuration that may be; codes -/
theorem root_out (c : Cf) (f : Nat) (r : Int) (h : isId r c.ress.length = false) : rootF c f r = -1 := by
  cases f with
  | zero => rfl
  | succ f => rw [rootF, h]; rfl
theorem rkind_at {c : Cf} {j : Nat} {x : Rs} (h : c.ress[j]? = some x) : rkind c (j : Int) = x.kind := by simp [rkind, h]
theorem rlink_at {c : Cf} {j : Nat} {x : Rs} (h : c.ress[j]? = some x) : rlink c (j : Int) = x.link := by simp [rlink, h]
theorem isId_nat {j n : Nat} (h : j < n) : isId (j : Int) n = true := by simp [isId]; omega
theorem may_root {c : Cf} (h : May c) (j : Nat) (x : Rs) (hx : c.ress[j]? = some x) :
    ∃ (p : Nat) (y : Rs), rootF c c.ress.length j = (p : Int) ∧ c.ress[p]? = some y ∧ y.kind ≠ 2 ∧ (x.kind = 2 → rootF c c.ress.length x.link = (p : Int)) ∧ (x.kind ≠ 2 → p = j) := by
  have hj := (List.getElem?_eq_some_iff.1 hx).1
  by_cases hk : x.kind = 2
  · have hq : (x.kind != 2 || (decide (0 ≤ rootF c c.ress.length j) && rkind c (rootF c c.ress.length j) == 1)) = true := (h.r.2 j x hx).2.2 3 (by omega)
    rw [hk] at hq
    have hq2 : 0 ≤ rootF c c.ress.length j ∧ rkind c (rootF c c.ress.length j) = 1 := by simpa using hq
    have hlt := rootF_lt c c.ress.length j
    obtain ⟨p, hp⟩ := Int.eq_ofNat_of_zero_le hq2.1
    rw [hp] at hq2 hlt
    have hpl : p < c.ress.length := by omega
    obtain ⟨y, hy⟩ : ∃ y, c.ress[p]? = some y := ⟨_, List.getElem?_eq_getElem hpl⟩
    have hyk := hq2.2
    rw [show ((p : Nat) : Int) = (p : Int) from rfl, rkind_at hy] at hyk
    refine ⟨p, y, hp, hy, by rw [hyk]; omega, fun _ => ?_, fun hn => absurd hk hn⟩
    have hm := rootF_more c (j : Int)
    rw [rootF, isId_nat hj, if_pos rfl, rkind_at hx, if_pos hk, rlink_at hx] at hm
    rw [hm, hp]
  · refine ⟨j, x, ?_, hx, hk, fun hn => absurd hn hk, fun _ => rfl⟩
    obtain ⟨m, hm⟩ : ∃ m, c.ress.length = m + 1 := ⟨c.ress.length - 1, by omega⟩
    have e : rootF c c.ress.length (j : Int) = if isId (j : Int) c.ress.length = true then (if rkind c (j : Int) = 2 then rootF c m (rlink c (j : Int)) else (j : Int)) else -1 := by
      rw [show rootF c c.ress.length (j : Int) = rootF c (m + 1) (j : Int) by rw [hm], rootF]
    rw [e, isId_nat hj, if_pos rfl, rkind_at hx, if_neg hk]
theorem first_code {cs : List Ck} {k : Nat} {B : Nat → Bool} {e : Int} (h : firstF cs k B = some e) (hc : ∀ x ∈ cs, x.code ≠ 0) : e ≠ 0 := by
  induction cs generalizing k with
  | nil => cases h
  | cons x r ih =>
    rw [firstF] at h
    split at h
    · exact ih h (fun y hy => hc y (List.mem_cons_of_mem _ hy))
    · cases h; exact hc x (List.mem_cons_self ..)
theorem looks_code {E : Nat → Option Int} {m j : Nat} {e i : Int} (h : looksF E m j = some (e, i)) (hE : ∀ j e, E j = some e → e ≠ 0) : e ≠ 0 := by
  induction m generalizing j with
  | zero => cases h
  | succ m ih =>
    rw [looksF] at h
    split at h
    · rename_i c hc
      cases h
      exact hE j _ hc
    · exact ih h
theorem lookL_code {names : List (List UInt8)} {lo hi : Int} {cs : List Ck} {B : Nat → Nat → Bool} {e i : Int} (hc : ∀ x ∈ cs, x.code ≠ 0) (h : lookL names lo hi cs B = some (e, i)) : e ≠ 0 := by
  unfold lookL at h
  split at h
  · refine looks_code h (fun j e he => ?_)
    unfold objF at he
    split at he
    · cases he
    · split at he
      · cases he; omega
      · exact first_code he hc
  · cases h; omega
theorem all_code {l : List (List UInt8 × Option (Int × Int))} {e i : Int} {wd : List UInt8} (h : lookAll l = some (e, wd, i)) (hc : ∀ x ∈ l, ∀ c j, x.2 = some (c, j) → c ≠ 0) : e ≠ 0 := by
  induction l with
  | nil => cases h
  | cons y r ih =>
    obtain ⟨w', o⟩ := y
    rw [lookAll] at h
    cases o with
    | some p =>
      obtain ⟨a, b⟩ := p
      cases h
      exact hc _ (List.mem_cons_self ..) _ _ rfl
    | none => exact ih h (fun x hx => hc x (List.mem_cons_of_mem _ hx))
theorem allF_code {c : Cf} {e i : Int} {wd : List UInt8} (h : allF c = some (e, wd, i)) : e ≠ 0 := by
  refine all_code h ?_
  unfold tenR
  simp only [List.forall_mem_cons]
  refine ⟨?_, ?_, ?_, ?_, ?_, ?_, ?_, ?_, ?_, ?_, fun x hx => by cases hx⟩ <;>
    (intro c j hc
     refine lookL_code ?_ hc
     simp [resourceChecksL, eventChecksL, taskChecksL, counterChecksL, alarmChecksL, isrChecksL, messageChecksL])
end Go.Proofs.YtidhjajobacnaaaGreatDoor

