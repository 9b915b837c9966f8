import Derived.Test.YtmidaeljeoifdaaGreatDoorKvd
namespace Go.Proofs.YtmidaeljeoifdaaGreatDoor
set_option linter.unusedVariables false
theorem first_none {cs : List Ck} {k : Nat} {B : Nat → Bool} (h : firstF cs k B = none) : ∀ i, i < cs.length → B (k + i) = true := by
 induction cs generalizing k with
 | nil => intro i hi; exact absurd hi (Nat.not_lt_zero _)
 | cons x r ih =>
  intro i hi
  rw [firstF] at h
  split at h
  ·rename_i hb
   cases i with
   | zero => exact hb
   | succ i =>
    have := ih h i (by simpa using hi)
    rwa [show k + (i + 1) = k + 1 + i by omega]
  ·cases h
theorem looks_none {E : Nat → Option Int} {m j : Nat} (h : looksF E m j = none) : ∀ i, i < m → E (j + i) = none := by
 induction m generalizing j with
 | zero => intro i hi; exact absurd hi (Nat.not_lt_zero _)
 | succ m ih =>
  intro i hi
  rw [looksF] at h
  split at h
  ·cases h
  ·rename_i he
   cases i with
   | zero => exact he
   | succ i =>
    have := ih h i (by omega)
    rwa [show j + (i + 1) = j + 1 + i by omega]
theorem lookL_none {names : List (List UInt8)} {lo hi : Int} {cs : List Ck} {B : Nat → Nat → Bool} (h : lookL names lo hi cs B = none) :
  inR names.length lo hi = true ∧ ∀ (j : Nat) (nm : List UInt8), names[j]? = some nm → isNm nm = true ∧ hasS (names.take j) nm = false ∧ ∀ k, k < cs.length → B k j = true := by
 unfold lookL at h
 split at h
 ·rename_i hin
  refine ⟨hin, fun j nm hj => ?_⟩
  have hE := looks_none h j (List.getElem?_eq_some_iff.1 hj).1
  rw [Nat.zero_add] at hE
  unfold objF at hE
  rw [hj] at hE
  simp only at hE
  split at hE
  ·cases hE
  ·rename_i hb
   have h2 : isNm nm = true ∧ hasS (names.take j) nm = false := by
    cases h3 : isNm nm <;> cases h4 : hasS (names.take j) nm <;> simp [h3, h4] at hb ⊢
   exact ⟨h2.1, h2.2, fun k hk => by have := first_none hE k hk; rwa [Nat.zero_add] at this⟩
 ·cases h
theorem kind_none {α : Type} {l : List α} {f : α → List UInt8} {lo hi : Int} {cs : List Ck} {Q : Nat → α → Nat → Bool} (h : lookL (l.map f) lo hi cs (byB l Q) = none) :
  inR l.length lo hi = true ∧ ∀ (j : Nat) (x : α), l[j]? = some x → isNm (f x) = true ∧ hasS ((l.map f).take j) (f x) = false ∧ ∀ k, k < cs.length → Q j x k = true := by
 obtain ⟨h1, h2⟩ := lookL_none h
 rw [List.length_map] at h1
 refine ⟨h1, fun j x hj => ?_⟩
 obtain ⟨a, b, d⟩ := h2 j (f x) (by rw [List.getElem?_map, hj]; rfl)
 exact ⟨a, b, fun k hk => by rw [← byB_at (B := Q) hj]; exact d k hk⟩
theorem lookAll_none {l : List (List UInt8 × Option (Int × Int))} (h : lookAll l = none) : ∀ x ∈ l, x.2 = none := by
 induction l with
 | nil => intro x hx; cases hx
 | cons y r ih =>
  obtain ⟨wd, o⟩ := y
  rw [lookAll] at h
  cases o with
  | some p => obtain ⟨a, b⟩ := p; cases h
  | none =>
   intro x hx
   rcases List.mem_cons.1 hx with rfl | hx
   ·rfl
   ·exact ih h x hx
structure May (c : Cf) : Prop where
 m : inR c.modes.length 1 8 = true ∧ ∀ (j : Nat) (nm : List UInt8), c.modes[j]? = some nm → isNm nm = true ∧ hasS (c.modes.take j) nm = false
 r : inR c.ress.length 0 64 = true ∧ ∀ (j : Nat) (x : Rs), c.ress[j]? = some x → isNm x.name = true ∧ hasS ((c.ress.map fun x => x.name).take j) x.name = false ∧ ∀ k, k < 4 → resQ c j x k = true
 e : inR c.evs.length 0 256 = true ∧ ∀ (j : Nat) (x : Ev), c.evs[j]? = some x → isNm x.name = true ∧ hasS ((c.evs.map fun x => x.name).take j) x.name = false ∧ ∀ k, k < 1 → evQ c j x k = true
 t : inR c.tasks.length 1 256 = true ∧ ∀ (j : Nat) (x : Tk), c.tasks[j]? = some x → isNm x.name = true ∧ hasS ((c.tasks.map fun x => x.name).take j) x.name = false ∧ ∀ k, k < 6 → tkQ c j x k = true
 k : inR c.ctrs.length 0 16 = true ∧ ∀ (j : Nat) (x : Ct), c.ctrs[j]? = some x → isNm x.name = true ∧ hasS ((c.ctrs.map fun x => x.name).take j) x.name = false ∧ ∀ k, k < 1 → ctQ c j x k = true
 a : inR c.als.length 0 64 = true ∧ ∀ (j : Nat) (x : Al), c.als[j]? = some x → isNm x.name = true ∧ hasS ((c.als.map fun x => x.name).take j) x.name = false ∧ ∀ k, k < 8 → alQ c j x k = true
 i : inR c.isrs.length 0 32 = true ∧ ∀ (j : Nat) (x : Is), c.isrs[j]? = some x → isNm x.name = true ∧ hasS ((c.isrs.map fun x => x.name).take j) x.name = false ∧ ∀ k, k < 5 → isQ c j x k = true
 s : inR c.msgs.length 0 64 = true ∧ ∀ (j : Nat) (x : Ms), c.msgs[j]? = some x → isNm x.name = true ∧ hasS ((c.msgs.map fun x => x.name).take j) x.name = false ∧ ∀ k, k < 8 → msQ c j x k = true
theorem may_of {c : Cf} (h : allF c = none) : May c := by
 have H := lookAll_none h
 unfold tenR at H
 simp only [List.forall_mem_cons] at H
 obtain ⟨h0, h1, h2, h3, h4, h5, h6, h7, h8, h9, _⟩ := H
 have hm := lookL_none h2
 exact ⟨⟨hm.1, fun j nm hj => ⟨(hm.2 j nm hj).1, (hm.2 j nm hj).2.1⟩⟩, kind_none h3, kind_none h4, kind_none h5, kind_none h6, kind_none h7, kind_none h8, kind_none h9⟩
end Go.Proofs.YtmidaeljeoifdaaGreatDoor
