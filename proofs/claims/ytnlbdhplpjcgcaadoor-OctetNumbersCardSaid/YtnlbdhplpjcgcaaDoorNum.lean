import Derived.Lib.ItoaNum
namespace Go.Proofs.YtnlbdhplpjcgcaaDoor
open Go

/-- A decimal digit? What it is worth. -/
def isD (c : UInt8) : Bool := decide (48 ≤ c.toNat ∧ c.toNat ≤ 57)
def dV (c : UInt8) : Nat := c.toNat - 48
def vA (v : Nat) : List UInt8 → Nat
  | [] => v
  | c :: t => vA (10 * v + dV c) t
def allD (l : List UInt8) : Bool := l.all isD
def canonD (l : List UInt8) : Bool := decide (l ≠ [] ∧ ¬ (1 < l.length ∧ l.head? = some 48))
theorem vA_app (v : Nat) (a b : List UInt8) : vA v (a ++ b) = vA (vA v a) b := by
  induction a generalizing v with
  | nil => rfl
  | cons c t ih => exact ih _
theorem vA_mono (v : Nat) (l : List UInt8) : v ≤ vA v l := by
  induction l generalizing v with
  | nil => exact Nat.le_refl _
  | cons c t ih => exact Nat.le_trans (by omega) (ih _)
theorem isD_lt {c : UInt8} (h : isD c = true) : dV c < 10 ∧ 48 ≤ c.toNat ∧ c.toNat ≤ 57 := by
  have := of_decide_eq_true h
  unfold dV
  omega
theorem ofNat_dV {c : UInt8} (h : isD c = true) : UInt8.ofNat (48 + dV c) = c := by
  obtain ⟨_, h1, _⟩ := isD_lt h
  rw [show 48 + dV c = c.toNat by unfold dV; omega]
  exact UInt8.ofNat_toNat
theorem isD_of (d : Nat) (h : d < 10) : isD (UInt8.ofNat (48 + d)) = true ∧ dV (UInt8.ofNat (48 + d)) = d := by
  have e : (UInt8.ofNat (48 + d)).toNat = 48 + d := by rw [UInt8.toNat_ofNat']; omega
  unfold isD dV
  rw [e]
  exact ⟨by simp; omega, by omega⟩
theorem allD_app (a b : List UInt8) : allD (a ++ b) = (allD a && allD b) := by unfold allD; rw [List.all_append]
theorem vA_pos {c : UInt8} {t : List UInt8} (hd : isD c = true) (hc : c ≠ 48) : 1 ≤ vA 0 (c :: t) := by
  have h1 := vA_mono (10 * 0 + dV c) t
  have : 1 ≤ dV c := by
    obtain ⟨_, h2, h3⟩ := isD_lt hd
    have : c.toNat ≠ 48 := fun e => hc (UInt8.toNat_inj.1 (by rw [e]; rfl))
    unfold dV
    omega
  exact Nat.le_trans (by omega) h1
theorem dec_val : ∀ (n : Nat) (l : List UInt8), l.length = n → allD l = true → canonD l = true → Lib.decDigits (vA 0 l) = l := by
  intro n
  induction n using Nat.strongRecOn with
  | _ n ih =>
    intro l hl ha hc
    rcases List.eq_nil_or_concat l with rfl | ⟨t, c, rfl⟩
    · exact absurd hc (by decide)
    · simp only [List.concat_eq_append] at *
      rw [allD_app, Bool.and_eq_true] at ha
      obtain ⟨hat, hac⟩ := ha
      have hcd : isD c = true := by simpa [allD] using hac
      rw [vA_app]
      cases t with
      | nil =>
        show Lib.decDigits (10 * 0 + dV c) = [c]
        rw [Lib.decDigits_one (by have := (isD_lt hcd).1; omega), show 10 * 0 + dV c = dV c by omega, ofNat_dV hcd]
      | cons x t =>
        have hx : x ≠ 48 := by
          have := of_decide_eq_true hc
          simp at this
          exact this
        have hxd : isD x = true := by simp [allD] at hat; exact hat.1
        have hp : 1 ≤ vA 0 (x :: t) := vA_pos hxd hx
        have hcan : canonD (x :: t) = true := decide_eq_true ⟨by simp, by simp [hx]⟩
        have e := ih (x :: t).length (by rw [← hl]; simp) (x :: t) rfl hat hcan
        show Lib.decDigits (10 * vA 0 (x :: t) + dV c) = _
        have hd10 := (isD_lt hcd).1
        generalize vA 0 (x :: t) = u at e hp
        rw [Lib.decDigits, dif_neg (by omega), show (10 * u + dV c) / 10 = u by omega, show (10 * u + dV c) % 10 = dV c by omega, e, ofNat_dV hcd]
theorem dec_all (u : Nat) : allD (Lib.decDigits u) = true ∧ vA 0 (Lib.decDigits u) = u ∧ Lib.decDigits u ≠ [] ∧ (1 ≤ u → (Lib.decDigits u).head? ≠ some 48) := by
  induction u using Nat.strongRecOn with
  | _ u ih =>
    by_cases h : u < 10
    · rw [Lib.decDigits_one h]
      obtain ⟨h1, h2⟩ := isD_of u h
      refine ⟨(by show (isD _ && true) = true; rw [h1]; rfl), ?_, by simp, fun hu e => ?_⟩
      · show 10 * 0 + dV _ = u
        omega
      · have e : UInt8.ofNat (48 + u) = 48 := Option.some.inj e
        have : (UInt8.ofNat (48 + u)).toNat = 48 := by rw [e]; rfl
        rw [UInt8.toNat_ofNat'] at this
        omega
    · obtain ⟨i1, i2, i3, i4⟩ := ih (u / 10) (by omega)
      obtain ⟨h1, h2⟩ := isD_of (u % 10) (by omega)
      rw [Lib.decDigits, dif_neg h]
      refine ⟨(by rw [allD_app, i1]; show (true && (isD _ && true)) = true; rw [h1]; rfl), ?_, by simp, fun _ => ?_⟩
      · rw [vA_app, i2]
        show 10 * (u / 10) + dV _ = u
        omega
      · have := i4 (by omega)
        cases hh : Lib.decDigits (u / 10) with
        | nil => exact absurd hh i3
        | cons x t => rw [hh] at this; simpa using this
theorem dec_canon (u : Nat) : canonD (Lib.decDigits u) = true := by
  obtain ⟨_, _, h3, h4⟩ := dec_all u
  refine decide_eq_true ⟨h3, fun ⟨h5, h6⟩ => ?_⟩
  by_cases h : u < 10
  · rw [Lib.decDigits_one h] at h5
    simp at h5
  · exact h4 (by omega) h6
/-- The document's answer. -/
def okD (l : List UInt8) (most : Nat) : Bool := canonD l && allD l && decide (vA 0 l ≤ most)
theorem okD_dec (u most : Nat) (h : u ≤ most) : okD (Lib.decDigits u) most = true := by
  obtain ⟨h1, h2, _, _⟩ := dec_all u
  unfold okD
  rw [dec_canon, h1, h2]
  simpa using h
/-- Where a piece has been read: what is left. -/
theorem vA_take (l : List UInt8) (k : Nat) (h : k < l.length) : vA 0 (l.take (k + 1)) = 10 * vA 0 (l.take k) + dV (l[k]) := by
  rw [List.take_succ_eq_append_getElem h, vA_app]
  rfl
theorem vA_take_le (l : List UInt8) (k : Nat) : vA 0 (l.take k) ≤ vA 0 l := by
  conv => rhs; rw [← List.take_append_drop k l, vA_app]
  exact vA_mono _ _
theorem allD_not (l : List UInt8) (k : Nat) (h : k < l.length) (hd : isD l[k] = false) : allD l = false := by
  unfold allD
  rw [List.all_eq_false]
  exact ⟨l[k], List.getElem_mem h, by simp [hd]⟩
theorem allD_take (l : List UInt8) (k : Nat) (h : k < l.length) (ha : allD (l.take k) = true) (hd : isD l[k] = true) : allD (l.take (k + 1)) = true := by
  rw [List.take_succ_eq_append_getElem h, allD_app, ha]
  simp [allD, hd]
theorem dec_iff (l : List UInt8) (ha : allD l = true) : (Lib.decDigits (vA 0 l) = l) ↔ canonD l = true :=
  ⟨fun e => by have := dec_canon (vA 0 l); rwa [e] at this, fun h => dec_val _ l rfl ha h⟩
end Go.Proofs.YtnlbdhplpjcgcaaDoor
