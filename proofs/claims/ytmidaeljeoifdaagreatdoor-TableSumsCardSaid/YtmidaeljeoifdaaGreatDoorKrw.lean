import Derived.Test.YtmidaeljeoifdaaGreatDoorKrt
namespace Go.Proofs.YtmidaeljeoifdaaGreatDoor
set_option linter.unusedVariables false
theorem pigeon : ∀ (n : Nat) (f : Nat → Nat), (∀ k, k ≤ n → f k < n) → ∃ i j, i < j ∧ j ≤ n ∧ f i = f j
 | 0, f, h => absurd (h 0 (Nat.le_refl 0)) (Nat.not_lt_zero _)
 | n + 1, f, h => by
  by_cases hv : ∃ i, i ≤ n ∧ f i = f (n + 1)
  ·obtain ⟨i, hi, e⟩ := hv
   exact ⟨i, n + 1, by omega, Nat.le_refl _, e⟩
  ·have hne : ∀ i, i ≤ n → f i ≠ f (n + 1) := fun i hi e => hv ⟨i, hi, e⟩
   have hvl := h (n + 1) (Nat.le_refl _)
   obtain ⟨i, j, hij, hjn, e⟩ := pigeon n (fun k => if f k = n then f (n + 1) else f k) (fun k hk => by
    have h1 := h k (by omega)
    have h2 := hne k hk
    split <;> omega)
   have h1 := hne i (by omega)
   have h2 := hne j hjn
   refine ⟨i, j, hij, by omega, ?_⟩
   split at e <;> split at e <;> omega
def goes (c : Cf) (r : Int) : Bool := isId r c.ress.length && rkind c r == 2
def iter (c : Cf) : Nat → Int → Int
 | 0, r => r
 | k + 1, r => iter c k (rlink c r)
theorem iter_add (c : Cf) (a b : Nat) (r : Int) : iter c (a + b) r = iter c b (iter c a r) := by
 induction a generalizing r with
 | zero => rw [Nat.zero_add]; rfl
 | succ a ih => rw [show a + 1 + b = (a + b) + 1 by omega, iter, iter, ih]
theorem rootF_all (c : Cf) : ∀ (f : Nat) (r : Int), (∀ k, k < f → goes c (iter c k r) = true) → rootF c f r = -1
 | 0, r, _ => rfl
 | f + 1, r, h => by
  have h0 : goes c r = true := h 0 (by omega)
  simp [goes] at h0
  rw [rootF, if_pos h0.1, if_pos h0.2]
  exact rootF_all c f _ (fun k hk => h (k + 1) (by omega))
theorem rootF_some (c : Cf) : ∀ (f g : Nat) (r : Int) (k : Nat), k < f → k < g → goes c (iter c k r) = false → rootF c f r = rootF c g r
 | 0, _, _, _, h, _, _ => absurd h (Nat.not_lt_zero _)
 | _, 0, _, _, _, h, _ => absurd h (Nat.not_lt_zero _)
 | f + 1, g + 1, r, k, hf, hg, hk => by
  rw [rootF, rootF]
  split
  ·split
   ·cases k with
    | zero =>
     rename_i h1 h2
     have : goes c r = false := hk
     simp [goes, h1, h2] at this
    | succ k => exact rootF_some c f g _ k (by omega) (by omega) hk
   ·rfl
  ·rfl
theorem rootF_more (c : Cf) (r : Int) : rootF c (c.ress.length + 1) r = rootF c c.ress.length r := by
 by_cases h : ∃ k, k < c.ress.length ∧ goes c (iter c k r) = false
 ·obtain ⟨k, hk, hg⟩ := h
  exact rootF_some c _ _ r k (by omega) hk hg
 ·have hall : ∀ k, k < c.ress.length → goes c (iter c k r) = true := fun k hk => by
   cases hg : goes c (iter c k r) with
   | true => rfl
   | false => exact absurd ⟨k, hk, hg⟩ h
  rw [rootF_all c c.ress.length r hall]
  by_cases hn : isId (iter c c.ress.length r) c.ress.length = true
  ·have hid : ∀ k, k ≤ c.ress.length → isId (iter c k r) c.ress.length = true := fun k hk => by
    by_cases e : k < c.ress.length
    ·have := hall k e
     simp [goes] at this
     exact this.1
    ·obtain rfl : k = c.ress.length := by omega
     exact hn
   have hnn : ∀ k, k ≤ c.ress.length → 0 ≤ iter c k r ∧ iter c k r < c.ress.length := fun k hk => by
    have := hid k hk
    simpa [isId] using this
   obtain ⟨i, j, hij, hjn, e⟩ := pigeon c.ress.length (fun k => (iter c k r).toNat) (fun k hk => by have := hnn k hk; omega)
   have e2 : iter c i r = iter c j r := by
    have h1 := hnn i (by omega)
    have h2 := hnn j hjn
    omega
   have e3 : iter c (i + (c.ress.length - j)) r = iter c c.ress.length r := by
    rw [iter_add, e2, ← iter_add]
    congr 1
    omega
   have h4 := hall (i + (c.ress.length - j)) (by omega)
   refine rootF_all c _ r (fun k hk => ?_)
   by_cases ek : k < c.ress.length
   ·exact hall k ek
   ·obtain rfl : k = c.ress.length := by omega
    rw [← e3]
    exact h4
  ·obtain ⟨m, hm⟩ : ∃ m, m = c.ress.length := ⟨_, rfl⟩
   have key : ∀ (f : Nat) (q : Int), (∀ k, k < f → goes c (iter c k q) = true) → isId (iter c f q) c.ress.length = false → rootF c (f + 1) q = -1 := by
    intro f
    induction f with
    | zero =>
     intro q _ hq
     have hq' : isId q c.ress.length = false := hq
     rw [rootF, if_neg (by rw [hq']; decide)]
    | succ f ih =>
     intro q hk hq
     have h0 : goes c q = true := hk 0 (by omega)
     simp [goes] at h0
     rw [rootF, if_pos h0.1, if_pos h0.2]
     exact ih _ (fun k hk2 => hk (k + 1) (by omega)) hq
   exact key _ r hall (by simpa using hn)
end Go.Proofs.YtmidaeljeoifdaaGreatDoor
