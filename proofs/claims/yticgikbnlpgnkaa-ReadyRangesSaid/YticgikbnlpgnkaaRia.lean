import Derived.WalkKit
namespace Go.Proofs.Yticgikbnlpgnkaa
set_option linter.unusedVariables false
set_option linter.unusedSimpArgs false

/-! ### A row in a room (lists) -/
theorem modn {n f i : Nat} (hf : f < n) (hi : i ≤ n) : (f + i) % n = if f + i < n then f + i else f + i - n := by
  split
  · rename_i h; exact Nat.mod_eq_of_lt h
  · rename_i h
    rw [Nat.mod_eq_sub_mod (by omega)]
    by_cases h2 : f + i - n < n
    · exact Nat.mod_eq_of_lt h2
    · omega
/-- The row l lies in the room R from f on; it may go on from the room's beginning. -/
structure Rw {α : Type} (R : List α) (f : Nat) (l : List α) : Prop where
  p : f = 0 ∨ f < R.length
  c : l.length ≤ R.length
  a : ∀ i, i < l.length → R[(f + i) % R.length]? = l[i]?
theorem Rw.new {α : Type} (R : List α) : Rw R 0 [] := ⟨.inl rfl, by simp, fun i hi => by simp at hi⟩
theorem Rw.lt {α : Type} {R : List α} {f : Nat} {l : List α} (h : Rw R f l) (hn : 0 < R.length) : f < R.length := by
  rcases h.p with e | e <;> omega
theorem Rw.place {α : Type} {R : List α} {f : Nat} {l : List α} (h : Rw R f l) (hn : 0 < R.length) (i : Nat) : (f + i) % R.length < R.length := Nat.mod_lt _ hn
theorem Rw.last {α : Type} {R : List α} {f : Nat} {l : List α} (h : Rw R f l) (hc : l.length < R.length) (v : α) : Rw (R.set ((f + l.length) % R.length) v) f (l ++ [v]) := by
  have hf := h.lt (by omega)
  refine ⟨.inr (by simpa using hf), by simp; omega, fun i hi => ?_⟩
  rw [List.length_set]
  simp only [List.length_append, List.length_cons, List.length_nil] at hi
  by_cases hl : i < l.length
  · rw [List.getElem?_set_ne ?_, List.getElem?_append_left hl]
    · exact h.a i hl
    · rw [modn hf (by omega), modn hf (by omega)]
      split <;> split <;> omega
  · obtain rfl : i = l.length := by omega
    rw [List.getElem?_set_self (Nat.mod_lt _ (by omega))]
    simp
theorem Rw.first {α : Type} {R : List α} {f : Nat} {l : List α} (h : Rw R f l) (hc : l.length < R.length) (v : α) : Rw (R.set ((f + (R.length - 1)) % R.length) v) ((f + (R.length - 1)) % R.length) (v :: l) := by
  have hf := h.lt (by omega)
  have hp : (f + (R.length - 1)) % R.length < R.length := Nat.mod_lt _ (by omega)
  refine ⟨.inr (by simpa using hp), by simp; omega, fun i hi => ?_⟩
  rw [List.length_set]
  simp only [List.length_cons] at hi
  by_cases hl : i = 0
  · subst hl
    rw [Nat.add_zero, Nat.mod_eq_of_lt hp, List.getElem?_set_self hp]
    simp
  · obtain ⟨j, rfl⟩ : ∃ j, i = j + 1 := ⟨i - 1, by omega⟩
    have e1 : ((f + (R.length - 1)) % R.length + (j + 1)) % R.length = (f + j) % R.length := by
      rw [modn hp (by omega), modn hf (by omega), modn hf (by omega)]
      split <;> split <;> (try split) <;> omega
    rw [e1, List.getElem?_set_ne ?_]
    · rw [h.a j (by omega)]; simp
    · rw [modn hf (by omega), modn hf (by omega)]
      split <;> split <;> omega
theorem Rw.hd {α : Type} {R : List α} {f : Nat} {v : α} {l : List α} (h : Rw R f (v :: l)) : R[f]? = some v := by
  have hc := h.c
  simp only [List.length_cons] at hc
  have hf := h.lt (by omega)
  have := h.a 0 (by simp)
  rw [Nat.add_zero, Nat.mod_eq_of_lt hf] at this
  simpa using this
theorem Rw.take {α : Type} {R : List α} {f : Nat} {v : α} {l : List α} (h : Rw R f (v :: l)) (z : α) : Rw (R.set f z) ((f + 1) % R.length) l := by
  have hc := h.c
  simp only [List.length_cons] at hc
  have hf := h.lt (by omega)
  have hp : (f + 1) % R.length < R.length := Nat.mod_lt _ (by omega)
  refine ⟨.inr (by simpa using hp), by simp; omega, fun i hi => ?_⟩
  rw [List.length_set]
  have e1 : ((f + 1) % R.length + i) % R.length = (f + (i + 1)) % R.length := by
    rw [modn hp (by omega), modn hf (by omega), modn hf (by omega)]
    split <;> split <;> (try split) <;> omega
  rw [e1, List.getElem?_set_ne ?_]
  · rw [h.a (i + 1) (by simp; omega)]; simp
  · rw [modn hf (by omega)]
    split <;> omega
theorem Rw.whole {α : Type} {R : List α} {f : Nat} {l : List α} (h : Rw R f l) (hle : f + l.length ≤ R.length) : (R.drop f).take l.length = l := by
  apply List.ext_getElem?
  intro i
  by_cases hi : i < l.length
  · rw [List.getElem?_take_of_lt hi, List.getElem?_drop, ← h.a i hi, Nat.mod_eq_of_lt (by omega)]
  · rw [List.getElem?_eq_none (by simp; omega), List.getElem?_eq_none (by omega)]
theorem Rw.two {α : Type} {R : List α} {f : Nat} {l : List α} (h : Rw R f l) (hlt : R.length < f + l.length) : R.drop f ++ R.take (f + l.length - R.length) = l := by
  have hc := h.c
  have hf : f < R.length := by rcases h.p with e | e <;> omega
  apply List.ext_getElem?
  intro i
  by_cases hi : i < l.length
  · rw [← h.a i hi, modn hf (by omega)]
    split
    · rw [List.getElem?_append_left (by simp; omega), List.getElem?_drop]
    · rw [List.getElem?_append_right (by simp; omega), List.getElem?_take_of_lt (by simp; omega)]
      simp only [List.length_drop]
      congr 1
      omega
  · rw [List.getElem?_eq_none (by simp; omega), List.getElem?_eq_none (by omega)]
theorem Rw.copy {α : Type} {R : List α} {l : List α} (hc : l.length ≤ R.length) (h : R.take l.length = l) : Rw R 0 l := by
  refine ⟨.inl rfl, hc, fun i hi => ?_⟩
  rw [Nat.zero_add, Nat.mod_eq_of_lt (by omega)]
  conv => rhs; rw [← h]
  rw [List.getElem?_take_of_lt hi]
end Go.Proofs.Yticgikbnlpgnkaa
