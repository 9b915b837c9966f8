import Derived.Test.YtlbgppijeoonjaaGreatDoorPtX
namespace Go.Proofs.YtlbgppijeoonjaaGreatDoor
open Go.RowKit
set_option linter.unusedVariables false

/-! ### Lists: where a path leads -/
theorem mem_pathsL_at (ahead : List Int) (p : List Int) (l : List At) : ∀ i, p ∈ pathsL ahead i l → ∃ j a, l[j]? = some a ∧ p ∈ pathA ahead (i + j) a := by
  induction l with
  | nil => intro i h; rw [pathsL] at h; cases h
  | cons x l ih =>
    intro i h
    rw [pathsL, List.mem_append] at h
    rcases h with h | h
    · exact ⟨0, x, rfl, h⟩
    · obtain ⟨j, a, h1, h2⟩ := ih (i + 1) h
      exact ⟨j + 1, a, h1, by rw [show i + (j + 1) = i + 1 + j by omega]; exact h2⟩
theorem pathA_eq (ahead : List Int) (i : Nat) (a : At) : pathA ahead i a = (ahead ++ [(i : Int)]) :: pathsL (ahead ++ [(i : Int)]) 0 a.params := by
  obtain ⟨name, o, ln, c, v, br, ps, nd, nt⟩ := a
  rw [pathA]
  rfl
theorem mem_paths_walk (n : Nat) : ∀ (ahead : List Int) (l : List At) (p : List Int), (pathsL ahead 0 l).length ≤ n → p ∈ pathsL ahead 0 l → ∃ (q : List Nat) (a : At), p = ahead ++ q.map (fun (i : Nat) => (i : Int)) ∧ WalkP l q a := by
  induction n with
  | zero => intro ahead l p hn hp; rw [List.eq_nil_of_length_eq_zero (Nat.le_zero.1 hn)] at hp; cases hp
  | succ n ih =>
    intro ahead l p hn hp
    obtain ⟨j, a, hj, hm⟩ := mem_pathsL_at ahead p l 0 hp
    rw [Nat.zero_add, pathA_eq] at hm
    rcases List.mem_cons.1 hm with rfl | hm
    · exact ⟨[j], a, rfl, .one hj⟩
    · have := pathsL_par ahead l j a hj
      obtain ⟨q, a', rfl, hw⟩ := ih _ a.params p (by omega) hm
      refine ⟨j :: q, a', by simp, ?_⟩
      cases q with
      | nil => cases hw
      | cons i is => exact .more hj hw
theorem mem_pathsO_at (p : List Int) (l : List Ob) : ∀ i, p ∈ pathsO i l → ∃ j o, l[j]? = some o ∧ p ∈ pathsL [((i + j : Nat) : Int)] 0 o.attrs := by
  induction l with
  | nil => intro i h; rw [pathsO] at h; cases h
  | cons x l ih =>
    intro i h
    rw [pathsO, List.mem_append] at h
    rcases h with h | h
    · exact ⟨0, x, rfl, h⟩
    · obtain ⟨j, a, h1, h2⟩ := ih (i + 1) h
      exact ⟨j + 1, a, h1, by rw [show i + (j + 1) = i + 1 + j by omega]; exact h2⟩
/-- Each of the document's paths leads to an attribute. -/
theorem mem_pathsO_walk {l : List Ob} {p : List Int} (h : p ∈ pathsO 0 l) : ∃ (i : Nat) (q : List Nat) (o : Ob) (a : At), p = (i : Int) :: q.map (fun (k : Nat) => (k : Int)) ∧ l[i]? = some o ∧ WalkP o.attrs q a := by
  obtain ⟨j, o, hj, hm⟩ := mem_pathsO_at p l 0 h
  rw [Nat.zero_add] at hm
  obtain ⟨q, a, e, hw⟩ := mem_paths_walk _ _ _ _ (Nat.le_refl _) hm
  exact ⟨j, q, o, a, by rw [e]; rfl, hj, hw⟩
theorem walkP_pos {l : List At} {q : List Nat} {a : At} (h : WalkP l q a) : 1 ≤ q.length := by cases h <;> simp
theorem walkP_len {l : List At} {q : List Nat} {a : At} (h : WalkP l q a) : ∀ ahead : List Int, q.length ≤ (pathsL ahead 0 l).length := by
  induction h with
  | one h =>
    intro ahead
    have := pathsL_par ahead _ _ _ h
    simp
    omega
  | @more _ i _ _ _ _ h hw ih =>
    intro ahead
    have := pathsL_par ahead _ _ _ h
    have := ih (ahead ++ [(i : Int)])
    rw [List.length_cons]
    omega
theorem pathsL_pre (ahead : List Int) (l : List At) (j : Nat) : pathsL ahead 0 (l.take j) <+: pathsL ahead 0 l := by
  refine ⟨pathsL ahead (l.take j).length (l.drop j), ?_⟩
  conv => rhs; rw [← List.take_append_drop j l, pathsL_app, Nat.zero_add]
theorem pathsO_pre (l : List Ob) (j : Nat) : pathsO 0 (l.take j) <+: pathsO 0 l := by
  refine ⟨pathsO (l.take j).length (l.drop j), ?_⟩
  conv => rhs; rw [← List.take_append_drop j l, pathsO_app, Nat.zero_add]
theorem pre_app {α : Type} {a b c : List α} (h : a <+: b) : c ++ a <+: c ++ b := by
  obtain ⟨t, rfl⟩ := h
  exact ⟨t, by rw [List.append_assoc]⟩
end Go.Proofs.YtlbgppijeoonjaaGreatDoor
