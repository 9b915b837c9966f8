import Derived.Test.YtmidaeljeoifdaaGreatDoorEem
namespace Go.Proofs.YtmidaeljeoifdaaGreatDoor.Ce
open Go.RowKit
set_option linter.unusedVariables false
set_option linter.unusedSimpArgs false
theorem fold_keep {α : Type} (f : α → Bool) (g : α → Int) : ∀ (l : List α) (t : Option Int), t ≠ none → l.foldl (fun t x => if f x = true then topAdd t (g x) else t) t ≠ none := by
 intro l
 induction l with
 | nil => intro t h; exact h
 | cons x r ih =>
  intro t h
  rw [List.foldl_cons]
  refine ih _ ?_
  by_cases hf : f x = true
  ·rw [if_pos hf]
   cases t <;> simp [topAdd]
  ·rw [if_neg hf]
   exact h
theorem fold_some {α : Type} (f : α → Bool) (g : α → Int) : ∀ (l : List α) (t : Option Int) (x : α), x ∈ l → f x = true → l.foldl (fun t x => if f x = true then topAdd t (g x) else t) t ≠ none := by
 intro l
 induction l with
 | nil => intro t x hx; cases hx
 | cons y r ih =>
  intro t x hx hf
  rw [List.foldl_cons]
  rcases List.mem_cons.1 hx with rfl | hx
  ·rw [if_pos hf]
   exact fold_keep f g r _ (by cases t <;> simp [topAdd])
  ·exact ih _ x hx hf
theorem fold_ge {α : Type} (g : α → Int) : ∀ (l : List α) (t : Option Int) (q : Int), l.foldl (fun t x => topAdd t (g x)) t = some q → (∀ p, t = some p → p ≤ q) ∧ ∀ x ∈ l, g x ≤ q := by
 intro l
 induction l with
 | nil => intro t q h; exact ⟨fun p hp => by rw [List.foldl_nil, hp] at h; cases h; exact Int.le_refl _, fun x hx => by cases hx⟩
 | cons y r ih =>
  intro t q h
  rw [List.foldl_cons] at h
  obtain ⟨h1, h2⟩ := ih _ q h
  have hy : g y ≤ q ∧ ∀ p, t = some p → p ≤ q := by
   cases t with
   | none => exact ⟨h1 (g y) rfl, fun p hp => by cases hp⟩
   | some a =>
    have := h1 (max (g y) a) rfl
    exact ⟨by omega, fun p hp => by cases hp; omega⟩
  exact ⟨hy.2, fun x hx => by
   rcases List.mem_cons.1 hx with rfl | hx
   ·exact hy.1
   ·exact h2 x hx⟩
theorem fold_top_some {α : Type} (g : α → Int) (l : List α) (x : α) (hx : x ∈ l) : l.foldl (fun t x => topAdd t (g x)) none ≠ none := by
 have := fold_some (fun _ => true) g l none x hx rfl
 simpa using this
theorem prio_le {c : Cf} {x : Tk} (hx : x ∈ c.tasks) : x.prio ≤ schE c := by
 unfold schE schT
 rw [List.take_of_length_le (Nat.le_refl _)]
 cases h : c.tasks.foldl (fun t x => topAdd t x.prio) none with
 | none => exact absurd h (fold_top_some (fun x : Tk => x.prio) c.tasks x hx)
 | some q => exact (fold_ge (fun x : Tk => x.prio) c.tasks none q h).2 x hx
def runF (c : Cf) (l : List Int) (m : Int) : Int := l.foldl (fun m r => if rkind c r == 3 then max m (ceilE c r.toNat) else m) m
def runP (c : Cf) (x : Tk) : Int := runF c x.res (if x.full = true then x.prio else max x.prio (schE c))
end Go.Proofs.YtmidaeljeoifdaaGreatDoor.Ce
