import Derived.Test.YtmidaeljeoifdaaGreatDoorEee
namespace Go.Proofs.YtmidaeljeoifdaaGreatDoor.Ce
open Go.RowKit Go.Sort
set_option linter.unusedVariables false
set_option linter.unusedSimpArgs false
theorem own_mono {w : World} {base base' : Nat} {e : TypeId} {size : Nat} {v : Value} {n : Nat} {xs : List Value} (h : w.ownsRow base e size v n xs) (hb : base' ≤ base) : w.ownsRow base' e size v n xs :=
 ⟨h.1, h.2.imp id (fun ⟨g, cap, cur, he, h1, h2⟩ => ⟨g, cap, cur, he, Nat.le_trans hb h1, h2⟩)⟩
theorem look_lk {c : Cf} (h : lookE c = 0) : meetB c = true ∧ lkB c = true ∧ endsB c = true := by
 unfold lookE at h
 cases h1 : meetB c with
 | false => rw [h1] at h; simp at h
 | true =>
  cases h2 : lkB c with
  | false => rw [h1, h2] at h; simp at h
  | true =>
   cases h3 : endsB c with
   | false => rw [h1, h2, h3] at h; simp at h
   | true => exact ⟨rfl, rfl, rfl⟩
end Go.Proofs.YtmidaeljeoifdaaGreatDoor.Ce
