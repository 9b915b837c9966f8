import Derived.Test.YtphafnfmkhhamaaVk
namespace Go.Proofs.Ytphafnfmkhhamaa
open Go.RowKit
set_option linter.unusedVariables false
set_option linter.unusedSimpArgs false

/-! ### EventHistory -/
structure HiI (W wr : World) (B : Nat) (on : Int) (ws : Bool) (wn : Int) : Prop where
  e : ∃ f, Ev wr B 2 f ∧ f 1 = ⟨true, ws, on, if ws then wn else 0⟩
  z : ws = true → andU on wn = 0
  b : Below W.heap.size W wr
  k : W.heap.size ≤ B
section
variable {W wr w' : World} {B : Nat} {on wn : Int} {ws : Bool}
theorem HiI.below (h : HiI W wr B on ws wn) (hb : Below wr.heap.size wr w') : HiI W w' B on ws wn := by
  obtain ⟨f, h1, h2⟩ := h.e
  exact ⟨⟨f, h1.below hb, h2⟩, h.z, h.b.trans (hb.mono h.b.size), h.k⟩
theorem HiI.fx (h : HiI W wr B on ws wn) (hf : Fx [B] wr w') : Below W.heap.size W w' := h.b.trans (hf.below h.b.size (by have := h.k; simp; omega))
theorem hSet (h : HiI W wr B on ws wn) (m : Int) : Calls Try.prog 8 #[eP B, I 1, U m] wr fun e w' => e = .returned (.tuple #[.bool (ws && decide (andU (orU on m) wn ≠ 0)), I 0]) ∧ HiI W w' B (orU on m) (ws && !(ws && decide (andU (orU on m) wn ≠ 0))) wn ∧ Fx [B] wr w' := by
  obtain ⟨f, h1, h2⟩ := h.e
  have R := Set_ok h1 1 (by decide) (by rw [h2]) m
  rw [h2] at R
  refine R.mono ?_
  rintro e w' ⟨rfl, E, F⟩
  have hd : dueE ⟨true, ws, on, if ws = true then wn else 0⟩ m = (ws && decide (andU (orU on m) wn ≠ 0)) := by cases ws <;> simp [dueE]
  refine ⟨by rw [hd], ⟨⟨_, E, ?_⟩, ?_, h.fx F, h.k⟩, F⟩
  · rw [upf_same, setE, hd]
    cases ws with
    | false => simp
    | true =>
      by_cases hz : andU (orU on m) wn = 0
      · simp [hz]
      · simp [hz]
  · cases ws with
    | false => simp
    | true =>
      by_cases hz : andU (orU on m) wn = 0
      · simp [hz]
      · simp [hz]
theorem hClear (h : HiI W wr B on ws wn) (m : Int) : Calls Try.prog 9 #[eP B, I 1, U m] wr fun e w' => e = .returned (I 0) ∧ HiI W w' B (anU on m) ws wn ∧ Fx [B] wr w' := by
  obtain ⟨f, h1, h2⟩ := h.e
  have R := Clear_ok h1 1 (by decide) (by rw [h2]) m
  rw [h2] at R
  refine R.mono ?_
  rintro e w' ⟨rfl, E, F⟩
  exact ⟨rfl, ⟨⟨_, E, by rw [upf_same]⟩, fun hs => and_an m (h.z hs), h.fx F, h.k⟩, F⟩
theorem hFresh (h : HiI W wr B on ws wn) : Calls Try.prog 11 #[eP B, I 1] wr fun e w' => e = .returned (I 0) ∧ HiI W w' B 0 false wn ∧ Fx [B] wr w' := by
  obtain ⟨f, h1, h2⟩ := h.e
  refine (Fresh_ok h1 1 (by decide) (by rw [h2])).mono ?_
  rintro e w' ⟨rfl, E, F⟩
  exact ⟨rfl, ⟨⟨_, E, by rw [upf_same]; rfl⟩, fun hs => (by cases hs), h.fx F, h.k⟩, F⟩
theorem hWaitS (h : HiI W wr B on true wn) (m : Int) : Calls Try.prog 10 #[eP B, I 1, U m] wr fun e w' => e = .returned (.tuple #[.bool false, I 7]) ∧ wr = w' := by
  obtain ⟨f, h1, h2⟩ := h.e
  refine (Wait_s h1 1 (by decide) (by rw [h2]) m (by rw [h2])).mono ?_
  rintro e w' ⟨rfl, rfl⟩
  exact ⟨rfl, rfl⟩
theorem hWaitF (h : HiI W wr B on false wn) (m : Int) : Calls Try.prog 10 #[eP B, I 1, U m] wr fun e w' => e = .returned (.tuple #[.bool (decide (andU on m = 0)), I 0]) ∧ HiI W w' B on (decide (andU on m = 0)) m ∧ Fx [B] wr w' := by
  obtain ⟨f, h1, h2⟩ := h.e
  have R := Wait_ok h1 1 (by decide) (by rw [h2]) m
  rw [h2] at R
  refine R.mono ?_
  rintro e w' ⟨rfl, E, F⟩
  refine ⟨by simp [waitB, waitI], ⟨⟨_, E, ?_⟩, fun hs => by simpa using hs, h.fx F, h.k⟩, F⟩
  rw [upf_same, waitE]
  by_cases hz : andU on m = 0
  · simp [hz]
  · simp [hz]
theorem hGet (h : HiI W wr B on ws wn) : Calls Try.prog 12 #[eP B, I 1] wr fun e w' => e = .returned (.tuple #[U on, I 0]) ∧ wr = w' := by
  obtain ⟨f, h1, h2⟩ := h.e
  have R := Get_ok h1 1 (by decide) (by rw [h2])
  rw [h2] at R
  exact R
theorem hWaits (h : HiI W wr B on ws wn) : Calls Try.prog 13 #[eP B, I 1] wr fun e w' => e = .returned (U (if ws then wn else 0)) ∧ wr = w' := by
  obtain ⟨f, h1, h2⟩ := h.e
  have R := Waits_ok h1 1 (by decide) (by rw [h2])
  rw [h2] at R
  exact R
theorem hWaits0 (h : HiI W wr B on false wn) : Calls Try.prog 13 #[eP B, I 1] wr fun e w' => e = .returned (U 0) ∧ wr = w' := hWaits h
theorem hWaits1 (h : HiI W wr B on true wn) : Calls Try.prog 13 #[eP B, I 1] wr fun e w' => e = .returned (U wn) ∧ wr = w' := hWaits h
theorem HiI.q (h : HiI W wr B on true wn) : bits .and .u32 wn on = 0 := by have := h.z rfl; rw [andU_comm] at this; exact this
end
end Go.Proofs.Ytphafnfmkhhamaa
