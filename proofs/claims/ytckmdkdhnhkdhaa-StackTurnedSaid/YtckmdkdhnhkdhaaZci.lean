import Derived.Test.YtckmdkdhnhkdhaaZba
namespace Go.Proofs.Ytckmdkdhnhkdhaa
open Go.RowKit
set_option linter.unusedVariables false
set_option linter.unusedSimpArgs false

/-! ### Stacks of int: none, Len, Depth, High, New, Push -/
abbrev iSk (w : World) (B g n hi : Nat) (R l : List Value) : Prop := Sk w 62 3 B g n hi R l
abbrev iP (B : Nat) : Value := .pointer (some ⟨B, 0, none⟩)
section
variable {w : World} {B g n hi : Nat} {R l : List Value}
theorem inone_any (h : iSk w B g n hi R l) : Calls Try.prog 34 #[iP B] w fun e w' => e = .returned (.bool false) ∧ w = w' := by
  obtain ⟨c0, -, -, -⟩ := h.cells
  go_enter Try.func34, Try.ntmps34
  go_wp2
  go_ret
  exact ⟨rfl, rfl⟩
theorem inone_nil (w : World) : Calls Try.prog 34 #[.pointer none] w fun e w' => e = .returned (.bool true) ∧ w = w' := by
  go_enter Try.func34, Try.ntmps34
  go_wp2
  go_ret
  exact ⟨rfl, rfl⟩
theorem inone_zero (w : World) (B : Nat) (c0 : w.cell? ⟨B, 0, none⟩ = some (.bool false)) : Calls Try.prog 34 #[iP B] w fun e w' => e = .returned (.bool true) ∧ w = w' := by
  go_enter Try.func34, Try.ntmps34
  go_wp2
  go_ret
  exact ⟨rfl, rfl⟩
theorem iLen_any (h : iSk w B g n hi R l) : Calls Try.prog 13 #[iP B] w fun e w' => e = .returned (I l.length) ∧ w = w' := by
  obtain ⟨-, c1, c3, -⟩ := h.cells
  go_enter Try.func13, Try.ntmps13
  go_wp2_with (go_at_call 34; refine (inone_any h).mono ?_; rintro e w1 ⟨rfl, rfl⟩)
  go_ret
  exact ⟨rfl, rfl⟩
theorem iDepth_any (h : iSk w B g n hi R l) : Calls Try.prog 29 #[iP B] w fun e w' => e = .returned (I n) ∧ w = w' := by
  obtain ⟨-, c1, c3, -⟩ := h.cells
  go_enter Try.func29, Try.ntmps29
  go_wp2_with (go_at_call 34; refine (inone_any h).mono ?_; rintro e w1 ⟨rfl, rfl⟩)
  go_ret
  exact ⟨rfl, rfl⟩
theorem iHigh_any (h : iSk w B g n hi R l) : Calls Try.prog 15 #[iP B] w fun e w' => e = .returned (I hi) ∧ w = w' := by
  obtain ⟨-, c1, c3, c4⟩ := h.cells
  go_enter Try.func15, Try.ntmps15
  go_wp2_with (go_at_call 34; refine (inone_any h).mono ?_; rintro e w1 ⟨rfl, rfl⟩)
  go_ret
  exact ⟨rfl, rfl⟩
end
/-- The deferred closure: how high it became. -/
theorem ipush1_any (w : World) (b B c hi : Nat) (sl : Value) (hc : c ≤ 65536) (hh : hi ≤ 65536) (cb : w.cell? ⟨b, 0, none⟩ = some (iP B)) (h : w.heap[B]? = some (.cells #[.bool true, sl, I c, I hi] 62)) (u : FrameMode) :
    CallsD Try.prog 35 #[.pointer (some ⟨b, 0, none⟩)] u w fun e u' w' => u' = u ∧ (e = .returned (.tuple #[]) ∧ w'.heap[B]? = some (.cells #[.bool true, sl, I c, I (max hi c : Nat)] 62) ∧ Fx [B] w w') := by
  have c3 : w.cell? ⟨B, 2, none⟩ = some (I c) := by rw [cell_of_row w B _ _ _ (0, 0) h]; rfl
  have c4 : w.cell? ⟨B, 3, none⟩ = some (I hi) := by rw [cell_of_row w B _ _ _ (0, 0) h]; rfl
  have fz : ∀ j, w.frozen? ⟨B, j, none⟩ = false := fun j => frozen_of_row w B j _ _ h
  have h9 : ∀ x : Int, (w.setCell ⟨B, 3, none⟩ (I x)).heap[B]? = some (.cells #[.bool true, sl, I c, I x] 62) := fun x => heap_setCell_same _ B 3 _ _ (I x) h
  have F9 : ∀ x : Int, Fx [B] w (w.setCell ⟨B, 3, none⟩ (I x)) := fun x => (Fx.refl _ _).set (.inl (by simp)) _ _
  by_cases hx : hi < c
  · have hM : Hid (((max hi c : Nat) : Int) = (c : Int)) := by show _ = _; omega
    have h1 : ¬ ((c : Int) ≤ hi) := by omega
    have h2 : (hi : Int) < (c : Int) := by omega
    go_enter_d Try.func35, Try.ntmps35
    go_wp2
    go_region
    all_goals
      go_wp2
      refine bodyPost_end (v := .tuple #[]) (by simp [results, Try.results35, go_sem]) rfl ?_
      rw [hM.out]
      exact ⟨rfl, h9 _, (F9 _).drewN 1⟩
  · have hM : Hid (((max hi c : Nat) : Int) = hi) := by show _ = _; omega
    have h1 : ((c : Int) ≤ hi) := by omega
    have h2 : ¬ (hi : Int) < (c : Int) := by omega
    go_enter_d Try.func35, Try.ntmps35
    go_wp2
    go_region
    all_goals
      go_wp2
      refine bodyPost_end (v := .tuple #[]) (by simp [results, Try.results35, go_sem]) rfl ?_
      rw [hM.out]
      exact ⟨rfl, h9 _, (F9 _).drewN 1⟩
end Go.Proofs.Ytckmdkdhnhkdhaa
