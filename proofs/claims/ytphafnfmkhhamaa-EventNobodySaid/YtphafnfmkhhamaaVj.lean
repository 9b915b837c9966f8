import Derived.Test.YtphafnfmkhhamaaVi
namespace Go.Proofs.Ytphafnfmkhhamaa
open Go.RowKit
set_option linter.unusedVariables false
set_option linter.unusedSimpArgs false

/-! ### A table that no call made -/
def Nob (w : World) (v : Value) : Prop := Calls Try.prog 29 #[v] w fun e w' => e = .returned (.bool true) ∧ w = w'
section
variable {w : World} {v : Value}
theorem nOf (h : Nob w v) (t : Int) : Calls Try.prog 27 #[v, I t] w fun e w' => e = .returned (.tuple #[.pointer none, I 3]) ∧ w = w' := by
  have hN : Calls Try.prog 29 #[v] w fun e w' => e = .returned (.bool true) ∧ w = w' := h
  go_enter Try.func27, Try.ntmps27
  go_wp2_with (first | (go_at_call 29; refine hN.mono ?_; rintro e w1 ⟨rfl, rfl⟩))
  go_ret2
  exact ⟨rfl, rfl⟩
theorem nSet (h : Nob w v) (t m : Int) : Calls Try.prog 8 #[v, I t, U m] w fun e w' => e = .returned (.tuple #[.bool false, I 3]) ∧ w = w' := by
  have hO := nOf h t
  go_enter Try.func8, Try.ntmps8
  go_wp2_with (first | (go_at_call 27; refine hO.mono ?_; rintro e w1 ⟨rfl, rfl⟩))
  go_ret2
  exact ⟨rfl, rfl⟩
theorem nClear (h : Nob w v) (t m : Int) : Calls Try.prog 9 #[v, I t, U m] w fun e w' => e = .returned (I 3) ∧ w = w' := by
  have hO := nOf h t
  go_enter Try.func9, Try.ntmps9
  go_wp2_with (first | (go_at_call 27; refine hO.mono ?_; rintro e w1 ⟨rfl, rfl⟩))
  go_ret
  exact ⟨rfl, rfl⟩
theorem nGet (h : Nob w v) (t : Int) : Calls Try.prog 12 #[v, I t] w fun e w' => e = .returned (.tuple #[U 0, I 3]) ∧ w = w' := by
  have hO := nOf h t
  go_enter Try.func12, Try.ntmps12
  go_wp2_with (first | (go_at_call 27; refine hO.mono ?_; rintro e w1 ⟨rfl, rfl⟩))
  go_ret2
  exact ⟨rfl, rfl⟩
theorem nWait (h : Nob w v) (t m : Int) : Calls Try.prog 10 #[v, I t, U m] w fun e w' => e = .returned (.tuple #[.bool false, I 3]) ∧ w = w' := by
  have hO := nOf h t
  go_enter Try.func10, Try.ntmps10
  go_wp2_with (first | (go_at_call 27; refine hO.mono ?_; rintro e w1 ⟨rfl, rfl⟩))
  go_ret2
  exact ⟨rfl, rfl⟩
theorem nWaits (h : Nob w v) (t : Int) : Calls Try.prog 13 #[v, I t] w fun e w' => e = .returned (U 0) ∧ w = w' := by
  have hO := nOf h t
  go_enter Try.func13, Try.ntmps13
  go_wp2_with (first | (go_at_call 27; refine hO.mono ?_; rintro e w1 ⟨rfl, rfl⟩))
  go_ret
  exact ⟨rfl, rfl⟩
theorem nFresh (h : Nob w v) (t : Int) : Calls Try.prog 11 #[v, I t] w fun e w' => e = .returned (I 3) ∧ w = w' := by
  have hO := nOf h t
  go_enter Try.func11, Try.ntmps11
  go_wp2_with (first | (go_at_call 27; refine hO.mono ?_; rintro e w1 ⟨rfl, rfl⟩))
  go_ret
  exact ⟨rfl, rfl⟩
theorem nReset (h : Nob w v) : Calls Try.prog 22 #[v] w fun e w' => e = .returned (I 1) ∧ w = w' := by
  have hN : Calls Try.prog 29 #[v] w fun e w' => e = .returned (.bool true) ∧ w = w' := h
  go_enter Try.func22, Try.ntmps22
  go_wp2_with (first | (go_at_call 29; refine hN.mono ?_; rintro e w1 ⟨rfl, rfl⟩))
  go_ret
  exact ⟨rfl, rfl⟩
theorem nCopy (h : Nob w v) : Calls Try.prog 24 #[v] w fun e w' => e = .returned (.pointer none) ∧ w = w' := by
  have hN : Calls Try.prog 29 #[v] w fun e w' => e = .returned (.bool true) ∧ w = w' := h
  go_enter Try.func24, Try.ntmps24
  go_wp2_with (first | (go_at_call 29; refine hN.mono ?_; rintro e w1 ⟨rfl, rfl⟩))
  go_ret
  exact ⟨rfl, rfl⟩
set_option maxRecDepth 100000 in
set_option maxHeartbeats 4000000 in
theorem nobody_any (h : Nob w v) (t m : Int) : Calls Try.prog 14 #[v, I t, U m] w fun e w' => e = .returned (.bool true) ∧ w = w' := by
  have h1 := nSet h t m
  have h2 := nClear h t m
  have h3 := nGet h t
  have h4 := nWait h t m
  have h5 := nFresh h t
  have h6 := nWaits h t
  have h7 := nReset h
  have h8 := nCopy h
  clear h
  go_enter Try.func14, Try.ntmps14
  go_wp2_with (first
    | (go_at_call 8; refine h1.mono ?_; clear h1; rintro e w1 ⟨rfl, rfl⟩)
    | (go_at_call 9; refine h2.mono ?_; clear h2; rintro e w1 ⟨rfl, rfl⟩)
    | (go_at_call 12; refine h3.mono ?_; clear h3; rintro e w1 ⟨rfl, rfl⟩)
    | (go_at_call 10; refine h4.mono ?_; clear h4; rintro e w1 ⟨rfl, rfl⟩)
    | (go_at_call 11; refine h5.mono ?_; clear h5; rintro e w1 ⟨rfl, rfl⟩)
    | (go_at_call 13; refine h6.mono ?_; clear h6; rintro e w1 ⟨rfl, rfl⟩)
    | (go_at_call 22; refine h7.mono ?_; clear h7; rintro e w1 ⟨rfl, rfl⟩)
    | (go_at_call 24; refine h8.mono ?_; clear h8; rintro e w1 ⟨rfl, rfl⟩))
  go_ret
  exact ⟨rfl, rfl⟩
end
theorem tab_first : (tabA false 0)[0]? = some (.bool false) := by simp only [tabA, tabL, List.getElem?_toArray, List.getElem?_cons_zero]
set_option maxRecDepth 100000 in
set_option maxHeartbeats 4000000 in
theorem nobody_law (w : World) (t m : Int) : Calls Try.prog 4 #[I t, U m] w fun e w' => e = .returned (.bool true) ∧ Below w.heap.size w w' := by
  have h1 := nobody_any (w := w) (v := .pointer none) (none_nil w) t m
  have hb := below_alloc w (.cells (tabA false 0) 46)
  have h2 := nobody_any (w := w.alloc (.cells (tabA false 0) 46)) (v := eP w.heap.size) (none_zero _ _ (by rw [cell_of_row _ _ _ _ _ (0, 0) (heap_alloc_new w _)]; exact tab_first)) t m
  have hz : ∀ w, (zeroValue 46).run Try.prog w = .ok (.agg (tabA false 0)) w := (zero_of_info info46).1
  have hsz : (tabA false 0).size = 1026 := tabA_size _ _
  go_enter Try.func4, Try.ntmps4
  go_wp2_with (first
    | (go_at_call 14; refine h1.mono ?_; clear h1; rintro e w1 ⟨rfl, rfl⟩)
    | (go_at_call 14; refine h2.mono ?_; clear h2; rintro e w1 ⟨rfl, rfl⟩)
    | (go_at_call 7; refine (heads_any _).mono ?_; rintro e w2 ⟨rfl, b2⟩))
  go_ret
  exact ⟨rfl, hb.trans (b2.mono hb.size)⟩
end Go.Proofs.Ytphafnfmkhhamaa
