import Derived.Test.YtpoekphebmonnaaUp
import Derived.Deep.CutBlock
import Derived.Deep.CutRange
namespace Go.Proofs.Ytpoekphebmonnaa
open Go.RowKit Go.Shelf Go.Sort
set_option linter.unusedVariables false
set_option linter.unusedSimpArgs false

/-! ### ClockExact -/
abbrev ctrO (s : ByteArray) (mx bs mn : Nat) : Obj := .cells #[.string s, U mx, U bs, U mn] 30
theorem ctr_cells (W : World) (s : ByteArray) (mx bs mn : Nat) (Z : World) (hZ : Below (W.alloc (ctrO s mx bs mn)).heap.size (W.alloc (ctrO s mx bs mn)) Z) : Z.cell? ⟨W.heap.size, 1, none⟩ = some (U mx) ∧ Z.cell? ⟨W.heap.size, 3, none⟩ = some (U mn) := by
  have hq := (hZ.block W.heap.size (by simp)).trans (heap_alloc_new W (ctrO s mx bs mn))
  exact ⟨by rw [cell_of_row _ _ _ _ _ (0, 0) hq]; rfl, by rw [cell_of_row _ _ _ _ _ (0, 0) hq]; rfl⟩
set_option maxHeartbeats 8000000 in
set_option maxRecDepth 100000 in
theorem exact_no (W : World) (s : ByteArray) (mx bs mn : Nat) (ahead : Nat) (ab : Bool) (v cy : Nat) (ss : Sl) (ticks : Nat) (hn : newB mx mn (3 : Nat) = false) : Calls Try.prog 4 #[.agg #[.string s, U mx, U bs, U mn], .int .u16 ahead, .bool ab, U v, U cy, .slice ss.a ss.n ss.c, .int .u16 ticks] W fun e w' => e = .returned (.bool true) ∧ Below W.heap.size W w' := by
  have hN : Calls Try.prog 13 #[.agg #[.string s, U mx, U bs, U mn], I 3] (W.alloc (ctrO s mx bs mn)) fun e w' => e = .returned (.tuple #[.pointer none, I 160]) ∧ Below (W.alloc (ctrO s mx bs mn)).heap.size (W.alloc (ctrO s mx bs mn)) w' := New_no _ s mx bs mn (3 : Nat) hn
  have HC : Hid (∀ Z, Below (W.alloc (ctrO s mx bs mn)).heap.size (W.alloc (ctrO s mx bs mn)) Z → _) := ctr_cells W s mx bs mn
  have HB : Hid (Below W.heap.size W (W.alloc (ctrO s mx bs mn))) := below_alloc _ _
  have hc : ¬ 1 ≤ mx ∨ (1 ≤ mx ∧ ¬ mx ≤ 2147483647) ∨ (1 ≤ mx ∧ mx ≤ 2147483647 ∧ ¬ 1 ≤ mn) ∨ (1 ≤ mx ∧ mx ≤ 2147483647 ∧ 1 ≤ mn ∧ ¬ mn ≤ mx) := by
    unfold newB mayC at hn
    simp at hn
    omega
  clear hn
  rcases hc with h1 | ⟨h1, h2⟩ | ⟨h1, h2, h3⟩ | ⟨h1, h2, h3, h4⟩
  · have d1 : decide ((mx : Int) < 1) = true := by simp; omega
    go_enter Try.func4, Try.ntmps4
    go_wp2_with (first
      | (go_at_call 13; refine hN.mono ?_; clear hN; rintro e w1 ⟨rfl, b1⟩; obtain ⟨c1, c3⟩ := HC.out w1 b1)
      | (go_at_call 14; refine (num_any _ _).mono ?_; rintro e w9 ⟨rfl, rfl⟩)
      | (go_at_call 9; refine (alive_any _).mono ?_; rintro e w7 ⟨rfl, b7⟩))
    go_ret
    have b2 := HB.out.trans (b1.mono HB.out.size)
    exact ⟨rfl, b2.trans (b7.mono b2.size)⟩
  · have d1 : decide ((mx : Int) < 1) = false := by simp; omega
    have d2 : decide ((2147483647 : Int) < mx) = true := by simp; omega
    go_enter Try.func4, Try.ntmps4
    go_wp2_with (first
      | (go_at_call 13; refine hN.mono ?_; clear hN; rintro e w1 ⟨rfl, b1⟩; obtain ⟨c1, c3⟩ := HC.out w1 b1)
      | (go_at_call 14; refine (num_any _ _).mono ?_; rintro e w9 ⟨rfl, rfl⟩)
      | (go_at_call 9; refine (alive_any _).mono ?_; rintro e w7 ⟨rfl, b7⟩))
    go_ret
    have b2 := HB.out.trans (b1.mono HB.out.size)
    exact ⟨rfl, b2.trans (b7.mono b2.size)⟩
  · have d1 : decide ((mx : Int) < 1) = false := by simp; omega
    have d2 : decide ((2147483647 : Int) < mx) = false := by simp; omega
    have d3 : decide ((mn : Int) < 1) = true := by simp; omega
    go_enter Try.func4, Try.ntmps4
    go_wp2_with (first
      | (go_at_call 13; refine hN.mono ?_; clear hN; rintro e w1 ⟨rfl, b1⟩; obtain ⟨c1, c3⟩ := HC.out w1 b1)
      | (go_at_call 14; refine (num_any _ _).mono ?_; rintro e w9 ⟨rfl, rfl⟩)
      | (go_at_call 9; refine (alive_any _).mono ?_; rintro e w7 ⟨rfl, b7⟩))
    go_ret
    have b2 := HB.out.trans (b1.mono HB.out.size)
    exact ⟨rfl, b2.trans (b7.mono b2.size)⟩
  · have d1 : decide ((mx : Int) < 1) = false := by simp; omega
    have d2 : decide ((2147483647 : Int) < mx) = false := by simp; omega
    have d3 : decide ((mn : Int) < 1) = false := by simp; omega
    have d4 : (mx : Int) < mn := by omega
    go_enter Try.func4, Try.ntmps4
    go_wp2_with (first
      | (go_at_call 13; refine hN.mono ?_; clear hN; rintro e w1 ⟨rfl, b1⟩; obtain ⟨c1, c3⟩ := HC.out w1 b1)
      | (go_at_call 14; refine (num_any _ _).mono ?_; rintro e w9 ⟨rfl, rfl⟩)
      | (go_at_call 9; refine (alive_any _).mono ?_; rintro e w7 ⟨rfl, b7⟩))
    go_ret
    have b2 := HB.out.trans (b1.mono HB.out.size)
    exact ⟨rfl, b2.trans (b7.mono b2.size)⟩
end Go.Proofs.Ytpoekphebmonnaa
