import Derived.Test.YticgikbnlpgnkaaYm
namespace Go.Proofs.Yticgikbnlpgnkaa
open Go.RowKit
set_option linter.unusedVariables false
set_option linter.unusedSimpArgs false

/-! ### ReadyNobody -/
set_option maxRecDepth 100000 in
set_option maxHeartbeats 4000000 in
theorem qnobody_o (w : World) (q : Option Addr) (p id : Int) (hN : ∀ W, Below w.heap.size w W → Calls Try.prog 33 #[.pointer q] W fun e w' => e = .returned (.bool true) ∧ W = w') : Calls Try.prog 21 #[.pointer q, I p, I id] w fun e w' => e = .returned (.bool true) ∧ Below w.heap.size w w' := by
  have t1 := qTail_none (hN w (Below.refl _ _)) p id
  have t2 := qHead_none (hN w (Below.refl _ _)) p id
  have t3 := qTake_none hN
  go_enter Try.func21, Try.ntmps21
  go_wp2_with (first
    | (go_at_call 10; refine t1.mono ?_; clear t1; rintro e w9 ⟨rfl, rfl⟩)
    | (go_at_call 13; refine t2.mono ?_; clear t2; rintro e w9 ⟨rfl, rfl⟩)
    | (go_at_call 12; refine t3.mono ?_; clear t3; rintro e w1 ⟨rfl, b1⟩; have hst := run_storeCells_new (P := Try.prog) w1 35 #[.int .i64 0, .int .i64 0] #[I 0, I 0] (by kernel_rfl) rfl (by simp [Value.oneCell']); have b2 := b1.alloc b1.size (.cells #[I 0, I 0] 35); have t4 := qHighest_none (hN _ b2); have t5 := qall_none (w := w1.alloc (.cells #[I 0, I 0] 35)) (fun W hb => hN W (b2.trans (hb.mono b2.size))))
    | (go_at_call 30; refine t4.mono ?_; clear t4; rintro e w9 ⟨rfl, rfl⟩)
    | (go_at_call 11; refine t5.mono ?_; clear t5; rintro e w3 ⟨v, rfl, ho, b3⟩; obtain ⟨va, vc, rfl⟩ := own_sl2 ho; have y0 : w3.cell? ⟨w1.heap.size, 0, none⟩ = some (I 0) := (b3.cell (p := ⟨w1.heap.size, 0, none⟩) (by simp)).trans (by rw [cell_of_row _ _ _ _ _ (0, 0) (heap_alloc_new w1 _)]; rfl); have y1 : w3.cell? ⟨w1.heap.size, 1, none⟩ = some (I 0) := (b3.cell (p := ⟨w1.heap.size, 1, none⟩) (by simp)).trans (by rw [cell_of_row _ _ _ _ _ (0, 0) (heap_alloc_new w1 _)]; rfl); have b4 := b2.trans (b3.mono b2.size); clear ho hst b3; have t6 := qBits_none (hN _ b4); have t7 := qRing_none (hN _ b4) p)
    | (go_at_call 16; refine t6.mono ?_; clear t6; rintro e w9 ⟨rfl, rfl⟩)
    | (go_at_call 43; refine t7.mono ?_; clear t7; rintro e w5 ⟨v, rfl, ho, b5⟩; obtain ⟨ua, uc, rfl⟩ := own_sl2 ho; have b6 := b4.trans (b5.mono b4.size); clear ho y0 y1 b5; have t8 := qLen_none (hN _ b6); have t9 := qHigh_none (hN _ b6) p; have t10 := qClear_none (hN _ b6); have t11 := qCopy_none (hN _ b6))
    | (go_at_call 15; refine t8.mono ?_; clear t8; rintro e w9 ⟨rfl, rfl⟩)
    | (go_at_call 44; refine t9.mono ?_; clear t9; rintro e w9 ⟨rfl, rfl⟩)
    | (go_at_call 24; refine t10.mono ?_; clear t10; rintro e w9 ⟨rfl, rfl⟩)
    | (go_at_call 26; refine t11.mono ?_; clear t11; rintro e w9 ⟨rfl, rfl⟩))
  go_ret
  exact ⟨rfl, b6⟩
set_option maxRecDepth 100000 in
set_option maxHeartbeats 4000000 in
theorem qnobodyL_any (w : World) (p id : Int) : Calls Try.prog 5 #[I p, I id] w fun e w' => e = .returned (.bool true) ∧ Below w.heap.size w w' := by
  have t1 := qnobody_o w none p id (fun W _ => qnone_nil W)
  have HZ : ∀ (W : World) (W' : World), Below W.heap.size (W.alloc (.cells Try.zeroCells56 56)) W' → True := fun _ _ _ => trivial
  have t2 : ∀ W : World, Calls Try.prog 21 #[qP W.heap.size, I p, I id] (W.alloc (.cells Try.zeroCells56 56)) fun e w' => e = .returned (.bool true) ∧ Below W.heap.size W w' := fun W => by
    refine (qnobody_o _ _ p id (fun W' hb => qnone_zero W' W.heap.size ?_)).mono ?_
    · rw [hb.cell (p := ⟨W.heap.size, 0, none⟩) (by simp), zc, cell_of_row _ _ _ _ _ (0, 0) (heap_alloc_new W _)]
      rfl
    · rintro e w' ⟨rfl, b⟩
      exact ⟨rfl, (below_alloc W _).trans (b.mono (by simp))⟩
  clear HZ
  go_enter Try.func5, Try.ntmps5
  go_wp2_with (first
    | (go_at_call 21; refine t1.mono ?_; clear t1; rintro e w1 ⟨rfl, b1⟩)
    | (go_at_call 21; refine (t2 w1).mono ?_; clear t2; rintro e w2 ⟨rfl, b2⟩)
    | (go_at_call 9; refine (qheads_any _).mono ?_; rintro e w3 ⟨rfl, b3⟩))
  go_ret
  exact ⟨rfl, (b1.trans (b2.mono b1.size)).trans (b3.mono (b1.trans (b2.mono b1.size)).size)⟩
end Go.Proofs.Yticgikbnlpgnkaa
