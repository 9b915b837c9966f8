import Derived.Test.YticgikbnlpgnkaaYk
namespace Go.Proofs.Yticgikbnlpgnkaa
open Go.RowKit
set_option linter.unusedVariables false
set_option linter.unusedSimpArgs false

/-! ### heads -/
section
variable {w : World} {Q : Nat} {X : Nat → Prop}
theorem hd1 (h : QR w Q X [⟨3, 1, 0, []⟩, ⟨1, 2, 0, []⟩]) : Calls Try.prog 10 #[qP Q, I 1, I 7] w fun e w' => e = .returned (I 0) ∧ QR w' Q X [⟨3, 1, 0, []⟩, ⟨1, 2, 1, [7]⟩] ∧ Fz X w w' := rTail_ok h (i := 1) (r := ⟨1, 2, 0, []⟩) rfl (by decide) 7
theorem hd2 (h : QR w Q X [⟨3, 1, 0, []⟩, ⟨1, 2, 1, [7]⟩]) : Calls Try.prog 10 #[qP Q, I 3, I 8] w fun e w' => e = .returned (I 0) ∧ QR w' Q X [⟨3, 1, 1, [8]⟩, ⟨1, 2, 1, [7]⟩] ∧ Fz X w w' := rTail_ok h (i := 0) (r := ⟨3, 1, 0, []⟩) rfl (by decide) 8
theorem hd3 (h : QR w Q X [⟨3, 1, 1, [8]⟩, ⟨1, 2, 1, [7]⟩]) : Calls Try.prog 10 #[qP Q, I 3, I 9] w fun e w' => e = .returned (I 131) ∧ QR w' Q X [⟨3, 1, 1, [8]⟩, ⟨1, 2, 1, [7]⟩] ∧ Fz X w w' := rTail_full h (i := 0) (r := ⟨3, 1, 1, [8]⟩) rfl rfl 9
theorem hd4 (h : QR w Q X [⟨3, 1, 1, [8]⟩, ⟨1, 2, 1, [7]⟩]) : Calls Try.prog 10 #[qP Q, I 2, I 9] w fun e w' => e = .returned (I 130) ∧ w = w' := rTail_no h (fun i r hi => by
  match i, hi with
  | 0, hi => simp at hi; subst hi; simp
  | 1, hi => simp at hi; subst hi; simp
  | n + 2, hi => simp at hi) 9
theorem hd5 (h : QR w Q X [⟨3, 1, 1, [8]⟩, ⟨1, 2, 1, [7]⟩]) : Calls Try.prog 12 #[qP Q] w fun e w' => e = .returned (.tuple #[qV 3 8, I 0]) ∧ QR w' Q X [⟨3, 1, 1, []⟩, ⟨1, 2, 1, [7]⟩] ∧ Fz X w w' := rTake_ok h (i := 0) (r := ⟨3, 1, 1, [8]⟩) rfl rfl (fun j b hj => by omega)
theorem hd6 (h : QR w Q X [⟨3, 1, 1, []⟩, ⟨1, 2, 1, [7]⟩]) : Calls Try.prog 30 #[qP Q] w fun e w' => e = .returned (.tuple #[I 1, .bool true]) ∧ w = w' := rHighest_ok h (i := 1) (r := ⟨1, 2, 1, [7]⟩) rfl (by simp) (fun j b hj hb => by
  obtain rfl : j = 0 := by omega
  simp at hb
  subst hb
  rfl)
theorem hd7 (h : QR w Q X [⟨3, 1, 1, []⟩, ⟨1, 2, 1, [7]⟩]) : Calls Try.prog 16 #[qP Q] w fun e w' => e = .returned (.int .u64 2) ∧ w = w' := rBits h
end
theorem hd0 (w : World) : Calls Try.prog 28 #[.slice (some ⟨w.heap.size, 0, none⟩) 2 2] (w.alloc (.cells #[I 3, I 1, I 1, I 2] 65)) fun e w' => ∃ Q X, e = .returned (.tuple #[qP Q, I 0]) ∧ QR w' Q X [⟨3, 1, 0, []⟩, ⟨1, 2, 0, []⟩] ∧ Fz X w w' ∧ (∀ b, X b → w.heap.size ≤ b) := by
  have hr : RowsAt (w.alloc (.cells #[I 3, I 1, I 1, I 2] 65)) 2 rwP ⟨some ⟨w.heap.size, 0, none⟩, 2, 2⟩ [(3, 1), (1, 2)] := by
    refine ⟨rfl, Nat.le_refl _, (show (2 : Nat) ≤ maxLen by decide), fun j x hj => ⟨w.heap.size, 0, rfl, by simp, fun i hi => ?_⟩⟩
    rw [cell_of_row _ _ _ _ _ (0, 0) (heap_alloc_new w _)]
    have hi2 : i = 0 ∨ i = 1 := by omega
    match j, hj with
    | 0, hj =>
      simp at hj; subst hj
      rcases hi2 with rfl | rfl
      · exact ⟨_, rfl, fun _ => rfl, fun e => by cases e⟩
      · exact ⟨_, rfl, (fun e => by cases e), fun _ => rfl⟩
    | 1, hj =>
      simp at hj; subst hj
      rcases hi2 with rfl | rfl
      · exact ⟨_, rfl, fun _ => rfl, fun e => by cases e⟩
      · exact ⟨_, rfl, (fun e => by cases e), fun _ => rfl⟩
    | n + 2, hj => simp at hj
  refine (rNew _ _ _ hr (by decide)).mono ?_
  rintro e w' ⟨Q, X, rfl, h1, h2, h3⟩
  refine ⟨Q, X, rfl, h1, Fz.of_below ((below_alloc w _).trans (h3.mono (by simp))), fun b hb => ?_⟩
  have := (h2 b hb).1
  simp at this
  omega
set_option maxRecDepth 100000 in
set_option maxHeartbeats 4000000 in
theorem qheads_any (w : World) : Calls Try.prog 9 #[] w fun e w' => e = .returned (.bool true) ∧ Below w.heap.size w w' := by
  have h0 := hd0 w
  go_enter Try.func9, Try.ntmps9
  go_wp2_with (first
    | (go_at_call 28; refine h0.mono ?_; clear h0; rintro e w1 ⟨Q, X, rfl, q1, F1, hX⟩; have t1 := hd1 q1; clear q1)
    | (go_at_call 10; refine t1.mono ?_; clear t1; rintro e w2 ⟨rfl, q2, f2⟩; have F2 := F1.trans f2; clear F1 f2; have t2 := hd2 q2; clear q2)
    | (go_at_call 10; refine t2.mono ?_; clear t2; rintro e w3 ⟨rfl, q3, f3⟩; have F3 := F2.trans f3; clear F2 f3; have t3 := hd3 q3; clear q3)
    | (go_at_call 10; refine t3.mono ?_; clear t3; rintro e w4 ⟨rfl, q4, f4⟩; have F4 := F3.trans f4; clear F3 f4; have t4 := hd4 q4; have t5 := hd5 q4; clear q4)
    | (go_at_call 10; refine t4.mono ?_; clear t4; rintro e w5 ⟨rfl, rfl⟩)
    | (go_at_call 12; refine t5.mono ?_; clear t5; rintro e w6 ⟨rfl, q6, f6⟩; have F6 := F4.trans f6; clear F4 f6; have hst := run_storeCells_new (P := Try.prog) w6 35 #[.int .i64 0, .int .i64 0] #[I 3, I 8] (by kernel_rfl) rfl (by simp [Value.oneCell']); have q7 := q6.below (below_alloc w6 (.cells #[I 3, I 8] 35)); have F7 := F6.trans (Fz.of_below (M := X) (below_alloc w6 (.cells #[I 3, I 8] 35))); clear q6 F6; have t6 := hd6 q7; have t7 := hd7 q7; clear q7)
    | (go_at_call 30; refine t6.mono ?_; clear t6; rintro e w8 ⟨rfl, rfl⟩)
    | (go_at_call 16; refine t7.mono ?_; clear t7; rintro e w9 ⟨rfl, rfl⟩))
  go_ret
  exact ⟨rfl, F7.below (Nat.le_refl _) hX⟩
end Go.Proofs.Yticgikbnlpgnkaa
