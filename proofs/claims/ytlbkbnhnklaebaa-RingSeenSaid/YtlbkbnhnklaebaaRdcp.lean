import Derived.Test.YtlbkbnhnklaebaaRpy
namespace Go.Proofs.Ytlbkbnhnklaebaa
open Go.RowKit
set_option linter.unusedVariables false
set_option linter.unusedSimpArgs false

/-! ### The document's Copy -/
set_option maxRecDepth 100000 in
set_option maxHeartbeats 4000000 in
theorem dCopy_any {w : World} {D n hi : Nat} {v : Value} {l : List Int} (h : Dg w D n hi v l) (hl : l.length ≤ 65536) : Calls Try.prog 34 #[dP D] w fun e w' => ∃ D', e = .returned (dP D') ∧ ∃ v', Dg w' D' n hi v' l ∧ w.heap.size ≤ D' ∧ (∀ k, v'.ownBlock = some k → w.heap.size ≤ k) ∧ Below w.heap.size w w' := by
  obtain ⟨i0, hi0, hz0, hz1, hz2⟩ := info_parts iinfo
  obtain ⟨c0, c1, c2, c3⟩ := h.cells
  go_enter Try.func34, Try.ntmps34
  go_wp2
  go_region_held_law (fun w' => w'.cell? ⟨D, 0, none⟩ = some (.bool true) ∧ w'.cell? ⟨D, 1, none⟩ = some (I n) ∧ w'.cell? ⟨D, 3, none⟩ = some (I hi))
    (first | exact ⟨c0, c1, c3⟩ | (go_keep; done))
    (fail)
  have b3 : Below w.heap.size w (w.alloc (.cells #[.bool true, I n, .slice none 0 0, I hi] 47)).drew := ((Below.refl _ w).alloc (Nat.le_refl _) _).drew
  have hd0 : Dg (w.alloc (.cells #[.bool true, I n, .slice none 0 0, I hi] 47)).drew w.heap.size n hi (.slice none 0 0) [] := ⟨heap_alloc_new w (.cells #[.bool true, I n, .slice none 0 0, I hi] 47), World.ownsRow_nil _ _ _ _, h.m, h.y⟩
  have hs0 : (w.alloc (.cells #[.bool true, I n, .slice none 0 0, I hi] 47)).drew.heap.size = w.heap.size + 1 := by show (w.heap.push _).size = _; simp
  clear c0 c1 c2 c3
  generalize (w.alloc (.cells #[.bool true, I n, .slice none 0 0, I hi] 47)).drew = W at *
  have hD := h.below b3
  have c2 := hD.cells.2.2.1
  have e2 := hd0.cells.2.2.1
  have ez := hd0.frz
  have HS : Hid (W.heap.size = w.heap.size + 1) := hs0
  have hsz : w.heap.size < W.heap.size := by omega
  have hN := World.ownsRow_nil W W.heap.size 3 1
  clear hs0
  go_wp2
  go_region_law (first
    | (refine step_append_both rfl (.tmp 22) (.tmp 26) 22 rfl W.heap.size 0 3 i0 (.int .i64 0) 8 Try.underlying22 hi0 hz0 hz1 hz2 rfl (.slice none 0 0) v 0 l.length [] (l.map fun x => I x) (by simp [Act.eval, Act.put]) (by simp [Act.eval, Act.put]) hN hD.p (ones l) (by unfold maxLen; omega) (by omega) (Nat.le_refl _) ?_; intro v4 w4 h4 hg4; rw [Nat.zero_add, List.nil_append] at h4; have F4 : Fx [] W w4 := Fx.grown ((Fx.refl [] W).drewN 1) hg4 (fun k e => by cases e); obtain ⟨a4, k4, rfl⟩ := own_sl h4; have e3 := (F4.heap hd0.o (by simp)); have e4 : w4.frozen? ⟨w.heap.size, 2, none⟩ = false := frozen_of_row w4 _ 2 _ _ e3; have e5 : w4.cell? ⟨w.heap.size, 2, none⟩ = some (.slice none 0 0) := (by rw [cell_of_row w4 _ _ _ _ (0, 0) e3]; rfl); clear e3; obtain ⟨hd, fd, fr⟩ := hd0.set (l' := l) (hi := hi) F4 h4; clear hg4 h4))
  all_goals
    go_wp2
    go_ret
    exact ⟨w.heap.size, rfl, _, hd, Nat.le_refl _, fun k e => Nat.le_trans (Nat.le_of_lt hsz) (fr k e), b3.trans (fd.below (by omega) (by simp))⟩
end Go.Proofs.Ytlbkbnhnklaebaa
