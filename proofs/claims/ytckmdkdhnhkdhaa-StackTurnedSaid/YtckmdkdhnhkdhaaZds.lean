import Derived.Test.YtckmdkdhnhkdhaaZcs
namespace Go.Proofs.Ytckmdkdhnhkdhaa
open Go.RowKit
set_option linter.unusedVariables false
set_option linter.unusedSimpArgs false

/-! ### Stacks of string: New, Push -/
theorem sinfo : (Try.prog.info? 9).map (fun i => (i.zero, i.size, i.bytes)) = some (some (Value.string ⟨#[]⟩), 1, 16) := by kernel_rfl
theorem smade (n : Nat) : madeCells #[(Value.string ⟨#[]⟩)] (n * 1) = (List.replicate n (Value.string ⟨#[]⟩)).toArray := by
  rw [Nat.mul_one, ← toList_madeCells_one]
theorem sNew_ok (w : World) (n : Nat) (hn : n ≤ 1024) : Calls Try.prog 38 #[I n] w fun e w' => e = .returned (.tuple #[sP (w.heap.size + 1), I 0]) ∧ sSk w' (w.heap.size + 1) w.heap.size n 0 (List.replicate n (Value.string ⟨#[]⟩)) [] ∧ Below w.heap.size w w' := by
  obtain ⟨i0, hi, hz0, hz1, hz2⟩ := info_parts sinfo
  have hmk := run_make (P := Try.prog) w 93 9 i0 (Value.string ⟨#[]⟩) Try.underlying93 hi hz0 .i64 .i64 (n : Int) (n : Int) (by omega) (Int.le_refl _) (by rw [hz2]; omega) (by omega)
  rw [hz1, Int.toNat_natCast, show (Value.cells (Value.string ⟨#[]⟩)) = #[(Value.string ⟨#[]⟩)] from rfl, smade] at hmk
  have h1 : ¬ (n : Int) < 0 := by omega
  have h2 : ¬ (1024 : Int) < n := by omega
  clear hi hz0 hz1 hz2
  go_enter Try.func38, Try.ntmps38
  go_wp2
  go_ret2
  have hg := heap_alloc_new w (.cells (List.replicate n (Value.string ⟨#[]⟩)).toArray 9)
  refine ⟨rfl, ⟨?_, heap_over _ _ hg, by simp, hn, by simp, by simp, by omega, fun x hx => by rw [List.eq_of_mem_replicate hx]; rfl⟩, (below_alloc w _).alloc (by simp) _⟩
  have hb := heap_alloc_new (w.alloc (.cells (List.replicate n (Value.string ⟨#[]⟩)).toArray 9)) (.cells #[.bool true, .slice (some ⟨w.heap.size, 0, none⟩) n n, I 0, I 0] 95)
  rw [World.size_alloc] at hb
  exact hb
theorem sNew_no (w : World) (n : Int) (hn : n < 0 ∨ 1024 < n) : Calls Try.prog 38 #[I n] w fun e w' => e = .returned (.tuple #[.pointer none, I 140]) ∧ w = w' := by
  rcases hn with hn | hn
  · go_enter Try.func38, Try.ntmps38
    go_wp2
    go_ret2
    exact ⟨rfl, rfl⟩
  · have h1 : ¬ n < 0 := by omega
    go_enter Try.func38, Try.ntmps38
    go_wp2
    go_ret2
    exact ⟨rfl, rfl⟩
section
variable {w : World} {B g n hi : Nat} {R l : List Value}
theorem sPush_full (h : sSk w B g n hi R l) (hc : l.length = n) (x : ByteArray) : Calls Try.prog 39 #[sP B, (Value.string x)] w fun e w' => e = .returned (I 141) ∧ Below w.heap.size w w' := by
  have hb := below_alloc w (.cells #[sP B] 78)
  have h1 := h.below hb
  have hN := snone_any h1
  obtain ⟨-, c1, c2, -⟩ := h1.cells
  rw [hc] at c2
  have cb : (w.alloc (.cells #[sP B] 78)).cell? ⟨w.heap.size, 0, none⟩ = some (sP B) := by rw [cell_of_row _ _ _ _ _ (0, 0) (heap_alloc_new w _)]; rfl
  clear hc h h1
  go_enter_defers Try.func39, Try.ntmps39
  go_wp2_with (first | (go_at_call 55; refine hN.mono ?_; clear hN; rintro e w1 ⟨rfl, rfl⟩))
  go_quiet (fail)
  go_wp2
  exact ⟨_, results_tmp rfl _ _ _, rfl, below_drewN _ hb⟩
set_option maxHeartbeats 2000000 in
theorem sPush_ok (h : sSk w B g n hi R l) (hc : l.length < n) (x : ByteArray) : Calls Try.prog 39 #[sP B, (Value.string x)] w fun e w' => e = .returned (I 0) ∧ sSk w' B g n (max hi (l.length + 1)) (R.set l.length (Value.string x)) (l ++ [(Value.string x)]) ∧ Fx [B, g] w w' := by
  have hmf : ∀ (fn : Fn) (first cap : Array Value) (w : World), (Instr.makeFunc fn first cap).run Try.prog w = .ok (.func fn first cap) w := fun _ _ _ _ => rfl
  have hb := below_alloc w (.cells #[sP B] 78)
  have h1 := h.below hb
  have hN := snone_any h1
  obtain ⟨-, c1, c2, -⟩ := h1.cells
  have cb : (w.alloc (.cells #[sP B] 78)).cell? ⟨w.heap.size, 0, none⟩ = some (sP B) := by rw [cell_of_row _ _ _ _ _ (0, 0) (heap_alloc_new w _)]; rfl
  have hne : ¬ ((l.length : Int) = n) := by omega
  have hlt := h.lts
  have hm := h.m
  clear h
  go_enter_defers Try.func39, Try.ntmps39
  refine wp_mono (Q := postD _ _ _) ?_ post_d
  go_wp2_with (first | (go_at_call 55; refine hN.mono ?_; clear hN; rintro e w1 ⟨rfl, rfl⟩))
  go_quiet (fail)
  have h2 := h1.drewN nq
  have b2 := below_drewN nq hb
  have cb2 : ((w.alloc (.cells #[sP B] 78)).drewN nq).cell? ⟨w.heap.size, 0, none⟩ = some (sP B) := ((below_drewN nq (Below.refl (w.alloc (.cells #[sP B] 78)).heap.size _)).cell (p := ⟨w.heap.size, 0, none⟩) (by simp)).trans cb
  clear c1 c2 cb h1 hb
  generalize (w.alloc (.cells #[sP B] 78)).drewN nq = W at *
  obtain ⟨-, c1, c2, -⟩ := h2.cells
  obtain ⟨old, hold⟩ : ∃ old, R[l.length]? = some old := ⟨_, List.getElem?_eq_getElem (by rw [h2.k]; exact hc)⟩
  have co := h2.atR hold
  have zo := h2.frzg l.length
  have hNE := h2.ne
  have hNb : w.heap.size ≠ g := by omega
  have hi0 : ¬ (l.length : Int) < 0 := by omega
  have hi1 : (l.length : Int) < n := by omega
  have HB3 : Hid ((W.setCell ⟨g, l.length, none⟩ (Value.string x)).drew.heap[B]? = some (.cells #[.bool true, .slice (some ⟨g, 0, none⟩) n n, I l.length, I hi] 95)) := (heap_setCell_other W ⟨g, l.length, none⟩ B _ hNE).trans h2.o
  have k1 : (W.setCell ⟨g, l.length, none⟩ (Value.string x)).cell? ⟨w.heap.size, 0, none⟩ = some (sP B) := (cell_set_ne hNb).trans cb2
  have k2 : (W.setCell ⟨g, l.length, none⟩ (Value.string x)).cell? ⟨B, 1, none⟩ = some (.slice (some ⟨g, 0, none⟩) n n) := (cell_set_ne hNE).trans c1
  have k3 : (W.setCell ⟨g, l.length, none⟩ (Value.string x)).cell? ⟨B, 2, none⟩ = some (I l.length) := (cell_set_ne hNE).trans c2
  have z3 : (W.setCell ⟨g, l.length, none⟩ (Value.string x)).drew.frozen? ⟨B, 2, none⟩ = false := frozen_of_row _ B 2 _ _ HB3.out
  have HH2 : Hid (sSk W B g n hi R l) := h2
  have HC : Hid (l.length < n) := hc
  clear hold h2 hc
  go_wp2
  go_region_held_law (fun w' => w'.cell? ⟨w.heap.size, 0, none⟩ = some (sP B) ∧ w'.cell? ⟨B, 1, none⟩ = some (.slice (some ⟨g, 0, none⟩) n n) ∧ w'.cell? ⟨B, 2, none⟩ = some (I l.length))
    (first | exact ⟨cb2, c1, c2⟩ | exact ⟨k1, k2, k3⟩ | (go_keep; done))
    (fail)
  go_wp2
  have hB4 := heap_setCell_same (W.setCell ⟨g, l.length, none⟩ (Value.string x)).drew B 2 _ _ (I ((l.length : Int) + 1)) HB3.out
  have e1 : (I ((l.length : Int) + 1)) = I ((l.length + 1 : Nat) : Int) := by simp
  have h2 := HH2.out
  have hc := HC.out
  have hy := h2.y
  refine leaves_cons (f := 56) (args := #[.pointer (some ⟨w.heap.size, 0, none⟩)]) (by simp) (by simp [go_sem]) ?_
  refine (spush1_any _ w.heap.size B (l.length + 1) hi (.slice (some ⟨g, 0, none⟩) n n) (by omega) (by omega) ?_ ?_ .returning).mono ?_
  · have hnB : w.heap.size ≠ B := by omega
    exact (cell_set_ne (w := (W.setCell ⟨g, l.length, none⟩ (Value.string x)).drew) hnB).trans k1
  · rw [← e1]; exact hB4
  rintro e u' w'' ⟨rfl, rfl, h5, F5⟩
  have hG4 : (((W.setCell ⟨g, l.length, none⟩ (Value.string x)).setCell ⟨B, 2, none⟩ (I ((l.length : Int) + 1))).drew).heap[g]? = some (.cells (R.set l.length (Value.string x)).toArray 9) := by
    have e9 := heap_setCell_same W g l.length _ _ (Value.string x) h2.q
    have e8 := (heap_setCell_other (W.setCell ⟨g, l.length, none⟩ (Value.string x)) ⟨B, 2, none⟩ g (I ((l.length : Int) + 1)) (fun e => hNE e.symm)).trans e9
    refine Eq.trans ?_ (e8.trans ?_)
    · rfl
    · simp
  have ee : (l ++ [(Value.string x)]).length = l.length + 1 := by simp
  refine ⟨_, results_tmp rfl _ _ _, rfl, ⟨?_, F5.heap hG4 (by simpa using fun e => hNE e.symm), by simpa using h2.k, hm, take_set_push h2.r (by rw [h2.k]; exact hc) _, ?_, hNE, fun y hx => ?_⟩, ?_⟩
  · rw [ee]; exact h5
  · rw [ee]; omega
  · rcases List.mem_or_eq_of_mem_set hx with e | rfl
    · exact h2.u y e
    · rfl
  · have f1 : Fx [B, g] w (W.setCell ⟨g, l.length, none⟩ (Value.string x)) := (Fx.of_below b2).set (b := g) (.inl (by simp)) _ _
    have f2 := (f1.set (b := B) (.inl (by simp)) 2 (I ((l.length : Int) + 1))).drewN 1
    exact f2.trans (F5.mono (by simp))
end
end Go.Proofs.Ytckmdkdhnhkdhaa
