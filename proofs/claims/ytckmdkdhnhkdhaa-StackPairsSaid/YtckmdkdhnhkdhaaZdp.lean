import Derived.Test.YtckmdkdhnhkdhaaZcp
namespace Go.Proofs.Ytckmdkdhnhkdhaa
open Go.RowKit
set_option linter.unusedVariables false
set_option linter.unusedSimpArgs false

/-! ### Stacks of pairs: New, Push -/
theorem pinfo : (Try.prog.info? 42).map (fun i => (i.zero, i.size, i.bytes)) = some (some (.agg #[.int .i64 0, .string ⟨#[]⟩]), 2, 24) := by kernel_rfl
def zx : Pa := (0, ⟨#[]⟩)
theorem pmade (n : Nat) : madeCells #[.int .i64 0, .string ⟨#[]⟩] (n * 2) = (flat (List.replicate n zx)).toArray := by
  apply Array.ext_getElem?
  intro i
  have hl := flat_len (List.replicate n zx)
  rw [List.length_replicate] at hl
  by_cases hi : i < n * 2
  · have hq : (List.replicate n zx)[i / 2]? = some zx := by rw [List.getElem?_replicate, if_pos (by omega)]
    obtain ⟨h1, h2⟩ := flat_at _ _ _ hq
    rcases Nat.mod_two_eq_zero_or_one i with e | e
    · have e2 : i / 2 * 2 = i := by omega
      rw [e2] at h1
      have e3 : (flat (List.replicate n zx)).toArray[i]? = some (I zx.1) := by simpa using h1
      rw [e3]
      simp [madeCells, hi, e, zx]
    · have e2 : i / 2 * 2 + 1 = i := by omega
      rw [e2] at h2
      have e3 : (flat (List.replicate n zx)).toArray[i]? = some (.string zx.2) := by simpa using h2
      rw [e3]
      simp [madeCells, hi, e, zx]
  · rw [Array.getElem?_eq_none (by simp [madeCells]; omega), Array.getElem?_eq_none (by simp; omega)]
theorem pNew_ok (w : World) (n : Nat) (hn : n ≤ 1024) : Calls Try.prog 17 #[I n] w fun e w' => e = .returned (.tuple #[pP (w.heap.size + 1), I 0]) ∧ pSk w' (w.heap.size + 1) w.heap.size n 0 (List.replicate n zx) [] ∧ Below w.heap.size w w' := by
  obtain ⟨i0, hi, hz0, hz1, hz2⟩ := info_parts pinfo
  have hmk := run_make (P := Try.prog) w 36 42 i0 (.agg #[.int .i64 0, .string ⟨#[]⟩]) Try.underlying36 hi hz0 .i64 .i64 (n : Int) (n : Int) (by omega) (Int.le_refl _) (by rw [hz2]; omega) (by omega)
  rw [hz1, Int.toNat_natCast, show (Value.cells (.agg #[.int .i64 0, .string ⟨#[]⟩])) = #[.int .i64 0, .string ⟨#[]⟩] by kernel_rfl, pmade] at hmk
  obtain ⟨ZZ, hZZ⟩ : ∃ Z : Array Value, Z = (flat (List.replicate n zx)).toArray := ⟨_, rfl⟩
  rw [← hZZ] at hmk
  have HZ : Hid (ZZ = (flat (List.replicate n zx)).toArray) := hZZ
  have h1 : ¬ (n : Int) < 0 := by omega
  have h2 : ¬ (1024 : Int) < n := by omega
  clear hi hz0 hz1 hz2 hZZ
  go_enter Try.func17, Try.ntmps17
  go_wp2
  go_ret2
  have hg := heap_alloc_new w (.cells ZZ 42)
  refine ⟨rfl, ⟨?_, HZ.out ▸ heap_over _ _ hg, by simp, hn, by simp, by simp, by omega⟩, (below_alloc w _).alloc (by simp) _⟩
  have hb := heap_alloc_new (w.alloc (.cells ZZ 42)) (.cells #[.bool true, .slice (some ⟨w.heap.size, 0, none⟩) n n, I 0, I 0] 86)
  rw [World.size_alloc] at hb
  exact hb
theorem pNew_no (w : World) (n : Int) (hn : n < 0 ∨ 1024 < n) : Calls Try.prog 17 #[I n] w fun e w' => e = .returned (.tuple #[.pointer none, I 140]) ∧ w = w' := by
  rcases hn with hn | hn
  · go_enter Try.func17, Try.ntmps17
    go_wp2
    go_ret2
    exact ⟨rfl, rfl⟩
  · have h1 : ¬ n < 0 := by omega
    go_enter Try.func17, Try.ntmps17
    go_wp2
    go_ret2
    exact ⟨rfl, rfl⟩
abbrev pV (x : Pa) : Value := .agg #[I x.1, .string x.2]
section
variable {w : World} {B g n hi : Nat} {R l : List Pa}
set_option maxRecDepth 100000 in
set_option maxHeartbeats 4000000 in
theorem pPush_full (h : pSk w B g n hi R l) (hc : l.length = n) (k : Int) (s : ByteArray) : Calls Try.prog 20 #[pP B, .agg #[I k, .string s]] w fun e w' => e = .returned (I 141) ∧ Below w.heap.size w w' := by
  have hb : Below w.heap.size w ((w.alloc (.cells #[pP B] 38)).alloc (.cells #[I k, .string s] 42)) := (below_alloc w _).alloc (by simp) _
  have h1 := h.below hb
  have hN := pnone_any h1
  obtain ⟨-, c1, c2, -⟩ := h1.cells
  rw [hc] at c2
  have cb : ((w.alloc (.cells #[pP B] 38)).alloc (.cells #[I k, .string s] 42)).cell? ⟨w.heap.size, 0, none⟩ = some (pP B) := by rw [cell_of_row _ _ _ _ _ (0, 0) (heap_over _ _ (heap_alloc_new w _))]; rfl
  clear hc h h1
  go_enter_defers Try.func20, Try.ntmps20
  go_wp2_with (first | (go_at_call 45; refine hN.mono ?_; clear hN; rintro e w1 ⟨rfl, rfl⟩))
  go_quiet (fail)
  go_wp2
  exact ⟨_, results_tmp rfl _ _ _, rfl, below_drewN _ hb⟩
set_option maxRecDepth 100000 in
set_option maxHeartbeats 4000000 in
theorem pPush_ok (h : pSk w B g n hi R l) (hc : l.length < n) (k : Int) (s : ByteArray) : Calls Try.prog 20 #[pP B, .agg #[I k, .string s]] w fun e w' => e = .returned (I 0) ∧ pSk w' B g n (max hi (l.length + 1)) (R.set l.length (k, s)) (l ++ [(k, s)]) ∧ Fx [B, g] w w' := by
  have hmf : ∀ (fn : Fn) (first cap : Array Value) (w : World), (Instr.makeFunc fn first cap).run Try.prog w = .ok (.func fn first cap) w := fun _ _ _ _ => rfl
  have hb : Below w.heap.size w ((w.alloc (.cells #[pP B] 38)).alloc (.cells #[I k, .string s] 42)) := (below_alloc w _).alloc (by simp) _
  have h1 := h.below hb
  have hN := pnone_any h1
  obtain ⟨-, c1, c2, -⟩ := h1.cells
  have hbx : ((w.alloc (.cells #[pP B] 38)).alloc (.cells #[I k, .string s] 42)).heap[w.heap.size]? = some (.cells #[pP B] 38) := heap_over _ _ (heap_alloc_new w _)
  have hvx : ((w.alloc (.cells #[pP B] 38)).alloc (.cells #[I k, .string s] 42)).heap[w.heap.size + 1]? = some (.cells #[I k, .string s] 42) := by
    have := heap_alloc_new (w.alloc (.cells #[pP B] 38)) (.cells #[I k, .string s] 42)
    rw [World.size_alloc] at this
    exact this
  have cb : ((w.alloc (.cells #[pP B] 38)).alloc (.cells #[I k, .string s] 42)).cell? ⟨w.heap.size, 0, none⟩ = some (pP B) := by rw [cell_of_row _ _ _ _ _ (0, 0) hbx]; rfl
  have hne : ¬ ((l.length : Int) = n) := by omega
  have hlt := h.lts
  have hm := h.m
  clear h
  go_enter_defers Try.func20, Try.ntmps20
  refine wp_mono (Q := postD _ _ _) ?_ post_d
  go_wp2_with (first | (go_at_call 45; refine hN.mono ?_; clear hN; rintro e w1 ⟨rfl, rfl⟩))
  go_quiet (fail)
  have h2 := h1.drewN nq
  have b2 := below_drewN nq hb
  have hbx2 := ((below_drewN nq (Below.refl ((w.alloc (.cells #[pP B] 38)).alloc (.cells #[I k, .string s] 42)).heap.size _)).block _ (heap_lt hbx)).trans hbx
  have hvx2 := ((below_drewN nq (Below.refl ((w.alloc (.cells #[pP B] 38)).alloc (.cells #[I k, .string s] 42)).heap.size _)).block _ (heap_lt hvx)).trans hvx
  clear c1 c2 cb h1 hb hbx hvx
  generalize ((w.alloc (.cells #[pP B] 38)).alloc (.cells #[I k, .string s] 42)).drewN nq = W at *
  have cb2 : W.cell? ⟨w.heap.size, 0, none⟩ = some (pP B) := by rw [cell_of_row W _ _ _ _ (0, 0) hbx2]; rfl
  have a0 : W.cell? ⟨w.heap.size + 1, 0, none⟩ = some (I k) := by rw [cell_of_row W _ _ _ _ (0, 0) hvx2]; rfl
  have a1 : W.cell? ⟨w.heap.size + 1, 1, none⟩ = some (.string s) := by rw [cell_of_row W _ _ _ _ (0, 0) hvx2]; rfl
  obtain ⟨-, c1, c2, -⟩ := h2.cells
  obtain ⟨old, hold⟩ : ∃ old, R[l.length]? = some old := ⟨_, List.getElem?_eq_getElem (by rw [h2.k]; exact hc)⟩
  obtain ⟨o1, o2⟩ := h2.atR hold
  have zo := h2.frzg
  have hNE := h2.ne
  have hNb : w.heap.size ≠ g := by omega
  have hNc : w.heap.size + 1 ≠ g := by omega
  have hi0 : ¬ (l.length : Int) < 0 := by omega
  have hi1 : (l.length : Int) < n := by omega
  have HB3 : Hid (((W.setCell ⟨g, l.length * 2, none⟩ (I k)).setCell ⟨g, l.length * 2 + 1, none⟩ (.string s)).drew.heap[B]? = some (.cells #[.bool true, .slice (some ⟨g, 0, none⟩) n n, I l.length, I hi] 86)) := (heap_setCell_other _ ⟨g, l.length * 2 + 1, none⟩ B _ hNE).trans ((heap_setCell_other W ⟨g, l.length * 2, none⟩ B _ hNE).trans h2.o)
  have k1 : ((W.setCell ⟨g, l.length * 2, none⟩ (I k)).setCell ⟨g, l.length * 2 + 1, none⟩ (.string s)).cell? ⟨w.heap.size, 0, none⟩ = some (pP B) := (cell_set_ne hNb).trans ((cell_set_ne hNb).trans cb2)
  have k2 : ((W.setCell ⟨g, l.length * 2, none⟩ (I k)).setCell ⟨g, l.length * 2 + 1, none⟩ (.string s)).cell? ⟨B, 1, none⟩ = some (.slice (some ⟨g, 0, none⟩) n n) := (cell_set_ne hNE).trans ((cell_set_ne hNE).trans c1)
  have k3 : ((W.setCell ⟨g, l.length * 2, none⟩ (I k)).setCell ⟨g, l.length * 2 + 1, none⟩ (.string s)).cell? ⟨B, 2, none⟩ = some (I l.length) := (cell_set_ne hNE).trans ((cell_set_ne hNE).trans c2)
  have k4 : ((W.setCell ⟨g, l.length * 2, none⟩ (I k)).setCell ⟨g, l.length * 2 + 1, none⟩ (.string s)).cell? ⟨w.heap.size + 1, 0, none⟩ = some (I k) := (cell_set_ne hNc).trans ((cell_set_ne hNc).trans a0)
  have k5 : ((W.setCell ⟨g, l.length * 2, none⟩ (I k)).setCell ⟨g, l.length * 2 + 1, none⟩ (.string s)).cell? ⟨w.heap.size + 1, 1, none⟩ = some (.string s) := (cell_set_ne hNc).trans ((cell_set_ne hNc).trans a1)
  have z3 : ((W.setCell ⟨g, l.length * 2, none⟩ (I k)).setCell ⟨g, l.length * 2 + 1, none⟩ (.string s)).drew.frozen? ⟨B, 2, none⟩ = false := frozen_of_row _ B 2 _ _ HB3.out
  have HH2 : Hid (pSk W B g n hi R l) := h2
  have HC : Hid (l.length < n) := hc
  clear hold h2 hc hbx2 hvx2
  go_wp2
  go_region_held_law (fun w' => w'.cell? ⟨w.heap.size, 0, none⟩ = some (pP B) ∧ w'.cell? ⟨B, 1, none⟩ = some (.slice (some ⟨g, 0, none⟩) n n) ∧ w'.cell? ⟨B, 2, none⟩ = some (I l.length) ∧ w'.cell? ⟨w.heap.size + 1, 0, none⟩ = some (I k) ∧ w'.cell? ⟨w.heap.size + 1, 1, none⟩ = some (.string s))
    (first | exact ⟨cb2, c1, c2, a0, a1⟩ | exact ⟨k1, k2, k3, k4, k5⟩ | (go_keep; done))
    (fail)
  go_wp2
  have hB4 := heap_setCell_same ((W.setCell ⟨g, l.length * 2, none⟩ (I k)).setCell ⟨g, l.length * 2 + 1, none⟩ (.string s)).drew B 2 _ _ (I ((l.length : Int) + 1)) HB3.out
  have e1 : (I ((l.length : Int) + 1)) = I ((l.length + 1 : Nat) : Int) := by simp
  have h2 := HH2.out
  have hc := HC.out
  have hy := h2.y
  refine leaves_cons (f := 46) (args := #[.pointer (some ⟨w.heap.size, 0, none⟩)]) (by simp) (by simp [go_sem]) ?_
  refine (ppush1_any _ w.heap.size B (l.length + 1) hi (.slice (some ⟨g, 0, none⟩) n n) (by omega) (by omega) ?_ ?_ .returning).mono ?_
  · have hnB : w.heap.size ≠ B := by omega
    exact (cell_set_ne (w := ((W.setCell ⟨g, l.length * 2, none⟩ (I k)).setCell ⟨g, l.length * 2 + 1, none⟩ (.string s)).drew) hnB).trans k1
  · rw [← e1]; exact hB4
  rintro e u' w'' ⟨rfl, rfl, h5, F5⟩
  have hG4 : ((((W.setCell ⟨g, l.length * 2, none⟩ (I k)).setCell ⟨g, l.length * 2 + 1, none⟩ (.string s)).setCell ⟨B, 2, none⟩ (I ((l.length : Int) + 1))).drew).heap[g]? = some (.cells (flat (R.set l.length (k, s))).toArray 42) := by
    have e9 := heap_setCell_same _ g (l.length * 2 + 1) _ _ (.string s) (heap_setCell_same W g (l.length * 2) _ _ (I k) h2.q)
    have e8 := (heap_setCell_other ((W.setCell ⟨g, l.length * 2, none⟩ (I k)).setCell ⟨g, l.length * 2 + 1, none⟩ (.string s)) ⟨B, 2, none⟩ g (I ((l.length : Int) + 1)) (fun e => hNE e.symm)).trans e9
    refine Eq.trans ?_ (e8.trans ?_)
    · rfl
    · rw [flat_set]; simp
  have ee : (l ++ [(k, s)]).length = l.length + 1 := by simp
  refine ⟨_, results_tmp rfl _ _ _, rfl, ⟨?_, F5.heap hG4 (by simpa using fun e => hNE e.symm), by simpa using h2.k, hm, take_set_push h2.r (by rw [h2.k]; exact hc) _, ?_, hNE⟩, ?_⟩
  · rw [ee]; exact h5
  · rw [ee]; omega
  · have f1 : Fx [B, g] w ((W.setCell ⟨g, l.length * 2, none⟩ (I k)).setCell ⟨g, l.length * 2 + 1, none⟩ (.string s)) := ((Fx.of_below b2).set (b := g) (.inl (by simp)) _ _).set (b := g) (.inl (by simp)) _ _
    have f2 := (f1.set (b := B) (.inl (by simp)) 2 (I ((l.length : Int) + 1))).drewN 1
    exact f2.trans (F5.mono (by simp))
end
end Go.Proofs.Ytckmdkdhnhkdhaa
