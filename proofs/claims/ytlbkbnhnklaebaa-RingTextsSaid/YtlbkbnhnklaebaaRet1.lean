import Derived.Test.YtlbkbnhnklaebaaRdt1
namespace Go.Proofs.Ytlbkbnhnklaebaa
open Go.RowKit
set_option linter.unusedVariables false
set_option linter.unusedSimpArgs false

/-! ### Rings of texts: New, Last, First, Take, At -/
theorem tinfo : (Try.prog.info? 42).map (fun i => (i.zero, i.size, i.bytes)) = some (some (.agg #[.string ⟨#[]⟩, .int .i64 0]), 2, 24) := by kernel_rfl
def zx : Tx := (⟨#[]⟩, 0)
theorem tmade (n : Nat) : madeCells #[.string ⟨#[]⟩, .int .i64 0] (n * 2) = (flat (List.replicate n zx)).toArray := by
  apply Array.ext_getElem?
  intro i
  have hl := flat_len (List.replicate n zx)
  rw [List.length_replicate] at hl
  by_cases hi : i < n * 2
  · have hq : (List.replicate n zx)[i / 2]? = some zx := by rw [List.getElem?_replicate, if_pos (by omega)]
    obtain ⟨h1, h2⟩ := flat_at _ _ _ hq
    rcases Nat.mod_two_eq_zero_or_one i with e | e
    · have e2 : i / 2 * 2 = i := by omega
      rw [e2] at h1
      have e3 : (flat (List.replicate n zx)).toArray[i]? = some (.string zx.1) := by simpa using h1
      rw [e3]
      simp [madeCells, hi, e, zx]
    · have e2 : i / 2 * 2 + 1 = i := by omega
      rw [e2] at h2
      have e3 : (flat (List.replicate n zx)).toArray[i]? = some (I zx.2) := by simpa using h2
      rw [e3]
      simp [madeCells, hi, e, zx]
  · rw [Array.getElem?_eq_none (by simp [madeCells]; omega), Array.getElem?_eq_none (by simp; omega)]
theorem tNew_ok (w : World) (n : Nat) (hn : n ≤ 65536) : Calls Try.prog 17 #[I n] w fun e w' => e = .returned (.tuple #[tP (w.heap.size + 1), I 0]) ∧ tRg w' (w.heap.size + 1) w.heap.size n 0 0 (List.replicate n zx) [] ∧ Below w.heap.size w w' := by
  obtain ⟨i0, hi, hz0, hz1, hz2⟩ := info_parts tinfo
  have hmk := run_make (P := Try.prog) w 36 42 i0 (.agg #[.string ⟨#[]⟩, .int .i64 0]) Try.underlying36 hi hz0 .i64 .i64 (n : Int) (n : Int) (by omega) (Int.le_refl _) (by rw [hz2]; omega) (by omega)
  rw [hz1, Int.toNat_natCast, show (Value.cells (.agg #[.string ⟨#[]⟩, .int .i64 0])) = #[.string ⟨#[]⟩, .int .i64 0] by kernel_rfl, tmade] at hmk
  obtain ⟨ZZ, hZZ⟩ : ∃ Z : Array Value, Z = (flat (List.replicate n zx)).toArray := ⟨_, rfl⟩
  rw [← hZZ] at hmk
  have HZ : Hid (ZZ = (flat (List.replicate n zx)).toArray) := hZZ
  have h1 : ¬ (n : Int) < 0 := by omega
  have h2 : ¬ (65536 : Int) < n := by omega
  clear hi hz0 hz1 hz2 hZZ
  go_enter Try.func17, Try.ntmps17
  go_wp2
  go_ret2
  have hg := heap_alloc_new w (.cells ZZ 42)
  refine ⟨rfl, ⟨?_, HZ.out ▸ heap_over _ _ hg, by simp, hn, Rw.new _, by simp, by omega⟩, (below_alloc w _).alloc (by simp) _⟩
  have hb := heap_alloc_new (w.alloc (.cells ZZ 42)) (.cells #[.bool true, .slice (some ⟨w.heap.size, 0, none⟩) n n, I 0, I 0, I 0] 84)
  rw [World.size_alloc] at hb
  exact hb
theorem tNew_no (w : World) (n : Int) (hn : n < 0 ∨ 65536 < n) : Calls Try.prog 17 #[I n] w fun e w' => e = .returned (.tuple #[.pointer none, I 120]) ∧ w = w' := by
  rcases hn with hn | hn
  · go_enter Try.func17, Try.ntmps17
    go_wp2
    go_ret2
    exact ⟨rfl, rfl⟩
  · have h1 : ¬ n < 0 := by omega
    go_enter Try.func17, Try.ntmps17
    go_wp2
    go_ret2
    exact ⟨rfl, rfl⟩
abbrev tV (x : Tx) : Value := .agg #[.string x.1, I x.2]
section
variable {w : World} {B g n f hi : Nat} {R l : List Tx}
theorem tLast_full (h : tRg w B g n f hi R l) (hc : l.length = n) (s : ByteArray) (k : Int) : Calls Try.prog 19 #[tP B, .agg #[.string s, I k]] w fun e w' => e = .returned (I 121) ∧ Below w.heap.size w w' := by
  have b1 := below_alloc w (.cells #[.string s, I k] 42)
  have hF := (tmayPut_full (h.below b1) hc)
  clear hc
  go_enter Try.func19, Try.ntmps19
  go_wp2_with (first | (go_at_call 48; refine hF.mono ?_; rintro e w1 ⟨rfl, q, rfl⟩))
  go_ret
  exact ⟨rfl, below_drewN q b1⟩
theorem tFirst_full (h : tRg w B g n f hi R l) (hc : l.length = n) (s : ByteArray) (k : Int) : Calls Try.prog 21 #[tP B, .agg #[.string s, I k]] w fun e w' => e = .returned (I 121) ∧ Below w.heap.size w w' := by
  have b1 := below_alloc w (.cells #[.string s, I k] 42)
  have hF := (tmayPut_full (h.below b1) hc)
  clear hc
  go_enter Try.func21, Try.ntmps21
  go_wp2_with (first | (go_at_call 48; refine hF.mono ?_; rintro e w1 ⟨rfl, q, rfl⟩))
  go_ret
  exact ⟨rfl, below_drewN q b1⟩
set_option maxRecDepth 100000 in
set_option maxHeartbeats 4000000 in
theorem tLast_ok (h : tRg w B g n f hi R l) (hc : l.length < n) (s : ByteArray) (k : Int) : Calls Try.prog 19 #[tP B, .agg #[.string s, I k]] w fun e w' => e = .returned (I 0) ∧ tRg w' B g n f (max hi (l.length + 1)) (R.set ((f + l.length) % n) (s, k)) (l ++ [(s, k)]) ∧ Fx [B, g] w w' := by
  have b1 := below_alloc w (.cells #[.string s, I k] 42)
  have hF := (tmayPut_ok (h.below b1) hc)
  have hlt := h.lts
  have hA0 : (w.alloc (.cells #[.string s, I k] 42)).heap[w.heap.size]? = some (.cells #[.string s, I k] 42) := heap_alloc_new w _
  go_enter Try.func19, Try.ntmps19
  go_wp2_with (first | (go_at_call 48; refine hF.mono ?_; rintro e w0 ⟨rfl, q, rfl⟩))
  have h0 := (h.below b1).drewN q
  have F0 : Fx [B, g] w ((w.alloc (.cells #[.string s, I k] 42)).drewN q) := (Fx.of_below b1).drewN q
  have hA := ((below_drewN q (Below.refl _ _)).block _ (heap_lt hA0)).trans hA0
  clear hF h b1 hA0
  generalize (w.alloc (.cells #[.string s, I k] 42)).drewN q = W at *
  have hpl : (f + l.length) % n < n := Nat.mod_lt _ (by omega)
  obtain ⟨old, hold⟩ : ∃ old, R[(f + l.length) % n]? = some old := ⟨_, List.getElem?_eq_getElem (by rw [h0.k]; exact hpl)⟩
  obtain ⟨-, b1, -, b3, -⟩ := h0.cells
  have a0 : W.cell? ⟨w.heap.size, 0, none⟩ = some (.string s) := by rw [cell_of_row W _ _ _ _ (0, 0) hA]; rfl
  have a1 : W.cell? ⟨w.heap.size, 1, none⟩ = some (I k) := by rw [cell_of_row W _ _ _ _ (0, 0) hA]; rfl
  have hm := h0.m
  have HL : Hid (l.length < n) := hc
  have hp := (tplace_any (h0.drewN 1) (by omega) l.length (by omega)).mono (R' := fun e w' => e = .returned (I ((f + l.length) % n : Nat)) ∧ tRg w' B g n f hi R l ∧ Fx [B, g] w w' ∧ (w'.cell? ⟨g, (f + l.length) % n * 2, none⟩ = some (.string old.1) ∧ w'.cell? ⟨g, (f + l.length) % n * 2 + 1, none⟩ = some (I old.2)) ∧ (∀ j, w'.frozen? ⟨g, j, none⟩ = false) ∧ (w'.cell? ⟨B, 1, none⟩ = some (.slice (some ⟨g, 0, none⟩) n n) ∧ w'.cell? ⟨B, 3, none⟩ = some (I l.length) ∧ w'.cell? ⟨w.heap.size, 0, none⟩ = some (.string s) ∧ w'.cell? ⟨w.heap.size, 1, none⟩ = some (I k))) (fun e w' ⟨k', q2, hq⟩ => by
    subst hq
    have h2 := (h0.drewN 1).drewN q2
    have bb : Below W.heap.size W ((W.drewN 1).drewN q2) := below_drewN q2 (below_drewN 1 (Below.refl _ _))
    have hl9 := heap_lt hA
    exact ⟨k', h2, (F0.drewN 1).drewN q2, h2.at hold, h2.frzg, h2.cells.2.1, h2.cells.2.2.2.1, (bb.cell (p := ⟨w.heap.size, 0, none⟩) hl9).trans a0, (bb.cell (p := ⟨w.heap.size, 1, none⟩) hl9).trans a1⟩)
  generalize hpp : (f + l.length) % n = p at *
  have HP : Hid ((f + l.length) % n = p) := hpp
  have hx0 : ¬ ((p : Int) < 0) := by omega
  have hx1 : (p : Int) < n := by omega
  have hNE := h0.ne
  have hNA : w.heap.size ≠ g := by omega
  clear hpp hc hold
  go_region_held_law (fun w' => w'.cell? ⟨B, 1, none⟩ = some (.slice (some ⟨g, 0, none⟩) n n) ∧ w'.cell? ⟨B, 3, none⟩ = some (I l.length) ∧ w'.cell? ⟨w.heap.size, 0, none⟩ = some (.string s) ∧ w'.cell? ⟨w.heap.size, 1, none⟩ = some (I k))
    (first | exact ⟨b1, b3, a0, a1⟩ | exact ⟨y1, y2, y3, y4⟩ | exact ⟨(cell_set_ne hNE).trans ((cell_set_ne hNE).trans y1), (cell_set_ne hNE).trans ((cell_set_ne hNE).trans y2), (cell_set_ne hNA).trans ((cell_set_ne hNA).trans y3), (cell_set_ne hNA).trans ((cell_set_ne hNA).trans y4)⟩ | (go_keep; done))
    (first | (go_at_call 49; refine hp.mono ?_; rintro e w2 ⟨rfl, h2, F2, ⟨x2, x3⟩, z2, y1, y2, y3, y4⟩))
  have hB4 : ((w2.setCell ⟨g, p * 2, none⟩ (.string s)).setCell ⟨g, p * 2 + 1, none⟩ (I k)).heap[B]? = some (.cells #[.bool true, .slice (some ⟨g, 0, none⟩) n n, I f, I l.length, I hi] 84) := (heap_setCell_other _ ⟨g, p * 2 + 1, none⟩ B _ hNE).trans ((heap_setCell_other w2 ⟨g, p * 2, none⟩ B _ hNE).trans h2.o)
  have hO := toneMore_any ((w2.setCell ⟨g, p * 2, none⟩ (.string s)).setCell ⟨g, p * 2 + 1, none⟩ (I k)) B f l.length hi _ (by have := h0.lle; omega) (by have := h0.y; omega) hB4
  have H2 : Hid (tRg w2 B g n f hi R l) := h2
  clear b1 b3 a0 a1 h0 h2 hp y1 y2 y3 y4 x2 x3
  go_wp2_with (go_at_call 50; refine hO.mono ?_; rintro e w5 ⟨rfl, h5, F5⟩)
  go_ret
  have h2 := H2.out
  have hl := HL.out
  have ee : (l ++ [(s, k)]).length = l.length + 1 := by simp
  rw [HP.out]
  refine ⟨rfl, Rq.mk2 (x := (s, k)) h2.q h2.k h2.m hNE ?_ ?_ ?_ F5, (((F2.set (b := g) (.inl (by simp)) _ _).set (b := g) (.inl (by simp)) _ _).trans (F5.mono (by simp)))⟩
  · have := h2.r.last (by rw [h2.k]; exact hl) (s, k)
    rw [h2.k, HP.out] at this
    exact this
  · rw [ee]
    have := h2.y
    omega
  · rw [ee]
    exact h5
set_option maxRecDepth 100000 in
set_option maxHeartbeats 4000000 in
theorem tFirst_ok (h : tRg w B g n f hi R l) (hc : l.length < n) (s : ByteArray) (k : Int) : Calls Try.prog 21 #[tP B, .agg #[.string s, I k]] w fun e w' => e = .returned (I 0) ∧ tRg w' B g n ((f + (n - 1)) % n) (max hi (l.length + 1)) (R.set ((f + (n - 1)) % n) (s, k)) ((s, k) :: l) ∧ Fx [B, g] w w' := by
  have b1 := below_alloc w (.cells #[.string s, I k] 42)
  have hlt := h.lts
  have hA0 : (w.alloc (.cells #[.string s, I k] 42)).heap[w.heap.size]? = some (.cells #[.string s, I k] 42) := heap_alloc_new w _
  have h1 := h.below b1
  have F1 : Fx [B, g] w (w.alloc (.cells #[.string s, I k] 42)) := Fx.of_below b1
  have hF := (tmayPut_ok h1 hc)
  have hm := h.m
  have hpl : (f + (n - 1)) % n < n := Nat.mod_lt _ (by omega)
  obtain ⟨old, hold⟩ : ∃ old, R[(f + (n - 1)) % n]? = some old := ⟨_, List.getElem?_eq_getElem (by rw [h.k]; exact hpl)⟩
  have hp : ∀ q, Calls Try.prog 49 #[tP B, I ((n : Int) - 1)] ((w.alloc (.cells #[.string s, I k] 42)).drewN q) fun e w' => e = .returned (I ((f + (n - 1)) % n : Nat)) ∧ tRg w' B g n f hi R l ∧ Fx [B, g] w w' ∧ w'.cell? ⟨B, 2, none⟩ = some (I f) ∧ w'.frozen? ⟨B, 2, none⟩ = false ∧ Hid (w'.heap[w.heap.size]? = some (.cells #[.string s, I k] 42)) := fun q => by
    have := (tplace_any (h1.drewN q) (by omega) (n - 1) (by omega))
    rw [show ((n - 1 : Nat) : Int) = (n : Int) - 1 by omega] at this
    refine this.mono ?_
    rintro e w' ⟨k', q2, rfl⟩
    have h2 := (h1.drewN q).drewN q2
    exact ⟨k', h2, (F1.drewN q).drewN q2, h2.cells.2.2.1, h2.frz _, ((below_drewN q2 (below_drewN q (Below.refl (w.alloc (.cells #[.string s, I k] 42)).heap.size _))).block _ (heap_lt hA0)).trans hA0⟩
  have hb1 := fun q => (h1.drewN q).cells.2.1
  have HL : Hid (l.length < n) := hc
  clear hc
  generalize hpp : (f + (n - 1)) % n = p at *
  have HP : Hid ((f + (n - 1)) % n = p) := hpp
  have hx0 : ¬ ((p : Int) < 0) := by omega
  have hx1 : (p : Int) < n := by omega
  have hNE := h.ne
  clear hpp h h1 F1 b1 hA0
  go_enter Try.func21, Try.ntmps21
  go_wp2_with (first | (go_at_call 48; refine hF.mono ?_; rintro e w0 ⟨rfl, q, rfl⟩; have hb9 := hb1 q) | (go_at_call 49; refine (hp q).mono ?_; rintro e w2 ⟨rfl, h2, F2, x2, z2, HA2⟩))
  have hB3 := heap_setCell_same w2 B 2 _ _ (I p) h2.o
  have hG3 := (heap_setCell_other w2 ⟨B, 2, none⟩ g (I p) (fun e => hNE e.symm)).trans h2.q
  have hA3 := (heap_setCell_other w2 ⟨B, 2, none⟩ w.heap.size (I p) (by show w.heap.size ≠ B; omega)).trans HA2.out
  have F3 : Fx [B, g] w (w2.setCell ⟨B, 2, none⟩ (I p)) := F2.set (.inl (by simp)) _ _
  clear x2 z2 hb9 hb1 hp hF
  generalize (w2.setCell ⟨B, 2, none⟩ (I p)) = W at *
  have b1 : W.cell? ⟨B, 1, none⟩ = some (.slice (some ⟨g, 0, none⟩) n n) := by rw [cell_of_row W B _ _ _ (0, 0) hB3]; rfl
  have b2 : W.cell? ⟨B, 2, none⟩ = some (I p) := by rw [cell_of_row W B _ _ _ (0, 0) hB3]; rfl
  have a0 : W.cell? ⟨w.heap.size, 0, none⟩ = some (.string s) := by rw [cell_of_row W _ _ _ _ (0, 0) hA3]; rfl
  have a1 : W.cell? ⟨w.heap.size, 1, none⟩ = some (I k) := by rw [cell_of_row W _ _ _ _ (0, 0) hA3]; rfl
  obtain ⟨o1, o2⟩ := flat_at R p old hold
  have g1 : W.cell? ⟨g, p * 2, none⟩ = some (.string old.1) := by rw [cell_of_row W g _ _ _ (0, 0) hG3]; simpa using o1
  have g2 : W.cell? ⟨g, p * 2 + 1, none⟩ = some (I old.2) := by rw [cell_of_row W g _ _ _ (0, 0) hG3]; simpa using o2
  have z1 : ∀ j, W.frozen? ⟨g, j, none⟩ = false := fun j => frozen_of_row W g j _ _ hG3
  have H2 : Hid (tRg w2 B g n f hi R l) := h2
  have HB : Hid (W.heap[B]? = some (.cells #[.bool true, .slice (some ⟨g, 0, none⟩) n n, I p, I l.length, I hi] 84)) := hB3
  have HG : Hid (W.heap[g]? = some (.cells (flat R).toArray 42)) := hG3
  have hNA : w.heap.size ≠ g := by omega
  clear hold hB3 hG3 h2 o1 o2 hA3 HA2
  go_region_held_law (fun w' => w'.cell? ⟨B, 1, none⟩ = some (.slice (some ⟨g, 0, none⟩) n n) ∧ w'.cell? ⟨B, 2, none⟩ = some (I p) ∧ w'.cell? ⟨w.heap.size, 0, none⟩ = some (.string s) ∧ w'.cell? ⟨w.heap.size, 1, none⟩ = some (I k))
    (first | exact ⟨b1, b2, a0, a1⟩ | exact ⟨(cell_set_ne hNE).trans ((cell_set_ne hNE).trans b1), (cell_set_ne hNE).trans ((cell_set_ne hNE).trans b2), (cell_set_ne hNA).trans ((cell_set_ne hNA).trans a0), (cell_set_ne hNA).trans ((cell_set_ne hNA).trans a1)⟩ | (go_keep; done))
    (fail)
  have hB4 : (((W.setCell ⟨g, p * 2, none⟩ (.string s)).setCell ⟨g, p * 2 + 1, none⟩ (I k)).drew).heap[B]? = some (.cells #[.bool true, .slice (some ⟨g, 0, none⟩) n n, I p, I l.length, I hi] 84) := (heap_setCell_other _ ⟨g, p * 2 + 1, none⟩ B _ hNE).trans ((heap_setCell_other W ⟨g, p * 2, none⟩ B _ hNE).trans HB.out)
  have hO := toneMore_any (((W.setCell ⟨g, p * 2, none⟩ (.string s)).setCell ⟨g, p * 2 + 1, none⟩ (I k)).drew) B p l.length hi _ (by have := H2.out.lle; omega) (by have := H2.out.y; omega) hB4
  clear b1 b2 a0 a1 g1 g2 z1
  go_wp2_with (go_at_call 50; refine hO.mono ?_; rintro e w5 ⟨rfl, h5, F5⟩)
  go_ret
  have h2 := H2.out
  have hl := HL.out
  have ee : ((s, k) :: l).length = l.length + 1 := by simp
  refine ⟨rfl, Rq.mk2 (x := (s, k)) (w2 := W) HG.out h2.k h2.m hNE ?_ ?_ ?_ (((Fx.refl _ _).drewN 1).trans F5), ((((F3.set (b := g) (.inl (by simp)) _ _).set (b := g) (.inl (by simp)) _ _).drewN 1).trans (F5.mono (by simp)))⟩
  · have := h2.r.first (by rw [h2.k]; exact hl) (s, k)
    rw [h2.k, HP.out] at this
    exact this
  · rw [ee]
    have := h2.y
    omega
  · rw [ee]
    exact h5
end
end Go.Proofs.Ytlbkbnhnklaebaa
