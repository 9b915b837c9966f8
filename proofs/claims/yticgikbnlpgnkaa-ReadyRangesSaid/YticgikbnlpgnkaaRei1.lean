import Derived.Test.YticgikbnlpgnkaaRdi1
namespace Go.Proofs.Yticgikbnlpgnkaa
open Go.RowKit
set_option linter.unusedVariables false
set_option linter.unusedSimpArgs false

/-! ### Rings of int: New, Last, First, Take, At -/
theorem iinfo : (Try.prog.info? 3).map (fun i => (i.zero, i.size, i.bytes)) = some (some (Value.int .i64 0), 1, 8) := by kernel_rfl
theorem imade (n : Nat) : madeCells #[(Value.int .i64 0)] (n * 1) = (List.replicate n (Value.int .i64 0)).toArray := by
  rw [Nat.mul_one, ← toList_madeCells_one]
theorem iNew_ok (w : World) (n : Nat) (hn : n ≤ 65536) : Calls Try.prog 52 #[I n] w fun e w' => e = .returned (.tuple #[iP (w.heap.size + 1), I 0]) ∧ iRg w' (w.heap.size + 1) w.heap.size n 0 0 (List.replicate n (Value.int .i64 0)) [] ∧ Below w.heap.size w w' := by
  obtain ⟨i0, hi, hz0, hz1, hz2⟩ := info_parts iinfo
  have hmk := run_make (P := Try.prog) w 76 3 i0 (Value.int .i64 0) Try.underlying76 hi hz0 .i64 .i64 (n : Int) (n : Int) (by omega) (Int.le_refl _) (by rw [hz2]; omega) (by omega)
  rw [hz1, Int.toNat_natCast, show (Value.cells (Value.int .i64 0)) = #[(Value.int .i64 0)] from rfl, imade] at hmk
  have h1 : ¬ (n : Int) < 0 := by omega
  have h2 : ¬ (65536 : Int) < n := by omega
  clear hi hz0 hz1 hz2
  go_enter Try.func52, Try.ntmps52
  go_wp2
  go_ret2
  have hg := heap_alloc_new w (.cells (List.replicate n (Value.int .i64 0)).toArray 3)
  refine ⟨rfl, ⟨?_, heap_over _ _ hg, by simp, hn, Rw.new _, by simp, by omega⟩, (below_alloc w _).alloc (by simp) _⟩
  have hb := heap_alloc_new (w.alloc (.cells (List.replicate n (Value.int .i64 0)).toArray 3)) (.cells #[.bool true, .slice (some ⟨w.heap.size, 0, none⟩) n n, I 0, I 0, I 0] 89)
  rw [World.size_alloc] at hb
  exact hb
theorem iNew_no (w : World) (n : Int) (hn : n < 0 ∨ 65536 < n) : Calls Try.prog 52 #[I n] w fun e w' => e = .returned (.tuple #[.pointer none, I 120]) ∧ w = w' := by
  rcases hn with hn | hn
  · go_enter Try.func52, Try.ntmps52
    go_wp2
    go_ret2
    exact ⟨rfl, rfl⟩
  · have h1 : ¬ n < 0 := by omega
    go_enter Try.func52, Try.ntmps52
    go_wp2
    go_ret2
    exact ⟨rfl, rfl⟩
section
variable {w : World} {B g n f hi : Nat} {R l : List Value}
theorem iLast_full (h : iRg w B g n f hi R l) (hc : l.length = n) (x : Int) : Calls Try.prog 32 #[iP B, (Value.int .i64 x)] w fun e w' => e = .returned (I 121) ∧ ∃ q, w' = w.drewN q := by
  have hF := (imayPut_full h hc)
  clear hc
  go_enter Try.func32, Try.ntmps32
  go_wp2_with (first | (go_at_call 55; refine hF.mono ?_; rintro e w1 ⟨rfl, q, rfl⟩))
  go_ret
  exact ⟨rfl, q, rfl⟩
theorem iFirst_full (h : iRg w B g n f hi R l) (hc : l.length = n) (x : Int) : Calls Try.prog 36 #[iP B, (Value.int .i64 x)] w fun e w' => e = .returned (I 121) ∧ ∃ q, w' = w.drewN q := by
  have hF := (imayPut_full h hc)
  clear hc
  go_enter Try.func36, Try.ntmps36
  go_wp2_with (first | (go_at_call 55; refine hF.mono ?_; rintro e w1 ⟨rfl, q, rfl⟩))
  go_ret
  exact ⟨rfl, q, rfl⟩
theorem iLast_ok (h : iRg w B g n f hi R l) (hc : l.length < n) (x : Int) : Calls Try.prog 32 #[iP B, (Value.int .i64 x)] w fun e w' => e = .returned (I 0) ∧ iRg w' B g n f (max hi (l.length + 1)) (R.set ((f + l.length) % n) (Value.int .i64 x)) (l ++ [(Value.int .i64 x)]) ∧ Fx [B, g] w w' := by
  have hF := (imayPut_ok h hc)
  go_enter Try.func32, Try.ntmps32
  go_wp2_with (first | (go_at_call 55; refine hF.mono ?_; rintro e w0 ⟨rfl, q, rfl⟩))
  have h0 := h.drewN q
  have F0 : Fx [B, g] w (w.drewN q) := (Fx.refl _ _).drewN q
  clear hF h
  generalize w.drewN q = W at *
  have hpl : (f + l.length) % n < n := Nat.mod_lt _ (by omega)
  obtain ⟨old, hold⟩ : ∃ old, R[(f + l.length) % n]? = some old := ⟨_, List.getElem?_eq_getElem (by rw [h0.k]; exact hpl)⟩
  obtain ⟨-, b1, -, b3, -⟩ := h0.cells
  have hm := h0.m
  have HL : Hid (l.length < n) := hc
  have hd := h0.drewN 1
  have hp := (iplace_any (h0.drewN 1) (by omega) l.length (by omega)).mono (R' := fun e w' => e = .returned (I ((f + l.length) % n : Nat)) ∧ iRg w' B g n f hi R l ∧ Fx [B, g] w w' ∧ w'.cell? ⟨g, (f + l.length) % n, none⟩ = some old ∧ w'.frozen? ⟨g, (f + l.length) % n, none⟩ = false) (fun e w' ⟨k, q2, hq⟩ => by
    subst hq
    have h2 := (h0.drewN 1).drewN q2
    exact ⟨k, h2, (F0.drewN 1).drewN q2, h2.at hold, h2.frzg _⟩)
  generalize hpp : (f + l.length) % n = p at *
  have HP : Hid ((f + l.length) % n = p) := hpp
  have hx0 : ¬ ((p : Int) < 0) := by omega
  have hx1 : (p : Int) < n := by omega
  have hNE := h0.ne
  clear hpp hc hold
  go_region_held_law (fun w' => w'.cell? ⟨B, 1, none⟩ = some (.slice (some ⟨g, 0, none⟩) n n) ∧ w'.cell? ⟨B, 3, none⟩ = some (I l.length))
    (first | exact ⟨b1, b3⟩ | exact ⟨hd.cells.2.1, hd.cells.2.2.2.1⟩ | exact ⟨h2.cells.2.1, h2.cells.2.2.2.1⟩ | (rw [cell_set_ne hNE, cell_set_ne hNE]; exact ⟨h2.cells.2.1, h2.cells.2.2.2.1⟩) | (go_keep; done))
    (first | (go_at_call 56; refine hp.mono ?_; rintro e w2 ⟨rfl, h2, F2, x2, z2⟩))
  have hB4 : (w2.setCell ⟨g, p, none⟩ (Value.int .i64 x)).heap[B]? = some (.cells #[.bool true, .slice (some ⟨g, 0, none⟩) n n, I f, I l.length, I hi] 89) := (heap_setCell_other w2 ⟨g, p, none⟩ B _ hNE).trans h2.o
  have hO := ioneMore_any (w2.setCell ⟨g, p, none⟩ (Value.int .i64 x)) B f l.length hi _ (by have := h0.lle; omega) (by have := h0.y; omega) hB4
  have H2 : Hid (iRg w2 B g n f hi R l) := h2
  clear b1 b3 h0 hd h2 hp
  go_wp2_with (go_at_call 57; refine hO.mono ?_; rintro e w5 ⟨rfl, h5, F5⟩)
  go_ret
  have h2 := H2.out
  have hl := HL.out
  have ee : (l ++ [(Value.int .i64 x)]).length = l.length + 1 := by simp
  rw [HP.out]
  refine ⟨rfl, Rg.mk2 h2.q h2.k h2.m hNE ?_ ?_ ?_ F5, ((F2.set (b := g) (.inl (by simp)) p (Value.int .i64 x)).trans (F5.mono (by simp)))⟩
  · have := h2.r.last (by rw [h2.k]; exact hl) (Value.int .i64 x)
    rw [h2.k, HP.out] at this
    exact this
  · rw [ee]
    have := h2.y
    omega
  · rw [ee]
    exact h5
theorem iTake_no (h : iRg w B g n f hi R []) : Calls Try.prog 34 #[iP B] w fun e w' => e = .returned (.tuple #[(Value.int .i64 0), I 122]) ∧ w = w' := by
  obtain ⟨-, -, -, c3, -⟩ := h.cells
  go_enter Try.func34, Try.ntmps34
  go_wp2_with (first | (go_at_call 58; refine (inone_any h).mono ?_; rintro e w1 ⟨rfl, rfl⟩))
  go_ret2
  exact ⟨rfl, rfl⟩
end
end Go.Proofs.Yticgikbnlpgnkaa
