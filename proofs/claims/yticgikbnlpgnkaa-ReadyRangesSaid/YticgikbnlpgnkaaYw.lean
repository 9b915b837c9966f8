import Derived.Test.YticgikbnlpgnkaaYv
namespace Go.Proofs.Yticgikbnlpgnkaa
open Go.RowKit
set_option linter.unusedVariables false
set_option linter.unusedSimpArgs false

/-! ### The document's Copy -/
theorem rowP_take {rs : List Rr} {k : Nat} {y : Rr} (h : rs[k]? = some y) : rowP (rs.take (k + 1)) = rowP (rs.take k) ++ [((y.p : Int), (y.c : Int))] := by
  rw [List.take_add_one, h]; simp [rowP]
theorem lsP_take {rs : List Rr} {k : Nat} {y : Rr} (h : rs[k]? = some y) : (rs.take (k + 1)).map (·.l) = (rs.take k).map (·.l) ++ [y.l] := by
  rw [List.take_add_one, h]; simp
theorem hsP_take {rs : List Rr} {k : Nat} {y : Rr} (h : rs[k]? = some y) : (rs.take (k + 1)).map (fun r => (r.h : Int)) = (rs.take k).map (fun r => (r.h : Int)) ++ [(y.h : Int)] := by
  rw [List.take_add_one, h]; simp
structure CI (w wr : World) (C : Nat) (rs : List Rr) (k : Nat) : Prop where
  d : ∃ vr vl vh ls, DP w wr C (rowP (rs.take k)) ((rs.take k).map (·.l)) ((rs.take k).map fun r => (r.h : Int)) vr vl vh ls
/-- What the copied queue holds, wherever nothing of it is touched. -/
structure Src (w : World) (D : Nat) (rs : List Rr) (k : Nat) (y : Rr) (ar al ah : Option Addr) (cr cl ch : Nat) (sl : Sl) : Prop where
  c : ∀ W, Below w.heap.size w W → W.cell? ⟨D, 0, none⟩ = some (.slice ar rs.length cr) ∧ W.cell? ⟨D, 1, none⟩ = some (.slice al rs.length cl) ∧ W.cell? ⟨D, 2, none⟩ = some (.slice ah rs.length ch)
  r : ∃ g g2 g3, ar = some ⟨g, 0, none⟩ ∧ al = some ⟨g2, 0, none⟩ ∧ ah = some ⟨g3, 0, none⟩ ∧ ∀ W, Below w.heap.size w W → W.cell? ⟨g, k * 2, none⟩ = some (I y.p) ∧ W.cell? ⟨g, k * 2 + 1, none⟩ = some (I y.c) ∧ W.cell? ⟨g2, k, none⟩ = some (.slice sl.a sl.n sl.c) ∧ W.cell? ⟨g3, k, none⟩ = some (I y.h) ∧ RowsAt W 1 inP sl y.l
set_option maxRecDepth 100000 in
set_option maxHeartbeats 8000000 in
theorem eCopy {w : World} {D : Nat} {N Y : Nat → Prop} {rs : List Rr} (h : DQ w D N Y rs) (hn : rs.length ≤ 64) (h16 : ∀ (i : Nat) (r : Rr), rs[i]? = some r → r.l.length ≤ 65536) : Calls Try.prog 27 #[dQ D] w fun e w' => ∃ C vr vl vh ls, e = .returned (dQ C) ∧ DP w w' C (rowP rs) (rs.map (·.l)) (rs.map fun r => (r.h : Int)) vr vl vh ls := by
  obtain ⟨i0, hi0, hz0, hz1, hz2⟩ := info_parts iinfo
  obtain ⟨i1, hi1, hy0, hy1, hy2⟩ := info_parts linfo
  obtain ⟨i2, hi2, hx0, hx1, hx2⟩ := info_parts rinfo
  obtain ⟨vr0, vl0, vh0, ls0, h⟩ := h
  obtain ⟨ar, cr, hvr⟩ := own_sl2 h.r
  obtain ⟨al, cl, hvl⟩ := own_sl2 h.l
  obtain ⟨ah, ch, hvh⟩ := own_sl2 h.h
  subst hvr hvl hvh
  have HC : Hid (∀ W, Below w.heap.size w W → W.cell? ⟨D, 0, none⟩ = some (.slice ar rs.length cr)) := fun W hb => (h.below hb).cells.1
  have HS : Hid (∀ (k : Nat), k < rs.length → ∃ (y : Rr) (sl : Sl), rs[k]? = some y ∧ y.l.length ≤ 65536 ∧ Src w D rs k y ar al ah cr cl ch sl) := fun k hk => by
    obtain ⟨y, hy⟩ : ∃ y, rs[k]? = some y := ⟨_, List.getElem?_eq_getElem hk⟩
    obtain ⟨g, c, e1, k1, k2⟩ := h.rowAt hy
    obtain ⟨g2, c2, s, e2, hs, k3, _, k4⟩ := h.lAt hy
    obtain ⟨g3, c3, e3, k5, _⟩ := h.hAt hy
    cases e1
    cases e2
    cases e3
    refine ⟨y, s, hy, h16 k y hy, fun W hb => (h.below hb).cells, g, g2, g3, rfl, rfl, rfl, fun W hb => ?_⟩
    have f := fun {g i v} (hc : w.cell? ⟨g, i, none⟩ = some v) => (hb.cell (p := ⟨g, i, none⟩) (World.block_lt_of_cell? _ _ hc)).trans hc
    exact ⟨f k1, f k2, f k3, f k5, inRows_kept k4 (M := fun _ => False) (Fz.of_below hb) (fun _ _ _ e => e)⟩
  have H0 : Hid (CI w (w.alloc (.cells #[.slice none 0 0, .slice none 0 0, .slice none 0 0] 78)) w.heap.size rs 0) := ⟨⟨_, _, _, [], heap_alloc_new w _, World.ownsRow_nil _ _ _ _, World.ownsRow_nil _ _ _ _, World.ownsRow_nil _ _ _ _, rfl, fun i x s hx => by simp at hx, below_alloc w _, Nat.le_refl _⟩⟩
  clear h h16
  go_enter Try.func27, Try.ntmps27
  go_wp2
  generalize (w.alloc (.cells #[.slice none 0 0, .slice none 0 0, .slice none 0 0] 78)) = W0 at *
  generalize hC : w.heap.size = C at H0 ⊢
  clear hC
  go_loopw [4] (fun j wr => ∃ (k : Nat), k ≤ rs.length ∧ j = .int .i64 k ∧ Hid (CI w wr C rs k)) (fun j _ => rs.length - (intOf j).toNat)
  case atStart => exact ⟨0, Nat.zero_le _, rfl, H0.out⟩
  case round =>
    clear H0
    obtain ⟨k, hk, rfl, HI⟩ := hrel
    have hk0 : ¬ (k : Int) < 0 := by omega
    obtain ⟨vr, vl, vh, ls, hd⟩ := HI.out.d
    have HB : Hid (Below w.heap.size w wr) := hd.b
    have d0 := HC.out wr hd.b
    by_cases hlt : k < rs.length
    · obtain ⟨y, sl, hy, hyl, hsrc⟩ := HS.out k hlt
      obtain ⟨g, g2, g3, rfl, rfl, rfl, hcs⟩ := hsrc.r
      have hcD := hsrc.c
      have hkI : (k : Int) < rs.length := by omega
      have HT : Hid (rowP (rs.take (k + 1)) = rowP (rs.take k) ++ [((y.p : Int), (y.c : Int))] ∧ (rs.take (k + 1)).map (·.l) = (rs.take k).map (·.l) ++ [y.l] ∧ (rs.take (k + 1)).map (fun r => (r.h : Int)) = (rs.take k).map (fun r => (r.h : Int)) ++ [(y.h : Int)]) := ⟨rowP_take hy, lsP_take hy, hsP_take hy⟩
      have hl1 : (rowP (rs.take k)).length = k := by simp [rowP]; omega
      have hl2 : ((rs.take k).map (·.l)).length = k := by simp; omega
      have hl3 : ((rs.take k).map (fun r => (r.h : Int))).length = k := by simp; omega
      have HL : Hid ((rowP (rs.take k)).length = k ∧ ((rs.take k).map (·.l)).length = k ∧ ((rs.take k).map (fun r => (r.h : Int))).length = k) := ⟨hl1, hl2, hl3⟩
      have HCS : Hid (∀ W, Below w.heap.size w W → (W.cell? ⟨D, 0, none⟩ = some (.slice (some ⟨g, 0, none⟩) rs.length cr) ∧ W.cell? ⟨D, 1, none⟩ = some (.slice (some ⟨g2, 0, none⟩) rs.length cl) ∧ W.cell? ⟨D, 2, none⟩ = some (.slice (some ⟨g3, 0, none⟩) rs.length ch)) ∧ W.cell? ⟨g, k * 2, none⟩ = some (I y.p) ∧ W.cell? ⟨g, k * 2 + 1, none⟩ = some (I y.c) ∧ W.cell? ⟨g2, k, none⟩ = some (.slice sl.a sl.n sl.c) ∧ W.cell? ⟨g3, k, none⟩ = some (I y.h) ∧ RowsAt W 1 inP sl y.l) := fun W hb => ⟨hcD W hb, hcs W hb⟩
      clear hl1 hl2 hl3 hcs hcD hsrc hy HI
      obtain ⟨⟨-, e1, -⟩, -, -, e2, -, eR⟩ := HCS.out wr hd.b
      have HR : Hid (RowsAt wr 1 inP sl y.l) := eR
      clear eR
      have hbs := hd.b.size
      go_wp2_with (first
        | (at_builtin; refine wpList_append_sl _ rfl _ _ 76 rfl wr.heap.size 3 i0 (.int .i64 0) 8 Try.underlying76 hi0 hz0 hz1 hz2 rfl (.slice none 0 0) 0 [] sl y.l rfl rfl (World.ownsRow_nil _ _ _ _) HR.out (by unfold maxLen; omega) (by omega) (Nat.le_refl _) ?_
           intro v1 w1 h1 hg1
           rw [Nat.zero_add, List.nil_append] at h1
           have b1 : Below wr.heap.size wr w1 := (Below.refl _ wr).grown hg1 (Nat.le_refl _) (fun k e => by cases e)
           obtain ⟨⟨sa1, sn1, sc1⟩, e3, hR1, hs1⟩ := own_in h1 rfl
           have e4 : v1 = .slice sa1 sn1 sc1 := e3
           clear e3
           subst e4
           have hd1 := hd.below b1
           clear hg1 HR e1 e2 h1))
      have bw1 : Below w.heap.size w w1 := hd1.b
      obtain ⟨⟨f0, f1, f2⟩, f3, f4, -, -, -⟩ := HCS.out w1 bw1
      have k0 : w1.cell? ⟨C, 0, none⟩ = some vr := hd1.cells.1
      have k3 : ∀ o, (w1.alloc o).cell? ⟨C, 0, none⟩ = some vr := fun o => (hd1.below (below_alloc _ o)).cells.1
      have hbs0 : w.heap.size ≤ w1.heap.size := bw1.size
      have hd3 := hd1.below ((Below.refl _ w1).drew)
      have hrow := own_below (hd1.r.alloc (.cells #[I y.p, I y.c] 65)) ((Below.refl _ _).drew)
      rw [HL.out.1] at hrow
      have HS1 : Hid (RowsAt w1 1 inP ⟨sa1, sn1, sc1⟩ y.l ∧ ∀ g off, sa1 = some ⟨g, off, none⟩ → wr.heap.size ≤ g ∧ (Value.slice sa1 sn1 sc1).ownBlock = some g ∧ ∃ cs, w1.heap[g]? = some (.cells cs 3)) := ⟨hR1, hs1⟩
      have HVh : Hid (∀ g, vh.ownBlock = some g → g < wr.heap.size) := fun g e => (hd.h.lt g e).2
      clear hR1 hs1 hd
      go_region_law
        (first | (refine step_append_gat rfl (.tmp 30) (.tmp 38) 22 rfl w.heap.size 65 i2 (.agg #[.int .i64 0, .int .i64 0]) 2 16 Try.underlying22 hi2 hx0 hx1 hx2 rfl (by decide) vr k (pairsC (rowP (rs.take k))) (by simp [Act.eval, Act.put]) hrow ⟨w1.heap.size, 0, none⟩ 1 1 [I y.p, I y.c] (by simp [Act.eval, Act.put]) rfl (fun j u hj => cell_two_new w1 _ _ _ j u hj) (by simp [Value.oneCell']) (by unfold maxLen; omega) (by omega) (by simp; exact Nat.le_succ_of_le hbs0) ?_; intro v2 w2 h2 hg2' hat2; have hg2 : (w1.drew.alloc (.cells #[I y.p, I y.c] 65)).grownBy w2 vr.ownBlock := hg2'; clear hg2'; obtain ⟨g5, c5, rfl⟩ := ownsRow_succ h2; have k5 := cell3 (hd3.after (.inl rfl) hg2); have k6 := k5.1; have k7 := k5.2.2.2 0))
      all_goals
        have hd4 : DP w (w2.setCell ⟨C, 0, none⟩ (.slice (some ⟨g5, 0, none⟩) (k + 1) c5)) C (rowP (rs.take k) ++ [((y.p : Int), (y.c : Int))]) ((rs.take k).map (·.l)) ((rs.take k).map fun r => (r.h : Int)) (.slice (some ⟨g5, 0, none⟩) (k + 1) c5) vl vh ls := hd3.addR (by rw [HL.out.1]; exact h2) hg2
        have HS2 : Hid (RowsAt (w2.setCell ⟨C, 0, none⟩ (.slice (some ⟨g5, 0, none⟩) (k + 1) c5)) 1 inP ⟨sa1, sn1, sc1⟩ y.l ∧ ∀ g off, sa1 = some ⟨g, off, none⟩ → w.heap.size ≤ g ∧ vh.ownBlock ≠ some g ∧ ∃ cs, (w2.setCell ⟨C, 0, none⟩ (.slice (some ⟨g5, 0, none⟩) (k + 1) c5)).heap[g]? = some (.cells cs 3)) := by
          have hF := grown_fz hg2
          have gs : Fz (fun b => b = C) w2 (w2.setCell ⟨C, 0, none⟩ (.slice (some ⟨g5, 0, none⟩) (k + 1) c5)) := (Fz.refl (fun b => b = C) w2).set (b := C) (.inl rfl) 0 _
          have q : ∀ g off, sa1 = some ⟨g, off, none⟩ → ¬ vr.ownBlock = some g ∧ ¬ g = C := fun g off e => by
            obtain ⟨m1, m2, cs, m3⟩ := HS1.out.2 g off e
            refine ⟨fun e2 => ?_, fun e2 => ?_⟩
            · obtain ⟨c2, h2⟩ := own_blk hd3.r e2
              exact ty_ne (w := w1) m3 h2 (by decide) rfl
            · rw [e2] at m3
              exact ty_ne (w := w1) m3 hd3.o (by decide) rfl
          refine ⟨inRows_kept (inRows_kept (w := w1.drew) (inRows_kept HS1.out.1 (M := fun _ => False) (Fz.of_below ((Below.refl _ w1).drew)) (fun _ _ _ e => e)) hF (fun g off e => (q g off e).1)) gs (fun g off e => (q g off e).2), fun g off e => ?_⟩
          obtain ⟨m1, m2, cs, m3⟩ := HS1.out.2 g off e
          exact ⟨by omega, fun e2 => by have := HVh.out g e2; omega, cs, gs.heap (hF.heap (a := w1.drew) m3 (q g off e).1) (q g off e).2⟩
        clear h2 hg2 hat2 k5 k6 k7 f0 f1 f2 f3 f4 k0 k3 hd3 hrow
        generalize (w2.setCell ⟨C, 0, none⟩ (.slice (some ⟨g5, 0, none⟩) (k + 1) c5)) = W5 at *
        obtain ⟨m0, m1, m2, m3⟩ := hd4.cells
        have hrowL := hd4.l.alloc (.cells #[.slice sa1 sn1 sc1] 76)
        rw [HL.out.2.1] at hrowL
        have hbs5 := hd4.b.size
        go_wp2_with (first
          | (at_builtin; refine wpList_append_own_at _ rfl _ _ 75 rfl w.heap.size 76 i1 (.slice none 0 0) 1 24 Try.underlying75 hi1 hy0 hy1 hy2 rfl (by decide) vl k _ rfl hrowL ⟨W5.heap.size, 0, none⟩ 1 1 [.slice sa1 sn1 sc1] rfl rfl (cell_one_new _ _ _) (by simp [Value.oneCell']) (by unfold maxLen; omega) (by omega) (by simp; omega) ?_
             intro v3 w3 h3 hg3 _ hat3
             obtain ⟨g6, c6, rfl⟩ := ownsRow_succ h3
             have k5 := cell3 (hd4.after (.inr (.inl rfl)) hg3)
             have k6 := k5.2.1
             have k7 := k5.2.2.2 1
             have hd5 := hd4.addL (s' := ⟨sa1, sn1, sc1⟩) (l' := y.l) (v' := .slice (some ⟨g6, 0, none⟩) (k + 1) c6) HS2.out.1 HS2.out.2 (by rw [HL.out.2.1]; exact h3) hg3
             clear h3 hg3 hat3 hrowL k5 hd4))
        clear k6 k7 m0 m1 m2 m3 HS2
        generalize (w3.setCell ⟨C, 1, none⟩ (.slice (some ⟨g6, 0, none⟩) (k + 1) c6)) = W6 at *
        obtain ⟨⟨-, -, f2⟩, -, -, -, f5, -⟩ := HCS.out W6 hd5.b
        have k0 : W6.cell? ⟨C, 2, none⟩ = some vh := hd5.cells.2.2.1
        have k3 : ∀ o, (W6.alloc o).cell? ⟨C, 2, none⟩ = some vh := fun o => (hd5.below (below_alloc _ o)).cells.2.2.1
        have hbs6 : w.heap.size ≤ W6.heap.size := hd5.b.size
        have hd6 := hd5.below ((Below.refl _ W6).drew)
        have hrow := own_below (hd5.h.alloc (.cells #[I y.h] 3)) ((Below.refl _ _).drew)
        rw [HL.out.2.2] at hrow
        clear hd5
        go_region_law
          (first | (refine step_append_gat rfl (.tmp 56) (.tmp 64) 76 rfl w.heap.size 3 i0 (.int .i64 0) 1 8 Try.underlying76 hi0 hz0 hz1 hz2 rfl (by decide) vh k _ (by simp [Act.eval, Act.put]) hrow ⟨W6.heap.size, 0, none⟩ 1 1 [I y.h] (by simp [Act.eval, Act.put]) rfl (fun j u hj => cell_one_new W6 _ _ j u hj) (by simp [Value.oneCell']) (by unfold maxLen; omega) (by omega) (by simp; exact Nat.le_succ_of_le hbs6) ?_; intro v4 w4 h4 hg4' hat4'; have hg4 : (W6.drew.alloc (.cells #[I y.h] 3)).grownBy w4 vh.ownBlock := hg4'; have hat4 : v4.ownBlock = vh.ownBlock ∨ v4.ownBlock = some (W6.drew.alloc (.cells #[I y.h] 3)).heap.size := hat4'; clear hg4' hat4'; obtain ⟨g7, c7, rfl⟩ := ownsRow_succ h4; have k5 := cell3 (hd6.after (.inr (.inr rfl)) hg4); have k6 := k5.2.2.1; have k7 := k5.2.2.2 2))
        all_goals
          have hd7 := hd6.addH (q := y.h) (v' := .slice (some ⟨g7, 0, none⟩) (k + 1) c7) (by rw [HL.out.2.2]; exact h4) hg4 hat4
          have H9 : Hid (CI w (w4.setCell ⟨C, 2, none⟩ (.slice (some ⟨g7, 0, none⟩) (k + 1) c7)) C rs (k + 1)) := ⟨⟨_, _, _, _, by rw [HT.out.1, HT.out.2.1, HT.out.2.2]; exact hd7⟩⟩
          clear hd7 h4 hg4 hat4 k5 k6 k7
          go_wp2
          go_roundw
          case rel => exact ⟨k + 1, by omega, by go_num, H9.out⟩
          case measure => simp [intOf]; omega
    · obtain rfl : k = rs.length := by omega
      have hge : ¬ ((rs.length : Int) < rs.length) := by omega
      go_wp2
      go_ret
      rw [List.take_length] at hd
      exact ⟨C, rfl, vr, vl, vh, ls, hd⟩
end Go.Proofs.Yticgikbnlpgnkaa
