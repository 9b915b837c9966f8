import Derived.Test.YticgikbnlpgnkaaYu
namespace Go.Proofs.Yticgikbnlpgnkaa
open Go.RowKit
set_option linter.unusedVariables false
set_option linter.unusedSimpArgs false

/-! ### The document's New -/
theorem linfo : (Try.prog.info? 76).map (fun i => (i.zero, i.size, i.bytes)) = some (some (.slice none 0 0), 1, 24) := by kernel_rfl
theorem rinfo : (Try.prog.info? 65).map (fun i => (i.zero, i.size, i.bytes)) = some (some (.agg #[.int .i64 0, .int .i64 0]), 2, 16) := by kernel_rfl
section
variable {w0 wr : World} {C : Nat} {rws : List (Int × Int)} {Ls : List (List Int)} {hs : List Int} {vr vl vh : Value} {ls : List Sl}
theorem DP.after (h : DP w0 wr C rws Ls hs vr vl vh ls) {O : Obj} {w1 : World} {v : Value} (hv : v = vr ∨ v = vl ∨ v = vh) (hg : (wr.alloc O).grownBy w1 v.ownBlock) : w1.heap[C]? = some (.cells #[vr, vl, vh] 78) := by
  refine (grown_fz hg).heap h.o (fun e => ?_)
  rcases hv with rfl | rfl | rfl
  · obtain ⟨cs, hcs⟩ := own_blk h.r e; exact ty_ne h.o hcs (by decide) rfl
  · obtain ⟨cs, hcs⟩ := own_blk h.l e; exact ty_ne h.o hcs (by decide) rfl
  · obtain ⟨cs, hcs⟩ := own_blk h.h e; exact ty_ne h.o hcs (by decide) rfl
end
theorem cell3 {w : World} {C : Nat} {a b c : Value} {T : TypeId} (h : w.heap[C]? = some (.cells #[a, b, c] T)) : w.cell? ⟨C, 0, none⟩ = some a ∧ w.cell? ⟨C, 1, none⟩ = some b ∧ w.cell? ⟨C, 2, none⟩ = some c ∧ ∀ j, w.frozen? ⟨C, j, none⟩ = false := by
  refine ⟨?_, ?_, ?_, fun j => frozen_of_row w C j _ _ h⟩ <;> (rw [cell_of_row w C _ _ _ (0, 0) h]; rfl)
structure NI (w0 wr : World) (C : Nat) (l : List (Int × Int)) (k : Nat) (t : Int) : Prop where
  d : ∃ vr vl vh ls, DP w0 wr C (l.take k) (List.replicate k []) (List.replicate k 0) vr vl vh ls
  f : fitB 64 l = fitB t (l.drop k)
  p : (k = 0 ∧ t = 64) ∨ ∃ j d, k = j + 1 ∧ l[j]? = some (t, d)
  q : (k : Int) + t ≤ 64 ∧ 0 ≤ t
theorem fit_bad {t p c : Int} {r : List (Int × Int)} (h : ¬ ((0 ≤ p ∧ p ≤ 63) ∧ p < t ∧ (1 ≤ c ∧ c ≤ 65536))) : fitB t ((p, c) :: r) = false := by
  by_cases e : fitB t ((p, c) :: r) = true
  · simp only [fitB, Bool.and_eq_true, decide_eq_true_eq] at e
    exact absurd ⟨e.1.1.1, e.1.1.2, e.1.2⟩ h
  · simpa using e
theorem fit_good {t p c : Int} {r : List (Int × Int)} (h : (0 ≤ p ∧ p ≤ 63) ∧ p < t ∧ (1 ≤ c ∧ c ≤ 65536)) : fitB t ((p, c) :: r) = fitB p r := by
  simp only [fitB]
  rw [decide_eq_true h.1, decide_eq_true h.2.1, decide_eq_true h.2.2]
  simp
/-- What New answers. -/
def NewP (w : World) (l : List (Int × Int)) (e : Ending) (w' : World) : Prop := Below w.heap.size w w' ∧ ((fitB 64 l = false ∧ e = .returned (.tuple #[.pointer none, I 133])) ∨ (fitB 64 l = true ∧ ∃ C, e = .returned (.tuple #[dQ C, I 0]) ∧ ∃ vr vl vh ls, DP w w' C l (List.replicate l.length []) (List.replicate l.length 0) vr vl vh ls))
set_option maxRecDepth 100000 in
set_option maxHeartbeats 8000000 in
theorem eNew (w : World) (s : Sl) (l : List (Int × Int)) (h : RowsAt w 2 rwP s l) : Calls Try.prog 29 #[.slice s.a s.n s.c] w fun e w' => NewP w l e w' := by
  obtain ⟨i0, hi0, hz0, hz1, hz2⟩ := info_parts iinfo
  obtain ⟨i1, hi1, hy0, hy1, hy2⟩ := info_parts linfo
  obtain ⟨i2, hi2, hx0, hx1, hx2⟩ := info_parts rinfo
  obtain ⟨a1, n1, c1⟩ := s
  have hn1 := h.n
  simp only at hn1
  subst hn1
  have hm := Nat.le_trans h.c h.m
  simp only at hm
  unfold maxLen at hm
  have HH : Hid (RowsAt w 2 rwP ⟨a1, l.length, c1⟩ l) := h
  have H0 : Hid (NI w (w.alloc (.cells #[.slice none 0 0, .slice none 0 0, .slice none 0 0] 78)) w.heap.size l 0 64) := ⟨⟨_, _, _, [], heap_alloc_new w _, World.ownsRow_nil _ _ _ _, World.ownsRow_nil _ _ _ _, World.ownsRow_nil _ _ _ _, rfl, fun i x s hx => by simp at hx, below_alloc w _, Nat.le_refl _⟩, rfl, .inl ⟨rfl, rfl⟩, by omega⟩
  clear h
  simp only
  go_enter Try.func29, Try.ntmps29
  go_wp2
  generalize (w.alloc (.cells #[.slice none 0 0, .slice none 0 0, .slice none 0 0] 78)) = W0 at *
  generalize hC : w.heap.size = C at *
  have HC : Hid (w.heap.size = C) := hC
  clear hC
  go_loopw [5] (fun j wr => ∃ (k : Nat) (t : Int), k ≤ l.length ∧ j = .int .i64 k ∧ Hid (NI w wr C l k t)) (fun j _ => l.length - (intOf j).toNat)
  case atStart => exact ⟨0, 64, Nat.zero_le _, rfl, H0.out⟩
  case round =>
    clear H0
    obtain ⟨k, t, hk, rfl, HI⟩ := hrel
    have hk0 : ¬ (k : Int) < 0 := by omega
    by_cases hlt : k < l.length
    · obtain ⟨⟨p, c⟩, hx⟩ : ∃ x, l[k]? = some x := ⟨_, List.getElem?_eq_getElem hlt⟩
      obtain ⟨⟨vr, vl, vh, ls, hd⟩, hf, hpp, hqq⟩ := HI.out
      obtain ⟨g, off, rfl, x0, x1, hg⟩ := HH.out.two hd.b hx
      have hdr : l.drop k = (p, c) :: l.drop (k + 1) := by
        rw [List.drop_eq_getElem_cons hlt]
        congr 1
        have := List.getElem?_eq_getElem hlt
        rw [hx] at this
        exact (Option.some.inj this).symm
      rw [hdr] at hf
      have htk : l.take (k + 1) = l.take k ++ [(p, c)] := by rw [List.take_add_one, hx]; rfl
      have hltI : (k : Int) < l.length := by omega
      have hst := run_storeCells_new (P := Try.prog) wr 65 #[.int .i64 0, .int .i64 0] #[I p, I c] (by kernel_rfl) rfl (by simp [Value.oneCell'])
      have HF : Hid (fitB 64 l = fitB t ((p, c) :: l.drop (k + 1)) ∧ l.take (k + 1) = l.take k ++ [(p, c)] ∧ l[k]? = some (p, c)) := ⟨hf, htk, hx⟩
      have b1 : Below w.heap.size w (wr.alloc (.cells #[I p, I c] 65)) := hd.b.alloc hd.b.size _
      have bW := below_alloc wr (.cells #[I p, I c] 65)
      have y0 : (wr.alloc (.cells #[I p, I c] 65)).cell? ⟨wr.heap.size, 0, none⟩ = some (I p) := by rw [cell_of_row _ _ _ _ _ (0, 0) (heap_alloc_new wr _)]; rfl
      have y1 : (wr.alloc (.cells #[I p, I c] 65)).cell? ⟨wr.heap.size, 1, none⟩ = some (I c) := by rw [cell_of_row _ _ _ _ _ (0, 0) (heap_alloc_new wr _)]; rfl
      have hd1 := hd.below bW
      have HY : Hid (wr.heap.size < (wr.alloc (.cells #[I p, I c] 65)).heap.size) := by show _ < _; simp
      have HPv : Hid (∀ j d, k = j + 1 → l[j]? = some (t, d) → (wr.alloc (.cells #[I p, I c] 65)).cell? ⟨g, off + j * 2, none⟩ = some (I t)) := fun j d e hj => by
        obtain ⟨g2, off2, e2, z0, _⟩ := HH.out.two b1 hj
        cases e2
        exact z0
      have HVr : Hid (∀ g, vr.ownBlock = some g → g < wr.heap.size) := fun g e => (hd.r.lt g e).2
      have hNE : wr.heap.size ≠ C := by have := heap_lt hd.o; omega
      have hk48 : k ≤ 64 := by omega
      clear hdr hf hx htk HI hd
      go_wp2
      clear hst x0 x1
      have BW : Hid (Below wr.heap.size wr (wr.alloc (.cells #[I p, I c] 65))) := bW
      clear bW
      generalize (wr.alloc (.cells #[I p, I c] 65)) = W at *
      by_cases hA : p < 0
      · go_quiet (fail)
        have b9 := below_drewN nq b1
        clear y0 y1 hd1 HPv
        generalize W.drewN nq = W9 at *
        go_wp2
        go_ret2
        exact ⟨b9, .inl ⟨by rw [HF.out.1]; exact fit_bad (by omega), rfl⟩⟩
      · by_cases hB : 63 < p
        · go_quiet (fail)
          have b9 := below_drewN nq b1
          clear y0 y1 hd1 HPv
          generalize W.drewN nq = W9 at *
          go_wp2
          go_ret2
          exact ⟨b9, .inl ⟨by rw [HF.out.1]; exact fit_bad (by omega), rfl⟩⟩
        · rcases hpp with ⟨rfl, rfl⟩ | ⟨j, d, rfl, hj⟩
          · by_cases hD : c < 1
            · go_quiet (fail)
              have b9 := below_drewN nq b1
              clear y0 y1 hd1 HPv
              generalize W.drewN nq = W9 at *
              go_wp2
              go_ret2
              exact ⟨b9, .inl ⟨by rw [HF.out.1]; exact fit_bad (by omega), rfl⟩⟩
            · by_cases hE : 65536 < c
              · go_quiet (fail)
                have b9 := below_drewN nq b1
                clear y0 y1 hd1 HPv
                generalize W.drewN nq = W9 at *
                go_wp2
                go_ret2
                exact ⟨b9, .inl ⟨by rw [HF.out.1]; exact fit_bad (by omega), rfl⟩⟩
              · go_quiet (fail)
                have bD : Below W.heap.size W (W.drewN nq) := below_drewN nq (Below.refl _ _)
                have hd2 := hd1.below bD
                have y2 : (W.drewN nq).cell? ⟨wr.heap.size, 0, none⟩ = some (I p) := (bD.cell (p := ⟨wr.heap.size, 0, none⟩) HY.out).trans y0
                have y3 : (W.drewN nq).cell? ⟨wr.heap.size, 1, none⟩ = some (I c) := (bD.cell (p := ⟨wr.heap.size, 1, none⟩) HY.out).trans y1
                have HY2 : Hid (wr.heap.size < (W.drewN nq).heap.size) := Nat.lt_of_lt_of_le HY.out bD.size
                clear y0 y1 hd1 HPv b1 
                generalize W.drewN nq = W9 at *
                have hd3 := hd2.below ((Below.refl _ W9).drew)
                have k0 : W9.drew.cell? ⟨C, 0, none⟩ = some vr := hd3.cells.1
                have k1 : W9.cell? ⟨C, 0, none⟩ = some vr := hd2.cells.1
                have k2 : ∀ o, (W9.drew.alloc o).cell? ⟨C, 0, none⟩ = some vr := fun o => (hd3.below (below_alloc _ o)).cells.1
                have hbs0 : w.heap.size ≤ W9.heap.size := hd2.b.size
                have hrl : (l.take 0).length = 0 := by rw [List.length_take]; omega
                have hrow := own_below (hd2.r.alloc (.cells #[I p, I c] 65)) ((Below.refl _ _).drew)
                have k3 : ∀ o, (W9.alloc o).cell? ⟨C, 0, none⟩ = some vr := fun o => (hd2.below (below_alloc _ o)).cells.1
                have y7 : ∀ o, (W9.alloc o).cell? ⟨wr.heap.size, 0, none⟩ = some (I p) := fun o => ((below_alloc W9 o).cell (p := ⟨wr.heap.size, 0, none⟩) HY2.out).trans y2
                have y8 : ∀ o, (W9.alloc o).cell? ⟨wr.heap.size, 1, none⟩ = some (I c) := fun o => ((below_alloc W9 o).cell (p := ⟨wr.heap.size, 1, none⟩) HY2.out).trans y3
                rw [hrl] at hrow
                go_wp2
                have y5 : W9.drew.cell? ⟨wr.heap.size, 0, none⟩ = some (I p) := y2
                have y6 : W9.drew.cell? ⟨wr.heap.size, 1, none⟩ = some (I c) := y3
                go_region_law
                  (first | (refine step_append_gat rfl (.tmp 56) (.tmp 58) 22 rfl w.heap.size 65 i2 (.agg #[.int .i64 0, .int .i64 0]) 2 16 Try.underlying22 hi2 hx0 hx1 hx2 rfl (by decide) vr 0 (pairsC (l.take 0)) (by simp [Act.eval, Act.put]) hrow ⟨W9.heap.size, 0, none⟩ 1 1 [I p, I c] (by simp [Act.eval, Act.put]) rfl (fun j u hj => cell_two_new W9 _ _ _ j u hj) (by simp [Value.oneCell']) (by unfold maxLen; omega) (by omega) (by simp; exact Nat.le_succ_of_le hbs0) ?_; intro v2 w2 h2 hg2' hat2; have hg2 : (W9.drew.alloc (.cells #[I p, I c] 65)).grownBy w2 vr.ownBlock := hg2'; clear hg2'; obtain ⟨g5, c5, rfl⟩ := ownsRow_succ h2; have k5 := cell3 (hd3.after (.inl rfl) hg2); have k6 := k5.1; have k7 := k5.2.2.2 0))
                all_goals
                  have hd4 : DP w (w2.setCell ⟨C, 0, none⟩ (.slice (some ⟨g5, 0, none⟩) (0 + 1) c5)) C (l.take 0 ++ [(p, c)]) (List.replicate 0 []) (List.replicate 0 0) (.slice (some ⟨g5, 0, none⟩) (0 + 1) c5) vl vh ls := hd3.addR (by rw [hrl]; exact h2) hg2
                  clear h2 hg2 hat2 k5 k6 k7 y2 y3 y5 y6 y7 y8 k3 k0 k1 k2 hd3 hd2 hrow
                  generalize (w2.setCell ⟨C, 0, none⟩ (.slice (some ⟨g5, 0, none⟩) (0 + 1) c5)) = W5 at *
                  obtain ⟨m0, m1, m2, m3⟩ := hd4.cells
                  have hls : (List.replicate 0 ([] : List Int)).length = 0 := by simp
                  have hls2 : (List.replicate 0 (0 : Int)).length = 0 := by simp
                  have hrowL := hd4.l.alloc (.cells #[.slice none 0 0] 76)
                  rw [hls] at hrowL
                  have hbs5 := hd4.b.size
                  go_wp2_with (first
                    | (at_builtin; refine wpList_append_own_at _ rfl _ _ 75 rfl w.heap.size 76 i1 (.slice none 0 0) 1 24 Try.underlying75 hi1 hy0 hy1 hy2 rfl (by decide) vl 0 _ rfl hrowL ⟨W5.heap.size, 0, none⟩ 1 1 [.slice none 0 0] rfl rfl (cell_one_new _ _ _) (by simp [Value.oneCell']) (by unfold maxLen; omega) (by omega) (by simp; omega) ?_
                       intro v3 w3 h3 hg3 _ hat3
                       obtain ⟨g6, c6, rfl⟩ := ownsRow_succ h3
                       have k5 := cell3 (hd4.after (.inr (.inl rfl)) hg3)
                       have k6 := k5.2.1
                       have k7 := k5.2.2.2 1
                       have hd5 := hd4.addL (s' := ⟨none, 0, 0⟩) (l' := []) (v' := .slice (some ⟨g6, 0, none⟩) (0 + 1) c6) ⟨rfl, Nat.le_refl _, Nat.zero_le _, fun j x hj => by simp at hj⟩ (fun g off e => by cases e) (by rw [hls]; exact h3) hg3
                       clear h3 hg3 hat3 hrowL k5 hd4
                       obtain ⟨q0, q1, q2, q3⟩ := hd5.cells
                       have hrowH := hd5.h.alloc (.cells #[I 0] 3)
                       rw [hls2] at hrowH
                       have hcw := cell_one_new (w3.setCell ⟨C, 1, none⟩ (.slice (some ⟨g6, 0, none⟩) (0 + 1) c6)) (I 0) 3
                       rw [World.size_setCell] at hcw
                       have hbs6 := hd5.b.size)
                    | (at_builtin; refine wpList_append_own_at _ rfl _ _ 76 rfl w.heap.size 3 i0 (.int .i64 0) 1 8 Try.underlying76 hi0 hz0 hz1 hz2 rfl (by decide) vh 0 _ rfl hrowH ⟨w3.heap.size, 0, none⟩ 1 1 [I 0] rfl rfl hcw (by simp [Value.oneCell']) (by unfold maxLen; omega) (by omega) (by simp; simp at hbs6; omega) ?_
                       intro v4 w4 h4 hg4 _ hat4
                       obtain ⟨g7, c7, rfl⟩ := ownsRow_succ h4
                       have k8 := cell3 (hd5.after (.inr (.inr rfl)) hg4)
                       have k9 := k8.2.2.1
                       have k10 := k8.2.2.2 2
                       have hd6 := hd5.addH (q := 0) (v' := .slice (some ⟨g7, 0, none⟩) (0 + 1) c7) (by rw [hls2]; exact h4) hg4 hat4
                       clear h4 hg4 hat4 hrowH k8 hd5))
                  have r1 : List.replicate (0 + 1) ([] : List Int) = List.replicate 0 [] ++ [[]] := List.replicate_succ'
                  have r2 : List.replicate (0 + 1) (0 : Int) = List.replicate 0 0 ++ [0] := List.replicate_succ'
                  have H9 : Hid (NI w (w4.setCell ⟨C, 2, none⟩ (.slice (some ⟨g7, 0, none⟩) (0 + 1) c7)) C l (0 + 1) p) := ⟨⟨_, _, _, _, by rw [HF.out.2.1, r1, r2]; exact hd6⟩, by rw [HF.out.1]; exact fit_good ⟨by omega, by omega, by omega⟩, .inr ⟨0, c, rfl, HF.out.2.2⟩, by omega⟩
                  clear hd6 r1 r2
                  go_roundw
                  case rel => exact ⟨0 + 1, p, by omega, by go_num, H9.out⟩
                  case measure => simp [intOf]; omega
          · have xp := HPv.out j d rfl hj
            have hj0 : ¬ (j : Int) < 0 := by omega
            have hjI : (j : Int) < l.length := by omega
            have hk1 : (0 : Int) < ((j + 1 : Nat) : Int) := by omega
            clear hj
            by_cases hG : t ≤ p
            · go_quiet (fail)
              have b9 := below_drewN nq b1
              clear y0 y1 hd1 HPv
              generalize W.drewN nq = W9 at *
              go_wp2
              go_ret2
              exact ⟨b9, .inl ⟨by rw [HF.out.1]; exact fit_bad (by omega), rfl⟩⟩
            · by_cases hD : c < 1
              · go_quiet (fail)
                have b9 := below_drewN nq b1
                clear y0 y1 hd1 HPv
                generalize W.drewN nq = W9 at *
                go_wp2
                go_ret2
                exact ⟨b9, .inl ⟨by rw [HF.out.1]; exact fit_bad (by omega), rfl⟩⟩
              · by_cases hE : 65536 < c
                · go_quiet (fail)
                  have b9 := below_drewN nq b1
                  clear y0 y1 hd1 HPv
                  generalize W.drewN nq = W9 at *
                  go_wp2
                  go_ret2
                  exact ⟨b9, .inl ⟨by rw [HF.out.1]; exact fit_bad (by omega), rfl⟩⟩
                · go_quiet (fail)
                  have bD : Below W.heap.size W (W.drewN nq) := below_drewN nq (Below.refl _ _)
                  have hd2 := hd1.below bD
                  have y2 : (W.drewN nq).cell? ⟨wr.heap.size, 0, none⟩ = some (I p) := (bD.cell (p := ⟨wr.heap.size, 0, none⟩) HY.out).trans y0
                  have y3 : (W.drewN nq).cell? ⟨wr.heap.size, 1, none⟩ = some (I c) := (bD.cell (p := ⟨wr.heap.size, 1, none⟩) HY.out).trans y1
                  have HY2 : Hid (wr.heap.size < (W.drewN nq).heap.size) := Nat.lt_of_lt_of_le HY.out bD.size
                  clear y0 y1 hd1 HPv b1 xp
                  generalize W.drewN nq = W9 at *
                  have hd3 := hd2.below ((Below.refl _ W9).drew)
                  have k0 : W9.drew.cell? ⟨C, 0, none⟩ = some vr := hd3.cells.1
                  have k1 : W9.cell? ⟨C, 0, none⟩ = some vr := hd2.cells.1
                  have k2 : ∀ o, (W9.drew.alloc o).cell? ⟨C, 0, none⟩ = some vr := fun o => (hd3.below (below_alloc _ o)).cells.1
                  have hbs0 : w.heap.size ≤ W9.heap.size := hd2.b.size
                  have hrl : (l.take (j + 1)).length = (j + 1) := by rw [List.length_take]; omega
                  have hrow := own_below (hd2.r.alloc (.cells #[I p, I c] 65)) ((Below.refl _ _).drew)
                  have k3 : ∀ o, (W9.alloc o).cell? ⟨C, 0, none⟩ = some vr := fun o => (hd2.below (below_alloc _ o)).cells.1
                  have y7 : ∀ o, (W9.alloc o).cell? ⟨wr.heap.size, 0, none⟩ = some (I p) := fun o => ((below_alloc W9 o).cell (p := ⟨wr.heap.size, 0, none⟩) HY2.out).trans y2
                  have y8 : ∀ o, (W9.alloc o).cell? ⟨wr.heap.size, 1, none⟩ = some (I c) := fun o => ((below_alloc W9 o).cell (p := ⟨wr.heap.size, 1, none⟩) HY2.out).trans y3
                  rw [hrl] at hrow
                  go_wp2
                  have y5 : W9.drew.cell? ⟨wr.heap.size, 0, none⟩ = some (I p) := y2
                  have y6 : W9.drew.cell? ⟨wr.heap.size, 1, none⟩ = some (I c) := y3
                  go_region_law
                    (first | (refine step_append_gat rfl (.tmp 56) (.tmp 58) 22 rfl w.heap.size 65 i2 (.agg #[.int .i64 0, .int .i64 0]) 2 16 Try.underlying22 hi2 hx0 hx1 hx2 rfl (by decide) vr (j + 1) (pairsC (l.take (j + 1))) (by simp [Act.eval, Act.put]) hrow ⟨W9.heap.size, 0, none⟩ 1 1 [I p, I c] (by simp [Act.eval, Act.put]) rfl (fun j u hj => cell_two_new W9 _ _ _ j u hj) (by simp [Value.oneCell']) (by unfold maxLen; omega) (by omega) (by simp; exact Nat.le_succ_of_le hbs0) ?_; intro v2 w2 h2 hg2' hat2; have hg2 : (W9.drew.alloc (.cells #[I p, I c] 65)).grownBy w2 vr.ownBlock := hg2'; clear hg2'; obtain ⟨g5, c5, rfl⟩ := ownsRow_succ h2; have k5 := cell3 (hd3.after (.inl rfl) hg2); have k6 := k5.1; have k7 := k5.2.2.2 0))
                  all_goals
                    have hd4 : DP w (w2.setCell ⟨C, 0, none⟩ (.slice (some ⟨g5, 0, none⟩) ((j + 1) + 1) c5)) C (l.take (j + 1) ++ [(p, c)]) (List.replicate (j + 1) []) (List.replicate (j + 1) 0) (.slice (some ⟨g5, 0, none⟩) ((j + 1) + 1) c5) vl vh ls := hd3.addR (by rw [hrl]; exact h2) hg2
                    clear h2 hg2 hat2 k5 k6 k7 y2 y3 y5 y6 y7 y8 k3 k0 k1 k2 hd3 hd2 hrow
                    generalize (w2.setCell ⟨C, 0, none⟩ (.slice (some ⟨g5, 0, none⟩) ((j + 1) + 1) c5)) = W5 at *
                    obtain ⟨m0, m1, m2, m3⟩ := hd4.cells
                    have hls : (List.replicate (j + 1) ([] : List Int)).length = (j + 1) := by simp
                    have hls2 : (List.replicate (j + 1) (0 : Int)).length = (j + 1) := by simp
                    have hrowL := hd4.l.alloc (.cells #[.slice none 0 0] 76)
                    rw [hls] at hrowL
                    have hbs5 := hd4.b.size
                    go_wp2_with (first
                      | (at_builtin; refine wpList_append_own_at _ rfl _ _ 75 rfl w.heap.size 76 i1 (.slice none 0 0) 1 24 Try.underlying75 hi1 hy0 hy1 hy2 rfl (by decide) vl (j + 1) _ rfl hrowL ⟨W5.heap.size, 0, none⟩ 1 1 [.slice none 0 0] rfl rfl (cell_one_new _ _ _) (by simp [Value.oneCell']) (by unfold maxLen; omega) (by omega) (by simp; omega) ?_
                         intro v3 w3 h3 hg3 _ hat3
                         obtain ⟨g6, c6, rfl⟩ := ownsRow_succ h3
                         have k5 := cell3 (hd4.after (.inr (.inl rfl)) hg3)
                         have k6 := k5.2.1
                         have k7 := k5.2.2.2 1
                         have hd5 := hd4.addL (s' := ⟨none, 0, 0⟩) (l' := []) (v' := .slice (some ⟨g6, 0, none⟩) ((j + 1) + 1) c6) ⟨rfl, Nat.le_refl _, Nat.zero_le _, fun j x hj => by simp at hj⟩ (fun g off e => by cases e) (by rw [hls]; exact h3) hg3
                         clear h3 hg3 hat3 hrowL k5 hd4
                         obtain ⟨q0, q1, q2, q3⟩ := hd5.cells
                         have hrowH := hd5.h.alloc (.cells #[I 0] 3)
                         rw [hls2] at hrowH
                         have hcw := cell_one_new (w3.setCell ⟨C, 1, none⟩ (.slice (some ⟨g6, 0, none⟩) ((j + 1) + 1) c6)) (I 0) 3
                         rw [World.size_setCell] at hcw
                         have hbs6 := hd5.b.size)
                      | (at_builtin; refine wpList_append_own_at _ rfl _ _ 76 rfl w.heap.size 3 i0 (.int .i64 0) 1 8 Try.underlying76 hi0 hz0 hz1 hz2 rfl (by decide) vh (j + 1) _ rfl hrowH ⟨w3.heap.size, 0, none⟩ 1 1 [I 0] rfl rfl hcw (by simp [Value.oneCell']) (by unfold maxLen; omega) (by omega) (by simp; simp at hbs6; omega) ?_
                         intro v4 w4 h4 hg4 _ hat4
                         obtain ⟨g7, c7, rfl⟩ := ownsRow_succ h4
                         have k8 := cell3 (hd5.after (.inr (.inr rfl)) hg4)
                         have k9 := k8.2.2.1
                         have k10 := k8.2.2.2 2
                         have hd6 := hd5.addH (q := 0) (v' := .slice (some ⟨g7, 0, none⟩) ((j + 1) + 1) c7) (by rw [hls2]; exact h4) hg4 hat4
                         clear h4 hg4 hat4 hrowH k8 hd5))
                    have r1 : List.replicate ((j + 1) + 1) ([] : List Int) = List.replicate (j + 1) [] ++ [[]] := List.replicate_succ'
                    have r2 : List.replicate ((j + 1) + 1) (0 : Int) = List.replicate (j + 1) 0 ++ [0] := List.replicate_succ'
                    have H9 : Hid (NI w (w4.setCell ⟨C, 2, none⟩ (.slice (some ⟨g7, 0, none⟩) ((j + 1) + 1) c7)) C l ((j + 1) + 1) p) := ⟨⟨_, _, _, _, by rw [HF.out.2.1, r1, r2]; exact hd6⟩, by rw [HF.out.1]; exact fit_good ⟨by omega, by omega, by omega⟩, .inr ⟨(j + 1), c, rfl, HF.out.2.2⟩, by omega⟩
                    clear hd6 r1 r2
                    go_roundw
                    case rel => exact ⟨(j + 1) + 1, p, by omega, by go_num, H9.out⟩
                    case measure => simp [intOf]; omega
    · obtain rfl : k = l.length := by omega
      have hge : ¬ ((l.length : Int) < l.length) := by omega
      obtain ⟨⟨vr, vl, vh, ls, hd⟩, hf, hpp, hqq⟩ := HI.out
      clear hpp
      go_wp2
      go_ret2
      rw [List.drop_length] at hf
      rw [List.take_length] at hd
      exact ⟨hd.b, .inr ⟨by rw [hf]; rfl, C, rfl, vr, vl, vh, ls, hd⟩⟩
end Go.Proofs.Yticgikbnlpgnkaa
