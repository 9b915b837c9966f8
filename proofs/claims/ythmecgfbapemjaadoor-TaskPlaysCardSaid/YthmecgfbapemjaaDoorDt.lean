import Derived.Test.YthmecgfbapemjaaDoorDs
namespace Go.Proofs.YthmecgfbapemjaaDoor
open Go.RowKit Go.Shelf Go.Sort
set_option linter.unusedVariables false
set_option linter.unusedSimpArgs false

/-! ### The document's New -/
theorem mayN_no {rs : List Rw} {k : Nat} {x : Rw} (hx : rs[k]? = some x) (h : mayR x = false) : mayN rs = false := by
  rw [mayN]
  have : rs.all mayR = false := List.all_eq_false.2 ⟨x, List.mem_of_getElem? hx, by rw [h]; decide⟩
  rw [this, Bool.and_false]
/-- what New answers -/
def NewD (w : World) (rs : List Rw) (e : Ending) (w' : World) : Prop :=
  ((mayN rs = true ∧ ∃ D a b c, e = .returned (.tuple #[cP D, I 0]) ∧ Dk w' D true a b c rs (rstL rs.length) ∧ ∀ x, Db D a b c x → w.heap.size ≤ x) ∨ (mayN rs = false ∧ ∃ D, e = .returned (.tuple #[cP D, I 182]) ∧ w'.cell? ⟨D, 0, none⟩ = some (.bool false) ∧ w.heap.size ≤ D)) ∧ Below w.heap.size w w'
theorem newD_no {w wr : World} {rs : List Rw} (hb : Below w.heap.size w wr) (hm : mayN rs = false) : NewD w rs (.returned (.tuple #[cP wr.heap.size, I 182])) (wr.alloc (.cells #[.bool false, .slice none 0 0, .slice none 0 0, .slice none 0 0] 57)) :=
  ⟨.inr ⟨hm, _, rfl, by rw [cell_of_row _ _ _ _ _ (0, 0) (heap_alloc_new wr _)]; rfl, hb.size⟩, hb.trans ((below_alloc _ _).mono hb.size)⟩
set_option maxHeartbeats 8000000 in
set_option maxRecDepth 100000 in
theorem dNew_any {w : World} {v : Value} {rs : List Rw} (h : Src w 2 v rs.length (flR rs)) (hl : rs.length ≤ 9007199254740992) : Calls Tryd.prog 25 #[v] w fun e w' => NewD w rs e w' := by
  obtain ⟨ir, hir, hr0, hr1, hr2⟩ := info_parts rinfo
  obtain ⟨is, his, hs0, hs1, hs2⟩ := info_parts ginfo
  obtain ⟨ii, hii, hi0, hi1, hi2⟩ := info_parts iinfo
  by_cases h0 : rs.length ≤ 256
  · have HH : Hid (Src w 2 v rs.length (flR rs)) := h
    have hnI : ¬ ((256 : Int) < rs.length) := by omega
    obtain ⟨a, c, rfl⟩ := h.sl
    have HY : Hid (Gd w (w.alloc (.cells #[.bool true, .slice none 0 0, .slice none 0 0, .slice none 0 0] 57)) w.heap.size (.slice none 0 0) (.slice none 0 0) (.slice none 0 0) 0 0 0 (flR (rs.take 0)) (stL (rstL 0)) (nL (rstL 0)) ∧ ∀ (j : Nat) (y : Rw), j < 0 → rs[j]? = some y → mayR y = true) := ⟨Gd.mk0 w, fun j y hj => absurd hj (by omega)⟩
    clear h
    go_enter Tryd.func25, Tryd.ntmps25
    go_wp2
    go_loopw [5] (fun v5 wr => ∃ (k : Nat) (u0 u1 u2 : Value), k ≤ rs.length ∧ v5 = I k ∧ Hid (Gd w wr w.heap.size u0 u1 u2 k k k (flR (rs.take k)) (stL (rstL k)) (nL (rstL k)) ∧ ∀ (j : Nat) (y : Rw), j < k → rs[j]? = some y → mayR y = true)) (fun v5 _ => rs.length - (intOf v5).toNat)
    case atStart => exact ⟨0, _, _, _, by omega, rfl, HY.out⟩
    case round =>
      clear HY
      obtain ⟨k, u0, u1, u2, hk, rfl, HJ⟩ := hrel
      by_cases hlt : k < rs.length
      · have hltI : (k : Int) < rs.length := by omega
        obtain ⟨x, hx⟩ : ∃ x, rs[k]? = some x := ⟨_, List.getElem?_eq_getElem hlt⟩
        obtain ⟨g, off, c2, e1, q1, q2⟩ := (HH.out.up HJ.out.1.b).at hx
        cases e1
        have HX : Hid (rs[k]? = some x) := hx
        have HB : Hid (Below w.heap.size w wr) := HJ.out.1.b
        clear hx
        obtain ⟨l, b⟩ := x
        by_cases h1 : l < 1
        · have HM : Hid (mayN rs = false) := mayN_no HX.out (by unfold mayR; cases b <;> simp <;> omega)
          dsimp only at q1 q2
          clear HJ HX
          go_wp2
          go_ret2
          exact newD_no HB.out HM.out
        · by_cases h2 : 255 < l
          · have HM : Hid (mayN rs = false) := mayN_no HX.out (by unfold mayR; cases b <;> simp <;> omega)
            dsimp only at q1 q2
            clear HJ HX
            go_wp2
            go_ret2
            exact newD_no HB.out HM.out
          · by_cases h3 : b = true ∧ 1 < l
            · obtain ⟨rfl, h3⟩ := h3
              have HM : Hid (mayN rs = false) := mayN_no HX.out (by unfold mayR; simp; omega)
              dsimp only at q1 q2
              clear HJ HX
              go_wp2
              go_ret2
              exact newD_no HB.out HM.out
            · have HM : Hid (mayR (l, b) = true) := by
                show mayR (l, b) = true
                unfold mayR
                cases b with
                | true => simp; have : ¬ (1 < l) := fun e => h3 ⟨rfl, e⟩; omega
                | false => simp; omega
              dsimp only at q1 q2
              have hbl : b = false ∨ (b = true ∧ ¬ (1 < l)) := by
                cases b with
                | false => exact .inl rfl
                | true => exact .inr ⟨rfl, fun e => h3 ⟨rfl, e⟩⟩
              have HN : Hid (∀ (j : Nat) (y : Rw), j < k + 1 → rs[j]? = some y → mayR y = true) := fun j y hj hy => by
                by_cases e : j = k
                · subst e; rw [HX.out] at hy; cases hy; exact HM.out
                · exact HJ.out.2 j y (by omega) hy
              have HT : Hid (flR (rs.take (k + 1)) = flR (rs.take k) ++ [I l, .bool b] ∧ stL (rstL (k + 1)) = stL (rstL k) ++ [I 3] ∧ nL (rstL (k + 1)) = nL (rstL k) ++ [I 0]) := by
                refine ⟨?_, ?_, ?_⟩
                · rw [take_snoc HX.out, flR_app]; rfl
                · simp [stL, rstL, List.replicate_succ']
                · simp [nL, rstL, List.replicate_succ']
              have hk256 : k ≤ 256 := by omega
              obtain ⟨a0, k0, rfl⟩ := own_sl HJ.out.1.p0
              obtain ⟨a1, k1, rfl⟩ := own_sl HJ.out.1.p1
              obtain ⟨a2, k2, rfl⟩ := own_sl HJ.out.1.p2
              have HG : Hid (Gd w wr w.heap.size (.slice a0 k k0) (.slice a1 k k1) (.slice a2 k k2) k k k (flR (rs.take k)) (stL (rstL k)) (nL (rstL k))) := HJ.out.1
              clear HJ HX h3
              have tail : True := trivial
              rcases hbl with rfl | ⟨rfl, h3⟩
              · go_upto_region 9 with (first | fail)
                obtain ⟨z1, z2, z3⟩ := HG.out.cells
                have HA : Hid (Gd w (wr.alloc (.cells #[I l, .bool false] 27)) w.heap.size (.slice a0 k k0) (.slice a1 k k1) (.slice a2 k k2) k k k (flR (rs.take k)) (stL (rstL k)) (nL (rstL k))) := HG.out.grown (below_alloc _ _)
                have y1 : ∀ o, (wr.alloc o).cell? ⟨w.heap.size, 1, none⟩ = some (.slice a0 k k0) := fun o => (HG.out.grown (below_alloc _ o)).cells.1
                have HL : Hid ((wr.alloc (.cells #[I l, .bool false] 27)).drew.ownsRow 0 27 2 (.slice (some ⟨wr.heap.size, 0, none⟩) 1 1) 1 [I l, .bool false]) := own_below (World.ownsRow_lit wr #[I l, .bool false] 1 (Nat.zero_le _) (by unfold maxLen; omega) rfl) (Below.refl _ _).drew
                have HS : Hid (w.heap.size + 1 ≤ (wr.alloc (.cells #[I l, .bool false] 27)).drew.heap.size) := heap_lt HA.out.o
                have HAd : Hid (Gd w (wr.alloc (.cells #[I l, .bool false] 27)).drew w.heap.size (.slice a0 k k0) (.slice a1 k k1) (.slice a2 k k2) k k k (flR (rs.take k)) (stL (rstL k)) (nL (rstL k))) := HA.out.grown (Below.refl _ _).drew
                go_cut [] from 13 to 80 (fun wx => ∃ (a3 : Option Addr) (k3 : Nat), Hid (Gd w wx w.heap.size (.slice a3 (k + 1) k3) (.slice a1 k k1) (.slice a2 k k2) (k + 1) k k (flR (rs.take (k + 1))) (stL (rstL k)) (nL (rstL k))))
                case first =>
                  go_region_law (first
                    | (refine step_append_row rfl (.tmp 54) (.tmp 59) 28 rfl (w.heap.size + 1) 0 27 ir (.agg #[.int .i64 0, .bool false]) 2 16 Tryd.underlying28 hir hr0 hr1 hr2 rfl (by decide) (.slice a0 k k0) (.slice (some ⟨wr.heap.size, 0, none⟩) 1 1) k 1 (flR (rs.take k)) [I l, .bool false] (by simp [Act.eval, Act.put]) (by simp [Act.eval, Act.put]) HAd.out.p0 HL.out (flR_one [(l, false)]) (by unfold maxLen; omega) (by omega) HS.out ?_; intro v4 w4 h4 hg4; obtain ⟨a4, k4, rfl⟩ := own_sl h4; rw [← HT.out.1] at h4; have F4 := fz_own hg4; have Y1 := HAd.out.put0 F4 h4; have HY1 : Hid (Gd w _ w.heap.size _ _ _ _ _ _ _ _ _) := Y1; have hq := HAd.out.mid0 F4; have t1 : w4.frozen? ⟨w.heap.size, 1, none⟩ = false := frozen_of_row w4 _ _ _ _ hq; have t2 : w4.cell? ⟨w.heap.size, 1, none⟩ = some (.slice a0 k k0) := (by rw [cell_of_row w4 _ _ _ _ (0, 0) hq]; rfl); clear hq F4 h4 hg4 Y1))
                  all_goals
                    go_wp2
                    go_meet
                    case rel => exact ⟨a4, k4, HY1.out⟩
                obtain ⟨a3, k3, HY⟩ := hcut
                clear HG HA HAd HL HS z1 z2 z3 y1 q1 q2
                obtain ⟨z1, z2, z3⟩ := HY.out.cells
                have HY2 : Hid (Gd w (wc.alloc (.cells #[I 3] 38)) w.heap.size (.slice a3 (k + 1) k3) (.slice a1 k k1) (.slice a2 k k2) (k + 1) k k (flR (rs.take (k + 1))) (stL (rstL k)) (nL (rstL k))) := HY.out.grown (below_alloc _ _)
                have hS2 : w.heap.size + 1 ≤ (wc.alloc (.cells #[I 3] 38)).heap.size := heap_lt HY2.out.o
                go_upto_region 11 with (first
                  | (at_builtin; refine wpList_append_own _ rfl (.tmp 67) (.tmp 68) 55 rfl (w.heap.size + 1) 38 is (.int .i64 0) 1 8 Tryd.underlying55 his hs0 hs1 hs2 rfl (by decide) _ _ _ rfl HY2.out.p1 ⟨wc.heap.size, 0, none⟩ 1 1 [I 3] rfl rfl (cell_one_new _ _ _) (by intro u hu; simp at hu; subst hu; rfl) (by unfold maxLen; omega) (by omega) hS2 ?_; intro v4 w4 h4 hg4 _; obtain ⟨a4, k4, rfl⟩ := own_sl h4; rw [← HT.out.2.1] at h4; have F4 := fz_own hg4; have Y1 := HY2.out.put1 F4 h4; have HY3 : Hid (Gd w _ w.heap.size _ _ _ _ _ _ _ _ _) := Y1; have hq := HY2.out.mid1 F4; have t1 : w4.frozen? ⟨w.heap.size, 2, none⟩ = false := frozen_of_row w4 _ _ _ _ hq; have t2 : w4.cell? ⟨w.heap.size, 2, none⟩ = some (.slice a1 k k1) := (by rw [cell_of_row w4 _ _ _ _ (0, 0) hq]; rfl); clear hq F4 h4 hg4 Y1))
                clear HY HY2 hS2 t1 t2 z1 z2 z3
                generalize (w4.setCell ⟨w.heap.size, 2, none⟩ (.slice a4 (k + 1) k4)) = w5 at *
                obtain ⟨z1, z2, z3⟩ := HY3.out.cells
                have HY4 : Hid (Gd w (w5.alloc (.cells #[I 0] 3)) w.heap.size (.slice a3 (k + 1) k3) (.slice a4 (k + 1) k4) (.slice a2 k k2) (k + 1) (k + 1) k (flR (rs.take (k + 1))) (stL (rstL (k + 1))) (nL (rstL k))) := HY3.out.grown (below_alloc _ _)
                have hS2 : w.heap.size + 1 ≤ (w5.alloc (.cells #[I 0] 3)).heap.size := heap_lt HY4.out.o
                go_wp2_with (first
                  | (at_builtin; refine wpList_append_own _ rfl (.tmp 76) (.tmp 77) 46 rfl (w.heap.size + 1) 3 ii (.int .i64 0) 1 8 Tryd.underlying46 hii hi0 hi1 hi2 rfl (by decide) _ _ _ rfl HY4.out.p2 ⟨w5.heap.size, 0, none⟩ 1 1 [I 0] rfl rfl (cell_one_new _ _ _) (by intro u hu; simp at hu; subst hu; rfl) (by unfold maxLen; omega) (by omega) hS2 ?_; intro v6 w6 h6 hg6 _; obtain ⟨a6, k6, rfl⟩ := own_sl h6; rw [← HT.out.2.2] at h6; have F6 := fz_own hg6; have Y6 := HY4.out.put2 F6 h6; have HY6 : Hid (Gd w _ w.heap.size _ _ _ _ _ _ _ _ _) := Y6; have hq := HY4.out.mid2 F6; have t1 : w6.frozen? ⟨w.heap.size, 3, none⟩ = false := frozen_of_row w6 _ _ _ _ hq; have t2 : w6.cell? ⟨w.heap.size, 3, none⟩ = some (.slice a2 k k2) := (by rw [cell_of_row w6 _ _ _ _ (0, 0) hq]; rfl); clear hq F6 h6 hg6 Y6))
                go_roundw
                case rel => exact ⟨k + 1, _, _, _, by omega, by go_num, HY6.out, HN.out⟩
                case measure => simp [intOf]; omega
              · go_upto_region 9 with (first | fail)
                obtain ⟨z1, z2, z3⟩ := HG.out.cells
                have HA : Hid (Gd w (wr.alloc (.cells #[I l, .bool true] 27)) w.heap.size (.slice a0 k k0) (.slice a1 k k1) (.slice a2 k k2) k k k (flR (rs.take k)) (stL (rstL k)) (nL (rstL k))) := HG.out.grown (below_alloc _ _)
                have y1 : ∀ o, (wr.alloc o).cell? ⟨w.heap.size, 1, none⟩ = some (.slice a0 k k0) := fun o => (HG.out.grown (below_alloc _ o)).cells.1
                have HL : Hid ((wr.alloc (.cells #[I l, .bool true] 27)).drew.ownsRow 0 27 2 (.slice (some ⟨wr.heap.size, 0, none⟩) 1 1) 1 [I l, .bool true]) := own_below (World.ownsRow_lit wr #[I l, .bool true] 1 (Nat.zero_le _) (by unfold maxLen; omega) rfl) (Below.refl _ _).drew
                have HS : Hid (w.heap.size + 1 ≤ (wr.alloc (.cells #[I l, .bool true] 27)).drew.heap.size) := heap_lt HA.out.o
                have HAd : Hid (Gd w (wr.alloc (.cells #[I l, .bool true] 27)).drew w.heap.size (.slice a0 k k0) (.slice a1 k k1) (.slice a2 k k2) k k k (flR (rs.take k)) (stL (rstL k)) (nL (rstL k))) := HA.out.grown (Below.refl _ _).drew
                go_cut [] from 13 to 80 (fun wx => ∃ (a3 : Option Addr) (k3 : Nat), Hid (Gd w wx w.heap.size (.slice a3 (k + 1) k3) (.slice a1 k k1) (.slice a2 k k2) (k + 1) k k (flR (rs.take (k + 1))) (stL (rstL k)) (nL (rstL k))))
                case first =>
                  go_region_law (first
                    | (refine step_append_row rfl (.tmp 54) (.tmp 59) 28 rfl (w.heap.size + 1) 0 27 ir (.agg #[.int .i64 0, .bool false]) 2 16 Tryd.underlying28 hir hr0 hr1 hr2 rfl (by decide) (.slice a0 k k0) (.slice (some ⟨wr.heap.size, 0, none⟩) 1 1) k 1 (flR (rs.take k)) [I l, .bool true] (by simp [Act.eval, Act.put]) (by simp [Act.eval, Act.put]) HAd.out.p0 HL.out (flR_one [(l, true)]) (by unfold maxLen; omega) (by omega) HS.out ?_; intro v4 w4 h4 hg4; obtain ⟨a4, k4, rfl⟩ := own_sl h4; rw [← HT.out.1] at h4; have F4 := fz_own hg4; have Y1 := HAd.out.put0 F4 h4; have HY1 : Hid (Gd w _ w.heap.size _ _ _ _ _ _ _ _ _) := Y1; have hq := HAd.out.mid0 F4; have t1 : w4.frozen? ⟨w.heap.size, 1, none⟩ = false := frozen_of_row w4 _ _ _ _ hq; have t2 : w4.cell? ⟨w.heap.size, 1, none⟩ = some (.slice a0 k k0) := (by rw [cell_of_row w4 _ _ _ _ (0, 0) hq]; rfl); clear hq F4 h4 hg4 Y1))
                  all_goals
                    go_wp2
                    go_meet
                    case rel => exact ⟨a4, k4, HY1.out⟩
                obtain ⟨a3, k3, HY⟩ := hcut
                clear HG HA HAd HL HS z1 z2 z3 y1 q1 q2
                obtain ⟨z1, z2, z3⟩ := HY.out.cells
                have HY2 : Hid (Gd w (wc.alloc (.cells #[I 3] 38)) w.heap.size (.slice a3 (k + 1) k3) (.slice a1 k k1) (.slice a2 k k2) (k + 1) k k (flR (rs.take (k + 1))) (stL (rstL k)) (nL (rstL k))) := HY.out.grown (below_alloc _ _)
                have hS2 : w.heap.size + 1 ≤ (wc.alloc (.cells #[I 3] 38)).heap.size := heap_lt HY2.out.o
                go_upto_region 11 with (first
                  | (at_builtin; refine wpList_append_own _ rfl (.tmp 67) (.tmp 68) 55 rfl (w.heap.size + 1) 38 is (.int .i64 0) 1 8 Tryd.underlying55 his hs0 hs1 hs2 rfl (by decide) _ _ _ rfl HY2.out.p1 ⟨wc.heap.size, 0, none⟩ 1 1 [I 3] rfl rfl (cell_one_new _ _ _) (by intro u hu; simp at hu; subst hu; rfl) (by unfold maxLen; omega) (by omega) hS2 ?_; intro v4 w4 h4 hg4 _; obtain ⟨a4, k4, rfl⟩ := own_sl h4; rw [← HT.out.2.1] at h4; have F4 := fz_own hg4; have Y1 := HY2.out.put1 F4 h4; have HY3 : Hid (Gd w _ w.heap.size _ _ _ _ _ _ _ _ _) := Y1; have hq := HY2.out.mid1 F4; have t1 : w4.frozen? ⟨w.heap.size, 2, none⟩ = false := frozen_of_row w4 _ _ _ _ hq; have t2 : w4.cell? ⟨w.heap.size, 2, none⟩ = some (.slice a1 k k1) := (by rw [cell_of_row w4 _ _ _ _ (0, 0) hq]; rfl); clear hq F4 h4 hg4 Y1))
                clear HY HY2 hS2 t1 t2 z1 z2 z3
                generalize (w4.setCell ⟨w.heap.size, 2, none⟩ (.slice a4 (k + 1) k4)) = w5 at *
                obtain ⟨z1, z2, z3⟩ := HY3.out.cells
                have HY4 : Hid (Gd w (w5.alloc (.cells #[I 0] 3)) w.heap.size (.slice a3 (k + 1) k3) (.slice a4 (k + 1) k4) (.slice a2 k k2) (k + 1) (k + 1) k (flR (rs.take (k + 1))) (stL (rstL (k + 1))) (nL (rstL k))) := HY3.out.grown (below_alloc _ _)
                have hS2 : w.heap.size + 1 ≤ (w5.alloc (.cells #[I 0] 3)).heap.size := heap_lt HY4.out.o
                go_wp2_with (first
                  | (at_builtin; refine wpList_append_own _ rfl (.tmp 76) (.tmp 77) 46 rfl (w.heap.size + 1) 3 ii (.int .i64 0) 1 8 Tryd.underlying46 hii hi0 hi1 hi2 rfl (by decide) _ _ _ rfl HY4.out.p2 ⟨w5.heap.size, 0, none⟩ 1 1 [I 0] rfl rfl (cell_one_new _ _ _) (by intro u hu; simp at hu; subst hu; rfl) (by unfold maxLen; omega) (by omega) hS2 ?_; intro v6 w6 h6 hg6 _; obtain ⟨a6, k6, rfl⟩ := own_sl h6; rw [← HT.out.2.2] at h6; have F6 := fz_own hg6; have Y6 := HY4.out.put2 F6 h6; have HY6 : Hid (Gd w _ w.heap.size _ _ _ _ _ _ _ _ _) := Y6; have hq := HY4.out.mid2 F6; have t1 : w6.frozen? ⟨w.heap.size, 3, none⟩ = false := frozen_of_row w6 _ _ _ _ hq; have t2 : w6.cell? ⟨w.heap.size, 3, none⟩ = some (.slice a2 k k2) := (by rw [cell_of_row w6 _ _ _ _ (0, 0) hq]; rfl); clear hq F6 h6 hg6 Y6))
                go_roundw
                case rel => exact ⟨k + 1, _, _, _, by omega, by go_num, HY6.out, HN.out⟩
                case measure => simp [intOf]; omega
      · obtain rfl : k = rs.length := by omega
        have hge : ¬ ((rs.length : Int) < rs.length) := by omega
        have HM : Hid (mayN rs = true) := by
          show mayN rs = true
          rw [mayN, Bool.and_eq_true, decide_eq_true_eq, List.all_eq_true]
          refine ⟨h0, fun x hx => ?_⟩
          obtain ⟨j, hj⟩ := List.getElem?_of_mem hx
          exact HJ.out.2 j x (List.getElem?_eq_some_iff.1 hj).1 hj
        have HG := HJ.out.1
        rw [List.take_length] at HG
        have hrl : (rstL rs.length).length = rs.length := by simp [rstL]
        have HF : Hid (Gd w wr w.heap.size u0 u1 u2 rs.length (rstL rs.length).length (rstL rs.length).length (flR rs) (stL (rstL rs.length)) (nL (rstL rs.length))) := by rw [hrl]; exact HG
        clear HJ HG hrl
        go_wp2
        go_ret2
        obtain ⟨f1, f2⟩ := HF.out.fin (by simp [rstL]) h0
        exact ⟨.inl ⟨HM.out, _, _, _, _, rfl, f1, f2⟩, HF.out.b⟩
  · have hnI : (256 : Int) < rs.length := by omega
    have HM : Hid (mayN rs = false) := by
      show mayN rs = false
      rw [mayN, show decide (rs.length ≤ 256) = false by simpa using h0, Bool.false_and]
    obtain ⟨a, c, rfl⟩ := h.sl
    clear h
    go_enter Tryd.func25, Tryd.ntmps25
    go_wp2
    go_ret2
    exact newD_no (Below.refl _ _) HM.out
end Go.Proofs.YthmecgfbapemjaaDoor
