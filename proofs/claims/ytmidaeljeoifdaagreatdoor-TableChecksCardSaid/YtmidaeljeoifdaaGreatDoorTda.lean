import Derived.Test.YtmidaeljeoifdaaGreatDoorXTcz
import Derived.Deep.RegionHeldLaw
namespace Go.Proofs.YtmidaeljeoifdaaGreatDoor
open Go.RowKit Go.Shelf Go.Sort
set_option linter.unusedVariables false
set_option linter.unusedSimpArgs false

/-! ### The document's owned -/
def prevL (l : List Int) : Nat → Int
  | 0 => -1
  | j + 1 => (l[j]?).getD 0
set_option maxHeartbeats 16000000 in
set_option maxRecDepth 100000 in
theorem owned_any (tb : Tb) (v : Ts) (w : World) (h : TbAt w tb v) (s : Sl) (l : List Int) (hl : RowsAt w 1 intP s l) (prio : Int) : Calls Tryz.prog 74 #[.agg (tbC tb v), .slice s.a s.n s.c, I prio] w fun e w' => e = .returned (.bool (ownG tb prio (-1) l)) ∧ Below w.heap.size w w' := by
  have hV := heap_alloc_new w (.cells (tbC tb v) 30)
  have HB : Hid (Below w.heap.size w (w.alloc (.cells (tbC tb v) 30))) := below_alloc w _
  have HT : Hid (TbAt (w.alloc (.cells (tbC tb v) 30)) tb v) := h.below HB.out
  have HL : Hid (RowsAt (w.alloc (.cells (tbC tb v) 30)) 1 intP s l) := hl.below HB.out (fun _ _ _ _ h => h)
  obtain ⟨c0, c1, c2, c3, c4, c5, c6, c7, c8, c9, c10, c11, c12⟩ := var13 hV
  have HS : Hid (s.n = l.length) := hl.n
  have hsc : s.n ≤ s.c := hl.c
  have hsm : s.c ≤ maxLen := hl.m
  have HRn : Hid (v.r.n = tb.ress.length) := h.r.n
  have hrc : v.r.n ≤ v.r.c := h.r.c
  have hrm : v.r.c ≤ maxLen := h.r.m
  unfold maxLen at hsm hrm
  obtain ⟨R, hR⟩ : ∃ R, R = ownG tb prio (-1) l := ⟨_, rfl⟩
  rw [← hR]
  have HR : Hid (R = ownG tb prio (-1) (l.drop 0)) := hR
  have HV : Hid ((w.alloc (.cells (tbC tb v) 30)).heap[w.heap.size]? = some (.cells (tbC tb v) 30)) := hV
  clear hR h hl hV c0 c1 c2 c3 c4 c5 c6 c7 c8 c9 c10 c11 c12
  unfold tbC at *
  go_enter Tryz.func74, Tryz.ntmps74
  generalize hW : w.alloc (.cells #[I tb.uses, I tb.modes, .slice v.t.a v.t.n v.t.c, .slice v.g.a v.g.n v.g.c, .slice v.r.a v.r.n v.r.c, .slice v.k.a v.k.n v.k.c, .slice v.a.a v.a.n v.a.c, .slice v.i.a v.i.n v.i.c, .slice v.s.a v.s.n v.s.c, I tb.depth, I tb.frames, I tb.errors, I tb.calls] 30) = W1 at *
  go_upto_region 1 with fail
  clear hW
  go_wp2
  go_loopw [7] (fun iv wr => ∃ j : Nat, j ≤ s.n ∧ iv = .int .i64 j ∧ Hid (R = ownG tb prio (prevL l j) (l.drop j) ∧ Below W1.heap.size W1 wr)) (fun iv _ => s.n - (intOf iv).toNat)
  case atStart => exact ⟨0, by omega, rfl, HR.out, Below.refl _ _⟩
  case round =>
    clear HR
    obtain ⟨j, hj, rfl, HJ⟩ := hrel
    have HBW : Hid (Below w.heap.size w wr) := HB.out.trans (HJ.out.2.mono HB.out.size)
    by_cases hlt : j < s.n
    · have hlt' : (j : Int) < s.n := by omega
      obtain ⟨x, hx⟩ : ∃ x, l[j]? = some x := ⟨_, List.getElem?_eq_getElem (by rw [← HS.out]; exact hlt)⟩
      obtain ⟨g5, o5, e5, hg5, b5⟩ := ints_at9 (HL.out.below HJ.out.2 (fun _ _ _ _ h => h)) hx
      have HX : Hid (R = (decide (prevL l j < x) && idB x tb.ress.length && resOk tb prio x && ownG tb prio x (l.drop (j + 1)))) := by
        have h9 := HJ.out.1
        rw [drop_at hx, ownG] at h9
        exact h9
      have HPx : Hid (prevL l (j + 1) = x) := by show _ = _; rw [prevL, hx]; rfl
      have hV := (HJ.out.2.block _ (heap_lt HV.out)).trans HV.out
      obtain ⟨c0, c1, c2, c3, c4, c5, c6, c7, c8, c9, c10, c11, c12⟩ := var13 hV
      have y4 := cell_regrown c4
      have y5 := cell_regrown b5
      have HC4 : Hid (wr.cell? ⟨w.heap.size, 4, none⟩ = some (.slice v.r.a v.r.n v.r.c) ∧ w.heap.size < wr.heap.size) := ⟨c4, heap_lt hV⟩
      have HB5 : Hid (wr.cell? ⟨g5, o5 + j, none⟩ = some (I x) ∧ g5 < wr.heap.size) := ⟨b5, hg5⟩
      have HTW : Hid (TbAt wr tb v) := HT.out.below HJ.out.2
      have HB1 : Hid (Below W1.heap.size W1 wr) := HJ.out.2
      have HPV : Hid (∀ i, j = i + 1 → ∃ y, l[i]? = some y ∧ prevL l j = y ∧ wr.cell? ⟨g5, o5 + i, none⟩ = some (I y)) := fun i hi => by
        obtain ⟨y, hy⟩ : ∃ y, l[i]? = some y := ⟨_, List.getElem?_eq_getElem (by rw [← HS.out]; omega)⟩
        obtain ⟨g6, o6, e6, hg6, b6⟩ := ints_at9 (HL.out.below HJ.out.2 (fun _ _ _ _ h => h)) hy
        rw [e5] at e6
        cases e6
        exact ⟨y, hy, by rw [hi, prevL, hy]; rfl, b6⟩
      rw [e5]
      clear hx e5 HJ hV c0 c1 c2 c3 c4 c5 c6 c7 c8 c9 c10 c11 c12 b5 hg5
      by_cases g0 : x < 0
      · have HE : Hid (R = false) := by
          show _ = _
          rw [HX.out]
          have : idB x tb.ress.length = false := by unfold idB; simp; omega
          simp [this]
        clear HX
        go_wp2
        refine wp_region_quiet_below (by kernel_rfl) (by kernel_rfl) ?_
        repeat (first | (go_big_quiet_step (first | fail)))
        refine wpQuiet_nil ?_
        rintro _ ⟨⟨dq, osq⟩, rfl⟩
        dsimp only
        have HB9 : Hid (Below wr.heap.size wr (grow (redrawn wr dq) osq)) := below_regrown wr dq osq
        generalize grow (redrawn wr dq) osq = w9 at *
        clear y4 y5
        have HB10 : Hid (Below w.heap.size w w9) := HBW.out.trans (HB9.out.mono HBW.out.size)
        go_wp2
        go_ret
        exact ⟨ret_bool' (by rw [HE.out]), HB10.out⟩
      · obtain ⟨k, rfl⟩ := Int.eq_ofNat_of_zero_le (show 0 ≤ x by omega)
        clear g0
        have d0 : decide ((k : Int) < 0) = false := by simp
        by_cases g1 : (v.r.n : Int) ≤ (k : Int)
        · have d1 : decide ((v.r.n : Int) ≤ (k : Int)) = true := by simpa using g1
          have HE : Hid (R = false) := by
            show _ = _
            rw [HX.out]
            have : idB (k : Int) tb.ress.length = false := by rw [← HRn.out]; unfold idB; simp; omega
            simp [this]
          clear HX
          go_wp2
          refine wp_region_quiet_below (by kernel_rfl) (by kernel_rfl) ?_
          repeat (first | (go_big_quiet_step (first | fail)))
          refine wpQuiet_nil ?_
          rintro _ ⟨⟨dq, osq⟩, rfl⟩
          dsimp only
          have HB9 : Hid (Below wr.heap.size wr (grow (redrawn wr dq) osq)) := below_regrown wr dq osq
          generalize grow (redrawn wr dq) osq = w9 at *
          clear y4 y5
          have HB10 : Hid (Below w.heap.size w w9) := HBW.out.trans (HB9.out.mono HBW.out.size)
          go_wp2
          go_ret
          exact ⟨ret_bool' (by rw [HE.out]), HB10.out⟩
        · have g1' : (k : Int) < v.r.n := by omega
          have d1 : decide ((v.r.n : Int) ≤ (k : Int)) = false := by simpa using g1
          have d1n : decide (v.r.n ≤ k) = false := by simp; omega
          have HI : Hid (idB (k : Int) tb.ress.length = true) := by show _ = _; rw [← HRn.out]; unfold idB; simp; omega
          obtain ⟨r, hr⟩ : ∃ r, tb.ress[k]? = some r := ⟨_, List.getElem?_eq_getElem (by rw [← HRn.out]; omega)⟩
          obtain ⟨gr, orr, er, hgr, z0, z1⟩ := rsr_at HTW.out hr
          have HZ : Hid (gr < wr.heap.size ∧ wr.cell? ⟨gr, orr + k * 2, none⟩ = some (.bool r.inner) ∧ wr.cell? ⟨gr, orr + k * 2 + 1, none⟩ = some (I r.ceil)) := ⟨hgr, z0, z1⟩
          have HQ : Hid (resOk tb prio (k : Int) = (!r.inner && decide (prio ≤ r.ceil))) := by
            show _ = _
            unfold resOk
            rw [Int.toNat_natCast, hr]
          rw [er] at y4 HC4
          clear hr er hgr z0 z1
          generalize r.inner = ri at *
          generalize r.ceil = rc at *
          by_cases gj : j = 0
          · have gj1 : ¬ (0 : Int) < (j : Int) := by omega
            have dj : decide ((0 : Int) < (j : Int)) = false := by simpa using gj1
            have djn : decide (0 < j) = false := by simp; omega
            have HG : Hid (prevL l j < (k : Int)) := by show _ < _; rw [gj, prevL]; omega
            clear HPV gj
            cases ri with
            | true =>
              have HE : Hid (R = false) := by show _ = _; rw [HX.out, HQ.out]; simp
              clear HX HQ
              go_wp2
              refine wp_region_quiet_below (by kernel_rfl) (by kernel_rfl) ?_
              repeat (first | (go_big_quiet_step (first | fail)))
              refine wpQuiet_nil ?_
              rintro _ ⟨⟨dq, osq⟩, rfl⟩
              dsimp only
              have HB9 : Hid (Below wr.heap.size wr (grow (redrawn wr dq) osq)) := below_regrown wr dq osq
              generalize grow (redrawn wr dq) osq = w9 at *
              clear y4 y5
              have q4 := (cell_below HB9.out _ _ HC4.out.2).trans HC4.out.1
              have q5 := (cell_below HB9.out _ _ HB5.out.2).trans HB5.out.1
              have qz0 := (cell_below HB9.out _ _ HZ.out.1).trans HZ.out.2.1
              have qz1 := (cell_below HB9.out _ _ HZ.out.1).trans HZ.out.2.2
              have HB10 : Hid (∀ o, Below w.heap.size w (w9.alloc o)) := fun o => (HBW.out.trans (HB9.out.mono HBW.out.size)).trans ((below_alloc w9 o).mono (HBW.out.trans (HB9.out.mono HBW.out.size)).size)
              have HB11 : Hid (∀ o, Below W1.heap.size W1 (w9.alloc o)) := fun o => (HB1.out.trans (HB9.out.mono HB1.out.size)).trans ((below_alloc w9 o).mono (HB1.out.trans (HB9.out.mono HB1.out.size)).size)
              clear HB9
              have n4 := World.new_ne w9 _ q4
              have n5 := World.new_ne w9 _ q5
              have nz0 := World.new_ne w9 _ qz0
              go_wp2
              go_region_held_law (fun w' => w'.cell? ⟨w.heap.size, 4, none⟩ = some (.slice (some ⟨gr, orr, none⟩) v.r.n v.r.c) ∧ w'.cell? ⟨g5, o5 + j, none⟩ = some (I (k : Int)) ∧ w'.cell? ⟨gr, orr + k * 2, none⟩ = some (.bool true) ∧ w'.cell? ⟨gr, orr + k * 2 + 1, none⟩ = some (I rc)) (first | (go_keep; done)) (fail)
              all_goals
                go_wp2
                go_ret
                exact ⟨ret_bool' (by rw [HE.out]), (HB10.out _).drew⟩
            | false =>
              by_cases g3 : rc < prio
              · have HE : Hid (R = false) := by
                  show _ = _
                  rw [HX.out, HQ.out]
                  have : ¬ prio ≤ rc := by omega
                  simp [this]
                clear HX HQ
                go_wp2
                refine wp_region_quiet_below (by kernel_rfl) (by kernel_rfl) ?_
                repeat (first | (go_big_quiet_step (first | fail)))
                refine wpQuiet_nil ?_
                rintro _ ⟨⟨dq, osq⟩, rfl⟩
                dsimp only
                have HB9 : Hid (Below wr.heap.size wr (grow (redrawn wr dq) osq)) := below_regrown wr dq osq
                generalize grow (redrawn wr dq) osq = w9 at *
                clear y4 y5
                have q4 := (cell_below HB9.out _ _ HC4.out.2).trans HC4.out.1
                have q5 := (cell_below HB9.out _ _ HB5.out.2).trans HB5.out.1
                have qz0 := (cell_below HB9.out _ _ HZ.out.1).trans HZ.out.2.1
                have qz1 := (cell_below HB9.out _ _ HZ.out.1).trans HZ.out.2.2
                have HB10 : Hid (∀ o, Below w.heap.size w (w9.alloc o)) := fun o => (HBW.out.trans (HB9.out.mono HBW.out.size)).trans ((below_alloc w9 o).mono (HBW.out.trans (HB9.out.mono HBW.out.size)).size)
                have HB11 : Hid (∀ o, Below W1.heap.size W1 (w9.alloc o)) := fun o => (HB1.out.trans (HB9.out.mono HB1.out.size)).trans ((below_alloc w9 o).mono (HB1.out.trans (HB9.out.mono HB1.out.size)).size)
                clear HB9
                have n4 := World.new_ne w9 _ q4
                have n5 := World.new_ne w9 _ q5
                have nz0 := World.new_ne w9 _ qz0
                go_wp2
                go_region_held_law (fun w' => w'.cell? ⟨w.heap.size, 4, none⟩ = some (.slice (some ⟨gr, orr, none⟩) v.r.n v.r.c) ∧ w'.cell? ⟨g5, o5 + j, none⟩ = some (I (k : Int)) ∧ w'.cell? ⟨gr, orr + k * 2, none⟩ = some (.bool false) ∧ w'.cell? ⟨gr, orr + k * 2 + 1, none⟩ = some (I rc)) (first | (go_keep; done)) (fail)
                all_goals
                  go_wp2
                  go_ret
                  exact ⟨ret_bool' (by rw [HE.out]), (HB10.out _).drew⟩
              · have HN : Hid (R = ownG tb prio (prevL l (j + 1)) (l.drop (j + 1))) := by
                  show _ = _
                  rw [HPx.out]
                  have h9 := HX.out
                  rw [HQ.out, HI.out] at h9
                  have g3' : prio ≤ rc := by omega
                  have g4 := HG.out
                  simpa [g3', g4] using h9
                clear HX HQ
                go_wp2
                refine wp_region_quiet_below (by kernel_rfl) (by kernel_rfl) ?_
                repeat (first | (go_big_quiet_step (first | fail)))
                refine wpQuiet_nil ?_
                rintro _ ⟨⟨dq, osq⟩, rfl⟩
                dsimp only
                have HB9 : Hid (Below wr.heap.size wr (grow (redrawn wr dq) osq)) := below_regrown wr dq osq
                generalize grow (redrawn wr dq) osq = w9 at *
                clear y4 y5
                have q4 := (cell_below HB9.out _ _ HC4.out.2).trans HC4.out.1
                have q5 := (cell_below HB9.out _ _ HB5.out.2).trans HB5.out.1
                have qz0 := (cell_below HB9.out _ _ HZ.out.1).trans HZ.out.2.1
                have qz1 := (cell_below HB9.out _ _ HZ.out.1).trans HZ.out.2.2
                have HB10 : Hid (∀ o, Below w.heap.size w (w9.alloc o)) := fun o => (HBW.out.trans (HB9.out.mono HBW.out.size)).trans ((below_alloc w9 o).mono (HBW.out.trans (HB9.out.mono HBW.out.size)).size)
                have HB11 : Hid (∀ o, Below W1.heap.size W1 (w9.alloc o)) := fun o => (HB1.out.trans (HB9.out.mono HB1.out.size)).trans ((below_alloc w9 o).mono (HB1.out.trans (HB9.out.mono HB1.out.size)).size)
                clear HB9
                have n4 := World.new_ne w9 _ q4
                have n5 := World.new_ne w9 _ q5
                have nz0 := World.new_ne w9 _ qz0
                go_wp2
                go_region_held_law (fun w' => w'.cell? ⟨w.heap.size, 4, none⟩ = some (.slice (some ⟨gr, orr, none⟩) v.r.n v.r.c) ∧ w'.cell? ⟨g5, o5 + j, none⟩ = some (I (k : Int)) ∧ w'.cell? ⟨gr, orr + k * 2, none⟩ = some (.bool false) ∧ w'.cell? ⟨gr, orr + k * 2 + 1, none⟩ = some (I rc)) (first | (go_keep; done)) (fail)
                all_goals
                  go_wp2
                  go_roundw
                  case rel => exact ⟨j + 1, by omega, by go_num, HN.out, (HB11.out _).drew⟩
                  case measure => simp [intOf]; omega
          · obtain ⟨i, rfl⟩ : ∃ i, j = i + 1 := ⟨j - 1, by omega⟩
            obtain ⟨y, hy, hpv, b6⟩ := HPV.out i rfl
            have y6 := cell_regrown b6
            have dj : decide ((0 : Int) < ((i + 1 : Nat) : Int)) = true := by simp
            have HPP : Hid (prevL l (i + 1) = y) := hpv
            clear HPV hy hpv b6 gj
            by_cases g2 : (k : Int) ≤ y
            · have d2 : decide ((k : Int) ≤ y) = true := by simpa using g2
              have HE : Hid (R = false) := by
                show _ = _
                rw [HX.out, HPP.out]
                have : ¬ y < (k : Int) := by omega
                simp [this]
              clear HX HQ
              go_wp2
              refine wp_region_quiet_below (by kernel_rfl) (by kernel_rfl) ?_
              repeat (first | (go_big_quiet_step (first | fail)))
              refine wpQuiet_nil ?_
              rintro _ ⟨⟨dq, osq⟩, rfl⟩
              dsimp only
              have HB9 : Hid (Below wr.heap.size wr (grow (redrawn wr dq) osq)) := below_regrown wr dq osq
              generalize grow (redrawn wr dq) osq = w9 at *
              clear y4 y5 y6
              have HB10 : Hid (Below w.heap.size w w9) := HBW.out.trans (HB9.out.mono HBW.out.size)
              go_wp2
              go_ret
              exact ⟨ret_bool' (by rw [HE.out]), HB10.out⟩
            · have d2 : decide ((k : Int) ≤ y) = false := by simpa using g2
              have HG : Hid (prevL l (i + 1) < (k : Int)) := by show _ < _; rw [HPP.out]; omega
              cases ri with
              | true =>
                have HE : Hid (R = false) := by show _ = _; rw [HX.out, HQ.out]; simp
                clear HX HQ
                go_wp2
                refine wp_region_quiet_below (by kernel_rfl) (by kernel_rfl) ?_
                repeat (first | (go_big_quiet_step (first | fail)))
                refine wpQuiet_nil ?_
                rintro _ ⟨⟨dq, osq⟩, rfl⟩
                dsimp only
                have HB9 : Hid (Below wr.heap.size wr (grow (redrawn wr dq) osq)) := below_regrown wr dq osq
                generalize grow (redrawn wr dq) osq = w9 at *
                clear y4 y5 y6
                have q4 := (cell_below HB9.out _ _ HC4.out.2).trans HC4.out.1
                have q5 := (cell_below HB9.out _ _ HB5.out.2).trans HB5.out.1
                have qz0 := (cell_below HB9.out _ _ HZ.out.1).trans HZ.out.2.1
                have qz1 := (cell_below HB9.out _ _ HZ.out.1).trans HZ.out.2.2
                have HB10 : Hid (∀ o, Below w.heap.size w (w9.alloc o)) := fun o => (HBW.out.trans (HB9.out.mono HBW.out.size)).trans ((below_alloc w9 o).mono (HBW.out.trans (HB9.out.mono HBW.out.size)).size)
                have HB11 : Hid (∀ o, Below W1.heap.size W1 (w9.alloc o)) := fun o => (HB1.out.trans (HB9.out.mono HB1.out.size)).trans ((below_alloc w9 o).mono (HB1.out.trans (HB9.out.mono HB1.out.size)).size)
                clear HB9
                have n4 := World.new_ne w9 _ q4
                have n5 := World.new_ne w9 _ q5
                have nz0 := World.new_ne w9 _ qz0
                go_wp2
                go_region_held_law (fun w' => w'.cell? ⟨w.heap.size, 4, none⟩ = some (.slice (some ⟨gr, orr, none⟩) v.r.n v.r.c) ∧ w'.cell? ⟨g5, o5 + (i + 1), none⟩ = some (I (k : Int)) ∧ w'.cell? ⟨gr, orr + k * 2, none⟩ = some (.bool true) ∧ w'.cell? ⟨gr, orr + k * 2 + 1, none⟩ = some (I rc)) (first | (go_keep; done)) (fail)
                all_goals
                  go_wp2
                  go_ret
                  exact ⟨ret_bool' (by rw [HE.out]), (HB10.out _).drew⟩
              | false =>
                by_cases g3 : rc < prio
                · have HE : Hid (R = false) := by
                    show _ = _
                    rw [HX.out, HQ.out]
                    have : ¬ prio ≤ rc := by omega
                    simp [this]
                  clear HX HQ
                  go_wp2
                  refine wp_region_quiet_below (by kernel_rfl) (by kernel_rfl) ?_
                  repeat (first | (go_big_quiet_step (first | fail)))
                  refine wpQuiet_nil ?_
                  rintro _ ⟨⟨dq, osq⟩, rfl⟩
                  dsimp only
                  have HB9 : Hid (Below wr.heap.size wr (grow (redrawn wr dq) osq)) := below_regrown wr dq osq
                  generalize grow (redrawn wr dq) osq = w9 at *
                  clear y4 y5 y6
                  have q4 := (cell_below HB9.out _ _ HC4.out.2).trans HC4.out.1
                  have q5 := (cell_below HB9.out _ _ HB5.out.2).trans HB5.out.1
                  have qz0 := (cell_below HB9.out _ _ HZ.out.1).trans HZ.out.2.1
                  have qz1 := (cell_below HB9.out _ _ HZ.out.1).trans HZ.out.2.2
                  have HB10 : Hid (∀ o, Below w.heap.size w (w9.alloc o)) := fun o => (HBW.out.trans (HB9.out.mono HBW.out.size)).trans ((below_alloc w9 o).mono (HBW.out.trans (HB9.out.mono HBW.out.size)).size)
                  have HB11 : Hid (∀ o, Below W1.heap.size W1 (w9.alloc o)) := fun o => (HB1.out.trans (HB9.out.mono HB1.out.size)).trans ((below_alloc w9 o).mono (HB1.out.trans (HB9.out.mono HB1.out.size)).size)
                  clear HB9
                  have n4 := World.new_ne w9 _ q4
                  have n5 := World.new_ne w9 _ q5
                  have nz0 := World.new_ne w9 _ qz0
                  go_wp2
                  go_region_held_law (fun w' => w'.cell? ⟨w.heap.size, 4, none⟩ = some (.slice (some ⟨gr, orr, none⟩) v.r.n v.r.c) ∧ w'.cell? ⟨g5, o5 + (i + 1), none⟩ = some (I (k : Int)) ∧ w'.cell? ⟨gr, orr + k * 2, none⟩ = some (.bool false) ∧ w'.cell? ⟨gr, orr + k * 2 + 1, none⟩ = some (I rc)) (first | (go_keep; done)) (fail)
                  all_goals
                    go_wp2
                    go_ret
                    exact ⟨ret_bool' (by rw [HE.out]), (HB10.out _).drew⟩
                · have HN : Hid (R = ownG tb prio (prevL l ((i + 1) + 1)) (l.drop ((i + 1) + 1))) := by
                    show _ = _
                    rw [HPx.out]
                    have h9 := HX.out
                    rw [HQ.out, HI.out] at h9
                    have g3' : prio ≤ rc := by omega
                    have g4 := HG.out
                    simpa [g3', g4] using h9
                  clear HX HQ
                  go_wp2
                  refine wp_region_quiet_below (by kernel_rfl) (by kernel_rfl) ?_
                  repeat (first | (go_big_quiet_step (first | fail)))
                  refine wpQuiet_nil ?_
                  rintro _ ⟨⟨dq, osq⟩, rfl⟩
                  dsimp only
                  have HB9 : Hid (Below wr.heap.size wr (grow (redrawn wr dq) osq)) := below_regrown wr dq osq
                  generalize grow (redrawn wr dq) osq = w9 at *
                  clear y4 y5 y6
                  have q4 := (cell_below HB9.out _ _ HC4.out.2).trans HC4.out.1
                  have q5 := (cell_below HB9.out _ _ HB5.out.2).trans HB5.out.1
                  have qz0 := (cell_below HB9.out _ _ HZ.out.1).trans HZ.out.2.1
                  have qz1 := (cell_below HB9.out _ _ HZ.out.1).trans HZ.out.2.2
                  have HB10 : Hid (∀ o, Below w.heap.size w (w9.alloc o)) := fun o => (HBW.out.trans (HB9.out.mono HBW.out.size)).trans ((below_alloc w9 o).mono (HBW.out.trans (HB9.out.mono HBW.out.size)).size)
                  have HB11 : Hid (∀ o, Below W1.heap.size W1 (w9.alloc o)) := fun o => (HB1.out.trans (HB9.out.mono HB1.out.size)).trans ((below_alloc w9 o).mono (HB1.out.trans (HB9.out.mono HB1.out.size)).size)
                  clear HB9
                  have n4 := World.new_ne w9 _ q4
                  have n5 := World.new_ne w9 _ q5
                  have nz0 := World.new_ne w9 _ qz0
                  go_wp2
                  go_region_held_law (fun w' => w'.cell? ⟨w.heap.size, 4, none⟩ = some (.slice (some ⟨gr, orr, none⟩) v.r.n v.r.c) ∧ w'.cell? ⟨g5, o5 + (i + 1), none⟩ = some (I (k : Int)) ∧ w'.cell? ⟨gr, orr + k * 2, none⟩ = some (.bool false) ∧ w'.cell? ⟨gr, orr + k * 2 + 1, none⟩ = some (I rc)) (first | (go_keep; done)) (fail)
                  all_goals
                    go_wp2
                    go_roundw
                    case rel => exact ⟨(i + 1) + 1, by omega, by go_num, HN.out, (HB11.out _).drew⟩
                    case measure => simp [intOf]; omega
    · obtain rfl : j = s.n := by omega
      have hlt' : ¬ ((s.n : Nat) : Int) < (s.n : Nat) := by omega
      have HE : Hid (R = true) := by
        have h9 := HJ.out.1
        rw [HS.out, List.drop_length, ownG] at h9
        exact h9
      clear HJ
      go_wp2
      go_ret
      exact ⟨ret_bool' (by rw [HE.out]), HBW.out⟩
end Go.Proofs.YtmidaeljeoifdaaGreatDoor
