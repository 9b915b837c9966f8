import Derived.Test.YtapfbinaocaclaaEeg
namespace Go.Proofs.Ytapfbinaocaclaa
open Go.RowKit Go.Sort
set_option linter.unusedVariables false
set_option linter.unusedSimpArgs false

/-! ### The document's Users -/
/-- The places of those of a list of whom something holds. -/
def idxL {α : Type} (f : α → Bool) (l : List α) (j : Nat) : List Int := (((List.range l.length).take j).filter (fun i : Nat => match l[i]? with | some x => f x | none => false)).map (fun i : Nat => (i : Int))
theorem idxL_snoc {α : Type} (f : α → Bool) {l : List α} {j : Nat} {x : α} (hx : l[j]? = some x) : idxL f l (j + 1) = idxL f l j ++ (if f x = true then [(j : Int)] else []) := by
  have hj : j < l.length := (List.getElem?_eq_some_iff.1 hx).1
  unfold idxL
  rw [List.take_add_one, List.getElem?_range hj, Option.toList_some, List.filter_append, List.map_append]
  congr 1
  simp only [List.filter_cons, List.filter_nil, hx]
  split <;> rfl
theorem idxL_len {α : Type} (f : α → Bool) (l : List α) (j : Nat) : (idxL f l j).length ≤ j := by
  unfold idxL
  rw [List.length_map]
  exact Nat.le_trans (List.length_filter_le _ _) (by rw [List.length_take]; omega)
/-- Two rows of their own, and a number. -/
def Own3 (w : World) (l m : List Int) (k : Int) (e : Ending) (w' : World) : Prop := ∃ u1 u2, e = .returned (.tuple #[u1, u2, I k]) ∧ w'.ownsRow w.heap.size 3 1 u1 l.length (l.map fun x => I x) ∧ w'.ownsRow w.heap.size 3 1 u2 m.length (m.map fun x => I x) ∧ (∀ g, u1.ownBlock = some g → u2.ownBlock ≠ some g) ∧ Below w.heap.size w w'
def usrT (c : Cf) (r : Int) : List Int := if grpE c r = 0 then idxL (fun x : Tk => usesB c x.res r) c.tasks c.tasks.length else []
def usrI (c : Cf) (r : Int) : List Int := if grpE c r = 0 then idxL (fun x : Is => usesB c x.res r) c.isrs c.isrs.length else []
theorem own3_nil {w w' : World} {k : Int} {l m : List Int} (hb : Below w.heap.size w w') (hl : l = []) (hm : m = []) : Own3 w l m k (.returned (.tuple #[.slice none 0 0, .slice none 0 0, I k])) w' := by
  subst hm
  subst hl
  exact ⟨_, _, rfl, World.ownsRow_nil _ _ _ _, World.ownsRow_nil _ _ _ _, (fun g h => by cases h), hb⟩
theorem grp_zero {c : Cf} {r : Int} (h : grpE c r = 0) : lookE c = 0 ∧ isId r c.ress.length = true := by
  unfold grpE at h
  by_cases h1 : lookE c = 0
  · rw [if_pos h1] at h
    by_cases h2 : isId r c.ress.length = true
    · exact ⟨h1, h2⟩
    · rw [if_neg h2] at h; exact absurd h (by decide)
  · rw [if_neg h1] at h; exact absurd h h1
set_option maxHeartbeats 8000000 in
set_option maxRecDepth 100000 in
theorem rusers_any (w : World) (c : Cf) (v : Vs) (h : CfAt w c v) (hn : c.ress.length ≤ 8796093022208) (hnt : c.tasks.length ≤ 8796093022208) (hni : c.isrs.length ≤ 8796093022208) (r : Int) : Calls Try.prog 22 #[.agg (cfC c v), I r] w fun e w' => Own3 w (usrT c r) (usrI c r) (grpE c r) e w' := by
  obtain ⟨i0, hi0, hz0, hz1, hz2⟩ := info_parts Try.infoInt
  have hi18 : (Try.prog.info? 33).map (·.size) = some (cfC c v).size := by rw [show (cfC c v).size = 18 from rfl]; kernel_rfl
  have hV0 := heap_alloc_new w (.cells (cfC c v) 33)
  have hb := below_alloc w (.cells (cfC c v) 33)
  have HNT : Hid (v.t.n = c.tasks.length) := h.t.n
  have HNI : Hid (v.i.n = c.isrs.length) := h.i.n
  have hvt : v.t.n ≤ 8796093022208 := by have := h.t.n; omega
  have hvi : v.i.n ≤ 8796093022208 := by have := h.i.n; omega
  have HU : Hid (grpE c r = 0 → ∀ W, Below w.heap.size w W → ∀ (s : Sl) (l : List Int), RowsAt W 1 intP s l → (∀ x ∈ l, isId x c.ress.length = true) → Calls Try.prog 42 #[.agg (cfC c v), .slice s.a s.n s.c, I r] W fun e w' => e = .returned (.bool (usesB c l r)) ∧ Below W.heap.size W w') := fun hk W hW s l hl hid => by
    have hz := grp_zero hk
    have hbd : 0 ≤ r ∧ r < c.ress.length := by simpa [isId] using hz.2
    obtain ⟨q, rfl⟩ := Int.eq_ofNat_of_zero_le hbd.1
    exact ruses_any W c v (h.below hW) hn (lk_links (look_lk hz.1).2.1) s l hl hid q (by omega)
  have hcv : ∀ W : World, W.heap[w.heap.size]? = some (.cells (cfC c v) 33 (0, 0)) → W.cell? ⟨w.heap.size, 11, none⟩ = some (.slice v.t.a v.t.n v.t.c) ∧ W.cell? ⟨w.heap.size, 16, none⟩ = some (.slice v.i.a v.i.n v.i.c) := fun W hW => by
    obtain ⟨_, h10, h11, h12, h13, h14, h15, h16, h17⟩ := var18_all hW
    exact ⟨h11, h16⟩
  have krf := rgroup_any _ c v (h.below hb) hn r
  generalize cfC c v = C at *
  have HF : Hid (∀ W, Below (w.alloc (.cells C 33)).heap.size (w.alloc (.cells C 33)) W → W.heap[w.heap.size]? = some (.cells C 33 (0, 0)) ∧ W.cell? ⟨w.heap.size, 11, none⟩ = some (.slice v.t.a v.t.n v.t.c) ∧ W.cell? ⟨w.heap.size, 16, none⟩ = some (.slice v.i.a v.i.n v.i.c) ∧ CfAt W c v ∧ Below w.heap.size w W) := fun W hW => by
    have hVW := (hW.block _ (heap_lt hV0)).trans hV0
    have hbW := hb.trans (hW.mono hb.size)
    exact ⟨hVW, (hcv W hVW).1, (hcv W hVW).2, h.below hbW, hbW⟩
  obtain ⟨LT, hLT⟩ : ∃ L, L = usrT c r := ⟨_, rfl⟩
  obtain ⟨LI, hLI⟩ : ∃ L, L = usrI c r := ⟨_, rfl⟩
  obtain ⟨R, hR⟩ : ∃ R, R = grpE c r := ⟨_, rfl⟩
  rw [← hR, ← hLT, ← hLI]
  rw [← hR] at krf
  have HLT : Hid (LT = usrT c r) := hLT
  have HLI : Hid (LI = usrI c r) := hLI
  have HR : Hid (R = grpE c r) := hR
  have HB : Hid (Below w.heap.size w (w.alloc (.cells C 33))) := hb
  clear h hb hcv hLT hLI hR
  by_cases hR0 : R = 0
  · subst hR0
    have HLT0 : Hid (LT = idxL (fun x : Tk => usesB c x.res r) c.tasks c.tasks.length) := by show _ = _; rw [HLT.out, usrT, if_pos HR.out.symm]
    have HLI0 : Hid (LI = idxL (fun x : Is => usesB c x.res r) c.isrs c.isrs.length) := by show _ = _; rw [HLI.out, usrI, if_pos HR.out.symm]
    have HMT : Hid (meetB c = true) := (look_lk (grp_zero HR.out.symm).1).1
    have HU2 : Hid (∀ W, Below w.heap.size w W → ∀ (s : Sl) (l : List Int), RowsAt W 1 intP s l → (∀ x ∈ l, isId x c.ress.length = true) → Calls Try.prog 42 #[.agg C, .slice s.a s.n s.c, I r] W fun e w' => e = .returned (.bool (usesB c l r)) ∧ Below W.heap.size W w') := HU.out HR.out.symm
    have HW0 : Hid (Below w.heap.size w (w.alloc (.cells C 33))) := HB.out
    clear HR HLT HLI HU HB
    go_enter Try.func22, Try.ntmps22
    go_wp2_with (first | (refine wpList_load_row rfl 33 _ rfl w.heap.size rfl 33 _ (0, 0) _ hV0 Try.underlying33 rfl hi18 ?_) | (go_at_call 20; refine krf.mono ?_; rintro e w1 ⟨u0, rfl, _, hb1⟩; have HW1 : Hid (Below (w.alloc (.cells C 33)).heap.size (w.alloc (.cells C 33)) w1) := hb1; clear krf hb1))
    clear hV0
    generalize w.alloc (.cells C 33) = W0 at *
    go_loopw [9, 11] (fun lv iv wr => ∃ j : Nat, j ≤ v.t.n ∧ iv = .int .i64 j ∧ Hid (wr.ownsRow W0.heap.size 3 1 lv (idxL (fun x : Tk => usesB c x.res r) c.tasks j).length ((idxL (fun x : Tk => usesB c x.res r) c.tasks j).map fun x => I x) ∧ Below W0.heap.size W0 wr)) (fun _ iv _ => v.t.n - (intOf iv).toNat)
    case atStart => exact ⟨0, by omega, rfl, World.ownsRow_nil _ _ _ _, HW1.out⟩
    case round =>
      obtain ⟨j, hj, rfl, HJ⟩ := hrel
      obtain ⟨hO, hB⟩ := HJ.out
      obtain ⟨hV, y11, y16, hCf, hbw⟩ := HF.out _ hB
      have Hbw : Hid (Below w.heap.size w wr) := hbw
      have hsw := hB.size
      by_cases hlt : j < v.t.n
      · have hlt' : (j : Int) < v.t.n := by omega
        obtain ⟨x, hx⟩ : ∃ x, c.tasks[j]? = some x := ⟨_, List.getElem?_eq_getElem (by rw [← HNT.out]; exact hlt)⟩
        obtain ⟨g, off, s4, s5, s6, s7, e, hg, a0, a1, a2, a3, a4, a5, a6, a7, r4, r5, r6, r7⟩ := tk_at hCf hx
        have hid := (meet_task HMT.out hn (List.mem_of_getElem? hx)).1
        have HS : Hid (idxL (fun x : Tk => usesB c x.res r) c.tasks (j + 1) = idxL (fun x : Tk => usesB c x.res r) c.tasks j ++ (if usesB c x.res r = true then [(j : Int)] else [])) := idxL_snoc _ hx
        have HTL : Hid ((idxL (fun x : Tk => usesB c x.res r) c.tasks j).length ≤ j) := idxL_len _ _ _
        have cr1 := cell_regrown y11
        have cr3 := cell_regrown a5
        rw [e] at cr1 y11
        have c1 : ∀ d os, Calls Try.prog 42 #[.agg C, .slice s5.a s5.n s5.c, I r] (grow (redrawn wr d) os) fun e w'' => e = .returned (.bool (usesB c x.res r)) ∧ ∃ p : Regrown, w'' = grow (redrawn wr p.d) p.os := fun d os => Calls.regrown_of (HU2.out _ (Hbw.out.trans ((below_regrown _ d os).mono Hbw.out.size)) s5 x.res (r5.below (below_regrown _ d os) (fun _ _ _ _ h => h)) hid)
        have HF4 : Hid (∀ W, Below wr.heap.size wr W → W.ownsRow W0.heap.size 3 1 u9 (idxL (fun x : Tk => usesB c x.res r) c.tasks j).length ((idxL (fun x : Tk => usesB c x.res r) c.tasks j).map fun x => I x) ∧ Below W0.heap.size W0 W ∧ W0.heap.size ≤ W.heap.size) := fun W hW => ⟨own_below hO hW, hB.trans (hW.mono hsw), Nat.le_trans hsw hW.size⟩
        clear hx hCf hbw HJ hid hO hB y16 e r4 r5 r6 r7 a0 a1 a2 a3 a4 a5 a6 a7
        have hub : usesB c x.res r = true ∨ usesB c x.res r = false := by cases usesB c x.res r <;> simp
        generalize hug : usesB c x.res r = ub at *
        clear hug
        rcases hub with rfl | rfl
        · have HT2 : Hid (idxL (fun x : Tk => usesB c x.res r) c.tasks (j + 1) = idxL (fun x : Tk => usesB c x.res r) c.tasks j ++ [(j : Int)]) := HS.out
          clear HS
          go_wp2
          refine wp_region_quiet_below (by kernel_rfl) (by kernel_rfl) ?_
          refine wpQuiet_load_row rfl 33 _ rfl w.heap.size rfl 33 _ (0, 0) _ (heap_regrown hV) Try.underlying33 rfl hi18 ?_
          quiet_step (fail)
          repeat (go_big_quiet_step (first | exact c1 _ _))
          refine wpQuiet_nil ?_
          rintro _ ⟨⟨dq, osq⟩, rfl⟩
          dsimp only
          obtain ⟨hO4, hB4, hs4⟩ := HF4.out _ (below_regrown wr dq osq)
          clear c1 cr1 cr3 hV Hbw HF4 y11
          generalize grow (redrawn wr dq) osq = w4 at *
          have HB4 : Hid (Below W0.heap.size W0 w4) := hB4
          have HO4 : Hid (w4.ownsRow W0.heap.size 3 1 u9 (idxL (fun x : Tk => usesB c x.res r) c.tasks j).length ((idxL (fun x : Tk => usesB c x.res r) c.tasks j).map fun x => I x)) := hO4
          clear hB4
          have hlj := HTL.out
          have hO2 := hO4.alloc (.cells #[I (j : Int)] 3)
          clear hO4
          go_wp2_with (at_builtin; refine wpList_append_own _ rfl (.tmp 38) (.tmp 40) 34 rfl W0.heap.size 3 i0 (.int .i64 0) 1 8 Try.underlying34 hi0 hz0 hz1 hz2 rfl (by decide) _ _ _ rfl hO2 ⟨w4.heap.size, 0, none⟩ 1 1 [I (j : Int)] rfl rfl (cell_one_new _ _ _) (by intro u hu; simp at hu; subst hu; rfl) (by unfold maxLen; omega) (by omega) (by simp; omega) ?_)
          intro v6 w6 ho6 hg6 _
          have HB6 : Hid (Below W0.heap.size W0 w6) := by
            have b1 := HB4.out.trans ((below_alloc w4 (.cells #[I (j : Int)] 3)).mono hs4)
            exact b1.grown hg6 (by simp; omega) (fun k e => (HO4.out.lt k e).1)
          have HO6 : Hid (w6.ownsRow W0.heap.size 3 1 v6 (idxL (fun x : Tk => usesB c x.res r) c.tasks (j + 1)).length ((idxL (fun x : Tk => usesB c x.res r) c.tasks (j + 1)).map fun x => I x)) := by
            rw [HT2.out, List.length_append, List.map_append]
            exact ho6
          clear ho6 hg6 hO2 HB4 HO4 hlj
          go_wp2
          go_roundw
          case rel => exact ⟨j + 1, by omega, by go_num, HO6.out, HB6.out⟩
          case measure => simp [intOf]; omega
        · have HT2 : Hid (idxL (fun x : Tk => usesB c x.res r) c.tasks (j + 1) = idxL (fun x : Tk => usesB c x.res r) c.tasks j) := by show _ = _; rw [HS.out, if_neg (by decide), List.append_nil]
          clear HS
          go_wp2
          refine wp_region_quiet_below (by kernel_rfl) (by kernel_rfl) ?_
          refine wpQuiet_load_row rfl 33 _ rfl w.heap.size rfl 33 _ (0, 0) _ (heap_regrown hV) Try.underlying33 rfl hi18 ?_
          quiet_step (fail)
          repeat (go_big_quiet_step (first | exact c1 _ _))
          refine wpQuiet_nil ?_
          rintro _ ⟨⟨dq, osq⟩, rfl⟩
          dsimp only
          obtain ⟨hO4, hB4, hs4⟩ := HF4.out _ (below_regrown wr dq osq)
          clear c1 cr1 cr3 hV Hbw HF4 y11
          generalize grow (redrawn wr dq) osq = w4 at *
          have HB4 : Hid (Below W0.heap.size W0 w4) := hB4
          have HO4 : Hid (w4.ownsRow W0.heap.size 3 1 u9 (idxL (fun x : Tk => usesB c x.res r) c.tasks j).length ((idxL (fun x : Tk => usesB c x.res r) c.tasks j).map fun x => I x)) := hO4
          clear hB4
          have HO6 : Hid (w4.ownsRow W0.heap.size 3 1 u9 (idxL (fun x : Tk => usesB c x.res r) c.tasks (j + 1)).length ((idxL (fun x : Tk => usesB c x.res r) c.tasks (j + 1)).map fun x => I x)) := by rw [HT2.out]; exact HO4.out
          clear hO4
          go_wp2
          go_roundw
          case rel => exact ⟨j + 1, by omega, by go_num, HO6.out, HB4.out⟩
          case measure => simp [intOf]; omega
      · obtain rfl : j = v.t.n := by omega
        have hlt' : ¬ ((v.t.n : Nat) : Int) < (v.t.n : Nat) := by omega
        have HOT2 : Hid (wr.ownsRow w.heap.size 3 1 u9 LT.length (LT.map fun x => I x)) := by
          have := own_mono hO HW0.out.size
          rw [HNT.out, ← HLT0.out] at this
          exact this
        have HW2 : Hid (Below W0.heap.size W0 wr) := hB
        clear hO HJ hB hV hCf y16 Hbw hbw HW1 hsw
        go_wp2
        clear y11
        generalize wr = w2 at *
        go_loopw [10, 12] (fun lv iv wr => ∃ j : Nat, j ≤ v.i.n ∧ iv = .int .i64 j ∧ Hid (wr.ownsRow w2.heap.size 3 1 lv (idxL (fun x : Is => usesB c x.res r) c.isrs j).length ((idxL (fun x : Is => usesB c x.res r) c.isrs j).map fun x => I x) ∧ Below w2.heap.size w2 wr)) (fun _ iv _ => v.i.n - (intOf iv).toNat)
        case atStart => exact ⟨0, by omega, rfl, World.ownsRow_nil _ _ _ _, Below.refl _ _⟩
        case round =>
          obtain ⟨j, hj, rfl, HJ⟩ := hrel
          obtain ⟨hO, hB⟩ := HJ.out
          obtain ⟨hV, y11, y16, hCf, hbw⟩ := HF.out _ (HW2.out.trans (hB.mono HW2.out.size))
          have Hbw : Hid (Below w.heap.size w wr) := hbw
          have hsw := hB.size
          by_cases hlt : j < v.i.n
          · have hlt' : (j : Int) < v.i.n := by omega
            obtain ⟨x, hx⟩ : ∃ x, c.isrs[j]? = some x := ⟨_, List.getElem?_eq_getElem (by rw [← HNI.out]; exact hlt)⟩
            obtain ⟨g, off, s3, s4, e, hg, a0, a1, a2, a3, a4, r3, r4⟩ := is_at hCf hx
            have hid := (meet_isr HMT.out hn (List.mem_of_getElem? hx)).1
            have HS : Hid (idxL (fun x : Is => usesB c x.res r) c.isrs (j + 1) = idxL (fun x : Is => usesB c x.res r) c.isrs j ++ (if usesB c x.res r = true then [(j : Int)] else [])) := idxL_snoc _ hx
            have HTL : Hid ((idxL (fun x : Is => usesB c x.res r) c.isrs j).length ≤ j) := idxL_len _ _ _
            have cr1 := cell_regrown y16
            have cr3 := cell_regrown a3
            rw [e] at cr1 y16
            have c1 : ∀ d os, Calls Try.prog 42 #[.agg C, .slice s3.a s3.n s3.c, I r] (grow (redrawn wr d) os) fun e w'' => e = .returned (.bool (usesB c x.res r)) ∧ ∃ p : Regrown, w'' = grow (redrawn wr p.d) p.os := fun d os => Calls.regrown_of (HU2.out _ (Hbw.out.trans ((below_regrown _ d os).mono Hbw.out.size)) s3 x.res (r3.below (below_regrown _ d os) (fun _ _ _ _ h => h)) hid)
            have HF4 : Hid (∀ W, Below wr.heap.size wr W → W.ownsRow w2.heap.size 3 1 u10 (idxL (fun x : Is => usesB c x.res r) c.isrs j).length ((idxL (fun x : Is => usesB c x.res r) c.isrs j).map fun x => I x) ∧ Below w2.heap.size w2 W ∧ w2.heap.size ≤ W.heap.size) := fun W hW => ⟨own_below hO hW, hB.trans (hW.mono hsw), Nat.le_trans hsw hW.size⟩
            clear hx hCf hbw HJ hid hO hB y11 e r3 r4 a0 a1 a2 a3 a4
            have hub : usesB c x.res r = true ∨ usesB c x.res r = false := by cases usesB c x.res r <;> simp
            generalize hug : usesB c x.res r = ub at *
            clear hug
            rcases hub with rfl | rfl
            · have HT2 : Hid (idxL (fun x : Is => usesB c x.res r) c.isrs (j + 1) = idxL (fun x : Is => usesB c x.res r) c.isrs j ++ [(j : Int)]) := HS.out
              clear HS
              go_wp2
              refine wp_region_quiet_below (by kernel_rfl) (by kernel_rfl) ?_
              refine wpQuiet_load_row rfl 33 _ rfl w.heap.size rfl 33 _ (0, 0) _ (heap_regrown hV) Try.underlying33 rfl hi18 ?_
              quiet_step (fail)
              repeat (go_big_quiet_step (first | exact c1 _ _))
              refine wpQuiet_nil ?_
              rintro _ ⟨⟨dq, osq⟩, rfl⟩
              dsimp only
              obtain ⟨hO4, hB4, hs4⟩ := HF4.out _ (below_regrown wr dq osq)
              clear c1 cr1 cr3 hV Hbw HF4 y16
              generalize grow (redrawn wr dq) osq = w4 at *
              have HB4 : Hid (Below w2.heap.size w2 w4) := hB4
              have HO4 : Hid (w4.ownsRow w2.heap.size 3 1 u10 (idxL (fun x : Is => usesB c x.res r) c.isrs j).length ((idxL (fun x : Is => usesB c x.res r) c.isrs j).map fun x => I x)) := hO4
              clear hB4
              have hlj := HTL.out
              have hO2 := hO4.alloc (.cells #[I (j : Int)] 3)
              clear hO4
              go_wp2_with (at_builtin; refine wpList_append_own _ rfl (.tmp 58) (.tmp 60) 34 rfl w2.heap.size 3 i0 (.int .i64 0) 1 8 Try.underlying34 hi0 hz0 hz1 hz2 rfl (by decide) _ _ _ rfl hO2 ⟨w4.heap.size, 0, none⟩ 1 1 [I (j : Int)] rfl rfl (cell_one_new _ _ _) (by intro u hu; simp at hu; subst hu; rfl) (by unfold maxLen; omega) (by omega) (by simp; omega) ?_)
              intro v6 w6 ho6 hg6 _
              have HB6 : Hid (Below w2.heap.size w2 w6) := by
                have b1 := HB4.out.trans ((below_alloc w4 (.cells #[I (j : Int)] 3)).mono hs4)
                exact b1.grown hg6 (by simp; omega) (fun k e => (HO4.out.lt k e).1)
              have HO6 : Hid (w6.ownsRow w2.heap.size 3 1 v6 (idxL (fun x : Is => usesB c x.res r) c.isrs (j + 1)).length ((idxL (fun x : Is => usesB c x.res r) c.isrs (j + 1)).map fun x => I x)) := by
                rw [HT2.out, List.length_append, List.map_append]
                exact ho6
              clear ho6 hg6 hO2 HB4 HO4 hlj
              go_wp2
              go_roundw
              case rel => exact ⟨j + 1, by omega, by go_num, HO6.out, HB6.out⟩
              case measure => simp [intOf]; omega
            · have HT2 : Hid (idxL (fun x : Is => usesB c x.res r) c.isrs (j + 1) = idxL (fun x : Is => usesB c x.res r) c.isrs j) := by show _ = _; rw [HS.out, if_neg (by decide), List.append_nil]
              clear HS
              go_wp2
              refine wp_region_quiet_below (by kernel_rfl) (by kernel_rfl) ?_
              refine wpQuiet_load_row rfl 33 _ rfl w.heap.size rfl 33 _ (0, 0) _ (heap_regrown hV) Try.underlying33 rfl hi18 ?_
              quiet_step (fail)
              repeat (go_big_quiet_step (first | exact c1 _ _))
              refine wpQuiet_nil ?_
              rintro _ ⟨⟨dq, osq⟩, rfl⟩
              dsimp only
              obtain ⟨hO4, hB4, hs4⟩ := HF4.out _ (below_regrown wr dq osq)
              clear c1 cr1 cr3 hV Hbw HF4 y16
              generalize grow (redrawn wr dq) osq = w4 at *
              have HB4 : Hid (Below w2.heap.size w2 w4) := hB4
              have HO4 : Hid (w4.ownsRow w2.heap.size 3 1 u10 (idxL (fun x : Is => usesB c x.res r) c.isrs j).length ((idxL (fun x : Is => usesB c x.res r) c.isrs j).map fun x => I x)) := hO4
              clear hB4
              have HO6 : Hid (w4.ownsRow w2.heap.size 3 1 u10 (idxL (fun x : Is => usesB c x.res r) c.isrs (j + 1)).length ((idxL (fun x : Is => usesB c x.res r) c.isrs (j + 1)).map fun x => I x)) := by rw [HT2.out]; exact HO4.out
              clear hO4
              go_wp2
              go_roundw
              case rel => exact ⟨j + 1, by omega, by go_num, HO6.out, HB4.out⟩
              case measure => simp [intOf]; omega
          · obtain rfl : j = v.i.n := by omega
            have hlt' : ¬ ((v.i.n : Nat) : Int) < (v.i.n : Nat) := by omega
            have HO : Hid (wr.ownsRow w.heap.size 3 1 u10 LI.length (LI.map fun x => I x)) := by
              have := own_mono hO (Nat.le_trans HW0.out.size HW2.out.size)
              rw [HNI.out, ← HLI0.out] at this
              exact this
            have HOT : Hid (wr.ownsRow w.heap.size 3 1 u9 LT.length (LT.map fun x => I x)) := own_below HOT2.out hB
            have HAP : Hid (∀ g, u9.ownBlock = some g → u10.ownBlock ≠ some g) := fun g hg hg2 => by
              have h1 := (HOT2.out.lt g hg).2
              have h2 := (hO.lt g hg2).1
              omega
            clear hO HJ hB hV hCf y11
            go_wp2
            refine bodyPost_ret (results_tmp3 rfl _ _ _) rfl ?_
            exact ⟨_, _, rfl, HOT.out, HO.out, HAP.out, Hbw.out⟩
  · have HLT0 : Hid (LT = []) := by show _ = _; rw [HLT.out, usrT, if_neg (by rw [← HR.out]; exact hR0)]
    have HLI0 : Hid (LI = []) := by show _ = _; rw [HLI.out, usrI, if_neg (by rw [← HR.out]; exact hR0)]
    have hE1 : (R != 0) = true := by simpa using hR0
    clear HR HLT HLI HU HF
    go_enter Try.func22, Try.ntmps22
    go_wp2_with (first | (refine wpList_load_row rfl 33 _ rfl w.heap.size rfl 33 _ (0, 0) _ hV0 Try.underlying33 rfl hi18 ?_) | (go_at_call 20; refine krf.mono ?_; rintro e w1 ⟨u0, rfl, _, hb1⟩; have HW1 : Hid (Below w.heap.size w w1) := HB.out.trans (hb1.mono HB.out.size); clear krf hb1))
    refine bodyPost_ret (results_tmp3 rfl _ _ _) rfl ?_
    exact own3_nil HW1.out HLT0.out HLI0.out
end Go.Proofs.Ytapfbinaocaclaa
