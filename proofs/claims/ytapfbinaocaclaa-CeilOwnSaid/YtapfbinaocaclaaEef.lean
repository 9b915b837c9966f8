import Derived.Test.YtapfbinaocaclaaEee
namespace Go.Proofs.Ytapfbinaocaclaa
open Go.RowKit Go.Sort
set_option linter.unusedVariables false
set_option linter.unusedSimpArgs false

/-! ### The document's Ints and Group -/
theorem take_same {l m : List Int} {j : Nat} {x y : Int} (h : l.take j = m.take j) (hx : l[j]? = some x) (hy : m[j]? = some y) : (l.take (j + 1) = m.take (j + 1)) ↔ x = y := by
  rw [List.take_add_one, List.take_add_one, hx, hy, h, Option.toList_some, Option.toList_some]
  constructor
  · intro e
    have := List.append_cancel_left e
    simpa using this
  · rintro rfl
    rfl
set_option maxHeartbeats 4000000 in
set_option maxRecDepth 100000 in
theorem rints_any (w : World) (s t : Sl) (l m : List Int) (hl : RowsAt w 1 intP s l) (hm : RowsAt w 1 intP t m) : Calls Try.prog 21 #[.slice s.a s.n s.c, .slice t.a t.n t.c] w fun e w' => Ans w (decide (l = m)) e w' := by
  have HS : Hid (s.n = l.length) := hl.n
  have HT : Hid (t.n = m.length) := hm.n
  have hsc : s.n ≤ s.c := hl.c
  have hsm : s.c ≤ maxLen := hl.m
  have htc : t.n ≤ t.c := hm.c
  have htm : t.c ≤ maxLen := hm.m
  unfold maxLen at hsm htm
  have HH : Hid (RowsAt w 1 intP s l ∧ RowsAt w 1 intP t m) := ⟨hl, hm⟩
  have HB : Hid (Below w.heap.size w w) := Below.refl _ _
  obtain ⟨R, hR⟩ : ∃ R, R = decide (l = m) := ⟨_, rfl⟩
  rw [← hR]
  have HR : Hid (R = decide (l = m)) := hR
  clear hl hm hR
  by_cases hn : s.n = t.n
  · have hn' : ((s.n : Int) != t.n) = false := by rw [hn]; simp
    have hn'' : (s.n : Int) = t.n := by omega
    go_enter Try.func21, Try.ntmps21
    go_wp2
    clear HB
    go_loopw [5] (fun iv wr => ∃ j : Nat, j ≤ s.n ∧ iv = .int .i64 j ∧ Hid (Below w.heap.size w wr ∧ l.take j = m.take j)) (fun iv _ => s.n - (intOf iv).toNat)
    case atStart => exact ⟨0, by omega, rfl, Below.refl _ _, by simp⟩
    case round =>
      obtain ⟨j, hj, rfl, HJ⟩ := hrel
      have hB := HJ.out.1
      by_cases hlt : j < s.n
      · have hlt' : (j : Int) < s.n := by omega
        have hlt2 : (j : Int) < t.n := by omega
        obtain ⟨x, hx⟩ : ∃ x, l[j]? = some x := ⟨_, List.getElem?_eq_getElem (by rw [← HS.out]; exact hlt)⟩
        obtain ⟨y, hy⟩ : ∃ y, m[j]? = some y := ⟨_, List.getElem?_eq_getElem (by rw [← HT.out]; omega)⟩
        obtain ⟨g5, o5, e5, hg5, b5⟩ := ints_at (HH.out.1.below hB (fun _ _ _ _ h => h)) hx
        obtain ⟨g6, o6, e6, hg6, b6⟩ := ints_at (HH.out.2.below hB (fun _ _ _ _ h => h)) hy
        have HQ : Hid ((l.take (j + 1) = m.take (j + 1)) ↔ x = y) := take_same HJ.out.2 hx hy
        rw [e5, e6]
        clear hx hy e5 e6 HJ
        by_cases hxy : x = y
        · have hxy' : (x != y) = false := by simpa using hxy
          have HQ2 : Hid (l.take (j + 1) = m.take (j + 1)) := HQ.out.2 hxy
          clear HQ hxy
          go_wp2
          go_quiet (fail)
          go_wp2
          go_roundw
          case rel => exact ⟨j + 1, by omega, by go_num, below_drewN hB _, HQ2.out⟩
          case measure => simp [intOf]; omega
        · have hxy' : (x != y) = true := by simpa using hxy
          have HE : Hid (R = false) := by
            show _ = _
            rw [HR.out]
            exact decide_eq_false (fun e => hxy (HQ.out.1 (by rw [e])))
          clear HQ hxy HR
          go_wp2
          go_quiet (fail)
          go_wp2
          go_ret
          exact ⟨ret_bool HE.out.symm, below_drewN hB _⟩
      · obtain rfl : j = s.n := by omega
        have hlt' : ¬ ((s.n : Nat) : Int) < (s.n : Nat) := by omega
        have HE : Hid (R = true) := by
          show _ = _
          rw [HR.out]
          have := HJ.out.2
          rw [List.take_of_length_le (by rw [HS.out]; exact Nat.le_refl _), List.take_of_length_le (by rw [hn, HT.out]; exact Nat.le_refl _)] at this
          exact decide_eq_true this
        clear HR HJ
        go_wp2
        go_ret
        exact ⟨ret_bool HE.out.symm, hB⟩
  · have hn' : ((s.n : Int) != t.n) = true := by simp; omega
    have hn'' : ¬ (s.n : Int) = t.n := by omega
    have HE : Hid (R = false) := by
      show _ = _
      rw [HR.out]
      exact decide_eq_false (fun e => hn (by rw [HS.out, HT.out, e]))
    clear HR
    go_enter Try.func21, Try.ntmps21
    go_wp2
    go_ret
    exact ⟨ret_bool HE.out.symm, HB.out⟩
/-- A row of its own and a number. -/
theorem own_mono {w : World} {base base' : Nat} {e : TypeId} {size : Nat} {v : Value} {n : Nat} {xs : List Value} (h : w.ownsRow base e size v n xs) (hb : base' ≤ base) : w.ownsRow base' e size v n xs :=
  ⟨h.1, h.2.imp id (fun ⟨g, cap, cur, he, h1, h2⟩ => ⟨g, cap, cur, he, Nat.le_trans hb h1, h2⟩)⟩
def Own2 (w : World) (l : List Int) (k : Int) (e : Ending) (w' : World) : Prop := ∃ u, e = .returned (.tuple #[u, I k]) ∧ w'.ownsRow w.heap.size 3 1 u l.length (l.map fun x => I x) ∧ Below w.heap.size w w'
def grpN (c : Cf) (r : Int) (j : Nat) : List Int := (((List.range c.ress.length).take j).filter (fun i : Nat => rootN c (i : Int) == rootN c r)).map (fun i : Nat => (i : Int))
def grpE (c : Cf) (r : Int) : Int := if lookE c = 0 then (if isId r c.ress.length = true then 0 else 2) else lookE c
def grpL (c : Cf) (r : Int) : List Int := if grpE c r = 0 then grpN c r c.ress.length else []
theorem grpN_snoc (c : Cf) (r : Int) {j : Nat} (hj : j < c.ress.length) : grpN c r (j + 1) = grpN c r j ++ (if (rootN c (j : Int) == rootN c r) = true then [(j : Int)] else []) := by
  unfold grpN
  rw [List.take_add_one, List.getElem?_range hj, Option.toList_some, List.filter_append, List.map_append]
  congr 1
  simp only [List.filter_cons, List.filter_nil]
  split <;> rfl
theorem grpN_len (c : Cf) (r : Int) (j : Nat) : (grpN c r j).length ≤ j := by
  unfold grpN
  rw [List.length_map]
  exact Nat.le_trans (List.length_filter_le _ _) (by rw [List.length_take]; omega)
theorem own2_nil {w w' : World} {k : Int} {l : List Int} {k' : Int} (hb : Below w.heap.size w w') (hk : k' = k) (hl : l = []) : Own2 w l k' (.returned (.tuple #[.slice none 0 0, I k])) w' := by
  subst hk
  subst hl
  exact ⟨_, rfl, World.ownsRow_nil _ _ _ _, hb⟩
theorem look_lk {c : Cf} (h : lookE c = 0) : meetB c = true ∧ lkB c = true ∧ endsB c = true := by
  unfold lookE at h
  cases h1 : meetB c with
  | false => rw [h1] at h; simp at h
  | true =>
    cases h2 : lkB c with
    | false => rw [h1, h2] at h; simp at h
    | true =>
      cases h3 : endsB c with
      | false => rw [h1, h2, h3] at h; simp at h
      | true => exact ⟨rfl, rfl, rfl⟩
set_option maxHeartbeats 8000000 in
set_option maxRecDepth 100000 in
theorem rgroup_any (w : World) (c : Cf) (v : Vs) (h : CfAt w c v) (hn : c.ress.length ≤ 8796093022208) (r : Int) : Calls Try.prog 20 #[.agg (cfC c v), I r] w fun e w' => Own2 w (grpL c r) (grpE c r) e w' := by
  obtain ⟨i0, hi0, hz0, hz1, hz2⟩ := info_parts Try.infoInt
  have hi18 : (Try.prog.info? 33).map (·.size) = some (cfC c v).size := by rw [show (cfC c v).size = 18 from rfl]; kernel_rfl
  have hV0 := heap_alloc_new w (.cells (cfC c v) 33)
  have hb := below_alloc w (.cells (cfC c v) 33)
  have HNR : Hid (v.r.n = c.ress.length) := h.r.n
  have hcr : v.r.n ≤ v.r.c := h.r.c
  have hmr : v.r.c ≤ maxLen := h.r.m
  unfold maxLen at hmr
  have hvn : v.r.n ≤ 8796093022208 := by have := h.r.n; omega
  have HK : Hid (lookE c = 0 → ∀ W, Below w.heap.size w W → ∀ q : Nat, q < c.ress.length → Calls Try.prog 41 #[.agg (cfC c v), I (q : Int)] W fun e w' => e = .returned (I (rootN c (q : Int))) ∧ Below W.heap.size W w') := fun hk W hW q hq => rroot8_any W c v (h.below hW) hn (lk_links (look_lk hk).2.1) q hq
  have hcv : ∀ W : World, W.heap[w.heap.size]? = some (.cells (cfC c v) 33 (0, 0)) → W.cell? ⟨w.heap.size, 12, none⟩ = some (.slice v.r.a v.r.n v.r.c) := fun W hW => by
    obtain ⟨_, h10, h11, h12, h13, h14, h15, h16, h17⟩ := var18_all hW
    exact h12
  have krf := rcheck_any _ c v (h.below hb) hn
  generalize cfC c v = C at *
  have hs1 : (w.alloc (.cells C 33)).heap.size = w.heap.size + 1 := by simp
  rw [hs1] at krf
  have HF : Hid (∀ W, Below (w.heap.size + 1) (w.alloc (.cells C 33)) W → W.heap[w.heap.size]? = some (.cells C 33 (0, 0)) ∧ W.cell? ⟨w.heap.size, 12, none⟩ = some (.slice v.r.a v.r.n v.r.c) ∧ Below w.heap.size w W ∧ w.heap.size + 1 ≤ W.heap.size) := fun W hW => by
    have hs := hW.size
    have hVW := (hW.block _ (by omega)).trans hV0
    exact ⟨hVW, hcv W hVW, hb.trans (hW.mono (by omega)), by omega⟩
  obtain ⟨E, hE⟩ : ∃ E, E = lookE c := ⟨_, rfl⟩
  obtain ⟨L, hL⟩ : ∃ L, L = grpL c r := ⟨_, rfl⟩
  obtain ⟨R, hR⟩ : ∃ R, R = grpE c r := ⟨_, rfl⟩
  rw [← hR, ← hL]
  rw [← hE] at krf
  have HE : Hid (E = lookE c) := hE
  have HL : Hid (L = grpL c r) := hL
  have HR : Hid (R = grpE c r) := hR
  clear h hb hcv hE hL hR
  by_cases hE0 : E = 0
  · subst hE0
    have HK2 : Hid (∀ W, Below w.heap.size w W → ∀ q : Nat, q < c.ress.length → Calls Try.prog 41 #[.agg C, I (q : Int)] W fun e w' => e = .returned (I (rootN c (q : Int))) ∧ Below W.heap.size W w') := HK.out HE.out.symm
    by_cases hid : isId r c.ress.length = true
    · have HR0 : Hid (R = 0) := by show _ = _; rw [HR.out, grpE, if_pos HE.out.symm, if_pos hid]
      have HL0 : Hid (L = grpN c r c.ress.length) := by show _ = _; rw [HL.out, grpL, if_pos (by rw [← HR.out]; exact HR0.out)]
      have hbd : 0 ≤ r ∧ r < c.ress.length := by simpa [isId] using hid
      obtain ⟨q, rfl⟩ := Int.eq_ofNat_of_zero_le hbd.1
      have hq : q < c.ress.length := by omega
      have hqv : (q : Int) < v.r.n := by have := HNR.out; omega
      have hq0 : ¬ (q : Int) < 0 := by omega
      clear HR HL HK hid hbd HE
      go_enter Try.func20, Try.ntmps20
      go_wp2_with (first | (refine wpList_load_row rfl 33 _ rfl w.heap.size rfl 33 _ (0, 0) _ hV0 Try.underlying33 rfl hi18 ?_) | (go_at_call 17; refine krf.mono ?_; rintro e w1 ⟨rfl, hb1⟩; obtain ⟨hV1, y1, hbw1, hsw1⟩ := HF.out _ hb1; have HW1 : Hid (Below (w.heap.size + 1) (w.alloc (.cells C 33)) w1) := hb1; clear krf hb1 hV1 hbw1 hsw1))
      clear hV0 y1
      have f1 : decide ((q : Int) < 0) = false := decide_eq_false (by omega)
      have f2 : decide (v.r.n ≤ q) = false := decide_eq_false (by omega)
      have f3 : decide ((v.r.n : Int) ≤ (q : Int)) = false := decide_eq_false (by omega)
      simp only [f1, f2, f3, Bool.or_self, Bool.false_or]
      clear f1 f2 f3
      go_loopw [7, 8] (fun lv iv wr => ∃ j : Nat, j ≤ v.r.n ∧ iv = .int .i64 j ∧ Hid (wr.ownsRow (w.heap.size + 1) 3 1 lv (grpN c (q : Int) j).length ((grpN c (q : Int) j).map fun x => I x) ∧ Below (w.heap.size + 1) (w.alloc (.cells C 33)) wr)) (fun _ iv _ => v.r.n - (intOf iv).toNat)
      case atStart => exact ⟨0, by omega, rfl, World.ownsRow_nil _ _ _ _, HW1.out⟩
      case round =>
        obtain ⟨j, hj, rfl, HJ⟩ := hrel
        obtain ⟨hO, hB⟩ := HJ.out
        obtain ⟨hV, y12, hbw, hsw⟩ := HF.out _ hB
        have Hbw : Hid (Below w.heap.size w wr) := hbw
        by_cases hlt : j < v.r.n
        · have hlt' : (j : Int) < v.r.n := by omega
          have hjn : j < c.ress.length := by rw [← HNR.out]; exact hlt
          have HS : Hid (grpN c (q : Int) (j + 1) = grpN c (q : Int) j ++ (if (rootN c (j : Int) == rootN c (q : Int)) = true then [(j : Int)] else [])) := grpN_snoc c _ hjn
          have HTL : Hid ((grpN c (q : Int) j).length ≤ j) := grpN_len _ _ _
          have c1 : ∀ d os, Calls Try.prog 41 #[.agg C, I (j : Int)] (grow (redrawn wr d) os) fun e w'' => e = .returned (I (rootN c (j : Int))) ∧ ∃ p : Regrown, w'' = grow (redrawn wr p.d) p.os := fun d os => Calls.regrown_of (HK2.out _ (Hbw.out.trans ((below_regrown _ d os).mono Hbw.out.size)) j hjn)
          have c2 : ∀ d os, Calls Try.prog 41 #[.agg C, I (q : Int)] (grow (redrawn wr d) os) fun e w'' => e = .returned (I (rootN c (q : Int))) ∧ ∃ p : Regrown, w'' = grow (redrawn wr p.d) p.os := fun d os => Calls.regrown_of (HK2.out _ (Hbw.out.trans ((below_regrown _ d os).mono Hbw.out.size)) q hq)
          have HF4 : Hid (∀ W, Below wr.heap.size wr W → W.ownsRow (w.heap.size + 1) 3 1 u7 (grpN c (q : Int) j).length ((grpN c (q : Int) j).map fun x => I x) ∧ Below (w.heap.size + 1) (w.alloc (.cells C 33)) W ∧ w.heap.size + 1 ≤ W.heap.size) := fun W hW => ⟨own_below hO hW, hB.trans (hW.mono hsw), Nat.le_trans hsw hW.size⟩
          clear hjn hO hB hbw HJ
          generalize rootN c (j : Int) = rj at *
          generalize hrq : rootN c (q : Int) = rq at *
          clear hrq
          go_wp2
          refine wp_region_quiet_below (by kernel_rfl) (by kernel_rfl) ?_
          refine wpQuiet_load_row rfl 33 _ rfl w.heap.size rfl 33 _ (0, 0) _ (heap_regrown hV) Try.underlying33 rfl hi18 ?_
          quiet_step (fail)
          repeat (go_big_quiet_step (first | exact c1 _ _))
          refine wpQuiet_load_row rfl 33 _ rfl w.heap.size rfl 33 _ (0, 0) _ (heap_regrown hV) Try.underlying33 rfl hi18 ?_
          quiet_step (fail)
          repeat (go_big_quiet_step (first | exact c2 _ _))
          refine wpQuiet_nil ?_
          rintro _ ⟨⟨dq, osq⟩, rfl⟩
          dsimp only
          obtain ⟨hO4, hB4, hs4⟩ := HF4.out _ (below_regrown wr dq osq)
          clear c1 c2 hV y12 Hbw HF4
          generalize grow (redrawn wr dq) osq = w4 at *
          have HB4 : Hid (Below (w.heap.size + 1) (w.alloc (.cells C 33)) w4) := hB4
          have HO4 : Hid (w4.ownsRow (w.heap.size + 1) 3 1 u7 (grpN c (q : Int) j).length ((grpN c (q : Int) j).map fun x => I x)) := hO4
          clear hB4
          cases he : rj == rq with
          | true =>
            have HT2 : Hid (grpN c (q : Int) (j + 1) = grpN c (q : Int) j ++ [(j : Int)]) := by show _ = _; rw [HS.out, if_pos he]
            have hlj := HTL.out
            have hO2 := hO4.alloc (.cells #[I (j : Int)] 3)
            clear HS hO4
            go_wp2_with (at_builtin; refine wpList_append_own _ rfl (.tmp 37) (.tmp 39) 34 rfl (w.heap.size + 1) 3 i0 (.int .i64 0) 1 8 Try.underlying34 hi0 hz0 hz1 hz2 rfl (by decide) _ _ _ rfl hO2 ⟨w4.heap.size, 0, none⟩ 1 1 [I (j : Int)] rfl rfl (cell_one_new _ _ _) (by intro u hu; simp at hu; subst hu; rfl) (by unfold maxLen; omega) (by omega) (by simp; omega) ?_)
            intro v6 w6 ho6 hg6 _
            have HB6 : Hid (Below (w.heap.size + 1) (w.alloc (.cells C 33)) w6) := by
              have b1 := HB4.out.trans ((below_alloc w4 (.cells #[I (j : Int)] 3)).mono hs4)
              exact b1.grown hg6 (by simp; omega) (fun k e => (HO4.out.lt k e).1)
            have HO6 : Hid (w6.ownsRow (w.heap.size + 1) 3 1 v6 (grpN c (q : Int) (j + 1)).length ((grpN c (q : Int) (j + 1)).map fun x => I x)) := by
              rw [HT2.out, List.length_append, List.map_append]
              exact ho6
            clear ho6 hg6 hO2 HB4 HO4 hlj
            go_wp2
            go_roundw
            case rel => exact ⟨j + 1, by omega, by go_num, HO6.out, HB6.out⟩
            case measure => simp [intOf]; omega
          | false =>
            have HT2 : Hid (grpN c (q : Int) (j + 1) = grpN c (q : Int) j) := by show _ = _; rw [HS.out, if_neg (by rw [he]; decide), List.append_nil]
            have HO6 : Hid (w4.ownsRow (w.heap.size + 1) 3 1 u7 (grpN c (q : Int) (j + 1)).length ((grpN c (q : Int) (j + 1)).map fun x => I x)) := by rw [HT2.out]; exact HO4.out
            clear HS hO4
            go_wp2
            go_roundw
            case rel => exact ⟨j + 1, by omega, by go_num, HO6.out, HB4.out⟩
            case measure => simp [intOf]; omega
        · obtain rfl : j = v.r.n := by omega
          have hlt' : ¬ ((v.r.n : Nat) : Int) < (v.r.n : Nat) := by omega
          have HO : Hid (wr.ownsRow w.heap.size 3 1 u7 L.length (L.map fun x => I x)) := by
            have := own_mono hO (Nat.le_succ _)
            rw [HNR.out, ← HL0.out] at this
            exact this
          clear hO HJ hB hV
          go_wp2
          go_ret2
          exact ⟨_, by rw [HR0.out]; rfl, HO.out, hbw⟩
    · have HR0 : Hid (R = 2) := by show _ = _; rw [HR.out, grpE, if_pos HE.out.symm, if_neg hid]
      have HL0 : Hid (L = []) := by show _ = _; rw [HL.out, grpL, if_neg (by rw [← HR.out, HR0.out]; decide)]
      have hsp : r < 0 ∨ (¬ r < 0 ∧ r ≥ (v.r.n : Int)) := by
        by_cases h0 : r < 0
        · exact .inl h0
        · right
          refine ⟨h0, ?_⟩
          rw [HNR.out]
          apply Classical.byContradiction
          intro h1
          exact hid (by simp [isId]; omega)
      clear HR HL HK hid HE HK2
      rcases hsp with h0 | ⟨h0, h1⟩
      · go_enter Try.func20, Try.ntmps20
        go_wp2_with (first | (refine wpList_load_row rfl 33 _ rfl w.heap.size rfl 33 _ (0, 0) _ hV0 Try.underlying33 rfl hi18 ?_) | (go_at_call 17; refine krf.mono ?_; rintro e w1 ⟨rfl, hb1⟩; obtain ⟨hV1, y1, hbw1, hsw1⟩ := HF.out _ hb1; clear krf hb1 hV1 hsw1))
        go_ret2
        exact own2_nil hbw1 HR0.out HL0.out
      · go_enter Try.func20, Try.ntmps20
        go_wp2_with (first | (refine wpList_load_row rfl 33 _ rfl w.heap.size rfl 33 _ (0, 0) _ hV0 Try.underlying33 rfl hi18 ?_) | (go_at_call 17; refine krf.mono ?_; rintro e w1 ⟨rfl, hb1⟩; obtain ⟨hV1, y1, hbw1, hsw1⟩ := HF.out _ hb1; clear krf hb1 hV1 hsw1))
        go_ret2
        exact own2_nil hbw1 HR0.out HL0.out
  · have HR0 : Hid (R = E) := by show _ = _; rw [HR.out, grpE, if_neg (by rw [← HE.out]; exact hE0), HE.out]
    have HL0 : Hid (L = []) := by show _ = _; rw [HL.out, grpL, if_neg (by rw [← HR.out, HR0.out]; exact hE0)]
    have hE1 : (E != 0) = true := by simpa using hE0
    clear HR HL HK HE
    go_enter Try.func20, Try.ntmps20
    go_wp2_with (first | (refine wpList_load_row rfl 33 _ rfl w.heap.size rfl 33 _ (0, 0) _ hV0 Try.underlying33 rfl hi18 ?_) | (go_at_call 17; refine krf.mono ?_; rintro e w1 ⟨rfl, hb1⟩; obtain ⟨hV1, y1, hbw1, hsw1⟩ := HF.out _ hb1; clear krf hb1 hV1 hsw1))
    go_ret2
    exact own2_nil hbw1 HR0.out HL0.out
end Go.Proofs.Ytapfbinaocaclaa
