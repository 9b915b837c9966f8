import Derived.Test.YtapfbinaocaclaaEef
namespace Go.Proofs.Ytapfbinaocaclaa
open Go.RowKit Go.Sort Go.Maps
set_option linter.unusedVariables false
set_option linter.unusedSimpArgs false

/-! ### The program's Group -/
theorem LookP.mono {c : Cf} {R : Int} {w w1 w' : World} {e : Ending} (h : LookP c R w1 e w') (hb : Below w.heap.size w w1) : LookP c R w e w' :=
  ⟨hb.trans (h.1.mono hb.size), h.2.imp (fun ⟨a, b, he, hl, hE⟩ => ⟨a, b, he, Nat.le_trans hb.size hl, hE⟩) id⟩
theorem LookP.got {c : Cf} {R : Int} {w w' : World} {e : Ending} (h : LookP c R w e w') (hR : R = 0) : ∃ b, e = .returned (.tuple #[.map (some b), I 0]) ∧ w.heap.size ≤ b ∧ EndsAt w' b c := by
  rcases h.2 with ⟨_, h⟩ | ⟨h, _⟩
  · exact h
  · exact absurd hR h
theorem LookP.not {c : Cf} {R : Int} {w w' : World} {e : Ending} (h : LookP c R w e w') (hR : R ≠ 0) : e = .returned (.tuple #[.map none, I R]) := by
  rcases h.2 with ⟨h, _⟩ | ⟨_, h⟩
  · exact absurd h hR
  · exact h
set_option maxHeartbeats 8000000 in
set_option maxRecDepth 100000 in
theorem lookAt_any (w : World) (c : Cf) (v : Vs) (h : CfAt w c v) (hn : c.ress.length ≤ 8796093022208) (r : Int) : Calls Try.prog 31 #[.agg (cfC c v), I r] w fun e w' => LookP c (grpE c r) w e w' := by
  have hi18 : (Try.prog.info? 33).map (·.size) = some (cfC c v).size := by rw [show (cfC c v).size = 18 from rfl]; kernel_rfl
  have hV0 := heap_alloc_new w (.cells (cfC c v) 33)
  have hb := below_alloc w (.cells (cfC c v) 33)
  have HNR : Hid (v.r.n = c.ress.length) := h.r.n
  have hcr : v.r.n ≤ v.r.c := h.r.c
  have hmr : v.r.c ≤ maxLen := h.r.m
  unfold maxLen at hmr
  have hcv : ∀ W : World, W.heap[w.heap.size]? = some (.cells (cfC c v) 33 (0, 0)) → W.cell? ⟨w.heap.size, 12, none⟩ = some (.slice v.r.a v.r.n v.r.c) := fun W hW => by
    obtain ⟨_, h10, h11, h12, h13, h14, h15, h16, h17⟩ := var18_all hW
    exact h12
  have krf := clook_any _ c v (h.below hb) hn
  generalize cfC c v = C at *
  have HF : Hid (∀ W, Below (w.alloc (.cells C 33)).heap.size (w.alloc (.cells C 33)) W → W.cell? ⟨w.heap.size, 12, none⟩ = some (.slice v.r.a v.r.n v.r.c) ∧ Below w.heap.size w W) := fun W hW => by
    have hVW := (hW.block _ (heap_lt hV0)).trans hV0
    exact ⟨hcv W hVW, hb.trans (hW.mono hb.size)⟩
  have HB : Hid (Below w.heap.size w (w.alloc (.cells C 33))) := hb
  obtain ⟨E, hE⟩ : ∃ E, E = lookE c := ⟨_, rfl⟩
  obtain ⟨R, hR⟩ : ∃ R, R = grpE c r := ⟨_, rfl⟩
  rw [← hR]
  rw [← hE] at krf
  have HE : Hid (E = lookE c) := hE
  have HR : Hid (R = grpE c r) := hR
  clear h hb hcv hE hR
  by_cases hE0 : E = 0
  · subst hE0
    have k1 := cID_any r v.r.n
    obtain ⟨bi, hbi⟩ : ∃ bi, bi = isId r v.r.n := ⟨_, rfl⟩
    rw [← hbi] at k1
    have HR1 : Hid (R = if bi = true then 0 else 2) := by show _ = _; rw [HR.out, grpE, if_pos HE.out.symm, hbi, HNR.out]
    clear HR HE hbi
    cases bi with
    | true =>
      have HR0 : Hid (R = 0) := HR1.out
      clear HR1
      go_enter Try.func31, Try.ntmps31
      go_wp2_with (first | (refine wpList_load_row rfl 33 _ rfl w.heap.size rfl 33 _ (0, 0) _ hV0 Try.underlying33 rfl hi18 ?_) | (go_at_call 26; refine krf.mono ?_; rintro e w1 hp; have hp2 := LookP.mono hp HB.out; obtain ⟨y1, hbw1⟩ := HF.out _ hp.1; clear krf hp; obtain ⟨b1, rfl, hl1, hE1⟩ := hp2.got rfl; clear hp2) | (go_at_call 43; refine (k1 _).mono ?_; clear k1; rintro e w2 ⟨rfl, rfl⟩))
      go_ret2
      exact LookP.ok HR0.out hbw1 hl1 hE1 rfl
    | false =>
      have HR0 : Hid (R = 2) := HR1.out
      clear HR1
      go_enter Try.func31, Try.ntmps31
      go_wp2_with (first | (refine wpList_load_row rfl 33 _ rfl w.heap.size rfl 33 _ (0, 0) _ hV0 Try.underlying33 rfl hi18 ?_) | (go_at_call 26; refine krf.mono ?_; rintro e w1 hp; have hp2 := LookP.mono hp HB.out; obtain ⟨y1, hbw1⟩ := HF.out _ hp.1; clear krf hp; obtain ⟨b1, rfl, hl1, hE1⟩ := hp2.got rfl; clear hp2) | (go_at_call 43; refine (k1 _).mono ?_; clear k1; rintro e w2 ⟨rfl, rfl⟩))
      go_ret2
      exact LookP.bad HR0.out (by decide) hbw1 rfl
  · have HR0 : Hid (R = E) := by show _ = _; rw [HR.out, grpE, if_neg (by rw [← HE.out]; exact hE0), HE.out]
    have hE1 : (E == 0) = false := by simpa using hE0
    clear HR HE
    go_enter Try.func31, Try.ntmps31
    go_wp2_with (first | (refine wpList_load_row rfl 33 _ rfl w.heap.size rfl 33 _ (0, 0) _ hV0 Try.underlying33 rfl hi18 ?_) | (go_at_call 26; refine krf.mono ?_; rintro e w1 hp; have hp2 := LookP.mono hp HB.out; obtain ⟨y1, hbw1⟩ := HF.out _ hp.1; clear krf hp; obtain rfl := hp2.not hE0; clear hp2))
    go_ret2
    exact LookP.bad HR0.out hE0 hbw1 rfl
set_option maxHeartbeats 8000000 in
set_option maxRecDepth 100000 in
theorem group_any (w : World) (c : Cf) (v : Vs) (h : CfAt w c v) (hn : c.ress.length ≤ 8796093022208) (r : Int) : Calls Try.prog 9 #[.agg (cfC c v), I r] w fun e w' => Own2 w (grpL c r) (grpE c r) e w' := by
  obtain ⟨i0, hi0, hz0, hz1, hz2⟩ := info_parts Try.infoInt
  have hi18 : (Try.prog.info? 33).map (·.size) = some (cfC c v).size := by rw [show (cfC c v).size = 18 from rfl]; kernel_rfl
  have hV0 := heap_alloc_new w (.cells (cfC c v) 33)
  have hb := below_alloc w (.cells (cfC c v) 33)
  have HNR : Hid (v.r.n = c.ress.length) := h.r.n
  have hcr : v.r.n ≤ v.r.c := h.r.c
  have hmr : v.r.c ≤ maxLen := h.r.m
  unfold maxLen at hmr
  have hvn : v.r.n ≤ 8796093022208 := by have := h.r.n; omega
  have hcv : ∀ W : World, W.heap[w.heap.size]? = some (.cells (cfC c v) 33 (0, 0)) → W.cell? ⟨w.heap.size, 12, none⟩ = some (.slice v.r.a v.r.n v.r.c) := fun W hW => by
    obtain ⟨_, h10, h11, h12, h13, h14, h15, h16, h17⟩ := var18_all hW
    exact h12
  have krf := lookAt_any _ c v (h.below hb) hn r
  generalize cfC c v = C at *
  have hs1 : (w.alloc (.cells C 33)).heap.size = w.heap.size + 1 := by simp
  have HF : Hid (∀ W, Below (w.alloc (.cells C 33)).heap.size (w.alloc (.cells C 33)) W → W.cell? ⟨w.heap.size, 12, none⟩ = some (.slice v.r.a v.r.n v.r.c) ∧ Below w.heap.size w W) := fun W hW => by
    have hVW := (hW.block _ (heap_lt hV0)).trans hV0
    exact ⟨hcv W hVW, hb.trans (hW.mono hb.size)⟩
  have HB : Hid (Below w.heap.size w (w.alloc (.cells C 33))) := hb
  obtain ⟨L, hL⟩ : ∃ L, L = grpL c r := ⟨_, rfl⟩
  obtain ⟨R, hR⟩ : ∃ R, R = grpE c r := ⟨_, rfl⟩
  rw [← hR, ← hL]
  rw [← hR] at krf
  have HL : Hid (L = grpL c r) := hL
  have HR : Hid (R = grpE c r) := hR
  clear h hb hcv hL hR
  by_cases hR0 : R = 0
  · subst hR0
    have hid : isId r c.ress.length = true := by
      have := HR.out
      unfold grpE at this
      by_cases h1 : lookE c = 0
      · rw [if_pos h1] at this
        by_cases h2 : isId r c.ress.length = true
        · exact h2
        · rw [if_neg h2] at this; exact absurd this (by decide)
      · rw [if_neg h1] at this; exact absurd this.symm h1
    have HL0 : Hid (L = grpN c r c.ress.length) := by show _ = _; rw [HL.out, grpL, if_pos HR.out.symm]
    have hbd : 0 ≤ r ∧ r < c.ress.length := by simpa [isId] using hid
    obtain ⟨q, rfl⟩ := Int.eq_ofNat_of_zero_le hbd.1
    have hq : q < c.ress.length := by omega
    clear HR HL hid hbd
    go_enter Try.func9, Try.ntmps9
    go_wp2_with (first | (refine wpList_load_row rfl 33 _ rfl w.heap.size rfl 33 _ (0, 0) _ hV0 Try.underlying33 rfl hi18 ?_) | (go_at_call 31; refine krf.mono ?_; rintro e w1 hp; have hp2 := LookP.mono hp HB.out; obtain ⟨y1, hbw1⟩ := HF.out _ hp.1; obtain ⟨b1, rfl, hl1, hE1⟩ := hp2.got rfl; have HE1 : Hid (EndsAt w1 b1 c) := hE1; have Hbw1 : Hid (Below w.heap.size w w1) := hbw1; clear hp2 krf hp hE1 hbw1))
    clear hV0 y1 HF HB
    go_loopw [8, 9, 22] (fun lv _ iv wr => ∃ j : Nat, j ≤ v.r.n ∧ iv = .int .i64 j ∧ Hid (wr.ownsRow w1.heap.size 3 1 lv (grpN c (q : Int) j).length ((grpN c (q : Int) j).map fun x => I x) ∧ Below w1.heap.size w1 wr)) (fun _ _ iv _ => v.r.n - (intOf iv).toNat)
    case atStart => exact ⟨0, by omega, rfl, World.ownsRow_nil _ _ _ _, Below.refl _ _⟩
    case round =>
      obtain ⟨j, hj, rfl, HJ⟩ := hrel
      obtain ⟨hO, hB⟩ := HJ.out
      have hsw := hB.size
      by_cases hlt : j < v.r.n
      · have hlt' : (j : Int) < v.r.n := by omega
        have hjn : j < c.ress.length := by rw [← HNR.out]; exact hlt
        have HS : Hid (grpN c (q : Int) (j + 1) = grpN c (q : Int) j ++ (if (rootN c (j : Int) == rootN c (q : Int)) = true then [(j : Int)] else [])) := grpN_snoc c _ hjn
        have HTL : Hid ((grpN c (q : Int) j).length ≤ j) := grpN_len _ _ _
        have hE := HE1.out.below hB
        have HB4 : Hid (Below w1.heap.size w1 wr) := hB
        have HO4 : Hid (wr.ownsRow w1.heap.size 3 1 u8 (grpN c (q : Int) j).length ((grpN c (q : Int) j).map fun x => I x)) := hO
        clear hB HJ
        cases he : rootN c (j : Int) == rootN c (q : Int) with
        | true =>
          have HT2 : Hid (grpN c (q : Int) (j + 1) = grpN c (q : Int) j ++ [(j : Int)]) := by show _ = _; rw [HS.out, if_pos he]
          have hlj := HTL.out
          have hO2 := hO.alloc (.cells #[I (j : Int)] 3)
          clear HS hO
          go_wp2_with (first | (at_lookup; refine wpList_find_g _ _ 72 rfl Try.underlying72 b1 c rfl hE hn j hjn rfl (by kernel_rfl) ?_; intro e7 HX7; clear hjn; have h7 := HX7.out; rw [← h7] at he; clear h7 HX7) | (at_lookup; refine wpList_find_g _ _ 72 rfl Try.underlying72 b1 c rfl hE hn q hq rfl (by kernel_rfl) ?_; intro e8 HX8; have h8 := HX8.out; rw [← h8] at he; clear h8 HX8) | (at_builtin; refine wpList_append_own _ rfl (.tmp 32) (.tmp 34) 34 rfl w1.heap.size 3 i0 (.int .i64 0) 1 8 Try.underlying34 hi0 hz0 hz1 hz2 rfl (by decide) _ _ _ rfl hO2 ⟨wr.heap.size, 0, none⟩ 1 1 [I (j : Int)] rfl rfl (cell_one_new _ _ _) (by intro u hu; simp at hu; subst hu; rfl) (by unfold maxLen; omega) (by omega) (by simp; omega) ?_))
          intro v6 w6 ho6 hg6 _
          have HB6 : Hid (Below w1.heap.size w1 w6) := by
            have b1 := HB4.out.trans ((below_alloc wr (.cells #[I (j : Int)] 3)).mono hsw)
            exact b1.grown hg6 (by simp; omega) (fun k e => (HO4.out.lt k e).1)
          have HO6 : Hid (w6.ownsRow w1.heap.size 3 1 v6 (grpN c (q : Int) (j + 1)).length ((grpN c (q : Int) (j + 1)).map fun x => I x)) := by
            rw [HT2.out, List.length_append, List.map_append]
            exact ho6
          clear ho6 hg6 hO2 HB4 HO4 hlj hE
          go_wp2
          go_roundw
          case rel => exact ⟨j + 1, by omega, by go_num, HO6.out, HB6.out⟩
          case measure => simp [intOf]; omega
        | false =>
          have HT2 : Hid (grpN c (q : Int) (j + 1) = grpN c (q : Int) j) := by show _ = _; rw [HS.out, if_neg (by rw [he]; decide), List.append_nil]
          have HO6 : Hid (wr.ownsRow w1.heap.size 3 1 u8 (grpN c (q : Int) (j + 1)).length ((grpN c (q : Int) (j + 1)).map fun x => I x)) := by rw [HT2.out]; exact HO4.out
          clear HS hO
          go_wp2_with (first | (at_lookup; refine wpList_find_g _ _ 72 rfl Try.underlying72 b1 c rfl hE hn j hjn rfl (by kernel_rfl) ?_; intro e7 HX7; clear hjn; have h7 := HX7.out; rw [← h7] at he; clear h7 HX7) | (at_lookup; refine wpList_find_g _ _ 72 rfl Try.underlying72 b1 c rfl hE hn q hq rfl (by kernel_rfl) ?_; intro e8 HX8; have h8 := HX8.out; rw [← h8] at he; clear h8 HX8))
          go_roundw
          case rel => exact ⟨j + 1, by omega, by go_num, HO6.out, HB4.out⟩
          case measure => simp [intOf]; omega
      · obtain rfl : j = v.r.n := by omega
        have hlt' : ¬ ((v.r.n : Nat) : Int) < (v.r.n : Nat) := by omega
        have HO : Hid (wr.ownsRow w.heap.size 3 1 u8 L.length (L.map fun x => I x)) := by
          have := own_mono hO Hbw1.out.size
          rw [HNR.out, ← HL0.out] at this
          exact this
        have Hbw : Hid (Below w.heap.size w wr) := Hbw1.out.trans (hB.mono Hbw1.out.size)
        clear hO HJ hB
        go_wp2
        go_ret2
        exact ⟨_, rfl, HO.out, Hbw.out⟩
  · have HL0 : Hid (L = []) := by show _ = _; rw [HL.out, grpL, if_neg (by rw [← HR.out]; exact hR0)]
    have hE1 : (R != 0) = true := by simpa using hR0
    clear HR HL
    go_enter Try.func9, Try.ntmps9
    go_wp2_with (first | (refine wpList_load_row rfl 33 _ rfl w.heap.size rfl 33 _ (0, 0) _ hV0 Try.underlying33 rfl hi18 ?_) | (go_at_call 31; refine krf.mono ?_; rintro e w1 hp; have hp2 := LookP.mono hp HB.out; obtain ⟨y1, hbw1⟩ := HF.out _ hp.1; obtain rfl := hp2.not hR0; clear krf hp hp2))
    go_ret2
    exact own2_nil hbw1 rfl HL0.out
end Go.Proofs.Ytapfbinaocaclaa
