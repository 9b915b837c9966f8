import Derived.Test.YtapfbinaocaclaaEuX
namespace Go.Proofs.Ytapfbinaocaclaa
open Go.RowKit Go.Maps
set_option linter.unusedVariables false
set_option linter.unusedSimpArgs false

/-! ### Blocks: the program's -/
set_option maxHeartbeats 4000000 in
set_option maxRecDepth 100000 in
theorem blocks1_any (W : World) (c : Cf) (v : Vs) (h : CfAt W c v) (bs bc bh : Nat) (s0 : Sl) (hs : BoxS W bs (.slice s0.a s0.n s0.c)) (hs0 : RowsAt W 1 intP s0 (ceilL c)) (hc : BoxC W bc c v) (hi k : Nat) (hh : W.heap[bh]? = some (.cells #[I (hi : Int)] 3 (0, 0))) (hk : k < c.ress.length) (y : Tk) (hy : c.tasks[hi]? = some y) :
    Calls Try.prog 46 #[I (k : Int), .pointer (some ⟨bs, 0, none⟩), .pointer (some ⟨bc, 0, none⟩), .pointer (some ⟨bh, 0, none⟩)] W fun e w' => e = .returned (.bool (decide (ceilE c k < y.prio))) ∧ Below W.heap.size W w' := by
  have z1 : W.cell? ⟨bs, 0, none⟩ = some (.slice s0.a s0.n s0.c) := by rw [cell_of_row W _ 0 _ _ (0, 0) hs]; rfl
  have z3 : W.cell? ⟨bh, 0, none⟩ = some (I (hi : Int)) := by rw [cell_of_row W _ 0 _ _ (0, 0) hh]; rfl
  obtain ⟨_, _, z2, _, _, _, _, _, _⟩ := var18_all hc
  obtain ⟨g, off, s4, s5, s6, s7, e, hg, a0, a1, a2, a3, a4, a5, a6, a7, r4, r5, r6, r7⟩ := tk_at h hy
  have hce : (ceilL c)[k]? = some (ceilE c k) := by unfold ceilL; rw [List.getElem?_map, List.getElem?_range hk]; rfl
  obtain ⟨gc, oc, ec, hgc, d0⟩ := ints_at hs0 hce
  have hkn : (k : Int) < s0.n := by have := hs0.n; have h2 : (ceilL c).length = c.ress.length := by unfold ceilL; simp
                                    omega
  have hin : (hi : Int) < v.t.n := by have := h.t.n; have := (List.getElem?_eq_some_iff.1 hy).1; omega
  have hcm : s0.n ≤ s0.c := hs0.c
  have hcm2 : s0.c ≤ maxLen := hs0.m
  have htm : v.t.n ≤ v.t.c := h.t.c
  have htm2 : v.t.c ≤ maxLen := h.t.m
  unfold maxLen at hcm2 htm2
  have HB : Hid (∀ q, Below W.heap.size W (W.drewN q)) := fun q => below_drewN (Below.refl _ _) _
  rw [e] at z2
  rw [ec] at z1
  generalize ceilE c k = ce at *
  clear h hs hs0 hc hh hy hce a0 a2 a3 a4 a5 a6 a7 r4 r5 r6 r7 e ec
  go_enter Try.func46, Try.ntmps46
  go_wp2
  go_quiet (fail)
  go_wp2
  go_ret
  exact ⟨rfl, HB.out _⟩
def blkE (c : Cf) (lo hi : Int) : Int := if lookE c = 0 then (if (isId lo c.tasks.length && isId hi c.tasks.length) = true then 0 else 2) else lookE c
def blkN (c : Cf) (lo hi : Int) : List Int := match c.tasks[lo.toNat]?, c.tasks[hi.toNat]? with
  | some x, some y => if x.prio < y.prio then (takenL c x.res).filter (fun k => !decide (ceilE c k.toNat < y.prio)) else []
  | _, _ => []
def blkL (c : Cf) (lo hi : Int) : List Int := if blkE c lo hi = 0 then blkN c lo hi else []
set_option maxHeartbeats 8000000 in
set_option maxRecDepth 100000 in
theorem blocks_any (w : World) (c : Cf) (v : Vs) (h : CfAt w c v) (hn : c.ress.length ≤ 8796093022208) (lo hi : Int) : Calls Try.prog 23 #[.agg (cfC c v), I lo, I hi] w fun e w' => Own2 w (blkL c lo hi) (blkE c lo hi) e w' := by
  have hi18 : (Try.prog.info? 33).map (·.size) = some (cfC c v).size := by rw [show (cfC c v).size = 18 from rfl]; kernel_rfl
  have hV0 := heap_two0 w (.cells (cfC c v) 33) (.cells #[I hi] 3)
  have hV1 := heap_two w (.cells (cfC c v) 33) (.cells #[I hi] 3)
  have hb2 : Below w.heap.size w ((w.alloc (.cells (cfC c v) 33)).alloc (.cells #[I hi] 3)) := ((Below.refl w.heap.size w).alloc (Nat.le_refl _) _).alloc (by simp) _
  have krf := clook_any _ c v (h.below hb2) hn
  obtain ⟨W2, hW2⟩ : ∃ W2, W2 = (w.alloc (.cells (cfC c v) 33)).alloc (.cells #[I hi] 3) := ⟨_, rfl⟩
  have hs2 : W2.heap.size = w.heap.size + 2 := by rw [hW2]; simp
  rw [← hW2] at hV0 hV1 hb2 krf
  have HS2 : Hid (W2.heap.size = w.heap.size + 2) := hs2
  have HCf : Hid (CfAt w c v) := h
  have HNT : Hid (v.t.n = c.tasks.length) := h.t.n
  have htm : v.t.n ≤ v.t.c := h.t.c
  have htm2 : v.t.c ≤ maxLen := h.t.m
  unfold maxLen at htm2
  have hcv : ∀ W : World, W.heap[w.heap.size]? = some (.cells (cfC c v) 33 (0, 0)) → W.cell? ⟨w.heap.size, 11, none⟩ = some (.slice v.t.a v.t.n v.t.c) := fun W hW => by
    obtain ⟨_, h10, h11, h12, h13, h14, h15, h16, h17⟩ := var18_all hW
    exact h11
  have HF : Hid (∀ W, Below W2.heap.size W2 W → W.heap[w.heap.size]? = some (.cells (cfC c v) 33 (0, 0)) ∧ W.cell? ⟨w.heap.size, 11, none⟩ = some (.slice v.t.a v.t.n v.t.c) ∧ W.heap[w.heap.size + 1]? = some (.cells #[I hi] 3 (0, 0)) ∧ W.cell? ⟨w.heap.size + 1, 0, none⟩ = some (I hi) ∧ Below w.heap.size w W ∧ w.heap.size + 2 ≤ W.heap.size) := fun W hW => by
    have q0 := (hW.block _ (heap_lt hV0)).trans hV0
    have q1 := (hW.block _ (heap_lt hV1)).trans hV1
    have hz := hW.size
    refine ⟨q0, hcv W q0, q1, ?_, hb2.trans (hW.mono hb2.size), by omega⟩
    rw [cell_of_row W _ 0 _ _ (0, 0) q1]; rfl
  obtain ⟨E, hE⟩ : ∃ E, E = lookE c := ⟨_, rfl⟩
  obtain ⟨L, hL⟩ : ∃ L, L = blkL c lo hi := ⟨_, rfl⟩
  obtain ⟨R, hR⟩ : ∃ R, R = blkE c lo hi := ⟨_, rfl⟩
  rw [← hR, ← hL]
  rw [← hE] at krf
  have HE : Hid (E = lookE c) := hE
  have HL : Hid (L = blkL c lo hi) := hL
  have HR : Hid (R = blkE c lo hi) := hR
  have HCC : Hid (∀ W : World, W.heap[w.heap.size]? = some (.cells (cfC c v) 33 (0, 0)) → BoxC W w.heap.size c v) := fun _ h => h
  clear h hb2 hs2 hV1 hcv hE hL hR
  by_cases hE0 : E = 0
  · subst hE0
    have k1 := cID_any lo v.t.n
    have k2 := cID_any hi v.t.n
    obtain ⟨b1, hb1⟩ : ∃ b1, b1 = isId lo v.t.n := ⟨_, rfl⟩
    obtain ⟨b2, hb2⟩ : ∃ b2, b2 = isId hi v.t.n := ⟨_, rfl⟩
    rw [← hb1] at k1
    rw [← hb2] at k2
    have HB12 : Hid (b1 = isId lo v.t.n ∧ b2 = isId hi v.t.n) := ⟨hb1, hb2⟩
    have HRR : Hid (R = if (b1 && b2) = true then 0 else 2) := by show _ = _; rw [HR.out, blkE, if_pos HE.out.symm, hb1, hb2, HNT.out]
    have HKC : Hid (∀ W, Below w.heap.size w W → ∀ b, EndsAt W b c → Calls Try.prog 27 #[.agg (cfC c v), .map (some b)] W fun e w' => OwnI W (ceilL c) e w') := fun W hW b hEb => ceilings_any W c v (HCf.out.below hW) hn (look_lk HE.out.symm).1 (look_lk HE.out.symm).2.2 b hEb
    have HKT : Hid (∀ W, Below w.heap.size w W → ∀ (s : Sl) (l : List Int), RowsAt W 1 intP s l → (∀ x ∈ l, isId x c.ress.length = true) → l.length ≤ 8796093022208 → Calls Try.prog 45 #[.agg (cfC c v), .slice s.a s.n s.c] W fun e w' => TakPost W (takenL c l) e w') := fun W hW s l hl hid hlen => taken_any W c v (HCf.out.below hW) s l hl hid hlen
    generalize hCC : cfC c v = C at *
    clear hb1 hb2
    cases b1 with
    | false =>
      have HR0 : Hid (R = 2) := HRR.out
      have HL0 : Hid (L = []) := by show _ = _; rw [HL.out, blkL, if_neg (by rw [← HR.out, HR0.out]; decide)]
      go_enter Try.func23, Try.ntmps23
      go_upto_region 1 with fail
      rw [← hW2]
      clear hW2
      go_wp2_with (first | (refine wpList_load_row rfl 33 _ rfl w.heap.size rfl 33 _ (0, 0) _ hV0 Try.underlying33 rfl hi18 ?_) | (go_at_call 26; refine krf.mono ?_; rintro e w1 hp; obtain ⟨be, rfl, hl1, hE1⟩ := hp.got rfl; obtain ⟨v0, y11, v1, y1, hbw1, hsw1⟩ := HF.out _ hp.1; clear krf hp hV0) | (go_at_call 43; refine (k1 _).mono ?_; clear k1; rintro e w2 ⟨rfl, rfl⟩))
      go_ret2
      exact own2_nil hbw1 HR0.out HL0.out
    | true =>
      cases b2 with
      | false =>
        have HR0 : Hid (R = 2) := HRR.out
        have HL0 : Hid (L = []) := by show _ = _; rw [HL.out, blkL, if_neg (by rw [← HR.out, HR0.out]; decide)]
        go_enter Try.func23, Try.ntmps23
        go_upto_region 1 with fail
        rw [← hW2]
        clear hW2
        go_wp2_with (first | (refine wpList_load_row rfl 33 _ rfl w.heap.size rfl 33 _ (0, 0) _ hV0 Try.underlying33 rfl hi18 ?_) | (go_at_call 26; refine krf.mono ?_; rintro e w1 hp; obtain ⟨be, rfl, hl1, hE1⟩ := hp.got rfl; obtain ⟨v0, y11, v1, y1, hbw1, hsw1⟩ := HF.out _ hp.1; clear krf hp hV0) | (go_at_call 43; refine (k1 _).mono ?_; clear k1; rintro e w2 ⟨rfl, rfl⟩) | (go_at_call 43; refine (k2 _).mono ?_; clear k2; rintro e w2 ⟨rfl, rfl⟩))
        go_ret2
        exact own2_nil hbw1 HR0.out HL0.out
      | true =>
        have HR0 : Hid (R = 0) := HRR.out
        obtain ⟨i1, i2⟩ := HB12.out
        rw [HNT.out] at i1 i2
        have d1 : 0 ≤ lo ∧ lo < c.tasks.length := by simpa [isId] using i1.symm
        have d2 : 0 ≤ hi ∧ hi < c.tasks.length := by simpa [isId] using i2.symm
        obtain ⟨ln, rfl⟩ := Int.eq_ofNat_of_zero_le d1.1
        obtain ⟨hn', rfl⟩ := Int.eq_ofNat_of_zero_le d2.1
        obtain ⟨x, hx⟩ : ∃ x, c.tasks[ln]? = some x := ⟨_, List.getElem?_eq_getElem (by omega)⟩
        obtain ⟨y, hy⟩ : ∃ y, c.tasks[hn']? = some y := ⟨_, List.getElem?_eq_getElem (by omega)⟩
        have HLL : Hid (L = if x.prio < y.prio then (takenL c x.res).filter (fun k => !decide (ceilE c k.toNat < y.prio)) else []) := by
          show _ = _
          rw [HL.out, blkL, if_pos (by rw [← HR.out]; exact HR0.out), blkN, Int.toNat_natCast, Int.toNat_natCast, hx, hy]
        have HXY : Hid (c.tasks[ln]? = some x ∧ c.tasks[hn']? = some y) := ⟨hx, hy⟩
        have hl1 : (ln : Int) < v.t.n := by have := HNT.out; omega
        have hl2 : (hn' : Int) < v.t.n := by have := HNT.out; omega
        clear HR HL HRR HB12 i1 i2 d1 d2 hx hy
        go_enter Try.func23, Try.ntmps23
        go_upto_region 1 with fail
        rw [← hW2]
        clear hW2
        go_upto_region 6 with (first | (refine wpList_load_row rfl 33 _ rfl w.heap.size rfl 33 _ (0, 0) _ hV0 Try.underlying33 rfl hi18 ?_) | (go_at_call 26; refine krf.mono ?_; rintro e w1 hp; obtain ⟨be, rfl, hl0, hE1⟩ := hp.got rfl; obtain ⟨v0, y11, v1, y1, hbw1, hsw1⟩ := HF.out _ hp.1; have H1 : Hid (Below W2.heap.size W2 w1 ∧ EndsAt w1 be c) := ⟨hp.1, hE1⟩; clear krf hp hV0 hE1 hl0) | (go_at_call 43; refine (k1 _).mono ?_; clear k1; rintro e w2 ⟨rfl, h2⟩; obtain rfl : w1 = w2 := h2.symm) | (go_at_call 43; refine (k2 _).mono ?_; clear k2; rintro e w2 ⟨rfl, h2⟩; obtain rfl : w1 = w2 := h2.symm))
        obtain ⟨g, off, s4, s5, s6, s7, e, hg, a0, a1, a2, a3, a4, a5, a6, a7, r4, r5, r6, r7⟩ := tk_at (HCf.out.below hbw1) HXY.out.1
        obtain ⟨g', off', t4, t5, t6, t7, e', hg', c0, c1, c2, c3, c4, c5, c6, c7, q4, q5, q6, q7⟩ := tk_at (HCf.out.below hbw1) HXY.out.2
        have e2 : (some ⟨g, off, none⟩ : Option Addr) = some ⟨g', off', none⟩ := e.symm.trans e'
        injection e2 with e2
        injection e2 with e3 e4
        subst e3
        subst e4
        have y11' := y11
        rw [e] at y11'
        have HR5 : Hid (RowsAt w1 1 intP s5 x.res ∧ w1.cell? ⟨g, off + ln * 8 + 5, none⟩ = some (.slice s5.a s5.n s5.c) ∧ v.t.a = some ⟨g, off, none⟩) := ⟨r5, a5, e⟩
        clear a0 a2 a3 a4 a5 a6 a7 c0 c2 c3 c4 c5 c6 c7 r4 r5 r6 r7 q4 q5 q6 q7 e e' hg' v0 v1 hsw1 y11
        by_cases hxy : x.prio < y.prio
        · have HL1 : Hid (L = (takenL c x.res).filter (fun k => !decide (ceilE c k.toNat < y.prio))) := by show _ = _; rw [HLL.out, if_pos hxy]
          have hxy2 : ¬ x.prio ≥ y.prio := by omega
          have hxy3 : ¬ y.prio ≤ x.prio := by omega
          clear HLL
          have HB1 : Hid (Below w.heap.size w w1) := hbw1
          go_quiet (fail)
          have HD := below_drewN (Below.refl w1.heap.size w1) nq
          generalize w1.drewN nq = w2 at *
          have hg2 : g < w2.heap.size := Nat.lt_of_lt_of_le hg HD.size
          have H2 : Hid (Below W2.heap.size W2 w2 ∧ EndsAt w2 be c ∧ RowsAt w2 1 intP s5 x.res ∧ w2.cell? ⟨g, off + ln * 8 + 5, none⟩ = some (.slice s5.a s5.n s5.c)) := ⟨H1.out.1.trans (HD.mono H1.out.1.size), H1.out.2.below HD, HR5.out.1.below HD (fun _ _ _ _ h => h), by rw [cell_below HD _ _ hg]; exact HR5.out.2.1⟩
          have HEA : Hid (v.t.a = some ⟨g, off, none⟩) := HR5.out.2.2
          clear H1 HR5 HD y11' a1 c1 y1 HB1 hbw1
          obtain ⟨v0, y11, v1, y1, hbw2, hsw2⟩ := HF.out _ H2.out.1
          have kc := HKC.out _ hbw2 be H2.out.2.1
          go_upto_region 9 with (first | (refine wpList_load_row rfl 33 _ rfl w.heap.size rfl 33 _ (0, 0) _ v0 Try.underlying33 rfl hi18 ?_) | (go_at_call 27; refine kc.mono ?_; clear kc; rintro e w3 ⟨u, rfl, hO3, hb3⟩; obtain ⟨s0, rfl, hs0⟩ := slice_of_own hO3; have H3 : Hid (Below w2.heap.size w2 w3 ∧ w3.ownsRow w2.heap.size 3 1 (.slice s0.a s0.n s0.c) (ceilL c).length ((ceilL c).map fun x => I x)) := ⟨hb3, hO3⟩; clear hb3 hO3 hs0))
          have hb4 := below_alloc w3 (.cells #[.slice s0.a s0.n s0.c] 34)
          have hx4 := heap_alloc_new w3 (.cells #[.slice s0.a s0.n s0.c] 34)
          have H4 : Hid (Below w2.heap.size w2 (w3.alloc (.cells #[.slice s0.a s0.n s0.c] 34)).drew ∧ (w3.alloc (.cells #[.slice s0.a s0.n s0.c] 34)).drew.ownsRow w2.heap.size 3 1 (.slice s0.a s0.n s0.c) (ceilL c).length ((ceilL c).map fun x => I x) ∧ BoxS (w3.alloc (.cells #[.slice s0.a s0.n s0.c] 34)).drew w3.heap.size (.slice s0.a s0.n s0.c)) := by
            have hd : Below (w3.alloc (.cells #[.slice s0.a s0.n s0.c] 34)).heap.size (w3.alloc (.cells #[.slice s0.a s0.n s0.c] 34)) (w3.alloc (.cells #[.slice s0.a s0.n s0.c] 34)).drew := ⟨rfl, rfl, rfl, Nat.le_refl _, fun _ _ => rfl⟩
            exact ⟨(H3.out.1.trans (hb4.mono H3.out.1.size)).trans (hd.mono (Nat.le_trans H3.out.1.size hb4.size)), own_below (own_below H3.out.2 hb4) hd, hx4⟩
          clear H3 hb4 hx4 y11 y1 v0 v1 hbw2 hsw2
          have HFM : Hid (∀ W, Below w2.heap.size w2 W → (W.heap[w.heap.size]? = some (.cells C 33 (0, 0)) ∧ W.cell? ⟨w.heap.size, 11, none⟩ = some (.slice (some ⟨g, off, none⟩) v.t.n v.t.c) ∧ W.cell? ⟨g, off + ln * 8 + 5, none⟩ = some (.slice s5.a s5.n s5.c)) ∧ W.heap[w.heap.size + 1]? = some (.cells #[I (hn' : Int)] 3 (0, 0)) ∧ Below w.heap.size w W ∧ RowsAt W 1 intP s5 x.res ∧ w.heap.size + 2 ≤ W.heap.size) := fun W hW => by
            obtain ⟨v0, y11, v1, y1, hbw, hsw⟩ := HF.out W (H2.out.1.trans (hW.mono H2.out.1.size))
            rw [HEA.out] at y11
            exact ⟨⟨v0, y11, by rw [cell_below hW _ _ hg2]; exact H2.out.2.2.2⟩, v1, hbw, H2.out.2.2.1.below hW (fun _ _ _ _ h => h), hsw⟩
          obtain ⟨hS4, v14, hbw4, r54, hsw4⟩ := HFM.out _ H4.out.1
          have hme := meet_task (look_lk HE.out.symm).1 hn (List.mem_of_getElem? HXY.out.1)
          have kt := HKT.out _ hbw4 s5 x.res r54 hme.1 hme.2
          have HL5 : Hid ((takenL c x.res).length ≤ 8796093022208) := Nat.le_trans (List.length_filter_le _ _) hme.2
          clear r54 v14 hbw4
          refine wp_region_held_drew (S := fun W' => W'.heap[w.heap.size]? = some (.cells C 33 (0, 0)) ∧ W'.cell? ⟨w.heap.size, 11, none⟩ = some (.slice (some ⟨g, off, none⟩) v.t.n v.t.c) ∧ W'.cell? ⟨g, off + ln * 8 + 5, none⟩ = some (.slice s5.a s5.n s5.c)) (by kernel_rfl) hS4 (fun hHeld => ?_)
          generalize (w3.alloc (.cells #[.slice s0.a s0.n s0.c] 34)).drew = w4 at *
          refine wpAnyH_take (i := 0) (v := .agg C) rfl (by kernel_rfl) (by kernel_rfl) (by kernel_rfl) (fun _ _ _ h => h) (yieldsIf_load_row (by rfl) 33 _ rfl w.heap.size rfl 33 C (0, 0) _ (fun _ hw => hw.1) Try.underlying33 rfl hi18) hHeld ?_
          try simp only [Act.put, List.getElem_toArray, List.getElem_cons_succ, List.getElem_cons_zero, List.setIfInBounds_toArray, List.set_cons_zero, List.set_cons_succ]
          refine wpAnyH_take (i := 1) (v := ?_) rfl (by kernel_rfl) (by kernel_rfl) (by kernel_rfl) (fun _ _ _ h => h) (Or.inl ⟨by rfl, ?_⟩) hHeld ?_
          rotate_left
          · rintro w' ⟨hSw, hS2, hS3⟩
            go_simp
            try with_reducible rfl
          try simp only [Act.put, List.getElem_toArray, List.getElem_cons_succ, List.getElem_cons_zero, List.setIfInBounds_toArray, List.set_cons_zero, List.set_cons_succ]
          refine wpAnyH_take (i := 2) (v := ?_) rfl (by kernel_rfl) (by kernel_rfl) (by kernel_rfl) (fun _ _ _ h => h) (Or.inl ⟨by rfl, ?_⟩) hHeld ?_
          rotate_left
          · rintro w' ⟨hSw, hS2, hS3⟩
            go_simp
            try with_reducible rfl
          try simp only [Act.put, List.getElem_toArray, List.getElem_cons_succ, List.getElem_cons_zero, List.setIfInBounds_toArray, List.set_cons_zero, List.set_cons_succ]
          refine wpAnyH_take (i := 3) (v := ?_) rfl (by kernel_rfl) (by kernel_rfl) (by kernel_rfl) (fun _ _ _ h => h) (Or.inl ⟨by rfl, ?_⟩) hHeld ?_
          rotate_left
          · rintro w' ⟨hSw, hS2, hS3⟩
            go_simp
            try with_reducible rfl
          try simp only [Act.put, List.getElem_toArray, List.getElem_cons_succ, List.getElem_cons_zero, List.setIfInBounds_toArray, List.set_cons_zero, List.set_cons_succ]
          refine wpAnyH_take (i := 4) (v := ?_) rfl (by kernel_rfl) (by kernel_rfl) (by kernel_rfl) (fun _ _ _ h => h) (Or.inl ⟨by rfl, ?_⟩) hHeld ?_
          rotate_left
          · rintro w' ⟨hSw, hS2, hS3⟩
            go_simp
            try with_reducible rfl
          try simp only [Act.put, List.getElem_toArray, List.getElem_cons_succ, List.getElem_cons_zero, List.setIfInBounds_toArray, List.set_cons_zero, List.set_cons_succ]
          refine wpAnyH_take (i := 5) (v := ?_) rfl (by kernel_rfl) (by kernel_rfl) (by kernel_rfl) (fun _ _ _ h => h) (Or.inl ⟨by rfl, ?_⟩) hHeld ?_
          rotate_left
          · rintro w' ⟨hSw, hS2, hS3⟩
            go_simp
            try with_reducible rfl
          try simp only [Act.put, List.getElem_toArray, List.getElem_cons_succ, List.getElem_cons_zero, List.setIfInBounds_toArray, List.set_cons_zero, List.set_cons_succ]
          refine wpAnyH_take (i := 6) (v := ?_) rfl (by kernel_rfl) (by kernel_rfl) (by kernel_rfl) (fun _ _ _ h => h) (Or.inl ⟨by rfl, ?_⟩) hHeld ?_
          rotate_left
          · rintro w' ⟨hSw, hS2, hS3⟩
            go_simp
            try with_reducible rfl
          try simp only [Act.put, List.getElem_toArray, List.getElem_cons_succ, List.getElem_cons_zero, List.setIfInBounds_toArray, List.set_cons_zero, List.set_cons_succ]
          refine wpAnyH_take (i := 8) (v := ?_) rfl (by kernel_rfl) (by kernel_rfl) (by kernel_rfl) (fun _ _ _ h => h) (Or.inl ⟨by rfl, ?_⟩) hHeld ?_
          rotate_left
          · rintro w' ⟨hSw, hS2, hS3⟩
            go_simp
            try with_reducible rfl
          try simp only [Act.put, List.getElem_toArray, List.getElem_cons_succ, List.getElem_cons_zero, List.setIfInBounds_toArray, List.set_cons_zero, List.set_cons_succ]
          refine wpAnyH_ready (rs := [7]) (by kernel_rfl) (by simp) ?_
          refine AllReadyH.cons rfl (fun K hK => ?_) AllReadyH.nil
          go_simp
          go_wp2_with (go_at_call 45; refine kt.mono ?_; clear kt; rintro e w5 ⟨u, rfl, hO5, hb5⟩)
          obtain ⟨s9, rfl, hs9⟩ := slice_of_own hO5
          have H5 : Hid (Below w4.heap.size w4 w5 ∧ w5.ownsRow (w4.heap.size + 1) 3 1 (.slice s9.a s9.n s9.c) (takenL c x.res).length ((takenL c x.res).map fun x => I x)) := ⟨hb5, hO5⟩
          have H5b : Hid (Below w2.heap.size w2 w5) := H4.out.1.trans (hb5.mono H4.out.1.size)
          refine hK.out _ _ (HFM.out _ H5b.out).1 (fun hHeld => ?_)
          clear hK K hb5 hO5 hs9
          try simp only [Act.put, List.getElem_toArray, List.getElem_cons_succ, List.getElem_cons_zero, List.setIfInBounds_toArray, List.set_cons_zero, List.set_cons_succ]
          refine wpAnyH_ready (rs := [9]) (by kernel_rfl) (by simp) ?_
          refine AllReadyH.cons rfl (fun K hK => ?_) AllReadyH.nil
          go_simp
          have HG : Hid (∀ W, w5.grownBy W (Value.slice s9.a s9.n s9.c).ownBlock → Below w2.heap.size w2 W) := fun W hW => H5b.out.grown hW H5b.out.size (fun k e => by have := (H5.out.2.lt k e).1; have := H4.out.1.size; omega)
          have kd := delete_any w5 (w4.heap.size + 1) (.slice s9.a s9.n s9.c) (takenL c x.res) H5.out.2 HL5.out 46 #[.pointer (some ⟨w3.heap.size, 0, none⟩), .pointer (some ⟨w.heap.size, 0, none⟩), .pointer (some ⟨w.heap.size + 1, 0, none⟩)] (enters_of Try.func46 (by kernel_rfl) rfl) (fun k => decide (ceilE c k.toNat < y.prio)) (fun W hW z hz => by
            obtain ⟨⟨q0, q1, q2⟩, q3, q4, q5, q6⟩ := HFM.out _ (HG.out W hW)
            have hzid : isId z c.ress.length = true := hme.1 z (List.mem_filter.1 hz).1
            have hbd : 0 ≤ z ∧ z < c.ress.length := by simpa [isId] using hzid
            obtain ⟨k, rfl⟩ := Int.eq_ofNat_of_zero_le hbd.1
            have hx5 : BoxS w5 w3.heap.size (.slice s0.a s0.n s0.c) := (H5.out.1.block _ (heap_lt H4.out.2.2)).trans H4.out.2.2
            have hxl := heap_lt H4.out.2.2
            have hxW : BoxS W w3.heap.size (.slice s0.a s0.n s0.c) := (hW.block _ (heap_lt hx5) (fun e => by have := (H5.out.2.lt _ e.symm).1; omega)).trans hx5
            have hO5 := own_below H4.out.2.1 H5.out.1
            have hOW := hO5.kept hW (by
              cases hu : (Value.slice s0.a s0.n s0.c).ownBlock with
              | none => exact .inl rfl
              | some gg => exact .inr (fun e => by have := (H5.out.2.lt gg e.symm).1; have := (H4.out.2.1.lt gg hu).2; omega))
            obtain ⟨sq, hsq, hRq⟩ := rows_ints hOW (l := ceilL c) rfl rfl
            have hsq2 : sq = s0 := by
              injection hsq with p1 p2 p3
              cases sq
              cases s0
              simp only at p1 p2 p3
              rw [p1, p2, p3]
            rw [hsq2] at hRq
            exact blocks1_any W c v (HCf.out.below q4) w3.heap.size w.heap.size (w.heap.size + 1) s0 hxW hRq (HCC.out W q0) hn' k q3 (by omega) y HXY.out.2)
          go_wp2_with (go_at_call 44; refine kd.mono ?_; clear kd; rintro e w6 ⟨u6, rfl, hO6, hub, hg6⟩)
          obtain ⟨s8, rfl, hs8⟩ := slice_of_own hO6
          have H6 : Hid (Below w.heap.size w w6 ∧ w6.ownsRow w.heap.size 3 1 (.slice s8.a s8.n s8.c) L.length (L.map fun x => I x)) := by
            obtain ⟨_, _, q4, _, q6⟩ := HFM.out _ (HG.out w6 hg6)
            refine ⟨q4, ?_⟩
            rw [HL1.out]
            exact own_mono hO6 (by have := H5b.out.size; have := H4.out.1.size; omega)
          refine hK.out _ _ (HFM.out _ (HG.out w6 hg6)).1 (fun hHeld => ?_)
          clear hK K hO6 hub hg6 hs8 HG
          try simp only [Act.put, List.getElem_toArray, List.getElem_cons_succ, List.getElem_cons_zero, List.setIfInBounds_toArray, List.set_cons_zero, List.set_cons_succ]
          refine wpAnyH_take (i := 10) (v := ?_) rfl (by kernel_rfl) (by kernel_rfl) (by kernel_rfl) (fun _ _ _ h => h) (Or.inl ⟨by rfl, ?_⟩) hHeld ?_
          rotate_left
          · rintro w' ⟨hSw, hS2, hS3⟩
            go_simp
            try with_reducible rfl
          try simp only [Act.put, List.getElem_toArray, List.getElem_cons_succ, List.getElem_cons_zero, List.setIfInBounds_toArray, List.set_cons_zero, List.set_cons_succ]
          refine wpAnyH_take (i := 11) (v := ?_) rfl (by kernel_rfl) (by kernel_rfl) (by kernel_rfl) (fun _ _ _ h => h) (Or.inl ⟨by rfl, ?_⟩) hHeld ?_
          rotate_left
          · rintro w' ⟨hSw, hS2, hS3⟩
            go_simp
            try with_reducible rfl
          try simp only [Act.put, List.getElem_toArray, List.getElem_cons_succ, List.getElem_cons_zero, List.setIfInBounds_toArray, List.set_cons_zero, List.set_cons_succ]
          refine wpAnyH_done (by kernel_rfl) ?_ _
          go_wp2
          go_ret2
          exact ⟨_, by rw [HR0.out]; rfl, H6.out.2, H6.out.1⟩
        · have HL1 : Hid (L = []) := by show _ = _; rw [HLL.out, if_neg hxy]
          have hxy2 : x.prio ≥ y.prio := by omega
          have hxy3 : y.prio ≤ x.prio := by omega
          have HB1 : Hid (Below w.heap.size w w1) := hbw1
          clear HLL hbw1
          go_quiet (fail)
          go_wp2
          go_ret2
          exact own2_nil (below_drewN HB1.out _) HR0.out HL1.out
  · have HR0 : Hid (R = E) := by show _ = _; rw [HR.out, blkE, if_neg (by rw [← HE.out]; exact hE0), HE.out]
    have HL0 : Hid (L = []) := by show _ = _; rw [HL.out, blkL, if_neg (by rw [← HR.out, HR0.out]; exact hE0)]
    have hE1 : (E != 0) = true := by simpa using hE0
    generalize cfC c v = C at *
    clear HR HL HE
    go_enter Try.func23, Try.ntmps23
    go_upto_region 1 with fail
    rw [← hW2]
    clear hW2
    go_wp2_with (first | (refine wpList_load_row rfl 33 _ rfl w.heap.size rfl 33 _ (0, 0) _ hV0 Try.underlying33 rfl hi18 ?_) | (go_at_call 26; refine krf.mono ?_; rintro e w1 hp; obtain rfl := hp.not hE0; obtain ⟨v0, y11, v1, y1, hbw1, hsw1⟩ := HF.out _ hp.1; clear krf hp hV0))
    go_ret2
    exact own2_nil hbw1 HR0.out HL0.out
end Go.Proofs.Ytapfbinaocaclaa
