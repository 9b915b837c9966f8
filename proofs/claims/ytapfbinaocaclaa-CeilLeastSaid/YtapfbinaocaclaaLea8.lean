import Derived.Test.YtapfbinaocaclaaEez
import Derived.Test.YtapfbinaocaclaaEeo
import Derived.Test.YtapfbinaocaclaaLsl8
namespace Go.Proofs.Ytapfbinaocaclaa
open Go.RowKit Go.Sort
set_option linter.unusedVariables false
set_option linter.unusedSimpArgs false

/-! ### CeilLeast -/
theorem ints_at' {w : World} {s : Sl} {l : List Int} (h : RowsAt w 1 intP s l) {g off : Nat} (e : s.a = some ⟨g, off, none⟩) {j : Nat} {x : Int} (hj : l[j]? = some x) : w.cell? ⟨g, off + j, none⟩ = some (I x) := by
  obtain ⟨g', off', e', _, hc⟩ := ints_at h hj
  rw [e] at e'
  injection e' with e'
  injection e' with e1 e2
  subst e1
  subst e2
  exact hc
set_option maxHeartbeats 8000000 in
set_option maxRecDepth 100000 in
theorem least_good (w : World) (c : Cf) (v : Vs) (h : CfAt w c v) (hn : c.ress.length ≤ 8796093022208) (hnt : c.tasks.length ≤ 8796093022208) (hni : c.isrs.length ≤ 8796093022208) (q : Nat) (hg : grpE c (q : Int) = 0) : Calls Try.prog 3 #[.agg (cfC c v), I (q : Int)] w fun e w' => e = .returned (.bool true) ∧ Below w.heap.size w w' := by
  have hi18 : (Try.prog.info? 33).map (·.size) = some (cfC c v).size := by rw [show (cfC c v).size = 18 from rfl]; kernel_rfl
  have hV := heap_alloc_new w (.cells (cfC c v) 33)
  have hb := below_alloc w (.cells (cfC c v) 33)
  have hlk := (grp_zero hg).1
  have hqb : 0 ≤ (q : Int) ∧ (q : Int) < c.ress.length := by simpa [isId] using (grp_zero hg).2
  have HNT : Hid (v.t.n = c.tasks.length) := h.t.n
  have HNR : Hid (v.r.n = c.ress.length) := h.r.n
  have HNI : Hid (v.i.n = c.isrs.length) := h.i.n
  have ht1 : v.t.n ≤ v.t.c := h.t.c
  have ht2 : v.t.c ≤ 9223372036854775807 := h.t.m
  have hr1 : v.r.n ≤ v.r.c := h.r.c
  have hr2 : v.r.c ≤ 9223372036854775807 := h.r.m
  have hi1 : v.i.n ≤ v.i.c := h.i.c
  have hi2 : v.i.c ≤ 9223372036854775807 := h.i.m
  have hqr : (q : Int) < v.r.n := by have := h.r.n; omega
  have HQ : Hid (q < c.ress.length) := by show _ < _; omega
  have K1 : Hid (∀ W, Below w.heap.size w W → Calls Try.prog 8 #[.agg (cfC c v)] W fun e w' => RckP W (rckX c) 0 e w') := fun W hW => by
    have := reckon_any W c v (h.below hW) hn hnt hni
    rw [hlk] at this
    exact this
  have HRX : Hid (rckX c = ⟨ceilL c, schE c, c.tasks.map (runP c), cntT c c.tasks.length, cntI c c.isrs.length⟩) := by show _ = _; unfold rckX; rw [if_pos hlk]
  have K2 : Hid (∀ W, Below w.heap.size w W → Calls Try.prog 9 #[.agg (cfC c v), I (q : Int)] W fun e w' => Own2 W (grpL c (q : Int)) 0 e w') := fun W hW => by
    have := group_any W c v (h.below hW) hn (q : Int)
    rw [hg] at this
    exact this
  have K3 : Hid (∀ W, Below w.heap.size w W → Calls Try.prog 14 #[.agg (cfC c v), I (q : Int)] W fun e w' => Own3 W (usrT c (q : Int)) (usrI c (q : Int)) 0 e w') := fun W hW => by
    have := users_any W c v (h.below hW) hn hnt hni (q : Int)
    rw [hg] at this
    exact this
  have HCV : Hid (∀ W : World, W.heap[w.heap.size]? = some (.cells (cfC c v) 33 (0, 0)) → W.cell? ⟨w.heap.size, 11, none⟩ = some (.slice v.t.a v.t.n v.t.c) ∧ W.cell? ⟨w.heap.size, 12, none⟩ = some (.slice v.r.a v.r.n v.r.c) ∧ W.cell? ⟨w.heap.size, 16, none⟩ = some (.slice v.i.a v.i.n v.i.c)) := fun W hW => by
    obtain ⟨_, h10, h11, h12, h13, h14, h15, h16, h17⟩ := var18_all hW
    exact ⟨h11, h12, h16⟩
  have HCf : Hid (CfAt w c v) := h
  have HG0 : Hid (grpE c (q : Int) = 0) := hg
  have HHO : Hid (hasB (grpL c (q : Int)) (q : Int) = true) := has_own hg
  have HMET : Hid ((grpL c (q : Int)).any (MkB c (ceilE c q)) = decide (0 < (usrT c (q : Int)).length + (usrI c (q : Int)).length)) := least_met hg
  have HNEG : Hid ((grpL c (q : Int)).any (MkB c (ceilE c q)) = false → ceilE c q = -1) := least_neg hg
  have HUL : Hid ((usrT c (q : Int)).length ≤ 8796093022208 ∧ (usrI c (q : Int)).length ≤ 8796093022208) := ⟨by unfold usrT; rw [if_pos hg]; exact Nat.le_trans (idxL_len _ _ _) hnt, by unfold usrI; rw [if_pos hg]; exact Nat.le_trans (idxL_len _ _ _) hni⟩
  have HGL : Hid (∀ k ∈ grpL c (q : Int), ∃ i : Nat, k = (i : Int) ∧ i < c.ress.length ∧ ceilE c i = ceilE c q) := fun k hk => by
    obtain ⟨i, h1, h2, h3⟩ := (mem_grp hg).1 hk
    exact ⟨i, h1, h2, ceil_grp h3⟩
  have HLD : Hid (∃ L, L = grpL c (q : Int)) := ⟨_, rfl⟩
  obtain ⟨L, hL⟩ := HLD.out
  rw [← hL] at K2 HHO HMET HNEG HGL
  have HL : Hid (L = grpL c (q : Int)) := hL
  obtain ⟨top, htop⟩ : ∃ top, top = ceilE c q := ⟨_, rfl⟩
  rw [← htop] at HMET HNEG HGL
  have HTOP : Hid (top = ceilE c q) := htop
  generalize cfC c v = C at *
  obtain ⟨W0, hW0⟩ : ∃ W0, W0 = w.alloc (.cells C 33) := ⟨_, rfl⟩
  rw [← hW0] at hV hb
  have HF0 : Hid (∀ W, Below W0.heap.size W0 W → W.heap[w.heap.size]? = some (.cells C 33 (0, 0)) ∧ Below w.heap.size w W) := fun W hW => ⟨(hW.block _ (heap_lt hV)).trans hV, hb.trans (hW.mono hb.size)⟩
  have HB : Hid (Below W0.heap.size W0 W0) := Below.refl _ _
  clear h hg hlk hqb hL htop hb HLD
  go_enter Try.func3, Try.ntmps3
  go_upto_region 1 with fail
  rw [← hW0]
  clear hW0
  go_upto_region 7 with (first | (refine wpList_load_row rfl 33 _ rfl w.heap.size rfl 33 _ (0, 0) _ hV Try.underlying33 rfl hi18 ?_) | (go_at_call 8; refine (K1.out _ (HF0.out _ HB.out).2).mono ?_; clear K1; rintro e w1 ⟨s0, s2, s3, s4, rfl, hC1, hb1⟩; unfold ceC; have HX1 : Hid (RowsAt w1 1 intP s0 (ceilL c) ∧ Below W0.heap.size W0 w1) := ⟨by have := hC1.at.a; rw [HRX.out] at this; exact this, HB.out.trans (hb1.mono HB.out.size)⟩; have hxv : ∀ S : Array Value, (w1.alloc (.cells S 36)).heap[w1.heap.size]? = some (.cells S 36 (0, 0)) := fun S => heap_alloc_new _ _; have HXL : Hid (∀ S : Array Value, Below W0.heap.size W0 (w1.alloc (.cells S 36)) ∧ RowsAt (w1.alloc (.cells S 36)) 1 intP s0 (ceilL c)) := fun S => ⟨HX1.out.2.trans ((below_alloc w1 _).mono HX1.out.2.size), HX1.out.1.below (below_alloc w1 _) (fun _ _ _ _ h => h)⟩; have hV : ∀ S : Array Value, (w1.alloc (.cells S 36)).heap[w.heap.size]? = some (.cells C 33 (0, 0)) := fun S => (HF0.out _ (HXL.out S).1).1; clear hC1 hb1 HX1 HB) | (refine wpList_load_row rfl 33 _ rfl w.heap.size rfl 33 _ (0, 0) _ (hV _) Try.underlying33 rfl hi18 ?_) | (go_at_call 9; refine (K2.out _ (HF0.out _ (HXL.out _).1).2).mono ?_; clear K2; rintro e w2 hp; obtain ⟨sg, rfl, hRG, hb2⟩ := hp.got; have H2 : Hid (Below W0.heap.size W0 w2 ∧ RowsAt w2 1 intP s0 (ceilL c) ∧ RowsAt w2 1 intP sg L ∧ w2.cell? ⟨w1.heap.size, 0, none⟩ = some (.slice s0.a s0.n s0.c)) := ⟨(HXL.out _).1.trans (hb2.mono (HXL.out _).1.size), (HXL.out _).2.below hb2 (fun _ _ _ _ h => h), hRG, by rw [cell_of_row w2 _ 0 _ _ (0, 0) ((hb2.block _ (heap_lt (hxv _))).trans (hxv _))]; rfl⟩; obtain ⟨y11, y12, y16⟩ := HCV.out _ (HF0.out _ H2.out.1).1; have x0 := H2.out.2.2.2; have HSG : Hid (sg.n = L.length) := hRG.n; have hsgc : sg.n ≤ sg.c := hRG.c; have hsgm : sg.c ≤ 9223372036854775807 := hRG.m; have HS0N : Hid (s0.n = c.ress.length) := (by show s0.n = _; have := H2.out.2.1.n; rw [this]; unfold ceilL; simp); have hsm : s0.n ≤ s0.c := H2.out.2.1.c; have hsm2 : s0.c ≤ 9223372036854775807 := H2.out.2.1.m; have hneq : ((s0.n : Int) != (v.r.n : Int)) = false := (by have h1 := HS0N.out; have h2 := HNR.out; rw [h1, h2]; simp); have kh := has_any w2 sg L hRG (q : Int); clear hp hRG hb2 hxv hV HXL) | (go_at_call 10; refine (num_any _ _).mono ?_; rintro e w' ⟨rfl, rfl⟩) | (go_at_call 13; refine kh.mono ?_; clear kh; rintro e w3 ⟨rfl, h3⟩; obtain rfl : w2 = w3 := h3.symm; rw [show L.any (fun x => x == (q : Int)) = true from HHO.out]))
  obtain ⟨W2, rfl⟩ : ∃ W2 : World, W2 = w2 := ⟨_, rfl⟩
  have HF : Hid (∀ W, Below W2.heap.size W2 W → (W.cell? ⟨w.heap.size, 11, none⟩ = some (.slice v.t.a v.t.n v.t.c) ∧ W.cell? ⟨w.heap.size, 12, none⟩ = some (.slice v.r.a v.r.n v.r.c) ∧ W.cell? ⟨w.heap.size, 16, none⟩ = some (.slice v.i.a v.i.n v.i.c) ∧ W.cell? ⟨w1.heap.size, 0, none⟩ = some (.slice s0.a s0.n s0.c)) ∧ CfAt W c v ∧ RowsAt W 1 intP s0 (ceilL c) ∧ RowsAt W 1 intP sg L ∧ Below w.heap.size w W) := fun W hW => by
    have h0 := HF0.out W (H2.out.1.trans (hW.mono H2.out.1.size))
    obtain ⟨q11, q12, q16⟩ := HCV.out _ h0.1
    exact ⟨⟨q11, q12, q16, by rw [cell_below hW _ _ (World.block_lt_of_cell? _ _ H2.out.2.2.2)]; exact H2.out.2.2.2⟩, HCf.out.below h0.2, H2.out.2.1.below hW (fun _ _ _ _ h => h), H2.out.2.2.1.below hW (fun _ _ _ _ h => h), h0.2⟩
  have HVW : Hid (∀ W, Below W2.heap.size W2 W → W.heap[w.heap.size]? = some (.cells C 33 (0, 0))) := fun W hW => (HF0.out W (H2.out.1.trans (hW.mono H2.out.1.size))).1
  have hce : (ceilL c)[q]? = some top := by unfold ceilL; rw [List.getElem?_map, List.getElem?_range HQ.out, HTOP.out]; rfl
  obtain ⟨gq, oq, eq', hgq, dq0⟩ := ints_at H2.out.2.1 hce
  rw [eq'] at x0
  have hqs : (q : Int) < s0.n := by have := HS0N.out; have := HQ.out; omega
  clear HCV H2 hce eq' y11 y12 y16 HF0 HRX
  go_wp2
  clear x0 dq0
  generalize (rckX c).sch = sch at *
  go_loopw [10, 11] (fun mv iv wr => ∃ (i : Nat) (m : Bool), i ≤ sg.n ∧ iv = .int .i64 i ∧ mv = .bool m ∧ Hid (Below W2.heap.size W2 wr ∧ m = (L.take i).any (MkB c top))) (fun _ iv _ => sg.n - (intOf iv).toNat)
  case atStart => exact ⟨0, false, by omega, rfl, rfl, Below.refl _ _, by simp⟩
  case round =>
    obtain ⟨i, M0, hi, rfl, rfl, HJ⟩ := hrel
    obtain ⟨⟨y11, y12, y16, x0⟩, hCf, rC, rG, hbw⟩ := HF.out _ HJ.out.1
    by_cases hlt : i < sg.n
    · have hlt' : (i : Int) < sg.n := by omega
      obtain ⟨k, hk⟩ : ∃ k, L[i]? = some k := ⟨_, List.getElem?_eq_getElem (by rw [← HSG.out]; exact hlt)⟩
      obtain ⟨kn, rfl, hkn, hkc⟩ := HGL.out k (List.mem_of_getElem? hk)
      obtain ⟨gg, og, eg, hgg, bg⟩ := ints_at rG hk
      have hck : (ceilL c)[kn]? = some top := by unfold ceilL; rw [List.getElem?_map, List.getElem?_range hkn]; simp [hkc]
      obtain ⟨gc, oc, ec, hgc, d0⟩ := ints_at rC hck
      have HGI : Hid (L[i]? = some (kn : Int)) := hk
      have HKM : Hid ((kn : Int) ∈ grpL c (q : Int)) := by rw [← HL.out]; exact List.mem_of_getElem? hk
      have HEG : Hid (sg.a = some ⟨gg, og, none⟩) := eg
      have HMA : Hid (M0 = (L.take i).any (MkB c top)) := HJ.out.2
      have HB0 : Hid (Below W2.heap.size W2 wr) := HJ.out.1
      have n3 : (kn : Int) < s0.n := by have := HS0N.out; omega
      have n4 : (kn : Int) < v.r.n := by have := HNR.out; omega
      rw [ec] at x0
      rw [eg]
      clear hk hkn hkc hck eg ec hCf rC rG hbw y11 y16 HJ
      go_wp2
      have n1 : ¬ (kn : Int) < 0 := by omega
      have n2 : ¬ (kn : Int) ≥ v.r.n := by omega
      have n5 : ¬ v.r.n ≤ kn := by omega
      go_quiet (fail)
      have HD := below_drewN (Below.refl wr.heap.size wr) nq
      have HB4 : Hid (Below W2.heap.size W2 (wr.drewN nq)) := HB0.out.trans (HD.mono HB0.out.size)
      clear HD HB0 y12 x0 bg d0 n1 n2 n3 n4 n5
      generalize wr.drewN nq = w4 at *
      obtain ⟨y11, _, _, _⟩ := (HF.out _ HB4.out).1
      go_wp2
      clear y11
      go_loopw [10, 12] (fun mv kv wr => ∃ (j : Nat) (m : Bool), j ≤ v.t.n ∧ kv = .int .i64 j ∧ mv = .bool m ∧ Hid (Below W2.heap.size W2 wr ∧ m = (M0 || (c.tasks.take j).any (PtB top (kn : Int))))) (fun _ kv _ => v.t.n - (intOf kv).toNat)
      case atStart => exact ⟨0, _, by omega, rfl, rfl, HB4.out, by simp⟩
      case round =>
        clear HB4
        obtain ⟨j, m, hj, rfl, rfl, HJ⟩ := hrel
        obtain ⟨⟨y11, y12, y16, x0⟩, hCf, rC, rG, hbw⟩ := HF.out _ HJ.out.1
        by_cases hjt : j < v.t.n
        · have hjt' : (j : Int) < v.t.n := by omega
          obtain ⟨x, hx⟩ : ∃ x, c.tasks[j]? = some x := ⟨_, List.getElem?_eq_getElem (by rw [← HNT.out]; exact hjt)⟩
          obtain ⟨g, off, s4, s5, s6, s7, e, hg, a0, a1, a2, a3, a4, a5, a6, a7, r4, r5, r6, r7⟩ := tk_at hCf hx
          have bg := ints_at' rG HEG.out HGI.out
          have HSN : Hid ((c.tasks.take (j + 1)).any (PtB top (kn : Int)) = ((c.tasks.take j).any (PtB top (kn : Int)) || (hasB x.res (kn : Int) && (x.prio == top)))) := any_take _ _ j _ hx
          have HLE : Hid (hasB x.res (kn : Int) = true → x.prio ≤ top) := fun hh => by rw [HTOP.out]; exact least_t HG0.out HKM.out (List.mem_of_getElem? hx) hh
          have c1 : ∀ d os, Calls Try.prog 13 #[.slice s5.a s5.n s5.c, I (kn : Int)] (grow (redrawn wr d) os) fun e w'' => e = .returned (.bool (hasB x.res (kn : Int))) ∧ ∃ p : Regrown, w'' = grow (redrawn wr p.d) p.os := fun d os => Calls.regrown_of ((has_any _ s5 x.res (r5.below (below_regrown _ d os) (fun _ _ _ _ h => h)) (kn : Int)).mono (fun e w' ⟨h1, h2⟩ => ⟨h1, by rw [h2]; exact Below.refl _ _⟩))
          rw [e] at y11
          have cr1 := cell_regrown y11
          have cr2 := cell_regrown a1
          have cr3 := cell_regrown a5
          have cr4 := cell_regrown bg
          have HB0 : Hid (Below W2.heap.size W2 wr) := HJ.out.1
          have HM : Hid (m = (M0 || (c.tasks.take j).any (PtB top (kn : Int)))) := HJ.out.2
          have hlg : (i : Int) < sg.n := hlt'
          clear hx e hCf rC rG hbw HJ y12 y16 x0 a0 a2 a3 a4 a6 a7 r4 r5 r6 r7
          generalize hasB x.res (kn : Int) = hb at *
          go_wp2
          refine wp_region_quiet_below (by kernel_rfl) (by kernel_rfl) ?_
          repeat (go_big_quiet_step (first | exact c1 _ _))
          refine wpQuiet_nil ?_
          rintro _ ⟨⟨dq, osq⟩, rfl⟩
          dsimp only
          have hb4 := below_regrown wr dq osq
          have HB5 : Hid (Below W2.heap.size W2 (grow (redrawn wr dq) osq)) := HB0.out.trans (hb4.mono HB0.out.size)
          have z1 := cr1 dq osq
          have z2 := cr2 dq osq
          clear c1 cr1 cr2 cr3 cr4 hb4 HB0 y11 a1 a5 bg
          generalize grow (redrawn wr dq) osq = w5 at *
          cases hb with
          | false =>
            have HS2 : Hid (m = (M0 || (c.tasks.take (j + 1)).any (PtB top (kn : Int)))) := by show _ = _; rw [HSN.out, HM.out]; simp
            cases m with
            | true =>
              go_wp2
              go_roundw
              case rel => exact ⟨j + 1, true, by omega, by go_num, rfl, HB5.out, HS2.out⟩
              case measure => simp [intOf]; omega
            | false =>
              go_wp2
              go_roundw
              case rel => exact ⟨j + 1, false, by omega, by go_num, rfl, HB5.out, HS2.out⟩
              case measure => simp [intOf]; omega
          | true =>
            have hle := HLE.out rfl
            have hle2 : ¬ top < x.prio := by omega
            cases m with
            | true =>
              have HS2 : Hid (true = (M0 || (c.tasks.take (j + 1)).any (PtB top (kn : Int)))) := by
                show _ = _
                rw [HSN.out, ← Bool.or_assoc, ← HM.out]
                rfl
              go_wp2
              go_roundw
              case rel => exact ⟨j + 1, true, by omega, by go_num, rfl, HB5.out, HS2.out⟩
              case measure => simp [intOf]; omega
            | false =>
              have HS2 : Hid ((x.prio == top) = (M0 || (c.tasks.take (j + 1)).any (PtB top (kn : Int)))) := by
                show _ = _
                rw [HSN.out, ← Bool.or_assoc, ← HM.out]
                simp
              go_wp2
              go_roundw
              case rel => exact ⟨j + 1, (x.prio == top), by omega, by go_num, rfl, HB5.out, HS2.out⟩
              case measure => simp [intOf]; omega
        · obtain rfl : j = v.t.n := by omega
          have hjt' : ¬ ((v.t.n : Nat) : Int) < (v.t.n : Nat) := by omega
          have HE : Hid (m = (M0 || c.tasks.any (PtB top (kn : Int)))) := by
            have := HJ.out.2
            rw [List.take_of_length_le (by rw [HNT.out]; exact Nat.le_refl _)] at this
            exact this
          have HB4 : Hid (Below W2.heap.size W2 wr) := HJ.out.1
          clear hCf rC rG hbw HJ y12 y16 x0
          have HE1 : Hid (m = (M0 || c.tasks.any (PtB top (kn : Int)))) := HE.out
          clear HE
          generalize M0 = M00 at *
          generalize m = M0 at *
          obtain ⟨_, _, y16, _⟩ := (HF.out _ HB4.out).1
          go_wp2
          clear y11 y16
          go_loopw [10, 14] (fun mv kv wr => ∃ (j : Nat) (m : Bool), j ≤ v.i.n ∧ kv = .int .i64 j ∧ mv = .bool m ∧ Hid (Below W2.heap.size W2 wr ∧ m = (M0 || (c.isrs.take j).any (PiB top (kn : Int))))) (fun _ kv _ => v.i.n - (intOf kv).toNat)
          case atStart => exact ⟨0, _, by omega, rfl, rfl, HB4.out, by simp⟩
          case round =>
            clear HB4
            obtain ⟨j, m, hj, rfl, rfl, HJ⟩ := hrel
            obtain ⟨⟨y11, y12, y16, x0⟩, hCf, rC, rG, hbw⟩ := HF.out _ HJ.out.1
            by_cases hjt : j < v.i.n
            · have hjt' : (j : Int) < v.i.n := by omega
              obtain ⟨x, hx⟩ : ∃ x, c.isrs[j]? = some x := ⟨_, List.getElem?_eq_getElem (by rw [← HNI.out]; exact hjt)⟩
              obtain ⟨g, off, s3, s4, e, hg, a0, a1, a2, a3, a4, r3, r4⟩ := is_at hCf hx
              have bg := ints_at' rG HEG.out HGI.out
              have HSN : Hid ((c.isrs.take (j + 1)).any (PiB top (kn : Int)) = ((c.isrs.take j).any (PiB top (kn : Int)) || (hasB x.res (kn : Int) && (x.prio == top)))) := any_take _ _ j _ hx
              have HLE : Hid (hasB x.res (kn : Int) = true → x.prio ≤ top) := fun hh => by rw [HTOP.out]; exact least_i HG0.out HKM.out (List.mem_of_getElem? hx) hh
              have c1 : ∀ d os, Calls Try.prog 13 #[.slice s3.a s3.n s3.c, I (kn : Int)] (grow (redrawn wr d) os) fun e w'' => e = .returned (.bool (hasB x.res (kn : Int))) ∧ ∃ p : Regrown, w'' = grow (redrawn wr p.d) p.os := fun d os => Calls.regrown_of ((has_any _ s3 x.res (r3.below (below_regrown _ d os) (fun _ _ _ _ h => h)) (kn : Int)).mono (fun e w' ⟨h1, h2⟩ => ⟨h1, by rw [h2]; exact Below.refl _ _⟩))
              rw [e] at y16
              have cr1 := cell_regrown y16
              have cr2 := cell_regrown a2
              have cr3 := cell_regrown a3
              have cr4 := cell_regrown bg
              have HB0 : Hid (Below W2.heap.size W2 wr) := HJ.out.1
              have HM : Hid (m = (M0 || (c.isrs.take j).any (PiB top (kn : Int)))) := HJ.out.2
              have hlg : (i : Int) < sg.n := hlt'
              clear hx e hCf rC rG hbw HJ y12 y11 x0 a0 a1 a4 r3 r4
              generalize hasB x.res (kn : Int) = hb at *
              go_wp2
              refine wp_region_quiet_below (by kernel_rfl) (by kernel_rfl) ?_
              repeat (go_big_quiet_step (first | exact c1 _ _))
              refine wpQuiet_nil ?_
              rintro _ ⟨⟨dq, osq⟩, rfl⟩
              dsimp only
              have hb4 := below_regrown wr dq osq
              have HB5 : Hid (Below W2.heap.size W2 (grow (redrawn wr dq) osq)) := HB0.out.trans (hb4.mono HB0.out.size)
              have z1 := cr1 dq osq
              have z2 := cr2 dq osq
              clear c1 cr1 cr2 cr3 cr4 hb4 HB0 y16 a2 a3 bg
              generalize grow (redrawn wr dq) osq = w5 at *
              cases hb with
              | false =>
                have HS2 : Hid (m = (M0 || (c.isrs.take (j + 1)).any (PiB top (kn : Int)))) := by show _ = _; rw [HSN.out, HM.out]; simp
                cases m with
                | true =>
                  go_wp2
                  go_roundw
                  case rel => exact ⟨j + 1, true, by omega, by go_num, rfl, HB5.out, HS2.out⟩
                  case measure => simp [intOf]; omega
                | false =>
                  go_wp2
                  go_roundw
                  case rel => exact ⟨j + 1, false, by omega, by go_num, rfl, HB5.out, HS2.out⟩
                  case measure => simp [intOf]; omega
              | true =>
                have hle := HLE.out rfl
                have hle2 : ¬ top < x.prio := by omega
                cases m with
                | true =>
                  have HS2 : Hid (true = (M0 || (c.isrs.take (j + 1)).any (PiB top (kn : Int)))) := by
                    show _ = _
                    rw [HSN.out, ← Bool.or_assoc, ← HM.out]
                    rfl
                  go_wp2
                  go_roundw
                  case rel => exact ⟨j + 1, true, by omega, by go_num, rfl, HB5.out, HS2.out⟩
                  case measure => simp [intOf]; omega
                | false =>
                  have HS2 : Hid ((x.prio == top) = (M0 || (c.isrs.take (j + 1)).any (PiB top (kn : Int)))) := by
                    show _ = _
                    rw [HSN.out, ← Bool.or_assoc, ← HM.out]
                    simp
                  go_wp2
                  go_roundw
                  case rel => exact ⟨j + 1, (x.prio == top), by omega, by go_num, rfl, HB5.out, HS2.out⟩
                  case measure => simp [intOf]; omega
            · obtain rfl : j = v.i.n := by omega
              have hjt' : ¬ ((v.i.n : Nat) : Int) < (v.i.n : Nat) := by omega
              have HE : Hid (m = (M0 || c.isrs.any (PiB top (kn : Int)))) := by
                have := HJ.out.2
                rw [List.take_of_length_le (by rw [HNI.out]; exact Nat.le_refl _)] at this
                exact this
              have HB4 : Hid (Below W2.heap.size W2 wr) := HJ.out.1
              clear hCf rC rG hbw HJ y12 y11 x0
              have HE2 : Hid (m = (L.take (i + 1)).any (MkB c top)) := by
                show _ = _
                rw [any_take _ _ i _ HGI.out, HE.out, HE1.out, HMA.out, Bool.or_assoc]
                rfl
              clear HE HE1 HMA
              go_wp2
              go_roundw
              case rel => exact ⟨i + 1, m, by omega, by go_num, rfl, HB4.out, HE2.out⟩
              case measure => simp [intOf]; omega
    · obtain rfl : i = sg.n := by omega
      have hlt' : ¬ ((sg.n : Nat) : Int) < (sg.n : Nat) := by omega
      have HE : Hid (M0 = L.any (MkB c top)) := by
        have := HJ.out.2
        rw [List.take_of_length_le (by rw [HSG.out]; exact Nat.le_refl _)] at this
        exact this
      have hVr := HVW.out _ HJ.out.1
      have ku := K3.out _ hbw
      have Hbw : Hid (Below w.heap.size w wr) := hbw
      have HM1 : Hid (M0 = decide (0 < (usrT c (q : Int)).length + (usrI c (q : Int)).length)) := by show _ = _; rw [HE.out]; exact HMET.out
      have HM2 : Hid (M0 = false → top = -1) := fun h0 => HNEG.out (by rw [← HE.out]; exact h0)
      clear y11 y12 y16 x0 hCf rC rG hbw HJ HE HMET HNEG HGL HTOP HF HVW K3
      generalize usrT c (q : Int) = LT at *
      generalize usrI c (q : Int) = LI at *
      cases M0 with
      | true =>
        have HP : Hid (0 < LT.length + LI.length) := by
          show 0 < LT.length + LI.length
          exact of_decide_eq_true HM1.out.symm
        go_wp2_with (first | (refine wpList_load_row rfl 33 _ rfl w.heap.size rfl 33 _ (0, 0) _ hVr Try.underlying33 rfl hi18 ?_) | (go_at_call 14; refine ku.mono ?_; clear ku hVr; rintro e w5 hp; obtain ⟨sT, sI, rfl, hRT, hRI, hb5⟩ := hp.got; have p1 : (0 : Int) < (sT.n : Int) + (sI.n : Int) := (by have := hRT.n; have := hRI.n; have := HP.out; omega); have p2 : sT.n ≤ 8796093022208 := (by have := hRT.n; have := HUL.out.1; omega); have p3 : sI.n ≤ 8796093022208 := (by have := hRI.n; have := HUL.out.2; omega); have HB5 : Hid (Below w.heap.size w w5) := Hbw.out.trans (hb5.mono Hbw.out.size); clear hp hRT hRI hb5) | (go_at_call 10; refine (num_any _ _).mono ?_; rintro e w' ⟨rfl, rfl⟩) | (go_at_call 12; refine (alive_any _).mono ?_; rintro e w6 ⟨rfl, hb6⟩))
        go_ret
        exact ⟨rfl, HB5.out.trans (hb6.mono HB5.out.size)⟩
      | false =>
        have HP : Hid (¬ 0 < LT.length + LI.length) := of_decide_eq_false HM1.out.symm
        have ht := HM2.out rfl
        subst ht
        go_wp2_with (first | (refine wpList_load_row rfl 33 _ rfl w.heap.size rfl 33 _ (0, 0) _ hVr Try.underlying33 rfl hi18 ?_) | (go_at_call 14; refine ku.mono ?_; clear ku hVr; rintro e w5 hp; obtain ⟨sT, sI, rfl, hRT, hRI, hb5⟩ := hp.got; have p2 : sT.n = 0 := (by have := hRT.n; have := HP.out; omega); have p3 : sI.n = 0 := (by have := hRI.n; have := HP.out; omega); rw [p2, p3]; have HB5 : Hid (Below w.heap.size w w5) := Hbw.out.trans (hb5.mono Hbw.out.size); clear hp hRT hRI hb5 p2 p3) | (go_at_call 10; refine (num_any _ _).mono ?_; rintro e w' ⟨rfl, rfl⟩) | (go_at_call 12; refine (alive_any _).mono ?_; rintro e w6 ⟨rfl, hb6⟩))
        go_ret
        exact ⟨rfl, HB5.out.trans (hb6.mono HB5.out.size)⟩
end Go.Proofs.Ytapfbinaocaclaa
