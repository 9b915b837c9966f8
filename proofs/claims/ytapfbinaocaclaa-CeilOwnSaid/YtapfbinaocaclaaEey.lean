import Derived.Test.YtapfbinaocaclaaEex
namespace Go.Proofs.Ytapfbinaocaclaa
open Go.RowKit Go.Sort
set_option linter.unusedVariables false
set_option linter.unusedSimpArgs false

/-! ### The document's Blocks -/
def blkF (c : Cf) (p : Int) (k : Int) : Bool := !(rkind c k == 3) && decide (ceilE c k.toNat ≥ p)
theorem filter_snoc {f : Int → Bool} {l : List Int} {j : Nat} {x : Int} (hx : l[j]? = some x) : (l.take (j + 1)).filter f = (l.take j).filter f ++ (if f x = true then [x] else []) := by
  rw [List.take_add_one, hx, Option.toList_some, List.filter_append]
  congr 1
  simp only [List.filter_cons, List.filter_nil]
theorem blk_doc (c : Cf) (p : Int) (l : List Int) : (takenL c l).filter (fun k => !decide (ceilE c k.toNat < p)) = l.filter (blkF c p) := by
  unfold takenL
  rw [List.filter_filter]
  apply List.filter_congr
  intro k _
  unfold blkF
  by_cases h : ceilE c k.toNat < p
  · rw [decide_eq_true h, decide_eq_false (by omega)]
    simp
  · rw [decide_eq_false h, decide_eq_true (by omega)]
    simp
    rfl
def tkC (x : Tk) (s4 s5 s6 s7 : Sl) : Array Value := #[S x.name, I x.prio, .bool x.full, I x.act, .slice s4.a s4.n s4.c, .slice s5.a s5.n s5.c, .slice s6.a s6.n s6.c, .slice s7.a s7.n s7.c]
set_option maxHeartbeats 8000000 in
set_option maxRecDepth 100000 in
theorem rblocks_any (w : World) (c : Cf) (v : Vs) (h : CfAt w c v) (hn : c.ress.length ≤ 8796093022208) (lo hi : Int) : Calls Try.prog 24 #[.agg (cfC c v), I lo, I hi] w fun e w' => Own2 w (blkL c lo hi) (blkE c lo hi) e w' := by
  obtain ⟨i0, hi0, hz0, hz1, hz2⟩ := info_parts Try.infoInt
  have hi18 : (Try.prog.info? 33).map (·.size) = some (cfC c v).size := by rw [show (cfC c v).size = 18 from rfl]; kernel_rfl
  have hV0 := heap_alloc_new w (.cells (cfC c v) 33)
  have hb := below_alloc w (.cells (cfC c v) 33)
  have HNT : Hid (v.t.n = c.tasks.length) := h.t.n
  have htm : v.t.n ≤ v.t.c := h.t.c
  have htm2 : v.t.c ≤ maxLen := h.t.m
  unfold maxLen at htm2
  have HCf : Hid (CfAt w c v) := h
  have hcv : ∀ W : World, W.heap[w.heap.size]? = some (.cells (cfC c v) 33 (0, 0)) → W.cell? ⟨w.heap.size, 11, none⟩ = some (.slice v.t.a v.t.n v.t.c) := fun W hW => by
    obtain ⟨_, h10, h11, h12, h13, h14, h15, h16, h17⟩ := var18_all hW
    exact h11
  have krf := rcheck_any _ c v (h.below hb) hn
  have HKI : Hid (∀ W, Below w.heap.size w W → ∀ q : Nat, q < c.ress.length → Calls Try.prog 39 #[.agg (cfC c v), I (q : Int)] W fun e w' => e = .returned (.bool (rkind c (q : Int) == 3)) ∧ Below W.heap.size W w') := fun W hW q hq => rinternal_any W c v (HCf.out.below hW) q hq
  have HKC : Hid (lookE c = 0 → ∀ W, Below w.heap.size w W → ∀ q : Nat, q < c.ress.length → Calls Try.prog 38 #[.agg (cfC c v), I (q : Int)] W fun e w' => e = .returned (I (ceilE c q)) ∧ Below W.heap.size W w') := fun hk W hW q hq => by
    have hl := look_lk hk
    rw [ceilE_use c q (endsB_at hl.2.2 hq)]
    exact rceiling_any W c v (HCf.out.below hW) hn (lk_links hl.2.1) hl.1 q hq
  generalize cfC c v = C at *
  have hs1 : (w.alloc (.cells C 33)).heap.size = w.heap.size + 1 := by simp
  rw [hs1] at krf
  have HF : Hid (∀ W, Below (w.heap.size + 1) (w.alloc (.cells C 33)) W → W.heap[w.heap.size]? = some (.cells C 33 (0, 0)) ∧ W.cell? ⟨w.heap.size, 11, none⟩ = some (.slice v.t.a v.t.n v.t.c) ∧ Below w.heap.size w W ∧ w.heap.size + 1 ≤ W.heap.size) := fun W hW => by
    have hs := hW.size
    have hVW := (hW.block _ (by omega)).trans hV0
    exact ⟨hVW, hcv W hVW, hb.trans (hW.mono (by omega)), by omega⟩
  obtain ⟨E, hE⟩ : ∃ E, E = lookE c := ⟨_, rfl⟩
  obtain ⟨L, hL⟩ : ∃ L, L = blkL c lo hi := ⟨_, rfl⟩
  obtain ⟨R, hR⟩ : ∃ R, R = blkE c lo hi := ⟨_, rfl⟩
  rw [← hR, ← hL]
  rw [← hE] at krf
  have HE : Hid (E = lookE c) := hE
  have HL : Hid (L = blkL c lo hi) := hL
  have HR : Hid (R = blkE c lo hi) := hR
  clear h hb hcv hE hL hR
  by_cases hE0 : E = 0
  · subst hE0
    have HRR : Hid (R = if (isId lo c.tasks.length && isId hi c.tasks.length) = true then 0 else 2) := by show _ = _; rw [HR.out, blkE, if_pos HE.out.symm]
    by_cases hid : (isId lo c.tasks.length && isId hi c.tasks.length) = true
    · have HR0 : Hid (R = 0) := by show _ = _; rw [HRR.out, if_pos hid]
      obtain ⟨i1, i2⟩ := Bool.and_eq_true_iff.1 hid
      have d1 : 0 ≤ lo ∧ lo < c.tasks.length := by simpa [isId] using i1
      have d2 : 0 ≤ hi ∧ hi < c.tasks.length := by simpa [isId] using i2
      obtain ⟨ln, rfl⟩ := Int.eq_ofNat_of_zero_le d1.1
      obtain ⟨hn', rfl⟩ := Int.eq_ofNat_of_zero_le d2.1
      obtain ⟨x, hx⟩ : ∃ x, c.tasks[ln]? = some x := ⟨_, List.getElem?_eq_getElem (by omega)⟩
      obtain ⟨y, hy⟩ : ∃ y, c.tasks[hn']? = some y := ⟨_, List.getElem?_eq_getElem (by omega)⟩
      have HLL : Hid (L = if x.prio < y.prio then x.res.filter (blkF c y.prio) else []) := by
        show _ = _
        rw [HL.out, blkL, if_pos (by rw [← HR.out]; exact HR0.out), blkN, Int.toNat_natCast, Int.toNat_natCast, hx, hy, ← blk_doc]
      have HXY : Hid (c.tasks[ln]? = some x ∧ c.tasks[hn']? = some y) := ⟨hx, hy⟩
      have hl1 : (ln : Int) < v.t.n := by have := HNT.out; omega
      have hl2 : (hn' : Int) < v.t.n := by have := HNT.out; omega
      have hl3 : ¬ (ln : Int) < 0 := by omega
      have hl4 : ¬ (hn' : Int) < 0 := by omega
      have hl5 : ¬ (ln : Int) ≥ v.t.n := by omega
      have hl6 : ¬ (hn' : Int) ≥ v.t.n := by omega
      have HKC2 : Hid (∀ W, Below w.heap.size w W → ∀ q : Nat, q < c.ress.length → Calls Try.prog 38 #[.agg C, I (q : Int)] W fun e w' => e = .returned (I (ceilE c q)) ∧ Below W.heap.size W w') := HKC.out HE.out.symm
      have HME : Hid ((∀ z ∈ x.res, isId z c.ress.length = true) ∧ x.res.length ≤ 8796093022208) := meet_task (look_lk HE.out.symm).1 hn (List.mem_of_getElem? hx)
      clear HR HL HRR i1 i2 d1 d2 hx hy hid HKC HE
      go_enter Try.func24, Try.ntmps24
      go_upto_region 7 with (first | (refine wpList_load_row rfl 33 _ rfl w.heap.size rfl 33 _ (0, 0) _ hV0 Try.underlying33 rfl hi18 ?_) | (go_at_call 17; refine krf.mono ?_; rintro e w1 ⟨rfl, hb1⟩; obtain ⟨hV1, y11, hbw1, hsw1⟩ := HF.out _ hb1; have HW1 : Hid (Below (w.heap.size + 1) (w.alloc (.cells C 33)) w1) := hb1; clear krf hb1))
      clear hV0 hV1
      obtain ⟨g, off, s4, s5, s6, s7, e, hg, a0, a1, a2, a3, a4, a5, a6, a7, r4, r5, r6, r7⟩ := tk_at (HCf.out.below hbw1) HXY.out.1
      obtain ⟨g', off', t4, t5, t6, t7, e', hg', c0, c1, c2, c3, c4, c5, c6, c7, q4, q5, q6, q7⟩ := tk_at (HCf.out.below hbw1) HXY.out.2
      have e2 : (some ⟨g, off, none⟩ : Option Addr) = some ⟨g', off', none⟩ := e.symm.trans e'
      injection e2 with e2
      injection e2 with e3 e4
      subst e3
      subst e4
      rw [e] at y11
      have HR5 : Hid (RowsAt w1 1 intP s5 x.res) := r5
      have hng : g ≠ w1.heap.size := Nat.ne_of_lt hg
      have hng2 : g ≠ w1.heap.size + 1 := by omega
      have hnw : w.heap.size ≠ w1.heap.size := by omega
      have hnw2 : w.heap.size ≠ w1.heap.size + 1 := by omega
      have cc : ∀ {p : Addr} {u : Value}, w1.cell? p = some u → ∀ Z Z' : Obj, ((w1.alloc Z).alloc Z').cell? p = some u := fun {p u} h Z Z' => by
        rw [World.cell?_alloc_lt _ _ _ (Nat.lt_of_lt_of_le (World.block_lt_of_cell? _ _ h) (by simp)), World.cell?_alloc_lt _ _ _ (World.block_lt_of_cell? _ _ h)]
        exact h
      have b11 := cc y11
      have b0 := cc a0
      have b1 := cc a1
      have b2 := cc a2
      have b3 := cc a3
      have b4 := cc a4
      have b5 := cc a5
      have b6 := cc a6
      have b7 := cc a7
      have d0 := cc c0
      have d1 := cc c1
      have d2 := cc c2
      have d3 := cc c3
      have d4 := cc c4
      have d5 := cc c5
      have d6 := cc c6
      have d7 := cc c7
      have ck : ∀ {p : Addr} {u : Value}, w1.cell? p = some u → ∀ Z : Obj, (w1.alloc Z).cell? p = some u := fun {p u} h Z => by
        rw [World.cell?_alloc_lt _ _ _ (World.block_lt_of_cell? _ _ h)]
        exact h
      have kb11 := ck y11
      have kb0 := ck a0
      have kb1 := ck a1
      have kb2 := ck a2
      have kb3 := ck a3
      have kb4 := ck a4
      have kb5 := ck a5
      have kb6 := ck a6
      have kb7 := ck a7
      have kd0 := ck c0
      have kd1 := ck c1
      have kd2 := ck c2
      have kd3 := ck c3
      have kd4 := ck c4
      have kd5 := ck c5
      have kd6 := ck c6
      have kd7 := ck c7
      clear r4 r5 r6 r7 q4 q5 q6 q7 e e' cc ck
      go_cut [10, 11] from 14 (fun s10 s11 wx => ∃ A B : Nat, s10 = .pointer (some ⟨A, 0, none⟩) ∧ s11 = .pointer (some ⟨B, 0, none⟩) ∧ Hid (wx.heap[A]? = some (.cells (tkC x s4 s5 s6 s7) 47 (0, 0)) ∧ wx.heap[B]? = some (.cells (tkC y t4 t5 t6 t7) 47 (0, 0)) ∧ Below w1.heap.size w1 wx ∧ w1.heap.size ≤ A ∧ w1.heap.size ≤ B))
      case first =>
        go_big_region
        · go_wp2_with fail
          go_meet
          exact ⟨_, _, rfl, rfl, heap_two0 w1 _ _, heap_two w1 _ _, (((Below.refl w1.heap.size w1).alloc (Nat.le_refl _) _).alloc (by simp) _).trans ⟨rfl, rfl, rfl, Nat.le_refl _, fun _ _ => rfl⟩, Nat.le_refl _, by omega⟩
        · go_wp2_with fail
          go_meet
          exact ⟨_, _, rfl, rfl, heap_two w1 _ _, heap_two0 w1 _ _, (((Below.refl w1.heap.size w1).alloc (Nat.le_refl _) _).alloc (by simp) _).trans ⟨rfl, rfl, rfl, Nat.le_refl _, fun _ _ => rfl⟩, by omega, Nat.le_refl _⟩
      case rest =>
      obtain ⟨A, B, rfl, rfl, HAB⟩ := hcut
      have HS5 : Hid (s5.n = x.res.length) := HR5.out.n
      have hs5c : s5.n ≤ s5.c := HR5.out.c
      have hs5m : s5.c ≤ maxLen := HR5.out.m
      unfold maxLen at hs5m
      have hs5l : s5.n ≤ 8796093022208 := by rw [HS5.out]; exact HME.out.2
      have HG : Hid (∀ W, Below wc.heap.size wc W → W.cell? ⟨A, 5, none⟩ = some (.slice s5.a s5.n s5.c) ∧ W.cell? ⟨A, 1, none⟩ = some (I x.prio) ∧ W.cell? ⟨B, 1, none⟩ = some (I y.prio) ∧ W.heap[w.heap.size]? = some (.cells C 33 (0, 0)) ∧ RowsAt W 1 intP s5 x.res ∧ Below w.heap.size w W) := fun W hW => by
        obtain ⟨qa, qb, qw, _, _⟩ := HAB.out
        have qa' := (hW.block _ (heap_lt qa)).trans qa
        have qb' := (hW.block _ (heap_lt qb)).trans qb
        have q1 := qw.trans (hW.mono qw.size)
        obtain ⟨v0, _, v2, _⟩ := HF.out W (HW1.out.trans (q1.mono hsw1))
        refine ⟨?_, ?_, ?_, v0, HR5.out.below q1 (fun _ _ _ _ h => h), v2⟩
        · rw [cell_of_row W _ 5 _ _ (0, 0) qa']; rfl
        · rw [cell_of_row W _ 1 _ _ (0, 0) qa']; rfl
        · rw [cell_of_row W _ 1 _ _ (0, 0) qb']; rfl
      have HWB : Hid (w.heap.size ≤ wc.heap.size) := by have := HAB.out.2.2.1.size; show _ ≤ _; omega
      clear b11 b0 b1 b2 b3 b4 b5 b6 b7 d0 d1 d2 d3 d4 d5 d6 d7 kb11 kb0 kb1 kb2 kb3 kb4 kb5 kb6 kb7 kd0 kd1 kd2 kd3 kd4 kd5 kd6 kd7 y11 a0 a1 a2 a3 a4 a5 a6 a7 c0 c1 c2 c3 c4 c5 c6 c7 HXY hng hng2 hnw hnw2 hg hg'
      go_wp2
      go_loopw [9, 12, 13] (fun lv kv _ wr => ∃ j : Nat, j ≤ s5.n ∧ kv = .int .i64 j ∧ (¬ x.prio < y.prio → j = 0) ∧ Hid (wr.ownsRow wc.heap.size 3 1 lv ((x.res.take j).filter (blkF c y.prio)).length (((x.res.take j).filter (blkF c y.prio)).map fun x => I x) ∧ Below wc.heap.size wc wr)) (fun _ kv _ _ => s5.n - (intOf kv).toNat)
      case atStart => exact ⟨0, by omega, rfl, fun _ => rfl, World.ownsRow_nil _ _ _ _, Below.refl _ _⟩
      case round =>
        obtain ⟨j, hj, rfl, hz, HJ⟩ := hrel
        obtain ⟨p5, p1, p2, hV, r5, hbw⟩ := HG.out _ HJ.out.2
        have HJ2 : Hid (wr.ownsRow wc.heap.size 3 1 u9 ((x.res.take j).filter (blkF c y.prio)).length (((x.res.take j).filter (blkF c y.prio)).map fun x => I x) ∧ Below wc.heap.size wc wr) := HJ.out
        have Hbw : Hid (Below w.heap.size w wr) := hbw
        clear HJ
        by_cases hlt : j < s5.n
        · have hlt' : (j : Int) < s5.n := by omega
          by_cases hp : x.prio < y.prio
          · clear hz
            obtain ⟨r, hr⟩ : ∃ r, x.res[j]? = some r := ⟨_, List.getElem?_eq_getElem (by rw [← HS5.out]; exact hlt)⟩
            have hbd : 0 ≤ r ∧ r < c.ress.length := by simpa [isId] using HME.out.1 r (List.mem_of_getElem? hr)
            obtain ⟨q, rfl⟩ := Int.eq_ofNat_of_zero_le hbd.1
            have hq : q < c.ress.length := by omega
            obtain ⟨g5, o5, e5, hg5, f5⟩ := ints_at r5 hr
            have HSN : Hid ((x.res.take (j + 1)).filter (blkF c y.prio) = (x.res.take j).filter (blkF c y.prio) ++ (if blkF c y.prio (q : Int) = true then [(q : Int)] else [])) := filter_snoc hr
            have c1 : ∀ d os, Calls Try.prog 39 #[.agg C, I (q : Int)] (grow (redrawn wr d) os) fun e w'' => e = .returned (.bool (rkind c (q : Int) == 3)) ∧ ∃ p : Regrown, w'' = grow (redrawn wr p.d) p.os := fun d os => Calls.regrown_of (HKI.out _ (Hbw.out.trans ((below_regrown _ d os).mono Hbw.out.size)) q hq)
            have c2 : ∀ d os, Calls Try.prog 38 #[.agg C, I (q : Int)] (grow (redrawn wr d) os) fun e w'' => e = .returned (I (ceilE c q)) ∧ ∃ p : Regrown, w'' = grow (redrawn wr p.d) p.os := fun d os => Calls.regrown_of (HKC2.out _ (Hbw.out.trans ((below_regrown _ d os).mono Hbw.out.size)) q hq)
            have HFV : Hid (blkF c y.prio (q : Int) = (!(rkind c (q : Int) == 3) && decide (ceilE c q ≥ y.prio))) := rfl
            rw [e5] at p5
            have cr1 := cell_regrown p5
            have cr2 := cell_regrown p1
            have cr3 := cell_regrown p2
            have cr4 := cell_regrown f5
            clear hbd hr e5 hq r5 hbw Hbw
            generalize (rkind c (q : Int) == 3) = i3 at *
            generalize ceilE c q = ce at *
            cases i3 with
            | true =>
              go_wp2
              refine wp_region_quiet_below (by kernel_rfl) (by kernel_rfl) ?_
              refine wpQuiet_load_row rfl 33 _ rfl w.heap.size rfl 33 _ (0, 0) _ (heap_regrown hV) Try.underlying33 rfl hi18 ?_
              quiet_step (fail)
              repeat (go_big_quiet_step (first | exact c1 _ _))
              refine wpQuiet_nil ?_
              rintro _ ⟨⟨dq, osq⟩, rfl⟩
              dsimp only
              have hb4 := below_regrown wr dq osq
              have HB4 : Hid (Below wc.heap.size wc (grow (redrawn wr dq) osq) ∧ (grow (redrawn wr dq) osq).ownsRow wc.heap.size 3 1 u9 ((x.res.take j).filter (blkF c y.prio)).length (((x.res.take j).filter (blkF c y.prio)).map fun x => I x)) := ⟨HJ2.out.2.trans (hb4.mono HJ2.out.2.size), own_below HJ2.out.1 hb4⟩
              clear c1 c2 cr1 cr2 cr3 cr4 hb4 hV HJ2
              generalize grow (redrawn wr dq) osq = w4 at *
              have HT2 : Hid ((x.res.take (j + 1)).filter (blkF c y.prio) = (x.res.take j).filter (blkF c y.prio)) := by show _ = _; rw [HSN.out, if_neg (by rw [HFV.out]; simp), List.append_nil]
              go_wp2
              go_roundw
              case rel => exact ⟨j + 1, by omega, by go_num, (fun hc => absurd hp hc), by rw [HT2.out]; exact HB4.out.2, HB4.out.1⟩
              case measure => simp [intOf]; omega
            | false =>
              by_cases hce : ce ≥ y.prio
              · have HFV2 : Hid (blkF c y.prio (q : Int) = true) := by show _ = _; rw [HFV.out, decide_eq_true hce]; rfl
                replace HFV := HFV2
                have hce2 : decide (ce ≥ y.prio) = true := decide_eq_true hce
                have hce3 : y.prio ≤ ce := hce
                go_wp2
                refine wp_region_quiet_below (by kernel_rfl) (by kernel_rfl) ?_
                refine wpQuiet_load_row rfl 33 _ rfl w.heap.size rfl 33 _ (0, 0) _ (heap_regrown hV) Try.underlying33 rfl hi18 ?_
                quiet_step (fail)
                repeat (go_big_quiet_step (first | exact c1 _ _))
                refine wpQuiet_load_row (by kernel_rfl) 33 _ rfl w.heap.size rfl 33 _ (0, 0) _ (heap_regrown hV) Try.underlying33 rfl hi18 ?_
                quiet_step (fail)
                repeat (go_big_quiet_step (first | exact c2 _ _))
                refine wpQuiet_nil ?_
                rintro _ ⟨⟨dq, osq⟩, rfl⟩
                dsimp only
                have hb4 := below_regrown wr dq osq
                have HB4 : Hid (Below wc.heap.size wc (grow (redrawn wr dq) osq) ∧ (grow (redrawn wr dq) osq).ownsRow wc.heap.size 3 1 u9 ((x.res.take j).filter (blkF c y.prio)).length (((x.res.take j).filter (blkF c y.prio)).map fun x => I x)) := ⟨HJ2.out.2.trans (hb4.mono HJ2.out.2.size), own_below HJ2.out.1 hb4⟩
                clear c1 c2 cr1 cr2 cr3 cr4 hb4 hV HJ2
                generalize grow (redrawn wr dq) osq = w4 at *
                have HT2 : Hid ((x.res.take (j + 1)).filter (blkF c y.prio) = (x.res.take j).filter (blkF c y.prio) ++ [(q : Int)]) := by show _ = _; rw [HSN.out, if_pos HFV.out]
                have hlj : ((x.res.take j).filter (blkF c y.prio)).length ≤ j := Nat.le_trans (List.length_filter_le _ _) (by rw [List.length_take]; omega)
                have hO2 := HB4.out.2.alloc (.cells #[I (q : Int)] 3)
                have hs4 := HB4.out.1.size
                go_wp2_with (at_builtin; refine wpList_append_own _ rfl (.tmp 80) (.tmp 82) 34 rfl wc.heap.size 3 i0 (.int .i64 0) 1 8 Try.underlying34 hi0 hz0 hz1 hz2 rfl (by decide) _ _ _ rfl hO2 ⟨w4.heap.size, 0, none⟩ 1 1 [I (q : Int)] rfl rfl (cell_one_new _ _ _) (by intro u hu; simp at hu; subst hu; rfl) (by unfold maxLen; omega) (by omega) (by simp; omega) ?_)
                intro v6 w6 ho6 hg6 _
                have HB6 : Hid (Below wc.heap.size wc w6) := by
                  have b1 := HB4.out.1.trans ((below_alloc w4 (.cells #[I (q : Int)] 3)).mono hs4)
                  exact b1.grown hg6 (by simp; omega) (fun k e => (HB4.out.2.lt k e).1)
                have HO6 : Hid (w6.ownsRow wc.heap.size 3 1 v6 ((x.res.take (j + 1)).filter (blkF c y.prio)).length (((x.res.take (j + 1)).filter (blkF c y.prio)).map fun x => I x)) := by
                  rw [HT2.out, List.length_append, List.map_append]
                  exact ho6
                clear ho6 hg6 hO2 HB4 hlj hs4
                go_wp2
                go_roundw
                case rel => exact ⟨j + 1, by omega, by go_num, (fun hc => absurd hp hc), HO6.out, HB6.out⟩
                case measure => simp [intOf]; omega
              · have HFV2 : Hid (blkF c y.prio (q : Int) = false) := by show _ = _; rw [HFV.out, decide_eq_false hce]; rfl
                replace HFV := HFV2
                have hce3 : ¬ y.prio ≤ ce := hce
                have hce4 : ce < y.prio := by omega
                go_wp2
                refine wp_region_quiet_below (by kernel_rfl) (by kernel_rfl) ?_
                refine wpQuiet_load_row rfl 33 _ rfl w.heap.size rfl 33 _ (0, 0) _ (heap_regrown hV) Try.underlying33 rfl hi18 ?_
                quiet_step (fail)
                repeat (go_big_quiet_step (first | exact c1 _ _))
                refine wpQuiet_load_row (by kernel_rfl) 33 _ rfl w.heap.size rfl 33 _ (0, 0) _ (heap_regrown hV) Try.underlying33 rfl hi18 ?_
                quiet_step (fail)
                repeat (go_big_quiet_step (first | exact c2 _ _))
                refine wpQuiet_nil ?_
                rintro _ ⟨⟨dq, osq⟩, rfl⟩
                dsimp only
                have hb4 := below_regrown wr dq osq
                have HB4 : Hid (Below wc.heap.size wc (grow (redrawn wr dq) osq) ∧ (grow (redrawn wr dq) osq).ownsRow wc.heap.size 3 1 u9 ((x.res.take j).filter (blkF c y.prio)).length (((x.res.take j).filter (blkF c y.prio)).map fun x => I x)) := ⟨HJ2.out.2.trans (hb4.mono HJ2.out.2.size), own_below HJ2.out.1 hb4⟩
                clear c1 c2 cr1 cr2 cr3 cr4 hb4 hV HJ2
                generalize grow (redrawn wr dq) osq = w4 at *
                have HT2 : Hid ((x.res.take (j + 1)).filter (blkF c y.prio) = (x.res.take j).filter (blkF c y.prio)) := by show _ = _; rw [HSN.out, if_neg (by rw [HFV.out]; simp), List.append_nil]
                go_wp2
                go_roundw
                case rel => exact ⟨j + 1, by omega, by go_num, (fun hc => absurd hp hc), by rw [HT2.out]; exact HB4.out.2, HB4.out.1⟩
                case measure => simp [intOf]; omega
          · have hj0 := hz hp
            subst hj0
            have HL0 : Hid (L = []) := by show _ = _; rw [HLL.out, if_neg hp]
            have hp2 : ¬ x.prio < y.prio := hp
            clear HLL hz
            go_wp2
            go_ret2
            exact ⟨_, by rw [HR0.out]; rfl, by rw [HL0.out]; exact own_mono HJ2.out.1 HWB.out, Hbw.out⟩
        · obtain rfl : j = s5.n := by omega
          have hlt' : ¬ ((s5.n : Nat) : Int) < (s5.n : Nat) := by omega
          have HO : Hid (wr.ownsRow w.heap.size 3 1 u9 L.length (L.map fun x => I x)) := by
            have h1 := own_mono HJ2.out.1 HWB.out
            rw [HLL.out]
            by_cases hp : x.prio < y.prio
            · rw [if_pos hp]
              rw [List.take_of_length_le (by rw [HS5.out]; exact Nat.le_refl _)] at h1
              exact h1
            · rw [if_neg hp]
              have h0 := hz hp
              rw [h0] at h1
              exact h1
          clear HLL hz HJ2 r5 hbw
          go_wp2
          go_ret2
          exact ⟨_, by rw [HR0.out]; rfl, HO.out, Hbw.out⟩
    · have HR0 : Hid (R = 2) := by show _ = _; rw [HRR.out, if_neg hid]
      have HL0 : Hid (L = []) := by show _ = _; rw [HL.out, blkL, if_neg (by rw [← HR.out, HR0.out]; decide)]
      have hsp : lo < 0 ∨ (¬ lo < 0 ∧ lo ≥ (v.t.n : Int)) ∨ (¬ lo < 0 ∧ ¬ lo ≥ (v.t.n : Int) ∧ hi < 0) ∨ (¬ lo < 0 ∧ ¬ lo ≥ (v.t.n : Int) ∧ ¬ hi < 0 ∧ hi ≥ (v.t.n : Int)) := by
        have hz := HNT.out
        by_cases h0 : lo < 0
        · exact .inl h0
        by_cases h1 : lo ≥ (v.t.n : Int)
        · exact .inr (.inl ⟨h0, h1⟩)
        by_cases h2 : hi < 0
        · exact .inr (.inr (.inl ⟨h0, h1, h2⟩))
        by_cases h3 : hi ≥ (v.t.n : Int)
        · exact .inr (.inr (.inr ⟨h0, h1, h2, h3⟩))
        exfalso
        apply hid
        simp [isId]
        omega
      clear HR HL HRR hid HE HKC HKI
      rcases hsp with h0 | ⟨h0, h1⟩ | ⟨h0, h1, h2⟩ | ⟨h0, h1, h2, h3⟩
      · go_enter Try.func24, Try.ntmps24
        go_wp2_with (first | (refine wpList_load_row rfl 33 _ rfl w.heap.size rfl 33 _ (0, 0) _ hV0 Try.underlying33 rfl hi18 ?_) | (go_at_call 17; refine krf.mono ?_; rintro e w1 ⟨rfl, hb1⟩; obtain ⟨hV1, y11, hbw1, hsw1⟩ := HF.out _ hb1; clear krf hb1 hV1))
        go_ret2
        exact own2_nil hbw1 HR0.out HL0.out
      · go_enter Try.func24, Try.ntmps24
        go_wp2_with (first | (refine wpList_load_row rfl 33 _ rfl w.heap.size rfl 33 _ (0, 0) _ hV0 Try.underlying33 rfl hi18 ?_) | (go_at_call 17; refine krf.mono ?_; rintro e w1 ⟨rfl, hb1⟩; obtain ⟨hV1, y11, hbw1, hsw1⟩ := HF.out _ hb1; clear krf hb1 hV1))
        go_ret2
        exact own2_nil hbw1 HR0.out HL0.out
      · go_enter Try.func24, Try.ntmps24
        go_wp2_with (first | (refine wpList_load_row rfl 33 _ rfl w.heap.size rfl 33 _ (0, 0) _ hV0 Try.underlying33 rfl hi18 ?_) | (go_at_call 17; refine krf.mono ?_; rintro e w1 ⟨rfl, hb1⟩; obtain ⟨hV1, y11, hbw1, hsw1⟩ := HF.out _ hb1; clear krf hb1 hV1))
        go_ret2
        exact own2_nil hbw1 HR0.out HL0.out
      · go_enter Try.func24, Try.ntmps24
        go_wp2_with (first | (refine wpList_load_row rfl 33 _ rfl w.heap.size rfl 33 _ (0, 0) _ hV0 Try.underlying33 rfl hi18 ?_) | (go_at_call 17; refine krf.mono ?_; rintro e w1 ⟨rfl, hb1⟩; obtain ⟨hV1, y11, hbw1, hsw1⟩ := HF.out _ hb1; clear krf hb1 hV1))
        go_ret2
        exact own2_nil hbw1 HR0.out HL0.out
  · have HR0 : Hid (R = E) := by show _ = _; rw [HR.out, blkE, if_neg (by rw [← HE.out]; exact hE0), HE.out]
    have HL0 : Hid (L = []) := by show _ = _; rw [HL.out, blkL, if_neg (by rw [← HR.out, HR0.out]; exact hE0)]
    have hE1 : (E != 0) = true := by simpa using hE0
    clear HR HL HE
    go_enter Try.func24, Try.ntmps24
    go_wp2_with (first | (refine wpList_load_row rfl 33 _ rfl w.heap.size rfl 33 _ (0, 0) _ hV0 Try.underlying33 rfl hi18 ?_) | (go_at_call 17; refine krf.mono ?_; rintro e w1 ⟨rfl, hb1⟩; obtain ⟨hV1, y11, hbw1, hsw1⟩ := HF.out _ hb1; clear krf hb1))
    go_ret2
    exact own2_nil hbw1 HR0.out HL0.out
end Go.Proofs.Ytapfbinaocaclaa
