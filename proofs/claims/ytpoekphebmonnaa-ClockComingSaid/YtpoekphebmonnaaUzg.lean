import Derived.Test.YtpoekphebmonnaaUzb
namespace Go.Proofs.Ytpoekphebmonnaa
open Go.RowKit Go.Shelf Go.Sort
set_option linter.unusedVariables false
set_option linter.unusedSimpArgs false

/-! ### ClockComing -/
abbrev ctrO' (s : ByteArray) (mx bs mn : Nat) : Obj := .cells #[.string s, U mx, U bs, U mn] 30
theorem cTick {W wr : World} {B G L V : Nat} {v : Value} {al : List Alm} (h : Pk W wr B v G L V al []) : Calls Try.prog 15 #[cP B] wr fun e w' => ∃ a c, e = .returned (.slice a (dueF 1 0 al).length c) ∧ w'.ownsRow wr.heap.size 3 1 (.slice a (dueF 1 0 al).length c) (dueF 1 0 al).length (inL (dueF 1 0 al)) ∧ Pk W w' B v G L (aftN G V 1) (al.map (psA 1)) [] ∧ Fz (Cb B v) wr w' := by
  refine (Tick_any h.k).mono ?_
  rintro e w' ⟨u, rfl, o1, k1, z1⟩
  obtain ⟨a, c, rfl⟩ := own_sl o1
  exact ⟨a, c, rfl, o1, (h.step k1 z1).1, z1⟩
/-- what has come, and what is yet to come -/
structure CgI (al : List Alm) (N T k : Nat) (L : List (Nat × Nat)) : Prop where
  d : ∃ D, AtT T al D ∧ L.drop k = dseq (N - k) D
  l : L.length ≤ N
  k : k ≤ L.length
theorem CgI.start (al : List Alm) (N : Nat) : CgI al N 0 0 (dseq N (d0L al)) := ⟨⟨d0L al, AtT.start al, by simp⟩, dseq_len _ _, Nat.zero_le _⟩
theorem CgI.at {al : List Alm} {N T k i x : Nat} {L : List (Nat × Nat)} (h : CgI al N T k L) (hk : k + i < L.length) (hi : (dueF 1 0 al)[i]? = some x) : L[k + i]? = some (T + 1, x) := by
  obtain ⟨D, h1, h2⟩ := h.d
  obtain ⟨D', h3, h4⟩ := h1.run (s := 1) (Nat.le_refl _) (fun x _ h0 => by omega)
  rw [h4] at h2
  have hl := h.l
  have hi2 := (List.getElem?_eq_some_iff.1 hi).1
  have e1 : (L.drop k)[i]? = some (T + 1, x) := by
    rw [h2, List.getElem?_append_left (by rw [List.length_take, List.length_map]; omega), List.getElem?_take, if_pos (by omega), List.getElem?_map, hi]
    rfl
  rw [List.getElem?_drop] at e1
  exact e1
theorem CgI.next {al : List Alm} {N T k i : Nat} {L : List (Nat × Nat)} (h : CgI al N T k L) (hi : i ≤ (dueF 1 0 al).length) (hk : k + i ≤ L.length) (he : i = (dueF 1 0 al).length ∨ k + i = L.length) : CgI (al.map (psA 1)) N (T + 1) (k + i) L := by
  obtain ⟨D, h1, h2⟩ := h.d
  obtain ⟨D', h3, h4⟩ := h1.run (s := 1) (Nat.le_refl _) (fun x _ h0 => by omega)
  rw [h4] at h2
  have hl := h.l
  refine ⟨⟨D', h3, ?_⟩, h.l, hk⟩
  rcases he with he | he
  · subst he
    rw [← List.drop_drop, h2, List.take_of_length_le (by rw [List.length_map]; omega), List.drop_append_of_le_length (by rw [List.length_map]; exact Nat.le_refl _), List.drop_of_length_le (by rw [List.length_map]; exact Nat.le_refl _), List.nil_append, show N - k - (dueF 1 0 al).length = N - (k + (dueF 1 0 al).length) by omega]
  · have hlen := congrArg List.length h2
    rw [List.length_drop, List.length_append, List.length_take, List.length_map] at hlen
    rw [List.drop_of_length_le (by omega)]
    by_cases hd : i = (dueF 1 0 al).length
    · have e0 : (dseq (N - k - (dueF 1 0 al).length) D').length = 0 := by omega
      rw [show N - (k + i) = N - k - (dueF 1 0 al).length by omega]
      exact (List.eq_nil_of_length_eq_zero e0).symm
    · rw [show N - (k + i) = 0 by omega]
      rfl
theorem CgI.later {al : List Alm} {N T k : Nat} {L : List (Nat × Nat)} (h : CgI al N T k L) {p : Nat × Nat} (hp : L[k]? = some p) : T < p.1 := by
  obtain ⟨D, h1, h2⟩ := h.d
  have hk := (List.getElem?_eq_some_iff.1 hp).1
  rw [List.drop_eq_getElem_cons hk] at h2
  have := h1.later h2.symm
  rw [(List.getElem?_eq_some_iff.1 hp).2] at this
  exact this
theorem CgI.unset {al : List Alm} {N T : Nat} {L : List (Nat × Nat)} (h : CgI al N T L.length L) (hN : L.length < N) : ∀ x ∈ al, x.1 = 0 := by
  obtain ⟨D, h1, h2⟩ := h.d
  rw [List.drop_of_length_le (Nat.le_refl _)] at h2
  exact h1.unset (n := N - L.length) (by omega) h2.symm
set_option maxHeartbeats 8000000 in
set_option maxRecDepth 100000 in
theorem coming_no (W : World) (s : ByteArray) (mx bs mn : Nat) (x : Value) (most : Nat) (hn : newB mx mn (4 : Nat) = false) : Calls Try.prog 6 #[.agg #[.string s, U mx, U bs, U mn], x, .int .u8 most] W fun e w' => e = .returned (.bool true) ∧ Below W.heap.size W w' := by
  have h1 : ∀ w, Calls Try.prog 13 #[.agg #[.string s, U mx, U bs, U mn], I 4] w fun e w' => e = .returned (.tuple #[.pointer none, I 160]) ∧ Below w.heap.size w w' := fun w => New_no w s mx bs mn (4 : Nat) hn
  have HB : Hid (Below W.heap.size W (W.alloc (ctrO' s mx bs mn))) := below_alloc _ _
  clear hn
  go_enter Try.func6, Try.ntmps6
  go_wp2_with (first
    | (go_at_call 13; refine (h1 _).mono ?_; clear h1; rintro e w1 ⟨rfl, b1⟩; have HB1 : Hid (Below W.heap.size W w1) := HB.out.trans (b1.mono HB.out.size); clear b1)
    | (go_at_call 9; refine (alive_any _).mono ?_; rintro e w7 ⟨rfl, b7⟩))
  go_ret
  exact ⟨rfl, HB1.out.trans (b7.mono HB1.out.size)⟩
set_option maxHeartbeats 16000000 in
set_option maxRecDepth 100000 in
theorem coming_ok (W : World) (s : ByteArray) (mx bs mn : Nat) (ss : Sl) (l : List Cl) (hl : RowsAt W 4 actP ss l) (hll : l.length ≤ 5864062014805) (most : Nat) (hm : most < 256) (hn : newB mx mn (4 : Nat) = true) : Calls Try.prog 6 #[.agg #[.string s, U mx, U bs, U mn], .slice ss.a ss.n ss.c, .int .u8 most] W fun e w' => e = .returned (.bool true) ∧ Below W.heap.size W w' := by
  obtain ⟨a1, n1, c1⟩ := ss
  have hn1 := hl.n
  simp only at hn1
  subst hn1
  have hN : Calls Try.prog 13 #[.agg #[.string s, U mx, U bs, U mn], I 4] (W.alloc (ctrO' s mx bs mn)) fun e w' => ∃ B v, e = .returned (.tuple #[cP B, I 0]) ∧ Pk W w' B v mx mn 0 (List.replicate 4 (0, 0)) [] ∧ Below (W.alloc (ctrO' s mx bs mn)).heap.size (W.alloc (ctrO' s mx bs mn)) w' ∧ ∀ b, Cb B v b → (W.alloc (ctrO' s mx bs mn)).heap.size < b := pNew W _ (below_alloc _ _) [] (by simp) s mx bs mn 4 hn
  clear hn
  go_enter Try.func6, Try.ntmps6
  go_upto_region 4 with (first
    | (go_at_call 13; refine hN.mono ?_; clear hN; rintro e w1 ⟨B, vv, rfl, P1, b1, -⟩; have HP : Hid (∃ V al, Pk W w1 B vv mx mn V al [] ∧ al.length = 4) := ⟨_, _, P1, rfl⟩; clear P1 b1))
  go_wp2
  go_loopw [9, 10] (fun v9 _ wr => ∃ i : Nat, i ≤ l.length ∧ v9 = I i ∧ Hid (∃ V al, Pk W wr B vv mx mn V al [] ∧ al.length = 4)) (fun v9 _ _ => l.length - (intOf v9).toNat)
  case atStart => exact ⟨0, by omega, rfl, HP.out⟩
  case round =>
    clear HP
    obtain ⟨i, hi, rfl, HJ⟩ := hrel
    obtain ⟨V, al, P0, hal⟩ := HJ.out
    have HP : Hid (Pk W wr B vv mx mn V al [] ∧ al.length = 4) := ⟨P0, hal⟩
    clear HJ P0 hal
    by_cases hlt : i < l.length
    · have hltI : (i : Int) < l.length := by omega
      obtain ⟨⟨kd, tk, x, y⟩, hx⟩ : ∃ x, l[i]? = some x := ⟨_, List.getElem?_eq_getElem hlt⟩
      obtain ⟨ga, off, rfl, bx, by', hcx⟩ := acts_cell hl hx
      obtain ⟨x0, x1, x2, x3⟩ := hcx wr HP.out.1.b
      clear hcx hx
      go_upto_block 2 with fail
      have HJ1 : Hid (Pk W (wr.alloc (.cells #[I kd, I tk, U x, U y] 46)) B vv mx mn V al [] ∧ al.length = 4) := ⟨HP.out.1.below (below_alloc _ _), HP.out.2⟩
      have y1 : (wr.alloc (.cells #[I kd, I tk, U x, U y] 46)).cell? ⟨wr.heap.size, 1, none⟩ = some (I tk) := by rw [cell_of_row _ _ _ _ _ (0, 0) (heap_alloc_new wr _)]; rfl
      have y2 : (wr.alloc (.cells #[I kd, I tk, U x, U y] 46)).cell? ⟨wr.heap.size, 2, none⟩ = some (U x) := by rw [cell_of_row _ _ _ _ _ (0, 0) (heap_alloc_new wr _)]; rfl
      have y3 : (wr.alloc (.cells #[I kd, I tk, U x, U y] 46)).cell? ⟨wr.heap.size, 3, none⟩ = some (U y) := by rw [cell_of_row _ _ _ _ _ (0, 0) (heap_alloc_new wr _)]; rfl
      clear x0 x1 x2 x3 HP
      generalize wr.heap.size = X at *
      generalize (wr.alloc (.cells #[I kd, I tk, U x, U y] 46)) = wx at *
      have e50a : (x : Int) % 50 = ((x % 50 : Nat) : Int) := by omega
      have e50b : (y : Int) % 50 = ((y % 50 : Nat) : Int) := by omega
      have r1 := pRel HJ1.out.1 tk (x % 50) (y % 50) (by omega)
      have r2 := pAbs HJ1.out.1 tk x (y % 50) bx
      have r3 := cTick HJ1.out.1
      rw [← e50a, ← e50b] at r1
      rw [← e50b] at r2
      have HE : Hid ((x : Int) % 50 = ((x % 50 : Nat) : Int) ∧ (y : Int) % 50 = ((y % 50 : Nat) : Int)) := ⟨e50a, e50b⟩
      clear e50a e50b HE
      by_cases k1 : kd = 1
      · subst k1
        as_aux_lemma =>
          go_wp2_with (first | (go_at_call 18; refine r1.mono ?_; clear r1; rintro e w4 ⟨rfl, P4, -⟩; have H4 : Hid (∃ V al, Pk W w4 B vv mx mn V al [] ∧ al.length = 4) := ⟨_, _, P4, by rw [setA_len]; exact HJ1.out.2⟩; clear P4))
          go_roundw
          case rel => exact ⟨i + 1, by omega, by go_num, H4.out⟩
          case measure => simp [intOf]; omega
      · by_cases k2 : kd = 2
        · subst k2
          as_aux_lemma =>
            go_wp2_with (first | (go_at_call 17; refine r2.mono ?_; clear r2; rintro e w4 ⟨rfl, P4, -⟩; have H4 : Hid (∃ V al, Pk W w4 B vv mx mn V al [] ∧ al.length = 4) := ⟨_, _, P4, by rw [setA_len]; exact HJ1.out.2⟩; clear P4))
            go_roundw
            case rel => exact ⟨i + 1, by omega, by go_num, H4.out⟩
            case measure => simp [intOf]; omega
        · by_cases k5 : kd = 5
          · subst k5
            as_aux_lemma =>
              go_wp2_with (first | (go_at_call 15; refine r3.mono ?_; clear r3; rintro e w4 ⟨a4, c4, rfl, -, P4, -⟩; have H4 : Hid (∃ V al, Pk W w4 B vv mx mn V al [] ∧ al.length = 4) := ⟨_, _, P4, by rw [List.length_map]; exact HJ1.out.2⟩; clear P4))
              go_roundw
              case rel => exact ⟨i + 1, by omega, by go_num, H4.out⟩
              case measure => simp [intOf]; omega
          · go_wp2
            go_roundw
            case rel => exact ⟨i + 1, by omega, by go_num, ⟨_, _, HJ1.out⟩⟩
            case measure => simp [intOf]; omega
    · obtain rfl : i = l.length := by omega
      have hge : ¬ ((l.length : Int) < l.length) := by omega
      have r1 := Coming_any HP.out.1.k (most : Int)
      have hNm : mnN (posN (most : Int)) 65536 = most := by unfold mnN posN; omega
      rw [hNm] at r1
      have hcg := CgI.start al most
      have hd0 : d0L al = al.map fun x => (decide (x.1 ≠ 0), x.1, x.2) := rfl
      rw [← hd0] at r1
      generalize dseq most (d0L al) = LL at *
      have HCG : Hid (CgI al most 0 0 LL) := hcg
      have hL : LL.length ≤ most := hcg.l
      clear hcg hNm hd0 hl hge
      go_upto_region 16 with (first | (go_at_call 24; refine r1.mono ?_; clear r1; rintro e w2 ⟨a2, c2, rfl, o2, b2⟩))
      have HQ : Hid (∃ V al, Pk W w2 B vv mx mn V al [] ∧ al.length = 4 ∧ CgI al most 0 0 LL ∧ w2.ownsRow (wr.heap.size + 1) 53 2 (.slice a2 LL.length c2) LL.length (flE LL)) := ⟨V, al, HP.out.1.below b2, HP.out.2, HCG.out, o2⟩
      have HLT : Hid (∀ b, Cb B vv b → b < wr.heap.size + 1) := fun b hb => by have := HP.out.1.k.lt hb; omega
      clear HCG HP b2 o2
      generalize wr.heap.size + 1 = base at *
      clear V al
      go_wp2
      go_loopw [12, 13, 14, 15, 16] (fun v12 v13 v14 _ _ wq => ∃ T k : Nat, T ≤ 3000 ∧ v12 = Q T ∧ v13 = I k ∧ v14 = Q ((T : Int) + 1) ∧ Hid (∃ V al, Pk W wq B vv mx mn V al [] ∧ al.length = 4 ∧ CgI al most T k LL ∧ wq.ownsRow base 53 2 (.slice a2 LL.length c2) LL.length (flE LL))) (fun _ _ v14 _ _ _ => 3001 - (intOf v14).toNat)
      case atStart => exact ⟨0, 0, by omega, rfl, rfl, rfl, HQ.out⟩
      case round =>
        clear HQ
        obtain ⟨T, k, hT, rfl, rfl, rfl, HK0⟩ := hrel
        obtain ⟨V, al, P0, hal, cg, o0⟩ := HK0.out
        have hkL := cg.k
        have HK : Hid (Pk W wr B vv mx mn V al [] ∧ al.length = 4 ∧ CgI al most T k LL ∧ wr.ownsRow base 53 2 (.slice a2 LL.length c2) LL.length (flE LL)) := ⟨P0, hal, cg, o0⟩
        clear HK0 P0 hal cg o0
        by_cases hgo : T < 3000 ∧ k < LL.length
        · have g1 : decide ((T : Int) + 1 ≤ 3000) = true := by simp; omega
          have g2 : decide ((k : Int) < LL.length) = true := by simp; omega
          have g2n : decide (k < LL.length) = true := by simp; omega
          have hkI : (k : Int) < LL.length := by omega
          have r1 := cTick HK.out.1
          have hdl := dueF_len (t := 1) al 0
          have hal4 := HK.out.2.1
          generalize hde : dueF 1 0 al = due at *
          have HDE : Hid (dueF 1 0 al = due) := hde
          clear hde
          go_upto_region 22 with (first | (go_at_call 15; refine r1.mono ?_; clear r1; rintro e w3 ⟨a3, c3, rfl, o3, P3, F3⟩; have H3 : Hid (w3.ownsRow wr.heap.size 3 1 (.slice a3 due.length c3) due.length (inL due) ∧ Pk W w3 B vv mx mn (aftN mx V 1) (al.map (psA 1)) [] ∧ w3.ownsRow base 53 2 (.slice a2 LL.length c2) LL.length (flE LL)) := ⟨o3, P3, own_fz HK.out.2.2.2 F3 HLT.out⟩; clear o3 P3 F3))
          have HC : Hid (CgI al most T k LL) := HK.out.2.2.1
          clear HK g1 g2 g2n
          generalize wr.heap.size = base3 at *
          go_wp2
          go_loopw [13, 16] (fun v13 v16 wq => ∃ i j : Nat, i ≤ due.length ∧ j ≤ LL.length ∧ v16 = I i ∧ v13 = I j ∧ Hid (j = k + i ∧ wq.ownsRow base3 3 1 (.slice a3 due.length c3) due.length (inL due) ∧ Pk W wq B vv mx mn (aftN mx V 1) (al.map (psA 1)) [] ∧ wq.ownsRow base 53 2 (.slice a2 LL.length c2) LL.length (flE LL))) (fun _ v16 _ => due.length - (intOf v16).toNat)
          case atStart => exact ⟨0, k, by omega, by omega, rfl, rfl, rfl, H3.out⟩
          case round =>
            clear H3
            obtain ⟨i, j, hi, hj, rfl, rfl, HM⟩ := hrel
            by_cases hin : i < due.length ∧ j < LL.length
            · have g1 : decide ((i : Int) < due.length) = true := by simp; omega
              have g1n : decide (i < due.length) = true := by simp; omega
              have g2 : decide ((j : Int) < LL.length) = true := by simp; omega
              have g2n : decide (j < LL.length) = true := by simp; omega
              have hiI : (i : Int) < due.length := by omega
              have hjI : (j : Int) < LL.length := by omega
              obtain ⟨x, hx⟩ : ∃ x, due[i]? = some x := ⟨_, List.getElem?_eq_getElem hin.1⟩
              have hLk := HC.out.at (i := i) (x := x) (by rw [← HM.out.1]; exact hin.2) (by rw [HDE.out]; exact hx)
              rw [← HM.out.1] at hLk
              obtain ⟨gg1, cg1, e1⟩ := own_some HM.out.2.1 (by omega)
              obtain ⟨gg2, cg2, e2⟩ := own_some HM.out.2.2.2 (by omega)
              cases e1
              cases e2
              obtain ⟨f1, f2⟩ := flE_at hLk
              have q1 : wr.cell? ⟨gg1, i, none⟩ = some (I x) := by rw [HM.out.2.1.cellAt i (by omega)]; simp [inL, hx]
              have q2 : wr.cell? ⟨gg2, j * 2, none⟩ = some (Q ((T : Int) + 1)) := by rw [HM.out.2.2.2.cellAt _ (by omega)]; exact f1
              have q3 : wr.cell? ⟨gg2, j * 2 + 1, none⟩ = some (I x) := by rw [HM.out.2.2.2.cellAt _ (by omega)]; exact f2
              have z1 := cell_regrown q1
              have z2 := cell_regrown q2
              have z3 := cell_regrown q3
              have HG : Hid (j = k + i ∧ ∀ dq osq, (grow (redrawn wr dq) osq).ownsRow base3 3 1 (.slice (some ⟨gg1, 0, none⟩) due.length c3) due.length (inL due) ∧ Pk W (grow (redrawn wr dq) osq) B vv mx mn (aftN mx V 1) (al.map (psA 1)) [] ∧ (grow (redrawn wr dq) osq).ownsRow base 53 2 (.slice (some ⟨gg2, 0, none⟩) LL.length c2) LL.length (flE LL)) := ⟨HM.out.1, fun dq osq => ⟨own_below HM.out.2.1 (below_regrown wr dq osq), HM.out.2.2.1.below (below_regrown wr dq osq), own_below HM.out.2.2.2 (below_regrown wr dq osq)⟩⟩
              clear hx hLk f1 f2 q1 q2 q3 HM hin
              as_aux_lemma =>
                go_wp2
                refine wp_region_quiet_below (by kernel_rfl) (by kernel_rfl) ?_
                repeat (go_big_quiet_step (first | fail))
                refine wpQuiet_nil ?_
                rintro _ ⟨⟨dq, osq⟩, rfl⟩
                dsimp only
                have H7 : Hid (_ ∧ _ ∧ _) := HG.out.2 dq osq
                have HJ7 : Hid (j + 1 = k + (i + 1)) := by show _ = _; have := HG.out.1; omega
                clear HG z1 z2 z3
                generalize grow (redrawn wr dq) osq = w7 at *
                go_wp2
                go_roundw
                case rel => exact ⟨i + 1, j + 1, by omega, by omega, by go_num, by go_num, HJ7.out, H7.out⟩
                case measure => simp [intOf]; omega
            · have HCN : Hid (CgI (al.map (psA 1)) most (T + 1) j LL) := by
                show CgI _ _ _ _ _
                rw [HM.out.1]
                refine HC.out.next (by rw [HDE.out]; exact hi) (by rw [← HM.out.1]; exact hj) ?_
                rw [HDE.out]
                by_cases hc : i = due.length
                · exact .inl hc
                · exact .inr (by have := HM.out.1; omega)
              have H8 : Hid (∃ V al, Pk W wr B vv mx mn V al [] ∧ al.length = 4 ∧ CgI al most (T + 1) j LL ∧ wr.ownsRow base 53 2 (.slice a2 LL.length c2) LL.length (flE LL)) := ⟨_, _, HM.out.2.2.1, by rw [List.length_map]; exact hal4, HCN.out, HM.out.2.2.2⟩
              clear HCN
              by_cases hid : i < due.length
              · have g1 : decide ((i : Int) < due.length) = true := by simp; omega
                have g1n : decide (i < due.length) = true := by simp; omega
                have g2 : decide ((j : Int) < LL.length) = false := by simp; omega
                have g2n : decide (j < LL.length) = false := by simp; omega
                clear HM hin HC
                as_aux_lemma =>
                  go_wp2
                  go_roundw
                  case rel => exact ⟨T + 1, j, by omega, by go_num, rfl, by go_num, H8.out⟩
                  case measure => simp [intOf]; omega
              · have g1 : decide ((i : Int) < due.length) = false := by simp; omega
                have g1n : decide (i < due.length) = false := by simp; omega
                clear HM hin HC
                as_aux_lemma =>
                  go_wp2
                  go_roundw
                  case rel => exact ⟨T + 1, j, by omega, by go_num, rfl, by go_num, H8.out⟩
                  case measure => simp [intOf]; omega
        · have d0 : decide ((most : Int) < LL.length) = false := by simp; omega
          have d0n : decide (most < LL.length) = false := by simp; omega
          have HBX : Hid (Below W.heap.size W wr) := HK.out.1.b
          by_cases hkl : k < LL.length
          · have hT3 : T = 3000 := by omega
            obtain ⟨⟨pi, pa⟩, hp⟩ : ∃ p, LL[k]? = some p := ⟨_, List.getElem?_eq_getElem hkl⟩
            have hlat := HK.out.2.2.1.later hp
            obtain ⟨gg2, cg2, e2⟩ := own_some HK.out.2.2.2 (by omega)
            cases e2
            obtain ⟨f1, f2⟩ := flE_at hp
            have q2 : wr.cell? ⟨gg2, k * 2, none⟩ = some (Q pi) := by rw [HK.out.2.2.2.cellAt _ (by omega)]; exact f1
            have g1 : decide ((T : Int) + 1 ≤ 3000) = false := by simp; omega
            have g2 : decide ((k : Int) < LL.length) = true := by simp; omega
            have g2n : decide (k < LL.length) = true := by simp; omega
            have hkI : (k : Int) < LL.length := by omega
            have g3 : decide ((pi : Int) ≤ T) = false := by simp at hlat ⊢; omega
            have g3n : decide (pi ≤ T) = false := by simp at hlat ⊢; omega
            have g4 : ((k : Int) == LL.length) = false := beq_eq_false_iff_ne.2 (by omega)
            have g4n : (k == LL.length) = false := beq_eq_false_iff_ne.2 (by omega)
            clear hp f1 f2 HK hT3 hgo hlat hkl
            as_aux_lemma =>
              go_wp2_with (first | (go_at_call 9; refine (alive_any _).mono ?_; rintro e w7 ⟨rfl, b7⟩))
              go_ret
              exact ⟨rfl, HBX.out.trans (b7.mono HBX.out.size)⟩
          · have hkeq : k = LL.length := by omega
            have g2 : decide ((k : Int) < LL.length) = false := by simp; omega
            have g2n : decide (k < LL.length) = false := by simp; omega
            have g4 : ((k : Int) == LL.length) = true := by simp; omega
            have g4n : (k == LL.length) = true := by simp; omega
            have HU : Hid (LL.length < most → ∀ t : Nat, t < 4 → getS al t = 5) := fun hlm t ht => by
              have hz := (hkeq ▸ HK.out.2.2.1 : CgI al most T LL.length LL).unset hlm
              unfold getS
              have h4 := HK.out.2.1
              rw [if_neg (by omega), Int.toNat_natCast, List.getD_eq_getElem?_getD, List.getElem?_eq_getElem (by omega : t < al.length), Option.getD_some, if_pos (hz _ (List.getElem_mem _))]
            have HP9 : Hid (Pk W wr B vv mx mn V al []) := HK.out.1
            have hTT : decide ((T : Int) + 1 ≤ 3000) = true ∨ decide ((T : Int) + 1 ≤ 3000) = false := by cases decide ((T : Int) + 1 ≤ 3000) <;> simp
            clear HK hkeq hgo hkl
            rcases hTT with g1 | g1
            · by_cases hlm : LL.length < most
              · have d1 : decide ((LL.length : Int) < most) = true := by simp; omega
                have d1n : decide (LL.length < most) = true := by simp; omega
                as_aux_lemma =>
                  go_upto_region 32 with (first | fail)
                  go_wp2
                  go_loopw [17, 18, 19] (fun v17 _ _ wq => ∃ t : Nat, t ≤ 4 ∧ v17 = I t ∧ Hid (wq = wr)) (fun v17 _ _ _ => 4 - (intOf v17).toNat)
                  case atStart => exact ⟨0, by omega, rfl, rfl⟩
                  case round =>
                    obtain ⟨t, ht, rfl, HE⟩ := hrel
                    obtain rfl := HE.out
                    by_cases ht4 : t < 4
                    · have htI : (t : Int) < 4 := by omega
                      have r1 := pLeft HP9.out (t : Int)
                      rw [HU.out hlm t ht4] at r1
                      generalize lftN al (t : Int) = ln at *
                      go_wp2_with (first | (go_at_call 19; refine r1.mono ?_; clear r1; rintro e w5 ⟨rfl, rfl⟩))
                      go_roundw
                      case rel => exact ⟨t + 1, by omega, by go_num, by first | exact trivial | exact rfl⟩
                      case measure => simp [intOf]; omega
                    · obtain rfl : t = 4 := by omega
                      go_wp2_with (first | (go_at_call 9; refine (alive_any _).mono ?_; rintro e w7 ⟨rfl, b7⟩))
                      go_ret
                      exact ⟨rfl, HBX.out.trans (b7.mono HBX.out.size)⟩
              · have d1 : decide ((LL.length : Int) < most) = false := by simp; omega
                have d1n : decide (LL.length < most) = false := by simp; omega
                as_aux_lemma =>
                  go_wp2_with (first | (go_at_call 9; refine (alive_any _).mono ?_; rintro e w7 ⟨rfl, b7⟩))
                  go_ret
                  exact ⟨rfl, HBX.out.trans (b7.mono HBX.out.size)⟩
            · by_cases hlm : LL.length < most
              · have d1 : decide ((LL.length : Int) < most) = true := by simp; omega
                have d1n : decide (LL.length < most) = true := by simp; omega
                as_aux_lemma =>
                  go_upto_region 32 with (first | fail)
                  go_wp2
                  go_loopw [17, 18, 19] (fun v17 _ _ wq => ∃ t : Nat, t ≤ 4 ∧ v17 = I t ∧ Hid (wq = wr)) (fun v17 _ _ _ => 4 - (intOf v17).toNat)
                  case atStart => exact ⟨0, by omega, rfl, rfl⟩
                  case round =>
                    obtain ⟨t, ht, rfl, HE⟩ := hrel
                    obtain rfl := HE.out
                    by_cases ht4 : t < 4
                    · have htI : (t : Int) < 4 := by omega
                      have r1 := pLeft HP9.out (t : Int)
                      rw [HU.out hlm t ht4] at r1
                      generalize lftN al (t : Int) = ln at *
                      go_wp2_with (first | (go_at_call 19; refine r1.mono ?_; clear r1; rintro e w5 ⟨rfl, rfl⟩))
                      go_roundw
                      case rel => exact ⟨t + 1, by omega, by go_num, by first | exact trivial | exact rfl⟩
                      case measure => simp [intOf]; omega
                    · obtain rfl : t = 4 := by omega
                      go_wp2_with (first | (go_at_call 9; refine (alive_any _).mono ?_; rintro e w7 ⟨rfl, b7⟩))
                      go_ret
                      exact ⟨rfl, HBX.out.trans (b7.mono HBX.out.size)⟩
              · have d1 : decide ((LL.length : Int) < most) = false := by simp; omega
                have d1n : decide (LL.length < most) = false := by simp; omega
                as_aux_lemma =>
                  go_wp2_with (first | (go_at_call 9; refine (alive_any _).mono ?_; rintro e w7 ⟨rfl, b7⟩))
                  go_ret
                  exact ⟨rfl, HBX.out.trans (b7.mono HBX.out.size)⟩
theorem coming_law (W : World) (s : ByteArray) (mx bs mn : Nat) (h1 : mx < 4294967296) (h2 : bs < 4294967296) (h3 : mn < 4294967296) (ss : Sl) (l : List Cl) (hl : RowsAt W 4 actP ss l) (hll : l.length ≤ 5864062014805) (most : Nat) (hm : most < 256) : Calls Try.prog 6 #[.agg #[.string s, U mx, U bs, U mn], .slice ss.a ss.n ss.c, .int .u8 most] W fun e w' => e = .returned (.bool true) ∧ Below W.heap.size W w' := by
  cases hn : newB mx mn (4 : Nat) with
  | false => exact coming_no W s mx bs mn _ most hn
  | true => exact coming_ok W s mx bs mn ss l hl hll most hm hn
end Go.Proofs.Ytpoekphebmonnaa
