import Derived.Test.YthhckhifaolmkaaGreatXXzi
import Derived.Test.YthhckhifaolmkaaGreatXXzf
import Derived.Test.YthhckhifaolmkaaGreatXTdi
import Derived.Laws.OwnMore
namespace Go.Proofs.YthhckhifaolmkaaGreat
open Go.RowKit Go.Shelf Go.Sort
open Go.Proofs.YthhckhifaolmkaaGreat.Cl (Fx Fz Ck Cb Alm psA dueA dueF U Q cP own_sl own_some own_below own_base inL ret_bool ret_int heap_lt iinfo cell_one_new take_snoc aftN)
set_option linter.unusedVariables false
set_option linter.unusedSimpArgs false
theorem flat_mid {f g : Nat → List Value} (hf : ∀ i, (f i).length = 3) (hg : ∀ i, (g i).length = 3) {n j : Nat} (hj : j < n) (h : ∀ i, i ≠ j → g i = f i) {a b b' c : Value} (hfj : f j = [a, b', c]) (ha : g j = [a, b, c]) : (flat f n).set (j * 3 + 1) b = flat g n := by
  have hl : (flat f n).length = n * 3 := flat_len hf n
  apply List.ext_getElem?
  intro t
  by_cases ht : t < n * 3
  · have h1 : t / 3 < n := by omega
    have h2 : t % 3 < 3 := by omega
    have et : t = t / 3 * 3 + t % 3 := by omega
    have e2 := flat_at hg (n := n) (i := t / 3) (j := t % 3) h1 h2
    have e1 := flat_at hf (n := n) (i := t / 3) (j := t % 3) h1 h2
    rw [← et] at e2 e1
    rw [e2]
    by_cases e : t / 3 = j
    · rw [e, ha]
      rw [e, hfj] at e1
      rcases (by omega : t % 3 = 0 ∨ t % 3 = 1 ∨ t % 3 = 2) with e3 | e3 | e3
      · rw [List.getElem?_set_ne (by omega), e1, e3]; rfl
      · rw [e3, show t = j * 3 + 1 by omega, List.getElem?_set_self (by omega)]; rfl
      · rw [List.getElem?_set_ne (by omega), e1, e3]; rfl
    · rw [List.getElem?_set_ne (by omega), e1, h _ e]
  · rw [List.getElem?_eq_none (by simp; omega), List.getElem?_eq_none (by rw [flat_len hg]; omega)]
theorem set_over {L : List Value} {i : Nat} {u a b c : Value} : (((L.set (i + 1) u).set i a).set (i + 1) b).set (i + 2) c = ((L.set i a).set (i + 1) b).set (i + 2) c := by
  rw [List.set_comm u a (by omega), List.set_set]
section
variable {W0 w w' : World} {tb : Tb} {v : Ts} {P : Nat} {vv va vr : Sl} {s : Bs}
theorem Fz.grown {W w4 w6 : World} {row : Option Nat} {o : Obj} (hg : (w4.alloc o).grownBy w6 row) (hr : ∀ b, row = some b → W.heap.size ≤ b) (hs : W.heap.size ≤ w4.heap.size) : Fz (fun b => W.heap.size ≤ b) w4 w6 :=
  ⟨hg.os, hg.tape, hg.output, by have := hg.size; simp at this; omega, fun i hi hn => by
    rw [hg.block i (by simp; omega) (fun e => hn (hr i e.symm)), heap_alloc_old _ _ hi]⟩
set_option maxRecDepth 100000 in
set_option maxHeartbeats 16000000 in
theorem dTick (h : Dd W0 w tb v P vv va vr s) (t : Int) : Calls Tryz.prog 45 #[bP P, I t] w fun e w' => ∃ u, e = .returned (.tuple #[u, I (tckS tb t)]) ∧ w'.ownsRow w.heap.size 3 1 u (tckL tb s t).length (inL (tckL tb s t)) ∧ Dd W0 w' tb v P vv va vr (tckA tb s t) ∧ Fz (Dm P vv va vr) w w' := by
  obtain ⟨-, c5, c6, -, c13, c14, -⟩ := h.cells
  unfold tckS tckL tckA
  by_cases ho : outK tb t
  · simp only [if_pos ho]
    obtain ⟨a, cc, hv⟩ := own_sl h.v
    rw [hv] at c13
    have HH : Hid (Dd W0 w tb v P vv va vr s) := h
    clear h hv
    unfold outK at ho
    generalize tb.ctrs.length = n at *
    by_cases h0 : t < 0
    · clear ho
      go_enter Tryz.func45, Tryz.ntmps45
      go_wp2
      go_ret2
      exact ⟨_, rfl, by simpa [inL] using World.ownsRow_nil w _ _ _, HH.out, Fz.refl _ _⟩
    · have h1 : (n : Int) ≤ t := by omega
      clear ho
      go_enter Tryz.func45, Tryz.ntmps45
      go_wp2
      go_ret2
      exact ⟨_, rfl, by simpa [inL] using World.ownsRow_nil w _ _ _, HH.out, Fz.refl _ _⟩
  · simp only [if_neg ho]
    obtain ⟨i, rfl, hi⟩ : ∃ i : Nat, t = i ∧ i < tb.ctrs.length := by unfold outK at ho; exact ⟨t.toNat, by omega, by omega⟩
    rw [Int.toNat_natCast]
    obtain ⟨i0, hi0, hz0, hz1, hz2⟩ := info_parts iinfo
    obtain ⟨gv, cv, ev, q0, f0⟩ := h.vl2 hi
    obtain ⟨gc, oc, ec, ecn, hWc⟩ := h.ctab hi
    rw [ev] at c13
    rw [ec, ecn] at c5
    have m0 := hWc w (Below.refl _ _)
    have hok := h.d.ok.k i hi
    have hvi := h.d.v i hi
    have n0 : ¬ ((i : Int) < 0) := by omega
    have n1 : ¬ ((tb.ctrs.length : Int) ≤ i) := by omega
    have n2 : (i : Int) < tb.ctrs.length := by omega
    have hna := h.d.ok.na
    have HL : Hid (∀ b, Dm P vv va vr b → W0.heap.size ≤ b ∧ b < w.heap.size) := h.lo
    have HW : Hid (W0.heap.size ≤ w.heap.size ∧ v.a.n = tb.als.length) := ⟨h.b.size, h.t0.a.n⟩
    have HV : Hid (∀ W V, Below w.heap.size w W → V ≤ (ctK tb i).max → Dd W0 (W.setCell ⟨gv, i, none⟩ (U V)) tb v P vv va vr ⟨upN s.v i V, s.a, s.q⟩ ∧ Fz (Dm P vv va vr) w (W.setCell ⟨gv, i, none⟩ (U V))) := fun W V hb hV => by
      obtain ⟨x, y⟩ := (h.below hb).putV hi ev hV
      exact ⟨x, (Fz.of_below hb).trans y⟩
    have HC : Hid (∀ W, Below w.heap.size w W → W.cell? ⟨P, 13, none⟩ = some (.slice (some ⟨gv, 0, none⟩) tb.ctrs.length cv) ∧ W.cell? ⟨gv, i, none⟩ = some (U (s.v i)) ∧ W.frozen? ⟨gv, i, none⟩ = false) := fun W hb => by
      have hW := h.below hb
      obtain ⟨-, -, -, -, x13, -, -⟩ := hW.cells
      obtain ⟨g', c', e', x, y⟩ := hW.vl2 hi
      rw [ev] at x13 e'
      cases e'
      exact ⟨x13, x, y⟩
    obtain ⟨aA, cA, evA⟩ := own_sl h.a
    have HA : Hid (slT va = .slice aA tb.als.length cA) := evA
    have HVM : Hid (aftN (ctK tb i).max (s.v i) 1 = if s.v i = (ctK tb i).max then 0 else s.v i + 1) := aft_one hok.1 hvi
    clear h ho hWc ec ecn evA c6 c14
    go_enter Tryz.func45, Tryz.ntmps45
    go_upto_region 3 with fail
    go_quiet (fail)
    have HB5 : Hid (Below w.heap.size w (w.drewN nq)) := Cl.below_drewN _ (Below.refl _ _)
    obtain ⟨x13, y0, y1⟩ := HC.out _ HB5.out
    clear c5 c13 q0 f0 m0
    generalize w.drewN nq = w1 at *
    go_upto_if 35 with fail
    go_cut [4] from 6 (fun v4 wx => v4 = .slice none 0 0 ∧ Hid (Dd W0 wx tb v P vv va vr ⟨upN s.v i (aftN (ctK tb i).max (s.v i) 1), s.a, s.q⟩ ∧ Fz (Dm P vv va vr) w wx))
    case first =>
      by_cases hvm : s.v i = (ctK tb i).max
      · have HV0 : Hid (aftN (ctK tb i).max (s.v i) 1 = 0) := by show _ = _; rw [HVM.out, if_pos hvm]
        have hvB : ((s.v i : Int) == ((ctK tb i).max : Int)) = true := by simp [hvm]
        clear hvm HVM HC hvi
        go_wp2
        go_meet
        case rel => exact ⟨rfl, by rw [HV0.out]; exact HV.out w1 0 HB5.out (Nat.zero_le _)⟩
      · have HV0 : Hid (aftN (ctK tb i).max (s.v i) 1 = s.v i + 1) := by show _ = _; rw [HVM.out, if_neg hvm]
        have hvB : ((s.v i : Int) == ((ctK tb i).max : Int)) = false := by simp; omega
        have hle : s.v i + 1 ≤ (ctK tb i).max := by omega
        have hwr : IntKind.u32.wrap ((s.v i : Int) + 1) = ((s.v i + 1 : Nat) : Int) := by rw [Cl.w32 (by omega) (by omega)]; omega
        clear hvm HVM hvi
        go_upto_region 5 with fail
        go_region_law (fail)
        all_goals
          go_wp2
          go_meet
          case rel => exact ⟨rfl, by rw [HV0.out]; exact HV.out w1.drew _ (HB5.out.drew) hle⟩
    obtain ⟨rfl, HY⟩ := hcut
    generalize hVV : aftN (ctK tb i).max (s.v i) 1 = V at *
    have HVV : Hid (aftN (ctK tb i).max (s.v i) 1 = V) := hVV
    clear hVV x13 y0 y1 HB5 HC HV HVM hvi hok
    have HI : Hid (wc.ownsRow w.heap.size 3 1 (.slice none 0 0) (expK tb s.a i 0).length (inL (expK tb s.a i 0)) ∧ Dd W0 wc tb v P vv va vr ⟨upN s.v i V, psK tb s.a i 0, s.q⟩ ∧ Fz (Dm P vv va vr) w wc) := ⟨by simpa [expK_zero, inL] using World.ownsRow_nil wc _ _ _, by rw [psK_zero]; exact HY.out.1, HY.out.2⟩
    clear HY
    go_wp2
    go_loopw [6, 7] (fun v6 v7 wr => ∃ k : Nat, k ≤ tb.als.length ∧ v7 = I k ∧ Hid (wr.ownsRow w.heap.size 3 1 v6 (expK tb s.a i k).length (inL (expK tb s.a i k)) ∧ Dd W0 wr tb v P vv va vr ⟨upN s.v i V, psK tb s.a i k, s.q⟩ ∧ Fz (Dm P vv va vr) w wr)) (fun _ v7 _ => tb.als.length - (intOf v7).toNat)
    case atStart => exact ⟨0, by omega, rfl, HI.out⟩
    case round =>
      clear HI
      obtain ⟨k, hk, rfl, HJ⟩ := hrel
      have hD := HJ.out.2.1
      obtain ⟨-, -, c6, -, -, c14, -⟩ := hD.cells
      rw [HA.out] at c14
      by_cases hlt : k < tb.als.length
      · have hltI : (k : Int) < tb.als.length := by omega
        obtain ⟨g, c, eg, q0, q1, q2⟩ := hD.al hlt
        have ea : aA = some ⟨g, 0, none⟩ ∧ cA = c := by have := HA.out; rw [this] at eg; cases eg; exact ⟨rfl, rfl⟩
        obtain ⟨rfl, rfl⟩ := ea
        obtain ⟨ga, off, eva, han, hW⟩ := hD.atab hlt
        have d0 := (hW wr (Below.refl _ _)).1
        rw [eva, han] at c6
        simp only [psK_at] at q0 q1 q2
        have hbd := hD.d.a k hlt
        simp only [psK_at] at hbd
        have hl0 := hD.d.l k hlt
        simp only [psK_at] at hl0
        have hctr := hD.d.ok.a k hlt
        have hkm := hD.d.ok.k _ hctr.2.1
        clear hW eva han
        by_cases hs0 : (s.a k).1 = 0
        · rw [show decide ((s.a k).1 ≠ 0) = false by simpa using hs0] at q0
          have HS : Hid (psK tb s.a i (k + 1) = psK tb s.a i k ∧ expK tb s.a i (k + 1) = expK tb s.a i k) := ⟨psK_same (psF_off (.inl hs0)), expK_off (.inl hs0)⟩
          clear hs0 hD hbd hl0 hctr hkm q1 q2
          go_wp2
          go_roundw
          case rel => exact ⟨k + 1, by omega, by go_num, by rw [HS.out.1, HS.out.2]; exact HJ.out⟩
          case measure => simp [intOf]; omega
        · rw [show decide ((s.a k).1 ≠ 0) = true by simpa using hs0] at q0
          by_cases hc : ctrN tb k = i
          · rw [hc] at d0
            have hx1 : 1 ≤ (s.a k).1 := by omega
            have hx2 : (s.a k).1 < 4294967296 := by omega
            have hx3 : (s.a k).2 < 4294967296 := by omega
            have ha := hD.a
            rw [eg] at ha
            have f1 : wr.frozen? ⟨g, k * 3 + 1, none⟩ = false := ha.frozenAt (k * 3 + 1)
            have hwr : IntKind.u32.wrap (((s.a k).1 : Int) - 1) = (((s.a k).1 - 1 : Nat) : Int) := by rw [Cl.w32 (by omega) (by omega)]; omega
            have HX := (hD.below ((Below.refl _ wr).drew)).x
            have HX2 := HX.set (i := k * 3 + 1) (x := U (((s.a k).1 - 1 : Nat) : Int)) eg
            have H4 : Hid (Dx W0 ((wr.setCell ⟨g, k * 3 + 1, none⟩ (U (((s.a k).1 - 1 : Nat) : Int))).drew) tb v P vv va vr ⟨upN s.v i V, psK tb s.a i k, s.q⟩ ((flat (lkF ⟨upN s.v i V, psK tb s.a i k, s.q⟩) tb.als.length).set (k * 3 + 1) (U (((s.a k).1 - 1 : Nat) : Int))) ∧ ((wr.setCell ⟨g, k * 3 + 1, none⟩ (U (((s.a k).1 - 1 : Nat) : Int))).drew).ownsRow w.heap.size 3 1 u6 (expK tb s.a i k).length (inL (expK tb s.a i k)) ∧ Fz (Dm P vv va vr) w ((wr.setCell ⟨g, k * 3 + 1, none⟩ (U (((s.a k).1 - 1 : Nat) : Int))).drew)) := ⟨HX2.1, ((Fz.refl (fun b => b = g) wr.drew).set (.inl rfl) (k * 3 + 1) (U (((s.a k).1 - 1 : Nat) : Int))).own (HJ.out.1.drew) (fun b e e2 => by have h1 := (HJ.out.1.lt b e).1; have h2 := (HL.out g (.inr (.inr (.inl (by rw [eg]; rfl))))).2; have e3 : b = g := e2; omega), (HJ.out.2.2.trans (Fz.of_below ((Below.refl _ wr).drew))).trans HX2.2⟩
            have HT : Hid (TbAt W0 tb v ∧ W0.heap.size ≤ P ∧ OKd tb ⟨upN s.v i V, psK tb s.a i k, s.q⟩ ∧ w.heap.size ≤ wr.heap.size) := ⟨hD.t0, hD.p, hD.d, HJ.out.2.2.size⟩
            have HK : Hid (lkF ⟨upN s.v i V, psK tb s.a i k, s.q⟩ k = [.bool true, U (s.a k).1, U (s.a k).2]) := by show _ = _; unfold lkF; simp only [psK_at]; rw [show decide ((s.a k).1 ≠ 0) = true by simpa using hs0]
            have HBD : Hid ((s.a k).1 ≤ (ctK tb (ctrN tb k)).max + 1 ∧ (s.a k).2 ≤ (ctK tb (ctrN tb k)).max) := hbd
            have HPF : Hid (psF tb s.a i k = if (s.a k).1 - 1 = 0 then ((s.a k).2, (s.a k).2) else ((s.a k).1 - 1, (s.a k).2)) := psF_on hs0 hc
            have HEG : Hid (slT va = .slice (some ⟨g, 0, none⟩) tb.als.length cA) := eg
            have HOKU : Hid (∀ y : Alm, y.1 ≤ (ctK tb (ctrN tb k)).max + 1 ∧ y.2 ≤ (ctK tb (ctrN tb k)).max → (y.1 = 0 → y.2 = 0) → psF tb s.a i k = y → OKd tb ⟨upN s.v i V, psK tb s.a i (k + 1), s.q⟩) := fun y hy hyl e => by
              refine ⟨hD.d.ok, hD.d.v, fun j hj => ?_, fun j hj => ?_⟩
              · show (psK tb s.a i (k + 1) j).1 ≤ _ ∧ (psK tb s.a i (k + 1) j).2 ≤ _
                rw [psK_succ, e]
                by_cases e2 : j = k
                · subst e2; rw [upN_same]; exact hy
                · rw [upN_ne _ _ e2]; exact hD.d.a j hj
              · show (psK tb s.a i (k + 1) j).1 = 0 → (psK tb s.a i (k + 1) j).2 = 0
                rw [psK_succ, e]
                by_cases e2 : j = k
                · subst e2; rw [upN_same]; exact hyl
                · rw [upN_ne _ _ e2]; exact hD.d.l j hj
            have HLK : Hid (∀ j, j ≠ k → lkF ⟨upN s.v i V, psK tb s.a i (k + 1), s.q⟩ j = lkF ⟨upN s.v i V, psK tb s.a i k, s.q⟩ j) := fun j hj => by unfold lkF; simp only [psK_succ, upN_ne _ _ hj]
            have HLA : Hid (∀ y : Alm, psF tb s.a i k = y → lkF ⟨upN s.v i V, psK tb s.a i (k + 1), s.q⟩ k = [.bool (decide (y.1 ≠ 0)), U y.1, U y.2]) := fun y e => by unfold lkF; simp only [psK_succ, upN_same, e]
            clear ha HX HX2 hD hbd hl0 hctr hkm eg HJ
            go_upto_region 11 with fail
            go_region_law (fail)
            all_goals
              clear c6 c14 q0 q1 q2 d0 f1 hwr
              generalize (wr.setCell ⟨g, k * 3 + 1, none⟩ (.int .u32 (((s.a k).1 - 1 : Nat) : Int))).drew = w4 at *
              have c14 : w4.cell? ⟨P, 14, none⟩ = some (.slice (some ⟨g, 0, none⟩) tb.als.length cA) := by rw [cell_of_row _ _ _ _ _ (0, 0) H4.out.1.o, ← HEG.out]; rfl
              have hlL : (flat (lkF ⟨upN s.v i V, psK tb s.a i k, s.q⟩) tb.als.length).length = tb.als.length * 3 := flat_len (k := 3) (fun _ => rfl) _
              have ha := H4.out.1.a
              rw [HEG.out] at ha
              have z1 : w4.cell? ⟨g, k * 3 + 1, none⟩ = some (U (((s.a k).1 - 1 : Nat) : Int)) := by rw [ha.cellAt _ (by omega), List.getElem?_set_self (by omega)]
              have z2 : w4.cell? ⟨g, k * 3 + 2, none⟩ = some (U (s.a k).2) := by
                rw [ha.cellAt _ (by omega), List.getElem?_set_ne (by omega), flat_at (fun _ => rfl) (k := 3) (j := 2) hlt (by omega), HK.out]; rfl
              clear ha
              by_cases h1 : (s.a k).1 - 1 = 0
              · have h11 : (s.a k).1 = 1 := by omega
                have HS2 : Hid (expK tb s.a i (k + 1) = expK tb s.a i k ++ [k]) := expK_on h11 hc
                rw [if_pos h1] at HPF
                rw [h1] at z1 H4
                replace z1 : w4.cell? ⟨g, k * 3 + 1, none⟩ = some (.int .u32 0) := z1
                have hlen : (expK tb s.a i k).length ≤ 64 := by have := expK_len tb s.a i k; omega
                have hO2 := H4.out.2.1.alloc (.cells #[I (k : Int)] 3)
                have hsz : w.heap.size ≤ w4.heap.size := H4.out.2.2.size
                clear h1 h11 hs0 hc
                go_wp2_with (first
                  | (at_builtin; refine wpList_append_own _ rfl (.tmp 112) (.tmp 114) 40 rfl w.heap.size 3 i0 (.int .i64 0) 1 8 Tryz.underlying40 hi0 hz0 hz1 hz2 rfl (by decide) _ _ _ rfl hO2 ⟨w4.heap.size, 0, none⟩ 1 1 [I (k : Int)] rfl rfl (cell_one_new _ _ _) (by intro u hu; simp at hu; subst hu; rfl) (by unfold maxLen; omega) (by omega) (by simp; omega) ?_))
                intro v7 w6 ho6 hg6 _
                have F6 := Fz.grown (W := w) hg6 (fun b e => (H4.out.2.1.lt b e).1) hsz
                have H6 : Hid (Dx W0 w6 tb v P vv va vr ⟨upN s.v i V, psK tb s.a i k, s.q⟩ ((flat (lkF ⟨upN s.v i V, psK tb s.a i k, s.q⟩) tb.als.length).set (k * 3 + 1) (U 0)) ∧ w6.ownsRow w.heap.size 3 1 v7 (expK tb s.a i (k + 1)).length (inL (expK tb s.a i (k + 1))) ∧ Fz (Dm P vv va vr) w w6) := by
                  refine ⟨H4.out.1.keep F6 (fun b hb e => by have := (HL.out b hb).2; omega) (fun b hb => Nat.le_trans HW.out.1 hb), ?_, H4.out.2.2.step F6 (fun x e => .inr e)⟩
                  rw [HS2.out, List.length_append]
                  unfold inL
                  rw [List.map_append]
                  exact ho6
                clear ho6 hg6 F6 hO2 HS2 H4 c14 z1 z2
                have c14 : w6.cell? ⟨P, 14, none⟩ = some (.slice (some ⟨g, 0, none⟩) tb.als.length cA) := by rw [cell_of_row _ _ _ _ _ (0, 0) H6.out.1.o, ← HEG.out]; rfl
                have ha := H6.out.1.a
                rw [HEG.out] at ha
                have z2 : w6.cell? ⟨g, k * 3 + 2, none⟩ = some (U (s.a k).2) := by
                  rw [ha.cellAt _ (by omega), List.getElem?_set_ne (by omega), flat_at (fun _ => rfl) (k := 3) (j := 2) hlt (by omega), HK.out]; rfl
                by_cases h2 : (s.a k).2 = 0
                · rw [h2] at z2
                  have ePF : psF tb s.a i k = (0, 0) := by rw [HPF.out, h2]
                  obtain ⟨⟨u0, p0⟩, ⟨u1, p1⟩, ⟨u2, p2⟩, g0, g1, g2, -⟩ := put3 ha hlt (.bool false) (.int .u32 0) (.int .u32 0)
                  have X1 := H6.out.1.set (i := k * 3) (x := .bool false) HEG.out
                  have X2 := X1.1.set (i := k * 3 + 1) (x := .int .u32 0) HEG.out
                  have X3 := X2.1.set (i := k * 3 + 2) (x := .int .u32 0) HEG.out
                  have ngl : ∀ b, v7.ownBlock = some b → b ≠ g := fun b e e2 => by have q1 := (H6.out.2.1.lt b e).1; have q2 := (HL.out g (.inr (.inr (.inl (by rw [HEG.out]; rfl))))).2; omega
                  have H8 : Hid (((w6.setCell ⟨g, k * 3, none⟩ (.bool false)).setCell ⟨g, k * 3 + 1, none⟩ (.int .u32 0)).setCell ⟨g, k * 3 + 2, none⟩ (.int .u32 0) |>.ownsRow w.heap.size 3 1 v7 (expK tb s.a i (k + 1)).length (inL (expK tb s.a i (k + 1)))) := ((((Fz.refl (fun b => b = g) w6).set (.inl rfl) (k * 3) (.bool false)).set (.inl rfl) (k * 3 + 1) (.int .u32 0)).set (.inl rfl) (k * 3 + 2) (.int .u32 0)).own H6.out.2.1 (fun b e e2 => ngl b e e2)
                  have H7 : Hid (Dd W0 (((w6.setCell ⟨g, k * 3, none⟩ (.bool false)).setCell ⟨g, k * 3 + 1, none⟩ (.int .u32 0)).setCell ⟨g, k * 3 + 2, none⟩ (.int .u32 0)) tb v P vv va vr ⟨upN s.v i V, psK tb s.a i (k + 1), s.q⟩ ∧ Fz (Dm P vv va vr) w (((w6.setCell ⟨g, k * 3, none⟩ (.bool false)).setCell ⟨g, k * 3 + 1, none⟩ (.int .u32 0)).setCell ⟨g, k * 3 + 2, none⟩ (.int .u32 0))) := by
                    refine ⟨X3.1.dd HT.out.1 HT.out.2.1 ?_ rfl rfl (HOKU.out (0, 0) ⟨Nat.zero_le _, Nat.zero_le _⟩ (fun _ => rfl) ePF), ((H6.out.2.2.trans X1.2).trans X2.2).trans X3.2⟩
                    rw [set_over]
                    exact flat_set3 (fun _ => rfl) (fun _ => rfl) hlt HLK.out (HLA.out _ ePF)
                  clear H6 X1 X2 X3 ha ngl HLK HLA HOKU HPF ePF h2
                  go_wp2
                  go_roundw
                  case rel => exact ⟨k + 1, by omega, by go_num, H8.out, H7.out.1, H7.out.2⟩
                  case measure => simp [intOf]; omega
                · have h2I : (0 : Int) < ((s.a k).2 : Int) := by omega
                  have ePF : psF tb s.a i k = ((s.a k).2, (s.a k).2) := HPF.out
                  have g1 : w6.frozen? ⟨g, k * 3 + 1, none⟩ = false := ha.frozenAt (k * 3 + 1)
                  have z1 : w6.cell? ⟨g, k * 3 + 1, none⟩ = some (U 0) := by rw [ha.cellAt _ (by omega), List.getElem?_set_self (by omega)]
                  have X1 := (H6.out.1.keep (M := fun _ => False) (Fz.of_below ((Below.refl _ w6).drew)) (fun _ _ e => e) (fun _ e => e.elim)).set (i := k * 3 + 1) (x := U (s.a k).2) HEG.out
                  have ngl : ∀ b, v7.ownBlock = some b → b ≠ g := fun b e e2 => by have q1 := (H6.out.2.1.lt b e).1; have q2 := (HL.out g (.inr (.inr (.inl (by rw [HEG.out]; rfl))))).2; omega
                  have H8 : Hid ((w6.drew.setCell ⟨g, k * 3 + 1, none⟩ (U (s.a k).2)).ownsRow w.heap.size 3 1 v7 (expK tb s.a i (k + 1)).length (inL (expK tb s.a i (k + 1)))) := ((Fz.refl (fun b => b = g) w6.drew).set (.inl rfl) (k * 3 + 1) (U (s.a k).2)).own (H6.out.2.1.drew) (fun b e e2 => ngl b e e2)
                  have H7 : Hid (Dd W0 (w6.drew.setCell ⟨g, k * 3 + 1, none⟩ (U (s.a k).2)) tb v P vv va vr ⟨upN s.v i V, psK tb s.a i (k + 1), s.q⟩ ∧ Fz (Dm P vv va vr) w (w6.drew.setCell ⟨g, k * 3 + 1, none⟩ (U (s.a k).2))) := by
                    refine ⟨X1.1.dd HT.out.1 HT.out.2.1 ?_ rfl rfl (HOKU.out ((s.a k).2, (s.a k).2) ⟨by have := HBD.out.2; show (s.a k).2 ≤ _; omega, HBD.out.2⟩ (fun e => e) ePF), (H6.out.2.2.trans (Fz.of_below ((Below.refl _ w6).drew))).trans X1.2⟩
                    rw [List.set_set]
                    refine flat_mid (fun _ => rfl) (fun _ => rfl) hlt HLK.out HK.out ?_
                    rw [HLA.out _ ePF]
                    simp [h2]
                  clear H6 X1 ha ngl HLK HLA HOKU HPF ePF h2
                  go_upto_region 15 with fail
                  go_region_law (fail)
                  all_goals
                    go_wp2
                    go_roundw
                    case rel => exact ⟨k + 1, by omega, by go_num, H8.out, H7.out.1, H7.out.2⟩
                    case measure => simp [intOf]; omega
              · have ePF : psF tb s.a i k = ((s.a k).1 - 1, (s.a k).2) := by rw [HPF.out, if_neg h1]
                have HS2 : Hid (expK tb s.a i (k + 1) = expK tb s.a i k) := expK_off (.inr (.inr h1))
                have h1I : (0 : Int) < (((s.a k).1 - 1 : Nat) : Int) := by omega
                have H7 : Hid (Dd W0 w4 tb v P vv va vr ⟨upN s.v i V, psK tb s.a i (k + 1), s.q⟩) := by
                  refine H4.out.1.dd HT.out.1 HT.out.2.1 ?_ rfl rfl (HOKU.out ((s.a k).1 - 1, (s.a k).2) ⟨by have := HBD.out.1; show (s.a k).1 - 1 ≤ _; omega, HBD.out.2⟩ (fun e => absurd e h1) ePF)
                  refine flat_mid (fun _ => rfl) (fun _ => rfl) hlt HLK.out HK.out ?_
                  rw [HLA.out _ ePF]
                  simp [h1]
                have H8 : Hid (w4.ownsRow w.heap.size 3 1 u6 (expK tb s.a i k).length (inL (expK tb s.a i k)) ∧ Fz (Dm P vv va vr) w w4) := H4.out.2
                clear H4 HLK HLA HOKU HPF ePF z2 hs0
                generalize (s.a k).1 - 1 = y at *
                clear h1
                go_wp2
                go_roundw
                case rel => exact ⟨k + 1, by omega, by go_num, by rw [HS2.out]; exact H8.out.1, H7.out, H8.out.2⟩
                case measure => simp [intOf]; omega
          · have HS : Hid (psK tb s.a i (k + 1) = psK tb s.a i k ∧ expK tb s.a i (k + 1) = expK tb s.a i k) := ⟨psK_same (psF_off (.inr hc)), expK_off (.inr (.inl hc))⟩
            have hcI : ((ctrN tb k : Int) != (i : Int)) = true := by simp; omega
            clear hc hs0 hD hbd hl0 hctr hkm q1 q2
            go_wp2
            go_roundw
            case rel => exact ⟨k + 1, by omega, by go_num, by rw [HS.out.1, HS.out.2]; exact HJ.out⟩
            case measure => simp [intOf]; omega
      · obtain rfl : k = tb.als.length := by omega
        have hge : ¬ ((tb.als.length : Int) < tb.als.length) := by omega
        clear hD
        go_wp2
        go_ret2
        refine ⟨_, rfl, ?_, ?_, HJ.out.2.2⟩
        · rw [← expK_all]; exact HJ.out.1
        · have := HJ.out.2.1.congrA (a := psF tb s.a i) (fun j hj => by show _ = psK _ _ _ _ _; unfold psK; rw [if_pos hj])
          unfold tckT
          rw [HVV.out]
          exact this
end
end Go.Proofs.YthhckhifaolmkaaGreat

namespace Go.Proofs.YthhckhifaolmkaaGreat
open Go.RowKit Go.Maps Go.Shelf Go.Sort
open Go.Proofs.YthhckhifaolmkaaGreat.Cl (Fx Fz Ck Cb Alm psA dueA dueF U Q cP own_sl own_some own_below own_base inL ret_bool ret_int heap_lt iinfo cell_one_new take_snoc aftN)
set_option linter.unusedVariables false
set_option linter.unusedSimpArgs false
set_option maxRecDepth 100000
set_option maxHeartbeats 8000000
theorem run_append_row21 {P : Program} (w : World) (base b2 : Nat) (t ty e : TypeId) (i : TypeInfo) (z : Value) (k bytes : Nat) (ht : P.underlying t = some (.slice e)) (hi : P.info? e = some i) (hz : i.zero = some z)
    (hsize : i.size = k) (hby : i.bytes = bytes) (hzs : z.cells.size = k) (hk : 0 < k) (v u : Value) (n m : Nat) (xs ys : List Value) (hown : w.ownsRow base e k v n xs) (hu : w.ownsRow b2 e k u m ys) (h1 : ∀ y ∈ ys, y.oneCell' = true)
    (h63 : n + m ≤ maxLen) (hbytes : (n + m) * bytes ≤ 140737488355328) (hbase : base ≤ w.heap.size) :
    ∃ v' w', (Builtin.append_ #[t, t] ty #[v, u]).run P w = .ok v' w' ∧ w'.ownsRow base e k v' (n + m) (xs ++ ys) ∧ w.grownBy w' v.ownBlock := by
  rcases hu.2 with ⟨rfl, rfl⟩ | ⟨g, cap, cur, rfl, _⟩
  · have hy : ys = [] := List.eq_nil_of_length_eq_zero (by have := hu.1; simpa using this)
    subst hy
    exact ⟨v, w, run_append_owned_none (P := P) w base t ty e i k ht hi v n xs hown, by simpa using hown, World.grownBy.refl _ _⟩
  · obtain ⟨v', w', hr, h2, h3, _⟩ := run_append_own (P := P) w base t ty e i z k bytes ht hi hz hsize hby hzs hk v n xs hown ⟨g, 0, none⟩ m cap ys hu.1 (hu.cells rfl) h1 h63 hbytes hbase
    exact ⟨v', w', hr, h2, h3⟩
theorem step_append_row21 {P : Program} {ops : Array Oper} {o : Oper} {a : Act} {w : World} {K : Act → World → Prop} {Q : Exit → Act → World → Prop} {E : Prop} (hgd : o.guard = none) (s x : Operand) (t : TypeId)
    (ho : o.op = .call { callee := .builtin .append, args := #[s, x], argTypes := #[t, t] })
    (base b2 : Nat) (e : TypeId) (i : TypeInfo) (z : Value) (k bytes : Nat) (ht : P.underlying t = some (.slice e)) (hi : P.info? e = some i) (hz : i.zero = some z)
    (hsize : i.size = k) (hby : i.bytes = bytes) (hzs : z.cells.size = k) (hk : 0 < k) (v u : Value) (n m : Nat) (xs ys : List Value) (hs : a.eval s = v) (hx : a.eval x = u) (hown : w.ownsRow base e k v n xs) (hu : w.ownsRow b2 e k u m ys) (h1 : ∀ y ∈ ys, y.oneCell' = true)
    (h63 : n + m ≤ maxLen) (hbytes : (n + m) * bytes ≤ 140737488355328) (hbase : base ≤ w.heap.size)
    (h : ∀ v' w', w'.ownsRow base e k v' (n + m) (xs ++ ys) → w.grownBy w' v.ownBlock → K (a.put o.dst v') w') :
    if Region.wanted o (yielded ops a.tmps) = true then Oper.wp P o a w K Q else E := by
  have hw : Region.wanted o (yielded ops a.tmps) = true := by simp [Region.wanted, hgd]
  rw [if_pos hw]
  obtain ⟨v', w', hr, h2, h3⟩ := run_append_row21 (P := P) w base b2 t o.type e i z k bytes ht hi hz hsize hby hzs hk v u n m xs ys hown hu h1 h63 hbytes hbase
  unfold Oper.wp
  simp [execOp, ho, resolve, invoke, builtin, hs, hx, hr, Result.andThen]
  exact h v' w' h2 h3
theorem fz_own21 {w w' : World} {v : Value} (h : w.grownBy w' v.ownBlock) : Fz (fun x => v.ownBlock = some x) w w' := ⟨h.os, h.tape, h.output, h.size, fun i hi hn => h.block i hi (fun e => hn e.symm)⟩
theorem fz_set21 (w : World) (P k : Nat) (v : Value) : Fz (fun x => x = P) w (w.setCell ⟨P, k, none⟩ v) := (Fz.refl (fun x => x = P) w).set (.inl rfl) _ _
theorem flat_one {f : Nat → List Value} (hf : ∀ i, ∀ u ∈ f i, u.oneCell' = true) (n : Nat) : ∀ u ∈ flat f n, u.oneCell' = true := by
  intro u hu
  unfold flat at hu
  obtain ⟨i, -, h⟩ := List.mem_flatMap.1 hu
  exact hf i u h
theorem own_sT {w : World} {b E k n : Nat} {v : Value} {xs : List Value} (h : w.ownsRow b E k v n xs) : ∃ s : Sl, v = slT s ∧ s.n = n := by
  obtain ⟨a, c, e⟩ := own_sl h
  exact ⟨⟨a, n, c⟩, e, rfl⟩
structure Gb (W w : World) (tb : Tb) (v : Ts) (C : Nat) (u0 u1 u2 : Sl) (n0 n1 n2 : Nat) (r0 r1 r2 : List Value) : Prop where
  o : w.heap[C]? = some (.cells (dbC tb v u0 u1 u2) 116)
  b : Below W.heap.size W w
  k : W.heap.size ≤ C
  p0 : w.ownsRow (C + 1) 22 1 (slT u0) n0 r0
  p1 : w.ownsRow (C + 1) 130 3 (slT u1) n1 r1
  p2 : w.ownsRow (C + 1) 4 1 (slT u2) n2 r2
section
variable {W w w' : World} {tb : Tb} {v : Ts} {C : Nat} {u0 u1 u2 u : Sl} {n0 n1 n2 n : Nat} {r0 r1 r2 r : List Value}
theorem Gb.cells (h : Gb W w tb v C u0 u1 u2 n0 n1 n2 r0 r1 r2) : w.cell? ⟨C, 13, none⟩ = some (slT u0) ∧ w.cell? ⟨C, 14, none⟩ = some (slT u1) ∧ w.cell? ⟨C, 15, none⟩ = some (slT u2) := by
  refine ⟨?_, ?_, ?_⟩ <;> (rw [cell_of_row w C _ _ _ (0, 0) h.o]; rfl)
theorem Gb.mid0 (h : Gb W w tb v C u0 u1 u2 n0 n1 n2 r0 r1 r2) (hf : Fz (fun x => (slT u0).ownBlock = some x) w w') : w'.heap[C]? = some (.cells (dbC tb v u0 u1 u2) 116) := hf.heap h.o (fun e => by have := (h.p0.lt C e).1; omega)
theorem Gb.mid1 (h : Gb W w tb v C u0 u1 u2 n0 n1 n2 r0 r1 r2) (hf : Fz (fun x => (slT u1).ownBlock = some x) w w') : w'.heap[C]? = some (.cells (dbC tb v u0 u1 u2) 116) := hf.heap h.o (fun e => by have := (h.p1.lt C e).1; omega)
theorem Gb.mid2 (h : Gb W w tb v C u0 u1 u2 n0 n1 n2 r0 r1 r2) (hf : Fz (fun x => (slT u2).ownBlock = some x) w w') : w'.heap[C]? = some (.cells (dbC tb v u0 u1 u2) 116) := hf.heap h.o (fun e => by have := (h.p2.lt C e).1; omega)
theorem Gb.put0 (h : Gb W w tb v C u0 u1 u2 n0 n1 n2 r0 r1 r2) (hf : Fz (fun x => (slT u0).ownBlock = some x) w w') (hv : w'.ownsRow (C + 1) 22 1 (slT u) n r) : Gb W (w'.setCell ⟨C, 13, none⟩ (slT u)) tb v C u u1 u2 n n1 n2 r r1 r2 := by
  have hk := h.k
  have fs := fz_set21 w' C 13 (slT u)
  have b1 := h.b.trans (hf.below h.b.size (fun x e => by have := (h.p0.lt x e).1; omega))
  exact ⟨heap_setCell_same w' C 13 _ _ (slT u) (h.mid0 hf), b1.trans (fs.below b1.size (fun x e => by omega)), hk, fs.own hv (fun b e e2 => by have := (hv.lt b e).1; omega), fs.own (hf.own h.p1 (fun b e e2 => own_apart h.p1 h.p0 (by decide) e e2)) (fun b e e2 => by have := (h.p1.lt b e).1; omega), fs.own (hf.own h.p2 (fun b e e2 => own_apart h.p2 h.p0 (by decide) e e2)) (fun b e e2 => by have := (h.p2.lt b e).1; omega)⟩
theorem Gb.put1 (h : Gb W w tb v C u0 u1 u2 n0 n1 n2 r0 r1 r2) (hf : Fz (fun x => (slT u1).ownBlock = some x) w w') (hv : w'.ownsRow (C + 1) 130 3 (slT u) n r) : Gb W (w'.setCell ⟨C, 14, none⟩ (slT u)) tb v C u0 u u2 n0 n n2 r0 r r2 := by
  have hk := h.k
  have fs := fz_set21 w' C 14 (slT u)
  have b1 := h.b.trans (hf.below h.b.size (fun x e => by have := (h.p1.lt x e).1; omega))
  exact ⟨heap_setCell_same w' C 14 _ _ (slT u) (h.mid1 hf), b1.trans (fs.below b1.size (fun x e => by omega)), hk, fs.own (hf.own h.p0 (fun b e e2 => own_apart h.p0 h.p1 (by decide) e e2)) (fun b e e2 => by have := (h.p0.lt b e).1; omega), fs.own hv (fun b e e2 => by have := (hv.lt b e).1; omega), fs.own (hf.own h.p2 (fun b e e2 => own_apart h.p2 h.p1 (by decide) e e2)) (fun b e e2 => by have := (h.p2.lt b e).1; omega)⟩
theorem Gb.put2 (h : Gb W w tb v C u0 u1 u2 n0 n1 n2 r0 r1 r2) (hf : Fz (fun x => (slT u2).ownBlock = some x) w w') (hv : w'.ownsRow (C + 1) 4 1 (slT u) n r) : Gb W (w'.setCell ⟨C, 15, none⟩ (slT u)) tb v C u0 u1 u n0 n1 n r0 r1 r := by
  have hk := h.k
  have fs := fz_set21 w' C 15 (slT u)
  have b1 := h.b.trans (hf.below h.b.size (fun x e => by have := (h.p2.lt x e).1; omega))
  exact ⟨heap_setCell_same w' C 15 _ _ (slT u) (h.mid2 hf), b1.trans (fs.below b1.size (fun x e => by omega)), hk, fs.own (hf.own h.p0 (fun b e e2 => own_apart h.p0 h.p2 (by decide) e e2)) (fun b e e2 => by have := (h.p0.lt b e).1; omega), fs.own (hf.own h.p1 (fun b e e2 => own_apart h.p1 h.p2 (by decide) e e2)) (fun b e e2 => by have := (h.p1.lt b e).1; omega), fs.own hv (fun b e e2 => by have := (hv.lt b e).1; omega)⟩
theorem Gb.mk0 (W : World) (tb : Tb) (v : Ts) : Gb W (W.alloc (.cells (dbC tb v ⟨none, 0, 0⟩ ⟨none, 0, 0⟩ ⟨none, 0, 0⟩) 116)) tb v W.heap.size ⟨none, 0, 0⟩ ⟨none, 0, 0⟩ ⟨none, 0, 0⟩ 0 0 0 [] [] [] :=
  ⟨heap_alloc_new W _, below_alloc W _, Nat.le_refl _, World.ownsRow_nil _ _ _ _, World.ownsRow_nil _ _ _ _, World.ownsRow_nil _ _ _ _⟩
theorem Gb.fin {W0 : World} {s : Bs} {P : Nat} {vv va vr : Sl} (h : Gb W w tb v C u0 u1 u2 tb.ctrs.length tb.als.length tb.isrs.length (flat (valF s) tb.ctrs.length) (flat (lkF s) tb.als.length) (flat (rqF s) tb.isrs.length)) (d : Dd W0 W tb v P vv va vr s) : Dd W0 w tb v C u0 u1 u2 s ∧ ∀ x, Dm C u0 u1 u2 x → W.heap.size ≤ x := by
  have hk := h.k
  have hl := d.b.size
  refine ⟨⟨h.o, d.t0, d.b.trans (h.b.mono hl), by omega, own_base h.p0 (by omega), own_base h.p1 (by omega), own_base h.p2 (by omega), d.d⟩, ?_⟩
  rintro x (e | e | e | e)
  · omega
  · have := (h.p0.lt x e).1; omega
  · have := (h.p1.lt x e).1; omega
  · have := (h.p2.lt x e).1; omega
end
section
variable {W0 w w' : World} {tb : Tb} {v : Ts} {P : Nat} {vv va vr : Sl} {s : Bs}
theorem dCopy (h : Dd W0 w tb v P vv va vr s) : Calls Tryz.prog 19 #[bP P] w fun e w' => ∃ C u0 u1 u2, e = .returned (bP C) ∧ Dd W0 w' tb v C u0 u1 u2 s ∧ (∀ x, Dm C u0 u1 u2 x → w.heap.size ≤ x) ∧ Below w.heap.size w w' := by
  obtain ⟨iu, hiu, hu0, hu1, hu2⟩ := info_parts u32info
  obtain ⟨il, hil, hl0, hl1, hl2⟩ := info_parts lkinfo
  obtain ⟨ib, hib, hb0, hb1, hb2⟩ := info_parts boinfo
  have HH : Hid (Dd W0 w tb v P vv va vr s) := h
  have hnk : tb.ctrs.length ≤ 16 := h.d.ok.nk
  have hna : tb.als.length ≤ 64 := h.d.ok.na
  have hni : tb.isrs.length ≤ 32 := h.d.ok.ni
  have cc := fun j => cell_of_row _ _ j _ _ (0, 0) h.o
  have k0 : w.cell? ⟨P, 0, none⟩ = some (I tb.uses) := cc 0
  have k1 : w.cell? ⟨P, 1, none⟩ = some (I tb.modes) := cc 1
  have k2 : w.cell? ⟨P, 2, none⟩ = some (.slice v.t.a v.t.n v.t.c) := cc 2
  have k3 : w.cell? ⟨P, 3, none⟩ = some (.slice v.g.a v.g.n v.g.c) := cc 3
  have k4 : w.cell? ⟨P, 4, none⟩ = some (.slice v.r.a v.r.n v.r.c) := cc 4
  have k5 : w.cell? ⟨P, 5, none⟩ = some (.slice v.k.a v.k.n v.k.c) := cc 5
  have k6 : w.cell? ⟨P, 6, none⟩ = some (.slice v.a.a v.a.n v.a.c) := cc 6
  have k7 : w.cell? ⟨P, 7, none⟩ = some (.slice v.i.a v.i.n v.i.c) := cc 7
  have k8 : w.cell? ⟨P, 8, none⟩ = some (.slice v.s.a v.s.n v.s.c) := cc 8
  have k9 : w.cell? ⟨P, 9, none⟩ = some (I tb.depth) := cc 9
  have k10 : w.cell? ⟨P, 10, none⟩ = some (I tb.frames) := cc 10
  have k11 : w.cell? ⟨P, 11, none⟩ = some (I tb.errors) := cc 11
  have k12 : w.cell? ⟨P, 12, none⟩ = some (I tb.calls) := cc 12
  clear h cc
  go_enter Tryz.func19, Tryz.ntmps19
  go_upto_region 2 with (first | fail)
  clear k0 k1 k2 k3 k4 k5 k6 k7 k8 k9 k10 k11 k12
  have Y0 := Gb.mk0 w tb v
  unfold dbC at Y0
  generalize w.alloc (.cells #[I tb.uses, I tb.modes, .slice v.t.a v.t.n v.t.c, .slice v.g.a v.g.n v.g.c, .slice v.r.a v.r.n v.r.c, .slice v.k.a v.k.n v.k.c, .slice v.a.a v.a.n v.a.c, .slice v.i.a v.i.n v.i.c, .slice v.s.a v.s.n v.s.c, I tb.depth, I tb.frames, I tb.errors, I tb.calls, .slice none 0 0, .slice none 0 0, .slice none 0 0] 116) = wc at *
  have K0 := HH.out.below Y0.b
  obtain ⟨-, -, -, -, z0, z1, z2⟩ := K0.cells
  obtain ⟨e0, e1, e2⟩ := Y0.cells
  have HS : Hid (w.heap.size + 1 ≤ wc.heap.size) := heap_lt Y0.o
  have Kd := K0.below ((Below.refl _ wc).drew)
  go_cut [3] from 4 (fun s3 wx => s3 = bP w.heap.size ∧ ∃ (u0 : Sl), Hid (Gb w wx tb v w.heap.size u0 ⟨none, 0, 0⟩ ⟨none, 0, 0⟩ tb.ctrs.length 0 0 (flat (valF s) tb.ctrs.length) [] []))
  case first =>
    go_region_law (first
      | (refine step_append_row21 rfl (.tmp 14) (.tmp 18) 74 rfl (w.heap.size + 1) W0.heap.size 22 iu (.int .u32 0) 1 4 Tryz.underlying74 hiu hu0 hu1 hu2 rfl (by decide) (.slice none 0 0) (slT vv) 0 tb.ctrs.length [] (flat (valF s) tb.ctrs.length) (by simp [Act.eval, Act.put]) (by simp [Act.eval, Act.put]) (World.ownsRow_nil _ _ _ _) Kd.v (flat_one (by intro i u hu; simp [valF] at hu; first | (subst hu; rfl) | (rcases hu with rfl | rfl | rfl <;> rfl)) _) (by unfold maxLen; omega) (by omega) HS.out ?_; intro v4 w4 h4 hg4; rw [Nat.zero_add, List.nil_append] at h4; obtain ⟨s4, rfl, -⟩ := own_sT h4; have F4 : Fz (fun x => (Value.slice none 0 0).ownBlock = some x) wc w4 := ((Fz.refl _ wc).drewN 1).trans (fz_own21 hg4); have y1 := Y0.put0 F4 h4; have hq := Y0.mid0 F4; have q1 : w4.frozen? ⟨w.heap.size, 13, none⟩ = false := frozen_of_row w4 _ _ _ _ hq; have q2 : w4.cell? ⟨w.heap.size, 13, none⟩ = some (.slice none 0 0) := (by rw [cell_of_row w4 _ _ _ _ (0, 0) hq]; rfl)))
    all_goals
      go_wp2
      go_meet
      case rel => exact ⟨rfl, s4, y1⟩
  obtain ⟨rfl, u0, HY⟩ := hcut
  have Y1 := HY.out
  clear HY e0 e1 e2 z0 z1 z2 Kd K0 Y0 HS
  go_upto_region 3 with (first | fail)
  have K0 := HH.out.below Y1.b
  obtain ⟨-, -, -, -, z0, z1, z2⟩ := K0.cells
  obtain ⟨e0, e1, e2⟩ := Y1.cells
  have HS : Hid (w.heap.size + 1 ≤ wc.heap.size) := heap_lt Y1.o
  have Kd := K0.below ((Below.refl _ wc).drew)
  go_cut [3] from 4 (fun s3 wx => s3 = bP w.heap.size ∧ ∃ (u0 u1 : Sl), Hid (Gb w wx tb v w.heap.size u0 u1 ⟨none, 0, 0⟩ tb.ctrs.length tb.als.length 0 (flat (valF s) tb.ctrs.length) (flat (lkF s) tb.als.length) []))
  case first =>
    go_region_law (first
      | (refine step_append_row21 rfl (.tmp 26) (.tmp 30) 111 rfl (w.heap.size + 1) W0.heap.size 130 il (.agg #[.bool false, .int .u32 0, .int .u32 0]) 3 12 Tryz.underlying111 hil hl0 hl1 hl2 rfl (by decide) (.slice none 0 0) (slT va) 0 tb.als.length [] (flat (lkF s) tb.als.length) (by simp [Act.eval, Act.put]) (by simp [Act.eval, Act.put]) (World.ownsRow_nil _ _ _ _) Kd.a (flat_one (by intro i u hu; simp [lkF] at hu; first | (subst hu; rfl) | (rcases hu with rfl | rfl | rfl <;> rfl)) _) (by unfold maxLen; omega) (by omega) HS.out ?_; intro v4 w4 h4 hg4; rw [Nat.zero_add, List.nil_append] at h4; obtain ⟨s4, rfl, -⟩ := own_sT h4; have F4 : Fz (fun x => (Value.slice none 0 0).ownBlock = some x) wc w4 := ((Fz.refl _ wc).drewN 1).trans (fz_own21 hg4); have y1 := Y1.put1 F4 h4; have hq := Y1.mid1 F4; have q1 : w4.frozen? ⟨w.heap.size, 14, none⟩ = false := frozen_of_row w4 _ _ _ _ hq; have q2 : w4.cell? ⟨w.heap.size, 14, none⟩ = some (.slice none 0 0) := (by rw [cell_of_row w4 _ _ _ _ (0, 0) hq]; rfl)))
    all_goals
      go_wp2
      go_meet
      case rel => exact ⟨rfl, u0, s4, y1⟩
  obtain ⟨rfl, u0, u1, HY⟩ := hcut
  have Y2 := HY.out
  clear HY e0 e1 e2 z0 z1 z2 Kd K0 Y1 HS
  go_upto_region 4 with (first | fail)
  have K0 := HH.out.below Y2.b
  obtain ⟨-, -, -, -, z0, z1, z2⟩ := K0.cells
  obtain ⟨e0, e1, e2⟩ := Y2.cells
  have HS : Hid (w.heap.size + 1 ≤ wc.heap.size) := heap_lt Y2.o
  have Kd := K0.below ((Below.refl _ wc).drew)
  go_cut [3] from 4 (fun s3 wx => s3 = bP w.heap.size ∧ ∃ (u0 u1 u2 : Sl), Hid (Gb w wx tb v w.heap.size u0 u1 u2 tb.ctrs.length tb.als.length tb.isrs.length (flat (valF s) tb.ctrs.length) (flat (lkF s) tb.als.length) (flat (rqF s) tb.isrs.length)))
  case first =>
    go_region_law (first
      | (refine step_append_row21 rfl (.tmp 38) (.tmp 42) 114 rfl (w.heap.size + 1) W0.heap.size 4 ib (.bool false) 1 1 Tryz.underlying114 hib hb0 hb1 hb2 rfl (by decide) (.slice none 0 0) (slT vr) 0 tb.isrs.length [] (flat (rqF s) tb.isrs.length) (by simp [Act.eval, Act.put]) (by simp [Act.eval, Act.put]) (World.ownsRow_nil _ _ _ _) Kd.r (flat_one (by intro i u hu; simp [rqF] at hu; first | (subst hu; rfl) | (rcases hu with rfl | rfl | rfl <;> rfl)) _) (by unfold maxLen; omega) (by omega) HS.out ?_; intro v4 w4 h4 hg4; rw [Nat.zero_add, List.nil_append] at h4; obtain ⟨s4, rfl, -⟩ := own_sT h4; have F4 : Fz (fun x => (Value.slice none 0 0).ownBlock = some x) wc w4 := ((Fz.refl _ wc).drewN 1).trans (fz_own21 hg4); have y1 := Y2.put2 F4 h4; have hq := Y2.mid2 F4; have q1 : w4.frozen? ⟨w.heap.size, 15, none⟩ = false := frozen_of_row w4 _ _ _ _ hq; have q2 : w4.cell? ⟨w.heap.size, 15, none⟩ = some (.slice none 0 0) := (by rw [cell_of_row w4 _ _ _ _ (0, 0) hq]; rfl)))
    all_goals
      go_wp2
      go_meet
      case rel => exact ⟨rfl, u0, u1, s4, y1⟩
  obtain ⟨rfl, u0, u1, u2, HY⟩ := hcut
  clear e0 e1 e2 z0 z1 z2 Kd K0 Y2 HS
  go_wp2
  go_ret
  obtain ⟨f1, f2⟩ := HY.out.fin HH.out
  exact ⟨_, _, _, _, rfl, f1, f2, HY.out.b⟩
end
end Go.Proofs.YthhckhifaolmkaaGreat

