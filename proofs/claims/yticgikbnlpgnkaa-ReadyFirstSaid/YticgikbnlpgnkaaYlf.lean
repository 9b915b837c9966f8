import Derived.Test.YticgikbnlpgnkaaYfa
import Derived.Test.YticgikbnlpgnkaaYlp
namespace Go.Proofs.Yticgikbnlpgnkaa
open Go.RowKit Go.ChangeShapes Go.WideShapes
set_option linter.unusedVariables false
set_option linter.unusedSimpArgs false

/-! ### ReadyFirst -/
set_option maxRecDepth 100000 in
set_option maxHeartbeats 16000000 in
theorem qfirst_any (w : World) (s : Sl) (l : List (Int × Int)) (h : RowsAt w 2 rwP s l) (hl : l.length * 16 ≤ 140737488351232) (s2 : Sl) (cs : List (Int × Int × Int)) (h2 : RowsAt w 3 clP s2 cs) (hl2 : cs.length * 24 ≤ 140737488351232) : Calls Try.prog 3 #[.slice s.a s.n s.c, .slice s2.a s2.n s2.c] w fun e w' => e = .returned (.bool true) ∧ Below w.heap.size w w' := by
  obtain ⟨i0, hi0, hz0, hz1, hz2⟩ := info_parts qinfo
  have t1 := qmade_any w s l h hl
  clear h hl
  obtain ⟨a2, n2, c2⟩ := s2
  have hn2 := h2.n
  simp only at hn2
  subst hn2
  have HC : Hid (RowsAt w 3 clP ⟨a2, cs.length, c2⟩ cs) := h2
  clear h2
  simp only
  cases hf : fitB 64 l with
  | false =>
    have t2 := t1.mono (R' := fun e w' => e = .returned (.tuple #[.pointer none, .pointer none, .bool true]) ∧ Below w.heap.size w w') (fun e w' k => by
      obtain ⟨k1, k2 | k2⟩ := k
      · exact ⟨k2.2, k1⟩
      · rw [hf] at k2; exact absurd k2.1 (by simp))
    clear t1 hf
    go_enter Try.func3, Try.ntmps3
    go_wp2_with (first
      | (go_at_call 8; refine t2.mono ?_; clear t2; rintro e w1 ⟨rfl, b1⟩)
      | (go_at_call 9; refine (qheads_any _).mono ?_; rintro e w2 ⟨rfl, b2⟩))
    go_ret
    exact ⟨rfl, b1.trans (b2.mono b1.size)⟩
  | true =>
    have t2 := t1.mono (R' := fun e w' => ∃ Q D X, e = .returned (.tuple #[qP Q, dQ D, .bool true]) ∧ Hid (FI w w' Q X (newR l) [] (.slice none 0 0))) (fun e w' k => by
      obtain ⟨k1, k2 | k2⟩ := k
      · rw [hf] at k2; exact absurd k2.1 (by simp)
      · obtain ⟨_, Q, D, X, Y, e1, k3, k4⟩ := k2
        exact ⟨Q, D, X, e1, k3.q, fun b e => ⟨k4 b (.inl e), k3.x b e⟩, k1, World.ownsRow_nil _ _ _ _, (fun g e => by cases e), Cov.nil _⟩)
    clear t1 hf
    go_enter Try.func3, Try.ntmps3
    go_wp2_with (first
      | (go_at_call 8; refine t2.mono ?_; clear t2; rintro e w1 ⟨Q, D, X, rfl, HP⟩)
      | (go_at_call 9; refine (qheads_any _).mono ?_; rintro e w2 ⟨rfl, b2⟩; have HP2 : Hid (FI w w2 Q X (newR l) [] (.slice none 0 0)) := HP.out.below b2; clear HP b2))
    go_loopw [8, 9] (fun v j wr => ∃ (k : Nat) (rs : List Rr) (inn : List (Int × Int)), k ≤ cs.length ∧ inn.length ≤ k ∧ j = .int .i64 k ∧ Hid (FI w wr Q X rs inn v ∧ PF rs inn)) (fun _ j _ => cs.length - (intOf j).toNat)
    case atStart => exact ⟨0, _, _, Nat.zero_le _, Nat.le_refl _, rfl, HP2.out, PF.new l⟩
    case round =>
      clear HP2
      obtain ⟨k, rs, inn, hk, hin, rfl, HI⟩ := hrel
      have hk0 : ¬ (k : Int) < 0 := by omega
      by_cases hlt : k < cs.length
      · obtain ⟨⟨kd, pr, id⟩, hx⟩ : ∃ x, cs[k]? = some x := ⟨_, List.getElem?_eq_getElem hlt⟩
        obtain ⟨g, off, rfl, x0, x1, x2⟩ := HC.out.three HI.out.1.b hx
        have hkI : (k : Int) < cs.length := by omega
        have HY : Hid (∀ W, Below w.heap.size w W → W.cell? ⟨g, off + k * 3 + 1, none⟩ = some (I pr)) := fun W hb => by
          obtain ⟨g', off', e', _, r1, _⟩ := HC.out.three hb hx
          cases e'
          exact r1
        clear hx x0 x2
        rcases fTail HI.out.1 HI.out.2 pr k with ⟨c, hc, t1⟩ | ⟨rs', hpf, hcv, t1⟩
        · have HPF : Hid (PF rs inn) := HI.out.2
          clear HI
          go_wp2_with (first | (go_at_call 10; refine t1.mono ?_; clear t1; rintro e w1 ⟨rfl, f1⟩; have H9 : Hid (FI w w1 Q X rs inn u8 ∧ PF rs inn) := ⟨f1, HPF.out⟩; clear f1 x1))
          go_roundw
          case rel => exact ⟨k + 1, rs, inn, by omega, by omega, by go_num, H9.out⟩
          case measure => simp [intOf]; omega
        · have HH : Hid (PF rs' (inn ++ [(pr, (k : Int))]) ∧ Cov rs' (inn ++ [(pr, (k : Int))])) := ⟨hpf, hcv⟩
          clear HI hpf hcv
          go_wp2_with (first
            | (go_at_call 10; refine t1.mono ?_; clear t1; rintro e w1 ⟨rfl, f1⟩; have y1 := (HY.out w1 f1.b); have HF1 : Hid (FI w w1 Q X rs' inn u8) := f1; have hown := f1.o.alloc (.cells #[I pr, I k] 35); have hsz := f1.b.size; clear f1 x1)
            | (at_builtin; refine wpList_append_own_at _ rfl (.tmp 52) (.tmp 60) 29 rfl w.heap.size 35 i0 (.agg #[.int .i64 0, .int .i64 0]) 2 16 Try.underlying29 hi0 hz0 hz1 hz2 rfl (by decide) _ _ _ rfl hown ⟨w1.heap.size, 0, none⟩ 1 1 [I pr, I k] rfl rfl (cell_two_new _ _ _ _) (by simp [Value.oneCell']) (by unfold maxLen; omega) (by omega) (by simp; omega) ?_; intro v' w2 ho2 hg2 _ hat2; have H9 : Hid (FI w w2 Q X rs' (inn ++ [(pr, (k : Int))]) v' ∧ PF rs' (inn ++ [(pr, (k : Int))])) := ⟨HF1.out.app HH.out.2 ho2 hg2 hat2, HH.out.1⟩; clear ho2 hg2 hat2 y1 HF1 hown))
          go_roundw
          case rel => exact ⟨k + 1, rs', inn ++ [(pr, (k : Int))], by omega, by simp; omega, by go_num, H9.out⟩
          case measure => simp [intOf]; omega
      · obtain rfl : k = cs.length := by omega
        have hge : ¬ ((cs.length : Int) < cs.length) := by omega
        have ta := rAll HI.out.1.q
        rcases first_row rs with h0 | ⟨i, r, hi, hne, hj⟩
        · have HN : Hid (∀ (i : Nat) (r : Rr), rs[i]? = some r → r.l = []) := h0
          clear h0
          go_wp2_with (first
            | (go_at_call 11; refine ta.mono ?_; clear ta; rintro e w1 ⟨vb, rfl, ob, bb⟩
               have t2 := rTake_no (HI.out.1.below bb).q HN.out
               have HF1 : Hid (FI w w1 Q X rs inn u8 ∧ PF rs inn) := ⟨HI.out.1.below bb, HI.out.2⟩
               clear ob bb HI)
            | (go_at_call 12; refine t2.mono ?_; clear t2; rintro e w3 ⟨rfl, q3, f3⟩
               have hst := run_storeCells_new (P := Try.prog) w3 35 #[.int .i64 0, .int .i64 0] #[I 0, I 0] (by kernel_rfl) rfl (by simp [Value.oneCell'])
               have HI9 : Hid (FI w (w3.alloc (.cells #[I 0, I 0] 35)) Q X rs inn u8 ∧ PF rs inn) := ⟨(HF1.out.1.step q3 f3 HF1.out.1.c).below (below_alloc _ _), HF1.out.2⟩
               clear q3 f3 HF1))
          have HPT : Hid (PT rs inn 63 0) := PT.first HI9.out.2 (fun i r hi => (HI9.out.1.q.p64 i r hi).1)
          obtain ⟨a3, c3, e3⟩ := own_sl2 HI9.out.1.o
          subst e3
          go_loopw [16] (fun j wr => ∃ (p : Int) (rs : List Rr), -1 ≤ p ∧ p ≤ 63 ∧ j = .int .i64 p ∧ Hid (FI w wr Q X rs inn (.slice a3 inn.length c3) ∧ PT rs inn p 0)) (fun j _ => (intOf j + 1).toNat)
          case atStart => exact ⟨63, rs, by decide, by decide, rfl, HI9.out.1, HPT.out⟩
          case round =>
            clear HI9 HPT
            obtain ⟨p, rs, hp1, hp2, rfl, HJ⟩ := hrel
            by_cases hpn : p = -1
            · subst hpn
              have HN9 := HJ.out.2.last
              have t6 := rTake_no HJ.out.1.q HN9
              have HL : Hid ((allR rs).length = 0 ∧ bitsR 0 rs = 0) := ⟨by rw [allR_nil HN9]; rfl, bitsR_nil rs HN9⟩
              clear HN9
              go_wp2_with (first
                | (go_at_call 12; refine t6.mono ?_; clear t6; rintro e w7 ⟨rfl, q7, f7⟩
                   have hst := run_storeCells_new (P := Try.prog) w7 35 #[.int .i64 0, .int .i64 0] #[I 0, I 0] (by kernel_rfl) rfl (by simp [Value.oneCell'])
                   have t7 := rLen (q7.below (below_alloc w7 (.cells #[I 0, I 0] 35)))
                   have t8 := rBits (q7.below (below_alloc w7 (.cells #[I 0, I 0] 35)))
                   rw [HL.out.1] at t7
                   rw [HL.out.2] at t8
                   have HB7 : Hid (Below w.heap.size w (w7.alloc (.cells #[I 0, I 0] 35))) := ((HJ.out.1.step q7 f7 HJ.out.1.c).below (below_alloc _ _)).b
                   clear q7 f7)
                | (go_at_call 15; refine t7.mono ?_; clear t7; rintro e w8 ⟨rfl, rfl⟩)
                | (go_at_call 16; refine t8.mono ?_; clear t8; rintro e w9 ⟨rfl, rfl⟩))
              go_ret
              exact ⟨rfl, HB7.out⟩
            · have hp0 : p ≥ 0 := by omega
              clear hpn
              go_wp2
              go_loopw [17] (fun j wr => ∃ (k : Nat) (rs : List Rr), k ≤ inn.length ∧ j = .int .i64 k ∧ Hid (FI w wr Q X rs inn (.slice a3 inn.length c3) ∧ PT rs inn p k)) (fun j _ => inn.length - (intOf j).toNat)
              case atStart => exact ⟨0, rs, Nat.zero_le _, rfl, HJ.out⟩
              case round =>
                clear HJ
                obtain ⟨k, rs, hk, rfl, HK⟩ := hrel
                have hk0 : ¬ (k : Int) < 0 := by omega
                by_cases hlt : k < inn.length
                · obtain ⟨⟨q, x⟩, hx⟩ : ∃ x, inn[k]? = some x := ⟨_, List.getElem?_eq_getElem hlt⟩
                  have hkI : (k : Int) < inn.length := by omega
                  obtain ⟨g, rfl, y0, y1, hng⟩ := HK.out.1.cells hx
                  by_cases hq : q = p
                  · subst hq
                    obtain ⟨i, r, t, hi, hrp, hrl, hrj, hpt⟩ := HK.out.2.take HK.out.1.q.fall HK.out.1.c hx
                    have t6 := rTake_ok HK.out.1.q hi hrl hrj
                    rw [hrp] at t6
                    have HPT2 : Hid (PT (rs.set i ⟨r.p, r.c, r.h, t⟩) inn q (k + 1) ∧ Cov (rs.set i ⟨r.p, r.c, r.h, t⟩) inn) := ⟨hpt, HK.out.1.c.set hi rfl⟩
                    clear hi hrp hrl hrj hpt hx
                    generalize rs.set i ⟨r.p, r.c, r.h, t⟩ = rs' at *
                    go_wp2_with (first
                      | (go_at_call 12; refine t6.mono ?_; clear t6; rintro e w7 ⟨rfl, q7, f7⟩
                         have hst := run_storeCells_new (P := Try.prog) w7 35 #[.int .i64 0, .int .i64 0] #[I q, I x] (by kernel_rfl) rfl (by simp [Value.oneCell'])
                         have v0 : (w7.alloc (.cells #[I q, I x] 35)).cell? ⟨w7.heap.size, 0, none⟩ = some (I q) := (by rw [cell_of_row _ _ _ _ _ (0, 0) (heap_alloc_new w7 _)]; rfl)
                         have v1 : (w7.alloc (.cells #[I q, I x] 35)).cell? ⟨w7.heap.size, 1, none⟩ = some (I x) := (by rw [cell_of_row _ _ _ _ _ (0, 0) (heap_alloc_new w7 _)]; rfl)
                         have v2 := (f7.alloc (.cells #[I q, I x] 35)).cell y0 hng
                         have v3 := (f7.alloc (.cells #[I q, I x] 35)).cell y1 hng
                         have H7 : Hid (FI w (w7.alloc (.cells #[I q, I x] 35)) Q X rs' inn (.slice (some ⟨g, 0, none⟩) inn.length c3) ∧ PT rs' inn q (k + 1)) := ⟨(HK.out.1.step q7 f7 HPT2.out.2).below (below_alloc _ _), HPT2.out.1⟩
                         clear q7 f7 y0 y1 HK HPT2))
                    clear hst
                    generalize (w7.alloc (.cells #[I q, I x] 35)) = W at *
                    go_quiet (fail)
                    have H8 : Hid (FI w (W.drewN nq) Q X rs' inn (.slice (some ⟨g, 0, none⟩) inn.length c3) ∧ PT rs' inn q (k + 1)) := ⟨H7.out.1.below (below_drewN nq (Below.refl _ _)), H7.out.2⟩
                    clear H7 v0 v1 v2 v3
                    generalize W.drewN nq = W9 at *
                    go_wp2
                    go_roundw
                    case rel => exact ⟨k + 1, rs', by omega, by go_num, H8.out⟩
                    case measure => simp [intOf]; omega
                  · have H8 : Hid (FI w wr Q X rs inn (.slice (some ⟨g, 0, none⟩) inn.length c3) ∧ PT rs inn p (k + 1)) := ⟨HK.out.1, HK.out.2.skip hx hq⟩
                    clear HK hx
                    go_wp2
                    go_roundw
                    case rel => exact ⟨k + 1, rs, by omega, by go_num, H8.out⟩
                    case measure => simp [intOf]; omega
                · obtain rfl : k = inn.length := by omega
                  have hge : ¬ ((inn.length : Int) < inn.length) := by omega
                  have H8 : Hid (FI w wr Q X rs inn (.slice a3 inn.length c3) ∧ PT rs inn (p - 1) 0) := ⟨HK.out.1, HK.out.2.next⟩
                  clear HK
                  go_wp2
                  go_roundw
                  case rel => exact ⟨p - 1, rs, by omega, by omega, by go_num, H8.out⟩
                  case measure => simp [intOf]; omega
        · obtain ⟨v, t, ht⟩ := List.exists_cons_of_ne_nil hne
          have HN : Hid (rs[i]? = some r ∧ r.l = v :: t ∧ ∀ (j : Nat) (b : Rr), j < i → rs[j]? = some b → b.l = []) := ⟨hi, ht, hj⟩
          have hal := HI.out.1.q.allLen
          clear hi hne hj ht
          have HI2 := HI
          go_wp2_with (first
            | (go_at_call 11; refine ta.mono ?_; clear ta; rintro e w1 ⟨vb, rfl, ob, bb⟩
               have t2 := rTake_ok (HI.out.1.below bb).q HN.out.1 HN.out.2.1 HN.out.2.2
               have HF1 : Hid (FI w w1 Q X rs inn u8 ∧ PF rs inn) := ⟨HI.out.1.below bb, HI.out.2⟩
               have HOB : Hid (w1.ownsRow wr.heap.size 35 2 vb (allR rs).length (pairsC (allR rs)) ∧ ∀ g, vb.ownBlock = some g → ¬ X g) := ⟨ob, fun g e hx => by have h5 := (ob.lt g e).1; have h6 := (HI.out.1.x g hx).2; omega⟩
               clear ob bb HI)
            | (go_at_call 12; refine t2.mono ?_; clear t2; rintro e w3 ⟨rfl, q3, f3⟩
               have hst := run_storeCells_new (P := Try.prog) w3 35 #[.int .i64 0, .int .i64 0] #[I r.p, I v] (by kernel_rfl) rfl (by simp [Value.oneCell'])
               have z0 : (w3.alloc (.cells #[I r.p, I v] 35)).cell? ⟨w3.heap.size, 0, none⟩ = some (I r.p) := (by rw [cell_of_row _ _ _ _ _ (0, 0) (heap_alloc_new w3 _)]; rfl)
               have z1 : (w3.alloc (.cells #[I r.p, I v] 35)).cell? ⟨w3.heap.size, 1, none⟩ = some (I v) := (by rw [cell_of_row _ _ _ _ _ (0, 0) (heap_alloc_new w3 _)]; rfl)
               have t3 := fBack HF1.out.1.q HN.out.1 HN.out.2.1 (q3.below (below_alloc w3 (.cells #[I r.p, I v] 35)))
               have HZ : Hid (Fz X w1 (w3.alloc (.cells #[I r.p, I v] 35))) := f3.alloc _
               clear q3 f3)
            | (go_at_call 13; refine t3.mono ?_; clear t3; rintro e w4 ⟨rfl, q4, f4⟩
               have HF4 : Hid (FI w w4 Q X rs inn u8 ∧ PF rs inn) := ⟨HF1.out.1.step q4 (HZ.out.trans f4) HF1.out.1.c, HF1.out.2⟩
               have HO4 : Hid (w4.ownsRow wr.heap.size 35 2 vb (allR rs).length (pairsC (allR rs))) := (HZ.out.trans f4).own HOB.out.1 HOB.out.2
               have t4 := rAll q4
               clear q4 f4 HF1 HOB HZ z0 z1 hst)
            | (go_at_call 11; refine t4.mono ?_; clear t4; rintro e w5 ⟨vc, rfl, oc, bc⟩
               have t5 := qqueued_any w5 _ _ vc vb _ hal oc (own_below HO4.out bc)
               have HF5 : Hid (FI w w5 Q X rs inn u8 ∧ PF rs inn) := ⟨HF4.out.1.below bc, HF4.out.2⟩
               clear oc bc HF4 HO4)
            | (go_at_call 14; refine t5.mono ?_; clear t5; rintro e w6 ⟨rfl, b6⟩
               have HI9 : Hid (FI w w6 Q X rs inn u8 ∧ PF rs inn) := ⟨HF5.out.1.below b6, HF5.out.2⟩
               clear b6 HF5))
          have HPT : Hid (PT rs inn 63 0) := PT.first HI9.out.2 (fun i r hi => (HI9.out.1.q.p64 i r hi).1)
          obtain ⟨a3, c3, e3⟩ := own_sl2 HI9.out.1.o
          subst e3
          go_loopw [16] (fun j wr => ∃ (p : Int) (rs : List Rr), -1 ≤ p ∧ p ≤ 63 ∧ j = .int .i64 p ∧ Hid (FI w wr Q X rs inn (.slice a3 inn.length c3) ∧ PT rs inn p 0)) (fun j _ => (intOf j + 1).toNat)
          case atStart => exact ⟨63, rs, by decide, by decide, rfl, HI9.out.1, HPT.out⟩
          case round =>
            clear HI9 HPT
            obtain ⟨p, rs, hp1, hp2, rfl, HJ⟩ := hrel
            by_cases hpn : p = -1
            · subst hpn
              have HN9 := HJ.out.2.last
              have t6 := rTake_no HJ.out.1.q HN9
              have HL : Hid ((allR rs).length = 0 ∧ bitsR 0 rs = 0) := ⟨by rw [allR_nil HN9]; rfl, bitsR_nil rs HN9⟩
              clear HN9
              go_wp2_with (first
                | (go_at_call 12; refine t6.mono ?_; clear t6; rintro e w7 ⟨rfl, q7, f7⟩
                   have hst := run_storeCells_new (P := Try.prog) w7 35 #[.int .i64 0, .int .i64 0] #[I 0, I 0] (by kernel_rfl) rfl (by simp [Value.oneCell'])
                   have t7 := rLen (q7.below (below_alloc w7 (.cells #[I 0, I 0] 35)))
                   have t8 := rBits (q7.below (below_alloc w7 (.cells #[I 0, I 0] 35)))
                   rw [HL.out.1] at t7
                   rw [HL.out.2] at t8
                   have HB7 : Hid (Below w.heap.size w (w7.alloc (.cells #[I 0, I 0] 35))) := ((HJ.out.1.step q7 f7 HJ.out.1.c).below (below_alloc _ _)).b
                   clear q7 f7)
                | (go_at_call 15; refine t7.mono ?_; clear t7; rintro e w8 ⟨rfl, rfl⟩)
                | (go_at_call 16; refine t8.mono ?_; clear t8; rintro e w9 ⟨rfl, rfl⟩))
              go_ret
              exact ⟨rfl, HB7.out⟩
            · have hp0 : p ≥ 0 := by omega
              clear hpn
              go_wp2
              go_loopw [17] (fun j wr => ∃ (k : Nat) (rs : List Rr), k ≤ inn.length ∧ j = .int .i64 k ∧ Hid (FI w wr Q X rs inn (.slice a3 inn.length c3) ∧ PT rs inn p k)) (fun j _ => inn.length - (intOf j).toNat)
              case atStart => exact ⟨0, rs, Nat.zero_le _, rfl, HJ.out⟩
              case round =>
                clear HJ
                obtain ⟨k, rs, hk, rfl, HK⟩ := hrel
                have hk0 : ¬ (k : Int) < 0 := by omega
                by_cases hlt : k < inn.length
                · obtain ⟨⟨q, x⟩, hx⟩ : ∃ x, inn[k]? = some x := ⟨_, List.getElem?_eq_getElem hlt⟩
                  have hkI : (k : Int) < inn.length := by omega
                  obtain ⟨g, rfl, y0, y1, hng⟩ := HK.out.1.cells hx
                  by_cases hq : q = p
                  · subst hq
                    obtain ⟨i, r, t, hi, hrp, hrl, hrj, hpt⟩ := HK.out.2.take HK.out.1.q.fall HK.out.1.c hx
                    have t6 := rTake_ok HK.out.1.q hi hrl hrj
                    rw [hrp] at t6
                    have HPT2 : Hid (PT (rs.set i ⟨r.p, r.c, r.h, t⟩) inn q (k + 1) ∧ Cov (rs.set i ⟨r.p, r.c, r.h, t⟩) inn) := ⟨hpt, HK.out.1.c.set hi rfl⟩
                    clear hi hrp hrl hrj hpt hx
                    generalize rs.set i ⟨r.p, r.c, r.h, t⟩ = rs' at *
                    go_wp2_with (first
                      | (go_at_call 12; refine t6.mono ?_; clear t6; rintro e w7 ⟨rfl, q7, f7⟩
                         have hst := run_storeCells_new (P := Try.prog) w7 35 #[.int .i64 0, .int .i64 0] #[I q, I x] (by kernel_rfl) rfl (by simp [Value.oneCell'])
                         have v0 : (w7.alloc (.cells #[I q, I x] 35)).cell? ⟨w7.heap.size, 0, none⟩ = some (I q) := (by rw [cell_of_row _ _ _ _ _ (0, 0) (heap_alloc_new w7 _)]; rfl)
                         have v1 : (w7.alloc (.cells #[I q, I x] 35)).cell? ⟨w7.heap.size, 1, none⟩ = some (I x) := (by rw [cell_of_row _ _ _ _ _ (0, 0) (heap_alloc_new w7 _)]; rfl)
                         have v2 := (f7.alloc (.cells #[I q, I x] 35)).cell y0 hng
                         have v3 := (f7.alloc (.cells #[I q, I x] 35)).cell y1 hng
                         have H7 : Hid (FI w (w7.alloc (.cells #[I q, I x] 35)) Q X rs' inn (.slice (some ⟨g, 0, none⟩) inn.length c3) ∧ PT rs' inn q (k + 1)) := ⟨(HK.out.1.step q7 f7 HPT2.out.2).below (below_alloc _ _), HPT2.out.1⟩
                         clear q7 f7 y0 y1 HK HPT2))
                    clear hst
                    generalize (w7.alloc (.cells #[I q, I x] 35)) = W at *
                    go_quiet (fail)
                    have H8 : Hid (FI w (W.drewN nq) Q X rs' inn (.slice (some ⟨g, 0, none⟩) inn.length c3) ∧ PT rs' inn q (k + 1)) := ⟨H7.out.1.below (below_drewN nq (Below.refl _ _)), H7.out.2⟩
                    clear H7 v0 v1 v2 v3
                    generalize W.drewN nq = W9 at *
                    go_wp2
                    go_roundw
                    case rel => exact ⟨k + 1, rs', by omega, by go_num, H8.out⟩
                    case measure => simp [intOf]; omega
                  · have H8 : Hid (FI w wr Q X rs inn (.slice (some ⟨g, 0, none⟩) inn.length c3) ∧ PT rs inn p (k + 1)) := ⟨HK.out.1, HK.out.2.skip hx hq⟩
                    clear HK hx
                    go_wp2
                    go_roundw
                    case rel => exact ⟨k + 1, rs, by omega, by go_num, H8.out⟩
                    case measure => simp [intOf]; omega
                · obtain rfl : k = inn.length := by omega
                  have hge : ¬ ((inn.length : Int) < inn.length) := by omega
                  have H8 : Hid (FI w wr Q X rs inn (.slice a3 inn.length c3) ∧ PT rs inn (p - 1) 0) := ⟨HK.out.1, HK.out.2.next⟩
                  clear HK
                  go_wp2
                  go_roundw
                  case rel => exact ⟨p - 1, rs, by omega, by omega, by go_num, H8.out⟩
                  case measure => simp [intOf]; omega
end Go.Proofs.Yticgikbnlpgnkaa
