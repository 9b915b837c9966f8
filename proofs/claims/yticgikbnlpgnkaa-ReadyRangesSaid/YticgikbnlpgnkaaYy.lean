import Derived.Test.YticgikbnlpgnkaaYx
namespace Go.Proofs.Yticgikbnlpgnkaa
open Go.RowKit
set_option linter.unusedVariables false
set_option linter.unusedSimpArgs false

/-! ### tells -/
theorem own_setB {w : World} {b E n g c i : Nat} {u : Value} {xs : List Value} (h : w.ownsRow b E 1 (.slice (some ⟨g, 0, none⟩) n c) n xs) (hi : i < n) : (w.setCell ⟨g, i, none⟩ u).ownsRow b E 1 (.slice (some ⟨g, 0, none⟩) n c) n (xs.set i u) := by
  obtain ⟨hl, ⟨h0, _⟩ | ⟨g', cap, cur, hv, hb, hh, h1, h2, h3, h4⟩⟩ := h
  · cases h0
  · cases hv
    refine ⟨by simpa using hl, .inr ⟨g, c, _, rfl, hb, heap_setCell_same w g i _ _ u hh, h1, h2, by simpa using h3, ?_⟩⟩
    rw [Array.toList_setIfInBounds, ← h4, List.take_set]
theorem own_atB {w : World} {b E n : Nat} {v : Value} {xs : List Value} (h : w.ownsRow b E 1 v n xs) {i : Nat} (hi : i < n) : ∃ g c u, v = .slice (some ⟨g, 0, none⟩) n c ∧ b ≤ g ∧ w.cell? ⟨g, i, none⟩ = some u ∧ w.frozen? ⟨g, i, none⟩ = false := by
  have hxs : i < xs.length := by have := h.1; omega
  obtain ⟨u, hu⟩ : ∃ u, xs[i]? = some u := ⟨_, List.getElem?_eq_getElem hxs⟩
  obtain ⟨g, c, h1, h2, h3⟩ := own_at1 (own_base h (Nat.zero_le _)) hu
  refine ⟨g, c, u, h1, ?_, h2, h3 i⟩
  exact (h.lt g (by rw [h1]; rfl)).1
set_option maxRecDepth 100000 in
set_option maxHeartbeats 8000000 in
theorem qtells_any {w : World} {Q D : Nat} {X Y : Nat → Prop} {rs : List Rr} (h : Cp w Q D X Y rs) (extra : Int) : Calls Try.prog 22 #[qP Q, dQ D, I extra] w fun e w' => e = .returned (.bool true) ∧ Below w.heap.size w w' := by
  obtain ⟨i0, hi0, hz0, hz1, hz2⟩ := info_parts iinfo
  obtain ⟨ha, hb, hp, hdh⟩ := bothHighest h
  have HH : Hid (Cp w Q D X Y rs) := h
  have hal := h.q.allLen
  have t1 := hp w (Below.refl _ _)
  have t2 := hdh w (Below.refl _ _)
  have t3 := rAll h.q
  clear hp hdh h
  have HAL : Hid ((allR rs).length ≤ 4194304) := hal
  go_enter Try.func22, Try.ntmps22
  go_wp2_with (first
    | (go_at_call 30; refine t1.mono ?_; clear t1; rintro e w9 ⟨rfl, rfl⟩)
    | (go_at_call 41; refine t2.mono ?_; clear t2; rintro e w9 ⟨rfl, rfl⟩)
    | (go_at_call 11; refine t3.mono ?_; clear t3; rintro e w1 ⟨v1, rfl, o1, b1⟩; have t4 := eAllC (HH.out.below b1))
    | (go_at_call 18; refine t4.mono ?_; clear t4; rintro e w2 ⟨v2, rfl, o2, b2⟩; have t5 := qqueued_any w2 _ _ v1 v2 (allR rs) HAL.out (own_below o1 b2) o2; have b12 := b1.trans (b2.mono b1.size); clear o1 o2 b1 b2)
    | (go_at_call 14; refine t5.mono ?_; clear t5; rintro e w3 ⟨rfl, b3⟩; have b13 := b12.trans (b3.mono b12.size); clear b12 b3; have h3 := HH.out.below b13; have t6 := rBits h3.q; have t7 := eBits h3; have t8 := rLen h3.q; have t9 := eAllC h3; clear h3)
    | (go_at_call 16; refine t6.mono ?_; clear t6; rintro e w9 ⟨rfl, rfl⟩)
    | (go_at_call 45; refine t7.mono ?_; clear t7; rintro e w9 ⟨rfl, rfl⟩)
    | (go_at_call 15; refine t8.mono ?_; clear t8; rintro e w9 ⟨rfl, rfl⟩)
    | (go_at_call 18; refine t9.mono ?_; clear t9; rintro e w4 ⟨v4, rfl, o4, b4⟩; obtain ⟨va, vc, rfl⟩ := own_sl2 o4; have b14 := b13.trans (b4.mono b13.size); clear o4 b13 b4))
  have HB4 : Hid (Below w.heap.size w w4) := b14
  clear b14 hal
  go_loopw [12] (fun j wr => ∃ k : Int, -1 ≤ k ∧ k ≤ 66 ∧ j = .int .i64 k ∧ Hid (Below w.heap.size w wr)) (fun j _ => (66 - intOf j).toNat)
  case atStart => exact ⟨-1, by omega, by omega, rfl, HB4.out⟩
  case round =>
    clear HB4
    obtain ⟨k, hk1, hk2, rfl, HB⟩ := hrel
    by_cases hlt : k < 66
    · have hrng : -1 ≤ k ∧ k ≤ 65 := by omega
      have hcr := HH.out.below HB.out
      by_cases h65 : k = 65
      · subst h65
        have t1 := pRing hcr extra
        have hlen := lsR_len hcr extra
        have HCR : Hid (Cp wr Q D X Y rs) := hcr
        clear hcr
        go_wp2_with (first
          | (go_at_call 43; refine t1.mono ?_; clear t1; rintro e w1 ⟨v1, rfl, o1, b1⟩
             obtain ⟨⟨sa1, sn1, sc1⟩, e1, r1, _⟩ := own_in o1 rfl
             have e1' : v1 = .slice sa1 sn1 sc1 := e1
             clear e1
             subst e1'
             have hs1 : sn1 = (lsR rs extra).length := r1.n
             subst hs1
             have c1 := HCR.out.below b1
             have t2 := eRing c1 extra
             have HO : Hid (w1.ownsRow wr.heap.size 3 1 (.slice sa1 (lsR rs extra).length sc1) (lsR rs extra).length (intsV (lsR rs extra)) ∧ Below wr.heap.size wr w1 ∧ RowsAt w1 1 inP ⟨sa1, (lsR rs extra).length, sc1⟩ (lsR rs extra)) := ⟨o1, b1, r1⟩
             clear o1 r1 b1 c1)
          | (go_at_call 47; refine t2.mono ?_; clear t2; rintro e w9 ⟨s2, rfl, r2, rfl⟩
             have t3 := qints_any w1 ⟨sa1, (lsR rs extra).length, sc1⟩ s2 (lsR rs extra) hlen HO.out.2.2 r2
             clear r2)
          | (go_at_call 46; refine t3.mono ?_; clear t3; rintro e w2 ⟨rfl, b2⟩
             have c2 := (HCR.out.below HO.out.2.1).below b2
             have t4 := pHigh c2 extra
             have t5 := eMost c2 extra
             have HP : Hid (w2.ownsRow wr.heap.size 3 1 (.slice sa1 (lsR rs extra).length sc1) (lsR rs extra).length (intsV (lsR rs extra)) ∧ Below wr.heap.size wr w2) := ⟨own_below HO.out.1 b2, HO.out.2.1.trans (b2.mono HO.out.2.1.size)⟩
             clear HO b2 c2)
          | (go_at_call 44; refine t4.mono ?_; clear t4; rintro e w9 ⟨rfl, rfl⟩)
          | (go_at_call 48; refine t5.mono ?_; clear t5; rintro e w9 ⟨rfl, rfl⟩))
        clear HCR
        have HP2 : Hid (w2.ownsRow wr.heap.size 3 1 (.slice sa1 (lsR rs extra).length sc1) (lsR rs extra).length (intsV (lsR rs extra)) ∧ Below w.heap.size w w2 ∧ wr.heap.size ≤ w2.heap.size) := ⟨HP.out.1, HB.out.trans (HP.out.2.mono HB.out.size), HP.out.2.size⟩
        have hb0 : w.heap.size ≤ wr.heap.size := HB.out.size
        clear HP HB
        generalize (intsV (lsR rs extra)) = xs0 at HP2
        generalize (lsR rs extra).length = m at *
        generalize wr.heap.size = b0 at *
        go_loopw [16] (fun j wr' => ∃ (i : Nat) (xs : List Value), i ≤ m ∧ j = .int .i64 i ∧ Hid (wr'.ownsRow b0 3 1 (.slice sa1 m sc1) m xs ∧ Below w.heap.size w wr' ∧ b0 ≤ wr'.heap.size)) (fun j _ => m - (intOf j).toNat)
        case atStart => exact ⟨0, xs0, Nat.zero_le _, rfl, HP2.out⟩
        case round =>
          clear HP2
          obtain ⟨i, xs, hi, rfl, HQ⟩ := hrel
          have hii0 : ¬ (i : Int) < 0 := by omega
          by_cases him : i < m
          · obtain ⟨g, c, u, e9, hg, hc, hz⟩ := own_atB HQ.out.1 him
            cases e9
            have hiI : (i : Int) < m := by omega
            have H9 : Hid ((wr.setCell ⟨g, i, none⟩ (I (-9))).ownsRow b0 3 1 (.slice (some ⟨g, 0, none⟩) m sc1) m (xs.set i (I (-9))) ∧ Below w.heap.size w (wr.setCell ⟨g, i, none⟩ (I (-9))) ∧ b0 ≤ (wr.setCell ⟨g, i, none⟩ (I (-9))).heap.size) := ⟨own_setB HQ.out.1 him, HQ.out.2.1.setCell (p := ⟨g, i, none⟩) (by show w.heap.size ≤ g; omega) _, by rw [World.size_setCell]; exact HQ.out.2.2⟩
            clear HQ
            go_wp2
            go_roundw
            case rel => exact ⟨i + 1, _, by omega, by go_num, H9.out⟩
            case measure => simp [intOf]; omega
          · obtain rfl : i = m := by omega
            have hge : ¬ ((i : Int) < i) := by omega
            go_wp2
            go_loopw [14, 17] (fun v j wr' => ∃ (q : Nat) (xs : List Value), q ≤ 20 ∧ j = .int .i64 q ∧ Hid (wr'.ownsRow b0 3 1 v (i + q) xs ∧ Below w.heap.size w wr' ∧ b0 ≤ wr'.heap.size)) (fun _ j _ => 20 - (intOf j).toNat)
            case atStart => exact ⟨0, xs, by omega, rfl, HQ.out⟩
            case round =>
              clear HQ
              obtain ⟨q, ys, hq, rfl, HR⟩ := hrel
              by_cases hq2 : q < 20
              · have hqI : (q : Int) < 20 := by omega
                have hown := HR.out.1
                have hbb := HR.out.2.1
                have hbs := hbb.size
                have hbb0 : b0 ≤ wr.heap.size := HR.out.2.2
                go_wp2_with (first
                  | (at_builtin; refine wpList_append_own _ rfl _ _ 76 rfl b0 3 i0 (.int .i64 0) 1 8 Try.underlying76 hi0 hz0 hz1 hz2 rfl (by decide) _ _ _ rfl (hown.alloc _) ⟨wr.heap.size, 0, none⟩ 1 1 [I (-9)] rfl rfl (cell_one_new _ _ _) (by simp [Value.oneCell']) (by unfold maxLen; omega) (by omega) (by simp; omega) ?_
                     intro v3 w3 h3 hg3 hn3
                     have b3 : Below w.heap.size w w3 := (hbb.alloc hbs _).grown hg3 (by simp; omega) (fun k e => Nat.le_trans hb0 (hown.lt k e).1)
                     have H8 : Hid (w3.ownsRow b0 3 1 v3 (i + q + 1) (ys ++ [I (-9)]) ∧ Below w.heap.size w w3 ∧ b0 ≤ w3.heap.size) := ⟨h3, b3, by have := hg3.size; simp at this; omega⟩
                     clear h3 b3 hg3 hn3))
                clear hown hbb HR
                go_roundw
                case rel => exact ⟨q + 1, _, by omega, by go_num, by rw [← Nat.add_assoc]; exact H8.out⟩
                case measure => simp [intOf]; omega
              · obtain rfl : q = 20 := by omega
                have H7 : Hid (Below w.heap.size w wr) := HR.out.2.1
                clear HR
                go_wp2
                go_roundw
                case rel => exact ⟨66, by omega, by omega, by first | rfl | go_num, H7.out⟩
                case measure => first | (simp [intOf]; done) | (simp [intOf]; omega)
      · have t1 := pRing hcr k
        have hlen := lsR_len hcr k
        have HCR : Hid (Cp wr Q D X Y rs) := hcr
        clear hcr
        go_wp2_with (first
          | (go_at_call 43; refine t1.mono ?_; clear t1; rintro e w1 ⟨v1, rfl, o1, b1⟩
             obtain ⟨⟨sa1, sn1, sc1⟩, e1, r1, _⟩ := own_in o1 rfl
             have e1' : v1 = .slice sa1 sn1 sc1 := e1
             clear e1
             subst e1'
             have hs1 : sn1 = (lsR rs k).length := r1.n
             subst hs1
             have c1 := HCR.out.below b1
             have t2 := eRing c1 k
             have HO : Hid (w1.ownsRow wr.heap.size 3 1 (.slice sa1 (lsR rs k).length sc1) (lsR rs k).length (intsV (lsR rs k)) ∧ Below wr.heap.size wr w1 ∧ RowsAt w1 1 inP ⟨sa1, (lsR rs k).length, sc1⟩ (lsR rs k)) := ⟨o1, b1, r1⟩
             clear o1 r1 b1 c1)
          | (go_at_call 47; refine t2.mono ?_; clear t2; rintro e w9 ⟨s2, rfl, r2, rfl⟩
             have t3 := qints_any w1 ⟨sa1, (lsR rs k).length, sc1⟩ s2 (lsR rs k) hlen HO.out.2.2 r2
             clear r2)
          | (go_at_call 46; refine t3.mono ?_; clear t3; rintro e w2 ⟨rfl, b2⟩
             have c2 := (HCR.out.below HO.out.2.1).below b2
             have t4 := pHigh c2 k
             have t5 := eMost c2 k
             have HP : Hid (w2.ownsRow wr.heap.size 3 1 (.slice sa1 (lsR rs k).length sc1) (lsR rs k).length (intsV (lsR rs k)) ∧ Below wr.heap.size wr w2) := ⟨own_below HO.out.1 b2, HO.out.2.1.trans (b2.mono HO.out.2.1.size)⟩
             clear HO b2 c2)
          | (go_at_call 44; refine t4.mono ?_; clear t4; rintro e w9 ⟨rfl, rfl⟩)
          | (go_at_call 48; refine t5.mono ?_; clear t5; rintro e w9 ⟨rfl, rfl⟩))
        clear HCR
        have HP2 : Hid (w2.ownsRow wr.heap.size 3 1 (.slice sa1 (lsR rs k).length sc1) (lsR rs k).length (intsV (lsR rs k)) ∧ Below w.heap.size w w2 ∧ wr.heap.size ≤ w2.heap.size) := ⟨HP.out.1, HB.out.trans (HP.out.2.mono HB.out.size), HP.out.2.size⟩
        have hb0 : w.heap.size ≤ wr.heap.size := HB.out.size
        clear HP HB
        generalize (intsV (lsR rs k)) = xs0 at HP2
        generalize (lsR rs k).length = m at *
        generalize wr.heap.size = b0 at *
        go_loopw [16] (fun j wr' => ∃ (i : Nat) (xs : List Value), i ≤ m ∧ j = .int .i64 i ∧ Hid (wr'.ownsRow b0 3 1 (.slice sa1 m sc1) m xs ∧ Below w.heap.size w wr' ∧ b0 ≤ wr'.heap.size)) (fun j _ => m - (intOf j).toNat)
        case atStart => exact ⟨0, xs0, Nat.zero_le _, rfl, HP2.out⟩
        case round =>
          clear HP2
          obtain ⟨i, xs, hi, rfl, HQ⟩ := hrel
          have hii0 : ¬ (i : Int) < 0 := by omega
          by_cases him : i < m
          · obtain ⟨g, c, u, e9, hg, hc, hz⟩ := own_atB HQ.out.1 him
            cases e9
            have hiI : (i : Int) < m := by omega
            have H9 : Hid ((wr.setCell ⟨g, i, none⟩ (I (-9))).ownsRow b0 3 1 (.slice (some ⟨g, 0, none⟩) m sc1) m (xs.set i (I (-9))) ∧ Below w.heap.size w (wr.setCell ⟨g, i, none⟩ (I (-9))) ∧ b0 ≤ (wr.setCell ⟨g, i, none⟩ (I (-9))).heap.size) := ⟨own_setB HQ.out.1 him, HQ.out.2.1.setCell (p := ⟨g, i, none⟩) (by show w.heap.size ≤ g; omega) _, by rw [World.size_setCell]; exact HQ.out.2.2⟩
            clear HQ
            go_wp2
            go_roundw
            case rel => exact ⟨i + 1, _, by omega, by go_num, H9.out⟩
            case measure => simp [intOf]; omega
          · obtain rfl : i = m := by omega
            have hge : ¬ ((i : Int) < i) := by omega
            go_wp2
            go_loopw [14, 17] (fun v j wr' => ∃ (q : Nat) (xs : List Value), q ≤ 20 ∧ j = .int .i64 q ∧ Hid (wr'.ownsRow b0 3 1 v (i + q) xs ∧ Below w.heap.size w wr' ∧ b0 ≤ wr'.heap.size)) (fun _ j _ => 20 - (intOf j).toNat)
            case atStart => exact ⟨0, xs, by omega, rfl, HQ.out⟩
            case round =>
              clear HQ
              obtain ⟨q, ys, hq, rfl, HR⟩ := hrel
              by_cases hq2 : q < 20
              · have hqI : (q : Int) < 20 := by omega
                have hown := HR.out.1
                have hbb := HR.out.2.1
                have hbs := hbb.size
                have hbb0 : b0 ≤ wr.heap.size := HR.out.2.2
                go_wp2_with (first
                  | (at_builtin; refine wpList_append_own _ rfl _ _ 76 rfl b0 3 i0 (.int .i64 0) 1 8 Try.underlying76 hi0 hz0 hz1 hz2 rfl (by decide) _ _ _ rfl (hown.alloc _) ⟨wr.heap.size, 0, none⟩ 1 1 [I (-9)] rfl rfl (cell_one_new _ _ _) (by simp [Value.oneCell']) (by unfold maxLen; omega) (by omega) (by simp; omega) ?_
                     intro v3 w3 h3 hg3 hn3
                     have b3 : Below w.heap.size w w3 := (hbb.alloc hbs _).grown hg3 (by simp; omega) (fun k e => Nat.le_trans hb0 (hown.lt k e).1)
                     have H8 : Hid (w3.ownsRow b0 3 1 v3 (i + q + 1) (ys ++ [I (-9)]) ∧ Below w.heap.size w w3 ∧ b0 ≤ w3.heap.size) := ⟨h3, b3, by have := hg3.size; simp at this; omega⟩
                     clear h3 b3 hg3 hn3))
                clear hown hbb HR
                go_roundw
                case rel => exact ⟨q + 1, _, by omega, by go_num, by rw [← Nat.add_assoc]; exact H8.out⟩
                case measure => simp [intOf]; omega
              · obtain rfl : q = 20 := by omega
                have H7 : Hid (Below w.heap.size w wr) := HR.out.2.1
                clear HR
                go_wp2
                go_roundw
                case rel => exact ⟨k + 1, by omega, by omega, by first | rfl | go_num, H7.out⟩
                case measure => first | (simp [intOf]; done) | (simp [intOf]; omega)
    · obtain rfl : k = 66 := by omega
      go_wp2
      go_ret
      exact ⟨rfl, HB.out⟩
end Go.Proofs.Yticgikbnlpgnkaa
