import Derived.Test.YtpoekphebmonnabUzi
namespace Go.Proofs.Ytpoekphebmonnab
open Go.RowKit Go.Shelf Go.Sort
set_option linter.unusedVariables false
set_option linter.unusedSimpArgs false

set_option maxHeartbeats 8000000 in
set_option maxRecDepth 100000 in
theorem apart_no (W : World) (s : ByteArray) (mx bs mn : Nat) (x y : Value) (hn : mayC mx mn = false) : Calls Try.prog 3 #[.agg #[.string s, U mx, U bs, U mn], x, y] W fun e w' => e = .returned (.bool true) ∧ Below W.heap.size W w' := by
  have h1 := fun w n => New_no w s mx bs mn n (by simp [newB, hn])
  have h2 := fun w n => dNew_no w s mx bs mn n (by simp [newB, hn])
  have HC : Hid (∀ Z, Below (W.alloc (.cells #[.string s, U mx, U bs, U mn] 24)).heap.size (W.alloc (.cells #[.string s, U mx, U bs, U mn] 24)) Z → _) := ctr_four W s mx bs mn
  have HB : Hid (Below W.heap.size W (W.alloc (.cells #[.string s, U mx, U bs, U mn] 24))) := below_alloc _ _
  have HS : Hid (W.heap.size ≤ (W.alloc (.cells #[.string s, U mx, U bs, U mn] 24)).heap.size) := HB.out.size
  clear hn
  go_enter Try.func3, Try.ntmps3
  go_upto_region 2 with (go_at_call 4; refine (h1 _ _).mono ?_; rintro e w1 ⟨rfl, b1⟩; obtain ⟨q0, q1, q2, q3⟩ := HC.out w1 b1; have H1 : Hid (Below _ _ w1) := b1; clear b1)
  clear q0 q1 q2 q3
  obtain ⟨q0, q1, q2, q3⟩ := HC.out w1 H1.out
  go_upto_region 3 with (go_at_call 4; refine (h1 _ _).mono ?_; rintro e w2 ⟨rfl, b2⟩; have H2 : Hid (Below _ _ w2) := H1.out.trans (b2.mono H1.out.size); clear b2)
  clear q0 q1 q2 q3
  obtain ⟨q0, q1, q2, q3⟩ := HC.out w2 H2.out
  go_upto_region 4 with (go_at_call 5; refine (h2 _ _).mono ?_; rintro e w3 ⟨D, rfl, -, -, b3⟩; have H3 : Hid (Below _ _ w3) := H2.out.trans (b3.mono H2.out.size); clear b3)
  clear q0 q1 q2 q3
  obtain ⟨q0, q1, q2, q3⟩ := HC.out w3 H3.out
  go_upto_region 5 with (go_at_call 5; refine (h2 _ _).mono ?_; rintro e w4 ⟨D2, rfl, -, -, b4⟩; have H4 : Hid (Below _ _ w4) := H3.out.trans (b4.mono H3.out.size); clear b4)
  clear q0 q1 q2 q3 HC
  go_wp2_with (go_at_call 6; refine (alive_any _).mono ?_; rintro e w7 ⟨rfl, b7⟩)
  go_ret
  exact ⟨rfl, HB.out.trans ((H4.out.trans (b7.mono H4.out.size)).mono HS.out)⟩
set_option maxHeartbeats 16000000 in
set_option maxRecDepth 100000 in
theorem apart_ok (W : World) (s : ByteArray) (mx bs mn : Nat) (ss tt : Sl) (l l2 : List Cl) (hl : RowsAt W 4 actP ss l) (hll : l.length ≤ 5864062014805) (hl2 : RowsAt W 4 actP tt l2) (hll2 : l2.length ≤ 5864062014805) (hn : mayC mx mn = true) : Calls Try.prog 3 #[.agg #[.string s, U mx, U bs, U mn], .slice ss.a ss.n ss.c, .slice tt.a tt.n tt.c] W fun e w' => e = .returned (.bool true) ∧ Below W.heap.size W w' := by
  obtain ⟨a1, n1, c1⟩ := ss
  have hn1 := hl.n
  simp only at hn1
  subst hn1
  obtain ⟨a2, n2, c2⟩ := tt
  have hn2 := hl2.n
  simp only at hn2
  subst hn2
  have h1 : ∀ w, Calls Try.prog 4 #[.agg #[.string s, U mx, U bs, U mn], I 3] w _ := fun w => New_ok w s mx bs mn 3 (by simp [newB, hn])
  have h2 : ∀ w, Calls Try.prog 4 #[.agg #[.string s, U mx, U bs, U mn], I 2] w _ := fun w => New_ok w s mx bs mn 2 (by simp [newB, hn])
  have h3 : ∀ w, Calls Try.prog 5 #[.agg #[.string s, U mx, U bs, U mn], I 3] w _ := fun w => dNew_ok w s mx bs mn 3 (by simp [newB, hn])
  have h4 : ∀ w, Calls Try.prog 5 #[.agg #[.string s, U mx, U bs, U mn], I 2] w _ := fun w => dNew_ok w s mx bs mn 2 (by simp [newB, hn])
  have HC : Hid (∀ Z, Below (W.alloc (.cells #[.string s, U mx, U bs, U mn] 24)).heap.size (W.alloc (.cells #[.string s, U mx, U bs, U mn] 24)) Z → _) := ctr_four W s mx bs mn
  have HB : Hid (Below W.heap.size W (W.alloc (.cells #[.string s, U mx, U bs, U mn] 24))) := below_alloc _ _
  clear hn
  go_enter Try.func3, Try.ntmps3
  go_upto_region 2 with (go_at_call 4; refine (h1 _).mono ?_; rintro e w1 ⟨B, v, rfl, k1, o1, b1⟩; have HK1 : Hid (_ ∧ _ ∧ _) := ⟨k1, o1, b1⟩; clear k1 o1 b1)
  obtain ⟨q0, q1, q2, q3⟩ := HC.out w1 HK1.out.2.2
  have H1 : Hid (Below _ _ w1) := HK1.out.2.2
  go_upto_region 3 with (go_at_call 4; refine (h2 _).mono ?_; rintro e w2 ⟨B2, v2, rfl, k1, o1, b1⟩; have HK2 : Hid (_ ∧ _ ∧ _) := ⟨k1, o1, b1⟩; clear k1 o1 b1)
  clear q0 q1 q2 q3
  have H2 : Hid (Below _ _ w2) := H1.out.trans (HK2.out.2.2.mono H1.out.size)
  obtain ⟨q0, q1, q2, q3⟩ := HC.out w2 H2.out
  go_upto_region 4 with (go_at_call 5; refine (h3 _).mono ?_; rintro e w3 ⟨D, u, rfl, k1, o1, b1⟩; have HK3 : Hid (_ ∧ _ ∧ _) := ⟨k1, o1, b1⟩; clear k1 o1 b1)
  clear q0 q1 q2 q3
  have H3 : Hid (Below _ _ w3) := H2.out.trans (HK3.out.2.2.mono H2.out.size)
  obtain ⟨q0, q1, q2, q3⟩ := HC.out w3 H3.out
  go_upto_region 5 with (go_at_call 5; refine (h4 _).mono ?_; rintro e w4 ⟨D2, u2, rfl, k1, o1, b1⟩; have HK4 : Hid (_ ∧ _ ∧ _) := ⟨k1, o1, b1⟩; clear k1 o1 b1)
  have HD : Hid (Duo W w4 s mx bs mn B v D u 0 (List.replicate 3 (0, 0)) B2 v2 D2 u2 0 (List.replicate 2 (0, 0))) := Duo.mk0 HB.out HK1.out.1 HK1.out.2.1 HK1.out.2.2 HK2.out.1 HK2.out.2.1 HK2.out.2.2 HK3.out.1 HK3.out.2.1 HK3.out.2.2 HK4.out.1 HK4.out.2.1 HK4.out.2.2
  clear q0 q1 q2 q3 HC HB H1 H2 H3 HK1 HK2 HK3 HK4 h1 h2 h3 h4
  generalize List.replicate 3 ((0, 0) : Alm) = al0 at *
  generalize List.replicate 2 ((0, 0) : Alm) = al1 at *
  go_wp2
  go_loopw [15] (fun v15 wr => ∃ (i V V2 : Nat) (u u2 : Value) (al al2 : List Alm), (i ≤ l.length ∨ i ≤ l2.length) ∧ v15 = I i ∧ Hid (Duo W wr s mx bs mn B v D u V al B2 v2 D2 u2 V2 al2)) (fun v15 _ => l.length + l2.length - (intOf v15).toNat)
  case atStart => exact ⟨0, 0, 0, u, u2, al0, al1, by omega, rfl, HD.out⟩
  case round =>
    clear HD
    obtain ⟨i, V, V2, u, u2, al, al2, hi, rfl, HJ⟩ := hrel
    have HIB : Hid (i ≤ 5864062014805) := by show _ ≤ _; omega
    by_cases hlt : i < l.length
    · have hltI : (i : Int) < l.length := by omega
      obtain ⟨⟨kd, tk, x, y⟩, hx⟩ : ∃ x, l[i]? = some x := ⟨_, List.getElem?_eq_getElem hlt⟩
      obtain ⟨ga, off, rfl, bx, by', hcx⟩ := acts_cell hl hx
      obtain ⟨x0, x1, x2, x3⟩ := hcx wr HJ.out.p.b
      clear hcx hx
      by_cases hlt2 : i < l2.length
      · have hltI2 : (i : Int) < l2.length := by omega
        obtain ⟨⟨kd2, tk2, X, Y⟩, hx2⟩ : ∃ x, l2[i]? = some x := ⟨_, List.getElem?_eq_getElem hlt2⟩
        obtain ⟨gb, off2, rfl, bx2, by2, hcx2⟩ := acts_cell hl2 hx2
        have HX : Hid (∀ Z, Below W.heap.size W Z → _) := hcx2
        clear hcx2 hx2
        as_aux_lemma =>
          go_wp2_with (first
            | (go_at_call 7; refine (Duo.play HJ.out kd tk x y bx).mono ?_; rintro e w1 ⟨rfl, u', V', al', P1⟩; obtain ⟨y0, y1, y2, y3⟩ := HX.out w1 P1.p.b; have HP1 : Hid (Duo W w1 s mx bs mn B v D u' V' al' B2 v2 D2 u2 V2 al2) := P1; clear P1 HJ)
            | (go_at_call 7; refine (Duo.play2 HP1.out kd2 tk2 X Y bx2).mono ?_; rintro e w2 ⟨rfl, u3, V3, al3, P2⟩; have HP2 : Hid (Duo W w2 s mx bs mn B v D u' V' al' B2 v2 D2 u3 V3 al3) := P2; clear P2 HP1)
            | (go_at_call 8; refine (Duo.told HP2.out).mono ?_; rintro e w3 ⟨rfl, P3⟩; have HP3 : Hid (Duo W w3 s mx bs mn B v D u' V' al' B2 v2 D2 u3 V3 al3) := P3; clear P3 HP2)
            | (go_at_call 8; refine (Duo.told2 HP3.out).mono ?_; rintro e w4 ⟨rfl, P4⟩; have HP4 : Hid (Duo W w4 s mx bs mn B v D u' V' al' B2 v2 D2 u3 V3 al3) := P4; clear P4 HP3))
          go_roundw
          case rel => have hib := HIB.out; exact ⟨i + 1, V', V3, u', u3, al', al3, by omega, by go_num, HP4.out⟩
          case measure => simp [intOf]; omega
      · have hge2 : ¬ ((i : Int) < l2.length) := by omega
        as_aux_lemma =>
          go_wp2_with (first
            | (go_at_call 7; refine (Duo.play HJ.out kd tk x y bx).mono ?_; rintro e w1 ⟨rfl, u', V', al', P1⟩; have HP1 : Hid (Duo W w1 s mx bs mn B v D u' V' al' B2 v2 D2 u2 V2 al2) := P1; clear P1 HJ)
            | (go_at_call 8; refine (Duo.told HP1.out).mono ?_; rintro e w3 ⟨rfl, P3⟩; have HP3 : Hid (Duo W w3 s mx bs mn B v D u' V' al' B2 v2 D2 u2 V2 al2) := P3; clear P3 HP1)
            | (go_at_call 8; refine (Duo.told2 HP3.out).mono ?_; rintro e w4 ⟨rfl, P4⟩; have HP4 : Hid (Duo W w4 s mx bs mn B v D u' V' al' B2 v2 D2 u2 V2 al2) := P4; clear P4 HP3))
          go_roundw
          case rel => have hib := HIB.out; exact ⟨i + 1, V', V2, u', u2, al', al2, by omega, by go_num, HP4.out⟩
          case measure => simp [intOf]; omega
    · have hge : ¬ ((i : Int) < l.length) := by omega
      by_cases hlt2 : i < l2.length
      · have hltI2 : (i : Int) < l2.length := by omega
        obtain ⟨⟨kd2, tk2, X, Y⟩, hx2⟩ : ∃ x, l2[i]? = some x := ⟨_, List.getElem?_eq_getElem hlt2⟩
        obtain ⟨gb, off2, rfl, bx2, by2, hcx2⟩ := acts_cell hl2 hx2
        obtain ⟨y0, y1, y2, y3⟩ := hcx2 wr HJ.out.p.b
        clear hcx2 hx2
        as_aux_lemma =>
          go_wp2_with (first
            | (go_at_call 7; refine (Duo.play2 HJ.out kd2 tk2 X Y bx2).mono ?_; rintro e w2 ⟨rfl, u3, V3, al3, P2⟩; have HP2 : Hid (Duo W w2 s mx bs mn B v D u V al B2 v2 D2 u3 V3 al3) := P2; clear P2 HJ)
            | (go_at_call 8; refine (Duo.told HP2.out).mono ?_; rintro e w3 ⟨rfl, P3⟩; have HP3 : Hid (Duo W w3 s mx bs mn B v D u V al B2 v2 D2 u3 V3 al3) := P3; clear P3 HP2)
            | (go_at_call 8; refine (Duo.told2 HP3.out).mono ?_; rintro e w4 ⟨rfl, P4⟩; have HP4 : Hid (Duo W w4 s mx bs mn B v D u V al B2 v2 D2 u3 V3 al3) := P4; clear P4 HP3))
          go_roundw
          case rel => have hib := HIB.out; exact ⟨i + 1, V, V3, u, u3, al, al3, by omega, by go_num, HP4.out⟩
          case measure => simp [intOf]; omega
      · have hge2 : ¬ ((i : Int) < l2.length) := by omega
        clear hi
        as_aux_lemma =>
          go_upto_region 15 with (first
            | (go_at_call 9; refine (Pd.copy HJ.out.p).mono ?_; rintro e w1 ⟨B4, v4, rfl, P1⟩; have HP1 : Hid (Trp W w1 B v D u s mx bs mn V al B4 v4) := P1; clear P1)
            | (go_at_call 10; refine (Trp.copy HP1.out).mono ?_; rintro e w2 ⟨D4, u4, rfl, P2⟩; have HD : Hid (Duo W w2 s mx bs mn B v D u V al B4 v4 D4 u4 V al) := P2; clear P2))
          clear HJ HP1 hlt hge hlt2 hge2 HIB
          go_wp2
          go_loopw [18] (fun v18 wr => ∃ (j V4 : Nat) (u4 : Value) (al4 : List Alm), j ≤ l2.length ∧ v18 = I j ∧ Hid (Duo W wr s mx bs mn B v D u V al B4 v4 D4 u4 V4 al4)) (fun v18 _ => l2.length - (intOf v18).toNat)
          case atStart => exact ⟨0, V, u4, al, by omega, rfl, HD.out⟩
          case round =>
            clear HD
            obtain ⟨j, V4, u4, al4, hj, rfl, HJ⟩ := hrel
            by_cases hlt : j < l2.length
            · have hltI : (j : Int) < l2.length := by omega
              obtain ⟨⟨kd, tk, x, y⟩, hx⟩ : ∃ x, l2[j]? = some x := ⟨_, List.getElem?_eq_getElem hlt⟩
              obtain ⟨ga, off, rfl, bx, by', hcx⟩ := acts_cell hl2 hx
              obtain ⟨x0, x1, x2, x3⟩ := hcx wr HJ.out.p.b
              clear hcx hx
              go_wp2_with (first
                | (go_at_call 7; refine (Duo.play2 HJ.out kd tk x y bx).mono ?_; rintro e w2 ⟨rfl, u3, V3, al3, P2⟩; have HP2 : Hid (Duo W w2 s mx bs mn B v D u V al B4 v4 D4 u3 V3 al3) := P2; clear P2 HJ)
                | (go_at_call 8; refine (Duo.told HP2.out).mono ?_; rintro e w3 ⟨rfl, P3⟩; have HP3 : Hid (Duo W w3 s mx bs mn B v D u V al B4 v4 D4 u3 V3 al3) := P3; clear P3 HP2)
                | (go_at_call 8; refine (Duo.told2 HP3.out).mono ?_; rintro e w4 ⟨rfl, P4⟩; have HP4 : Hid (Duo W w4 s mx bs mn B v D u V al B4 v4 D4 u3 V3 al3) := P4; clear P4 HP3))
              go_roundw
              case rel => exact ⟨j + 1, V3, u3, al3, by omega, by go_num, HP4.out⟩
              case measure => simp [intOf]; omega
            · obtain rfl : j = l2.length := by omega
              have hge : ¬ ((l2.length : Int) < l2.length) := by omega
              have HB9 : Hid (Below W.heap.size W wr) := HJ.out.p.b
              go_wp2_with (go_at_call 6; refine (alive_any _).mono ?_; rintro e w7 ⟨rfl, b7⟩)
              go_ret
              exact ⟨rfl, HB9.out.trans (b7.mono HB9.out.size)⟩
theorem apart_law (W : World) (s : ByteArray) (mx bs mn : Nat) (h1 : mx < 4294967296) (h2 : bs < 4294967296) (h3 : mn < 4294967296) (ss : Sl) (l : List Cl) (hl : RowsAt W 4 actP ss l) (hll : l.length ≤ 5864062014805) (tt : Sl) (l2 : List Cl) (hl2 : RowsAt W 4 actP tt l2) (hll2 : l2.length ≤ 5864062014805) : Calls Try.prog 3 #[.agg #[.string s, U mx, U bs, U mn], .slice ss.a ss.n ss.c, .slice tt.a tt.n tt.c] W fun e w' => e = .returned (.bool true) ∧ Below W.heap.size W w' := by
  cases hn : mayC mx mn with
  | false => exact apart_no W s mx bs mn _ _ hn
  | true => exact apart_ok W s mx bs mn ss tt l l2 hl hll hl2 hll2 hn
end Go.Proofs.Ytpoekphebmonnab
