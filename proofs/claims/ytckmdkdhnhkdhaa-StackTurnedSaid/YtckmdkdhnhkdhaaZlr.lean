import Derived.Test.YtckmdkdhnhkdhaaZtu
import Derived.Deep.Cut
namespace Go.Proofs.Ytckmdkdhnhkdhaa
open Go.RowKit
set_option linter.unusedVariables false
set_option linter.unusedSimpArgs false

/-! ### StackTurned -/
set_option maxHeartbeats 16000000 in
set_option maxRecDepth 100000 in
theorem turned_any (W : World) (n : Nat) (hn : n < 256) (s1 : Sl) (ts : List Int) (h1 : RowsAt W 1 intP s1 ts) (hl1 : ts.length ≤ 17592186043904) (m : Nat) (hm : m < 256) : Calls Try.prog 3 #[.int .u8 n, .slice s1.a s1.n s1.c, .int .u8 m] W fun e w' => e = .returned (.bool true) ∧ Below W.heap.size W w' := by
  obtain ⟨i0, hi0, hz0, hz1, hz2⟩ := info_parts iinfo
  obtain ⟨a1, n1, c1⟩ := s1
  have hn1 := h1.n
  simp only at hn1
  subst hn1
  have N1 := iNewQ W n (by omega)
  go_enter Try.func3, Try.ntmps3
  go_wp2_with (first
    | (go_at_call 9; refine N1.mono ?_; clear N1; rintro e w1 ⟨rfl, q1, b1⟩; have N2 := iNewQ w1 n (by omega))
    | (go_at_call 9; refine N2.mono ?_; clear N2; rintro e w2 ⟨rfl, q2, b2⟩))
  have HT : Hid (T2 W w2 (W.heap.size + 1) W.heap.size (w1.heap.size + 1) w1.heap.size n 0 0 (.slice none 0 0) (.slice none 0 0) [] [] [] []) := T2.start q1 b1 q2 b2
  clear q1 b1 q2 b2
  go_loopw [11, 12] (fun u vi wr => ∃ (ad : Option Addr) (cap i : Nat) (ins : List Int), i ≤ ts.length ∧ u = .slice ad ins.length cap ∧ vi = .int .i64 i ∧ Hid (T2 W wr (W.heap.size + 1) W.heap.size (w1.heap.size + 1) w1.heap.size n ins.length ins.length (.slice ad ins.length cap) (.slice none 0 0) ins ins ins [])) (fun _ vi _ => ts.length - (intOf vi).toNat)
  case atStart => exact ⟨none, 0, 0, [], by omega, rfl, rfl, HT.out⟩
  case round =>
    clear HT
    obtain ⟨ad, cap, i, ins, hi, rfl, rfl, HJ⟩ := hrel
    have hil := HJ.out.s.le
    by_cases hlt : i < ts.length
    · obtain ⟨x, hx⟩ : ∃ x, ts[i]? = some x := ⟨_, List.getElem?_eq_getElem hlt⟩
      have hltI : (i : Int) < ts.length := by omega
      have hi9 : ¬ (i : Int) < 0 := by omega
      obtain ⟨ga, off, rfl, hcx⟩ := ints_cell h1 hx
      have HX : Hid (∀ Z, Below W.heap.size W Z → Z.cell? ⟨ga, off + i, none⟩ = some (I x)) := hcx
      clear hcx hx
      have x0 := HX.out wr HJ.out.b
      have Jd := HJ.out.below ((Below.refl _ wr).drew)
      by_cases hc : ins.length < n
      · have hcI : (ins.length : Int) < n := by omega
        have hdec : decide ((ins.length : Int) < n) = true := by simpa using hcI
        have R1 := iPushQ Jd.s hc x
        rw [Nat.max_eq_right (Nat.le_succ _)] at R1
        go_wp2
        go_region_held_law (fun w' => w'.cell? ⟨ga, off + i, none⟩ = some (I x))
          (first | exact x0 | exact x2 | exact x3 | (go_keep; done))
          (first
            | (go_at_call 10; refine R1.mono ?_; clear R1; rintro e w3 ⟨rfl, q3, f3⟩; have J3 := Jd.opS q3 f3; have x2 := HX.out w3 J3.b; have R2 := iPushQ J3.t hc x; rw [Nat.max_eq_right (Nat.le_succ _)] at R2; clear q3 f3)
            | (go_at_call 10; refine R2.mono ?_; clear R2; rintro e w4 ⟨rfl, q4, f4⟩; have J4 := J3.opT q4 f4; have x3 := HX.out w4 J4.b; clear q4 f4))
        clear HJ Jd J3 x0 x2
        have hO := J4.i.alloc (.cells #[I x] 3)
        have hs4 := J4.b.size
        go_wp2_with (first
          | (go_at_call 11; refine (num_any _ (by decide) _).mono ?_; rintro e w9 ⟨rfl, rfl⟩)
          | (at_builtin; refine wpList_append_own_at _ rfl (.tmp 75) (.tmp 80) 22 rfl W.heap.size 3 i0 (.int .i64 0) 1 8 Try.underlying22 hi0 hz0 hz1 hz2 rfl (by decide) _ _ _ rfl hO ⟨w4.heap.size, 0, none⟩ 1 1 [I x] rfl rfl (cell_one_new _ _ _) (by intro u hu; simp at hu; subst hu; rfl) (by unfold maxLen; omega) (by omega) (by simp; omega) ?_; intro v5 w5 h5 hg5 _ hat; have e5 : (ins ++ [x]).length = ins.length + 1 := (by simp); have J5 := J4.app (c' := ins ++ [x]) (by rw [e5, show iV (ins ++ [x]) = iV ins ++ [I x] by simp [iV]]; exact h5) hg5 hat; obtain ⟨a5, k5, hu5⟩ := own_sl h5; subst hu5; have H9 : Hid (T2 W w5 (W.heap.size + 1) W.heap.size (w1.heap.size + 1) w1.heap.size n (ins ++ [x]).length (ins ++ [x]).length (.slice a5 (ins.length + 1) k5) (.slice none 0 0) (ins ++ [x]) (ins ++ [x]) (ins ++ [x]) []) := (by rw [e5]; exact J5); clear h5 hg5 hat J5 J4 hO x3 e5))
        go_roundw
        case rel => exact ⟨a5, k5, i + 1, ins ++ [x], by omega, by simp, by go_num, by have := H9.out; rw [show (ins ++ [x]).length = ins.length + 1 by simp] at this ⊢; exact this⟩
        case measure => simp [intOf]; omega
      · have hcI : ¬ (ins.length : Int) < n := by omega
        have hdec : decide ((ins.length : Int) < n) = false := by simpa using hcI
        have hc2 : ins.length = n := by omega
        have R1 := iPushF Jd.s hc2 x
        have HC : Hid (ins.length = n) := hc2
        clear hc2
        go_wp2
        go_region_held_law (fun w' => w'.cell? ⟨ga, off + i, none⟩ = some (I x))
          (first | exact x0 | exact x2 | exact x3 | (go_keep; done))
          (first
            | (go_at_call 10; refine R1.mono ?_; clear R1; rintro e w3 ⟨rfl, b3⟩; have J3 := Jd.below b3; have x2 := HX.out w3 J3.b; have R2 := iPushF J3.t HC.out x; clear b3)
            | (go_at_call 10; refine R2.mono ?_; clear R2; rintro e w4 ⟨rfl, b4⟩; have J4 := J3.below b4; have x3 := HX.out w4 J4.b; clear b4))
        have H9 : Hid (T2 W w4 (W.heap.size + 1) W.heap.size (w1.heap.size + 1) w1.heap.size n ins.length ins.length (.slice ad ins.length cap) (.slice none 0 0) ins ins ins []) := J4
        clear HJ Jd J3 x0 x2 x3 J4
        go_wp2_with (first
          | (go_at_call 11; refine (num_any _ (by decide) _).mono ?_; rintro e w9 ⟨rfl, rfl⟩)
          | fail)
        go_roundw
        case rel => exact ⟨ad, cap, i + 1, ins, by omega, rfl, by go_num, H9.out⟩
        case measure => simp [intOf]; omega
    · have hge : ¬ ((i : Int) < ts.length) := by omega
      clear hi hlt
      have hil2 : ins.length ≤ 255 := by omega
      by_cases hcut : m ≤ ins.length
      · have RC := iCutQ HJ.out.t m hcut
        have HM : Hid (m ≤ ins.length) := hcut
        have hmI : (m : Int) ≤ ins.length := by omega
        have hdec : decide ((m : Int) ≤ ins.length) = true := by simpa using hmI
        clear hcut
        go_upto_region 17 with (first
          | (go_at_call 11; refine (num_any _ (by decide) _).mono ?_; rintro e w9 ⟨rfl, rfl⟩)
          | (go_at_call 12; refine RC.mono ?_; clear RC; rintro e w3 ⟨X, cc, rfl, o3, q3, f3⟩; have J3 := HJ.out.cut (d' := (ins.drop m).reverse) q3 f3 (by rw [show ((ins.drop m).reverse).length = ins.length - m by simp]; exact o3); have RL3 := iLenQ J3.t; rw [List.length_take, Nat.min_eq_left HM.out] at RL3; clear q3 f3 o3)
          | (go_at_call 13; refine RL3.mono ?_; clear RL3; rintro e w6 ⟨rfl, rfl⟩))
        have HL : Hid (T2 W w3 (W.heap.size + 1) W.heap.size (w1.heap.size + 1) w1.heap.size n ins.length ins.length (.slice ad ins.length cap) (.slice (some ⟨X, 0, none⟩) (ins.length - m) cc) (ins.take ins.length) (ins.take (min m ins.length)) ins (ins.drop m).reverse) := by rw [List.take_length, Nat.min_eq_left HM.out]; exact J3
        clear HJ J3
        go_wp2
        go_loopw [17] (fun vi wr => ∃ j : Nat, j ≤ ins.length ∧ vi = .int .i64 ((j : Int) - 1) ∧ Hid (T2 W wr (W.heap.size + 1) W.heap.size (w1.heap.size + 1) w1.heap.size n ins.length ins.length (.slice ad ins.length cap) (.slice (some ⟨X, 0, none⟩) (ins.length - m) cc) (ins.take j) (ins.take (min m j)) ins (ins.drop m).reverse)) (fun vi _ => (intOf vi + 1).toNat)
        case atStart => exact ⟨ins.length, Nat.le_refl _, rfl, HL.out⟩
        case round =>
          clear HL
          obtain ⟨j, hj, rfl, HL⟩ := hrel
          cases j with
          | zero =>
            have hz9 : ¬ ((0 : Int) - 1) ≥ 0 := by omega
            have J := HL.out
            simp only [List.take_zero, Nat.min_zero] at J
            have RL := iLenQ J.s
            have RH := iHighQ J.s
            go_wp2_with (first
              | (go_at_call 13; refine RL.mono ?_; rintro e w6 ⟨rfl, rfl⟩)
              | (go_at_call 15; refine RH.mono ?_; rintro e w6 ⟨rfl, rfl⟩)
              | (go_at_call 16; refine (alive_any _).mono ?_; rintro e w8 ⟨rfl, b8⟩))
            go_ret
            exact ⟨rfl, J.b.trans (b8.mono J.b.size)⟩
          | succ j =>
            obtain ⟨x, hx⟩ : ∃ x, ins[j]? = some x := ⟨_, List.getElem?_eq_getElem (by omega)⟩
            have etk : ins.take (j + 1) = ins.take j ++ [x] := by rw [List.take_add_one, hx]; rfl
            have J := HL.out
            obtain ⟨gi, ci, evi, hci⟩ := J.at_i hx
            cases evi
            have hjI : ¬ (j : Int) < 0 := by omega
            have hjn : (j : Int) < ins.length := by omega
            have eI : ((j + 1 : Nat) : Int) - 1 = (j : Int) := by omega
            have R1 := iPopQ (xs := ins.take j) x (by have := J.s; rw [etk] at this; exact this)
            by_cases hge2 : m ≤ j
            · have hgI : (m : Int) ≤ j := by omega
              have hgn : ¬ (j : Int) < m := by omega
              have hd : (ins.drop m).reverse[ins.length - 1 - j]? = some x := by
                rw [List.getElem?_reverse (by simp; omega), List.getElem?_drop]
                rw [List.length_drop, show m + (ins.length - m - 1 - (ins.length - 1 - j)) = j by omega]
                exact hx
              have emin : min m (j + 1) = min m j := by omega
              have hp0 : ¬ ((ins.length : Int) - 1 - j) < 0 := by omega
              have hp1 : ((ins.length : Int) - 1 - j) < ((ins.length - m : Nat) : Int) := by omega
              have HF : Hid (∀ w4, T2 W w4 (W.heap.size + 1) W.heap.size (w1.heap.size + 1) w1.heap.size n ins.length ins.length (.slice (some ⟨gi, 0, none⟩) ins.length cap) (.slice (some ⟨X, 0, none⟩) (ins.length - m) cc) (ins.take j) (ins.take (min m j)) ins (ins.drop m).reverse → w4.cell? ⟨gi, j, none⟩ = some (I x) ∧ w4.cell? ⟨X, ins.length - 1 - j, none⟩ = some (I x)) := fun w4 J4 => by
                obtain ⟨g4, c4, e4, k4⟩ := J4.at_i hx
                cases e4
                obtain ⟨g5, c5, e5, k5⟩ := J4.at_l hd
                rw [show ((ins.drop m).reverse).length = ins.length - m by simp] at e5
                cases e5
                exact ⟨k4, k5⟩
              rw [emin] at J
              clear hx hd HL hci etk emin
              rw [eI]
              go_wp2_with (first
                | (go_at_call 11; refine (num_any _ (by decide) _).mono ?_; rintro e w9 ⟨rfl, rfl⟩)
                | (go_at_call 14; refine R1.mono ?_; clear R1; rintro e w4 ⟨rfl, q4, f4⟩; have J4 := J.opS q4 f4; obtain ⟨k4, k5⟩ := HF.out w4 J4; have H9 : Hid (T2 W w4 (W.heap.size + 1) W.heap.size (w1.heap.size + 1) w1.heap.size n ins.length ins.length (.slice (some ⟨gi, 0, none⟩) ins.length cap) (.slice (some ⟨X, 0, none⟩) (ins.length - m) cc) (ins.take j) (ins.take (min m j)) ins (ins.drop m).reverse) := J4; clear J J4 q4 f4))
              go_roundw
              case rel => exact ⟨j, by omega, by first | rfl | go_num, H9.out⟩
              case measure => first | (simp [intOf]; done) | (simp [intOf]; omega)
            · have hgI : ¬ (m : Int) ≤ j := by omega
              have hgn : (j : Int) < m := by omega
              have em1 : min m (j + 1) = j + 1 := by omega
              have em2 : min m j = j := by omega
              have HF : Hid (∀ w4, T2 W w4 (W.heap.size + 1) W.heap.size (w1.heap.size + 1) w1.heap.size n ins.length ins.length (.slice (some ⟨gi, 0, none⟩) ins.length cap) (.slice (some ⟨X, 0, none⟩) (ins.length - m) cc) (ins.take j) (ins.take (j + 1)) ins (ins.drop m).reverse → w4.cell? ⟨gi, j, none⟩ = some (I x) ∧ Calls Try.prog 14 #[iP (w1.heap.size + 1)] w4 fun e w' => e = .returned (.tuple #[I x, I 0]) ∧ T2 W w' (W.heap.size + 1) W.heap.size (w1.heap.size + 1) w1.heap.size n ins.length ins.length (.slice (some ⟨gi, 0, none⟩) ins.length cap) (.slice (some ⟨X, 0, none⟩) (ins.length - m) cc) (ins.take j) (ins.take j) ins (ins.drop m).reverse) := fun w4 J4 => by
                obtain ⟨g4, c4, e4, k4⟩ := J4.at_i hx
                cases e4
                refine ⟨k4, (iPopQ (xs := ins.take j) x (by have := J4.t; rw [etk] at this; exact this)).mono ?_⟩
                rintro e w' ⟨rfl, q5, f5⟩
                exact ⟨rfl, J4.opT q5 f5⟩
              rw [em1] at J
              have HM2 : Hid (min m j = j) := em2
              clear hx HL hci etk em1 em2
              rw [eI]
              go_wp2_with (first
                | (go_at_call 11; refine (num_any _ (by decide) _).mono ?_; rintro e w9 ⟨rfl, rfl⟩)
                | (go_at_call 14; refine R1.mono ?_; clear R1; rintro e w4 ⟨rfl, q4, f4⟩; have J4 := J.opS q4 f4; obtain ⟨k4, R2⟩ := HF.out w4 J4; clear J J4 q4 f4)
                | (go_at_call 14; refine R2.mono ?_; clear R2; rintro e w5 ⟨rfl, J5⟩; have H9 : Hid (T2 W w5 (W.heap.size + 1) W.heap.size (w1.heap.size + 1) w1.heap.size n ins.length ins.length (.slice (some ⟨gi, 0, none⟩) ins.length cap) (.slice (some ⟨X, 0, none⟩) (ins.length - m) cc) (ins.take j) (ins.take (min m j)) ins (ins.drop m).reverse) := (by rw [HM2.out]; exact J5); clear J5 k4))
              go_roundw
              case rel => exact ⟨j, by omega, by first | rfl | go_num, H9.out⟩
              case measure => first | (simp [intOf]; done) | (simp [intOf]; omega)
      · have hcI : ¬ (m : Int) ≤ ins.length := by omega
        have RC := iCutO HJ.out.t (m : Int) (by omega)
        have hdec : decide ((m : Int) ≤ ins.length) = false := by simpa using hcI
        go_upto_region 17 with (first
          | (go_at_call 11; refine (num_any _ (by decide) _).mono ?_; rintro e w9 ⟨rfl, rfl⟩)
          | (go_at_call 12; refine RC.mono ?_; clear RC; rintro e w3 ⟨rfl, rfl⟩))
        have HL : Hid (T2 W wr (W.heap.size + 1) W.heap.size (w1.heap.size + 1) w1.heap.size n ins.length ins.length (.slice ad ins.length cap) (.slice none 0 0) (ins.take ins.length) ins ins []) := by rw [List.take_length]; exact HJ.out
        clear HJ
        go_wp2
        go_loopw [17] (fun vi wr => ∃ j : Nat, j ≤ ins.length ∧ vi = .int .i64 ((j : Int) - 1) ∧ Hid (T2 W wr (W.heap.size + 1) W.heap.size (w1.heap.size + 1) w1.heap.size n ins.length ins.length (.slice ad ins.length cap) (.slice none 0 0) (ins.take j) ins ins [])) (fun vi _ => (intOf vi + 1).toNat)
        case atStart => exact ⟨ins.length, Nat.le_refl _, rfl, HL.out⟩
        case round =>
          clear HL
          obtain ⟨j, hj, rfl, HL⟩ := hrel
          cases j with
          | zero =>
            have hz9 : ¬ ((0 : Int) - 1) ≥ 0 := by omega
            have J := HL.out
            simp only [List.take_zero, Nat.min_zero] at J
            have RL := iLenQ J.s
            have RH := iHighQ J.s
            go_wp2_with (first
              | (go_at_call 13; refine RL.mono ?_; rintro e w6 ⟨rfl, rfl⟩)
              | (go_at_call 15; refine RH.mono ?_; rintro e w6 ⟨rfl, rfl⟩)
              | (go_at_call 16; refine (alive_any _).mono ?_; rintro e w8 ⟨rfl, b8⟩))
            go_ret
            exact ⟨rfl, J.b.trans (b8.mono J.b.size)⟩
          | succ j =>
            obtain ⟨x, hx⟩ : ∃ x, ins[j]? = some x := ⟨_, List.getElem?_eq_getElem (by omega)⟩
            have etk : ins.take (j + 1) = ins.take j ++ [x] := by rw [List.take_add_one, hx]; rfl
            have J := HL.out
            obtain ⟨gi, ci, evi, hci⟩ := J.at_i hx
            cases evi
            have hjI : ¬ (j : Int) < 0 := by omega
            have hjn : (j : Int) < ins.length := by omega
            have eI : ((j + 1 : Nat) : Int) - 1 = (j : Int) := by omega
            have R1 := iPopQ (xs := ins.take j) x (by have := J.s; rw [etk] at this; exact this)
            have HF : Hid (∀ w4, T2 W w4 (W.heap.size + 1) W.heap.size (w1.heap.size + 1) w1.heap.size n ins.length ins.length (.slice (some ⟨gi, 0, none⟩) ins.length cap) (.slice none 0 0) (ins.take j) ins ins [] → w4.cell? ⟨gi, j, none⟩ = some (I x)) := fun w4 J4 => by
              obtain ⟨g4, c4, e4, k4⟩ := J4.at_i hx
              cases e4
              exact k4
            clear hx HL hci etk
            rw [eI]
            go_wp2_with (first
              | (go_at_call 11; refine (num_any _ (by decide) _).mono ?_; rintro e w9 ⟨rfl, rfl⟩)
              | (go_at_call 14; refine R1.mono ?_; clear R1; rintro e w4 ⟨rfl, q4, f4⟩; have J4 := J.opS q4 f4; have k4 := HF.out w4 J4; have H9 : Hid (T2 W w4 (W.heap.size + 1) W.heap.size (w1.heap.size + 1) w1.heap.size n ins.length ins.length (.slice (some ⟨gi, 0, none⟩) ins.length cap) (.slice none 0 0) (ins.take j) ins ins []) := J4; clear J J4 q4 f4))
            go_roundw
            case rel => exact ⟨j, by omega, by first | rfl | go_num, H9.out⟩
            case measure => first | (simp [intOf]; done) | (simp [intOf]; omega)
end Go.Proofs.Ytckmdkdhnhkdhaa
