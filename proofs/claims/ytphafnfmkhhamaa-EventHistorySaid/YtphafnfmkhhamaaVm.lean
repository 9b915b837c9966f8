import Derived.Test.YtphafnfmkhhamaaVl
namespace Go.Proofs.Ytphafnfmkhhamaa
open Go.RowKit
set_option linter.unusedVariables false
set_option linter.unusedSimpArgs false

set_option maxHeartbeats 8000000 in
set_option maxRecDepth 100000 in
theorem history_zero (W : World) (v : Value) : Calls Try.prog 3 #[U 0, v] W fun e w' => e = .returned (.bool true) ∧ Below W.heap.size W w' := by
  have h0 := New_two W 0 0
  go_enter Try.func3, Try.ntmps3
  go_wp2_with (first
    | (go_at_call 6; refine h0.mono ?_; clear h0; rintro e w1 ⟨rfl, E1, b1⟩)
    | (go_at_call 7; refine (heads_any _).mono ?_; rintro e w2 ⟨rfl, b2⟩; have E2 := E1.below b2; have b3 : Below W.heap.size W w2 := b1.trans (b2.mono b1.size); clear E1 b1 b2)
    | (go_at_call 8; refine (Set_no E2 1 1 (by rw [show stE 2 (tsk [0, 0]) 1 = 1 by kernel_rfl]; decide)).mono ?_; rw [show stE 2 (tsk [0, 0]) 1 = 1 by kernel_rfl]; rintro e w6 ⟨rfl, rfl⟩))
  go_ret
  exact ⟨rfl, b3⟩
set_option maxHeartbeats 16000000 in
set_option maxRecDepth 100000 in
theorem history_some (W : World) (m0 : Int) (hm0 : m0 ≠ 0) (s : Sl) (calls : List (Int × Int × Int)) (h : RowsAt W 3 callP s calls) (hl : calls.length ≤ 5864062014805) : Calls Try.prog 3 #[U m0, .slice s.a s.n s.c] W fun e w' => e = .returned (.bool true) ∧ Below W.heap.size W w' := by
  obtain ⟨a1, n1, c1⟩ := s
  have hn1 := h.n
  simp only at hn1
  subst hn1
  have h0 := New_two W 0 m0
  have hmf : (m0 == 0) = false := by simpa using hm0
  have ht : Hid (tsk [0, m0] 1 = ⟨true, false, 0, 0⟩) := by show (if m0 ≠ 0 then et1 else et0) = _; rw [if_pos hm0]; rfl
  go_enter Try.func3, Try.ntmps3
  go_wp2_with (first
    | (go_at_call 6; refine h0.mono ?_; clear h0; rintro e w1 ⟨rfl, E1, b1⟩)
    | (go_at_call 7; refine (heads_any _).mono ?_; rintro e w2 ⟨rfl, b2⟩; have HI : Hid (HiI W w2 (W.heap.size + 1) 0 false 0) := ⟨⟨_, E1.below b2, ht.out⟩, fun e => (by cases e), b1.trans (b2.mono b1.size), by omega⟩; clear E1 b1 b2))
  clear ht hmf hm0
  generalize W.heap.size + 1 = B at *
  go_loopw [9, 10, 11, 12] (fun v9 v10 v11 v12 wr => ∃ (i : Nat) (on : Int) (ws : Bool) (wn : Int), i ≤ calls.length ∧ v9 = U on ∧ v10 = .bool ws ∧ v11 = U wn ∧ v12 = .int .i64 i ∧ Hid (HiI W wr B on ws wn)) (fun _ _ _ v12 _ => calls.length - (intOf v12).toNat)
  case atStart => exact ⟨0, 0, false, 0, by omega, rfl, rfl, rfl, rfl, HI.out⟩
  case round =>
    clear HI
    obtain ⟨i, on, ws, wn, hi1, rfl, rfl, rfl, rfl, HJ⟩ := hrel
    by_cases hlt : i < calls.length
    · obtain ⟨⟨kd, tk, m⟩, hx⟩ : ∃ x, calls[i]? = some x := ⟨_, List.getElem?_eq_getElem hlt⟩
      have hltI : (i : Int) < calls.length := by omega
      obtain ⟨ga, off, rfl, hcx⟩ := calls_cell h hx
      obtain ⟨x0, x1, x2⟩ := hcx wr HJ.out.b
      clear hcx hx
      go_upto_region 14 with (first | fail)
      clear x0 x1 x2
      have HJ0 : Hid (HiI W (wr.alloc (.cells #[I kd, I tk, U m] 34)) B on ws wn) := HJ.out.below (below_alloc _ _)
      have hBX : wr.heap.size ∉ [B] := by
        obtain ⟨f, h1, -⟩ := HJ.out.e
        have := h1.lt
        simp; omega
      have y0 : (wr.alloc (.cells #[I kd, I tk, U m] 34)).cell? ⟨wr.heap.size, 0, none⟩ = some (I kd) := by rw [cell_of_row _ _ _ _ _ (0, 0) (heap_alloc_new wr _)]; rfl
      have y2 : (wr.alloc (.cells #[I kd, I tk, U m] 34)).cell? ⟨wr.heap.size, 2, none⟩ = some (U m) := by rw [cell_of_row _ _ _ _ _ (0, 0) (heap_alloc_new wr _)]; rfl
      clear HJ
      generalize wr.heap.size = X at *
      generalize (wr.alloc (.cells #[I kd, I tk, U m] 34)) = wx at *
      by_cases k1 : kd = 1
      · subst k1
        have R := hSet HJ0.out m
        clear HJ0
        simp only [andU, orU] at R
        cases ws with
        | false =>
          simp only [Bool.false_and] at R
          go_wp2_with (first
            | (go_at_call 8; refine R.mono ?_; clear R; rintro e w1 ⟨rfl, H, f1⟩; have H1 : Hid (HiI W w1 B (bits .or .u32 on m) false (wn)) := H; clear H; have y9 := f1.cell y2 hBX; clear f1 y0 y2)
            | (go_at_call 12; refine (hGet H1.out).mono ?_; rintro e w8 ⟨rfl, rfl⟩)
            | (go_at_call 13; refine (hWaits0 H1.out).mono ?_; rintro e w9 ⟨rfl, rfl⟩))
          go_roundw
          case rel => exact ⟨i + 1, _, false, _, by omega, rfl, rfl, rfl, by go_num, H1.out⟩
          case measure => simp [intOf]; omega
        | true =>
          by_cases hz : bits .and .u32 (bits .or .u32 on m) wn = 0
          · simp only [Bool.true_and, Bool.false_and, hz, ne_eq, not_true, not_false_eq_true, decide_true, decide_false, Bool.not_false, Bool.not_true, Bool.and_true, Bool.and_false] at R
            go_wp2_with (first
              | (go_at_call 8; refine R.mono ?_; clear R; rintro e w1 ⟨rfl, H, f1⟩; have H1 : Hid (HiI W w1 B (bits .or .u32 on m) true (wn)) := H; clear H; have q : bits .and .u32 (wn) (bits .or .u32 on m) = 0 := H1.out.q; have y9 := f1.cell y2 hBX; clear f1 y0 y2)
              | (go_at_call 12; refine (hGet H1.out).mono ?_; rintro e w8 ⟨rfl, rfl⟩)
              | (go_at_call 13; refine (hWaits1 H1.out).mono ?_; rintro e w9 ⟨rfl, rfl⟩))
            go_roundw
            case rel => exact ⟨i + 1, _, true, _, by omega, rfl, rfl, rfl, by go_num, H1.out⟩
            case measure => simp [intOf]; omega
          · have hz2 : (bits .and .u32 (bits .or .u32 on m) wn != 0) = true := by simpa using hz
            simp only [Bool.true_and, Bool.false_and, hz, ne_eq, not_true, not_false_eq_true, decide_true, decide_false, Bool.not_false, Bool.not_true, Bool.and_true, Bool.and_false] at R
            go_wp2_with (first
              | (go_at_call 8; refine R.mono ?_; clear R; rintro e w1 ⟨rfl, H, f1⟩; have H1 : Hid (HiI W w1 B (bits .or .u32 on m) false (wn)) := H; clear H; have y9 := f1.cell y2 hBX; clear f1 y0 y2)
              | (go_at_call 12; refine (hGet H1.out).mono ?_; rintro e w8 ⟨rfl, rfl⟩)
              | (go_at_call 13; refine (hWaits0 H1.out).mono ?_; rintro e w9 ⟨rfl, rfl⟩))
            go_roundw
            case rel => exact ⟨i + 1, _, false, _, by omega, rfl, rfl, rfl, by go_num, H1.out⟩
            case measure => simp [intOf]; omega
      by_cases k2 : kd = 2
      · subst k2
        have R := hClear HJ0.out m
        clear HJ0
        simp only [anU] at R
        cases ws with
        | false =>
          go_wp2_with (first
            | (go_at_call 9; refine R.mono ?_; clear R; rintro e w1 ⟨rfl, H, f1⟩; have H1 : Hid (HiI W w1 B (bits .andNot .u32 on m) false (wn)) := H; clear H; have y9 := f1.cell y2 hBX; clear f1 y0 y2)
            | (go_at_call 12; refine (hGet H1.out).mono ?_; rintro e w8 ⟨rfl, rfl⟩)
            | (go_at_call 13; refine (hWaits0 H1.out).mono ?_; rintro e w9 ⟨rfl, rfl⟩))
          go_roundw
          case rel => exact ⟨i + 1, _, false, _, by omega, rfl, rfl, rfl, by go_num, H1.out⟩
          case measure => simp [intOf]; omega
        | true =>
          go_wp2_with (first
            | (go_at_call 9; refine R.mono ?_; clear R; rintro e w1 ⟨rfl, H, f1⟩; have H1 : Hid (HiI W w1 B (bits .andNot .u32 on m) true (wn)) := H; clear H; have q : bits .and .u32 (wn) (bits .andNot .u32 on m) = 0 := H1.out.q; have y9 := f1.cell y2 hBX; clear f1 y0 y2)
            | (go_at_call 12; refine (hGet H1.out).mono ?_; rintro e w8 ⟨rfl, rfl⟩)
            | (go_at_call 13; refine (hWaits1 H1.out).mono ?_; rintro e w9 ⟨rfl, rfl⟩))
          go_roundw
          case rel => exact ⟨i + 1, _, true, _, by omega, rfl, rfl, rfl, by go_num, H1.out⟩
          case measure => simp [intOf]; omega
      by_cases k4 : kd = 4
      · subst k4
        cases ws with
        | true =>
          have R := hWaitS HJ0.out m
          go_wp2_with (first
            | (go_at_call 10; refine R.mono ?_; clear R; rintro e w1 ⟨rfl, rfl⟩))
          go_roundw
          case rel => exact ⟨i + 1, _, true, _, by omega, rfl, rfl, rfl, by go_num, HJ0.out⟩
          case measure => simp [intOf]; omega
        | false =>
          have R := hWaitF HJ0.out m
          clear HJ0
          simp only [andU] at R
          by_cases hz : bits .and .u32 on m = 0
          · simp only [Bool.true_and, Bool.false_and, hz, ne_eq, not_true, not_false_eq_true, decide_true, decide_false, Bool.not_false, Bool.not_true, Bool.and_true, Bool.and_false] at R
            go_wp2_with (first
              | (go_at_call 10; refine R.mono ?_; clear R; rintro e w1 ⟨rfl, H, f1⟩; have H1 : Hid (HiI W w1 B (on) true (m)) := H; clear H; have q : bits .and .u32 (m) (on) = 0 := H1.out.q; have y9 := f1.cell y2 hBX; clear f1 y0 y2)
              | (go_at_call 12; refine (hGet H1.out).mono ?_; rintro e w8 ⟨rfl, rfl⟩)
              | (go_at_call 13; refine (hWaits1 H1.out).mono ?_; rintro e w9 ⟨rfl, rfl⟩))
            go_roundw
            case rel => exact ⟨i + 1, _, true, _, by omega, rfl, rfl, rfl, by go_num, H1.out⟩
            case measure => simp [intOf]; omega
          · simp only [Bool.true_and, Bool.false_and, hz, ne_eq, not_true, not_false_eq_true, decide_true, decide_false, Bool.not_false, Bool.not_true, Bool.and_true, Bool.and_false] at R
            go_wp2_with (first
              | (go_at_call 10; refine R.mono ?_; clear R; rintro e w1 ⟨rfl, H, f1⟩; have H1 : Hid (HiI W w1 B (on) false (m)) := H; clear H; have y9 := f1.cell y2 hBX; clear f1 y0 y2)
              | (go_at_call 12; refine (hGet H1.out).mono ?_; rintro e w8 ⟨rfl, rfl⟩)
              | (go_at_call 13; refine (hWaits0 H1.out).mono ?_; rintro e w9 ⟨rfl, rfl⟩))
            go_roundw
            case rel => exact ⟨i + 1, _, false, _, by omega, rfl, rfl, rfl, by go_num, H1.out⟩
            case measure => simp [intOf]; omega
      by_cases k6 : kd = 6
      · subst k6
        have R := hFresh HJ0.out
        clear HJ0
        go_wp2_with (first
          | (go_at_call 11; refine R.mono ?_; clear R; rintro e w1 ⟨rfl, H, f1⟩; have H1 : Hid (HiI W w1 B (0) false (wn)) := H; clear H; have y9 := f1.cell y2 hBX; clear f1 y0 y2)
          | (go_at_call 12; refine (hGet H1.out).mono ?_; rintro e w8 ⟨rfl, rfl⟩)
          | (go_at_call 13; refine (hWaits0 H1.out).mono ?_; rintro e w9 ⟨rfl, rfl⟩))
        go_roundw
        case rel => exact ⟨i + 1, _, false, _, by omega, rfl, rfl, rfl, by go_num, H1.out⟩
        case measure => simp [intOf]; omega
      · cases ws with
        | false =>
          go_wp2_with (first
            | (go_at_call 12; refine (hGet HJ0.out).mono ?_; rintro e w8 ⟨rfl, rfl⟩)
            | (go_at_call 13; refine (hWaits0 HJ0.out).mono ?_; rintro e w9 ⟨rfl, rfl⟩))
          go_roundw
          case rel => exact ⟨i + 1, _, false, _, by omega, rfl, rfl, rfl, by go_num, HJ0.out⟩
          case measure => simp [intOf]; omega
        | true =>
          have q : bits .and .u32 wn on = 0 := HJ0.out.q
          go_wp2_with (first
            | (go_at_call 12; refine (hGet HJ0.out).mono ?_; rintro e w8 ⟨rfl, rfl⟩)
            | (go_at_call 13; refine (hWaits1 HJ0.out).mono ?_; rintro e w9 ⟨rfl, rfl⟩))
          go_roundw
          case rel => exact ⟨i + 1, _, true, _, by omega, rfl, rfl, rfl, by go_num, HJ0.out⟩
          case measure => simp [intOf]; omega
    · obtain rfl : i = calls.length := by omega
      have hge : ¬ ((calls.length : Int) < calls.length) := by omega
      go_wp2
      go_ret
      exact ⟨rfl, HJ.out.b⟩
theorem history_law (W : World) (m0 : Int) (s : Sl) (calls : List (Int × Int × Int)) (h : RowsAt W 3 callP s calls) (hl : calls.length ≤ 5864062014805) : Calls Try.prog 3 #[U m0, .slice s.a s.n s.c] W fun e w' => e = .returned (.bool true) ∧ Below W.heap.size W w' := by
  by_cases h0 : m0 = 0
  · subst h0
    exact history_zero W _
  · exact history_some W m0 h0 s calls h hl
end Go.Proofs.Ytphafnfmkhhamaa
