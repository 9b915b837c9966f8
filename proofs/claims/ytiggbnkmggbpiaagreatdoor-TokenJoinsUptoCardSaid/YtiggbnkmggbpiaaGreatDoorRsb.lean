import Derived.Test.YtiggbnkmggbpiaaGreatDoorRsa
namespace Go.Proofs.YtiggbnkmggbpiaaGreatDoor
open Go.RowKit
set_option linter.unusedVariables false

set_option maxHeartbeats 1000000 in
theorem rfirst_any (c : UInt8) (w : World) : Calls Tryz.prog 50 #[.int .u8 c.toNat] w fun e w' => e = .returned (.bool (isL c)) ∧ w' = w := by
  by_cases h1 : 65 ≤ c.toNat
  · by_cases h2 : c.toNat ≤ 90
    · have i1 : (65 : Int) ≤ c.toNat := by omega
      have i2 : (c.toNat : Int) ≤ 90 := by omega
      go_enter Tryz.func50, Tryz.ntmps50
      go_wp2
      go_ret
      exact ⟨ret_bool (decide_eq_true (Or.inl ⟨h1, h2⟩)).symm, rfl⟩
    · by_cases h3 : 97 ≤ c.toNat
      · by_cases h4 : c.toNat ≤ 122
        · have i1 : (65 : Int) ≤ c.toNat := by omega
          have i2 : ¬ (c.toNat : Int) ≤ 90 := by omega
          have i3 : (97 : Int) ≤ c.toNat := by omega
          have i4 : (c.toNat : Int) ≤ 122 := by omega
          go_enter Tryz.func50, Tryz.ntmps50
          go_wp2
          go_ret
          exact ⟨ret_bool (decide_eq_true (Or.inr (Or.inl ⟨h3, h4⟩))).symm, rfl⟩
        · have i1 : (65 : Int) ≤ c.toNat := by omega
          have i2 : ¬ (c.toNat : Int) ≤ 90 := by omega
          have i3 : (97 : Int) ≤ c.toNat := by omega
          have i4 : ¬ (c.toNat : Int) ≤ 122 := by omega
          have i5 : ((c.toNat : Int) == 95) = false := by rw [beq_eq_false_iff_ne]; omega
          go_enter Tryz.func50, Tryz.ntmps50
          go_wp2
          go_ret
          refine ⟨ret_bool ?_, rfl⟩
          unfold isL
          rw [decide_eq_false (by omega)]
      · have i1 : (65 : Int) ≤ c.toNat := by omega
        have i2 : ¬ (c.toNat : Int) ≤ 90 := by omega
        have i3 : ¬ (97 : Int) ≤ c.toNat := by omega
        have i5 : ((c.toNat : Int) == 95) = decide (c.toNat = 95) := by
          by_cases h : c.toNat = 95
          · rw [h]; rfl
          · rw [decide_eq_false h, beq_eq_false_iff_ne]; omega
        go_enter Tryz.func50, Tryz.ntmps50
        go_wp2
        go_ret
        refine ⟨ret_bool ?_, rfl⟩
        unfold isL
        first | (rw [i5]; congr 1; apply propext; constructor <;> omega) | (congr 1; apply propext; constructor <;> omega)
  · have i1 : ¬ (65 : Int) ≤ c.toNat := by omega
    have i3 : ¬ (97 : Int) ≤ c.toNat := by omega
    have i5 : ((c.toNat : Int) == 95) = false := by rw [beq_eq_false_iff_ne]; omega
    go_enter Tryz.func50, Tryz.ntmps50
    go_wp2
    go_ret
    refine ⟨ret_bool ?_, rfl⟩
    unfold isL
    rw [decide_eq_false (by omega)]
set_option maxHeartbeats 400000 in
theorem rdigit_any (c : UInt8) (w : World) : Calls Tryz.prog 102 #[.int .u8 c.toNat] w fun e w' => e = .returned (.bool (isG c)) ∧ w' = w := by
  by_cases h1 : 48 ≤ c.toNat
  · have i1 : (48 : Int) ≤ c.toNat := by omega
    go_enter Tryz.func102, Tryz.ntmps102
    go_wp2
    go_ret
    refine ⟨ret_bool ?_, rfl⟩
    unfold isG
    congr 1
    apply propext
    constructor <;> omega
  · have i1 : ¬ (48 : Int) ≤ c.toNat := by omega
    go_enter Tryz.func102, Tryz.ntmps102
    go_wp2
    go_ret
    refine ⟨ret_bool ?_, rfl⟩
    unfold isG
    rw [decide_eq_false (by omega)]
set_option maxHeartbeats 400000 in
theorem rpart_any (c : UInt8) (w : World) : Calls Tryz.prog 78 #[.int .u8 c.toNat] w fun e w' => e = .returned (.bool (isW c)) ∧ w' = w := by
  have c1 := rfirst_any c
  have c2 := rdigit_any c
  unfold isW
  generalize isL c = a at *
  generalize isG c = b at *
  cases a with
  | true =>
    go_enter Tryz.func78, Tryz.ntmps78
    go_wp2_with (first | (go_at_call 50; refine (c1 _).mono ?_; rintro e w' ⟨rfl, rfl⟩) | (go_at_call 102; refine (c2 _).mono ?_; rintro e w' ⟨rfl, rfl⟩))
    go_ret
    exact ⟨rfl, rfl⟩
  | false =>
    go_enter Tryz.func78, Tryz.ntmps78
    go_wp2_with (first | (go_at_call 50; refine (c1 _).mono ?_; rintro e w' ⟨rfl, rfl⟩) | (go_at_call 102; refine (c2 _).mono ?_; rintro e w' ⟨rfl, rfl⟩))
    go_ret
    exact ⟨rfl, rfl⟩
theorem wlen_drop (t : List UInt8) (i j : Nat) (hj : i + j ≤ t.length) (ha : ∀ k, k < j → ∃ c, t[i + k]? = some c ∧ isW c = true) (hn : i + j = t.length ∨ ∃ c, t[i + j]? = some c ∧ isW c = false) : wlen (t.drop i) = j := by
  refine tw_take isW (t.drop i) j (by rw [List.length_drop]; omega) (fun k hk => ?_) ?_
  · obtain ⟨c, h1, h2⟩ := ha k hk
    obtain ⟨q1, q2⟩ := List.getElem?_eq_some_iff.1 h1
    rw [List.getElem_drop, q2]; exact h2
  · rcases hn with h | ⟨c, h1, h2⟩
    · left; rw [List.length_drop]; omega
    · right
      obtain ⟨q1, q2⟩ := List.getElem?_eq_some_iff.1 h1
      exact ⟨by rw [List.length_drop]; omega, by rw [List.getElem_drop, q2]; exact h2⟩
set_option maxHeartbeats 1000000 in
theorem rword_any (s : ByteArray) (i : Nat) (w : World) (hs : s.size < 4611686018427387904) (hi : i ≤ s.size) :
    Calls Tryz.prog 51 #[.string s, .int .i64 (i : Int)] w fun e w' => e = .returned (.int .i64 ((i + wlen (s.data.toList.drop i) : Nat) : Int)) ∧ w' = w := by
  have HL : Hid (s.data.toList.length = s.size) := len_all s
  go_enter Tryz.func51, Tryz.ntmps51
  go_wp2
  go_loop [1] (fun v => ∃ j : Nat, i + j ≤ s.size ∧ v = .int .i64 ((i + j : Nat) : Int) ∧ ∀ k, k < j → ∃ c, s.data.toList[i + k]? = some c ∧ isW c = true) (fun v => s.size - (intOf v).toNat)
  case atStart => exact ⟨0, by omega, rfl, fun k h => absurd h (Nat.not_lt_zero _)⟩
  case round =>
    obtain ⟨j, hj, rfl, ha⟩ := hrel
    have HA : Hid (∀ k, k < j → ∃ c, s.data.toList[i + k]? = some c ∧ isW c = true) := ha
    clear ha
    obtain ⟨q, hq⟩ : ∃ q, q = i + j := ⟨_, rfl⟩
    rw [← hq]
    have HQ : Hid (q = i + j) := hq
    rw [← hq] at hj
    clear hq
    by_cases hlt : q < s.size
    · have hlt' : (q : Int) < s.size := by omega
      obtain ⟨x, hx⟩ : ∃ c, s[q] = c := ⟨_, rfl⟩
      have HX : Hid (s.data.toList[q]? = some x) := by show _ = _; rw [snoc_all s q hlt, hx]
      have hix : ∀ w, (Instr.index 9 (.string s) (.int .i64 (q : Int))).run Tryz.prog w = .ok (.int .u8 (x.toNat : Int)) w := fun w => by
        rw [← hx]; exact index_at s q _ w hlt rfl
      clear hx
      have c1 := rpart_any x
      cases hw : isW x with
      | true =>
        rw [hw] at c1
        have HY : Hid (isW x = true) := hw
        clear hw
        go_wp2_with (go_at_call 78; refine (c1 _).mono ?_; rintro e w' ⟨rfl, rfl⟩)
        go_round
        case rel =>
          refine ⟨j + 1, by have := HQ.out; omega, by have := HQ.out; go_num, fun k hk => ?_⟩
          by_cases e : k < j
          · exact HA.out k e
          · have : k = j := by omega
            subst this
            exact ⟨x, by rw [← HQ.out]; exact HX.out, HY.out⟩
        case measure => simp [intOf]; omega
      | false =>
        rw [hw] at c1
        have HR : Hid (i + wlen (s.data.toList.drop i) = q) := by
          show _ = _
          rw [wlen_drop s.data.toList i j (by rw [HL.out]; have := HQ.out; omega) HA.out (Or.inr ⟨x, by rw [← HQ.out]; exact HX.out, hw⟩)]
          exact HQ.out.symm
        clear hw
        go_wp2_with (go_at_call 78; refine (c1 _).mono ?_; rintro e w' ⟨rfl, rfl⟩)
        go_ret
        exact ⟨ret_int (by have := HR.out; omega), rfl⟩
    · have hlt' : ¬ (q : Int) < s.size := by omega
      have HR : Hid (i + wlen (s.data.toList.drop i) = q) := by
        show _ = _
        rw [wlen_drop s.data.toList i j (by rw [HL.out]; have := HQ.out; omega) HA.out (Or.inl (by rw [HL.out]; have := HQ.out; omega))]
        exact HQ.out.symm
      go_wp2_with fail
      go_ret
      exact ⟨ret_int (by have := HR.out; omega), rfl⟩
theorem nameL_nil {t : List UInt8} (h : t.length = 0) : nameL t = false := by
  have : t = [] := List.eq_nil_of_length_eq_zero h
  subst this
  rfl
theorem nameL_cons {t : List UInt8} {x : UInt8} (h : t[0]? = some x) : nameL t = (decide (t.length ≤ 63) && isL x && decide (wlen t = t.length)) := by
  cases t with
  | nil => cases h
  | cons y t => cases h; rfl
set_option maxHeartbeats 2000000 in
theorem rname_any (s : ByteArray) (w : World) (hs : s.size < 4611686018427387904) :
    Calls Tryz.prog 30 #[.string s] w fun e w' => e = .returned (.bool (nameL s.data.toList)) ∧ w' = w := by
  obtain ⟨r, hr⟩ : ∃ r, nameL s.data.toList = r := ⟨_, rfl⟩
  rw [hr]
  have HR : Hid (nameL s.data.toList = r) := hr
  clear hr
  have cw := rword_any s 0 w hs (by omega)
  rw [List.drop_zero, Nat.zero_add] at cw
  by_cases h0 : s.size = 0
  · have h0' : ¬ (0 : Int) < s.size := by omega
    have HF : Hid (r = false) := by show r = _; rw [← HR.out]; exact nameL_nil (by rw [len_all]; exact h0)
    clear h0
    go_enter Tryz.func30, Tryz.ntmps30
    go_wp2
    go_ret
    exact ⟨by rw [HF.out]; rfl, rfl⟩
  · have h0' : (0 : Int) < s.size := by omega
    obtain ⟨x, hx⟩ : ∃ x, s[0]'(by omega) = x := ⟨_, rfl⟩
    have hix : ∀ w, (Instr.index 9 (.string s) (.int .i64 0)).run Tryz.prog w = .ok (.int .u8 (x.toNat : Int)) w := fun w => by
      rw [← hx]; exact index_at s 0 _ w (by omega) rfl
    have hn := nameL_cons (by rw [snoc_all s 0 (by omega), hx] : s.data.toList[0]? = some x)
    rw [len_all] at hn
    have HN : Hid (r = (decide (s.size ≤ 63) && isL x && decide (wlen s.data.toList = s.size))) := by show r = _; rw [← HR.out]; exact hn
    have cf := rfirst_any x w
    clear hn hx HR h0
    by_cases h63 : s.size ≤ 63
    · have h63' : (s.size : Int) ≤ 63 := by omega
      cases hL : isL x with
      | false =>
        have HF : Hid (r = false) := by show r = _; rw [HN.out, hL]; simp
        rw [hL] at cf
        clear HN hL
        go_enter Tryz.func30, Tryz.ntmps30
        go_wp2_with (first | (go_at_call 50; refine cf.mono ?_; rintro e w' ⟨rfl, rfl⟩) | (go_at_call 51; refine cw.mono ?_; rintro e w' ⟨rfl, rfl⟩))
        go_ret
        exact ⟨by rw [HF.out]; rfl, rfl⟩
      | true =>
        rw [hL] at cf
        by_cases hw : wlen s.data.toList = s.size
        · have hw' : ((wlen s.data.toList : Int) == (s.size : Int)) = true := by rw [hw]; simp
          have HF : Hid (r = true) := by show r = _; rw [HN.out, hL, decide_eq_true h63, decide_eq_true hw]; rfl
          generalize wlen s.data.toList = n at *
          clear HN hL hw
          go_enter Tryz.func30, Tryz.ntmps30
          go_wp2_with (first | (go_at_call 50; refine cf.mono ?_; rintro e w' ⟨rfl, rfl⟩) | (go_at_call 51; refine cw.mono ?_; rintro e w' ⟨rfl, rfl⟩))
          go_ret
          exact ⟨by rw [HF.out]; rfl, rfl⟩
        · have hw' : ((wlen s.data.toList : Int) == (s.size : Int)) = false := by rw [beq_eq_false_iff_ne]; omega
          have HF : Hid (r = false) := by show r = _; rw [HN.out, decide_eq_false hw]; simp
          generalize wlen s.data.toList = n at *
          clear HN hL hw
          go_enter Tryz.func30, Tryz.ntmps30
          go_wp2_with (first | (go_at_call 50; refine cf.mono ?_; rintro e w' ⟨rfl, rfl⟩) | (go_at_call 51; refine cw.mono ?_; rintro e w' ⟨rfl, rfl⟩))
          go_ret
          exact ⟨by rw [HF.out]; rfl, rfl⟩
    · have h63' : ¬ (s.size : Int) ≤ 63 := by omega
      have HF : Hid (r = false) := by show r = _; rw [HN.out, decide_eq_false h63]; rfl
      clear HN h63
      go_enter Tryz.func30, Tryz.ntmps30
      go_wp2
      go_ret
      exact ⟨by rw [HF.out]; rfl, rfl⟩
end Go.Proofs.YtiggbnkmggbpiaaGreatDoor
