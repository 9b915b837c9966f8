import Derived.Test.YtlbgppijeoonjaaGreatDoorGoX
import Derived.OwnWalk
namespace Go.Proofs.YtlbgppijeoonjaaGreatDoor
open Go.RowKit
set_option linter.unusedVariables false

theorem hexV_dig {c : UInt8} (h : isG c = true) : hexV c = c.toNat - 48 ∧ 48 ≤ c.toNat ∧ c.toNat ≤ 57 := by
  unfold hexV
  rw [if_pos h]
  exact ⟨rfl, of_decide_eq_true h⟩
theorem hexV_low {c : UInt8} (h : isG c = false) (h1 : 97 ≤ c.toNat) (h2 : c.toNat ≤ 102) : hexV c = c.toNat - 87 := by
  unfold hexV
  rw [if_neg (by rw [h]; decide), if_pos ⟨h1, h2⟩]
theorem hexV_up {c : UInt8} (h : isG c = false) (h1 : 65 ≤ c.toNat) (h2 : c.toNat ≤ 70) : hexV c = c.toNat - 55 := by
  unfold hexV
  rw [if_neg (by rw [h]; decide), if_neg (by omega), if_pos ⟨h1, h2⟩]
theorem hexV_no {c : UInt8} (h : isG c = false) (h1 : ¬ (97 ≤ c.toNat ∧ c.toNat ≤ 102)) (h2 : ¬ (65 ≤ c.toNat ∧ c.toNat ≤ 70)) : hexV c = 99 := by
  unfold hexV
  rw [if_neg (by rw [h]; decide), if_neg h1, if_neg h2]
def numV (x : Option (Nat × Bool)) : Value := match x with | none => .tuple #[.int .u32 0, .bool false, .bool false] | some (v, h) => .tuple #[.int .u32 (v : Int), .bool h, .bool true]
/-- What a byte says as a digit, as the walk wants it. -/
theorem isX_two {l : List UInt8} {a b : UInt8} (h0 : l[0]? = some a) (h1 : l[1]? = some b) : isX l = decide (a = 48 ∧ (b = 120 ∨ b = 88)) := by
  match l, h0, h1 with
  | x :: y :: t, h0, h1 =>
    simp at h0 h1
    subst h0
    subst h1
    simp only [isX, Lib.hasPrefix, List.isPrefixOf]
    by_cases ha : x = 48
    · subst ha
      by_cases hb : y = 120
      · subst hb; rfl
      · by_cases hc : y = 88
        · subst hc; rfl
        · simp [hb, hc, Ne.symm hb, Ne.symm hc]
    · simp [ha, Ne.symm ha]
theorem isX_short {l : List UInt8} (h : l.length ≤ 1) : isX l = false := by
  match l with
  | [] => rfl
  | [x] => simp [isX, Lib.hasPrefix, List.isPrefixOf]
set_option maxHeartbeats 8000000 in
set_option maxRecDepth 100000 in
theorem rnum_any (s : ByteArray) (w : World) (hs : s.size < 4611686018427387904) :
    Calls Tryz.prog 74 #[.string s] w fun e w' => e = .returned (numV (numL s.data.toList)) ∧ w' = w := by
  have HL : Hid (s.data.toList.length = s.size) := len_all s
  obtain ⟨r, hr⟩ : ∃ r, numL s.data.toList = r := ⟨_, rfl⟩
  rw [hr]
  have HR : Hid (numL s.data.toList = r) := hr
  clear hr
  by_cases h0 : s.size = 0
  · have HN : Hid (r = none) := by
      show r = none
      rw [← HR.out]
      have e : s.data.toList = [] := List.eq_nil_of_length_eq_zero (by rw [HL.out]; exact h0)
      rw [e]
      rfl
    have h1 : ¬ (1 : Int) < s.size := by omega
    have h2 : ((0 : Int) == (s.size : Int)) = true := by rw [h0]; rfl
    clear h0
    go_enter Tryz.func74, Tryz.ntmps74
    go_wp2
    go_ret3
    exact ⟨by rw [HN.out]; rfl, rfl⟩
  · obtain ⟨x, hx0, hix⟩ := at_some (s := s) (q := 0) (by omega)
    have hix0 : ∀ w, (Instr.index 9 (.string s) (.int .i64 0)).run Tryz.prog w = .ok (.int .u8 (x.toNat : Int)) w := hix
    have HX : Hid (s.data.toList[0]? = some x) := hx0
    clear hix hx0
    by_cases h1 : 1 < s.size
    · have h1' : (1 : Int) < s.size := by omega
      obtain ⟨y, hy0, hiy⟩ := at_some (s := s) (q := 1) h1
      have hiy0 : ∀ w, (Instr.index 9 (.string s) (.int .i64 1)).run Tryz.prog w = .ok (.int .u8 (y.toNat : Int)) w := hiy
      have HX2 : Hid (isX s.data.toList = decide (x = 48 ∧ (y = 120 ∨ y = 88))) := isX_two HX.out hy0
      clear hiy hy0
      have hz0 : ((0 : Int) == (s.size : Int)) = false := by rw [beq_eq_false_iff_ne]; omega
      by_cases hx : x = 48
      · subst hx
        have hix' : ∀ w, (Instr.index 9 (.string s) (.int .i64 0)).run Tryz.prog w = .ok (.int .u8 48) w := hix0
        clear hix0
        by_cases hyx : y = 120
        · subst hyx
          have hiy' : ∀ w, (Instr.index 9 (.string s) (.int .i64 1)).run Tryz.prog w = .ok (.int .u8 120) w := hiy0
          clear hiy0
          have HI : Hid (isX s.data.toList = true) := by show _ = _; rw [HX2.out]; rfl
          clear HX2
          by_cases h2 : s.size = 2
          · have HN : Hid (r = none) := by
              show r = none
              rw [← HR.out]
              unfold numL
              rw [HI.out, if_pos rfl, List.drop_eq_nil_of_le (by rw [HL.out]; omega), numB_nil1]
              rfl
            have hz2 : ((2 : Int) == (s.size : Int)) = true := by rw [h2]; rfl
            clear h2
            go_enter Tryz.func74, Tryz.ntmps74
            go_wp2
            go_ret3
            exact ⟨by rw [HN.out]; rfl, rfl⟩
          have hz2 : ((2 : Int) == (s.size : Int)) = false := by rw [beq_eq_false_iff_ne]; omega
          have HJ : Hid (r = (numR 16 0 (s.data.toList.drop 2)).map (·, true)) := by
            show r = _
            rw [← HR.out]
            unfold numL
            rw [HI.out, if_pos rfl, numB_R _ _ (fun e => by have := congrArg List.length e; rw [List.length_drop, HL.out] at this; simp at this; omega)]
          go_enter Tryz.func74, Tryz.ntmps74
          go_wp2
          go_loop [7, 8] (fun vv vi => ∃ (k v : Nat), 2 ≤ k ∧ k ≤ s.size ∧ vi = .int .i64 (k : Int) ∧ vv = .int .u64 (v : Int) ∧ v ≤ 4294967295 ∧ Hid (r = (numR 16 v (s.data.toList.drop k)).map (·, true))) (fun _ vi => s.size - (intOf vi).toNat)
          case atStart => exact ⟨2, 0, by omega, by omega, rfl, rfl, by omega, HJ⟩
          case round =>
            obtain ⟨k, v, hfk, hks, rfl, rfl, hv, hh⟩ := hrel
            by_cases hlt : k < s.size
            · have hlt' : (k : Int) < s.size := by omega
              obtain ⟨z, hz0, hiz⟩ := at_some hlt
              have hd := drop_cons1 hz0
              have cd := rdigit_any z
              have HBad : Hid (16 ≤ hexV z → r = none) := fun h => by rw [hh.out, hd, numR_bad _ _ _ _ h]; rfl
              have HOver : Hid (4294967295 < v * 16 + hexV z → r = none) := fun h => by rw [hh.out, hd, numR_over _ _ _ _ (by omega) h]; rfl
              have HStep : Hid (hexV z < 16 → r = (numR 16 (v * 16 + hexV z) (s.data.toList.drop (k + 1))).map (·, true)) := fun h => by rw [hh.out, hd, numR_step _ _ _ _ h]
              have hz256 := z.toNat_lt
              clear hd hz0 hh
              cases hG : isG z with
              | true =>
                obtain ⟨hv0, hg1, hg2⟩ := hexV_dig hG
                rw [hG] at cd
                rw [hv0] at HBad HOver HStep
                clear hv0 hG
                by_cases hov : 4294967295 < v * 16 + (z.toNat - 48)
                · have iov : (4294967295 : Int) < (v : Int) * 16 + ((z.toNat : Int) - 48) := by omega
                  have HN : Hid (r = none) := HOver.out hov
                  clear HBad HOver HStep hov
                  go_wp2_with (go_at_call 73; refine (cd _).mono ?_; rintro e w' ⟨rfl, rfl⟩)
                  go_ret3
                  exact ⟨by rw [HN.out]; rfl, rfl⟩
                · have iov : (v : Int) * 16 + ((z.toNat : Int) - 48) ≤ 4294967295 := by omega
                  have HN : Hid (r = (numR 16 (v * 16 + (z.toNat - 48)) (s.data.toList.drop (k + 1))).map (·, true)) := HStep.out (by omega)
                  clear HBad HOver HStep
                  go_wp2_with (go_at_call 73; refine (cd _).mono ?_; rintro e w' ⟨rfl, rfl⟩)
                  go_round
                  case rel => exact ⟨k + 1, v * 16 + (z.toNat - 48), by omega, by omega, by go_num, (by first | rfl | (congr 1; omega)), by omega, HN⟩
                  case measure => simp [intOf]; omega
              | false =>
                rw [hG] at cd
                by_cases hlow : 97 ≤ z.toNat ∧ z.toNat ≤ 102
                · obtain ⟨hl1, hl2⟩ := hlow
                  have hv0 := hexV_low hG hl1 hl2
                  rw [hv0] at HBad HOver HStep
                  have i1 : (97 : Int) ≤ z.toNat := by omega
                  have i2 : (z.toNat : Int) ≤ 102 := by omega
                  clear hv0 hG
                  by_cases hov : 4294967295 < v * 16 + (z.toNat - 87)
                  · have iov : (4294967295 : Int) < (v : Int) * 16 + ((z.toNat : Int) - 97 + 10) := by omega
                    have HN : Hid (r = none) := HOver.out hov
                    clear HBad HOver HStep hov
                    go_wp2_with (go_at_call 73; refine (cd _).mono ?_; rintro e w' ⟨rfl, rfl⟩)
                    go_ret3
                    exact ⟨by rw [HN.out]; rfl, rfl⟩
                  · have iov : (v : Int) * 16 + ((z.toNat : Int) - 97 + 10) ≤ 4294967295 := by omega
                    have HN : Hid (r = (numR 16 (v * 16 + (z.toNat - 87)) (s.data.toList.drop (k + 1))).map (·, true)) := HStep.out (by omega)
                    clear HBad HOver HStep
                    go_wp2_with (go_at_call 73; refine (cd _).mono ?_; rintro e w' ⟨rfl, rfl⟩)
                    go_round
                    case rel => exact ⟨k + 1, v * 16 + (z.toNat - 87), by omega, by omega, by go_num, (by first | rfl | (congr 1; omega)), by omega, HN⟩
                    case measure => simp [intOf]; omega
                · by_cases hup : 65 ≤ z.toNat ∧ z.toNat ≤ 70
                  · obtain ⟨hl1, hl2⟩ := hup
                    have hv0 := hexV_up hG hl1 hl2
                    rw [hv0] at HBad HOver HStep
                    have i0 : ¬ (97 : Int) ≤ z.toNat := by omega
                    have i1 : (65 : Int) ≤ z.toNat := by omega
                    have i2 : (z.toNat : Int) ≤ 70 := by omega
                    clear hv0 hG
                    by_cases hov : 4294967295 < v * 16 + (z.toNat - 55)
                    · have iov : (4294967295 : Int) < (v : Int) * 16 + ((z.toNat : Int) - 65 + 10) := by omega
                      have HN : Hid (r = none) := HOver.out hov
                      clear HBad HOver HStep hov
                      go_wp2_with (go_at_call 73; refine (cd _).mono ?_; rintro e w' ⟨rfl, rfl⟩)
                      go_ret3
                      exact ⟨by rw [HN.out]; rfl, rfl⟩
                    · have iov : (v : Int) * 16 + ((z.toNat : Int) - 65 + 10) ≤ 4294967295 := by omega
                      have HN : Hid (r = (numR 16 (v * 16 + (z.toNat - 55)) (s.data.toList.drop (k + 1))).map (·, true)) := HStep.out (by omega)
                      clear HBad HOver HStep
                      go_wp2_with (go_at_call 73; refine (cd _).mono ?_; rintro e w' ⟨rfl, rfl⟩)
                      go_round
                      case rel => exact ⟨k + 1, v * 16 + (z.toNat - 55), by omega, by omega, by go_num, (by first | rfl | (congr 1; omega)), by omega, HN⟩
                      case measure => simp [intOf]; omega
                  · have hv0 := hexV_no hG hlow hup
                    have HN : Hid (r = none) := HBad.out (by rw [hv0]; omega)
                    have q1 : (z.toNat : Int) < 97 ∨ 102 < (z.toNat : Int) := by omega
                    have q2 : (z.toNat : Int) < 65 ∨ 70 < (z.toNat : Int) := by omega
                    clear HBad HOver HStep hv0 hG hlow hup
                    rcases q1 with q1 | q1
                    · rcases q2 with q2 | q2
                      · go_wp2_with (go_at_call 73; refine (cd _).mono ?_; rintro e w' ⟨rfl, rfl⟩)
                        go_ret3
                        exact ⟨by rw [HN.out]; rfl, rfl⟩
                      · go_wp2_with (go_at_call 73; refine (cd _).mono ?_; rintro e w' ⟨rfl, rfl⟩)
                        go_ret3
                        exact ⟨by rw [HN.out]; rfl, rfl⟩
                    · have q3 : 70 < (z.toNat : Int) := by omega
                      clear q2
                      go_wp2_with (go_at_call 73; refine (cd _).mono ?_; rintro e w' ⟨rfl, rfl⟩)
                      go_ret3
                      exact ⟨by rw [HN.out]; rfl, rfl⟩
            · have hlt' : ¬ (k : Int) < s.size := by omega
              have HN : Hid (r = some (v, true)) := by
                show r = _
                rw [hh.out, List.drop_eq_nil_of_le (by rw [HL.out]; omega), numR_nil _ _ hv]
                rfl
              clear hh
              go_wp2
              go_ret3
              exact ⟨by rw [HN.out]; rfl, rfl⟩
        · by_cases hyX : y = 88
          · subst hyX
            have hiy' : ∀ w, (Instr.index 9 (.string s) (.int .i64 1)).run Tryz.prog w = .ok (.int .u8 88) w := hiy0
            clear hiy0
            have HI : Hid (isX s.data.toList = true) := by show _ = _; rw [HX2.out]; rfl
            clear HX2
            by_cases h2 : s.size = 2
            · have HN : Hid (r = none) := by
                show r = none
                rw [← HR.out]
                unfold numL
                rw [HI.out, if_pos rfl, List.drop_eq_nil_of_le (by rw [HL.out]; omega), numB_nil1]
                rfl
              have hz2 : ((2 : Int) == (s.size : Int)) = true := by rw [h2]; rfl
              clear h2
              go_enter Tryz.func74, Tryz.ntmps74
              go_wp2
              go_ret3
              exact ⟨by rw [HN.out]; rfl, rfl⟩
            have hz2 : ((2 : Int) == (s.size : Int)) = false := by rw [beq_eq_false_iff_ne]; omega
            have HJ : Hid (r = (numR 16 0 (s.data.toList.drop 2)).map (·, true)) := by
              show r = _
              rw [← HR.out]
              unfold numL
              rw [HI.out, if_pos rfl, numB_R _ _ (fun e => by have := congrArg List.length e; rw [List.length_drop, HL.out] at this; simp at this; omega)]
            go_enter Tryz.func74, Tryz.ntmps74
            go_wp2
            go_loop [7, 8] (fun vv vi => ∃ (k v : Nat), 2 ≤ k ∧ k ≤ s.size ∧ vi = .int .i64 (k : Int) ∧ vv = .int .u64 (v : Int) ∧ v ≤ 4294967295 ∧ Hid (r = (numR 16 v (s.data.toList.drop k)).map (·, true))) (fun _ vi => s.size - (intOf vi).toNat)
            case atStart => exact ⟨2, 0, by omega, by omega, rfl, rfl, by omega, HJ⟩
            case round =>
              obtain ⟨k, v, hfk, hks, rfl, rfl, hv, hh⟩ := hrel
              by_cases hlt : k < s.size
              · have hlt' : (k : Int) < s.size := by omega
                obtain ⟨z, hz0, hiz⟩ := at_some hlt
                have hd := drop_cons1 hz0
                have cd := rdigit_any z
                have HBad : Hid (16 ≤ hexV z → r = none) := fun h => by rw [hh.out, hd, numR_bad _ _ _ _ h]; rfl
                have HOver : Hid (4294967295 < v * 16 + hexV z → r = none) := fun h => by rw [hh.out, hd, numR_over _ _ _ _ (by omega) h]; rfl
                have HStep : Hid (hexV z < 16 → r = (numR 16 (v * 16 + hexV z) (s.data.toList.drop (k + 1))).map (·, true)) := fun h => by rw [hh.out, hd, numR_step _ _ _ _ h]
                have hz256 := z.toNat_lt
                clear hd hz0 hh
                cases hG : isG z with
                | true =>
                  obtain ⟨hv0, hg1, hg2⟩ := hexV_dig hG
                  rw [hG] at cd
                  rw [hv0] at HBad HOver HStep
                  clear hv0 hG
                  by_cases hov : 4294967295 < v * 16 + (z.toNat - 48)
                  · have iov : (4294967295 : Int) < (v : Int) * 16 + ((z.toNat : Int) - 48) := by omega
                    have HN : Hid (r = none) := HOver.out hov
                    clear HBad HOver HStep hov
                    go_wp2_with (go_at_call 73; refine (cd _).mono ?_; rintro e w' ⟨rfl, rfl⟩)
                    go_ret3
                    exact ⟨by rw [HN.out]; rfl, rfl⟩
                  · have iov : (v : Int) * 16 + ((z.toNat : Int) - 48) ≤ 4294967295 := by omega
                    have HN : Hid (r = (numR 16 (v * 16 + (z.toNat - 48)) (s.data.toList.drop (k + 1))).map (·, true)) := HStep.out (by omega)
                    clear HBad HOver HStep
                    go_wp2_with (go_at_call 73; refine (cd _).mono ?_; rintro e w' ⟨rfl, rfl⟩)
                    go_round
                    case rel => exact ⟨k + 1, v * 16 + (z.toNat - 48), by omega, by omega, by go_num, (by first | rfl | (congr 1; omega)), by omega, HN⟩
                    case measure => simp [intOf]; omega
                | false =>
                  rw [hG] at cd
                  by_cases hlow : 97 ≤ z.toNat ∧ z.toNat ≤ 102
                  · obtain ⟨hl1, hl2⟩ := hlow
                    have hv0 := hexV_low hG hl1 hl2
                    rw [hv0] at HBad HOver HStep
                    have i1 : (97 : Int) ≤ z.toNat := by omega
                    have i2 : (z.toNat : Int) ≤ 102 := by omega
                    clear hv0 hG
                    by_cases hov : 4294967295 < v * 16 + (z.toNat - 87)
                    · have iov : (4294967295 : Int) < (v : Int) * 16 + ((z.toNat : Int) - 97 + 10) := by omega
                      have HN : Hid (r = none) := HOver.out hov
                      clear HBad HOver HStep hov
                      go_wp2_with (go_at_call 73; refine (cd _).mono ?_; rintro e w' ⟨rfl, rfl⟩)
                      go_ret3
                      exact ⟨by rw [HN.out]; rfl, rfl⟩
                    · have iov : (v : Int) * 16 + ((z.toNat : Int) - 97 + 10) ≤ 4294967295 := by omega
                      have HN : Hid (r = (numR 16 (v * 16 + (z.toNat - 87)) (s.data.toList.drop (k + 1))).map (·, true)) := HStep.out (by omega)
                      clear HBad HOver HStep
                      go_wp2_with (go_at_call 73; refine (cd _).mono ?_; rintro e w' ⟨rfl, rfl⟩)
                      go_round
                      case rel => exact ⟨k + 1, v * 16 + (z.toNat - 87), by omega, by omega, by go_num, (by first | rfl | (congr 1; omega)), by omega, HN⟩
                      case measure => simp [intOf]; omega
                  · by_cases hup : 65 ≤ z.toNat ∧ z.toNat ≤ 70
                    · obtain ⟨hl1, hl2⟩ := hup
                      have hv0 := hexV_up hG hl1 hl2
                      rw [hv0] at HBad HOver HStep
                      have i0 : ¬ (97 : Int) ≤ z.toNat := by omega
                      have i1 : (65 : Int) ≤ z.toNat := by omega
                      have i2 : (z.toNat : Int) ≤ 70 := by omega
                      clear hv0 hG
                      by_cases hov : 4294967295 < v * 16 + (z.toNat - 55)
                      · have iov : (4294967295 : Int) < (v : Int) * 16 + ((z.toNat : Int) - 65 + 10) := by omega
                        have HN : Hid (r = none) := HOver.out hov
                        clear HBad HOver HStep hov
                        go_wp2_with (go_at_call 73; refine (cd _).mono ?_; rintro e w' ⟨rfl, rfl⟩)
                        go_ret3
                        exact ⟨by rw [HN.out]; rfl, rfl⟩
                      · have iov : (v : Int) * 16 + ((z.toNat : Int) - 65 + 10) ≤ 4294967295 := by omega
                        have HN : Hid (r = (numR 16 (v * 16 + (z.toNat - 55)) (s.data.toList.drop (k + 1))).map (·, true)) := HStep.out (by omega)
                        clear HBad HOver HStep
                        go_wp2_with (go_at_call 73; refine (cd _).mono ?_; rintro e w' ⟨rfl, rfl⟩)
                        go_round
                        case rel => exact ⟨k + 1, v * 16 + (z.toNat - 55), by omega, by omega, by go_num, (by first | rfl | (congr 1; omega)), by omega, HN⟩
                        case measure => simp [intOf]; omega
                    · have hv0 := hexV_no hG hlow hup
                      have HN : Hid (r = none) := HBad.out (by rw [hv0]; omega)
                      have q1 : (z.toNat : Int) < 97 ∨ 102 < (z.toNat : Int) := by omega
                      have q2 : (z.toNat : Int) < 65 ∨ 70 < (z.toNat : Int) := by omega
                      clear HBad HOver HStep hv0 hG hlow hup
                      rcases q1 with q1 | q1
                      · rcases q2 with q2 | q2
                        · go_wp2_with (go_at_call 73; refine (cd _).mono ?_; rintro e w' ⟨rfl, rfl⟩)
                          go_ret3
                          exact ⟨by rw [HN.out]; rfl, rfl⟩
                        · go_wp2_with (go_at_call 73; refine (cd _).mono ?_; rintro e w' ⟨rfl, rfl⟩)
                          go_ret3
                          exact ⟨by rw [HN.out]; rfl, rfl⟩
                      · have q3 : 70 < (z.toNat : Int) := by omega
                        clear q2
                        go_wp2_with (go_at_call 73; refine (cd _).mono ?_; rintro e w' ⟨rfl, rfl⟩)
                        go_ret3
                        exact ⟨by rw [HN.out]; rfl, rfl⟩
              · have hlt' : ¬ (k : Int) < s.size := by omega
                have HN : Hid (r = some (v, true)) := by
                  show r = _
                  rw [hh.out, List.drop_eq_nil_of_le (by rw [HL.out]; omega), numR_nil _ _ hv]
                  rfl
                clear hh
                go_wp2
                go_ret3
                exact ⟨by rw [HN.out]; rfl, rfl⟩
          · have e1 : ((y.toNat : Int) == 120) = false := u8_ne hyx
            have e2 : ((y.toNat : Int) == 88) = false := u8_ne hyX
            have HN : Hid (r = none) := by
              show r = none
              rw [← HR.out]
              unfold numL
              rw [HX2.out, decide_eq_false (by rintro ⟨_, h | h⟩; exact hyx h; exact hyX h), if_neg (by decide), if_pos ⟨by rw [List.head?_eq_getElem?]; exact HX.out, by rw [HL.out]; exact h1⟩]
            clear hyx hyX
            go_enter Tryz.func74, Tryz.ntmps74
            go_wp2
            go_ret3
            exact ⟨by rw [HN.out]; rfl, rfl⟩
      · have e0 : ((x.toNat : Int) == 48) = false := u8_ne hx
        have HI : Hid (isX s.data.toList = false) := by show _ = _; rw [HX2.out]; exact decide_eq_false (fun h => hx h.1)
        have HJ : Hid (r = (numR 10 0 (s.data.toList.drop 0)).map (·, false)) := by
          show r = _
          rw [← HR.out]
          unfold numL
          rw [HI.out, if_neg (by decide), if_neg (by rintro ⟨h, _⟩; rw [List.head?_eq_getElem?, HX.out] at h; exact hx (Option.some.inj h)), numB_R _ _ (fun e => by have := HL.out; rw [e] at this; simp at this; omega)]
          rfl
        clear hx HX2 hiy0
        go_enter Tryz.func74, Tryz.ntmps74
        go_wp2
        go_loop [7, 8] (fun vv vi => ∃ (k v : Nat), 0 ≤ k ∧ k ≤ s.size ∧ vi = .int .i64 (k : Int) ∧ vv = .int .u64 (v : Int) ∧ v ≤ 4294967295 ∧ Hid (r = (numR 10 v (s.data.toList.drop k)).map (·, false))) (fun _ vi => s.size - (intOf vi).toNat)
        case atStart => exact ⟨0, 0, by omega, by omega, rfl, rfl, by omega, HJ⟩
        case round =>
          obtain ⟨k, v, hfk, hks, rfl, rfl, hv, hh⟩ := hrel
          by_cases hlt : k < s.size
          · have hlt' : (k : Int) < s.size := by omega
            obtain ⟨z, hz0, hiz⟩ := at_some hlt
            have hd := drop_cons1 hz0
            have cd := rdigit_any z
            have HBad : Hid (10 ≤ hexV z → r = none) := fun h => by rw [hh.out, hd, numR_bad _ _ _ _ h]; rfl
            have HOver : Hid (4294967295 < v * 10 + hexV z → r = none) := fun h => by rw [hh.out, hd, numR_over _ _ _ _ (by omega) h]; rfl
            have HStep : Hid (hexV z < 10 → r = (numR 10 (v * 10 + hexV z) (s.data.toList.drop (k + 1))).map (·, false)) := fun h => by rw [hh.out, hd, numR_step _ _ _ _ h]
            have hz256 := z.toNat_lt
            clear hd hz0 hh
            cases hG : isG z with
            | true =>
              obtain ⟨hv0, hg1, hg2⟩ := hexV_dig hG
              rw [hG] at cd
              rw [hv0] at HBad HOver HStep
              clear hv0 hG
              by_cases hov : 4294967295 < v * 10 + (z.toNat - 48)
              · have iov : (4294967295 : Int) < (v : Int) * 10 + ((z.toNat : Int) - 48) := by omega
                have HN : Hid (r = none) := HOver.out hov
                clear HBad HOver HStep hov
                go_wp2_with (go_at_call 73; refine (cd _).mono ?_; rintro e w' ⟨rfl, rfl⟩)
                go_ret3
                exact ⟨by rw [HN.out]; rfl, rfl⟩
              · have iov : (v : Int) * 10 + ((z.toNat : Int) - 48) ≤ 4294967295 := by omega
                have HN : Hid (r = (numR 10 (v * 10 + (z.toNat - 48)) (s.data.toList.drop (k + 1))).map (·, false)) := HStep.out (by omega)
                clear HBad HOver HStep
                go_wp2_with (go_at_call 73; refine (cd _).mono ?_; rintro e w' ⟨rfl, rfl⟩)
                go_round
                case rel => exact ⟨k + 1, v * 10 + (z.toNat - 48), by omega, by omega, by go_num, (by first | rfl | (congr 1; omega)), by omega, HN⟩
                case measure => simp [intOf]; omega
            | false =>
              rw [hG] at cd
              by_cases hlow : 97 ≤ z.toNat ∧ z.toNat ≤ 102
              · obtain ⟨hl1, hl2⟩ := hlow
                have hv0 := hexV_low hG hl1 hl2
                rw [hv0] at HBad HOver HStep
                have i1 : (97 : Int) ≤ z.toNat := by omega
                have i2 : (z.toNat : Int) ≤ 102 := by omega
                clear hv0 hG
                have HN : Hid (r = none) := HBad.out (by omega)
                clear HBad HOver HStep
                go_wp2_with (go_at_call 73; refine (cd _).mono ?_; rintro e w' ⟨rfl, rfl⟩)
                go_ret3
                exact ⟨by rw [HN.out]; rfl, rfl⟩
              · by_cases hup : 65 ≤ z.toNat ∧ z.toNat ≤ 70
                · obtain ⟨hl1, hl2⟩ := hup
                  have hv0 := hexV_up hG hl1 hl2
                  rw [hv0] at HBad HOver HStep
                  have i0 : ¬ (97 : Int) ≤ z.toNat := by omega
                  have i1 : (65 : Int) ≤ z.toNat := by omega
                  have i2 : (z.toNat : Int) ≤ 70 := by omega
                  clear hv0 hG
                  have HN : Hid (r = none) := HBad.out (by omega)
                  clear HBad HOver HStep
                  go_wp2_with (go_at_call 73; refine (cd _).mono ?_; rintro e w' ⟨rfl, rfl⟩)
                  go_ret3
                  exact ⟨by rw [HN.out]; rfl, rfl⟩
                · have hv0 := hexV_no hG hlow hup
                  have HN : Hid (r = none) := HBad.out (by rw [hv0]; omega)
                  have q1 : (z.toNat : Int) < 97 ∨ 102 < (z.toNat : Int) := by omega
                  have q2 : (z.toNat : Int) < 65 ∨ 70 < (z.toNat : Int) := by omega
                  clear HBad HOver HStep hv0 hG hlow hup
                  rcases q1 with q1 | q1
                  · rcases q2 with q2 | q2
                    · go_wp2_with (go_at_call 73; refine (cd _).mono ?_; rintro e w' ⟨rfl, rfl⟩)
                      go_ret3
                      exact ⟨by rw [HN.out]; rfl, rfl⟩
                    · go_wp2_with (go_at_call 73; refine (cd _).mono ?_; rintro e w' ⟨rfl, rfl⟩)
                      go_ret3
                      exact ⟨by rw [HN.out]; rfl, rfl⟩
                  · have q3 : 70 < (z.toNat : Int) := by omega
                    clear q2
                    go_wp2_with (go_at_call 73; refine (cd _).mono ?_; rintro e w' ⟨rfl, rfl⟩)
                    go_ret3
                    exact ⟨by rw [HN.out]; rfl, rfl⟩
          · have hlt' : ¬ (k : Int) < s.size := by omega
            have HN : Hid (r = some (v, false)) := by
              show r = _
              rw [hh.out, List.drop_eq_nil_of_le (by rw [HL.out]; omega), numR_nil _ _ hv]
              rfl
            clear hh
            go_wp2
            go_ret3
            exact ⟨by rw [HN.out]; rfl, rfl⟩
    · have h1' : ¬ (1 : Int) < s.size := by omega
      have hz0 : ((0 : Int) == (s.size : Int)) = false := by rw [beq_eq_false_iff_ne]; omega
      have HJ : Hid (r = (numR 10 0 (s.data.toList.drop 0)).map (·, false)) := by
        show r = _
        rw [← HR.out]
        unfold numL
        rw [isX_short (by rw [HL.out]; omega), if_neg (by decide), if_neg (by rintro ⟨_, h⟩; rw [HL.out] at h; omega), numB_R _ _ (fun e => by have := HL.out; rw [e] at this; simp at this; omega)]
        rfl
      by_cases hx : x = 48
      · subst hx
        have hix' : ∀ w, (Instr.index 9 (.string s) (.int .i64 0)).run Tryz.prog w = .ok (.int .u8 48) w := hix0
        clear hix0
        go_enter Tryz.func74, Tryz.ntmps74
        go_wp2
        go_loop [7, 8] (fun vv vi => ∃ (k v : Nat), 0 ≤ k ∧ k ≤ s.size ∧ vi = .int .i64 (k : Int) ∧ vv = .int .u64 (v : Int) ∧ v ≤ 4294967295 ∧ Hid (r = (numR 10 v (s.data.toList.drop k)).map (·, false))) (fun _ vi => s.size - (intOf vi).toNat)
        case atStart => exact ⟨0, 0, by omega, by omega, rfl, rfl, by omega, HJ⟩
        case round =>
          obtain ⟨k, v, hfk, hks, rfl, rfl, hv, hh⟩ := hrel
          by_cases hlt : k < s.size
          · have hlt' : (k : Int) < s.size := by omega
            obtain ⟨z, hz0, hiz⟩ := at_some hlt
            have hd := drop_cons1 hz0
            have cd := rdigit_any z
            have HBad : Hid (10 ≤ hexV z → r = none) := fun h => by rw [hh.out, hd, numR_bad _ _ _ _ h]; rfl
            have HOver : Hid (4294967295 < v * 10 + hexV z → r = none) := fun h => by rw [hh.out, hd, numR_over _ _ _ _ (by omega) h]; rfl
            have HStep : Hid (hexV z < 10 → r = (numR 10 (v * 10 + hexV z) (s.data.toList.drop (k + 1))).map (·, false)) := fun h => by rw [hh.out, hd, numR_step _ _ _ _ h]
            have hz256 := z.toNat_lt
            clear hd hz0 hh
            cases hG : isG z with
            | true =>
              obtain ⟨hv0, hg1, hg2⟩ := hexV_dig hG
              rw [hG] at cd
              rw [hv0] at HBad HOver HStep
              clear hv0 hG
              by_cases hov : 4294967295 < v * 10 + (z.toNat - 48)
              · have iov : (4294967295 : Int) < (v : Int) * 10 + ((z.toNat : Int) - 48) := by omega
                have HN : Hid (r = none) := HOver.out hov
                clear HBad HOver HStep hov
                go_wp2_with (go_at_call 73; refine (cd _).mono ?_; rintro e w' ⟨rfl, rfl⟩)
                go_ret3
                exact ⟨by rw [HN.out]; rfl, rfl⟩
              · have iov : (v : Int) * 10 + ((z.toNat : Int) - 48) ≤ 4294967295 := by omega
                have HN : Hid (r = (numR 10 (v * 10 + (z.toNat - 48)) (s.data.toList.drop (k + 1))).map (·, false)) := HStep.out (by omega)
                clear HBad HOver HStep
                go_wp2_with (go_at_call 73; refine (cd _).mono ?_; rintro e w' ⟨rfl, rfl⟩)
                go_round
                case rel => exact ⟨k + 1, v * 10 + (z.toNat - 48), by omega, by omega, by go_num, (by first | rfl | (congr 1; omega)), by omega, HN⟩
                case measure => simp [intOf]; omega
            | false =>
              rw [hG] at cd
              by_cases hlow : 97 ≤ z.toNat ∧ z.toNat ≤ 102
              · obtain ⟨hl1, hl2⟩ := hlow
                have hv0 := hexV_low hG hl1 hl2
                rw [hv0] at HBad HOver HStep
                have i1 : (97 : Int) ≤ z.toNat := by omega
                have i2 : (z.toNat : Int) ≤ 102 := by omega
                clear hv0 hG
                have HN : Hid (r = none) := HBad.out (by omega)
                clear HBad HOver HStep
                go_wp2_with (go_at_call 73; refine (cd _).mono ?_; rintro e w' ⟨rfl, rfl⟩)
                go_ret3
                exact ⟨by rw [HN.out]; rfl, rfl⟩
              · by_cases hup : 65 ≤ z.toNat ∧ z.toNat ≤ 70
                · obtain ⟨hl1, hl2⟩ := hup
                  have hv0 := hexV_up hG hl1 hl2
                  rw [hv0] at HBad HOver HStep
                  have i0 : ¬ (97 : Int) ≤ z.toNat := by omega
                  have i1 : (65 : Int) ≤ z.toNat := by omega
                  have i2 : (z.toNat : Int) ≤ 70 := by omega
                  clear hv0 hG
                  have HN : Hid (r = none) := HBad.out (by omega)
                  clear HBad HOver HStep
                  go_wp2_with (go_at_call 73; refine (cd _).mono ?_; rintro e w' ⟨rfl, rfl⟩)
                  go_ret3
                  exact ⟨by rw [HN.out]; rfl, rfl⟩
                · have hv0 := hexV_no hG hlow hup
                  have HN : Hid (r = none) := HBad.out (by rw [hv0]; omega)
                  have q1 : (z.toNat : Int) < 97 ∨ 102 < (z.toNat : Int) := by omega
                  have q2 : (z.toNat : Int) < 65 ∨ 70 < (z.toNat : Int) := by omega
                  clear HBad HOver HStep hv0 hG hlow hup
                  rcases q1 with q1 | q1
                  · rcases q2 with q2 | q2
                    · go_wp2_with (go_at_call 73; refine (cd _).mono ?_; rintro e w' ⟨rfl, rfl⟩)
                      go_ret3
                      exact ⟨by rw [HN.out]; rfl, rfl⟩
                    · go_wp2_with (go_at_call 73; refine (cd _).mono ?_; rintro e w' ⟨rfl, rfl⟩)
                      go_ret3
                      exact ⟨by rw [HN.out]; rfl, rfl⟩
                  · have q3 : 70 < (z.toNat : Int) := by omega
                    clear q2
                    go_wp2_with (go_at_call 73; refine (cd _).mono ?_; rintro e w' ⟨rfl, rfl⟩)
                    go_ret3
                    exact ⟨by rw [HN.out]; rfl, rfl⟩
          · have hlt' : ¬ (k : Int) < s.size := by omega
            have HN : Hid (r = some (v, false)) := by
              show r = _
              rw [hh.out, List.drop_eq_nil_of_le (by rw [HL.out]; omega), numR_nil _ _ hv]
              rfl
            clear hh
            go_wp2
            go_ret3
            exact ⟨by rw [HN.out]; rfl, rfl⟩
      · have e0 : ((x.toNat : Int) == 48) = false := u8_ne hx
        clear hx
        go_enter Tryz.func74, Tryz.ntmps74
        go_wp2
        go_loop [7, 8] (fun vv vi => ∃ (k v : Nat), 0 ≤ k ∧ k ≤ s.size ∧ vi = .int .i64 (k : Int) ∧ vv = .int .u64 (v : Int) ∧ v ≤ 4294967295 ∧ Hid (r = (numR 10 v (s.data.toList.drop k)).map (·, false))) (fun _ vi => s.size - (intOf vi).toNat)
        case atStart => exact ⟨0, 0, by omega, by omega, rfl, rfl, by omega, HJ⟩
        case round =>
          obtain ⟨k, v, hfk, hks, rfl, rfl, hv, hh⟩ := hrel
          by_cases hlt : k < s.size
          · have hlt' : (k : Int) < s.size := by omega
            obtain ⟨z, hz0, hiz⟩ := at_some hlt
            have hd := drop_cons1 hz0
            have cd := rdigit_any z
            have HBad : Hid (10 ≤ hexV z → r = none) := fun h => by rw [hh.out, hd, numR_bad _ _ _ _ h]; rfl
            have HOver : Hid (4294967295 < v * 10 + hexV z → r = none) := fun h => by rw [hh.out, hd, numR_over _ _ _ _ (by omega) h]; rfl
            have HStep : Hid (hexV z < 10 → r = (numR 10 (v * 10 + hexV z) (s.data.toList.drop (k + 1))).map (·, false)) := fun h => by rw [hh.out, hd, numR_step _ _ _ _ h]
            have hz256 := z.toNat_lt
            clear hd hz0 hh
            cases hG : isG z with
            | true =>
              obtain ⟨hv0, hg1, hg2⟩ := hexV_dig hG
              rw [hG] at cd
              rw [hv0] at HBad HOver HStep
              clear hv0 hG
              by_cases hov : 4294967295 < v * 10 + (z.toNat - 48)
              · have iov : (4294967295 : Int) < (v : Int) * 10 + ((z.toNat : Int) - 48) := by omega
                have HN : Hid (r = none) := HOver.out hov
                clear HBad HOver HStep hov
                go_wp2_with (go_at_call 73; refine (cd _).mono ?_; rintro e w' ⟨rfl, rfl⟩)
                go_ret3
                exact ⟨by rw [HN.out]; rfl, rfl⟩
              · have iov : (v : Int) * 10 + ((z.toNat : Int) - 48) ≤ 4294967295 := by omega
                have HN : Hid (r = (numR 10 (v * 10 + (z.toNat - 48)) (s.data.toList.drop (k + 1))).map (·, false)) := HStep.out (by omega)
                clear HBad HOver HStep
                go_wp2_with (go_at_call 73; refine (cd _).mono ?_; rintro e w' ⟨rfl, rfl⟩)
                go_round
                case rel => exact ⟨k + 1, v * 10 + (z.toNat - 48), by omega, by omega, by go_num, (by first | rfl | (congr 1; omega)), by omega, HN⟩
                case measure => simp [intOf]; omega
            | false =>
              rw [hG] at cd
              by_cases hlow : 97 ≤ z.toNat ∧ z.toNat ≤ 102
              · obtain ⟨hl1, hl2⟩ := hlow
                have hv0 := hexV_low hG hl1 hl2
                rw [hv0] at HBad HOver HStep
                have i1 : (97 : Int) ≤ z.toNat := by omega
                have i2 : (z.toNat : Int) ≤ 102 := by omega
                clear hv0 hG
                have HN : Hid (r = none) := HBad.out (by omega)
                clear HBad HOver HStep
                go_wp2_with (go_at_call 73; refine (cd _).mono ?_; rintro e w' ⟨rfl, rfl⟩)
                go_ret3
                exact ⟨by rw [HN.out]; rfl, rfl⟩
              · by_cases hup : 65 ≤ z.toNat ∧ z.toNat ≤ 70
                · obtain ⟨hl1, hl2⟩ := hup
                  have hv0 := hexV_up hG hl1 hl2
                  rw [hv0] at HBad HOver HStep
                  have i0 : ¬ (97 : Int) ≤ z.toNat := by omega
                  have i1 : (65 : Int) ≤ z.toNat := by omega
                  have i2 : (z.toNat : Int) ≤ 70 := by omega
                  clear hv0 hG
                  have HN : Hid (r = none) := HBad.out (by omega)
                  clear HBad HOver HStep
                  go_wp2_with (go_at_call 73; refine (cd _).mono ?_; rintro e w' ⟨rfl, rfl⟩)
                  go_ret3
                  exact ⟨by rw [HN.out]; rfl, rfl⟩
                · have hv0 := hexV_no hG hlow hup
                  have HN : Hid (r = none) := HBad.out (by rw [hv0]; omega)
                  have q1 : (z.toNat : Int) < 97 ∨ 102 < (z.toNat : Int) := by omega
                  have q2 : (z.toNat : Int) < 65 ∨ 70 < (z.toNat : Int) := by omega
                  clear HBad HOver HStep hv0 hG hlow hup
                  rcases q1 with q1 | q1
                  · rcases q2 with q2 | q2
                    · go_wp2_with (go_at_call 73; refine (cd _).mono ?_; rintro e w' ⟨rfl, rfl⟩)
                      go_ret3
                      exact ⟨by rw [HN.out]; rfl, rfl⟩
                    · go_wp2_with (go_at_call 73; refine (cd _).mono ?_; rintro e w' ⟨rfl, rfl⟩)
                      go_ret3
                      exact ⟨by rw [HN.out]; rfl, rfl⟩
                  · have q3 : 70 < (z.toNat : Int) := by omega
                    clear q2
                    go_wp2_with (go_at_call 73; refine (cd _).mono ?_; rintro e w' ⟨rfl, rfl⟩)
                    go_ret3
                    exact ⟨by rw [HN.out]; rfl, rfl⟩
          · have hlt' : ¬ (k : Int) < s.size := by omega
            have HN : Hid (r = some (v, false)) := by
              show r = _
              rw [hh.out, List.drop_eq_nil_of_le (by rw [HL.out]; omega), numR_nil _ _ hv]
              rfl
            clear hh
            go_wp2
            go_ret3
            exact ⟨by rw [HN.out]; rfl, rfl⟩
end Go.Proofs.YtlbgppijeoonjaaGreatDoor
