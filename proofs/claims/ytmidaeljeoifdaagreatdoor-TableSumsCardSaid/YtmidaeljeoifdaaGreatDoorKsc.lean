import Derived.Test.YtmidaeljeoifdaaGreatDoorKsb
namespace Go.Proofs.YtmidaeljeoifdaaGreatDoor
set_option maxRecDepth 100000
set_option maxHeartbeats 16000000
open Go.RowKit
set_option linter.unusedVariables false
theorem rName_any (s : ByteArray) (w : World) (hs : s.size < 9223372036854775808) : Calls Tryz.prog 160 #[.string s] w fun e w' => e = .returned (.bool (isNm s.data.toList)) ∧ w' = w := by
 have HL : Hid (s.data.toList.length = s.size) := by show _ = _; simp
 go_enter Tryz.func160, Tryz.ntmps160
 go_wp2
 go_loop [3, 4, 5] (fun i _ _ => ∃ j : Nat, j ≤ s.size ∧ i = .int .i64 j ∧ Hid (∀ (k : Nat) (c : UInt8), k < j → s.data.toList[k]? = some c → (isLt c || isDg c) = true) ∧ Hid (0 < j → ∀ c : UInt8, s.data.toList[0]? = some c → isLt c = true)) (fun i _ _ => s.size - (intOf i).toNat)
 case atStart => exact ⟨0, by omega, rfl, (fun k c h => absurd h (Nat.not_lt_zero _)), fun h => absurd h (Nat.lt_irrefl _)⟩
 case round =>
  obtain ⟨j, hj, rfl, HJ, H0⟩ := hrel
  by_cases hlt : j < s.size
  ·have hlt' : (j : Int) < s.size := by omega
   obtain ⟨y, hy⟩ : ∃ c, s[j]'hlt = c := ⟨_, rfl⟩
   have hiy : ∀ w, (Instr.index 9 (.string s) (.int .i64 (j : Int))).run Tryz.prog w = .ok (.int .u8 (y.toNat : Int)) w := fun w => by
    rw [← hy]; exact index_at s j _ w hlt rfl
   have HY : Hid (s.data.toList[j]? = some y) := by show _ = _; rw [← hy, List.getElem?_eq_getElem (by rw [HL.out]; exact hlt)]; rfl
   have HK : Hid ((isLt y || isDg y) = true → ∀ (k : Nat) (c : UInt8), k < j + 1 → s.data.toList[k]? = some c → (isLt c || isDg c) = true) := fun h k c hk hc => by
    by_cases e : k < j
    ·exact HJ.out k c e hc
    ·obtain rfl : k = j := by omega
     rw [HY.out] at hc
     cases hc
     exact h
   have HK0 : Hid (isLt y = true → ∀ c : UInt8, s.data.toList[0]? = some c → isLt c = true) := fun h c hc => by
    by_cases e : 0 < j
    ·exact H0.out e c hc
    ·obtain rfl : j = 0 := by omega
     rw [HY.out] at hc
     cases hc
     exact h
   clear hy
   generalize hyn : (y.toNat : Int) = z at *
   by_cases ha : 97 ≤ z ∧ z ≤ 122
   ·have d1 := ha.1
    have d2 := ha.2
    have HLt : Hid (isLt y = true) := by show _ = _; simp [isLt, inR, hyn, d1, d2]
    clear ha hyn
    go_wp2
    go_round
    case rel => exact ⟨j + 1, by omega, by go_num, HK.out (by rw [HLt.out]; rfl), fun _ => HK0.out HLt.out⟩
    case measure => simp [intOf]; omega
   ·by_cases hb : 97 ≤ z
    ·have hz1 : ¬ z ≤ 122 := by omega
     clear ha
     have f1 : 65 ≤ z := by omega
     have f2 : ¬ z ≤ 90 := by omega
     have e95 : (z == 95) = false := by rw [beq_eq_false_iff_ne]; omega
     have f3 : ¬ z < 48 := by omega
     have f4 : 57 < z := by omega
     have HLt : Hid (isLt y = false) := by show _ = _; simp only [isLt, inR, hyn]; simp; omega
     have HDg : Hid (isDg y = false) := by show _ = _; simp only [isDg, inR, hyn]; simp; omega
     have HF : Hid (isNm s.data.toList = false) := nm_bad _ j y HY.out (by rw [HLt.out, HDg.out]; rfl)
     clear hyn HK HK0
     cases hj0 : ((j : Int) == 0) with
     | true => go_wp2; go_ret; exact ⟨ret_bool HF.out.symm, rfl⟩
     | false => go_wp2; go_ret; exact ⟨ret_bool HF.out.symm, rfl⟩
    ·clear ha
     by_cases hc : 65 ≤ z
     ·by_cases hd : z ≤ 90
      ·skip
       have HLt : Hid (isLt y = true) := by show _ = _; simp only [isLt, inR, hyn]; simp; omega
       clear hyn
       go_wp2
       go_round
       case rel => exact ⟨j + 1, by omega, by go_num, HK.out (by rw [HLt.out]; rfl), fun _ => HK0.out HLt.out⟩
       case measure => simp [intOf]; omega
      ·by_cases he : z = 95
       ·have e95 : (z == 95) = true := by simpa using he
        have HLt : Hid (isLt y = true) := by show _ = _; simp only [isLt, inR, hyn]; simp [he]
        clear hyn he
        go_wp2
        go_round
        case rel => exact ⟨j + 1, by omega, by go_num, HK.out (by rw [HLt.out]; rfl), fun _ => HK0.out HLt.out⟩
        case measure => simp [intOf]; omega
       ·skip
        have e95 : (z == 95) = false := by rw [beq_eq_false_iff_ne]; omega
        have f3 : ¬ z < 48 := by omega
        have f4 : 57 < z := by omega
        have HLt : Hid (isLt y = false) := by show _ = _; simp only [isLt, inR, hyn]; simp; omega
        have HDg : Hid (isDg y = false) := by show _ = _; simp only [isDg, inR, hyn]; simp; omega
        have HF : Hid (isNm s.data.toList = false) := nm_bad _ j y HY.out (by rw [HLt.out, HDg.out]; rfl)
        clear hyn HK HK0 he
        cases hj0 : ((j : Int) == 0) with
        | true => go_wp2; go_ret; exact ⟨ret_bool HF.out.symm, rfl⟩
        | false => go_wp2; go_ret; exact ⟨ret_bool HF.out.symm, rfl⟩
     ·by_cases hd : z < 48
      ·skip
       have e95 : (z == 95) = false := by rw [beq_eq_false_iff_ne]; omega
       have HLt : Hid (isLt y = false) := by show _ = _; simp only [isLt, inR, hyn]; simp; omega
       have HDg : Hid (isDg y = false) := by show _ = _; simp only [isDg, inR, hyn]; simp; omega
       have HF : Hid (isNm s.data.toList = false) := nm_bad _ j y HY.out (by rw [HLt.out, HDg.out]; rfl)
       clear hyn HK HK0
       cases hj0 : ((j : Int) == 0) with
       | true => go_wp2; go_ret; exact ⟨ret_bool HF.out.symm, rfl⟩
       | false => go_wp2; go_ret; exact ⟨ret_bool HF.out.symm, rfl⟩
      ·by_cases he : 57 < z
       ·skip
        have e95 : (z == 95) = false := by rw [beq_eq_false_iff_ne]; omega
        have HLt : Hid (isLt y = false) := by show _ = _; simp only [isLt, inR, hyn]; simp; omega
        have HDg : Hid (isDg y = false) := by show _ = _; simp only [isDg, inR, hyn]; simp; omega
        have HF : Hid (isNm s.data.toList = false) := nm_bad _ j y HY.out (by rw [HLt.out, HDg.out]; rfl)
        clear hyn HK HK0
        cases hj0 : ((j : Int) == 0) with
        | true => go_wp2; go_ret; exact ⟨ret_bool HF.out.symm, rfl⟩
        | false => go_wp2; go_ret; exact ⟨ret_bool HF.out.symm, rfl⟩
       ·skip
        have e95 : (z == 95) = false := by rw [beq_eq_false_iff_ne]; omega
        have HLt : Hid (isLt y = false) := by show _ = _; simp only [isLt, inR, hyn]; simp; omega
        have HDg : Hid (isDg y = true) := by show _ = _; simp only [isDg, inR, hyn]; simp; omega
        clear hyn HK0
        cases hj0 : ((j : Int) == 0) with
        | true =>
         have hz : j = 0 := by simpa using hj0
         have HF : Hid (isNm s.data.toList = false) := by
          have h0 := HY.out
          rw [hz] at h0
          show _ = _
          cases hd : s.data.toList with
          | nil => rw [hd] at h0; simp at h0
          | cons a b => rw [hd] at h0; simp at h0; subst h0; exact nm_first _ b HLt.out
         clear hz HK
         go_wp2
         go_ret
         exact ⟨ret_bool HF.out.symm, rfl⟩
        | false =>
         have hz : Hid (0 < j) := by show 0 < j; have : ¬ j = 0 := (by simpa using hj0); omega
         go_wp2
         go_round
         case rel => exact ⟨j + 1, by omega, by go_num, HK.out (by rw [HDg.out, Bool.or_true]), fun _ => H0.out hz.out⟩
         case measure => simp [intOf]; omega
  ·obtain rfl : j = s.size := by omega
   have hlt' : ¬ ((s.size : Nat) : Int) < (s.size : Nat) := by omega
   have HT : Hid (isNm s.data.toList = (decide (1 ≤ (s.size : Int)) && decide ((s.size : Int) ≤ 63))) := by
    show _ = _
    by_cases h1 : 1 ≤ s.size
    ·by_cases h63 : s.size ≤ 63
     ·rw [decide_eq_true (by omega), decide_eq_true (by omega)]
      exact nm_all _ (by rw [HL.out]; exact h63) (fun c hc => H0.out (by omega) c hc) (fun e => by have := HL.out; rw [e] at this; simp at this; omega) (fun k c hk => HJ.out k c (by have := (List.getElem?_eq_some_iff.1 hk).1; rw [HL.out] at this; exact this) hk)
     ·rw [decide_eq_true (by omega), decide_eq_false (by omega)]
      exact nm_long _ (by rw [HL.out]; omega)
    ·rw [decide_eq_false (by omega)]
     have h0 : s.data.toList = [] := List.eq_nil_of_length_eq_zero (by rw [HL.out]; omega)
     rw [h0]
     rfl
   clear HJ H0
   by_cases h1 : 1 ≤ (s.size : Int)
   ·go_wp2
    go_ret
    exact ⟨ret_bool (by rw [HT.out, decide_eq_true h1]; simp), rfl⟩
   ·go_wp2
    go_ret
    exact ⟨ret_bool (by rw [HT.out, decide_eq_false (by omega)]; rfl), rfl⟩
end Go.Proofs.YtmidaeljeoifdaaGreatDoor
