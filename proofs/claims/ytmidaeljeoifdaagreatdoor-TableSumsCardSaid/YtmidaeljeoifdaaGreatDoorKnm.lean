import Derived.Test.YtmidaeljeoifdaaGreatDoorKwd
namespace Go.Proofs.YtmidaeljeoifdaaGreatDoor
set_option maxHeartbeats 16000000
open Go.RowKit
set_option linter.unusedVariables false
theorem nm_all (l : List UInt8) (hn : l.length ≤ 63) (h0 : ∀ c : UInt8, l[0]? = some c → isLt c = true) (hne : l ≠ []) (ha : ∀ (k : Nat) (c : UInt8), l[k]? = some c → (isLt c || isDg c) = true) : isNm l = true := by
 cases l with
 | nil => exact absurd rfl hne
 | cons c r =>
  unfold isNm
  have h1 := h0 c rfl
  have h2 : r.length ≤ 62 := by simp at hn; omega
  simp only [h1, h2, decide_true, Bool.true_and]
  rw [List.all_eq_true]
  intro d hd
  obtain ⟨k, hk⟩ := List.mem_iff_getElem?.1 hd
  exact ha (k + 1) d (by simpa using hk)
theorem nm_bad (l : List UInt8) (k : Nat) (c : UInt8) (h : l[k]? = some c) (hb : (isLt c || isDg c) = false) : isNm l = false := by
 cases l with
 | nil => simp at h
 | cons d r =>
  unfold isNm
  cases k with
  | zero =>
   simp at h
   subst h
   simp at hb
   simp [hb.1]
  | succ k =>
   have hm : c ∈ r := List.mem_of_getElem? (by simpa using h)
   have : r.all (fun d => isLt d || isDg d) = false := by
    rw [List.all_eq_false]
    exact ⟨c, hm, by simp [hb]⟩
   show (decide (r.length ≤ 62) && isLt d && r.all (fun d => isLt d || isDg d)) = false
   rw [this, Bool.and_false]
theorem nm_first (c : UInt8) (r : List UInt8) (h : isLt c = false) : isNm (c :: r) = false := by simp [isNm, h]
theorem nm_long (l : List UInt8) (h : 63 < l.length) : isNm l = false := by
 cases l with
 | nil => simp at h
 | cons c r => simp at h; simp [isNm, show ¬ r.length ≤ 62 by omega]
theorem isName_any (s : ByteArray) (w : World) : Calls Tryz.prog 195 #[.string s] w fun e w' => e = .returned (.bool (isNm s.data.toList)) ∧ w' = w := by
 have HL : Hid (s.data.toList.length = s.size) := by show _ = _; simp
 by_cases hs0 : s.size = 0
 ·obtain rfl : s = ⟨#[]⟩ := by
   cases s with
   | mk d => congr 1; exact Array.eq_empty_of_size_eq_zero hs0
  go_enter Tryz.func195, Tryz.ntmps195
  go_wp2
  go_ret
  exact ⟨rfl, rfl⟩
 have hq : s.toList.isEmpty = false := by
  rw [ByteArray.toList_eq]
  cases hd : s.data.toList with
  | nil => have := HL.out; rw [hd] at this; simp at this; omega
  | cons _ _ => rfl
 by_cases hl : 63 < s.size
 ·have hl' : (63 : Int) < s.size := by omega
  have e1 := nm_long s.data.toList (by rw [HL.out]; exact hl)
  go_enter Tryz.func195, Tryz.ntmps195
  go_wp2
  go_ret
  exact ⟨ret_bool e1.symm, rfl⟩
 have hl' : ¬ (63 : Int) < s.size := by omega
 obtain ⟨x, hx⟩ : ∃ c, s[0]'(by omega) = c := ⟨_, rfl⟩
 have hix : ∀ w, (Instr.index 9 (.string s) (.int .i64 0)).run Tryz.prog w = .ok (.int .u8 (x.toNat : Int)) w := fun w => by
  rw [← hx]; exact index_at s 0 _ w (by omega) rfl
 have hx0 : s.data.toList[0]? = some x := by rw [← hx, List.getElem?_eq_getElem (by rw [HL.out]; omega)]; rfl
 have c1 := letter_any x
 have HX : Hid (∃ r, s.data.toList = x :: r) := by
  show ∃ r, _
  cases hd : s.data.toList with
  | nil => rw [hd] at hx0; simp at hx0
  | cons a b => rw [hd] at hx0; simp at hx0; exact ⟨b, by rw [hx0]⟩
 have HX0 : Hid (s.data.toList[0]? = some x) := hx0
 clear hx hx0
 cases ha : isLt x with
 | false =>
  have e1 : Hid (isNm s.data.toList = false) := by obtain ⟨r, hr⟩ := HX.out; show _ = _; rw [hr]; exact nm_first x r ha
  rw [ha] at c1
  go_enter Tryz.func195, Tryz.ntmps195
  go_wp2_with (first | (go_at_call 257; refine (c1 _).mono ?_; rintro e w' ⟨rfl, rfl⟩))
  go_ret
  exact ⟨ret_bool e1.out.symm, rfl⟩
 | true =>
  have HA : Hid (isLt x = true) := ha
  rw [ha] at c1
  clear ha
  go_enter Tryz.func195, Tryz.ntmps195
  go_wp2_with (first | (go_at_call 257; refine (c1 _).mono ?_; rintro e w' ⟨rfl, rfl⟩))
  go_loop [3, 19] (fun _ i => ∃ j : Nat, j ≤ s.size ∧ i = .int .i64 j ∧ Hid (∀ (k : Nat) (c : UInt8), k < j → s.data.toList[k]? = some c → (isLt c || isDg c) = true)) (fun _ i => s.size - (intOf i).toNat)
  case atStart => exact ⟨0, by omega, rfl, fun k c h => absurd h (Nat.not_lt_zero _)⟩
  case round =>
   obtain ⟨j, hj, rfl, HJ⟩ := hrel
   by_cases hlt : j < s.size
   ·have hlt' : (j : Int) < s.size := by omega
    obtain ⟨y, hy⟩ : ∃ c, s[j]'hlt = c := ⟨_, rfl⟩
    have hiy : ∀ w, (Instr.index 9 (.string s) (.int .i64 (j : Int))).run Tryz.prog w = .ok (.int .u8 (y.toNat : Int)) w := fun w => by
     rw [← hy]; exact index_at s j _ w hlt rfl
    have HY : Hid (s.data.toList[j]? = some y) := by show _ = _; rw [← hy, List.getElem?_eq_getElem (by rw [HL.out]; exact hlt)]; rfl
    have d1 := letter_any y
    have d2 := digit_any y
    have HB : Hid ((isLt y || isDg y) = false → isNm s.data.toList = false) := fun h => nm_bad _ j y HY.out h
    have HK : Hid ((isLt y || isDg y) = true → ∀ (k : Nat) (c : UInt8), k < j + 1 → s.data.toList[k]? = some c → (isLt c || isDg c) = true) := fun h k c hk hc => by
     by_cases e : k < j
     ·exact HJ.out k c e hc
     ·obtain rfl : k = j := by omega
      rw [HY.out] at hc
      cases hc
      exact h
    clear hy c1 hix
    generalize isLt y = a at *
    generalize isDg y = b at *
    cases a with
    | true =>
     go_wp2_with (first | (go_at_call 257; refine (d1 _).mono ?_; rintro e w' ⟨rfl, rfl⟩) | (go_at_call 258; refine (d2 _).mono ?_; rintro e w' ⟨rfl, rfl⟩))
     go_round
     case rel => exact ⟨j + 1, by omega, by go_num, HK.out rfl⟩
     case measure => simp [intOf]; omega
    | false =>
     cases b with
     | true =>
      go_wp2_with (first | (go_at_call 257; refine (d1 _).mono ?_; rintro e w' ⟨rfl, rfl⟩) | (go_at_call 258; refine (d2 _).mono ?_; rintro e w' ⟨rfl, rfl⟩))
      go_round
      case rel => exact ⟨j + 1, by omega, by go_num, HK.out rfl⟩
      case measure => simp [intOf]; omega
     | false =>
      have e1 := HB.out rfl
      go_wp2_with (first | (go_at_call 257; refine (d1 _).mono ?_; rintro e w' ⟨rfl, rfl⟩) | (go_at_call 258; refine (d2 _).mono ?_; rintro e w' ⟨rfl, rfl⟩))
      go_ret
      exact ⟨ret_bool e1.symm, rfl⟩
   ·obtain rfl : j = s.size := by omega
    have hlt' : ¬ ((s.size : Nat) : Int) < (s.size : Nat) := by omega
    have e1 : Hid (isNm s.data.toList = true) := nm_all _ (by rw [HL.out]; omega) (fun c hc => by rw [HX0.out] at hc; cases hc; exact HA.out) (fun e => by have := HL.out; rw [e] at this; simp at this; omega) (fun k c hk => HJ.out k c (by have := (List.getElem?_eq_some_iff.1 hk).1; rw [HL.out] at this; exact this) hk)
    go_wp2
    go_ret
    exact ⟨ret_bool e1.out.symm, rfl⟩
theorem isName_l (l : List UInt8) (w : World) : Calls Tryz.prog 195 #[S l] w fun e w' => e = .returned (.bool (isNm l)) ∧ w' = w := by
 have := isName_any ⟨l.toArray⟩ w
 simpa using this
end Go.Proofs.YtmidaeljeoifdaaGreatDoor
