import Derived.Test.YtnmknnkpkkefoaaGreatDoorProg
import Derived.Test.YtnmknnkpkkefoaaGreatDoorLst
import Derived.WalkKit
import Derived.WalkSpells
import Derived.WalkLawsBesides
import Derived.BigQuiet
namespace Go.Proofs.YtnmknnkpkkefoaaGreatDoor
open Go.RowKit
set_option linter.unusedVariables false

theorem ret_int {k : IntKind} {a b : Int} (h : a = b) : Ending.returned (.int k a) = .returned (.int k b) := by rw [h]
theorem ret_bool {a b : Bool} (h : a = b) : Ending.returned (.bool a) = .returned (.bool b) := by rw [h]
theorem tup2 {a b c d : Value} (h1 : a = c) (h2 : b = d) : Ending.returned (.tuple #[a, b]) = .returned (.tuple #[c, d]) := by rw [h1, h2]
theorem tup3 {a b c d e f : Value} (h1 : a = d) (h2 : b = e) (h3 : c = f) : Ending.returned (.tuple #[a, b, c]) = .returned (.tuple #[d, e, f]) := by rw [h1, h2, h3]
theorem index_at (s : ByteArray) (k : Nat) (z : Int) (w : World) (h : k < s.size) (hz : z = k) : (Instr.index 9 (.string s) (.int .i64 z)).run Tryz.prog w = .ok (.int .u8 (s[k].toNat : Int)) w := by
  subst hz
  have h1 : (0 : Int) ≤ k ∧ (k : Int) < s.size := by omega
  simp [go_sem, h1]
theorem snoc_all (s : ByteArray) (k : Nat) (h : k < s.size) : s.data.toList[k]? = some s[k] := by
  rw [List.getElem?_eq_getElem (by simpa using h)]
  rfl
theorem len_all (s : ByteArray) : s.data.toList.length = s.size := by simp
theorem getl (s : ByteArray) (k : Nat) (h : k < s.size) (hl : k < s.data.toList.length) : s.data.toList[k] = s[k] := by
  have := snoc_all s k h
  rw [List.getElem?_eq_getElem hl] at this
  exact Option.some.inj this

set_option maxHeartbeats 1000000 in
theorem letter_any (c : UInt8) (w : World) : Calls Tryz.prog 37 #[.int .u8 c.toNat] w fun e w' => e = .returned (.bool (isL c)) ∧ w' = w := by
  by_cases h1 : 65 ≤ c.toNat
  · by_cases h2 : c.toNat ≤ 90
    · have i1 : (65 : Int) ≤ c.toNat := by omega
      have i2 : (c.toNat : Int) ≤ 90 := by omega
      go_enter Tryz.func37, Tryz.ntmps37
      go_wp2
      go_ret
      exact ⟨ret_bool (decide_eq_true (Or.inl ⟨h1, h2⟩)).symm, rfl⟩
    · by_cases h3 : 97 ≤ c.toNat
      · by_cases h4 : c.toNat ≤ 122
        · have i1 : (65 : Int) ≤ c.toNat := by omega
          have i2 : ¬ (c.toNat : Int) ≤ 90 := by omega
          have i3 : (97 : Int) ≤ c.toNat := by omega
          have i4 : (c.toNat : Int) ≤ 122 := by omega
          go_enter Tryz.func37, Tryz.ntmps37
          go_wp2
          go_ret
          exact ⟨ret_bool (decide_eq_true (Or.inr (Or.inl ⟨h3, h4⟩))).symm, rfl⟩
        · have i1 : (65 : Int) ≤ c.toNat := by omega
          have i2 : ¬ (c.toNat : Int) ≤ 90 := by omega
          have i3 : (97 : Int) ≤ c.toNat := by omega
          have i4 : ¬ (c.toNat : Int) ≤ 122 := by omega
          have i5 : ((c.toNat : Int) == 95) = false := by rw [beq_eq_false_iff_ne]; omega
          go_enter Tryz.func37, Tryz.ntmps37
          go_wp2
          go_ret
          refine ⟨ret_bool ?_, rfl⟩
          unfold isL
          rw [decide_eq_false (by omega)]
      · have i1 : (65 : Int) ≤ c.toNat := by omega
        have i2 : ¬ (c.toNat : Int) ≤ 90 := by omega
        have i3 : ¬ (97 : Int) ≤ c.toNat := by omega
        have i5 : ((c.toNat : Int) == 95) = decide (c.toNat = 95) := by
          by_cases h : c.toNat = 95
          · rw [h]; rfl
          · rw [decide_eq_false h, beq_eq_false_iff_ne]; omega
        go_enter Tryz.func37, Tryz.ntmps37
        go_wp2
        go_ret
        refine ⟨ret_bool ?_, rfl⟩
        unfold isL
        first | (rw [i5]; congr 1; apply propext; constructor <;> omega) | (congr 1; apply propext; constructor <;> omega)
  · have i1 : ¬ (65 : Int) ≤ c.toNat := by omega
    have i3 : ¬ (97 : Int) ≤ c.toNat := by omega
    have i5 : ((c.toNat : Int) == 95) = false := by rw [beq_eq_false_iff_ne]; omega
    go_enter Tryz.func37, Tryz.ntmps37
    go_wp2
    go_ret
    refine ⟨ret_bool ?_, rfl⟩
    unfold isL
    rw [decide_eq_false (by omega)]
set_option maxHeartbeats 400000 in
theorem digit_any (c : UInt8) (w : World) : Calls Tryz.prog 39 #[.int .u8 c.toNat] w fun e w' => e = .returned (.bool (isG c)) ∧ w' = w := by
  by_cases h1 : 48 ≤ c.toNat
  · have i1 : (48 : Int) ≤ c.toNat := by omega
    go_enter Tryz.func39, Tryz.ntmps39
    go_wp2
    go_ret
    refine ⟨ret_bool ?_, rfl⟩
    unfold isG
    congr 1
    apply propext
    constructor <;> omega
  · have i1 : ¬ (48 : Int) ≤ c.toNat := by omega
    go_enter Tryz.func39, Tryz.ntmps39
    go_wp2
    go_ret
    refine ⟨ret_bool ?_, rfl⟩
    unfold isG
    rw [decide_eq_false (by omega)]
set_option maxHeartbeats 400000 in
theorem sayable_any (r : Int) (w : World) : Calls Tryz.prog 62 #[.int .i32 r] w fun e w' => e = .returned (.bool (decide (32 ≤ r ∧ r ≤ 126))) ∧ w' = w := by
  by_cases h1 : 32 ≤ r
  · go_enter Tryz.func62, Tryz.ntmps62
    go_wp2
    go_ret
    refine ⟨ret_bool ?_, rfl⟩
    congr 1
    apply propext
    constructor <;> omega
  · go_enter Tryz.func62, Tryz.ntmps62
    go_wp2
    go_ret
    refine ⟨ret_bool ?_, rfl⟩
    rw [decide_eq_false (by omega)]
    rfl
set_option maxHeartbeats 400000 in
theorem escaped_any (r : Int) (w : World) : Calls Tryz.prog 61 #[.int .i32 r] w fun e w' => e = .returned (.bool (decide (r = 34 ∨ r = 92))) ∧ w' = w := by
  by_cases h1 : r = 34
  · subst h1
    go_enter Tryz.func61, Tryz.ntmps61
    go_wp2
    go_ret
    exact ⟨rfl, rfl⟩
  · have i1 : (r == 34) = false := by rw [beq_eq_false_iff_ne]; exact h1
    have i2 : (r == 92) = decide (r = 92) := rfl
    go_enter Tryz.func61, Tryz.ntmps61
    go_wp2
    go_ret
    refine ⟨ret_bool ?_, rfl⟩
    show (r == 92) = _
    rw [i2]
    congr 1
    apply propext
    constructor <;> omega

theorem tw_take {α : Type} (p : α → Bool) (l : List α) (j : Nat) (hj : j ≤ l.length) (ha : ∀ i (h : i < j), p (l[i]'(by omega)) = true) (hn : j = l.length ∨ ∃ h : j < l.length, p l[j] = false) : (l.takeWhile p).length = j := by
  induction l generalizing j with
  | nil => simp at hj; subst hj; rfl
  | cons x t ih =>
    cases j with
    | zero =>
      rcases hn with h | ⟨h, h2⟩
      · simp at h
      · have h3 : p x = false := h2
        simp [List.takeWhile, h3]
    | succ j =>
      have h0 : p x = true := ha 0 (by omega)
      have := ih j (by simpa using hj) (fun i h => ha (i + 1) (by omega)) (by
        rcases hn with h | ⟨h, h2⟩
        · left; simpa using h
        · right; exact ⟨by simpa using h, h2⟩)
      simp [List.takeWhile, h0, this]

set_option maxHeartbeats 1000000 in
theorem wordLength_any (s : ByteArray) (w : World) (hs : s.size < 4294967281) :
    Calls Tryz.prog 58 #[.string s] w fun e w' => e = .returned (.int .i64 (wlen s.data.toList)) ∧ w' = w := by
  have HL : Hid (s.data.toList.length = s.size) := len_all s
  go_enter Tryz.func58, Tryz.ntmps58
  go_wp2
  go_loop [3] (fun i => ∃ j : Nat, j ≤ s.size ∧ i = .int .i64 j ∧ ∀ k (h : k < j) (h' : k < s.data.toList.length), isW s.data.toList[k] = true) (fun i => s.size - (intOf i).toNat)
  case atStart => exact ⟨0, by omega, rfl, fun k h => absurd h (Nat.not_lt_zero _)⟩
  case round =>
    obtain ⟨j, hj, rfl, ha⟩ := hrel
    have HA : Hid (∀ k (h : k < j) (h' : k < s.data.toList.length), isW s.data.toList[k] = true) := ha
    clear ha
    have HT : Hid ((j = s.size ∨ ∃ h : j < s.data.toList.length, isW s.data.toList[j] = false) → wlen s.data.toList = j) := fun h =>
      tw_take isW _ j (by rw [HL.out]; exact hj) (fun i h => HA.out i h _) (by rcases h with h | h; exact Or.inl (by rw [HL.out]; exact h); exact Or.inr h)
    by_cases hlt : j < s.size
    · have hlt' : (j : Int) < s.size := by omega
      obtain ⟨x, hx⟩ : ∃ c, s[j] = c := ⟨_, rfl⟩
      have hl : j < s.data.toList.length := by rw [HL.out]; exact hlt
      have hxl : s.data.toList[j] = x := by rw [getl s j hlt hl, hx]
      have hix : ∀ w, (Instr.index 9 (.string s) (.int .i64 (j : Int))).run Tryz.prog w = .ok (.int .u8 (x.toNat : Int)) w := fun w => by
        rw [← hx]; exact index_at s j _ w hlt rfl
      have HY : Hid (isW x = true → ∀ k (h : k < j + 1) (h' : k < s.data.toList.length), isW s.data.toList[k] = true) := fun hw k h h' => by
        by_cases e : k < j
        · exact HA.out k e h'
        · have : k = j := by omega
          subst this
          rw [hxl]; exact hw
      have HN : Hid (isW x = false → wlen s.data.toList = j) := fun hw => HT.out (Or.inr ⟨hl, by rw [hxl]; exact hw⟩)
      clear hxl hx hl
      have c1 := letter_any x
      have c2 := digit_any x
      have hW : isW x = (isL x || isG x) := rfl
      have HW : Hid (isW x = (isL x || isG x)) := hW
      clear hW
      generalize isL x = a at *
      generalize isG x = b at *
      cases a with
      | true =>
        go_wp2_with (first | (go_at_call 37; refine (c1 _).mono ?_; rintro e w' ⟨rfl, rfl⟩) | (go_at_call 39; refine (c2 _).mono ?_; rintro e w' ⟨rfl, rfl⟩))
        go_round
        case rel => exact ⟨j + 1, by omega, by go_num, HY.out (by rw [HW.out]; rfl)⟩
        case measure => simp [intOf]; omega
      | false =>
        cases b with
        | true =>
          go_wp2_with (first | (go_at_call 37; refine (c1 _).mono ?_; rintro e w' ⟨rfl, rfl⟩) | (go_at_call 39; refine (c2 _).mono ?_; rintro e w' ⟨rfl, rfl⟩))
          go_round
          case rel => exact ⟨j + 1, by omega, by go_num, HY.out (by rw [HW.out]; rfl)⟩
          case measure => simp [intOf]; omega
        | false =>
          go_wp2_with (first | (go_at_call 37; refine (c1 _).mono ?_; rintro e w' ⟨rfl, rfl⟩) | (go_at_call 39; refine (c2 _).mono ?_; rintro e w' ⟨rfl, rfl⟩))
          go_ret
          exact ⟨by rw [HN.out (by rw [HW.out]; rfl)]; rfl, rfl⟩
    · have hjn : j = s.size := by omega
      have HE : Hid (wlen s.data.toList = j) := HT.out (Or.inl hjn)
      have hlt' : ¬ (j : Int) < s.size := by omega
      clear HT HA hjn
      go_wp2_with fail
      go_ret
      exact ⟨by rw [HE.out]; rfl, rfl⟩
end Go.Proofs.YtnmknnkpkkefoaaGreatDoor
