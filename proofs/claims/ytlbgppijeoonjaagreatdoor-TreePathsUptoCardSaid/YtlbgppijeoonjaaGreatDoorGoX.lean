import Derived.Test.YtlbgppijeoonjaaGreatDoorListX
import Derived.Test.YtlbgppijeoonjaaGreatDoorScaX
import Derived.Test.YtlbgppijeoonjaaGreatDoorAtq
namespace Go.Proofs.YtlbgppijeoonjaaGreatDoor
open Go
set_option linter.unusedVariables false

theorem blen_cons1 {c : UInt8} (l : List UInt8) (h : isB c = true) : blen (c :: l) = blen l + 1 := by unfold blen; simp [h]
theorem blen_zero {c : UInt8} (l : List UInt8) (h : isB c = false) : blen (c :: l) = 0 := by unfold blen; simp [h]
theorem sk_blank {c : UInt8} (l : List UInt8) (h : isB c = true) : skipL (c :: l) = (1 + (skipL l).1, (skipL l).2) := by
  have e : (c :: l).drop (blen (c :: l)) = l.drop (blen l) := by rw [blen_cons1 l h]; rfl
  by_cases hc : isC (l.drop (blen l)) = true
  · cases hm : clen (l.drop (blen l)) with
    | none =>
      rw [skip_open (l := c :: l) (by rw [e]; exact hc) (by rw [e]; exact hm), skip_open hc hm, blen_cons1 l h]
      simp only [Nat.add_comm]
    | some m =>
      rw [skip_more (l := c :: l) (by rw [e]; exact hc) (by rw [e]; exact hm), skip_more hc hm, blen_cons1 l h]
      have e2 : (c :: l).drop (blen l + 1 + m) = l.drop (blen l + m) := by rw [show blen l + 1 + m = (blen l + m) + 1 by omega]; rfl
      rw [e2]
      ext
      · simp only; omega
      · rfl
  · have hc' : isC (l.drop (blen l)) = false := by simpa using hc
    rw [skip_none (l := c :: l) (by rw [e]; exact hc'), skip_none hc', blen_cons1 l h]
    simp only [Nat.add_comm]
theorem isC_blen1 {l : List UInt8} (h : isC l = true) : blen l = 0 := by
  obtain ⟨t, rfl | rfl⟩ := isC_shape h
  · exact blen_zero _ rfl
  · exact blen_zero _ rfl
theorem sk_com {l : List UInt8} {m : Nat} (hc : isC l = true) (hm : clen l = some m) : skipL l = (m + (skipL (l.drop m)).1, (skipL (l.drop m)).2) := by
  have e := isC_blen1 hc
  have := skip_more (l := l) (m := m) (by rw [e]; exact hc) (by rw [e]; exact hm)
  rw [e, Nat.zero_add] at this
  exact this
theorem sk_open {l : List UInt8} (hc : isC l = true) (hm : clen l = none) : skipL l = (0, false) := by
  have e := isC_blen1 hc
  have := skip_open (l := l) (by rw [e]; exact hc) (by rw [e]; exact hm)
  rw [e] at this
  exact this
theorem sk_nil : skipL [] = (0, true) := skip_none rfl
theorem sk_none {c : UInt8} {l : List UInt8} (hb : isB c = false) (hc : isC (c :: l) = false) : skipL (c :: l) = (0, true) := by
  have e := blen_zero l hb
  have := skip_none (l := c :: l) (by rw [e]; exact hc)
  rw [e] at this
  exact this
theorem isC_two (d : UInt8) (l : List UInt8) : isC (47 :: d :: l) = decide (d = 47 ∨ d = 42) := by
  simp only [isC, Lib.hasPrefix, List.isPrefixOf, Bool.decide_or]
  by_cases h1 : d = 47
  · subst h1; rfl
  · by_cases h2 : d = 42
    · subst h2; rfl
    · simp [h1, h2, Ne.symm h1, Ne.symm h2]
theorem isC_one : isC [47] = false := rfl
theorem isC_not {c : UInt8} (l : List UInt8) (h : c ≠ 47) : isC (c :: l) = false := by
  cases hh : isC (c :: l) with
  | false => rfl
  | true => obtain ⟨t, e | e⟩ := isC_shape hh <;> cases e <;> exact absurd rfl h
/-- Where a line ends. -/
theorem ib_char (l : List UInt8) (j : Nat) (hj : j ≤ l.length) (ha : ∀ k, k < j → l[k]? ≠ some 10) (hn : j = l.length ∨ l[j]? = some 10) :
    (if Lib.indexByte l 10 < 0 then l.length else (Lib.indexByte l 10).toNat) = j := by
  induction l generalizing j with
  | nil => simp at hj; subst hj; rfl
  | cons c t ih =>
    have hge := Lib.indexByte_ge t 10
    cases j with
    | zero =>
      rcases hn with h | h
      · simp at h
      · simp at h
        subst h
        rfl
    | succ j =>
      have hc : c ≠ 10 := fun e => ha 0 (by omega) (by simp [e])
      have hr := ih j (by simp at hj; omega) (fun k hk => by have := ha (k + 1) (by omega); simpa using this) (by simpa using hn)
      have e1 : Lib.indexByte (c :: t) 10 = if Lib.indexByte t 10 == -1 then -1 else Lib.indexByte t 10 + 1 := by
        rw [Lib.indexByte]
        have : (c == 10) = false := by simpa using hc
        simp [this]
      by_cases h1 : Lib.indexByte t 10 = -1
      · rw [h1] at hr
        rw [e1, h1]
        simp at hr ⊢
        omega
      · have e2 : Lib.indexByte (c :: t) 10 = Lib.indexByte t 10 + 1 := by rw [e1, if_neg (by simpa using h1)]
        rw [if_neg (by omega)] at hr
        rw [e2, if_neg (by omega)]
        omega
theorem ix_cons (c d : UInt8) (t : List UInt8) (h : ¬ (c = 42 ∧ d = 47)) : Lib.index (c :: d :: t) [42, 47] = if Lib.index (d :: t) [42, 47] == -1 then -1 else Lib.index (d :: t) [42, 47] + 1 := by
  rw [Lib.index]
  have : ([42, 47] : List UInt8).isPrefixOf (c :: d :: t) = false := by
    simp only [List.isPrefixOf]
    rcases Decidable.em (c = 42) with e | e
    · have : d ≠ 47 := fun x => h ⟨e, x⟩
      simp [e, Ne.symm this]
    · simp [Ne.symm e]
  rw [this]
  simp
/-- Where a comment ends. -/
theorem ix_char (l : List UInt8) (j : Nat) (ha : ∀ k, k < j → ¬ (l[k]? = some 42 ∧ l[k + 1]? = some 47)) (hn : l[j]? = some 42 ∧ l[j + 1]? = some 47) : Lib.index l [42, 47] = (j : Int) := by
  induction l generalizing j with
  | nil => simp at hn
  | cons c t ih =>
    cases t with
    | nil =>
      cases j with
      | zero => simp at hn
      | succ j => simp at hn
    | cons d t =>
      cases j with
      | zero =>
        simp at hn
        obtain ⟨rfl, rfl⟩ := hn
        rfl
      | succ j =>
        have hc : ¬ (c = 42 ∧ d = 47) := fun e => ha 0 (by omega) (by simp [e.1, e.2])
        have hr := ih j (fun k hk => by have := ha (k + 1) (by omega); simpa using this) (by simpa using hn)
        rw [ix_cons c d t hc, hr, if_neg (by simp)]
        omega
theorem ix_never (l : List UInt8) (ha : ∀ k, k + 1 < l.length → ¬ (l[k]? = some 42 ∧ l[k + 1]? = some 47)) : Lib.index l [42, 47] = -1 := by
  induction l with
  | nil => rfl
  | cons c t ih =>
    cases t with
    | nil =>
      rw [Lib.index]
      have : ([42, 47] : List UInt8).isPrefixOf [c] = false := by simp [List.isPrefixOf]
      rw [this]
      rfl
    | cons d t =>
      have hc : ¬ (c = 42 ∧ d = 47) := fun e => ha 0 (by simp) (by simp [e.1, e.2])
      have hr := ih (fun k hk => by have := ha (k + 1) (by simpa using hk); simpa using this)
      rw [ix_cons c d t hc, hr]
      rfl
/-- The comment of a line, from the list's first place on. -/
theorem clen_line_at (t : List UInt8) (j : Nat) (hj : j ≤ (47 :: 47 :: t).length) (ha : ∀ k, k < j → (47 :: 47 :: t)[k]? ≠ some 10) (hn : j = (47 :: 47 :: t).length ∨ (47 :: 47 :: t)[j]? = some 10) : clen (47 :: 47 :: t) = some j := by
  rw [clen_line, ib_char _ j hj ha hn]
theorem clen_star_at (t : List UInt8) (j : Nat) (ha : ∀ k, k < j → ¬ (t[k]? = some 42 ∧ t[k + 1]? = some 47)) (hn : t[j]? = some 42 ∧ t[j + 1]? = some 47) : clen (47 :: 42 :: t) = some (j + 4) := by
  rw [clen_star, ix_char t j ha hn, if_neg (by omega)]
  simp
theorem clen_star_no (t : List UInt8) (ha : ∀ k, k + 1 < t.length → ¬ (t[k]? = some 42 ∧ t[k + 1]? = some 47)) : clen (47 :: 42 :: t) = none := by
  rw [clen_star, ix_never t ha]
  rfl
/-- A step of what is skipped: from i to j, in a text. -/
def SkTo (t : List UInt8) (i j : Nat) : Prop := i + (skipL (t.drop i)).1 = j + (skipL (t.drop j)).1 ∧ (skipL (t.drop i)).2 = (skipL (t.drop j)).2
theorem skTo_refl (t : List UInt8) (i : Nat) : SkTo t i i := ⟨rfl, rfl⟩
theorem drop_cons1 {t : List UInt8} {j : Nat} {c : UInt8} (h : t[j]? = some c) : t.drop j = c :: t.drop (j + 1) := by
  obtain ⟨h1, h2⟩ := List.getElem?_eq_some_iff.1 h
  rw [List.drop_eq_getElem_cons h1, h2]
theorem skTo_blank {t : List UInt8} {i j : Nat} {c : UInt8} (h : SkTo t i j) (hc : t[j]? = some c) (hb : isB c = true) : SkTo t i (j + 1) := by
  have e := drop_cons1 hc
  have s := sk_blank (t.drop (j + 1)) hb
  obtain ⟨h1, h2⟩ := h
  rw [e, s] at h1 h2
  exact ⟨by simp only at h1; omega, h2⟩
theorem skTo_com {t : List UInt8} {i j m : Nat} (h : SkTo t i j) (hc : isC (t.drop j) = true) (hm : clen (t.drop j) = some m) : SkTo t i (j + m) := by
  have s := sk_com hc hm
  rw [List.drop_drop] at s
  obtain ⟨h1, h2⟩ := h
  rw [s] at h1 h2
  exact ⟨by simp only at h1; omega, h2⟩
theorem skTo_line {t : List UInt8} {i j k : Nat} (h : SkTo t i j) (h1 : t[j]? = some 47) (h2 : t[j + 1]? = some 47) (hjk : j ≤ k) (hk : k ≤ t.length) (ha : ∀ q, j ≤ q → q < k → t[q]? ≠ some 10) (hn : k = t.length ∨ t[k]? = some 10) : SkTo t i k := by
  have e : t.drop j = 47 :: 47 :: t.drop (j + 2) := by rw [drop_cons1 h1, drop_cons1 h2]
  have hl : (t.drop j).length = t.length - j := List.length_drop
  have hm : clen (t.drop j) = some (k - j) := by
    rw [e]
    refine clen_line_at _ _ ?_ ?_ ?_
    · rw [← e, hl]; omega
    · intro q hq
      rw [← e, List.getElem?_drop]
      exact ha (j + q) (by omega) (by omega)
    · rw [← e, hl, List.getElem?_drop, show j + (k - j) = k by omega]
      rcases hn with h | h
      · left; omega
      · right; exact h
  have := skTo_com h (by rw [e, isC_two]; rfl) hm
  rwa [show j + (k - j) = k by omega] at this
theorem skTo_star {t : List UInt8} {i j k : Nat} (h : SkTo t i j) (h1 : t[j]? = some 47) (h2 : t[j + 1]? = some 42) (hjk : j + 2 ≤ k) (ha : ∀ q, j + 2 ≤ q → q < k → ¬ (t[q]? = some 42 ∧ t[q + 1]? = some 47)) (hn : t[k]? = some 42 ∧ t[k + 1]? = some 47) : SkTo t i (k + 2) := by
  have e : t.drop j = 47 :: 42 :: t.drop (j + 2) := by rw [drop_cons1 h1, drop_cons1 h2]
  have hm : clen (t.drop j) = some ((k - (j + 2)) + 4) := by
    rw [e]
    refine clen_star_at _ _ ?_ ?_
    · intro q hq
      rw [List.getElem?_drop, List.getElem?_drop, ← Nat.add_assoc]
      exact ha (j + 2 + q) (by omega) (by omega)
    · rw [List.getElem?_drop, List.getElem?_drop, ← Nat.add_assoc, show j + 2 + (k - (j + 2)) = k by omega]
      exact hn
  have := skTo_com h (by rw [e, isC_two]; rfl) hm
  rwa [show j + ((k - (j + 2)) + 4) = k + 2 by omega] at this
theorem skTo_open {t : List UInt8} {i j : Nat} (h : SkTo t i j) (h1 : t[j]? = some 47) (h2 : t[j + 1]? = some 42) (ha : ∀ q, j + 2 ≤ q → q + 1 < t.length → ¬ (t[q]? = some 42 ∧ t[q + 1]? = some 47)) : i + (skipL (t.drop i)).1 = j ∧ (skipL (t.drop i)).2 = false := by
  have e : t.drop j = 47 :: 42 :: t.drop (j + 2) := by rw [drop_cons1 h1, drop_cons1 h2]
  have hm : clen (t.drop j) = none := by
    rw [e]
    refine clen_star_no _ ?_
    intro q hq
    rw [List.length_drop] at hq
    rw [List.getElem?_drop, List.getElem?_drop, ← Nat.add_assoc]
    exact ha (j + 2 + q) (by omega) (by omega)
  have s := sk_open (by rw [e, isC_two]; rfl) hm
  obtain ⟨a1, a2⟩ := h
  rw [s] at a1 a2
  exact ⟨a1, a2⟩
theorem skTo_end {t : List UInt8} {i j : Nat} (h : SkTo t i j) (hj : t.length ≤ j) : i + (skipL (t.drop i)).1 = j ∧ (skipL (t.drop i)).2 = true := by
  have s : skipL (t.drop j) = (0, true) := by rw [List.drop_eq_nil_of_le hj]; exact sk_nil
  obtain ⟨a1, a2⟩ := h
  rw [s] at a1 a2
  exact ⟨a1, a2⟩
theorem skTo_stop {t : List UInt8} {i j : Nat} {c : UInt8} (h : SkTo t i j) (hc : t[j]? = some c) (hb : isB c = false) (hn : c ≠ 47 ∨ ∀ d, t[j + 1]? = some d → ¬ (d = 47 ∨ d = 42)) : i + (skipL (t.drop i)).1 = j ∧ (skipL (t.drop i)).2 = true := by
  have e := drop_cons1 hc
  have hC : isC (c :: t.drop (j + 1)) = false := by
    rcases hn with h | h
    · exact isC_not _ h
    · by_cases h47 : c = 47
      · subst h47
        cases hd : t[j + 1]? with
        | none =>
          rw [List.drop_eq_nil_of_le (List.getElem?_eq_none_iff.1 hd)]; rfl
        | some d =>
          rw [drop_cons1 hd, isC_two]
          exact decide_eq_false (h d hd)
      · exact isC_not _ h47
  have s := sk_none hb hC
  obtain ⟨a1, a2⟩ := h
  rw [e, s] at a1 a2
  exact ⟨a1, a2⟩

/-! ### Numbers, digit by digit -/
def numR (b v : Nat) (l : List UInt8) : Option Nat := if digB b l = true ∧ valB b v l ≤ 4294967295 then some (valB b v l) else none
theorem valB_ge (b v : Nat) (l : List UInt8) (hb : 1 ≤ b) : v ≤ valB b v l := by
  induction l generalizing v with
  | nil => exact Nat.le_refl _
  | cons c t ih =>
    have h1 := ih (b * v + hexV c)
    have h2 : v ≤ b * v := Nat.le_mul_of_pos_left _ (by omega)
    show v ≤ valB b (b * v + hexV c) t
    omega
theorem numR_nil (b v : Nat) (h : v ≤ 4294967295) : numR b v [] = some v := by unfold numR; rw [if_pos ⟨rfl, h⟩]; rfl
theorem numR_bad (b v : Nat) (c : UInt8) (t : List UInt8) (h : b ≤ hexV c) : numR b v (c :: t) = none := by
  unfold numR
  rw [if_neg]
  rintro ⟨h1, _⟩
  simp [digB] at h1
  omega
theorem numR_over (b v : Nat) (c : UInt8) (t : List UInt8) (hb : 1 ≤ b) (h : 4294967295 < v * b + hexV c) : numR b v (c :: t) = none := by
  unfold numR
  rw [if_neg]
  rintro ⟨_, h2⟩
  have := valB_ge b (b * v + hexV c) t hb
  have e : valB b v (c :: t) = valB b (b * v + hexV c) t := rfl
  rw [Nat.mul_comm] at h
  omega
theorem numR_step (b v : Nat) (c : UInt8) (t : List UInt8) (h : hexV c < b) : numR b v (c :: t) = numR b (v * b + hexV c) t := by
  unfold numR
  have e : valB b v (c :: t) = valB b (v * b + hexV c) t := by rw [Nat.mul_comm]; rfl
  have d : digB b (c :: t) = digB b t := by simp [digB, h]
  rw [e, d]
theorem numB_R (b : Nat) (l : List UInt8) (h : l ≠ []) : numB b l = numR b 0 l := by
  unfold numB numR
  by_cases h2 : digB b l = true ∧ valB b 0 l ≤ 4294967295
  · rw [if_pos ⟨h, h2.1, h2.2⟩, if_pos h2]
  · rw [if_neg (fun x => h2 ⟨x.2.1, x.2.2⟩), if_neg h2]
theorem numB_nil1 (b : Nat) : numB b [] = none := by unfold numB; rw [if_neg (fun x => x.1 rfl)]
end Go.Proofs.YtlbgppijeoonjaaGreatDoor

namespace Go.Proofs.YtlbgppijeoonjaaGreatDoor
open Go.RowKit
set_option linter.unusedVariables false

set_option maxHeartbeats 1000000 in
theorem rfirst_any (c : UInt8) (w : World) : Calls Tryz.prog 61 #[.int .u8 c.toNat] w fun e w' => e = .returned (.bool (isL c)) ∧ w' = w := by
  by_cases h1 : 65 ≤ c.toNat
  · by_cases h2 : c.toNat ≤ 90
    · have i1 : (65 : Int) ≤ c.toNat := by omega
      have i2 : (c.toNat : Int) ≤ 90 := by omega
      go_enter Tryz.func61, Tryz.ntmps61
      go_wp2
      go_ret
      exact ⟨ret_bool (decide_eq_true (Or.inl ⟨h1, h2⟩)).symm, rfl⟩
    · by_cases h3 : 97 ≤ c.toNat
      · by_cases h4 : c.toNat ≤ 122
        · have i1 : (65 : Int) ≤ c.toNat := by omega
          have i2 : ¬ (c.toNat : Int) ≤ 90 := by omega
          have i3 : (97 : Int) ≤ c.toNat := by omega
          have i4 : (c.toNat : Int) ≤ 122 := by omega
          go_enter Tryz.func61, Tryz.ntmps61
          go_wp2
          go_ret
          exact ⟨ret_bool (decide_eq_true (Or.inr (Or.inl ⟨h3, h4⟩))).symm, rfl⟩
        · have i1 : (65 : Int) ≤ c.toNat := by omega
          have i2 : ¬ (c.toNat : Int) ≤ 90 := by omega
          have i3 : (97 : Int) ≤ c.toNat := by omega
          have i4 : ¬ (c.toNat : Int) ≤ 122 := by omega
          have i5 : ((c.toNat : Int) == 95) = false := by rw [beq_eq_false_iff_ne]; omega
          go_enter Tryz.func61, Tryz.ntmps61
          go_wp2
          go_ret
          refine ⟨ret_bool ?_, rfl⟩
          unfold isL
          rw [decide_eq_false (by omega)]
      · have i1 : (65 : Int) ≤ c.toNat := by omega
        have i2 : ¬ (c.toNat : Int) ≤ 90 := by omega
        have i3 : ¬ (97 : Int) ≤ c.toNat := by omega
        have i5 : ((c.toNat : Int) == 95) = decide (c.toNat = 95) := by
          by_cases h : c.toNat = 95
          · rw [h]; rfl
          · rw [decide_eq_false h, beq_eq_false_iff_ne]; omega
        go_enter Tryz.func61, Tryz.ntmps61
        go_wp2
        go_ret
        refine ⟨ret_bool ?_, rfl⟩
        unfold isL
        first | (rw [i5]; congr 1; apply propext; constructor <;> omega) | (congr 1; apply propext; constructor <;> omega)
  · have i1 : ¬ (65 : Int) ≤ c.toNat := by omega
    have i3 : ¬ (97 : Int) ≤ c.toNat := by omega
    have i5 : ((c.toNat : Int) == 95) = false := by rw [beq_eq_false_iff_ne]; omega
    go_enter Tryz.func61, Tryz.ntmps61
    go_wp2
    go_ret
    refine ⟨ret_bool ?_, rfl⟩
    unfold isL
    rw [decide_eq_false (by omega)]
set_option maxHeartbeats 400000 in
theorem rdigit_any (c : UInt8) (w : World) : Calls Tryz.prog 73 #[.int .u8 c.toNat] w fun e w' => e = .returned (.bool (isG c)) ∧ w' = w := by
  by_cases h1 : 48 ≤ c.toNat
  · have i1 : (48 : Int) ≤ c.toNat := by omega
    go_enter Tryz.func73, Tryz.ntmps73
    go_wp2
    go_ret
    refine ⟨ret_bool ?_, rfl⟩
    unfold isG
    congr 1
    apply propext
    constructor <;> omega
  · have i1 : ¬ (48 : Int) ≤ c.toNat := by omega
    go_enter Tryz.func73, Tryz.ntmps73
    go_wp2
    go_ret
    refine ⟨ret_bool ?_, rfl⟩
    unfold isG
    rw [decide_eq_false (by omega)]
set_option maxHeartbeats 400000 in
theorem rpart_any (c : UInt8) (w : World) : Calls Tryz.prog 79 #[.int .u8 c.toNat] w fun e w' => e = .returned (.bool (isW c)) ∧ w' = w := by
  have c1 := rfirst_any c
  have c2 := rdigit_any c
  unfold isW
  generalize isL c = a at *
  generalize isG c = b at *
  cases a with
  | true =>
    go_enter Tryz.func79, Tryz.ntmps79
    go_wp2_with (first | (go_at_call 61; refine (c1 _).mono ?_; rintro e w' ⟨rfl, rfl⟩) | (go_at_call 73; refine (c2 _).mono ?_; rintro e w' ⟨rfl, rfl⟩))
    go_ret
    exact ⟨rfl, rfl⟩
  | false =>
    go_enter Tryz.func79, Tryz.ntmps79
    go_wp2_with (first | (go_at_call 61; refine (c1 _).mono ?_; rintro e w' ⟨rfl, rfl⟩) | (go_at_call 73; refine (c2 _).mono ?_; rintro e w' ⟨rfl, rfl⟩))
    go_ret
    exact ⟨rfl, rfl⟩
theorem wlen_drop (t : List UInt8) (i j : Nat) (hj : i + j ≤ t.length) (ha : ∀ k, k < j → ∃ c, t[i + k]? = some c ∧ isW c = true) (hn : i + j = t.length ∨ ∃ c, t[i + j]? = some c ∧ isW c = false) : wlen (t.drop i) = j := by
  refine tw_take isW (t.drop i) j (by rw [List.length_drop]; omega) (fun k hk => ?_) ?_
  · obtain ⟨c, h1, h2⟩ := ha k hk
    obtain ⟨q1, q2⟩ := List.getElem?_eq_some_iff.1 h1
    rw [List.getElem_drop, q2]; exact h2
  · rcases hn with h | ⟨c, h1, h2⟩
    · left; rw [List.length_drop]; omega
    · right
      obtain ⟨q1, q2⟩ := List.getElem?_eq_some_iff.1 h1
      exact ⟨by rw [List.length_drop]; omega, by rw [List.getElem_drop, q2]; exact h2⟩
set_option maxHeartbeats 1000000 in
theorem rword_any (s : ByteArray) (i : Nat) (w : World) (hs : s.size < 4611686018427387904) (hi : i ≤ s.size) :
    Calls Tryz.prog 62 #[.string s, .int .i64 (i : Int)] w fun e w' => e = .returned (.int .i64 ((i + wlen (s.data.toList.drop i) : Nat) : Int)) ∧ w' = w := by
  have HL : Hid (s.data.toList.length = s.size) := len_all s
  go_enter Tryz.func62, Tryz.ntmps62
  go_wp2
  go_loop [1] (fun v => ∃ j : Nat, i + j ≤ s.size ∧ v = .int .i64 ((i + j : Nat) : Int) ∧ ∀ k, k < j → ∃ c, s.data.toList[i + k]? = some c ∧ isW c = true) (fun v => s.size - (intOf v).toNat)
  case atStart => exact ⟨0, by omega, rfl, fun k h => absurd h (Nat.not_lt_zero _)⟩
  case round =>
    obtain ⟨j, hj, rfl, ha⟩ := hrel
    have HA : Hid (∀ k, k < j → ∃ c, s.data.toList[i + k]? = some c ∧ isW c = true) := ha
    clear ha
    obtain ⟨q, hq⟩ : ∃ q, q = i + j := ⟨_, rfl⟩
    rw [← hq]
    have HQ : Hid (q = i + j) := hq
    rw [← hq] at hj
    clear hq
    by_cases hlt : q < s.size
    · have hlt' : (q : Int) < s.size := by omega
      obtain ⟨x, hx⟩ : ∃ c, s[q] = c := ⟨_, rfl⟩
      have HX : Hid (s.data.toList[q]? = some x) := by show _ = _; rw [snoc_all s q hlt, hx]
      have hix : ∀ w, (Instr.index 9 (.string s) (.int .i64 (q : Int))).run Tryz.prog w = .ok (.int .u8 (x.toNat : Int)) w := fun w => by
        rw [← hx]; exact index_at s q _ w hlt rfl
      clear hx
      have c1 := rpart_any x
      cases hw : isW x with
      | true =>
        rw [hw] at c1
        have HY : Hid (isW x = true) := hw
        clear hw
        go_wp2_with (go_at_call 79; refine (c1 _).mono ?_; rintro e w' ⟨rfl, rfl⟩)
        go_round
        case rel =>
          refine ⟨j + 1, by have := HQ.out; omega, by have := HQ.out; go_num, fun k hk => ?_⟩
          by_cases e : k < j
          · exact HA.out k e
          · have : k = j := by omega
            subst this
            exact ⟨x, by rw [← HQ.out]; exact HX.out, HY.out⟩
        case measure => simp [intOf]; omega
      | false =>
        rw [hw] at c1
        have HR : Hid (i + wlen (s.data.toList.drop i) = q) := by
          show _ = _
          rw [wlen_drop s.data.toList i j (by rw [HL.out]; have := HQ.out; omega) HA.out (Or.inr ⟨x, by rw [← HQ.out]; exact HX.out, hw⟩)]
          exact HQ.out.symm
        clear hw
        go_wp2_with (go_at_call 79; refine (c1 _).mono ?_; rintro e w' ⟨rfl, rfl⟩)
        go_ret
        exact ⟨ret_int (by have := HR.out; omega), rfl⟩
    · have hlt' : ¬ (q : Int) < s.size := by omega
      have HR : Hid (i + wlen (s.data.toList.drop i) = q) := by
        show _ = _
        rw [wlen_drop s.data.toList i j (by rw [HL.out]; have := HQ.out; omega) HA.out (Or.inl (by rw [HL.out]; have := HQ.out; omega))]
        exact HQ.out.symm
      go_wp2_with fail
      go_ret
      exact ⟨ret_int (by have := HR.out; omega), rfl⟩
end Go.Proofs.YtlbgppijeoonjaaGreatDoor

namespace Go.Proofs.YtlbgppijeoonjaaGreatDoor
open Go.RowKit
set_option linter.unusedVariables false

theorem u8_eq {c : UInt8} {n : Nat} (h : c.toNat = n) (hn : n < 256) : c = UInt8.ofNat n := by
  apply UInt8.toNat_inj.1
  rw [h]
  simp
  omega
theorem u8_ne {c d : UInt8} (h : c ≠ d) : ((c.toNat : Int) == (d.toNat : Int)) = false := by
  rw [beq_eq_false_iff_ne]
  intro e
  exact h (UInt8.toNat_inj.1 (by omega))
set_option maxHeartbeats 400000 in
theorem rblank_any (c : UInt8) (w : World) : Calls Tryz.prog 71 #[.int .u8 c.toNat] w fun e w' => e = .returned (.bool (isB c)) ∧ w' = w := by
  by_cases h1 : c = 32
  · subst h1
    show Calls Tryz.prog 71 #[.int .u8 32] w fun e w' => e = .returned (.bool true) ∧ w' = w
    go_enter Tryz.func71, Tryz.ntmps71
    go_wp2
    go_ret
    exact ⟨rfl, rfl⟩
  · by_cases h2 : c = 9
    · subst h2
      show Calls Tryz.prog 71 #[.int .u8 9] w fun e w' => e = .returned (.bool true) ∧ w' = w
      go_enter Tryz.func71, Tryz.ntmps71
      go_wp2
      go_ret
      exact ⟨rfl, rfl⟩
    · by_cases h3 : c = 10
      · subst h3
        show Calls Tryz.prog 71 #[.int .u8 10] w fun e w' => e = .returned (.bool true) ∧ w' = w
        go_enter Tryz.func71, Tryz.ntmps71
        go_wp2
        go_ret
        exact ⟨rfl, rfl⟩
      · by_cases h4 : c = 13
        · subst h4
          show Calls Tryz.prog 71 #[.int .u8 13] w fun e w' => e = .returned (.bool true) ∧ w' = w
          go_enter Tryz.func71, Tryz.ntmps71
          go_wp2
          go_ret
          exact ⟨rfl, rfl⟩
        · have e1 : ((c.toNat : Int) == 32) = false := u8_ne h1
          have e2 : ((c.toNat : Int) == 9) = false := u8_ne h2
          have e3 : ((c.toNat : Int) == 10) = false := u8_ne h3
          have e4 : ((c.toNat : Int) == 13) = false := u8_ne h4
          have hB : isB c = false := by simp [isB, blkL, h1, h2, h3, h4]
          rw [hB]
          clear h1 h2 h3 h4 hB
          go_enter Tryz.func71, Tryz.ntmps71
          go_wp2
          go_ret
          exact ⟨rfl, rfl⟩
def goV (t : List UInt8) (i : Nat) : Value := .tuple #[.int .i64 ((i + (skipL (t.drop i)).1 : Nat) : Int), .int .i64 (if (skipL (t.drop i)).2 = true then -1 else ((i + (skipL (t.drop i)).1 : Nat) : Int))]
theorem goV_ok {t : List UInt8} {i j : Nat} (h : i + (skipL (t.drop i)).1 = j ∧ (skipL (t.drop i)).2 = true) : goV t i = .tuple #[.int .i64 (j : Int), .int .i64 (-1)] := by
  unfold goV; rw [h.2, h.1, if_pos rfl]
theorem goV_open {t : List UInt8} {i j : Nat} (h : i + (skipL (t.drop i)).1 = j ∧ (skipL (t.drop i)).2 = false) : goV t i = .tuple #[.int .i64 (j : Int), .int .i64 (j : Int)] := by
  unfold goV; rw [h.2, h.1, if_neg (by decide)]
theorem at_some {s : ByteArray} {q : Nat} (h : q < s.size) : ∃ x : UInt8, s.data.toList[q]? = some x ∧ ∀ w, (Instr.index 9 (.string s) (.int .i64 (q : Int))).run Tryz.prog w = .ok (.int .u8 (x.toNat : Int)) w :=
  ⟨s[q], snoc_all s q h, fun w => index_at s q _ w h rfl⟩
theorem at_some1 {s : ByteArray} {q : Nat} (h : q + 1 < s.size) : ∃ x : UInt8, s.data.toList[q + 1]? = some x ∧ ∀ w, (Instr.index 9 (.string s) (.int .i64 ((q : Int) + 1))).run Tryz.prog w = .ok (.int .u8 (x.toNat : Int)) w :=
  ⟨s[q + 1], snoc_all s (q + 1) h, fun w => index_at s (q + 1) _ w h (by simp)⟩
set_option maxHeartbeats 4000000 in
set_option maxRecDepth 100000 in
theorem rgone_any (s : ByteArray) (i : Nat) (w : World) (hs : s.size < 4611686018427387904) (hi : i ≤ s.size) :
    Calls Tryz.prog 49 #[.string s, .int .i64 (i : Int)] w fun e w' => e = .returned (goV s.data.toList i) ∧ w' = w := by
  have HL : Hid (s.data.toList.length = s.size) := len_all s
  obtain ⟨r, hr⟩ : ∃ r, goV s.data.toList i = r := ⟨_, rfl⟩
  rw [hr]
  have HR : Hid (goV s.data.toList i = r) := hr
  clear hr
  go_enter Tryz.func49, Tryz.ntmps49
  go_wp2
  go_loop [1] (fun v => ∃ j : Nat, j ≤ s.size ∧ v = .int .i64 (j : Int) ∧ Hid (SkTo s.data.toList i j)) (fun v => s.size - (intOf v).toNat)
  case atStart => exact ⟨i, hi, rfl, skTo_refl _ _⟩
  case round =>
    obtain ⟨j, hj, rfl, hk⟩ := hrel
    by_cases hlt : j < s.size
    · have hlt' : (j : Int) < s.size := by omega
      obtain ⟨x, hx0, hix⟩ := at_some hlt
      have HX : Hid (s.data.toList[j]? = some x) := hx0
      clear hx0
      have cb := rblank_any x
      cases hB : isB x with
      | true =>
        have HN : Hid (SkTo s.data.toList i (j + 1)) := skTo_blank hk.out HX.out hB
        rw [hB] at cb
        clear hB hk
        go_wp2_with (go_at_call 71; refine (cb _).mono ?_; rintro e w' ⟨rfl, rfl⟩)
        go_round
        case rel => exact ⟨j + 1, by omega, by go_num, HN⟩
        case measure => simp [intOf]; omega
      | false =>
        rw [hB] at cb
        have HB : Hid (isB x = false) := hB
        clear hB
        by_cases h47 : x = 47
        · subst h47
          have hix' : ∀ w, (Instr.index 9 (.string s) (.int .i64 (j : Int))).run Tryz.prog w = .ok (.int .u8 47) w := hix
          have cb' : ∀ w, Calls Tryz.prog 71 #[.int .u8 47] w fun e w' => e = .returned (.bool false) ∧ w' = w := cb
          clear hix cb
          by_cases h1 : j + 1 < s.size
          · have h1' : (j : Int) + 1 < s.size := by omega
            obtain ⟨y, hy0, hiy⟩ := at_some1 h1
            have HY : Hid (s.data.toList[j + 1]? = some y) := hy0
            clear hy0
            by_cases hyl : y = 47
            · subst hyl
              have hiy' : ∀ w, (Instr.index 9 (.string s) (.int .i64 ((j : Int) + 1))).run Tryz.prog w = .ok (.int .u8 47) w := hiy
              clear hiy
              go_wp2_with (go_at_call 71; refine (cb' _).mono ?_; rintro e w' ⟨rfl, rfl⟩)
              go_loop [1] (fun v => ∃ k : Nat, j ≤ k ∧ k ≤ s.size ∧ v = .int .i64 (k : Int) ∧ Hid (∀ q, j ≤ q → q < k → s.data.toList[q]? ≠ some 10)) (fun v => s.size - (intOf v).toNat)
              case atStart => exact ⟨j, Nat.le_refl _, hj, rfl, fun q h1 h2 => absurd h2 (by omega)⟩
              case round =>
                obtain ⟨k, hjk, hks, rfl, hA⟩ := hrel
                by_cases hkl : k < s.size
                · have hkl' : (k : Int) < s.size := by omega
                  obtain ⟨z, hz0, hiz⟩ := at_some hkl
                  have HZ : Hid (s.data.toList[k]? = some z) := hz0
                  clear hz0
                  by_cases hz : z = 10
                  · subst hz
                    have hiz' : ∀ w, (Instr.index 9 (.string s) (.int .i64 (k : Int))).run Tryz.prog w = .ok (.int .u8 10) w := hiz
                    have hne : j ≠ k := fun e => by subst e; have := HX.out.symm.trans HZ.out; cases this
                    have HN : Hid (SkTo s.data.toList i k) := skTo_line hk.out HX.out HY.out hjk (by rw [HL.out]; exact hks) hA.out (Or.inr HZ.out)
                    clear hiz hix' hiy'
                    go_wp2
                    go_round
                    case rel => exact ⟨k, hks, rfl, HN⟩
                    case measure => simp [intOf]; omega
                  · have hz' : ((z.toNat : Int) == 10) = false := u8_ne hz
                    have HN : Hid (∀ q, j ≤ q → q < k + 1 → s.data.toList[q]? ≠ some 10) := fun q h1 h2 => by
                      by_cases e : q < k
                      · exact hA.out q h1 e
                      · have : q = k := by omega
                        subst this
                        rw [HZ.out]
                        intro e
                        cases e
                        exact hz rfl
                    clear hz hix' hiy'
                    go_wp2
                    go_round
                    case rel => exact ⟨k + 1, by omega, by omega, by go_num, HN⟩
                    case measure => simp [intOf]; omega
                · have hkl' : ¬ (k : Int) < s.size := by omega
                  have HN : Hid (SkTo s.data.toList i k) := skTo_line hk.out HX.out HY.out hjk (by rw [HL.out]; exact hks) hA.out (Or.inl (by rw [HL.out]; omega))
                  clear hix' hiy'
                  go_wp2
                  go_round
                  case rel => exact ⟨k, hks, rfl, HN⟩
                  case measure => simp [intOf]; omega
            · by_cases hys : y = 42
              · subst hys
                have hiy' : ∀ w, (Instr.index 9 (.string s) (.int .i64 ((j : Int) + 1))).run Tryz.prog w = .ok (.int .u8 42) w := hiy
                clear hiy
                go_wp2_with (go_at_call 71; refine (cb' _).mono ?_; rintro e w' ⟨rfl, rfl⟩)
                go_loop [6] (fun v => ∃ k : Nat, j + 2 ≤ k ∧ k ≤ s.size ∧ v = .int .i64 (k : Int) ∧ Hid (∀ q, j + 2 ≤ q → q < k → ¬ (s.data.toList[q]? = some 42 ∧ s.data.toList[q + 1]? = some 47))) (fun v => s.size - (intOf v).toNat)
                case atStart => exact ⟨j + 2, Nat.le_refl _, by omega, by go_num, fun q h1 h2 => absurd h2 (by omega)⟩
                case round =>
                  obtain ⟨k, hjk, hks, rfl, hA⟩ := hrel
                  by_cases hkl : k + 1 < s.size
                  · have hkl' : (k : Int) + 1 < s.size := by omega
                    obtain ⟨z, hz0, hiz⟩ := at_some (show k < s.size by omega)
                    obtain ⟨y, hy0, hiy⟩ := at_some1 hkl
                    have HZ : Hid (s.data.toList[k]? = some z) := hz0
                    have HW : Hid (s.data.toList[k + 1]? = some y) := hy0
                    clear hz0 hy0
                    by_cases hz : z = 42
                    · subst hz
                      have hiz' : ∀ w, (Instr.index 9 (.string s) (.int .i64 (k : Int))).run Tryz.prog w = .ok (.int .u8 42) w := hiz
                      by_cases hyy : y = 47
                      · subst hyy
                        have hiw : ∀ w, (Instr.index 9 (.string s) (.int .i64 ((k : Int) + 1))).run Tryz.prog w = .ok (.int .u8 47) w := hiy
                        have HN : Hid (SkTo s.data.toList i (k + 2)) := skTo_star hk.out HX.out HY.out hjk hA.out ⟨HZ.out, HW.out⟩
                        have hge : ¬ (s.size : Int) ≤ (k : Int) + 1 := by omega
                        clear hiz hiy hix' hiy'
                        go_wp2
                        go_round
                        case rel => exact ⟨k + 2, by omega, by go_num, HN⟩
                        case measure => simp [intOf]; omega
                      · have hyy' : ((y.toNat : Int) == 47) = false := u8_ne hyy
                        have HN : Hid (∀ q, j + 2 ≤ q → q < k + 1 → ¬ (s.data.toList[q]? = some 42 ∧ s.data.toList[q + 1]? = some 47)) := fun q h1 h2 => by
                          by_cases e : q < k
                          · exact hA.out q h1 e
                          · have : q = k := by omega
                            subst this
                            rintro ⟨_, e2⟩
                            have := HW.out.symm.trans e2
                            cases this
                            exact hyy rfl
                        clear hyy hiz hix' hiy'
                        go_wp2
                        go_round
                        case rel => exact ⟨k + 1, by omega, by omega, by go_num, HN⟩
                        case measure => simp [intOf]; omega
                    · have hz' : ((z.toNat : Int) == 42) = false := u8_ne hz
                      have HN : Hid (∀ q, j + 2 ≤ q → q < k + 1 → ¬ (s.data.toList[q]? = some 42 ∧ s.data.toList[q + 1]? = some 47)) := fun q h1 h2 => by
                        by_cases e : q < k
                        · exact hA.out q h1 e
                        · have : q = k := by omega
                          subst this
                          rintro ⟨e2, _⟩
                          have := HZ.out.symm.trans e2
                          cases this
                          exact hz rfl
                      clear hz hiy hix' hiy'
                      go_wp2
                      go_round
                      case rel => exact ⟨k + 1, by omega, by omega, by go_num, HN⟩
                      case measure => simp [intOf]; omega
                  · have hkl' : ¬ (k : Int) + 1 < s.size := by omega
                    have hge : (s.size : Int) ≤ (k : Int) + 1 := by omega
                    have HN : Hid (r = .tuple #[.int .i64 (j : Int), .int .i64 (j : Int)]) := HR.out.symm.trans (goV_open (skTo_open hk.out HX.out HY.out (fun q h1 h2 => hA.out q h1 (by rw [HL.out] at h2; omega))))
                    clear hix' hiy'
                    go_wp2
                    go_ret2
                    exact ⟨by rw [HN.out]; rfl, rfl⟩
              · have hy1 : ((y.toNat : Int) == 47) = false := u8_ne hyl
                have hy2 : ((y.toNat : Int) == 42) = false := u8_ne hys
                have HN : Hid (r = .tuple #[.int .i64 (j : Int), .int .i64 (-1)]) := HR.out.symm.trans (goV_ok (skTo_stop hk.out HX.out HB.out (Or.inr (fun d hd => by
                  have := HY.out.symm.trans hd
                  cases this
                  rintro (e | e)
                  · exact hyl e
                  · exact hys e))))
                clear hyl hys
                go_wp2_with (go_at_call 71; refine (cb' _).mono ?_; rintro e w' ⟨rfl, rfl⟩)
                go_ret2
                exact ⟨by rw [HN.out]; rfl, rfl⟩
          · have h1' : ¬ (j : Int) + 1 < s.size := by omega
            have HN : Hid (r = .tuple #[.int .i64 (j : Int), .int .i64 (-1)]) := HR.out.symm.trans (goV_ok (skTo_stop hk.out HX.out HB.out (Or.inr (fun d hd => by
              have := (List.getElem?_eq_some_iff.1 hd).1
              rw [HL.out] at this
              omega))))
            go_wp2_with (go_at_call 71; refine (cb' _).mono ?_; rintro e w' ⟨rfl, rfl⟩)
            go_ret2
            exact ⟨by rw [HN.out]; rfl, rfl⟩
        · have hx' : ((x.toNat : Int) == 47) = false := u8_ne h47
          have HN : Hid (r = .tuple #[.int .i64 (j : Int), .int .i64 (-1)]) := HR.out.symm.trans (goV_ok (skTo_stop hk.out HX.out HB.out (Or.inl h47)))
          clear h47
          go_wp2_with (go_at_call 71; refine (cb _).mono ?_; rintro e w' ⟨rfl, rfl⟩)
          go_ret2
          exact ⟨by rw [HN.out]; rfl, rfl⟩
    · have hlt' : ¬ (j : Int) < s.size := by omega
      have HN : Hid (r = .tuple #[.int .i64 (j : Int), .int .i64 (-1)]) := HR.out.symm.trans (goV_ok (skTo_end hk.out (by rw [HL.out]; omega)))
      go_wp2
      go_ret2
      exact ⟨by rw [HN.out]; rfl, rfl⟩
end Go.Proofs.YtlbgppijeoonjaaGreatDoor

namespace Go.Proofs.YtlbgppijeoonjaaGreatDoor
open Go.RowKit
set_option linter.unusedVariables false

theorem inN_at (s : ByteArray) (a : Nat) (h : a ≤ s.size) : inN s (a : Int) = a := by
  unfold inN
  rw [if_neg (by omega), if_neg (by omega)]
  rfl
def fltV (t : List UInt8) (c a : Nat) : Value := .agg #[.int .i64 (c : Int), .int .i64 (a : Int), .int .i64 (lineN t a : Int), .int .i64 (colN t a : Int), .string ⟨#[]⟩]
theorem res_flt1 {fn : Func} {n : Nat} (hf : fn.results = #[.cell n 60]) (tmps : Array Value) (b : Nat) (w : World) (v0 v1 v2 v3 v4 : Value)
    (h2 : tmps[n]? = some (.pointer (some ⟨b, 0, none⟩))) (hk : w.heap[b]? = some (.cells #[v0, v1, v2, v3, v4] 60 (0, 0))) :
    (results fn tmps).run Tryz.prog w = .ok (.agg #[v0, v1, v2, v3, v4]) w := by
  have a1 := fun i => cell_of_row w b i _ _ (0, 0) hk
  have z0 := a1 0; have z1 := a1 1; have z2 := a1 2; have z3 := a1 3; have z4 := a1 4
  simp at z0 z1 z2 z3 z4
  simp [results, hf, go_sem, h2, z0, z1, z2, z3, z4]
theorem set5r_at (w : World) (b : Nat) (t : TypeId) (o0 o1 o2 o3 o4 v0 v1 v2 v3 v4 : Value) (k : w.heap[b]? = some (.cells #[o0, o1, o2, o3, o4] t (0, 0))) :
    (((((w.setCell ⟨b, 0, none⟩ v0).setCell ⟨b, 1, none⟩ v1).setCell ⟨b, 2, none⟩ v2).setCell ⟨b, 3, none⟩ v3).setCell ⟨b, 4, none⟩ v4).heap[b]? = some (.cells #[v0, v1, v2, v3, v4] t (0, 0)) := by
  have h0 : (w.setCell ⟨b, 0, none⟩ v0).heap[b]? = some (.cells #[v0, o1, o2, o3, o4] t (0, 0)) := heap_setCell_same _ b 0 _ t _ k
  generalize w.setCell ⟨b, 0, none⟩ v0 = w0 at *
  have h1 : (w0.setCell ⟨b, 1, none⟩ v1).heap[b]? = some (.cells #[v0, v1, o2, o3, o4] t (0, 0)) := heap_setCell_same _ b 1 _ t _ h0
  generalize w0.setCell ⟨b, 1, none⟩ v1 = w1 at *
  have h2 : (w1.setCell ⟨b, 2, none⟩ v2).heap[b]? = some (.cells #[v0, v1, v2, o3, o4] t (0, 0)) := heap_setCell_same _ b 2 _ t _ h1
  generalize w1.setCell ⟨b, 2, none⟩ v2 = w2 at *
  have h3 : (w2.setCell ⟨b, 3, none⟩ v3).heap[b]? = some (.cells #[v0, v1, v2, v3, o4] t (0, 0)) := heap_setCell_same _ b 3 _ t _ h2
  generalize w2.setCell ⟨b, 3, none⟩ v3 = w3 at *
  exact heap_setCell_same _ b 4 _ t _ h3
set_option maxHeartbeats 2000000 in
set_option maxRecDepth 100000 in
theorem rfault_any (s : ByteArray) (c a : Nat) (w : World) (hs : s.size < 4611686018427387904) (ha : a ≤ s.size) :
    Calls Tryz.prog 50 #[.string s, .int .i64 (c : Int), .int .i64 (a : Int)] w fun e w' => e = .returned (fltV s.data.toList c a) ∧ Below w.heap.size w w' := by
  have cs := fun w => rspot_any s (a : Int) w hs
  rw [inN_at s a ha] at cs
  unfold spV at cs
  unfold fltV
  generalize lineN s.data.toList a = ln at *
  generalize colN s.data.toList a = cl at *
  go_enter Tryz.func50, Tryz.ntmps50
  go_wp2_with fail
  have hv1 : (w.alloc (.cells #[.int .i64 0, .int .i64 0, .int .i64 0, .int .i64 0, .string ⟨#[]⟩] 60)).heap[w.heap.size]? = some (.cells #[.int .i64 0, .int .i64 0, .int .i64 0, .int .i64 0, .string ⟨#[]⟩] 60 (0, 0)) := heap_alloc_new w _
  have hb1 : Below w.heap.size w (w.alloc (.cells #[.int .i64 0, .int .i64 0, .int .i64 0, .int .i64 0, .string ⟨#[]⟩] 60)) := (Below.refl _ _).alloc (Nat.le_refl _) _
  generalize (w.alloc (.cells #[.int .i64 0, .int .i64 0, .int .i64 0, .int .i64 0, .string ⟨#[]⟩] 60)) = w1 at *
  refine (cs w1).mono ?_
  rintro e w2 ⟨rfl, hb2⟩
  have hv2 := (hb2.block _ (heap_lt hv1)).trans hv1
  have hbw := hb1.trans (hb2.mono hb1.size)
  have a1 := fun i => cell_of_row w2 w.heap.size i _ _ (0, 0) hv2
  have y0 := a1 0; have y1 := a1 1; have y2 := a1 2; have y3 := a1 3; have y4 := a1 4
  have fz : ∀ i, w2.frozen? ⟨w.heap.size, i, none⟩ = false := fun i => frozen_of_row w2 w.heap.size i _ _ hv2
  simp at y0 y1 y2 y3 y4
  clear a1 hv1 hb1 hb2 cs
  go_wp2
  refine bodyPost_ret (v := .agg #[.int .i64 (c : Int), .int .i64 (a : Int), .int .i64 (ln : Int), .int .i64 (cl : Int), .string ⟨#[]⟩]) (res_flt1 Tryz.results50 _ w.heap.size _ _ _ _ _ _ rfl (set5r_at _ _ _ _ _ _ _ _ _ _ _ _ _ hv2)) rfl ⟨rfl, ?_⟩
  exact (((((hbw.set3 _ _ _ (Nat.le_refl _)).set3 _ _ _ (Nat.le_refl _)).set3 _ _ _ (Nat.le_refl _)).set3 _ _ _ (Nat.le_refl _)).set3 _ _ _ (Nat.le_refl _))
theorem line_step (t : List UInt8) (k : Nat) : lineN t (k + 1) = if t[k]? = some 10 then lineN t k + 1 else lineN t k := rfl
set_option maxHeartbeats 4000000 in
set_option maxRecDepth 100000 in
theorem rfurther_any (s : ByteArray) (p k : Nat) (w : World) (hs : s.size < 4294967281) (hp : p ≤ k) (hk : k ≤ s.size) :
    Calls Tryz.prog 51 #[.string s, spV s.data.toList p, .int .i64 (k : Int)] w fun e w' => e = .returned (spV s.data.toList k) ∧ Below w.heap.size w w' := by
  unfold spV
  go_enter Tryz.func51, Tryz.ntmps51
  go_wp2
  go_loopw [7] (fun i wr => ∃ j : Nat, p ≤ j ∧ j ≤ k ∧ i = .int .i64 j ∧ Sp3 wr w.heap.size p (lineN s.data.toList j) (colN s.data.toList j) ∧ wr.heap[w.heap.size + 1]? = some (.cells #[.int .i64 0, .int .i64 0, .int .i64 0] 27 (0, 0)) ∧ Below w.heap.size w wr) (fun i _ => k - (intOf i).toNat)
  case atStart => exact ⟨p, Nat.le_refl _, hp, rfl, ⟨heap2_0' _ _ _⟩, heap2_1' _ _ _, ((Below.refl _ _).alloc (Nat.le_refl _) _).alloc (by simp) _⟩
  case round =>
    obtain ⟨j, hpj, hj, rfl, hS, hv, hb⟩ := hrel
    have hL := (lineN_le s.data.toList j).1
    have hC : colN s.data.toList j ≤ j + 1 := by unfold colN; omega
    by_cases hlt : j < k
    · have hlt' : (j : Int) < k := by omega
      obtain ⟨x, hx0, hix⟩ := at_some (show j < s.size by omega)
      have e1 := line_step s.data.toList j
      have e2 := col_step s.data.toList j
      rw [hx0] at e1 e2
      have c1 := hS.c1
      have c2 := hS.c2
      have fz := hS.fz
      by_cases h10 : x = 10
      · subst h10
        rw [if_pos rfl] at e1 e2
        have hix' : ∀ w, (Instr.index 9 (.string s) (.int .i64 (j : Int))).run Tryz.prog w = .ok (.int .u8 10) w := hix
        have hS2 := ((hS.set2 ((colN s.data.toList j : Int) + 1)).set1 ((lineN s.data.toList j : Int) + 1)).set2 1
        have hS1 := (hS.set2 ((colN s.data.toList j : Int) + 1))
        have d1 := hS1.c1
        have fz1 := hS1.fz
        have fz2 := (hS1.set1 ((lineN s.data.toList j : Int) + 1)).fz
        have d2 := (hS1.set1 ((lineN s.data.toList j : Int) + 1)).c2
        have HE1 : Hid (_ = _) := e1
        have HE2 : Hid (_ = _) := e2
        clear hix hx0 e1 e2 hS hS1
        generalize lineN s.data.toList j = ln at *
        generalize colN s.data.toList j = cl at *
        go_wp2
        go_roundw
        case rel =>
          refine ⟨j + 1, by omega, by omega, by go_num, ⟨?_⟩, ?_, ?_⟩
          · rw [HE1.out, HE2.out]; exact hS2.hheap
          · rw [heap_set_ne _ _ _ _ _ (by omega), heap_set_ne _ _ _ _ _ (by omega), heap_set_ne _ _ _ _ _ (by omega)]; exact hv
          · exact ((hb.set3 _ _ _ (Nat.le_refl _)).set3 _ _ _ (Nat.le_refl _)).set3 _ _ _ (Nat.le_refl _)
        case measure => simp [intOf]; omega
      · have hx' : ((x.toNat : Int) == 10) = false := u8_ne h10
        rw [if_neg (fun e => h10 (Option.some.inj e))] at e1 e2
        have hS2 := (hS.set2 ((colN s.data.toList j : Int) + 1))
        have HE1 : Hid (_ = _) := e1
        have HE2 : Hid (_ = _) := e2
        clear hx0 e1 e2 hS h10
        generalize lineN s.data.toList j = ln at *
        generalize colN s.data.toList j = cl at *
        go_wp2
        go_roundw
        case rel =>
          refine ⟨j + 1, by omega, by omega, by go_num, ⟨?_⟩, ?_, ?_⟩
          · rw [HE1.out, HE2.out]; exact hS2.hheap
          · rw [heap_set_ne _ _ _ _ _ (by omega)]; exact hv
          · exact hb.set3 _ _ _ (Nat.le_refl _)
        case measure => simp [intOf]; omega
    · have hlt' : ¬ (j : Int) < k := by omega
      have hjk : j = k := by omega
      subst hjk
      have hS0 : Sp3 (wr.setCell ⟨w.heap.size, 0, none⟩ (.int .i64 (j : Int))) w.heap.size j (lineN s.data.toList j) (colN s.data.toList j) := ⟨heap_setCell_same _ w.heap.size 0 _ _ _ hS.hheap⟩
      have c0 := hS.c0
      have fz0 := hS.fz
      have d0 := hS0.c0
      have d1 := hS0.c1
      have d2 := hS0.c2
      have hv' : (wr.setCell ⟨w.heap.size, 0, none⟩ (.int .i64 (j : Int))).heap[w.heap.size + 1]? = some (.cells #[.int .i64 0, .int .i64 0, .int .i64 0] 27 (0, 0)) := by rw [heap_set_ne _ _ _ _ _ (by omega)]; exact hv
      have a1 := fun i => cell_of_row _ (w.heap.size + 1) i _ _ (0, 0) hv'
      have z0 := a1 0; have z1 := a1 1; have z2 := a1 2
      have fz : ∀ i, (wr.setCell ⟨w.heap.size, 0, none⟩ (.int .i64 (j : Int))).frozen? ⟨w.heap.size + 1, i, none⟩ = false := fun i => frozen_of_row _ (w.heap.size + 1) i _ _ hv'
      have hb0 := hb.set3 w.heap.size 0 (.int .i64 (j : Int)) (Nat.le_refl _)
      simp at z0 z1 z2
      clear a1 hS hv hb hS0
      go_wp2
      refine bodyPost_ret (v := spV s.data.toList j) (res_spot Tryz.results51 _ (w.heap.size + 1) _ _ _ _ rfl (set3_at _ _ _ _ _ _ _ _ _ hv')) rfl ⟨rfl, ?_⟩
      exact ((hb0.set3 _ _ _ (Nat.le_succ _)).set3 _ _ _ (Nat.le_succ _)).set3 _ _ _ (Nat.le_succ _)
end Go.Proofs.YtlbgppijeoonjaaGreatDoor

