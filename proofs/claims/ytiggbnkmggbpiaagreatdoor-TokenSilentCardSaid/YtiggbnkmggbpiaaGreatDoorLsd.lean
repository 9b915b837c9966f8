import Derived.Test.YtiggbnkmggbpiaaGreatDoorLsc
namespace Go.Proofs.YtiggbnkmggbpiaaGreatDoor
open Go
set_option linter.unusedVariables false

/-! ### What says nothing, piece by piece -/
theorem isB_iff (c : UInt8) : isB c = true ↔ c = 32 ∨ c = 9 ∨ c = 10 ∨ c = 13 := by simp [isB, blkL]
theorem blen_cons {c : UInt8} {r : List UInt8} (h : isB c = true) : blen (c :: r) = 1 + blen r := by simp [blen, List.takeWhile, h]; omega
theorem blen_stop {c : UInt8} {r : List UInt8} (h : isB c = false) : blen (c :: r) = 0 := by simp [blen, List.takeWhile, h]
theorem skip_blank {c : UInt8} {r : List UInt8} (h : isB c = true) : skipL (c :: r) = (1 + (skipL r).1, (skipL r).2) := by
  have hb := blen_cons (r := r) h
  have hd : (c :: r).drop (blen (c :: r)) = r.drop (blen r) := by rw [hb, Nat.add_comm]; rfl
  by_cases hc : isC (r.drop (blen r)) = true
  · cases hm : clen (r.drop (blen r)) with
    | none => rw [skip_open (by rw [hd]; exact hc) (by rw [hd]; exact hm), skip_open hc hm, hb]
    | some m =>
      rw [skip_more (by rw [hd]; exact hc) (by rw [hd]; exact hm), skip_more hc hm, hb]
      have e : (c :: r).drop (1 + blen r + m) = r.drop (blen r + m) := by rw [show 1 + blen r + m = (blen r + m) + 1 by omega]; rfl
      rw [e]
      simp only
      congr 1
      omega
  · have hc' : isC (r.drop (blen r)) = false := by simpa using hc
    rw [skip_none (by rw [hd]; exact hc'), skip_none hc', hb]
theorem isC_blen {l : List UInt8} (h : isC l = true) : blen l = 0 := by
  obtain ⟨t, rfl | rfl⟩ := isC_shape h <;> exact blen_stop (by decide)
theorem skip_com {l : List UInt8} {m : Nat} (hc : isC l = true) (hm : clen l = some m) : skipL l = (m + (skipL (l.drop m)).1, (skipL (l.drop m)).2) := by
  have hb := isC_blen hc
  have hd : l.drop (blen l) = l := by rw [hb]; rfl
  rw [skip_more (by rw [hd]; exact hc) (by rw [hd]; exact hm), hb]
  simp
theorem skip_op {l : List UInt8} (hc : isC l = true) (hm : clen l = none) : skipL l = (0, false) := by
  have hb := isC_blen hc
  have hd : l.drop (blen l) = l := by rw [hb]; rfl
  rw [skip_open (by rw [hd]; exact hc) (by rw [hd]; exact hm), hb]
/-- A list at which nothing is skipped. -/
def Stp (l : List UInt8) : Prop := isC l = false ∧ ∀ c, l.head? = some c → isB c = false
theorem skip_stp {l : List UInt8} (h : Stp l) : skipL l = (0, true) := by
  have hb : blen l = 0 := by
    cases l with
    | nil => rfl
    | cons c r => exact blen_stop (h.2 c rfl)
  have hd : l.drop (blen l) = l := by rw [hb]; rfl
  rw [skip_none (by rw [hd]; exact h.1), hb]
theorem skip_nil : skipL [] = (0, true) := skip_stp ⟨rfl, fun c h => by cases h⟩
theorem skip_cases (l : List UInt8) : (∃ c r, l = c :: r ∧ isB c = true) ∨ (∃ m, isC l = true ∧ clen l = some m) ∨ (isC l = true ∧ clen l = none) ∨ Stp l := by
  by_cases hc : isC l = true
  · cases hm : clen l with
    | none => exact Or.inr (Or.inr (Or.inl ⟨hc, rfl⟩))
    | some m => exact Or.inr (Or.inl ⟨m, hc, rfl⟩)
  · have hc' : isC l = false := by simpa using hc
    cases l with
    | nil => exact Or.inr (Or.inr (Or.inr ⟨rfl, fun c h => by cases h⟩))
    | cons c r =>
      by_cases hb : isB c = true
      · exact Or.inl ⟨c, r, rfl, hb⟩
      · exact Or.inr (Or.inr (Or.inr ⟨hc', fun d h => by cases h; simpa using hb⟩))

/-! ### Comments -/
theorem ib_none {b : List UInt8} (h : 10 ∉ b) (r : List UInt8) : Lib.indexByte (b ++ r) 10 = if Lib.indexByte r 10 = -1 then -1 else Lib.indexByte r 10 + b.length := by
  induction b with
  | nil => simp
  | cons x b ih =>
    have hx : x ≠ 10 := fun e => h (by simp [e])
    have := ih (fun e => h (by simp [e]))
    rw [List.cons_append, Lib.indexByte, if_neg (by simpa using hx), this]
    have h0 := Lib.indexByte_ge r 10
    by_cases e : Lib.indexByte r 10 = -1
    · simp [e]
    · rw [if_neg e, if_neg (by simp; omega)]
      simp
      omega
theorem ib_at (r : List UInt8) : Lib.indexByte (10 :: r) 10 = 0 := by rw [Lib.indexByte]; rfl
theorem ib_nil : Lib.indexByte ([] : List UInt8) 10 = -1 := rfl
theorem com_line {b r : List UInt8} (h : 10 ∉ b) (hr : r = [] ∨ r.head? = some 10) : clen (47 :: 47 :: (b ++ r)) = some (b.length + 2) := by
  have hb : 10 ∉ ((47 :: 47 :: b) : List UInt8) := by simp [h]
  rw [clen_line]
  have e : Lib.indexByte (47 :: 47 :: (b ++ r)) 10 = _ := ib_none hb r
  rcases hr with rfl | hr
  · rw [ib_nil, if_pos rfl] at e
    rw [e, if_pos (by decide)]
    simp
  · cases r with
    | nil => cases hr
    | cons c r =>
      cases hr
      rw [ib_at, if_neg (by decide)] at e
      rw [e, if_neg (by omega)]
      simp
      omega
/-- A block that an end behind it is the first. -/
def NoE (b : List UInt8) : Prop := ∀ r, Lib.index (b ++ 42 :: 47 :: r) [42, 47] = b.length
theorem com_star {b : List UInt8} (h : NoE b) (r : List UInt8) : clen (47 :: 42 :: (b ++ 42 :: 47 :: r)) = some (b.length + 4) := by
  rw [clen_star, h r, if_neg (by omega)]
  simp
theorem ix_shape (t : List UInt8) (i : Nat) (h : Lib.index t [42, 47] = i) : ∃ b r, t = b ++ 42 :: 47 :: r ∧ b.length = i ∧ NoE b := by
  induction t generalizing i with
  | nil => rw [show Lib.index ([] : List UInt8) [42, 47] = -1 from rfl] at h; omega
  | cons x t ih =>
    rw [Lib.index] at h
    by_cases hp : ([42, 47] : List UInt8).isPrefixOf (x :: t) = true
    · rw [if_pos hp] at h
      obtain ⟨r, hr⟩ := List.isPrefixOf_iff_prefix.1 hp
      refine ⟨[], r, hr.symm, by simp; omega, fun r' => ?_⟩
      rw [List.nil_append, Lib.index, if_pos (by simp [List.isPrefixOf])]
      rfl
    · rw [if_neg hp] at h
      have h0 := Lib.index_ge t [42, 47]
      by_cases e : Lib.index t [42, 47] = -1
      · rw [e] at h; simp at h
      · rw [if_neg (by simpa using e)] at h
        obtain ⟨b, r, h1, h2, h3⟩ := ih (i - 1) (by omega)
        refine ⟨x :: b, r, by rw [h1]; rfl, by simp; omega, fun r' => ?_⟩
        rw [List.cons_append, Lib.index, if_neg, h3 r', if_neg (by simp)]
        · simp
        · intro hp'
          apply hp
          subst h1
          cases b with
          | nil => simp [List.isPrefixOf] at hp'
          | cons y b => simpa [List.isPrefixOf] using hp'
theorem ib_shape (l : List UInt8) : (10 ∉ l ∧ Lib.indexByte l 10 = -1) ∨ ∃ b r, l = b ++ 10 :: r ∧ 10 ∉ b ∧ Lib.indexByte l 10 = b.length := by
  induction l with
  | nil => exact Or.inl ⟨by simp, rfl⟩
  | cons x t ih =>
    by_cases hx : x = 10
    · subst hx
      exact Or.inr ⟨[], t, rfl, by simp, ib_at t⟩
    · rcases ih with ⟨h1, h2⟩ | ⟨b, r, h1, h2, h3⟩
      · exact Or.inl ⟨by simp [h1]; exact fun e => hx e.symm, by rw [Lib.indexByte, if_neg (by simpa using hx), h2]; rfl⟩
      · refine Or.inr ⟨x :: b, r, by rw [h1]; rfl, by simp [h2]; exact fun e => hx e.symm, ?_⟩
        rw [Lib.indexByte, if_neg (by simpa using hx), h3, if_neg (by simp)]
        simp
theorem com_shape {l : List UInt8} {m : Nat} (hc : isC l = true) (hm : clen l = some m) :
    (∃ b r, l = 47 :: 47 :: (b ++ r) ∧ 10 ∉ b ∧ m = b.length + 2 ∧ (r = [] ∨ r.head? = some 10)) ∨ (∃ b r, l = 47 :: 42 :: (b ++ 42 :: 47 :: r) ∧ NoE b ∧ m = b.length + 4) := by
  obtain ⟨t, rfl | rfl⟩ := isC_shape hc
  · left
    rw [clen_line] at hm
    simp only [Option.some.injEq] at hm
    rcases ib_shape t with ⟨h1, h2⟩ | ⟨b, r, h1, h2, h3⟩
    · refine ⟨t, [], by simp, h1, ?_, Or.inl rfl⟩
      have := com_line (r := []) h1 (Or.inl rfl)
      rw [List.append_nil, clen_line] at this
      simp only [Option.some.injEq] at this
      omega
    · refine ⟨b, 10 :: r, by rw [h1], h2, ?_, Or.inr rfl⟩
      have := com_line (r := 10 :: r) h2 (Or.inr rfl)
      rw [← h1, clen_line] at this
      simp only [Option.some.injEq] at this
      omega
  · right
    rw [clen_star] at hm
    split at hm
    · cases hm
    · next h =>
      simp only [Option.some.injEq] at hm
      obtain ⟨b, r, h1, h2, h3⟩ := ix_shape t (Lib.index t [42, 47]).toNat (by omega)
      exact ⟨b, r, by rw [h1], h3, by omega⟩
theorem isC_line (t : List UInt8) : isC (47 :: 47 :: t) = true := by simp [isC, Lib.hasPrefix, List.isPrefixOf]
theorem isC_star (t : List UInt8) : isC (47 :: 42 :: t) = true := by simp [isC, Lib.hasPrefix, List.isPrefixOf]
theorem isC_take {l : List UInt8} {m : Nat} (h : isC (l.take m) = true) : isC l = true := by
  obtain ⟨t, h1⟩ := isC_shape h
  have e : l = l.take m ++ l.drop m := (List.take_append_drop m l).symm
  rcases h1 with h1 | h1
  · rw [e, h1]; exact isC_line _
  · rw [e, h1]; exact isC_star _
theorem stp_take {l : List UInt8} (h : Stp l) (m : Nat) : Stp (l.take m) := by
  refine ⟨?_, fun c hc => h.2 c ?_⟩
  · cases hh : isC (l.take m) with
    | false => rfl
    | true => exact absurd (isC_take hh) (by rw [h.1]; decide)
  · cases l with
    | nil => simp at hc
    | cons x t =>
      cases m with
      | zero => simp at hc
      | succ m => simpa using hc
/-- A comment, cut behind it. -/
theorem skip_com_take {l : List UInt8} {m : Nat} (hc : isC l = true) (hm : clen l = some m) (n : Nat) (hn : m ≤ n) : isC (l.take n) = true ∧ clen (l.take n) = some m := by
  rcases com_shape hc hm with ⟨b, r, rfl, h1, rfl, h2⟩ | ⟨b, r, rfl, h1, rfl⟩
  · obtain ⟨j, rfl⟩ : ∃ j, n = b.length + j + 2 := ⟨n - 2 - b.length, by omega⟩
    have e : (47 :: 47 :: (b ++ r)).take (b.length + j + 2) = 47 :: 47 :: (b ++ r.take j) := by
      rw [List.take_succ_cons, List.take_succ_cons, List.take_append, List.take_of_length_le (by omega)]
      congr 4
      omega
    rw [e]
    refine ⟨isC_line _, com_line h1 ?_⟩
    rcases h2 with rfl | h2
    · left; simp
    · cases r with
      | nil => left; simp
      | cons c r =>
        cases j with
        | zero => left; rfl
        | succ j => right; exact h2
  · obtain ⟨j, rfl⟩ : ∃ j, n = b.length + j + 4 := ⟨n - 4 - b.length, by omega⟩
    have e : (47 :: 42 :: (b ++ 42 :: 47 :: r)).take (b.length + j + 4) = 47 :: 42 :: (b ++ 42 :: 47 :: r.take j) := by
      rw [show b.length + j + 4 = (b.length + j + 2) + 1 + 1 by omega, List.take_succ_cons, List.take_succ_cons, List.take_append, List.take_of_length_le (by omega)]
      rw [show b.length + j + 2 - b.length = j + 1 + 1 by omega]
      rfl
    rw [e]
    exact ⟨isC_star _, com_star h1 _⟩
/-- What says nothing, cut behind it. -/
theorem skip_take (l : List UInt8) (n : Nat) (h : (skipL l).1 ≤ n) (h2 : (skipL l).2 = true ∨ n = (skipL l).1) : skipL (l.take n) = ((skipL l).1, true) := by
  induction hl : l.length using Nat.strongRecOn generalizing l n with
  | _ m ih =>
    rcases skip_cases l with ⟨c, r, rfl, hb⟩ | ⟨m0, hc, hm⟩ | ⟨hc, hm⟩ | hs
    · rw [skip_blank hb] at h h2 ⊢
      simp only at h h2 ⊢
      obtain ⟨j, rfl⟩ : ∃ j, n = j + 1 := ⟨n - 1, by omega⟩
      rw [List.take_succ_cons, skip_blank hb, ih r.length (by simp at hl; omega) r j (by omega) (h2.imp id (fun e => by omega)) rfl]
    · have hle := clen_le hc hm
      rw [skip_com hc hm] at h h2 ⊢
      simp only at h h2 ⊢
      obtain ⟨h3, h4⟩ := skip_com_take hc hm n (by omega)
      rw [skip_com h3 h4, List.drop_take, ih (l.drop m0).length (by rw [List.length_drop]; omega) (l.drop m0) (n - m0) (by omega) (h2.imp id (fun e => by omega)) rfl]
    · rw [skip_op hc hm] at h h2 ⊢
      have : n = 0 := by rcases h2 with h2 | h2; exact absurd h2 (by decide); exact h2
      subst this
      rw [List.take_zero, skip_nil]
    · rw [skip_stp hs, skip_stp (stp_take hs n)]
/-- What says nothing, with a line's end put behind it. -/
theorem skip_app (l r : List UInt8) (h : (skipL l).2 = true) : skipL (l.take (skipL l).1 ++ 10 :: r) = ((skipL l).1 + 1 + (skipL r).1, (skipL r).2) := by
  induction hl : l.length using Nat.strongRecOn generalizing l with
  | _ m ih =>
    rcases skip_cases l with ⟨c, r0, rfl, hb⟩ | ⟨m0, hc, hm⟩ | ⟨hc, hm⟩ | hs
    · rw [skip_blank hb] at h ⊢
      simp only at h ⊢
      rw [Nat.add_comm 1, List.take_succ_cons, List.cons_append, skip_blank hb, ih r0.length (by simp at hl; omega) r0 h rfl]
      simp only
      congr 1
      omega
    · have hle := clen_le hc hm
      rw [skip_com hc hm] at h ⊢
      simp only at h ⊢
      have IH := ih (l.drop m0).length (by rw [List.length_drop]; omega) (l.drop m0) h rfl
      have e : l.take (m0 + (skipL (l.drop m0)).1) = l.take m0 ++ (l.drop m0).take (skipL (l.drop m0)).1 := by rw [List.take_add]
      rw [e, List.append_assoc]
      have key : isC (l.take m0 ++ ((l.drop m0).take (skipL (l.drop m0)).1 ++ 10 :: r)) = true ∧ clen (l.take m0 ++ ((l.drop m0).take (skipL (l.drop m0)).1 ++ 10 :: r)) = some m0 := by
        rcases com_shape hc hm with ⟨b, r1, rfl, h1, rfl, h2⟩ | ⟨b, r1, rfl, h1, rfl⟩
        · have e1 : (47 :: 47 :: (b ++ r1)).take (b.length + 2) = 47 :: 47 :: b := by simp
          have e2 : (47 :: 47 :: (b ++ r1)).drop (b.length + 2) = r1 := by simp
          rw [e1, e2]
          refine ⟨isC_line _, com_line h1 (Or.inr ?_)⟩
          rcases h2 with rfl | h2
          · simp
          · cases r1 with
            | nil => cases h2
            | cons c r1 =>
              cases h2
              rw [skip_blank (by decide), Nat.add_comm, List.take_succ_cons]
              rfl
        · have e1 : (47 :: 42 :: (b ++ 42 :: 47 :: r1)).take (b.length + 4) = 47 :: 42 :: (b ++ [42, 47]) := by
            rw [show b.length + 4 = (b.length + 2) + 1 + 1 by omega, List.take_succ_cons, List.take_succ_cons, List.take_append, List.take_of_length_le (by omega)]
            simp
          rw [e1]
          have := com_star h1 ((List.drop (b.length + 4) (47 :: 42 :: (b ++ 42 :: 47 :: r1))).take (skipL (List.drop (b.length + 4) (47 :: 42 :: (b ++ 42 :: 47 :: r1)))).1 ++ 10 :: r)
          simp only [List.cons_append, List.append_assoc, List.nil_append]
          exact ⟨isC_star _, this⟩
      rw [skip_com key.1 key.2]
      have e3 : (l.take m0 ++ ((l.drop m0).take (skipL (l.drop m0)).1 ++ 10 :: r)).drop m0 = (l.drop m0).take (skipL (l.drop m0)).1 ++ 10 :: r := by
        rw [List.drop_append, List.drop_of_length_le (by rw [List.length_take]; omega), List.length_take, Nat.min_eq_left (by omega)]
        simp
      rw [e3, IH]
      simp only
      congr 1
      omega
    · rw [skip_op hc hm] at h; cases h
    · rw [skip_stp hs, List.take_zero, List.nil_append, skip_blank (by decide)]
end Go.Proofs.YtiggbnkmggbpiaaGreatDoor
