import Derived.Test.YtncgdbjjlhohiabHexE
namespace Go.Proofs.Ytncgdbjjlhohiab
open Go.RowKit
set_option linter.unusedVariables false

/-! ### Quotes, without Go -/
def mk (c : UInt8) : Bool := c == 34 || c == 92
def qB (c : UInt8) : List UInt8 := if mk c = true then [92, c] else if okB c = true then [c] else [92, 120, hi4 c, lo4 c]
def qL (l : List UInt8) : List UInt8 := l.flatMap qB
def quoteL (l : List UInt8) : List UInt8 := 34 :: (qL l ++ [34])
/-- The byte that stands first, and how many it takes; 0: none. -/
def qd : List UInt8 → UInt8 × Nat
  | [] => (0, 0)
  | c :: r =>
    if c = 92 then
      match r with
      | [] => (0, 0)
      | d :: r' =>
        if mk d = true then (d, 2)
        else if d = 120 then
          match r' with
          | h :: k :: _ => if hbOk h k = true ∧ okB (UInt8.ofNat (16 * nib h + nib k)) = false then (UInt8.ofNat (16 * nib h + nib k), 4) else (0, 0)
          | _ => (0, 0)
        else (0, 0)
    else if okB c = true ∧ mk c = false then (c, 1) else (0, 0)
theorem qB_pos (c : UInt8) : 0 < (qB c).length := by unfold qB; split <;> (try split) <;> simp
theorem qB_le (c : UInt8) : (qB c).length ≤ 4 := by unfold qB; split <;> (try split) <;> simp
theorem qL_snoc (l : List UInt8) (c : UInt8) : qL (l ++ [c]) = qL l ++ qB c := by simp [qL]
theorem qL_cons (c : UInt8) (l : List UInt8) : qL (c :: l) = qB c ++ qL l := rfl
theorem qL_len (l : List UInt8) : (qL l).length ≤ 4 * l.length := by
  induction l with
  | nil => simp [qL]
  | cons a l ih => rw [qL_cons]; have := qB_le a; simp; omega
theorem qL_ge (l : List UInt8) : l.length ≤ (qL l).length := by
  induction l with
  | nil => simp [qL]
  | cons a l ih => rw [qL_cons]; have := qB_pos a; simp; omega
theorem mk_iff (c : UInt8) : mk c = true ↔ c = 34 ∨ c = 92 := by simp [mk]
theorem qd_qB (c : UInt8) (r : List UInt8) : qd (qB c ++ r) = (c, (qB c).length) := by
  unfold qB
  split
  · next h =>
    show qd (92 :: c :: r) = _
    simp [qd, h]
  · next h =>
    have hm : mk c = false := by simpa using h
    split
    · next h2 =>
      show qd (c :: r) = _
      have : c ≠ 92 := fun e => by rw [e] at hm; simp [mk] at hm
      simp [qd, this, hm, h2]
    · next h2 =>
      have ho : okB c = false := by simpa using h2
      show qd (92 :: 120 :: hi4 c :: lo4 c :: r) = _
      have e := hb_hi_lo c
      have m : mk 120 = false := by decide
      simp [qd, m, e.1, e.2, ho]
theorem qd_some (l : List UInt8) (h : (qd l).2 ≠ 0) : qB (qd l).1 = l.take (qd l).2 ∧ (qB (qd l).1).length = (qd l).2 := by
  unfold qd at h ⊢
  split at h
  · simp at h
  · next c r =>
    split at h
    · next hc =>
      subst hc
      simp only [if_true]
      split at h
      · simp at h
      · next d r' =>
        split at h
        · next hm =>
          simp only [hm, if_true]
          simp [qB, hm]
        · next hm =>
          split at h
          · next hd =>
            subst hd
            simp only [hm, if_true, Bool.false_eq_true, if_false]
            split at h
            · next x k t =>
              split at h
              · next hk =>
                simp only [hk, and_self, if_true]
                have h1 : nib x < 16 ∧ nib k < 16 := by have := hk.1; unfold hbOk okV at this; simpa using this
                have e : (UInt8.ofNat (16 * nib x + nib k)).toNat = 16 * nib x + nib k := UInt8.toNat_ofNat_of_lt' (show _ < 256 by omega)
                have hmk : mk (UInt8.ofNat (16 * nib x + nib k)) = false := by
                  cases hq : mk (UInt8.ofNat (16 * nib x + nib k)) with
                  | false => rfl
                  | true =>
                    exfalso
                    have := hk.2
                    rcases (mk_iff _).1 hq with e2 | e2 <;> rw [e2] at this <;> exact absurd this (by decide)
                unfold qB
                rw [hmk, hk.2]
                unfold hi4 lo4
                rw [e, show (16 * nib x + nib k) / 16 = nib x by omega, show (16 * nib x + nib k) % 16 = nib k by omega, dig_of_nib x h1.1, dig_of_nib k h1.2]
                simp
              · simp at h
            · simp at h
          · simp at h
    · next hc =>
      split at h
      · next hk =>
        simp only [hc, if_false, hk, and_self, if_true]
        simp [qB, hk]
      · simp at h
theorem qL_split (acc b S : List UInt8) (h : qL b = qL acc ++ S) : ∃ b', b = acc ++ b' ∧ qL b' = S := by
  induction acc generalizing b with
  | nil => exact ⟨b, rfl, h⟩
  | cons a acc ih =>
    cases b with
    | nil =>
      exfalso
      have := congrArg List.length h
      have h2 := qB_pos a
      rw [qL_cons] at this
      simp [qL] at this
      omega
    | cons x b =>
      rw [qL_cons, qL_cons, List.append_assoc] at h
      have h1 := qd_qB x (qL b)
      rw [h, qd_qB] at h1
      have e : a = x := congrArg Prod.fst h1
      subst e
      obtain ⟨b', rfl, h3⟩ := ih b (List.append_cancel_left h)
      exact ⟨b', rfl, h3⟩
theorem qL_inj (a b : List UInt8) (h : qL a = qL b) : a = b := by
  obtain ⟨c, e, h2⟩ := qL_split b a [] (by simpa using h)
  have : c = [] := by have := qL_ge c; rw [h2] at this; exact List.eq_nil_of_length_eq_zero (by simpa using this)
  subst this
  simpa using e
theorem quoteL_inj (a b : List UInt8) (h : quoteL a = quoteL b) : a = b := by
  unfold quoteL at h
  simp only [List.cons.injEq, true_and] at h
  exact qL_inj _ _ (List.append_cancel_right h)
theorem quoteL_len (l : List UInt8) : (quoteL l).length = (qL l).length + 2 := by simp [quoteL]
/-- What stands in quotes, if anything. -/
noncomputable def uq (s : List UInt8) : Option (List UInt8) := open Classical in if h : ∃ b, s = quoteL b then some h.choose else none
theorem uq_yes (b : List UInt8) : uq (quoteL b) = some b := by
  unfold uq
  have h : ∃ c, quoteL b = quoteL c := ⟨b, rfl⟩
  rw [dif_pos h]
  rw [quoteL_inj _ _ h.choose_spec.symm]
theorem uq_no (s : List UInt8) (h : ∀ b, s ≠ quoteL b) : uq s = none := by
  unfold uq
  rw [dif_neg (fun ⟨b, e⟩ => h b e)]
theorem uq_some (s b : List UInt8) (h : uq s = some b) : s = quoteL b := by
  unfold uq at h
  split at h
  · next h2 => have := h2.choose_spec; simp only [Option.some.injEq] at h; rw [h] at this; exact this
  · cases h
theorem no_of_qd (acc S : List UInt8) (hS : S ≠ []) (h : (qd S).2 = 0) : ∀ b, 34 :: (qL acc ++ S ++ [34]) ≠ quoteL b := by
  intro b e
  unfold quoteL at e
  simp only [List.cons.injEq, true_and] at e
  have e2 := List.append_cancel_right e
  obtain ⟨b', rfl, h3⟩ := qL_split acc b S e2.symm
  cases b' with
  | nil => exact hS (by rw [← h3]; rfl)
  | cons c b' =>
    rw [← h3, qL_cons, qd_qB] at h
    have := qB_pos c
    omega
end Go.Proofs.Ytncgdbjjlhohiab
