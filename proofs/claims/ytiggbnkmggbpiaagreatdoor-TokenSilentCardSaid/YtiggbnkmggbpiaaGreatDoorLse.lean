import Derived.Test.YtiggbnkmggbpiaaGreatDoorLsd
namespace Go.Proofs.YtiggbnkmggbpiaaGreatDoor
open Go
set_option linter.unusedVariables false

/-! ### Tokens, and what stands behind them -/
def NW (r : List UInt8) : Prop := ∀ c, r.head? = some c → isW c = false
theorem tw_app {α : Type} (p : α → Bool) (l r : List α) (hr : ∀ c, r.head? = some c → p c = false) : (l.takeWhile p ++ r).takeWhile p = l.takeWhile p := by
  have h0 : r.takeWhile p = [] := by
    cases r with
    | nil => rfl
    | cons c r => have := hr c rfl; simp [List.takeWhile, this]
  induction l with
  | nil => simpa using h0
  | cons x l ih =>
    by_cases hx : p x = true
    · simp [List.takeWhile, hx]
      exact ih
    · have : p x = false := by simpa using hx
      simp [List.takeWhile, this, h0]
theorem take_tw {α : Type} (p : α → Bool) (l : List α) : l.take (l.takeWhile p).length = l.takeWhile p := by
  have : l = l.takeWhile p ++ l.dropWhile p := (List.takeWhile_append_dropWhile).symm
  calc l.take (l.takeWhile p).length = (l.takeWhile p ++ l.dropWhile p).take (l.takeWhile p).length := by rw [← this]
    _ = l.takeWhile p := List.take_left
theorem word_take (l : List UInt8) : l.take (wlen l) = l.takeWhile isW := take_tw _ _
theorem word_app (l r : List UInt8) (hr : NW r) : wlen (l.take (wlen l) ++ r) = wlen l ∧ (l.take (wlen l) ++ r).take (wlen l) = l.take (wlen l) := by
  rw [word_take]
  constructor
  · show ((l.takeWhile isW ++ r).takeWhile isW).length = (l.takeWhile isW).length
    rw [tw_app isW l r hr]
  · show (l.takeWhile isW ++ r).take (l.takeWhile isW).length = _
    simp
theorem word_follow (l : List UInt8) : NW (l.drop (wlen l)) := by
  intro c hc
  have : l.drop (wlen l) = l.dropWhile isW := by
    have e : l = l.takeWhile isW ++ l.dropWhile isW := (List.takeWhile_append_dropWhile).symm
    calc l.drop (wlen l) = (l.takeWhile isW ++ l.dropWhile isW).drop (l.takeWhile isW).length := by rw [← e]; rfl
      _ = l.dropWhile isW := List.drop_left
  rw [this] at hc
  have := List.head?_dropWhile_not isW l
  rw [hc] at this
  simpa using this
theorem quo_app (l said r : List UInt8) (i : Nat) (sd : List UInt8) (n : Nat) (h : quoL l said i = .done sd n) : i ≤ n ∧ quoL (l.take (n - i + 1) ++ r) said i = .done sd n := by
  induction hl : l.length using Nat.strongRecOn generalizing l said i with
  | _ m ih =>
    rw [quoL.eq_def] at h
    cases l with
    | nil => cases h
    | cons c t =>
      simp only at h
      simp at hl
      by_cases h34 : c = 34
      · rw [if_pos h34] at h
        cases h
        refine ⟨Nat.le_refl _, ?_⟩
        rw [Nat.sub_self, quoL.eq_def]
        simp [h34]
      · rw [if_neg h34] at h
        by_cases hs : sayB c = false
        · rw [if_pos hs] at h; cases h
        · rw [if_neg hs] at h
          by_cases h92 : c = 92
          · rw [if_pos h92] at h
            cases t with
            | nil => cases h
            | cons d t' =>
              simp only at h
              simp at hl
              by_cases he : escB d = true
              · rw [if_pos he] at h
                obtain ⟨h1, h2⟩ := ih t'.length (by omega) t' _ _ h rfl
                refine ⟨by omega, ?_⟩
                rw [show n - i + 1 = (n - (i + 2) + 1) + 1 + 1 by omega, List.take_succ_cons, List.take_succ_cons, List.cons_append, List.cons_append, quoL.eq_def]
                simp only
                rw [if_neg h34, if_neg hs, if_pos h92, if_pos he]
                exact h2
              · rw [if_neg he] at h; cases h
          · rw [if_neg h92] at h
            obtain ⟨h1, h2⟩ := ih t.length (by omega) t _ _ h rfl
            refine ⟨by omega, ?_⟩
            rw [show n - i + 1 = (n - (i + 1) + 1) + 1 by omega, List.take_succ_cons, List.cons_append, quoL.eq_def]
            simp only
            rw [if_neg h34, if_neg hs, if_neg h92]
            exact h2
theorem tok_app {l : List UInt8} {k : Tk} {len : Nat} (h : tokL l = .ok k len) (hk : k.kind ≠ 0) (r : List UInt8) (hr : k.kind = 1 ∨ k.kind = 2 → NW r) : tokL (l.take len ++ r) = .ok k len := by
  cases l with
  | nil => cases h; exact absurd rfl hk
  | cons c t =>
    have hL := h
    unfold tokL at h
    simp only at h
    have hwp : isW c = true → ∃ j, wlen (c :: t) = j + 1 := fun hw => ⟨wlen (c :: t) - 1, by have := wlen_pos t hw; omega⟩
    by_cases hl : isL c = true
    · rw [if_pos hl] at h
      by_cases h63 : 63 < wlen (c :: t)
      · rw [if_pos h63] at h; cases h
      · rw [if_neg h63] at h
        cases h
        obtain ⟨h1, h2⟩ := word_app (c :: t) r (hr (Or.inl rfl))
        obtain ⟨j, hj⟩ := hwp (by unfold isW; rw [hl]; rfl)
        have e : (c :: t).take (wlen (c :: t)) ++ r = c :: (t.take j ++ r) := by rw [hj]; rfl
        rw [e] at h1 h2 ⊢
        unfold tokL
        simp only
        rw [if_pos hl, h1, if_neg h63, h2]
    · rw [if_neg hl] at h
      by_cases hg : isG c = true
      · rw [if_pos hg] at h
        split at h
        · cases h
        · next v hx hn =>
          cases h
          obtain ⟨h1, h2⟩ := word_app (c :: t) r (hr (Or.inr rfl))
          obtain ⟨j, hj⟩ := hwp (by unfold isW; rw [hg]; simp)
          have e : (c :: t).take (wlen (c :: t)) ++ r = c :: (t.take j ++ r) := by rw [hj]; rfl
          rw [e] at h1 h2 ⊢
          unfold tokL
          simp only
          rw [if_neg hl, if_pos hg, h1, h2, hn]
      · rw [if_neg hg] at h
        by_cases h34 : c = 34
        · rw [if_pos h34] at h
          cases hq : quoL t [] 0 with
          | bad a => rw [hq] at h; cases h
          | open_ => rw [hq] at h; cases h
          | done sd n =>
            rw [hq] at h
            unfold quoT at h
            simp only at h
            by_cases h255 : 255 < sd.length
            · rw [if_pos h255] at h; cases h
            · rw [if_neg h255] at h
              cases h
              have := (quo_app t [] r 0 sd n hq).2
              rw [Nat.sub_zero] at this
              rw [show n + 2 = (n + 1) + 1 by omega, List.take_succ_cons, List.cons_append]
              unfold tokL
              simp only
              rw [if_neg hl, if_neg hg, if_pos h34, this]
              unfold quoT
              simp only
              rw [if_neg h255]
        · rw [if_neg h34] at h
          by_cases hm : mrk c = 0
          · rw [if_pos hm] at h; cases h
          · rw [if_neg hm] at h
            cases h
            show tokL (c :: ([] ++ r)) = _
            unfold tokL
            simp only
            rw [if_neg hl, if_neg hg, if_neg h34, if_neg hm]
theorem tok_follow {l : List UInt8} {k : Tk} {len : Nat} (h : tokL l = .ok k len) (hk : k.kind = 1 ∨ k.kind = 2) : NW (l.drop len) := by
  cases l with
  | nil => cases h; rcases hk with hk | hk <;> cases hk
  | cons c t =>
    unfold tokL at h
    simp only at h
    split at h
    · split at h
      · cases h
      · cases h; exact word_follow _
    · split at h
      · split at h
        · cases h
        · cases h; exact word_follow _
      · split at h
        · cases hq : quoL t [] 0 with
          | bad a => rw [hq] at h; cases h
          | open_ => rw [hq] at h; cases h
          | done sd n =>
            rw [hq] at h
            unfold quoT at h
            simp only at h
            split at h
            · cases h
            · cases h; rcases hk with hk | hk <;> cases hk
        · split at h
          · cases h
          · cases h
            exfalso
            unfold mrk at hk
            simp only at hk
            split at hk
            · omega
            · split at hk
              · omega
              · split at hk
                · omega
                · split at hk
                  · omega
                  · split at hk <;> omega
theorem nw_take {r : List UInt8} (h : NW r) (n : Nat) : NW (r.take n) := by
  intro c hc
  cases r with
  | nil => simp at hc
  | cons x r =>
    cases n with
    | zero => simp at hc
    | succ n => exact h c (by simpa using hc)
theorem tok_take {l : List UInt8} {k : Tk} {len : Nat} (h : tokL l = .ok k len) (hk : k.kind ≠ 0) (n : Nat) (hn : len ≤ n) : tokL (l.take n) = .ok k len := by
  have e : l.take n = l.take len ++ (l.drop len).take (n - len) := by
    obtain ⟨j, rfl⟩ : ∃ j, n = len + j := ⟨n - len, by omega⟩
    rw [List.take_add, Nat.add_sub_cancel_left]
  rw [e]
  exact tok_app h hk _ (fun h2 => nw_take (tok_follow h h2) _)
/-- A token that is there begins with a byte that says something. -/
theorem tok_stp {c : UInt8} {t : List UInt8} {k : Tk} {len : Nat} (h : tokL (c :: t) = .ok k len) : Stp (c :: t) := by
  have hc : isL c = true ∨ isG c = true ∨ c = 34 ∨ mrk c ≠ 0 := by
    unfold tokL at h
    simp only at h
    by_cases h1 : isL c = true
    · exact Or.inl h1
    · by_cases h2 : isG c = true
      · exact Or.inr (Or.inl h2)
      · by_cases h3 : c = 34
        · exact Or.inr (Or.inr (Or.inl h3))
        · rw [if_neg h1, if_neg h2, if_neg h3] at h
          by_cases h4 : mrk c = 0
          · rw [if_pos h4] at h; cases h
          · exact Or.inr (Or.inr (Or.inr h4))
  have key : ∀ d : UInt8, (isB d = true ∨ d = 47) → ¬ (isL d = true ∨ isG d = true ∨ d = 34 ∨ mrk d ≠ 0) := by
    intro d hd
    have : d = 32 ∨ d = 9 ∨ d = 10 ∨ d = 13 ∨ d = 47 := by
      rcases hd with hd | hd
      · rcases (isB_iff d).1 hd with h | h | h | h <;> simp [h]
      · simp [hd]
    rcases this with rfl | rfl | rfl | rfl | rfl <;> decide
  refine ⟨?_, fun d hd => ?_⟩
  · cases hh : isC (c :: t) with
    | false => rfl
    | true =>
      obtain ⟨u, h1 | h1⟩ := isC_shape hh
      · cases h1; exact absurd hc (key 47 (Or.inr rfl))
      · cases h1; exact absurd hc (key 47 (Or.inr rfl))
  · cases hd
    cases hb : isB c with
    | false => rfl
    | true => exact absurd hc (key c (Or.inl hb))
theorem tok_bad_at {l : List UInt8} {c a : Nat} (h : tokL l = .bad c a) : 20 ≤ c ∧ c ≤ 24 ∧ (c ≠ 22 → a = 0) ∧ c ≠ 23 := by
  cases l with
  | nil => cases h
  | cons x t =>
    unfold tokL at h
    simp only at h
    split at h
    · split at h
      · cases h; omega
      · cases h
    · split at h
      · split at h
        · cases h; omega
        · cases h
      · split at h
        · cases hq : quoL t [] 0 with
          | bad a => rw [hq] at h; cases h; omega
          | open_ => rw [hq] at h; cases h; omega
          | done sd n =>
            rw [hq] at h
            unfold quoT at h
            simp only at h
            split at h
            · cases h; omega
            · cases h
        · split at h
          · cases h; omega
          · cases h
theorem nx_bad {l : List UInt8} {c a : Nat} (h : nxT l = .bad c a) : 20 ≤ c ∧ c ≤ 24 ∧ (c ≠ 22 → a = 0) ∧ ((skipL l).2 = false → a = 0) := by
  unfold nxT at h
  by_cases hs : (skipL l).2 = true
  · rw [if_pos hs] at h
    obtain ⟨h1, h2, h3, h4⟩ := tok_bad_at h
    exact ⟨h1, h2, h3, fun e => by rw [hs] at e; cases e⟩
  · rw [if_neg hs] at h; cases h; omega
theorem nx_ok {l : List UInt8} {k : Tk} {len : Nat} (h : nxT l = .ok k len) : (skipL l).2 = true ∧ tokL (l.drop (skipL l).1) = .ok k len := by
  unfold nxT at h
  by_cases hs : (skipL l).2 = true
  · rw [if_pos hs] at h; exact ⟨hs, h⟩
  · rw [if_neg hs] at h; cases h
/-- The end, where all that is left says nothing. -/
theorem nx_cut {l : List UInt8} (n : Nat) (hn : n = (skipL l).1) : nxT (l.take n) = .ok ⟨0, [], 0, false⟩ 0 ∧ (skipL (l.take n)).1 = n := by
  have h := skip_take l n (by omega) (Or.inr hn)
  unfold nxT
  rw [h, if_pos rfl]
  refine ⟨?_, hn.symm⟩
  rw [List.drop_eq_nil_of_le (by rw [List.length_take]; omega)]
  rfl
theorem nx_take {l : List UInt8} {k : Tk} {len : Nat} (h : nxT l = .ok k len) (hk : k.kind ≠ 0) (n : Nat) (hn : (skipL l).1 + len ≤ n) : nxT (l.take n) = .ok k len ∧ (skipL (l.take n)).1 = (skipL l).1 := by
  obtain ⟨h1, h2⟩ := nx_ok h
  have h3 := skip_take l n (by omega) (Or.inl h1)
  unfold nxT
  rw [h3, if_pos rfl]
  refine ⟨?_, rfl⟩
  rw [List.drop_take]
  exact tok_take h2 hk _ (by omega)
end Go.Proofs.YtiggbnkmggbpiaaGreatDoor
