import Derived.Test.YtiggbnkmggbpiaaGreatDoorLse
namespace Go.Proofs.YtiggbnkmggbpiaaGreatDoor
open Go
set_option linter.unusedVariables false

def endK : Tk := ⟨0, [], 0, false⟩
/-- The tokens of a text from off on, each at its place. -/
inductive Good (t : List UInt8) : Nat → List (Tk × Nat) → Prop
  | fin {off : Nat} : off ≤ t.length → (skipL (t.drop off)).2 = true → off + (skipL (t.drop off)).1 = t.length → Good t off [(endK, t.length)]
  | more {off len o : Nat} {k : Tk} {ts : List (Tk × Nat)} : off ≤ t.length → (skipL (t.drop off)).2 = true → o = off + (skipL (t.drop off)).1 → tokL (t.drop o) = .ok k len → k.kind ≠ 0 → 1 ≤ len → o + len ≤ t.length → Good t (o + len) ts → Good t off ((k, o) :: ts)
theorem tok_end {l : List UInt8} {k : Tk} {len : Nat} (h : tokL l = .ok k len) (hk : k.kind = 0) : l = [] ∧ k = endK ∧ len = 0 := by
  cases l with
  | nil => cases h; exact ⟨rfl, rfl, rfl⟩
  | cons c t => exact absurd hk (tok_len h).1
theorem good_of_scan (t : List UInt8) (f off : Nat) (ts : List (Tk × Nat)) (ho : off ≤ t.length) (h : scanF t f off = .inl ts) : Good t off ts := by
  induction f generalizing off ts with
  | zero => cases h
  | succ f ih =>
    cases hn : nxT (t.drop off) with
    | bad c a => rw [scan_bad hn] at h; cases h
    | ok k len =>
      obtain ⟨h1, h2⟩ := nx_ok hn
      have h3 := nx_len hn
      have h4 := skip_le (t.drop off)
      rw [List.length_drop] at h3 h4
      rw [List.drop_drop] at h2
      by_cases hk : k.kind = 0
      · rw [scan_end hn hk] at h
        obtain ⟨e1, e2, e3⟩ := tok_end h2 hk
        have : off + (skipL (t.drop off)).1 = t.length := by
          have := congrArg List.length e1
          rw [List.length_drop] at this
          simp at this
          omega
        cases h
        rw [this, e2]
        exact .fin ho h1 this
      · rw [scan_more hn hk] at h
        cases hr : scanF t f (off + (skipL (t.drop off)).1 + len) with
        | inr e => rw [hr] at h; cases h
        | inl us =>
          rw [hr] at h
          cases h
          have h5 := h3.2 hk
          exact .more ho h1 rfl h2 hk h5 (by omega) (ih _ us (by omega) hr)
theorem scan_of_good {t : List UInt8} {off : Nat} {ts : List (Tk × Nat)} (h : Good t off ts) : ∀ f, t.length - off < f → scanF t f off = .inl ts := by
  induction h with
  | @fin off ho h1 h2 =>
    intro f hf
    obtain ⟨f, rfl⟩ : ∃ j, f = j + 1 := ⟨f - 1, by omega⟩
    have : nxT (t.drop off) = .ok endK 0 := by
      unfold nxT
      rw [if_pos h1, List.drop_drop, h2, List.drop_length]
      rfl
    rw [scan_end this rfl, h2]
  | @more off len o k ts ho h1 h2 h3 h4 h5 h6 _ ih =>
    intro f hf
    obtain ⟨f, rfl⟩ : ∃ j, f = j + 1 := ⟨f - 1, by omega⟩
    subst h2
    have : nxT (t.drop off) = .ok k len := by
      unfold nxT
      rw [if_pos h1, List.drop_drop]
      exact h3
    rw [scan_more this h4, ih f (by omega)]
    rfl
theorem Good.ne {t : List UInt8} {off : Nat} {ts : List (Tk × Nat)} (h : Good t off ts) : ts ≠ [] := by cases h <;> simp
theorem Good.le {t : List UInt8} {off : Nat} {ts : List (Tk × Nat)} (h : Good t off ts) : ∀ {i : Nat} {k : Tk} {o : Nat}, ts[i]? = some (k, o) → off ≤ o ∧ o ≤ t.length := by
  induction h with
  | @fin off ho h1 h2 =>
    intro i k o hi
    cases i with
    | zero => simp at hi; omega
    | succ i => simp at hi
  | @more off len o k ts ho h1 h2 h3 h4 h5 h6 _ ih =>
    intro i k' o' hi
    cases i with
    | zero => simp at hi; omega
    | succ i => have := ih (by simpa using hi); omega
/-- What a token has of its text. -/
theorem tok_text {c : UInt8} {t : List UInt8} {k : Tk} {len : Nat} (h : tokL (c :: t) = .ok k len) : (k.kind = 1 → k.text = (c :: t).take len) ∧ (k.kind = 3 → c = 34) := by
  unfold tokL at h
  simp only at h
  split at h
  · split at h
    · cases h
    · cases h; exact ⟨fun _ => rfl, fun e => (by cases e)⟩
  · split at h
    · split at h
      · cases h
      · cases h; exact ⟨fun e => (by cases e), fun e => (by cases e)⟩
    · split at h
      · next h34 =>
        cases hq : quoL t [] 0 with
        | bad a => rw [hq] at h; cases h
        | open_ => rw [hq] at h; cases h
        | done sd n =>
          rw [hq] at h
          unfold quoT at h
          simp only at h
          split at h
          · cases h
          · cases h; exact ⟨fun e => (by cases e), fun e => h34⟩
      · split at h
        · cases h
        · cases h
          have : ∀ d : UInt8, mrk d ≠ 1 ∧ mrk d ≠ 3 := by
            intro d
            unfold mrk
            split
            · decide
            · split
              · decide
              · split
                · decide
                · split
                  · decide
                  · split <;> decide
          exact ⟨fun e => absurd e (this c).1, fun e => absurd e (this c).2⟩
/-- The order of the tokens of a text. -/
structure Ord (t : List UInt8) (ts : List (Tk × Nat)) (i : Nat) (k : Tk) (o : Nat) : Prop where
  le : o ≤ t.length
  fin : o = t.length ↔ k.kind = 0
  last : k.kind = 0 ↔ i + 1 = ts.length
  next : ∀ k' o', ts[i + 1]? = some (k', o') → o < o'
  name : k.kind = 1 → o + k.text.length ≤ t.length ∧ (t.drop o).take k.text.length = k.text
  quo : k.kind = 3 → t[o]? = some 34
theorem Good.ord {t : List UInt8} {off : Nat} {ts : List (Tk × Nat)} (h : Good t off ts) : ∀ {i : Nat} {k : Tk} {o : Nat}, ts[i]? = some (k, o) → Ord t ts i k o := by
  induction h with
  | @fin off ho h1 h2 =>
    intro i k o hi
    cases i with
    | zero =>
      simp at hi
      obtain ⟨rfl, rfl⟩ := hi
      exact ⟨Nat.le_refl _, ⟨fun _ => rfl, fun _ => rfl⟩, ⟨fun _ => rfl, fun _ => rfl⟩, fun k' o' e => by simp at e, fun e => (by cases e), fun e => (by cases e)⟩
    | succ i => simp at hi
  | @more off len o k ts ho h1 h2 h3 h4 h5 h6 hg ih =>
    intro i k' o' hi
    cases i with
    | zero =>
      simp at hi
      obtain ⟨rfl, rfl⟩ := hi
      have hne : o < t.length := by omega
      have hd : t.drop o = t[o] :: t.drop (o + 1) := List.drop_eq_getElem_cons hne
      have h3' := h3
      rw [hd] at h3'
      obtain ⟨a1, a2⟩ := tok_text h3'
      refine ⟨by omega, ⟨fun e => by omega, fun e => absurd e h4⟩, ⟨fun e => absurd e h4, fun e => ?_⟩, fun k' o' e => ?_, fun e => ?_, fun e => ?_⟩
      · simp at e
        exact absurd e hg.ne
      · have := hg.le (i := 0) (by simpa using e)
        omega
      · have e1 := a1 e
        rw [← hd] at e1
        have e2 : k.text.length = len := by rw [e1, List.length_take, List.length_drop]; omega
        rw [e2]
        exact ⟨by omega, e1.symm⟩
      · rw [List.getElem?_eq_getElem hne, a2 e]
    | succ i =>
      obtain ⟨b1, b2, b3, b4, b5, b6⟩ := ih (i := i) (k := k') (o := o') (by simpa using hi)
      exact ⟨b1, b2, by rw [b3]; simp, fun k2 o2 e => b4 k2 o2 (by simpa using e), b5, b6⟩
/-- A text that is right, cut ahead of one of its tokens. -/
theorem Good.cut {t : List UInt8} {off : Nat} {ts : List (Tk × Nat)} (h : Good t off ts) : ∀ {i : Nat} {k : Tk} {m : Nat}, ts[i]? = some (k, m) → Good (t.take m) off (ts.take i ++ [(endK, m)]) := by
  induction h with
  | @fin off ho h1 h2 =>
    intro i k m hi
    cases i with
    | zero =>
      simp at hi
      obtain ⟨rfl, rfl⟩ := hi
      rw [List.take_length]
      exact .fin ho h1 h2
    | succ i => simp at hi
  | @more off len o k ts ho h1 h2 h3 h4 h5 h6 hg ih =>
    intro i k' m hi
    cases i with
    | zero =>
      simp at hi
      obtain ⟨rfl, rfl⟩ := hi
      have hl : (t.take o).length = o := by rw [List.length_take]; omega
      have hs := skip_take (t.drop off) (o - off) (by omega) (Or.inl h1)
      rw [← List.drop_take] at hs
      have := Good.fin (t := t.take o) (off := off) (by omega) (by rw [hs]) (by rw [hs, hl]; exact h2.symm)
      rw [hl] at this
      exact this
    | succ i =>
      have IH := ih (i := i) (k := k') (m := m) (by simpa using hi)
      have hm := hg.le (i := i) (k := k') (o := m) (by simpa using hi)
      have hl : (t.take m).length = m := by rw [List.length_take]; omega
      have hs := skip_take (t.drop off) (m - off) (by omega) (Or.inl h1)
      rw [← List.drop_take] at hs
      have ht := tok_take h3 h4 (m - o) (by omega)
      rw [← List.drop_take] at ht
      exact .more (by omega) (by rw [hs]) (by rw [hs]; exact h2) ht h4 h5 (by omega) IH
/-- How a token goes on to the next. -/
theorem Good.step {t : List UInt8} {off : Nat} {ts : List (Tk × Nat)} (h : Good t off ts) : ∀ {i : Nat} {k : Tk} {o : Nat} {k' : Tk} {o' : Nat}, ts[i]? = some (k, o) → ts[i + 1]? = some (k', o') →
    ∃ len, tokL (t.drop o) = .ok k len ∧ k.kind ≠ 0 ∧ 1 ≤ len ∧ o + len ≤ t.length ∧ o' = o + len + (skipL (t.drop (o + len))).1 ∧ (skipL (t.drop (o + len))).2 = true := by
  induction h with
  | @fin off ho h1 h2 =>
    intro i k o k' o' hi hi'
    simp at hi'
  | @more off len o k ts ho h1 h2 h3 h4 h5 h6 hg ih =>
    intro i k1 o1 k2 o2 hi hi'
    cases i with
    | zero =>
      simp at hi
      obtain ⟨rfl, rfl⟩ := hi
      refine ⟨len, h3, h4, h5, h6, ?_⟩
      have hi2 : ts[0]? = some (k2, o2) := by simpa using hi'
      cases hg with
      | fin a1 a2 a3 => simp at hi2; exact ⟨by omega, a2⟩
      | more a1 a2 a3 a4 a5 a6 a7 a8 => simp at hi2; exact ⟨by omega, a2⟩
    | succ i => exact ih (by simpa using hi) (by simpa using hi')
theorem Good.first {t : List UInt8} {off : Nat} {ts : List (Tk × Nat)} (h : Good t off ts) : ∃ k, ts[0]? = some (k, off + (skipL (t.drop off)).1) ∧ (skipL (t.drop off)).2 = true := by
  cases h with
  | fin a1 a2 a3 => exact ⟨endK, by rw [a3]; rfl, a2⟩
  | more a1 a2 a3 a4 a5 a6 a7 a8 => exact ⟨_, by rw [← a3]; rfl, a2⟩
/-! ### Faults -/
theorem quo_bad_le (l said : List UInt8) (i a : Nat) (h : quoL l said i = .bad a) : a ≤ i + l.length := by
  induction hl : l.length using Nat.strongRecOn generalizing l said i with
  | _ m ih =>
    rw [quoL.eq_def] at h
    cases l with
    | nil => cases h
    | cons c t =>
      simp only at h
      simp at hl
      split at h
      · cases h
      · split at h
        · cases h; omega
        · split at h
          · cases t with
            | nil => simp only at h; cases h; omega
            | cons d t' =>
              simp only at h
              simp at hl
              split at h
              · have := ih t'.length (by omega) t' _ _ h rfl
                omega
              · cases h; omega
          · have := ih t.length (by omega) t _ _ h rfl
            omega
theorem tok_bad_le {l : List UInt8} {c a : Nat} (h : tokL l = .bad c a) : a ≤ l.length := by
  obtain ⟨h1, h2, h3, h4⟩ := tok_bad_at h
  by_cases hc : c = 22
  · subst hc
    cases l with
    | nil => cases h
    | cons x t =>
      unfold tokL at h
      simp only at h
      split at h
      · split at h <;> cases h
      · split at h
        · split at h <;> cases h
        · split at h
          · cases hq : quoL t [] 0 with
            | bad a' =>
              rw [hq] at h
              cases h
              have := quo_bad_le t [] 0 a hq
              simp; omega
            | open_ => rw [hq] at h; cases h; omega
            | done sd n =>
              rw [hq] at h
              unfold quoT at h
              simp only at h
              split at h <;> cases h
          · split at h <;> cases h
  · have := h3 hc; omega
theorem scan_fault (t : List UInt8) (f off : Nat) (hf : t.length - off < f) (ho : off ≤ t.length) (c a : Nat) (h : scanF t f off = .inr (c, a)) : 20 ≤ c ∧ c ≤ 24 ∧ off ≤ a ∧ a ≤ t.length := by
  induction f generalizing off with
  | zero => omega
  | succ f ih =>
    have h4 := skip_le (t.drop off)
    rw [List.length_drop] at h4
    cases hn : nxT (t.drop off) with
    | bad c' a' =>
      rw [scan_bad hn] at h
      cases h
      obtain ⟨b1, b2, b3, b4⟩ := nx_bad hn
      refine ⟨b1, b2, by omega, ?_⟩
      unfold nxT at hn
      split at hn
      · have := tok_bad_le hn
        rw [List.length_drop, List.length_drop] at this
        omega
      · cases hn; omega
    | ok k len =>
      have h3 := nx_len hn
      rw [List.length_drop] at h3
      by_cases hk : k.kind = 0
      · rw [scan_end hn hk] at h; cases h
      · rw [scan_more hn hk] at h
        have h5 := h3.2 hk
        cases hr : scanF t f (off + (skipL (t.drop off)).1 + len) with
        | inl us => rw [hr] at h; cases h
        | inr e =>
          rw [hr] at h
          cases h
          have := ih _ (by omega) (by omega) hr
          omega
/-- A text at fault, cut at the fault. -/
theorem scan_cut (t : List UInt8) (f off : Nat) (hf : t.length - off < f) (ho : off ≤ t.length) (c a : Nat) (h : scanF t f off = .inr (c, a)) (hc : c ≠ 22) : ∃ ts, Good (t.take a) off ts := by
  have hle := scan_fault t f off hf ho c a h
  have hl : (t.take a).length = a := by rw [List.length_take]; omega
  induction f generalizing off with
  | zero => omega
  | succ f ih =>
    have h4 := skip_le (t.drop off)
    rw [List.length_drop] at h4
    cases hn : nxT (t.drop off) with
    | bad c' a' =>
      rw [scan_bad hn] at h
      cases h
      obtain ⟨b1, b2, b3, b4⟩ := nx_bad hn
      have e0 := b3 hc
      subst e0
      have hs := skip_take (t.drop off) (off + (skipL (t.drop off)).1 + 0 - off) (by omega) (Or.inr (by omega))
      rw [← List.drop_take] at hs
      exact ⟨_, .fin (by omega) (by rw [hs]) (by rw [hs, hl]; rfl)⟩
    | ok k len =>
      have h3 := nx_len hn
      rw [List.length_drop] at h3
      obtain ⟨c1, c2⟩ := nx_ok hn
      rw [List.drop_drop] at c2
      by_cases hk : k.kind = 0
      · rw [scan_end hn hk] at h; cases h
      · rw [scan_more hn hk] at h
        have h5 := h3.2 hk
        cases hr : scanF t f (off + (skipL (t.drop off)).1 + len) with
        | inl us => rw [hr] at h; cases h
        | inr e =>
          rw [hr] at h
          cases h
          have hle2 := scan_fault t f _ (by omega) (by omega) c a hr
          obtain ⟨ts, hg⟩ := ih _ (by omega) (by omega) hr hle2
          have hs := skip_take (t.drop off) (a - off) (by omega) (Or.inl c1)
          rw [← List.drop_take] at hs
          have ht := tok_take c2 hk (a - (off + (skipL (t.drop off)).1)) (by omega)
          rw [← List.drop_take] at ht
          exact ⟨_, .more (by omega) (by rw [hs]) (by rw [hs]) ht hk h5 (by omega) hg⟩
theorem scanA_good {t : List UInt8} {ts : List (Tk × Nat)} (h : scanA t = .inl ts) : Good t 0 ts ∧ t.length ≤ 262144 := by
  unfold scanA at h
  split at h
  · cases h
  · exact ⟨good_of_scan t _ 0 ts (Nat.zero_le _) h, by omega⟩
theorem good_scanA {t : List UInt8} {ts : List (Tk × Nat)} (h : Good t 0 ts) (hl : t.length ≤ 262144) : scanA t = .inl ts := by
  unfold scanA
  rw [if_neg (by omega)]
  exact scan_of_good h _ (by omega)
theorem scanA_bad {t : List UInt8} {c a : Nat} (h : scanA t = .inr (c, a)) : 20 ≤ c ∧ c ≤ 24 ∧ a ≤ t.length ∧ (c ≠ 22 → t.length ≤ 262144 → ∃ ts, scanA (t.take a) = .inl ts) := by
  unfold scanA at h
  split at h
  · next hb => cases h; exact ⟨by omega, by omega, by omega, fun _ h2 => by omega⟩
  · obtain ⟨h1, h2, h3, h4⟩ := scan_fault t _ 0 (by omega) (Nat.zero_le _) c a h
    refine ⟨h1, h2, h4, fun hc hl => ?_⟩
    obtain ⟨ts, hg⟩ := scan_cut t _ 0 (by omega) (Nat.zero_le _) c a h hc
    exact ⟨ts, good_scanA hg (by rw [List.length_take]; omega)⟩
end Go.Proofs.YtiggbnkmggbpiaaGreatDoor
