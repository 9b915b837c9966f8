import Derived.Test.YtnmknnkpkkefoaaGreatDoorLst
namespace Go.Proofs.YtnmknnkpkkefoaaGreatDoor
open Go
set_option linter.unusedVariables false

/-- The line of a byte; where its line begins. -/
def lineN (t : List UInt8) : Nat → Nat
  | 0 => 1
  | k + 1 => if t[k]? = some 10 then lineN t k + 1 else lineN t k
def begN (t : List UInt8) : Nat → Nat
  | 0 => 0
  | k + 1 => if t[k]? = some 10 then k + 1 else begN t k
theorem begN_le (t : List UInt8) (k : Nat) : begN t k ≤ k := by
  induction k with
  | zero => exact Nat.le_refl _
  | succ k ih => unfold begN; split <;> omega
theorem lineN_le (t : List UInt8) (k : Nat) : lineN t k ≤ k + 1 ∧ 1 ≤ lineN t k := by
  induction k with
  | zero => exact ⟨Nat.le_refl _, Nat.le_refl _⟩
  | succ k ih => unfold lineN; split <;> omega
def colN (t : List UInt8) (k : Nat) : Nat := k - begN t k + 1
theorem line_same (t : List UInt8) (off n : Nat) (h : ∀ i, i < n → t[off + i]? ≠ some 10) : lineN t (off + n) = lineN t off ∧ begN t (off + n) = begN t off := by
  induction n with
  | zero => exact ⟨rfl, rfl⟩
  | succ n ih =>
    obtain ⟨h1, h2⟩ := ih (fun i hi => h i (by omega))
    have h3 := h n (by omega)
    constructor
    · show lineN t ((off + n) + 1) = _
      rw [lineN, if_neg h3, h1]
    · show begN t ((off + n) + 1) = _
      rw [begN, if_neg h3, h2]
/-- What stands next: behind what says nothing. -/
def nxT (l : List UInt8) : TR := if (skipL l).2 = true then tokL (l.drop (skipL l).1) else .bad 23 0
/-- The tokens of a text, each with its place; or what is wrong, and where. -/
def scanF (t : List UInt8) : Nat → Nat → (List (Tk × Nat)) ⊕ (Nat × Nat)
  | 0, _ => .inr (0, 0)
  | f + 1, off =>
    match nxT (t.drop off) with
    | .bad c a => .inr (c, off + (skipL (t.drop off)).1 + a)
    | .ok k len =>
      if k.kind = 0 then .inl [(k, off + (skipL (t.drop off)).1)]
      else match scanF t f (off + (skipL (t.drop off)).1 + len) with
        | .inl ts => .inl ((k, off + (skipL (t.drop off)).1) :: ts)
        | .inr e => .inr e
def preS (ts : List (Tk × Nat)) : (List (Tk × Nat)) ⊕ (Nat × Nat) → (List (Tk × Nat)) ⊕ (Nat × Nat)
  | .inl us => .inl (ts ++ us)
  | .inr e => .inr e
def scanA (t : List UInt8) : (List (Tk × Nat)) ⊕ (Nat × Nat) := if 262144 < t.length then .inr (24, 0) else scanF t (t.length + 1) 0
theorem scan_bad {t : List UInt8} {f off c a : Nat} (h : nxT (t.drop off) = .bad c a) : scanF t (f + 1) off = .inr (c, off + (skipL (t.drop off)).1 + a) := by rw [scanF, h]
theorem scan_end {t : List UInt8} {f off len : Nat} {k : Tk} (h : nxT (t.drop off) = .ok k len) (hk : k.kind = 0) : scanF t (f + 1) off = .inl [(k, off + (skipL (t.drop off)).1)] := by rw [scanF, h]; simp only; rw [if_pos hk]
theorem scan_more {t : List UInt8} {f off len : Nat} {k : Tk} (h : nxT (t.drop off) = .ok k len) (hk : ¬ k.kind = 0) :
    scanF t (f + 1) off = preS [(k, off + (skipL (t.drop off)).1)] (scanF t f (off + (skipL (t.drop off)).1 + len)) := by
  rw [scanF, h]
  simp only
  rw [if_neg hk]
  cases scanF t f (off + (skipL (t.drop off)).1 + len) <;> rfl
theorem preS_pre (a b : List (Tk × Nat)) (x : (List (Tk × Nat)) ⊕ (Nat × Nat)) : preS a (preS b x) = preS (a ++ b) x := by
  cases x with
  | inl us => show Sum.inl (a ++ (b ++ us)) = Sum.inl (a ++ b ++ us); rw [List.append_assoc]
  | inr e => rfl
/-- How long a token is. -/
theorem quo_len (l said : List UInt8) (i : Nat) (sd : List UInt8) (n : Nat) (h : quoL l said i = .done sd n) : n < i + l.length := by
  induction hl : l.length using Nat.strongRecOn generalizing l said i with
  | _ m ih =>
    rw [quoL.eq_def] at h
    cases l with
    | nil => cases h
    | cons c t =>
      simp only at h
      simp at hl
      split at h
      · cases h; omega
      · split at h
        · cases h
        · split at h
          · cases t with
            | nil => cases h
            | cons d t' =>
              simp only at h
              simp at hl
              split at h
              · have := ih t'.length (by omega) t' _ _ h rfl
                omega
              · cases h
          · have := ih t.length (by omega) t _ _ h rfl
            omega
theorem wlen_pos {c : UInt8} (t : List UInt8) (h : isW c = true) : 1 ≤ wlen (c :: t) := by unfold wlen; simp [h]
theorem tok_len {c : UInt8} {t : List UInt8} {k : Tk} {len : Nat} (h : tokL (c :: t) = .ok k len) : k.kind ≠ 0 ∧ 1 ≤ len ∧ len ≤ t.length + 1 := by
  unfold tokL at h
  simp only at h
  have hw := wlen_le (c :: t)
  simp at hw
  split at h
  · next hL =>
    split at h
    · cases h
    · cases h
      exact ⟨by simp, wlen_pos t (by unfold isW; rw [hL]; rfl), hw⟩
  · split at h
    · next hG =>
      split at h
      · cases h
      · cases h
        exact ⟨by simp, wlen_pos t (by unfold isW; rw [hG]; simp), hw⟩
    · split at h
      · cases hq : quoL t [] 0 with
        | done sd n =>
          rw [hq] at h
          have := quo_len t [] 0 sd n hq
          unfold quoT at h
          simp only at h
          split at h
          · cases h
          · cases h
            exact ⟨by simp, by omega, by omega⟩
        | bad a => rw [hq] at h; cases h
        | open_ => rw [hq] at h; cases h
      · split at h
        · cases h
        · next hm => cases h; exact ⟨hm, by omega, by omega⟩
theorem skip_le (l : List UInt8) : (skipL l).1 ≤ l.length := by
  induction hl : l.length using Nat.strongRecOn generalizing l with
  | _ m ih =>
    have hb := blen_le l
    by_cases hc : isC (l.drop (blen l)) = true
    · cases hm : clen (l.drop (blen l)) with
      | none => rw [skip_open hc hm]; simp only; omega
      | some m' =>
        have h1 := clen_le hc hm
        rw [List.length_drop] at h1
        rw [skip_more hc hm]
        simp only
        have h2 := ih (l.drop (blen l + m')).length (by rw [List.length_drop]; omega) _ rfl
        rw [List.length_drop] at h2
        omega
    · rw [skip_none (by simpa using hc)]; simp only; omega
/-- The next token goes on, within the text. -/
theorem nx_len {l : List UInt8} {k : Tk} {len : Nat} (h : nxT l = .ok k len) : (skipL l).1 + len ≤ l.length ∧ (k.kind ≠ 0 → 1 ≤ len) := by
  unfold nxT at h
  have hs := skip_le l
  split at h
  · cases hd : l.drop (skipL l).1 with
    | nil => rw [hd] at h; cases h; exact ⟨by omega, fun e => absurd rfl e⟩
    | cons c t =>
      rw [hd] at h
      obtain ⟨h1, h2, h3⟩ := tok_len h
      have : (l.drop (skipL l).1).length = t.length + 1 := by rw [hd]; rfl
      rw [List.length_drop] at this
      exact ⟨by omega, fun _ => h2⟩
  · cases h

end Go.Proofs.YtnmknnkpkkefoaaGreatDoor
