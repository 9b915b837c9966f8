import Derived.Lib.ItoaNum
import Derived.Lib.Index
import Derived.Lib.SlTrimSet
namespace Go.Proofs.YtlbgppijeoonjaaGreatDoor
open Go
set_option linter.unusedVariables false

def isL (c : UInt8) : Bool := decide ((65 ≤ c.toNat ∧ c.toNat ≤ 90) ∨ (97 ≤ c.toNat ∧ c.toNat ≤ 122) ∨ c.toNat = 95)
def isG (c : UInt8) : Bool := decide (48 ≤ c.toNat ∧ c.toNat ≤ 57)
def isW (c : UInt8) : Bool := isL c || isG c
def blkL : List UInt8 := [32, 9, 10, 13]
def isB (c : UInt8) : Bool := blkL.contains c
def wlen (l : List UInt8) : Nat := (l.takeWhile isW).length
def blen (l : List UInt8) : Nat := (l.takeWhile isB).length
theorem tw_len {α : Type} (p : α → Bool) (l : List α) : (l.takeWhile p).length + (l.dropWhile p).length = l.length := by
  rw [← List.length_append, List.takeWhile_append_dropWhile]
theorem tw_le {α : Type} (p : α → Bool) (l : List α) : (l.takeWhile p).length ≤ l.length := by have := tw_len p l; omega
theorem blen_le (l : List UInt8) : blen l ≤ l.length := tw_le _ _
theorem wlen_le (l : List UInt8) : wlen l ≤ l.length := tw_le _ _

/-- How long a comment is with which l begins; none: it does not end. -/
def clen (l : List UInt8) : Option Nat :=
  if l.tail.head? = some 47 then some (if Lib.indexByte l 10 < 0 then l.length else (Lib.indexByte l 10).toNat)
  else if Lib.index (l.drop 2) [42, 47] < 0 then none else some ((Lib.index (l.drop 2) [42, 47]).toNat + 4)
def isC (l : List UInt8) : Bool := Lib.hasPrefix l [47, 47] || Lib.hasPrefix l [47, 42]
theorem isC_shape {l : List UInt8} (h : isC l = true) : ∃ t, l = 47 :: 47 :: t ∨ l = 47 :: 42 :: t := by
  match l with
  | [] => exact absurd h (by decide)
  | [a] => simp [isC, Lib.hasPrefix, List.isPrefixOf] at h
  | a :: b :: t =>
    refine ⟨t, ?_⟩
    simp [isC, Lib.hasPrefix, List.isPrefixOf] at h
    rcases h with ⟨h1, h2⟩ | ⟨h1, h2⟩
    · left; rw [← h1, ← h2]
    · right; rw [← h1, ← h2]
theorem ib_le (l : List UInt8) (c : UInt8) : Lib.indexByte l c < l.length := by
  induction l with
  | nil => show (-1 : Int) < 0; decide
  | cons a t ih =>
    unfold Lib.indexByte
    have e : ((a :: t).length : Int) = t.length + 1 := by simp
    split
    · omega
    · split
      · omega
      · omega
theorem ib_two (t : List UInt8) : Lib.indexByte (47 :: 47 :: t) 10 < 0 ∨ 2 ≤ Lib.indexByte (47 :: 47 :: t) 10 := by
  have h0 := Lib.indexByte_ge t 10
  have e1 : Lib.indexByte (47 :: t) 10 = if Lib.indexByte t 10 == -1 then -1 else Lib.indexByte t 10 + 1 := by rw [Lib.indexByte]; rfl
  have e2 : Lib.indexByte (47 :: 47 :: t) 10 = if Lib.indexByte (47 :: t) 10 == -1 then -1 else Lib.indexByte (47 :: t) 10 + 1 := by rw [Lib.indexByte]; rfl
  by_cases h : Lib.indexByte t 10 = -1
  · left
    rw [e2, e1, h]
    decide
  · right
    have e3 : Lib.indexByte (47 :: t) 10 = Lib.indexByte t 10 + 1 := by rw [e1, if_neg (by simpa using h)]
    rw [e2, if_neg (by simp; omega)]
    omega
theorem ix_le (l : List UInt8) (a b : UInt8) : Lib.index l [a, b] + 2 ≤ l.length ∨ Lib.index l [a, b] = -1 := by
  induction l with
  | nil => right; rfl
  | cons x t ih =>
    unfold Lib.index
    split
    · next h =>
      left
      have : 2 ≤ (x :: t).length := by
        have h2 := List.isPrefixOf_iff_prefix.1 h
        exact h2.length_le
      simp at this ⊢
      omega
    · split
      · right; rfl
      · next h =>
        left
        have h' : Lib.index t [a, b] ≠ -1 := by simpa using h
        rcases ih with h2 | h2
        · simp; omega
        · exact absurd h2 h'
theorem clen_line (t : List UInt8) : clen (47 :: 47 :: t) = some (if Lib.indexByte (47 :: 47 :: t) 10 < 0 then (47 :: 47 :: t).length else (Lib.indexByte (47 :: 47 :: t) 10).toNat) := rfl
theorem clen_star (t : List UInt8) : clen (47 :: 42 :: t) = if Lib.index t [42, 47] < 0 then none else some ((Lib.index t [42, 47]).toNat + 4) := rfl
theorem clen_le {l : List UInt8} {n : Nat} (hc : isC l = true) (h : clen l = some n) : 2 ≤ n ∧ n ≤ l.length := by
  obtain ⟨t, rfl | rfl⟩ := isC_shape hc
  · rw [clen_line] at h
    have hb := ib_le (47 :: 47 :: t) 10
    have h2 := ib_two t
    have e : (47 :: 47 :: t).length = t.length + 2 := by simp
    simp only [Option.some.injEq] at h
    split at h
    · omega
    · omega
  · rw [clen_star] at h
    have e : (47 :: 42 :: t).length = t.length + 2 := by simp
    have := ix_le t 42 47
    split at h
    · cases h
    · simp only [Option.some.injEq] at h
      omega

/-- What says nothing ahead of the next token: how many bytes; true: none of it lacks its end. -/
def skipL (l : List UInt8) : Nat × Bool :=
  if hc : isC (l.drop (blen l)) = true then
    match hm : clen (l.drop (blen l)) with
    | none => (blen l, false)
    | some m => (blen l + m + (skipL ((l.drop (blen l)).drop m)).1, (skipL ((l.drop (blen l)).drop m)).2)
  else (blen l, true)
termination_by l.length
decreasing_by
  all_goals
    have h1 := clen_le hc hm
    have h2 := blen_le l
    simp only [List.length_drop] at h1 ⊢
    omega
theorem skip_open {l : List UInt8} (hc : isC (l.drop (blen l)) = true) (hm : clen (l.drop (blen l)) = none) : skipL l = (blen l, false) := by
  rw [skipL, dif_pos hc]
  split
  · rfl
  · next h => rw [hm] at h; cases h
theorem skip_more {l : List UInt8} {m : Nat} (hc : isC (l.drop (blen l)) = true) (hm : clen (l.drop (blen l)) = some m) :
    skipL l = (blen l + m + (skipL (l.drop (blen l + m))).1, (skipL (l.drop (blen l + m))).2) := by
  rw [skipL, dif_pos hc]
  split
  · next h => rw [hm] at h; cases h
  · next m' h =>
    rw [hm] at h
    cases h
    rw [List.drop_drop]
theorem skip_none {l : List UInt8} (hc : isC (l.drop (blen l)) = false) : skipL l = (blen l, true) := by
  rw [skipL, dif_neg (by rw [hc]; decide)]

/-! ### Numbers -/
def hexV (c : UInt8) : Nat := if isG c = true then c.toNat - 48 else if 97 ≤ c.toNat ∧ c.toNat ≤ 102 then c.toNat - 87 else if 65 ≤ c.toNat ∧ c.toNat ≤ 70 then c.toNat - 55 else 99
def valB (b : Nat) (v : Nat) : List UInt8 → Nat
  | [] => v
  | c :: t => valB b (b * v + hexV c) t
def digB (b : Nat) (l : List UInt8) : Bool := l.all fun c => decide (hexV c < b)
def numB (b : Nat) (l : List UInt8) : Option Nat := if l ≠ [] ∧ digB b l = true ∧ valB b 0 l ≤ 4294967295 then some (valB b 0 l) else none
def isX (l : List UInt8) : Bool := Lib.hasPrefix l [48, 120] || Lib.hasPrefix l [48, 88]
def numL (l : List UInt8) : Option (Nat × Bool) :=
  if isX l = true then (numB 16 (l.drop 2)).map (·, true)
  else if l.head? = some 48 ∧ 1 < l.length then none
  else (numB 10 l).map (·, false)

/-! ### Strings: behind the first quote: what is said, and how many bytes stand ahead of the second; or where it is wrong, from the first quote on -/
inductive QR where
  | done (said : List UInt8) (n : Nat)
  | bad (at_ : Nat)
  | open_
def sayB (c : UInt8) : Bool := decide (32 ≤ c.toNat ∧ c.toNat ≤ 126)
def escB (c : UInt8) : Bool := decide (c = 34 ∨ c = 92)
def quoL : List UInt8 → List UInt8 → Nat → QR
  | [], _, _ => .open_
  | c :: t, said, i =>
    if c = 34 then .done said i
    else if sayB c = false then .bad (1 + i)
    else if c = 92 then
      match t with
      | [] => .bad (1 + i)
      | d :: t' => if escB d = true then quoL t' (said ++ [d]) (i + 2) else .bad (1 + i)
    else quoL t (said ++ [c]) (i + 1)

/-! ### Tokens -/
def mrk (c : UInt8) : Nat := if c = 123 then 4 else if c = 125 then 5 else if c = 61 then 6 else if c = 59 then 7 else if c = 58 then 8 else 0
structure Tk where
  kind : Nat
  text : List UInt8
  val : Nat
  hex : Bool
inductive TR where
  | ok (t : Tk) (len : Nat)
  | bad (code : Nat) (at_ : Nat)
def quoT : QR → TR
  | .done said n => if 255 < said.length then .bad 24 0 else .ok ⟨3, said, 0, false⟩ (n + 2)
  | .bad k => .bad 22 k
  | .open_ => .bad 22 0
def tokL (l : List UInt8) : TR :=
  match l with
  | [] => .ok ⟨0, [], 0, false⟩ 0
  | c :: t =>
    if isL c = true then (if 63 < wlen l then .bad 24 0 else .ok ⟨1, l.take (wlen l), 0, false⟩ (wlen l))
    else if isG c = true then
      match numL (l.take (wlen l)) with
      | none => .bad 21 0
      | some (v, h) => .ok ⟨2, [], v, h⟩ (wlen l)
    else if c = 34 then quoT (quoL t [] 0)
    else if mrk c = 0 then .bad 20 0 else .ok ⟨mrk c, [], 0, false⟩ 1
end Go.Proofs.YtlbgppijeoonjaaGreatDoor

namespace Go.Proofs.YtlbgppijeoonjaaGreatDoor
open Go
set_option linter.unusedVariables false

/-- The line of a byte; where its line begins. -/
def lineN (t : List UInt8) : Nat → Nat
  | 0 => 1
  | k + 1 => if t[k]? = some 10 then lineN t k + 1 else lineN t k
def begN (t : List UInt8) : Nat → Nat
  | 0 => 0
  | k + 1 => if t[k]? = some 10 then k + 1 else begN t k
theorem begN_le (t : List UInt8) (k : Nat) : begN t k ≤ k := by
  induction k with
  | zero => exact Nat.le_refl _
  | succ k ih => unfold begN; split <;> omega
theorem lineN_le (t : List UInt8) (k : Nat) : lineN t k ≤ k + 1 ∧ 1 ≤ lineN t k := by
  induction k with
  | zero => exact ⟨Nat.le_refl _, Nat.le_refl _⟩
  | succ k ih => unfold lineN; split <;> omega
def colN (t : List UInt8) (k : Nat) : Nat := k - begN t k + 1
theorem line_same (t : List UInt8) (off n : Nat) (h : ∀ i, i < n → t[off + i]? ≠ some 10) : lineN t (off + n) = lineN t off ∧ begN t (off + n) = begN t off := by
  induction n with
  | zero => exact ⟨rfl, rfl⟩
  | succ n ih =>
    obtain ⟨h1, h2⟩ := ih (fun i hi => h i (by omega))
    have h3 := h n (by omega)
    constructor
    · show lineN t ((off + n) + 1) = _
      rw [lineN, if_neg h3, h1]
    · show begN t ((off + n) + 1) = _
      rw [begN, if_neg h3, h2]
/-- What stands next: behind what says nothing. -/
def nxT (l : List UInt8) : TR := if (skipL l).2 = true then tokL (l.drop (skipL l).1) else .bad 23 0
/-- The tokens of a text, each with its place; or what is wrong, and where. -/
def scanF (t : List UInt8) : Nat → Nat → (List (Tk × Nat)) ⊕ (Nat × Nat)
  | 0, _ => .inr (0, 0)
  | f + 1, off =>
    match nxT (t.drop off) with
    | .bad c a => .inr (c, off + (skipL (t.drop off)).1 + a)
    | .ok k len =>
      if k.kind = 0 then .inl [(k, off + (skipL (t.drop off)).1)]
      else match scanF t f (off + (skipL (t.drop off)).1 + len) with
        | .inl ts => .inl ((k, off + (skipL (t.drop off)).1) :: ts)
        | .inr e => .inr e
def preS (ts : List (Tk × Nat)) : (List (Tk × Nat)) ⊕ (Nat × Nat) → (List (Tk × Nat)) ⊕ (Nat × Nat)
  | .inl us => .inl (ts ++ us)
  | .inr e => .inr e
def scanA (t : List UInt8) : (List (Tk × Nat)) ⊕ (Nat × Nat) := if 262144 < t.length then .inr (24, 0) else scanF t (t.length + 1) 0
theorem scan_bad {t : List UInt8} {f off c a : Nat} (h : nxT (t.drop off) = .bad c a) : scanF t (f + 1) off = .inr (c, off + (skipL (t.drop off)).1 + a) := by rw [scanF, h]
theorem scan_end {t : List UInt8} {f off len : Nat} {k : Tk} (h : nxT (t.drop off) = .ok k len) (hk : k.kind = 0) : scanF t (f + 1) off = .inl [(k, off + (skipL (t.drop off)).1)] := by rw [scanF, h]; simp only; rw [if_pos hk]
theorem scan_more {t : List UInt8} {f off len : Nat} {k : Tk} (h : nxT (t.drop off) = .ok k len) (hk : ¬ k.kind = 0) :
    scanF t (f + 1) off = preS [(k, off + (skipL (t.drop off)).1)] (scanF t f (off + (skipL (t.drop off)).1 + len)) := by
  rw [scanF, h]
  simp only
  rw [if_neg hk]
  cases scanF t f (off + (skipL (t.drop off)).1 + len) <;> rfl
theorem preS_pre (a b : List (Tk × Nat)) (x : (List (Tk × Nat)) ⊕ (Nat × Nat)) : preS a (preS b x) = preS (a ++ b) x := by
  cases x with
  | inl us => show Sum.inl (a ++ (b ++ us)) = Sum.inl (a ++ b ++ us); rw [List.append_assoc]
  | inr e => rfl
/-- How long a token is. -/
theorem quo_len (l said : List UInt8) (i : Nat) (sd : List UInt8) (n : Nat) (h : quoL l said i = .done sd n) : n < i + l.length := by
  induction hl : l.length using Nat.strongRecOn generalizing l said i with
  | _ m ih =>
    rw [quoL.eq_def] at h
    cases l with
    | nil => cases h
    | cons c t =>
      simp only at h
      simp at hl
      split at h
      · cases h; omega
      · split at h
        · cases h
        · split at h
          · cases t with
            | nil => cases h
            | cons d t' =>
              simp only at h
              simp at hl
              split at h
              · have := ih t'.length (by omega) t' _ _ h rfl
                omega
              · cases h
          · have := ih t.length (by omega) t _ _ h rfl
            omega
theorem wlen_pos {c : UInt8} (t : List UInt8) (h : isW c = true) : 1 ≤ wlen (c :: t) := by unfold wlen; simp [h]
theorem tok_len {c : UInt8} {t : List UInt8} {k : Tk} {len : Nat} (h : tokL (c :: t) = .ok k len) : k.kind ≠ 0 ∧ 1 ≤ len ∧ len ≤ t.length + 1 := by
  unfold tokL at h
  simp only at h
  have hw := wlen_le (c :: t)
  simp at hw
  split at h
  · next hL =>
    split at h
    · cases h
    · cases h
      exact ⟨by simp, wlen_pos t (by unfold isW; rw [hL]; rfl), hw⟩
  · split at h
    · next hG =>
      split at h
      · cases h
      · cases h
        exact ⟨by simp, wlen_pos t (by unfold isW; rw [hG]; simp), hw⟩
    · split at h
      · cases hq : quoL t [] 0 with
        | done sd n =>
          rw [hq] at h
          have := quo_len t [] 0 sd n hq
          unfold quoT at h
          simp only at h
          split at h
          · cases h
          · cases h
            exact ⟨by simp, by omega, by omega⟩
        | bad a => rw [hq] at h; cases h
        | open_ => rw [hq] at h; cases h
      · split at h
        · cases h
        · next hm => cases h; exact ⟨hm, by omega, by omega⟩
theorem skip_le (l : List UInt8) : (skipL l).1 ≤ l.length := by
  induction hl : l.length using Nat.strongRecOn generalizing l with
  | _ m ih =>
    have hb := blen_le l
    by_cases hc : isC (l.drop (blen l)) = true
    · cases hm : clen (l.drop (blen l)) with
      | none => rw [skip_open hc hm]; simp only; omega
      | some m' =>
        have h1 := clen_le hc hm
        rw [List.length_drop] at h1
        rw [skip_more hc hm]
        simp only
        have h2 := ih (l.drop (blen l + m')).length (by rw [List.length_drop]; omega) _ rfl
        rw [List.length_drop] at h2
        omega
    · rw [skip_none (by simpa using hc)]; simp only; omega
/-- The next token goes on, within the text. -/
theorem nx_len {l : List UInt8} {k : Tk} {len : Nat} (h : nxT l = .ok k len) : (skipL l).1 + len ≤ l.length ∧ (k.kind ≠ 0 → 1 ≤ len) := by
  unfold nxT at h
  have hs := skip_le l
  split at h
  · cases hd : l.drop (skipL l).1 with
    | nil => rw [hd] at h; cases h; exact ⟨by omega, fun e => absurd rfl e⟩
    | cons c t =>
      rw [hd] at h
      obtain ⟨h1, h2, h3⟩ := tok_len h
      have : (l.drop (skipL l).1).length = t.length + 1 := by rw [hd]; rfl
      rw [List.length_drop] at this
      exact ⟨by omega, fun _ => h2⟩
  · cases h

end Go.Proofs.YtlbgppijeoonjaaGreatDoor

namespace Go.Proofs.YtlbgppijeoonjaaGreatDoor
open Go
set_option linter.unusedVariables false

/-! ### What says nothing, piece by piece -/
theorem isB_iff (c : UInt8) : isB c = true ↔ c = 32 ∨ c = 9 ∨ c = 10 ∨ c = 13 := by simp [isB, blkL]
theorem blen_cons {c : UInt8} {r : List UInt8} (h : isB c = true) : blen (c :: r) = 1 + blen r := by simp [blen, List.takeWhile, h]; omega
theorem blen_stop {c : UInt8} {r : List UInt8} (h : isB c = false) : blen (c :: r) = 0 := by simp [blen, List.takeWhile, h]
theorem skip_blank {c : UInt8} {r : List UInt8} (h : isB c = true) : skipL (c :: r) = (1 + (skipL r).1, (skipL r).2) := by
  have hb := blen_cons (r := r) h
  have hd : (c :: r).drop (blen (c :: r)) = r.drop (blen r) := by rw [hb, Nat.add_comm]; rfl
  by_cases hc : isC (r.drop (blen r)) = true
  · cases hm : clen (r.drop (blen r)) with
    | none => rw [skip_open (by rw [hd]; exact hc) (by rw [hd]; exact hm), skip_open hc hm, hb]
    | some m =>
      rw [skip_more (by rw [hd]; exact hc) (by rw [hd]; exact hm), skip_more hc hm, hb]
      have e : (c :: r).drop (1 + blen r + m) = r.drop (blen r + m) := by rw [show 1 + blen r + m = (blen r + m) + 1 by omega]; rfl
      rw [e]
      simp only
      congr 1
      omega
  · have hc' : isC (r.drop (blen r)) = false := by simpa using hc
    rw [skip_none (by rw [hd]; exact hc'), skip_none hc', hb]
theorem isC_blen {l : List UInt8} (h : isC l = true) : blen l = 0 := by
  obtain ⟨t, rfl | rfl⟩ := isC_shape h <;> exact blen_stop (by decide)
theorem skip_com {l : List UInt8} {m : Nat} (hc : isC l = true) (hm : clen l = some m) : skipL l = (m + (skipL (l.drop m)).1, (skipL (l.drop m)).2) := by
  have hb := isC_blen hc
  have hd : l.drop (blen l) = l := by rw [hb]; rfl
  rw [skip_more (by rw [hd]; exact hc) (by rw [hd]; exact hm), hb]
  simp
theorem skip_op {l : List UInt8} (hc : isC l = true) (hm : clen l = none) : skipL l = (0, false) := by
  have hb := isC_blen hc
  have hd : l.drop (blen l) = l := by rw [hb]; rfl
  rw [skip_open (by rw [hd]; exact hc) (by rw [hd]; exact hm), hb]
/-- A list at which nothing is skipped. -/
def Stp (l : List UInt8) : Prop := isC l = false ∧ ∀ c, l.head? = some c → isB c = false
theorem skip_stp {l : List UInt8} (h : Stp l) : skipL l = (0, true) := by
  have hb : blen l = 0 := by
    cases l with
    | nil => rfl
    | cons c r => exact blen_stop (h.2 c rfl)
  have hd : l.drop (blen l) = l := by rw [hb]; rfl
  rw [skip_none (by rw [hd]; exact h.1), hb]
theorem skip_nil : skipL [] = (0, true) := skip_stp ⟨rfl, fun c h => by cases h⟩
theorem skip_cases (l : List UInt8) : (∃ c r, l = c :: r ∧ isB c = true) ∨ (∃ m, isC l = true ∧ clen l = some m) ∨ (isC l = true ∧ clen l = none) ∨ Stp l := by
  by_cases hc : isC l = true
  · cases hm : clen l with
    | none => exact Or.inr (Or.inr (Or.inl ⟨hc, rfl⟩))
    | some m => exact Or.inr (Or.inl ⟨m, hc, rfl⟩)
  · have hc' : isC l = false := by simpa using hc
    cases l with
    | nil => exact Or.inr (Or.inr (Or.inr ⟨rfl, fun c h => by cases h⟩))
    | cons c r =>
      by_cases hb : isB c = true
      · exact Or.inl ⟨c, r, rfl, hb⟩
      · exact Or.inr (Or.inr (Or.inr ⟨hc', fun d h => by cases h; simpa using hb⟩))

/-! ### Comments -/
theorem ib_none {b : List UInt8} (h : 10 ∉ b) (r : List UInt8) : Lib.indexByte (b ++ r) 10 = if Lib.indexByte r 10 = -1 then -1 else Lib.indexByte r 10 + b.length := by
  induction b with
  | nil => simp
  | cons x b ih =>
    have hx : x ≠ 10 := fun e => h (by simp [e])
    have := ih (fun e => h (by simp [e]))
    rw [List.cons_append, Lib.indexByte, if_neg (by simpa using hx), this]
    have h0 := Lib.indexByte_ge r 10
    by_cases e : Lib.indexByte r 10 = -1
    · simp [e]
    · rw [if_neg e, if_neg (by simp; omega)]
      simp
      omega
theorem ib_at (r : List UInt8) : Lib.indexByte (10 :: r) 10 = 0 := by rw [Lib.indexByte]; rfl
theorem ib_nil : Lib.indexByte ([] : List UInt8) 10 = -1 := rfl
theorem com_line {b r : List UInt8} (h : 10 ∉ b) (hr : r = [] ∨ r.head? = some 10) : clen (47 :: 47 :: (b ++ r)) = some (b.length + 2) := by
  have hb : 10 ∉ ((47 :: 47 :: b) : List UInt8) := by simp [h]
  rw [clen_line]
  have e : Lib.indexByte (47 :: 47 :: (b ++ r)) 10 = _ := ib_none hb r
  rcases hr with rfl | hr
  · rw [ib_nil, if_pos rfl] at e
    rw [e, if_pos (by decide)]
    simp
  · cases r with
    | nil => cases hr
    | cons c r =>
      cases hr
      rw [ib_at, if_neg (by decide)] at e
      rw [e, if_neg (by omega)]
      simp
      omega
/-- A block that an end behind it is the first. -/
def NoE (b : List UInt8) : Prop := ∀ r, Lib.index (b ++ 42 :: 47 :: r) [42, 47] = b.length
theorem com_star {b : List UInt8} (h : NoE b) (r : List UInt8) : clen (47 :: 42 :: (b ++ 42 :: 47 :: r)) = some (b.length + 4) := by
  rw [clen_star, h r, if_neg (by omega)]
  simp
theorem ix_shape (t : List UInt8) (i : Nat) (h : Lib.index t [42, 47] = i) : ∃ b r, t = b ++ 42 :: 47 :: r ∧ b.length = i ∧ NoE b := by
  induction t generalizing i with
  | nil => rw [show Lib.index ([] : List UInt8) [42, 47] = -1 from rfl] at h; omega
  | cons x t ih =>
    rw [Lib.index] at h
    by_cases hp : ([42, 47] : List UInt8).isPrefixOf (x :: t) = true
    · rw [if_pos hp] at h
      obtain ⟨r, hr⟩ := List.isPrefixOf_iff_prefix.1 hp
      refine ⟨[], r, hr.symm, by simp; omega, fun r' => ?_⟩
      rw [List.nil_append, Lib.index, if_pos (by simp [List.isPrefixOf])]
      rfl
    · rw [if_neg hp] at h
      have h0 := Lib.index_ge t [42, 47]
      by_cases e : Lib.index t [42, 47] = -1
      · rw [e] at h; simp at h
      · rw [if_neg (by simpa using e)] at h
        obtain ⟨b, r, h1, h2, h3⟩ := ih (i - 1) (by omega)
        refine ⟨x :: b, r, by rw [h1]; rfl, by simp; omega, fun r' => ?_⟩
        rw [List.cons_append, Lib.index, if_neg, h3 r', if_neg (by simp)]
        · simp
        · intro hp'
          apply hp
          subst h1
          cases b with
          | nil => simp [List.isPrefixOf] at hp'
          | cons y b => simpa [List.isPrefixOf] using hp'
theorem ib_shape (l : List UInt8) : (10 ∉ l ∧ Lib.indexByte l 10 = -1) ∨ ∃ b r, l = b ++ 10 :: r ∧ 10 ∉ b ∧ Lib.indexByte l 10 = b.length := by
  induction l with
  | nil => exact Or.inl ⟨by simp, rfl⟩
  | cons x t ih =>
    by_cases hx : x = 10
    · subst hx
      exact Or.inr ⟨[], t, rfl, by simp, ib_at t⟩
    · rcases ih with ⟨h1, h2⟩ | ⟨b, r, h1, h2, h3⟩
      · exact Or.inl ⟨by simp [h1]; exact fun e => hx e.symm, by rw [Lib.indexByte, if_neg (by simpa using hx), h2]; rfl⟩
      · refine Or.inr ⟨x :: b, r, by rw [h1]; rfl, by simp [h2]; exact fun e => hx e.symm, ?_⟩
        rw [Lib.indexByte, if_neg (by simpa using hx), h3, if_neg (by simp)]
        simp
theorem com_shape {l : List UInt8} {m : Nat} (hc : isC l = true) (hm : clen l = some m) :
    (∃ b r, l = 47 :: 47 :: (b ++ r) ∧ 10 ∉ b ∧ m = b.length + 2 ∧ (r = [] ∨ r.head? = some 10)) ∨ (∃ b r, l = 47 :: 42 :: (b ++ 42 :: 47 :: r) ∧ NoE b ∧ m = b.length + 4) := by
  obtain ⟨t, rfl | rfl⟩ := isC_shape hc
  · left
    rw [clen_line] at hm
    simp only [Option.some.injEq] at hm
    rcases ib_shape t with ⟨h1, h2⟩ | ⟨b, r, h1, h2, h3⟩
    · refine ⟨t, [], by simp, h1, ?_, Or.inl rfl⟩
      have := com_line (r := []) h1 (Or.inl rfl)
      rw [List.append_nil, clen_line] at this
      simp only [Option.some.injEq] at this
      omega
    · refine ⟨b, 10 :: r, by rw [h1], h2, ?_, Or.inr rfl⟩
      have := com_line (r := 10 :: r) h2 (Or.inr rfl)
      rw [← h1, clen_line] at this
      simp only [Option.some.injEq] at this
      omega
  · right
    rw [clen_star] at hm
    split at hm
    · cases hm
    · next h =>
      simp only [Option.some.injEq] at hm
      obtain ⟨b, r, h1, h2, h3⟩ := ix_shape t (Lib.index t [42, 47]).toNat (by omega)
      exact ⟨b, r, by rw [h1], h3, by omega⟩
theorem isC_line (t : List UInt8) : isC (47 :: 47 :: t) = true := by simp [isC, Lib.hasPrefix, List.isPrefixOf]
theorem isC_star (t : List UInt8) : isC (47 :: 42 :: t) = true := by simp [isC, Lib.hasPrefix, List.isPrefixOf]
theorem isC_take {l : List UInt8} {m : Nat} (h : isC (l.take m) = true) : isC l = true := by
  obtain ⟨t, h1⟩ := isC_shape h
  have e : l = l.take m ++ l.drop m := (List.take_append_drop m l).symm
  rcases h1 with h1 | h1
  · rw [e, h1]; exact isC_line _
  · rw [e, h1]; exact isC_star _
theorem stp_take {l : List UInt8} (h : Stp l) (m : Nat) : Stp (l.take m) := by
  refine ⟨?_, fun c hc => h.2 c ?_⟩
  · cases hh : isC (l.take m) with
    | false => rfl
    | true => exact absurd (isC_take hh) (by rw [h.1]; decide)
  · cases l with
    | nil => simp at hc
    | cons x t =>
      cases m with
      | zero => simp at hc
      | succ m => simpa using hc
/-- A comment, cut behind it. -/
theorem skip_com_take {l : List UInt8} {m : Nat} (hc : isC l = true) (hm : clen l = some m) (n : Nat) (hn : m ≤ n) : isC (l.take n) = true ∧ clen (l.take n) = some m := by
  rcases com_shape hc hm with ⟨b, r, rfl, h1, rfl, h2⟩ | ⟨b, r, rfl, h1, rfl⟩
  · obtain ⟨j, rfl⟩ : ∃ j, n = b.length + j + 2 := ⟨n - 2 - b.length, by omega⟩
    have e : (47 :: 47 :: (b ++ r)).take (b.length + j + 2) = 47 :: 47 :: (b ++ r.take j) := by
      rw [List.take_succ_cons, List.take_succ_cons, List.take_append, List.take_of_length_le (by omega)]
      congr 4
      omega
    rw [e]
    refine ⟨isC_line _, com_line h1 ?_⟩
    rcases h2 with rfl | h2
    · left; simp
    · cases r with
      | nil => left; simp
      | cons c r =>
        cases j with
        | zero => left; rfl
        | succ j => right; exact h2
  · obtain ⟨j, rfl⟩ : ∃ j, n = b.length + j + 4 := ⟨n - 4 - b.length, by omega⟩
    have e : (47 :: 42 :: (b ++ 42 :: 47 :: r)).take (b.length + j + 4) = 47 :: 42 :: (b ++ 42 :: 47 :: r.take j) := by
      rw [show b.length + j + 4 = (b.length + j + 2) + 1 + 1 by omega, List.take_succ_cons, List.take_succ_cons, List.take_append, List.take_of_length_le (by omega)]
      rw [show b.length + j + 2 - b.length = j + 1 + 1 by omega]
      rfl
    rw [e]
    exact ⟨isC_star _, com_star h1 _⟩
/-- What says nothing, cut behind it. -/
theorem skip_take (l : List UInt8) (n : Nat) (h : (skipL l).1 ≤ n) (h2 : (skipL l).2 = true ∨ n = (skipL l).1) : skipL (l.take n) = ((skipL l).1, true) := by
  induction hl : l.length using Nat.strongRecOn generalizing l n with
  | _ m ih =>
    rcases skip_cases l with ⟨c, r, rfl, hb⟩ | ⟨m0, hc, hm⟩ | ⟨hc, hm⟩ | hs
    · rw [skip_blank hb] at h h2 ⊢
      simp only at h h2 ⊢
      obtain ⟨j, rfl⟩ : ∃ j, n = j + 1 := ⟨n - 1, by omega⟩
      rw [List.take_succ_cons, skip_blank hb, ih r.length (by simp at hl; omega) r j (by omega) (h2.imp id (fun e => by omega)) rfl]
    · have hle := clen_le hc hm
      rw [skip_com hc hm] at h h2 ⊢
      simp only at h h2 ⊢
      obtain ⟨h3, h4⟩ := skip_com_take hc hm n (by omega)
      rw [skip_com h3 h4, List.drop_take, ih (l.drop m0).length (by rw [List.length_drop]; omega) (l.drop m0) (n - m0) (by omega) (h2.imp id (fun e => by omega)) rfl]
    · rw [skip_op hc hm] at h h2 ⊢
      have : n = 0 := by rcases h2 with h2 | h2; exact absurd h2 (by decide); exact h2
      subst this
      rw [List.take_zero, skip_nil]
    · rw [skip_stp hs, skip_stp (stp_take hs n)]
/-- What says nothing, with a line's end put behind it. -/
theorem skip_app (l r : List UInt8) (h : (skipL l).2 = true) : skipL (l.take (skipL l).1 ++ 10 :: r) = ((skipL l).1 + 1 + (skipL r).1, (skipL r).2) := by
  induction hl : l.length using Nat.strongRecOn generalizing l with
  | _ m ih =>
    rcases skip_cases l with ⟨c, r0, rfl, hb⟩ | ⟨m0, hc, hm⟩ | ⟨hc, hm⟩ | hs
    · rw [skip_blank hb] at h ⊢
      simp only at h ⊢
      rw [Nat.add_comm 1, List.take_succ_cons, List.cons_append, skip_blank hb, ih r0.length (by simp at hl; omega) r0 h rfl]
      simp only
      congr 1
      omega
    · have hle := clen_le hc hm
      rw [skip_com hc hm] at h ⊢
      simp only at h ⊢
      have IH := ih (l.drop m0).length (by rw [List.length_drop]; omega) (l.drop m0) h rfl
      have e : l.take (m0 + (skipL (l.drop m0)).1) = l.take m0 ++ (l.drop m0).take (skipL (l.drop m0)).1 := by rw [List.take_add]
      rw [e, List.append_assoc]
      have key : isC (l.take m0 ++ ((l.drop m0).take (skipL (l.drop m0)).1 ++ 10 :: r)) = true ∧ clen (l.take m0 ++ ((l.drop m0).take (skipL (l.drop m0)).1 ++ 10 :: r)) = some m0 := by
        rcases com_shape hc hm with ⟨b, r1, rfl, h1, rfl, h2⟩ | ⟨b, r1, rfl, h1, rfl⟩
        · have e1 : (47 :: 47 :: (b ++ r1)).take (b.length + 2) = 47 :: 47 :: b := by simp
          have e2 : (47 :: 47 :: (b ++ r1)).drop (b.length + 2) = r1 := by simp
          rw [e1, e2]
          refine ⟨isC_line _, com_line h1 (Or.inr ?_)⟩
          rcases h2 with rfl | h2
          · simp
          · cases r1 with
            | nil => cases h2
            | cons c r1 =>
              cases h2
              rw [skip_blank (by decide), Nat.add_comm, List.take_succ_cons]
              rfl
        · have e1 : (47 :: 42 :: (b ++ 42 :: 47 :: r1)).take (b.length + 4) = 47 :: 42 :: (b ++ [42, 47]) := by
            rw [show b.length + 4 = (b.length + 2) + 1 + 1 by omega, List.take_succ_cons, List.take_succ_cons, List.take_append, List.take_of_length_le (by omega)]
            simp
          rw [e1]
          have := com_star h1 ((List.drop (b.length + 4) (47 :: 42 :: (b ++ 42 :: 47 :: r1))).take (skipL (List.drop (b.length + 4) (47 :: 42 :: (b ++ 42 :: 47 :: r1)))).1 ++ 10 :: r)
          simp only [List.cons_append, List.append_assoc, List.nil_append]
          exact ⟨isC_star _, this⟩
      rw [skip_com key.1 key.2]
      have e3 : (l.take m0 ++ ((l.drop m0).take (skipL (l.drop m0)).1 ++ 10 :: r)).drop m0 = (l.drop m0).take (skipL (l.drop m0)).1 ++ 10 :: r := by
        rw [List.drop_append, List.drop_of_length_le (by rw [List.length_take]; omega), List.length_take, Nat.min_eq_left (by omega)]
        simp
      rw [e3, IH]
      simp only
      congr 1
      omega
    · rw [skip_op hc hm] at h; cases h
    · rw [skip_stp hs, List.take_zero, List.nil_append, skip_blank (by decide)]
end Go.Proofs.YtlbgppijeoonjaaGreatDoor

namespace Go.Proofs.YtlbgppijeoonjaaGreatDoor
open Go
set_option linter.unusedVariables false

/-! ### Tokens, and what stands behind them -/
def NW (r : List UInt8) : Prop := ∀ c, r.head? = some c → isW c = false
theorem tw_app {α : Type} (p : α → Bool) (l r : List α) (hr : ∀ c, r.head? = some c → p c = false) : (l.takeWhile p ++ r).takeWhile p = l.takeWhile p := by
  have h0 : r.takeWhile p = [] := by
    cases r with
    | nil => rfl
    | cons c r => have := hr c rfl; simp [List.takeWhile, this]
  induction l with
  | nil => simpa using h0
  | cons x l ih =>
    by_cases hx : p x = true
    · simp [List.takeWhile, hx]
      exact ih
    · have : p x = false := by simpa using hx
      simp [List.takeWhile, this, h0]
theorem take_tw {α : Type} (p : α → Bool) (l : List α) : l.take (l.takeWhile p).length = l.takeWhile p := by
  have : l = l.takeWhile p ++ l.dropWhile p := (List.takeWhile_append_dropWhile).symm
  calc l.take (l.takeWhile p).length = (l.takeWhile p ++ l.dropWhile p).take (l.takeWhile p).length := by rw [← this]
    _ = l.takeWhile p := List.take_left
theorem word_take (l : List UInt8) : l.take (wlen l) = l.takeWhile isW := take_tw _ _
theorem word_app (l r : List UInt8) (hr : NW r) : wlen (l.take (wlen l) ++ r) = wlen l ∧ (l.take (wlen l) ++ r).take (wlen l) = l.take (wlen l) := by
  rw [word_take]
  constructor
  · show ((l.takeWhile isW ++ r).takeWhile isW).length = (l.takeWhile isW).length
    rw [tw_app isW l r hr]
  · show (l.takeWhile isW ++ r).take (l.takeWhile isW).length = _
    simp
theorem word_follow (l : List UInt8) : NW (l.drop (wlen l)) := by
  intro c hc
  have : l.drop (wlen l) = l.dropWhile isW := by
    have e : l = l.takeWhile isW ++ l.dropWhile isW := (List.takeWhile_append_dropWhile).symm
    calc l.drop (wlen l) = (l.takeWhile isW ++ l.dropWhile isW).drop (l.takeWhile isW).length := by rw [← e]; rfl
      _ = l.dropWhile isW := List.drop_left
  rw [this] at hc
  have := List.head?_dropWhile_not isW l
  rw [hc] at this
  simpa using this
theorem quo_app (l said r : List UInt8) (i : Nat) (sd : List UInt8) (n : Nat) (h : quoL l said i = .done sd n) : i ≤ n ∧ quoL (l.take (n - i + 1) ++ r) said i = .done sd n := by
  induction hl : l.length using Nat.strongRecOn generalizing l said i with
  | _ m ih =>
    rw [quoL.eq_def] at h
    cases l with
    | nil => cases h
    | cons c t =>
      simp only at h
      simp at hl
      by_cases h34 : c = 34
      · rw [if_pos h34] at h
        cases h
        refine ⟨Nat.le_refl _, ?_⟩
        rw [Nat.sub_self, quoL.eq_def]
        simp [h34]
      · rw [if_neg h34] at h
        by_cases hs : sayB c = false
        · rw [if_pos hs] at h; cases h
        · rw [if_neg hs] at h
          by_cases h92 : c = 92
          · rw [if_pos h92] at h
            cases t with
            | nil => cases h
            | cons d t' =>
              simp only at h
              simp at hl
              by_cases he : escB d = true
              · rw [if_pos he] at h
                obtain ⟨h1, h2⟩ := ih t'.length (by omega) t' _ _ h rfl
                refine ⟨by omega, ?_⟩
                rw [show n - i + 1 = (n - (i + 2) + 1) + 1 + 1 by omega, List.take_succ_cons, List.take_succ_cons, List.cons_append, List.cons_append, quoL.eq_def]
                simp only
                rw [if_neg h34, if_neg hs, if_pos h92, if_pos he]
                exact h2
              · rw [if_neg he] at h; cases h
          · rw [if_neg h92] at h
            obtain ⟨h1, h2⟩ := ih t.length (by omega) t _ _ h rfl
            refine ⟨by omega, ?_⟩
            rw [show n - i + 1 = (n - (i + 1) + 1) + 1 by omega, List.take_succ_cons, List.cons_append, quoL.eq_def]
            simp only
            rw [if_neg h34, if_neg hs, if_neg h92]
            exact h2
theorem tok_app {l : List UInt8} {k : Tk} {len : Nat} (h : tokL l = .ok k len) (hk : k.kind ≠ 0) (r : List UInt8) (hr : k.kind = 1 ∨ k.kind = 2 → NW r) : tokL (l.take len ++ r) = .ok k len := by
  cases l with
  | nil => cases h; exact absurd rfl hk
  | cons c t =>
    have hL := h
    unfold tokL at h
    simp only at h
    have hwp : isW c = true → ∃ j, wlen (c :: t) = j + 1 := fun hw => ⟨wlen (c :: t) - 1, by have := wlen_pos t hw; omega⟩
    by_cases hl : isL c = true
    · rw [if_pos hl] at h
      by_cases h63 : 63 < wlen (c :: t)
      · rw [if_pos h63] at h; cases h
      · rw [if_neg h63] at h
        cases h
        obtain ⟨h1, h2⟩ := word_app (c :: t) r (hr (Or.inl rfl))
        obtain ⟨j, hj⟩ := hwp (by unfold isW; rw [hl]; rfl)
        have e : (c :: t).take (wlen (c :: t)) ++ r = c :: (t.take j ++ r) := by rw [hj]; rfl
        rw [e] at h1 h2 ⊢
        unfold tokL
        simp only
        rw [if_pos hl, h1, if_neg h63, h2]
    · rw [if_neg hl] at h
      by_cases hg : isG c = true
      · rw [if_pos hg] at h
        split at h
        · cases h
        · next v hx hn =>
          cases h
          obtain ⟨h1, h2⟩ := word_app (c :: t) r (hr (Or.inr rfl))
          obtain ⟨j, hj⟩ := hwp (by unfold isW; rw [hg]; simp)
          have e : (c :: t).take (wlen (c :: t)) ++ r = c :: (t.take j ++ r) := by rw [hj]; rfl
          rw [e] at h1 h2 ⊢
          unfold tokL
          simp only
          rw [if_neg hl, if_pos hg, h1, h2, hn]
      · rw [if_neg hg] at h
        by_cases h34 : c = 34
        · rw [if_pos h34] at h
          cases hq : quoL t [] 0 with
          | bad a => rw [hq] at h; cases h
          | open_ => rw [hq] at h; cases h
          | done sd n =>
            rw [hq] at h
            unfold quoT at h
            simp only at h
            by_cases h255 : 255 < sd.length
            · rw [if_pos h255] at h; cases h
            · rw [if_neg h255] at h
              cases h
              have := (quo_app t [] r 0 sd n hq).2
              rw [Nat.sub_zero] at this
              rw [show n + 2 = (n + 1) + 1 by omega, List.take_succ_cons, List.cons_append]
              unfold tokL
              simp only
              rw [if_neg hl, if_neg hg, if_pos h34, this]
              unfold quoT
              simp only
              rw [if_neg h255]
        · rw [if_neg h34] at h
          by_cases hm : mrk c = 0
          · rw [if_pos hm] at h; cases h
          · rw [if_neg hm] at h
            cases h
            show tokL (c :: ([] ++ r)) = _
            unfold tokL
            simp only
            rw [if_neg hl, if_neg hg, if_neg h34, if_neg hm]
theorem tok_follow {l : List UInt8} {k : Tk} {len : Nat} (h : tokL l = .ok k len) (hk : k.kind = 1 ∨ k.kind = 2) : NW (l.drop len) := by
  cases l with
  | nil => cases h; rcases hk with hk | hk <;> cases hk
  | cons c t =>
    unfold tokL at h
    simp only at h
    split at h
    · split at h
      · cases h
      · cases h; exact word_follow _
    · split at h
      · split at h
        · cases h
        · cases h; exact word_follow _
      · split at h
        · cases hq : quoL t [] 0 with
          | bad a => rw [hq] at h; cases h
          | open_ => rw [hq] at h; cases h
          | done sd n =>
            rw [hq] at h
            unfold quoT at h
            simp only at h
            split at h
            · cases h
            · cases h; rcases hk with hk | hk <;> cases hk
        · split at h
          · cases h
          · cases h
            exfalso
            unfold mrk at hk
            simp only at hk
            split at hk
            · omega
            · split at hk
              · omega
              · split at hk
                · omega
                · split at hk
                  · omega
                  · split at hk <;> omega
theorem nw_take {r : List UInt8} (h : NW r) (n : Nat) : NW (r.take n) := by
  intro c hc
  cases r with
  | nil => simp at hc
  | cons x r =>
    cases n with
    | zero => simp at hc
    | succ n => exact h c (by simpa using hc)
theorem tok_take {l : List UInt8} {k : Tk} {len : Nat} (h : tokL l = .ok k len) (hk : k.kind ≠ 0) (n : Nat) (hn : len ≤ n) : tokL (l.take n) = .ok k len := by
  have e : l.take n = l.take len ++ (l.drop len).take (n - len) := by
    obtain ⟨j, rfl⟩ : ∃ j, n = len + j := ⟨n - len, by omega⟩
    rw [List.take_add, Nat.add_sub_cancel_left]
  rw [e]
  exact tok_app h hk _ (fun h2 => nw_take (tok_follow h h2) _)
/-- A token that is there begins with a byte that says something. -/
theorem tok_stp {c : UInt8} {t : List UInt8} {k : Tk} {len : Nat} (h : tokL (c :: t) = .ok k len) : Stp (c :: t) := by
  have hc : isL c = true ∨ isG c = true ∨ c = 34 ∨ mrk c ≠ 0 := by
    unfold tokL at h
    simp only at h
    by_cases h1 : isL c = true
    · exact Or.inl h1
    · by_cases h2 : isG c = true
      · exact Or.inr (Or.inl h2)
      · by_cases h3 : c = 34
        · exact Or.inr (Or.inr (Or.inl h3))
        · rw [if_neg h1, if_neg h2, if_neg h3] at h
          by_cases h4 : mrk c = 0
          · rw [if_pos h4] at h; cases h
          · exact Or.inr (Or.inr (Or.inr h4))
  have key : ∀ d : UInt8, (isB d = true ∨ d = 47) → ¬ (isL d = true ∨ isG d = true ∨ d = 34 ∨ mrk d ≠ 0) := by
    intro d hd
    have : d = 32 ∨ d = 9 ∨ d = 10 ∨ d = 13 ∨ d = 47 := by
      rcases hd with hd | hd
      · rcases (isB_iff d).1 hd with h | h | h | h <;> simp [h]
      · simp [hd]
    rcases this with rfl | rfl | rfl | rfl | rfl <;> decide
  refine ⟨?_, fun d hd => ?_⟩
  · cases hh : isC (c :: t) with
    | false => rfl
    | true =>
      obtain ⟨u, h1 | h1⟩ := isC_shape hh
      · cases h1; exact absurd hc (key 47 (Or.inr rfl))
      · cases h1; exact absurd hc (key 47 (Or.inr rfl))
  · cases hd
    cases hb : isB c with
    | false => rfl
    | true => exact absurd hc (key c (Or.inl hb))
theorem tok_bad_at {l : List UInt8} {c a : Nat} (h : tokL l = .bad c a) : 20 ≤ c ∧ c ≤ 24 ∧ (c ≠ 22 → a = 0) ∧ c ≠ 23 := by
  cases l with
  | nil => cases h
  | cons x t =>
    unfold tokL at h
    simp only at h
    split at h
    · split at h
      · cases h; omega
      · cases h
    · split at h
      · split at h
        · cases h; omega
        · cases h
      · split at h
        · cases hq : quoL t [] 0 with
          | bad a => rw [hq] at h; cases h; omega
          | open_ => rw [hq] at h; cases h; omega
          | done sd n =>
            rw [hq] at h
            unfold quoT at h
            simp only at h
            split at h
            · cases h; omega
            · cases h
        · split at h
          · cases h; omega
          · cases h
theorem nx_bad {l : List UInt8} {c a : Nat} (h : nxT l = .bad c a) : 20 ≤ c ∧ c ≤ 24 ∧ (c ≠ 22 → a = 0) ∧ ((skipL l).2 = false → a = 0) := by
  unfold nxT at h
  by_cases hs : (skipL l).2 = true
  · rw [if_pos hs] at h
    obtain ⟨h1, h2, h3, h4⟩ := tok_bad_at h
    exact ⟨h1, h2, h3, fun e => by rw [hs] at e; cases e⟩
  · rw [if_neg hs] at h; cases h; omega
theorem nx_ok {l : List UInt8} {k : Tk} {len : Nat} (h : nxT l = .ok k len) : (skipL l).2 = true ∧ tokL (l.drop (skipL l).1) = .ok k len := by
  unfold nxT at h
  by_cases hs : (skipL l).2 = true
  · rw [if_pos hs] at h; exact ⟨hs, h⟩
  · rw [if_neg hs] at h; cases h
/-- The end, where all that is left says nothing. -/
theorem nx_cut {l : List UInt8} (n : Nat) (hn : n = (skipL l).1) : nxT (l.take n) = .ok ⟨0, [], 0, false⟩ 0 ∧ (skipL (l.take n)).1 = n := by
  have h := skip_take l n (by omega) (Or.inr hn)
  unfold nxT
  rw [h, if_pos rfl]
  refine ⟨?_, hn.symm⟩
  rw [List.drop_eq_nil_of_le (by rw [List.length_take]; omega)]
  rfl
theorem nx_take {l : List UInt8} {k : Tk} {len : Nat} (h : nxT l = .ok k len) (hk : k.kind ≠ 0) (n : Nat) (hn : (skipL l).1 + len ≤ n) : nxT (l.take n) = .ok k len ∧ (skipL (l.take n)).1 = (skipL l).1 := by
  obtain ⟨h1, h2⟩ := nx_ok h
  have h3 := skip_take l n (by omega) (Or.inl h1)
  unfold nxT
  rw [h3, if_pos rfl]
  refine ⟨?_, rfl⟩
  rw [List.drop_take]
  exact tok_take h2 hk _ (by omega)
end Go.Proofs.YtlbgppijeoonjaaGreatDoor

namespace Go.Proofs.YtlbgppijeoonjaaGreatDoor
open Go
set_option linter.unusedVariables false

def endK : Tk := ⟨0, [], 0, false⟩
/-- The tokens of a text from off on, each at its place. -/
inductive Good (t : List UInt8) : Nat → List (Tk × Nat) → Prop
  | fin {off : Nat} : off ≤ t.length → (skipL (t.drop off)).2 = true → off + (skipL (t.drop off)).1 = t.length → Good t off [(endK, t.length)]
  | more {off len o : Nat} {k : Tk} {ts : List (Tk × Nat)} : off ≤ t.length → (skipL (t.drop off)).2 = true → o = off + (skipL (t.drop off)).1 → tokL (t.drop o) = .ok k len → k.kind ≠ 0 → 1 ≤ len → o + len ≤ t.length → Good t (o + len) ts → Good t off ((k, o) :: ts)
theorem tok_end {l : List UInt8} {k : Tk} {len : Nat} (h : tokL l = .ok k len) (hk : k.kind = 0) : l = [] ∧ k = endK ∧ len = 0 := by
  cases l with
  | nil => cases h; exact ⟨rfl, rfl, rfl⟩
  | cons c t => exact absurd hk (tok_len h).1
theorem good_of_scan (t : List UInt8) (f off : Nat) (ts : List (Tk × Nat)) (ho : off ≤ t.length) (h : scanF t f off = .inl ts) : Good t off ts := by
  induction f generalizing off ts with
  | zero => cases h
  | succ f ih =>
    cases hn : nxT (t.drop off) with
    | bad c a => rw [scan_bad hn] at h; cases h
    | ok k len =>
      obtain ⟨h1, h2⟩ := nx_ok hn
      have h3 := nx_len hn
      have h4 := skip_le (t.drop off)
      rw [List.length_drop] at h3 h4
      rw [List.drop_drop] at h2
      by_cases hk : k.kind = 0
      · rw [scan_end hn hk] at h
        obtain ⟨e1, e2, e3⟩ := tok_end h2 hk
        have : off + (skipL (t.drop off)).1 = t.length := by
          have := congrArg List.length e1
          rw [List.length_drop] at this
          simp at this
          omega
        cases h
        rw [this, e2]
        exact .fin ho h1 this
      · rw [scan_more hn hk] at h
        cases hr : scanF t f (off + (skipL (t.drop off)).1 + len) with
        | inr e => rw [hr] at h; cases h
        | inl us =>
          rw [hr] at h
          cases h
          have h5 := h3.2 hk
          exact .more ho h1 rfl h2 hk h5 (by omega) (ih _ us (by omega) hr)
theorem scan_of_good {t : List UInt8} {off : Nat} {ts : List (Tk × Nat)} (h : Good t off ts) : ∀ f, t.length - off < f → scanF t f off = .inl ts := by
  induction h with
  | @fin off ho h1 h2 =>
    intro f hf
    obtain ⟨f, rfl⟩ : ∃ j, f = j + 1 := ⟨f - 1, by omega⟩
    have : nxT (t.drop off) = .ok endK 0 := by
      unfold nxT
      rw [if_pos h1, List.drop_drop, h2, List.drop_length]
      rfl
    rw [scan_end this rfl, h2]
  | @more off len o k ts ho h1 h2 h3 h4 h5 h6 _ ih =>
    intro f hf
    obtain ⟨f, rfl⟩ : ∃ j, f = j + 1 := ⟨f - 1, by omega⟩
    subst h2
    have : nxT (t.drop off) = .ok k len := by
      unfold nxT
      rw [if_pos h1, List.drop_drop]
      exact h3
    rw [scan_more this h4, ih f (by omega)]
    rfl
theorem Good.ne {t : List UInt8} {off : Nat} {ts : List (Tk × Nat)} (h : Good t off ts) : ts ≠ [] := by cases h <;> simp
theorem Good.le {t : List UInt8} {off : Nat} {ts : List (Tk × Nat)} (h : Good t off ts) : ∀ {i : Nat} {k : Tk} {o : Nat}, ts[i]? = some (k, o) → off ≤ o ∧ o ≤ t.length := by
  induction h with
  | @fin off ho h1 h2 =>
    intro i k o hi
    cases i with
    | zero => simp at hi; omega
    | succ i => simp at hi
  | @more off len o k ts ho h1 h2 h3 h4 h5 h6 _ ih =>
    intro i k' o' hi
    cases i with
    | zero => simp at hi; omega
    | succ i => have := ih (by simpa using hi); omega
/-- What a token has of its text. -/
theorem tok_text {c : UInt8} {t : List UInt8} {k : Tk} {len : Nat} (h : tokL (c :: t) = .ok k len) : (k.kind = 1 → k.text = (c :: t).take len) ∧ (k.kind = 3 → c = 34) := by
  unfold tokL at h
  simp only at h
  split at h
  · split at h
    · cases h
    · cases h; exact ⟨fun _ => rfl, fun e => (by cases e)⟩
  · split at h
    · split at h
      · cases h
      · cases h; exact ⟨fun e => (by cases e), fun e => (by cases e)⟩
    · split at h
      · next h34 =>
        cases hq : quoL t [] 0 with
        | bad a => rw [hq] at h; cases h
        | open_ => rw [hq] at h; cases h
        | done sd n =>
          rw [hq] at h
          unfold quoT at h
          simp only at h
          split at h
          · cases h
          · cases h; exact ⟨fun e => (by cases e), fun e => h34⟩
      · split at h
        · cases h
        · cases h
          have : ∀ d : UInt8, mrk d ≠ 1 ∧ mrk d ≠ 3 := by
            intro d
            unfold mrk
            split
            · decide
            · split
              · decide
              · split
                · decide
                · split
                  · decide
                  · split <;> decide
          exact ⟨fun e => absurd e (this c).1, fun e => absurd e (this c).2⟩
/-- The order of the tokens of a text. -/
structure Ord (t : List UInt8) (ts : List (Tk × Nat)) (i : Nat) (k : Tk) (o : Nat) : Prop where
  le : o ≤ t.length
  fin : o = t.length ↔ k.kind = 0
  last : k.kind = 0 ↔ i + 1 = ts.length
  next : ∀ k' o', ts[i + 1]? = some (k', o') → o < o'
  name : k.kind = 1 → o + k.text.length ≤ t.length ∧ (t.drop o).take k.text.length = k.text
  quo : k.kind = 3 → t[o]? = some 34
theorem Good.ord {t : List UInt8} {off : Nat} {ts : List (Tk × Nat)} (h : Good t off ts) : ∀ {i : Nat} {k : Tk} {o : Nat}, ts[i]? = some (k, o) → Ord t ts i k o := by
  induction h with
  | @fin off ho h1 h2 =>
    intro i k o hi
    cases i with
    | zero =>
      simp at hi
      obtain ⟨rfl, rfl⟩ := hi
      exact ⟨Nat.le_refl _, ⟨fun _ => rfl, fun _ => rfl⟩, ⟨fun _ => rfl, fun _ => rfl⟩, fun k' o' e => by simp at e, fun e => (by cases e), fun e => (by cases e)⟩
    | succ i => simp at hi
  | @more off len o k ts ho h1 h2 h3 h4 h5 h6 hg ih =>
    intro i k' o' hi
    cases i with
    | zero =>
      simp at hi
      obtain ⟨rfl, rfl⟩ := hi
      have hne : o < t.length := by omega
      have hd : t.drop o = t[o] :: t.drop (o + 1) := List.drop_eq_getElem_cons hne
      have h3' := h3
      rw [hd] at h3'
      obtain ⟨a1, a2⟩ := tok_text h3'
      refine ⟨by omega, ⟨fun e => by omega, fun e => absurd e h4⟩, ⟨fun e => absurd e h4, fun e => ?_⟩, fun k' o' e => ?_, fun e => ?_, fun e => ?_⟩
      · simp at e
        exact absurd e hg.ne
      · have := hg.le (i := 0) (by simpa using e)
        omega
      · have e1 := a1 e
        rw [← hd] at e1
        have e2 : k.text.length = len := by rw [e1, List.length_take, List.length_drop]; omega
        rw [e2]
        exact ⟨by omega, e1.symm⟩
      · rw [List.getElem?_eq_getElem hne, a2 e]
    | succ i =>
      obtain ⟨b1, b2, b3, b4, b5, b6⟩ := ih (i := i) (k := k') (o := o') (by simpa using hi)
      exact ⟨b1, b2, by rw [b3]; simp, fun k2 o2 e => b4 k2 o2 (by simpa using e), b5, b6⟩
/-- A text that is right, cut ahead of one of its tokens. -/
theorem Good.cut {t : List UInt8} {off : Nat} {ts : List (Tk × Nat)} (h : Good t off ts) : ∀ {i : Nat} {k : Tk} {m : Nat}, ts[i]? = some (k, m) → Good (t.take m) off (ts.take i ++ [(endK, m)]) := by
  induction h with
  | @fin off ho h1 h2 =>
    intro i k m hi
    cases i with
    | zero =>
      simp at hi
      obtain ⟨rfl, rfl⟩ := hi
      rw [List.take_length]
      exact .fin ho h1 h2
    | succ i => simp at hi
  | @more off len o k ts ho h1 h2 h3 h4 h5 h6 hg ih =>
    intro i k' m hi
    cases i with
    | zero =>
      simp at hi
      obtain ⟨rfl, rfl⟩ := hi
      have hl : (t.take o).length = o := by rw [List.length_take]; omega
      have hs := skip_take (t.drop off) (o - off) (by omega) (Or.inl h1)
      rw [← List.drop_take] at hs
      have := Good.fin (t := t.take o) (off := off) (by omega) (by rw [hs]) (by rw [hs, hl]; exact h2.symm)
      rw [hl] at this
      exact this
    | succ i =>
      have IH := ih (i := i) (k := k') (m := m) (by simpa using hi)
      have hm := hg.le (i := i) (k := k') (o := m) (by simpa using hi)
      have hl : (t.take m).length = m := by rw [List.length_take]; omega
      have hs := skip_take (t.drop off) (m - off) (by omega) (Or.inl h1)
      rw [← List.drop_take] at hs
      have ht := tok_take h3 h4 (m - o) (by omega)
      rw [← List.drop_take] at ht
      exact .more (by omega) (by rw [hs]) (by rw [hs]; exact h2) ht h4 h5 (by omega) IH
/-- How a token goes on to the next. -/
theorem Good.step {t : List UInt8} {off : Nat} {ts : List (Tk × Nat)} (h : Good t off ts) : ∀ {i : Nat} {k : Tk} {o : Nat} {k' : Tk} {o' : Nat}, ts[i]? = some (k, o) → ts[i + 1]? = some (k', o') →
    ∃ len, tokL (t.drop o) = .ok k len ∧ k.kind ≠ 0 ∧ 1 ≤ len ∧ o + len ≤ t.length ∧ o' = o + len + (skipL (t.drop (o + len))).1 ∧ (skipL (t.drop (o + len))).2 = true := by
  induction h with
  | @fin off ho h1 h2 =>
    intro i k o k' o' hi hi'
    simp at hi'
  | @more off len o k ts ho h1 h2 h3 h4 h5 h6 hg ih =>
    intro i k1 o1 k2 o2 hi hi'
    cases i with
    | zero =>
      simp at hi
      obtain ⟨rfl, rfl⟩ := hi
      refine ⟨len, h3, h4, h5, h6, ?_⟩
      have hi2 : ts[0]? = some (k2, o2) := by simpa using hi'
      cases hg with
      | fin a1 a2 a3 => simp at hi2; exact ⟨by omega, a2⟩
      | more a1 a2 a3 a4 a5 a6 a7 a8 => simp at hi2; exact ⟨by omega, a2⟩
    | succ i => exact ih (by simpa using hi) (by simpa using hi')
theorem Good.first {t : List UInt8} {off : Nat} {ts : List (Tk × Nat)} (h : Good t off ts) : ∃ k, ts[0]? = some (k, off + (skipL (t.drop off)).1) ∧ (skipL (t.drop off)).2 = true := by
  cases h with
  | fin a1 a2 a3 => exact ⟨endK, by rw [a3]; rfl, a2⟩
  | more a1 a2 a3 a4 a5 a6 a7 a8 => exact ⟨_, by rw [← a3]; rfl, a2⟩
/-! ### Faults -/
theorem quo_bad_le (l said : List UInt8) (i a : Nat) (h : quoL l said i = .bad a) : a ≤ i + l.length := by
  induction hl : l.length using Nat.strongRecOn generalizing l said i with
  | _ m ih =>
    rw [quoL.eq_def] at h
    cases l with
    | nil => cases h
    | cons c t =>
      simp only at h
      simp at hl
      split at h
      · cases h
      · split at h
        · cases h; omega
        · split at h
          · cases t with
            | nil => simp only at h; cases h; omega
            | cons d t' =>
              simp only at h
              simp at hl
              split at h
              · have := ih t'.length (by omega) t' _ _ h rfl
                omega
              · cases h; omega
          · have := ih t.length (by omega) t _ _ h rfl
            omega
theorem tok_bad_le {l : List UInt8} {c a : Nat} (h : tokL l = .bad c a) : a ≤ l.length := by
  obtain ⟨h1, h2, h3, h4⟩ := tok_bad_at h
  by_cases hc : c = 22
  · subst hc
    cases l with
    | nil => cases h
    | cons x t =>
      unfold tokL at h
      simp only at h
      split at h
      · split at h <;> cases h
      · split at h
        · split at h <;> cases h
        · split at h
          · cases hq : quoL t [] 0 with
            | bad a' =>
              rw [hq] at h
              cases h
              have := quo_bad_le t [] 0 a hq
              simp; omega
            | open_ => rw [hq] at h; cases h; omega
            | done sd n =>
              rw [hq] at h
              unfold quoT at h
              simp only at h
              split at h <;> cases h
          · split at h <;> cases h
  · have := h3 hc; omega
theorem scan_fault (t : List UInt8) (f off : Nat) (hf : t.length - off < f) (ho : off ≤ t.length) (c a : Nat) (h : scanF t f off = .inr (c, a)) : 20 ≤ c ∧ c ≤ 24 ∧ off ≤ a ∧ a ≤ t.length := by
  induction f generalizing off with
  | zero => omega
  | succ f ih =>
    have h4 := skip_le (t.drop off)
    rw [List.length_drop] at h4
    cases hn : nxT (t.drop off) with
    | bad c' a' =>
      rw [scan_bad hn] at h
      cases h
      obtain ⟨b1, b2, b3, b4⟩ := nx_bad hn
      refine ⟨b1, b2, by omega, ?_⟩
      unfold nxT at hn
      split at hn
      · have := tok_bad_le hn
        rw [List.length_drop, List.length_drop] at this
        omega
      · cases hn; omega
    | ok k len =>
      have h3 := nx_len hn
      rw [List.length_drop] at h3
      by_cases hk : k.kind = 0
      · rw [scan_end hn hk] at h; cases h
      · rw [scan_more hn hk] at h
        have h5 := h3.2 hk
        cases hr : scanF t f (off + (skipL (t.drop off)).1 + len) with
        | inl us => rw [hr] at h; cases h
        | inr e =>
          rw [hr] at h
          cases h
          have := ih _ (by omega) (by omega) hr
          omega
/-- A text at fault, cut at the fault. -/
theorem scan_cut (t : List UInt8) (f off : Nat) (hf : t.length - off < f) (ho : off ≤ t.length) (c a : Nat) (h : scanF t f off = .inr (c, a)) (hc : c ≠ 22) : ∃ ts, Good (t.take a) off ts := by
  have hle := scan_fault t f off hf ho c a h
  have hl : (t.take a).length = a := by rw [List.length_take]; omega
  induction f generalizing off with
  | zero => omega
  | succ f ih =>
    have h4 := skip_le (t.drop off)
    rw [List.length_drop] at h4
    cases hn : nxT (t.drop off) with
    | bad c' a' =>
      rw [scan_bad hn] at h
      cases h
      obtain ⟨b1, b2, b3, b4⟩ := nx_bad hn
      have e0 := b3 hc
      subst e0
      have hs := skip_take (t.drop off) (off + (skipL (t.drop off)).1 + 0 - off) (by omega) (Or.inr (by omega))
      rw [← List.drop_take] at hs
      exact ⟨_, .fin (by omega) (by rw [hs]) (by rw [hs, hl]; rfl)⟩
    | ok k len =>
      have h3 := nx_len hn
      rw [List.length_drop] at h3
      obtain ⟨c1, c2⟩ := nx_ok hn
      rw [List.drop_drop] at c2
      by_cases hk : k.kind = 0
      · rw [scan_end hn hk] at h; cases h
      · rw [scan_more hn hk] at h
        have h5 := h3.2 hk
        cases hr : scanF t f (off + (skipL (t.drop off)).1 + len) with
        | inl us => rw [hr] at h; cases h
        | inr e =>
          rw [hr] at h
          cases h
          have hle2 := scan_fault t f _ (by omega) (by omega) c a hr
          obtain ⟨ts, hg⟩ := ih _ (by omega) (by omega) hr hle2
          have hs := skip_take (t.drop off) (a - off) (by omega) (Or.inl c1)
          rw [← List.drop_take] at hs
          have ht := tok_take c2 hk (a - (off + (skipL (t.drop off)).1)) (by omega)
          rw [← List.drop_take] at ht
          exact ⟨_, .more (by omega) (by rw [hs]) (by rw [hs]) ht hk h5 (by omega) hg⟩
theorem scanA_good {t : List UInt8} {ts : List (Tk × Nat)} (h : scanA t = .inl ts) : Good t 0 ts ∧ t.length ≤ 262144 := by
  unfold scanA at h
  split at h
  · cases h
  · exact ⟨good_of_scan t _ 0 ts (Nat.zero_le _) h, by omega⟩
theorem good_scanA {t : List UInt8} {ts : List (Tk × Nat)} (h : Good t 0 ts) (hl : t.length ≤ 262144) : scanA t = .inl ts := by
  unfold scanA
  rw [if_neg (by omega)]
  exact scan_of_good h _ (by omega)
theorem scanA_bad {t : List UInt8} {c a : Nat} (h : scanA t = .inr (c, a)) : 20 ≤ c ∧ c ≤ 24 ∧ a ≤ t.length ∧ (c ≠ 22 → t.length ≤ 262144 → ∃ ts, scanA (t.take a) = .inl ts) := by
  unfold scanA at h
  split at h
  · next hb => cases h; exact ⟨by omega, by omega, by omega, fun _ h2 => by omega⟩
  · obtain ⟨h1, h2, h3, h4⟩ := scan_fault t _ 0 (by omega) (Nat.zero_le _) c a h
    refine ⟨h1, h2, h4, fun hc hl => ?_⟩
    obtain ⟨ts, hg⟩ := scan_cut t _ 0 (by omega) (Nat.zero_le _) c a h hc
    exact ⟨ts, good_scanA hg (by rw [List.length_take]; omega)⟩
end Go.Proofs.YtlbgppijeoonjaaGreatDoor

namespace Go.Proofs.YtlbgppijeoonjaaGreatDoor
open Go
set_option linter.unusedVariables false

/-! ### Tokens written -/
def hexD (d : Nat) : UInt8 := UInt8.ofNat (if d < 10 then 48 + d else 55 + d)
def hexd (d : Nat) : UInt8 := UInt8.ofNat (if d < 10 then 48 + d else 87 + d)
def hexG (g : Nat → UInt8) (v : Nat) : List UInt8 := if h : v < 16 then [g v] else hexG g (v / 16) ++ [g (v % 16)]
def hexU (v : Nat) : List UInt8 := hexG hexD v
def escL (t : List UInt8) : List UInt8 := t.flatMap fun c => if escB c = true then [92, c] else [c]
def nameL (t : List UInt8) : Bool := decide (t.length ≤ 63) && (match t with | [] => false | c :: _ => isL c) && decide (wlen t = t.length)
def strL (t : List UInt8) : Bool := decide (t.length ≤ 255) && t.all sayB
def mkB (k : Int) : UInt8 := if k = 4 then 123 else if k = 5 then 125 else if k = 6 then 61 else if k = 7 then 59 else 58
structure Tz where
  kind : Int
  text : List UInt8
  val : Nat
  hex : Bool
def plainZ (x : Tz) : Bool := decide (x.val = 0) && !x.hex
def spz (x : Tz) : Option (List UInt8) :=
  if x.kind = 1 then (if plainZ x = true ∧ nameL x.text = true then some x.text else none)
  else if x.kind = 2 then (if x.text = [] then some (if x.hex = true then 48 :: 120 :: hexU x.val else Lib.decDigits x.val) else none)
  else if x.kind = 3 then (if plainZ x = true ∧ strL x.text = true then some (34 :: (escL x.text ++ [34])) else none)
  else if x.kind = 0 then (if plainZ x = true ∧ x.text = [] then some [] else none)
  else if 4 ≤ x.kind ∧ x.kind ≤ 8 then (if plainZ x = true ∧ x.text = [] then some [mkB x.kind] else none)
  else none
def joinF : Bool → List Tz → Option (List UInt8)
  | _, [] => some []
  | first, x :: r =>
    if x.kind = 0 ∧ r ≠ [] then none
    else match spz x with
      | none => none
      | some a => (joinF false r).map fun b => (if first = true then a else 32 :: a) ++ b

/-! ### Digits -/
theorem val_snoc (b v : Nat) (l : List UInt8) (c : UInt8) : valB b v (l ++ [c]) = b * valB b v l + hexV c := by
  induction l generalizing v with
  | nil => rfl
  | cons x l ih => exact ih _
theorem hexV_D : ∀ d, d < 16 → hexV (hexD d) = d ∧ isW (hexD d) = true := by decide
theorem hexV_G : ∀ d, d < 10 → hexV (UInt8.ofNat (48 + d)) = d ∧ isG (UInt8.ofNat (48 + d)) = true ∧ (d ≠ 0 → UInt8.ofNat (48 + d) ≠ 48) := by decide
theorem hex_val (v : Nat) : digB 16 (hexU v) = true ∧ valB 16 0 (hexU v) = v ∧ hexU v ≠ [] ∧ ∀ c ∈ hexU v, isW c = true := by
  induction v using Nat.strongRecOn with
  | _ v ih =>
    unfold hexU at *
    by_cases h : v < 16
    · rw [hexG, dif_pos h]
      have := hexV_D v h
      refine ⟨by simp [digB, this.1, h], by show 16 * 0 + hexV (hexD v) = v; omega, by simp, fun c hc => by simp at hc; subst hc; exact this.2⟩
    · rw [hexG, dif_neg h]
      obtain ⟨h1, h2, h3, h4⟩ := ih (v / 16) (by omega)
      have := hexV_D (v % 16) (by omega)
      refine ⟨?_, ?_, by simp, fun c hc => ?_⟩
      · unfold digB at *
        rw [List.all_append, h1]
        simp [this.1]
        omega
      · rw [val_snoc, h2, this.1]; omega
      · simp at hc
        rcases hc with hc | hc
        · exact h4 c hc
        · subst hc; exact this.2
theorem dec_val (v : Nat) : digB 10 (Lib.decDigits v) = true ∧ valB 10 0 (Lib.decDigits v) = v ∧ Lib.decDigits v ≠ [] ∧ (∀ c ∈ Lib.decDigits v, isG c = true) ∧ (v ≠ 0 → (Lib.decDigits v).head? ≠ some 48) := by
  induction v using Nat.strongRecOn with
  | _ v ih =>
    by_cases h : v < 10
    · rw [Lib.decDigits, dif_pos h]
      obtain ⟨a1, a2, a3⟩ := hexV_G v h
      generalize UInt8.ofNat (48 + v) = d at *
      refine ⟨by simp [digB, a1, h], by show 10 * 0 + hexV d = v; omega, by simp, fun c hc => by simp at hc; subst hc; exact a2, fun hv e => a3 hv (Option.some.inj e)⟩
    · rw [Lib.decDigits, dif_neg h]
      obtain ⟨h1, h2, h3, h4, h5⟩ := ih (v / 10) (by omega)
      obtain ⟨a1, a2, a3⟩ := hexV_G (v % 10) (by omega)
      generalize UInt8.ofNat (48 + v % 10) = d at *
      refine ⟨?_, ?_, by simp, fun c hc => ?_, fun _ => ?_⟩
      · unfold digB at *
        rw [List.all_append, h1]
        simp [a1]
        omega
      · rw [val_snoc, h2, a1]; omega
      · simp only [List.mem_append, List.mem_singleton] at hc
        rcases hc with hc | hc
        · exact h4 c hc
        · subst hc; exact a2
      · have h6 := h5 (by omega)
        cases hd : Lib.decDigits (v / 10) with
        | nil => exact absurd hd h3
        | cons x y => rw [hd] at h6; exact h6
theorem num_hex (v : Nat) (h : v ≤ 4294967295) : numL (48 :: 120 :: hexU v) = some (v, true) := by
  obtain ⟨h1, h2, h3, _⟩ := hex_val v
  unfold numL
  rw [if_pos (by simp [isX, Lib.hasPrefix, List.isPrefixOf])]
  show (numB 16 (hexU v)).map (·, true) = _
  unfold numB
  rw [if_pos ⟨h3, h1, by rw [h2]; exact h⟩, h2]
  rfl
theorem num_dec (v : Nat) (h : v ≤ 4294967295) : numL (Lib.decDigits v) = some (v, false) := by
  obtain ⟨h1, h2, h3, h4, h5⟩ := dec_val v
  unfold numL
  rw [if_neg, if_neg]
  · unfold numB
    rw [if_pos ⟨h3, h1, by rw [h2]; exact h⟩, h2]
    rfl
  · rintro ⟨e1, e2⟩
    by_cases hv : v = 0
    · subst hv
      rw [Lib.decDigits, dif_pos (by decide)] at e2
      simp at e2
    · exact h5 hv e1
  · intro hx
    have : ∃ y t, Lib.decDigits v = 48 :: y :: t ∧ (y = 120 ∨ y = 88) := by
      generalize Lib.decDigits v = l at hx
      match l with
      | [] => exact absurd hx (by decide)
      | [a] => simp [isX, Lib.hasPrefix, List.isPrefixOf] at hx
      | a :: b :: t =>
        simp [isX, Lib.hasPrefix, List.isPrefixOf] at hx
        rcases hx with ⟨e1, e2⟩ | ⟨e1, e2⟩
        · exact ⟨b, t, by rw [← e1], Or.inl e2.symm⟩
        · exact ⟨b, t, by rw [← e1], Or.inr e2.symm⟩
    obtain ⟨y, t, e, hy⟩ := this
    have := h4 y (by rw [e]; simp)
    rcases hy with rfl | rfl <;> exact absurd this (by decide)
theorem tw_self {α : Type} (p : α → Bool) (l : List α) : l.takeWhile p = l ↔ ∀ c ∈ l, p c = true := by
  induction l with
  | nil => simp
  | cons x l ih =>
    by_cases hx : p x = true
    · simp [List.takeWhile, hx, ih]
    · have : p x = false := by simpa using hx
      simp [List.takeWhile, this]
theorem wlen_all {b r : List UInt8} (hb : ∀ c ∈ b, isW c = true) (hr : NW r) : wlen (b ++ r) = b.length ∧ (b ++ r).take (wlen (b ++ r)) = b := by
  have e : b.takeWhile isW = b := (tw_self isW b).2 hb
  have : (b ++ r).takeWhile isW = b := by
    have := tw_app isW b r hr
    rw [e] at this
    exact this
  have hw : wlen (b ++ r) = b.length := by unfold wlen; rw [this]
  refine ⟨hw, ?_⟩
  rw [word_take, this]
theorem wlen_full {t : List UInt8} (h : wlen t = t.length) : ∀ c ∈ t, isW c = true := by
  have e : t.takeWhile isW = t := by
    have := word_take t
    rw [h, List.take_length] at this
    exact this.symm
  exact (tw_self isW t).1 e
theorem quo_esc (t said r : List UInt8) (i : Nat) (h : t.all sayB = true) : quoL (escL t ++ 34 :: r) said i = .done (said ++ t) (i + (escL t).length) := by
  induction t generalizing said i with
  | nil =>
    show quoL (34 :: r) said i = _
    rw [quoL.eq_def]
    simp [escL]
  | cons c t ih =>
    simp only [List.all_cons, Bool.and_eq_true] at h
    have hs : ¬ sayB c = false := by rw [h.1]; decide
    have hcs : escL (c :: t) = (if escB c = true then [92, c] else [c]) ++ escL t := rfl
    rw [hcs]
    by_cases he : escB c = true
    · rw [if_pos he, List.append_assoc]
      show quoL (92 :: c :: (escL t ++ 34 :: r)) said i = _
      rw [quoL.eq_def]
      simp only
      rw [if_neg (by decide), if_neg (by decide), if_pos trivial, if_pos he, ih _ _ h.2]
      simp
      omega
    · rw [if_neg he, List.append_assoc]
      show quoL (c :: (escL t ++ 34 :: r)) said i = _
      have hc : ¬ (c = 34 ∨ c = 92) := fun e => he (decide_eq_true e)
      rw [quoL.eq_def]
      simp only
      rw [if_neg (fun e => hc (Or.inl e)), if_neg hs, if_neg (fun e => hc (Or.inr e)), ih _ _ h.2]
      simp
      omega
def tkOf (x : Tz) : Tk := ⟨x.kind.toNat, x.text, x.val, x.hex⟩
theorem plain_iff {x : Tz} (h : plainZ x = true) : x.val = 0 ∧ x.hex = false := by
  unfold plainZ at h
  simp at h
  exact h
theorem isW_L {c : UInt8} (h : isL c = true) : isW c = true := by unfold isW; rw [h]; rfl
theorem isW_G {c : UInt8} (h : isG c = true) : isW c = true := by unfold isW; rw [h]; simp
theorem G_not_L (c : UInt8) (h : isG c = true) : isL c = false := by
  have := of_decide_eq_true h
  exact decide_eq_false (by omega)
/-- What is written is read again. -/
theorem tok_spell {x : Tz} {b : List UInt8} (h : spz x = some b) (hk : x.kind ≠ 0) (hv : x.val ≤ 4294967295) (r : List UInt8) (hr : NW r) : tokL (b ++ r) = .ok (tkOf x) b.length ∧ (tkOf x).kind ≠ 0 ∧ b ≠ [] := by
  obtain ⟨kind, text, val, hex⟩ := x
  unfold spz at h
  simp only at h hk hv
  by_cases h1 : kind = 1
  · rw [if_pos h1] at h
    split at h
    · next hc =>
      cases h
      obtain ⟨p1, p2⟩ := plain_iff hc.1
      simp only at p1 p2
      have hn := hc.2
      unfold nameL at hn
      simp only [Bool.and_eq_true, decide_eq_true_eq] at hn
      obtain ⟨⟨n1, n2⟩, n3⟩ := hn
      subst h1 p1 p2
      have ha := wlen_full n3
      obtain ⟨w1, w2⟩ := wlen_all ha hr
      cases b with
      | nil => simp at n2
      | cons c t =>
        simp only at n2
        refine ⟨?_, by simp [tkOf], by simp⟩
        rw [List.cons_append] at w1 w2 ⊢
        unfold tokL
        simp only
        rw [if_pos n2, w2, w1, if_neg (by omega)]
        rfl
    · cases h
  · rw [if_neg h1] at h
    by_cases h2 : kind = 2
    · rw [if_pos h2] at h
      split at h
      · next hc =>
        cases h
        subst h2 hc
        cases hex with
        | true =>
          simp only [if_true]
          have hx := hex_val val
          have ha : ∀ c ∈ (48 :: 120 :: hexU val), isW c = true := by
            intro c hc
            simp only [List.mem_cons] at hc
            rcases hc with rfl | rfl | hc
            · decide
            · decide
            · exact hx.2.2.2 c hc
          obtain ⟨w1, w2⟩ := wlen_all ha hr
          refine ⟨?_, by simp [tkOf], by simp⟩
          rw [List.cons_append, List.cons_append] at w1 w2 ⊢
          unfold tokL
          simp only
          rw [if_neg (by decide), if_pos (by decide), w2, w1, num_hex val hv]
          rfl
        | false =>
          have hx := dec_val val
          have ha : ∀ c ∈ Lib.decDigits val, isW c = true := fun c hc => isW_G (hx.2.2.2.1 c hc)
          obtain ⟨w1, w2⟩ := wlen_all ha hr
          have hnd := num_dec val hv
          simp only [Bool.false_eq_true, if_false]
          refine ⟨?_, by simp [tkOf], hx.2.2.1⟩
          cases hd : Lib.decDigits val with
          | nil => exact absurd hd hx.2.2.1
          | cons c t =>
            have hg := hx.2.2.2.1 c (by rw [hd]; simp)
            rw [hd] at w1 w2 hnd
            rw [List.cons_append] at w1 w2 ⊢
            unfold tokL
            simp only
            rw [if_neg (by rw [G_not_L c hg]; decide), if_pos hg, w2, w1, hnd]
            rfl
      · cases h
    · rw [if_neg h2] at h
      by_cases h3 : kind = 3
      · rw [if_pos h3] at h
        split at h
        · next hc =>
          cases h
          obtain ⟨p1, p2⟩ := plain_iff hc.1
          simp only at p1 p2
          have hn := hc.2
          unfold strL at hn
          simp only [Bool.and_eq_true, decide_eq_true_eq] at hn
          subst h3 p1 p2
          refine ⟨?_, by simp [tkOf], by simp⟩
          have hq := quo_esc text [] r 0 hn.2
          rw [List.cons_append, List.append_assoc]
          show tokL (34 :: (escL text ++ 34 :: r)) = _
          unfold tokL
          simp only
          rw [if_neg (by decide), if_neg (by decide), if_pos trivial, hq]
          unfold quoT
          simp only [List.nil_append]
          rw [if_neg (by omega)]
          simp [tkOf]
        · cases h
      · rw [if_neg h3, if_neg hk] at h
        split at h
        · next h48 =>
          split at h
          · next hc =>
            cases h
            obtain ⟨p1, p2⟩ := plain_iff hc.1
            have hc2 := hc.2
            simp only at p1 p2 hc2
            subst p1 p2 hc2
            have : kind = 4 ∨ kind = 5 ∨ kind = 6 ∨ kind = 7 ∨ kind = 8 := by omega
            rcases this with rfl | rfl | rfl | rfl | rfl <;> exact ⟨rfl, by decide, by decide⟩
          · cases h
        · cases h

/-! ### Tokens alone -/
def scanK : Nat → List UInt8 → Option (List Tk)
  | 0, _ => none
  | f + 1, l =>
    match nxT l with
    | .bad _ _ => none
    | .ok k len => if k.kind = 0 then some [k] else (scanK f (l.drop ((skipL l).1 + len))).map (k :: ·)
theorem scanK_end {f : Nat} : scanK (f + 1) [] = some [endK] := by
  have : nxT [] = .ok endK 0 := by unfold nxT; rw [skip_nil, if_pos rfl]; rfl
  rw [scanK, this]
  rfl
theorem scanK_sil {b r : List UInt8} (h : skipL (b ++ r) = (b.length + (skipL r).1, (skipL r).2)) (f : Nat) : scanK f (b ++ r) = scanK f r := by
  cases f with
  | zero => rfl
  | succ f =>
    have hn : nxT (b ++ r) = nxT r := by
      unfold nxT
      rw [h]
      simp only
      rw [← List.drop_drop, List.drop_left]
    rw [scanK, scanK, hn]
    cases nxT r with
    | bad c a => rfl
    | ok k len =>
      simp only
      rw [h]
      simp only
      rw [Nat.add_assoc, ← List.drop_drop, List.drop_left]
theorem scanK_tok {b r : List UInt8} {k : Tk} (h : tokL (b ++ r) = .ok k b.length) (hk : k.kind ≠ 0) (hb : b ≠ []) (f : Nat) : scanK (f + 1) (b ++ r) = (scanK f r).map (k :: ·) := by
  have hs : skipL (b ++ r) = (0, true) := by
    cases b with
    | nil => exact absurd rfl hb
    | cons c t => exact skip_stp (tok_stp h)
  have hn : nxT (b ++ r) = .ok k b.length := by unfold nxT; rw [hs, if_pos rfl]; exact h
  rw [scanK, hn]
  simp only
  rw [if_neg hk, hs]
  simp
theorem K_good (t : List UInt8) (f off : Nat) (ks : List Tk) (ho : off ≤ t.length) (h : scanK f (t.drop off) = some ks) : ∃ ts, Good t off ts ∧ ts.map (·.1) = ks := by
  induction f generalizing off ks with
  | zero => cases h
  | succ f ih =>
    rw [scanK] at h
    cases hn : nxT (t.drop off) with
    | bad c a => rw [hn] at h; cases h
    | ok k len =>
      rw [hn] at h
      simp only at h
      obtain ⟨h1, h2⟩ := nx_ok hn
      have h3 := nx_len hn
      rw [List.length_drop] at h3
      rw [List.drop_drop] at h2
      by_cases hk : k.kind = 0
      · rw [if_pos hk] at h
        cases h
        obtain ⟨e1, e2, e3⟩ := tok_end h2 hk
        have : off + (skipL (t.drop off)).1 = t.length := by
          have := congrArg List.length e1
          rw [List.length_drop] at this
          simp at this
          omega
        exact ⟨_, .fin ho h1 this, by rw [e2]; rfl⟩
      · rw [if_neg hk, List.drop_drop] at h
        cases hr : scanK f (t.drop (off + ((skipL (t.drop off)).1 + len))) with
        | none => rw [hr] at h; cases h
        | some ks' =>
          rw [hr] at h
          cases h
          have h5 := h3.2 hk
          obtain ⟨ts, g1, g2⟩ := ih (off + ((skipL (t.drop off)).1 + len)) ks' (by omega) hr
          rw [← Nat.add_assoc] at g1
          exact ⟨_, .more ho h1 rfl h2 hk h5 (by omega) g1, by rw [List.map_cons, g2]⟩
theorem sil_blank (r : List UInt8) : skipL ([32] ++ r) = (([32] : List UInt8).length + (skipL r).1, (skipL r).2) := skip_blank (by decide)
/-- The tokens that are no end. -/
def realZ (xs : List Tz) : List Tk := (xs.filter fun x => decide (x.kind ≠ 0)).map tkOf
theorem join_head {xs : List Tz} {s : List UInt8} (h : joinF false xs = some s) : s = [] ∨ s.head? = some 32 := by
  cases xs with
  | nil => cases h; left; rfl
  | cons x r =>
    rw [joinF] at h
    split at h
    · cases h
    · cases hs : spz x with
      | none => rw [hs] at h; cases h
      | some a =>
        rw [hs] at h
        simp only at h
        cases hj : joinF false r with
        | none => rw [hj] at h; cases h
        | some b => rw [hj] at h; cases h; right; rfl
theorem spz_end {x : Tz} {b : List UInt8} (h : spz x = some b) (hk : x.kind = 0) : b = [] := by
  unfold spz at h
  rw [if_neg (by omega), if_neg (by omega), if_neg (by omega), if_pos hk] at h
  split at h
  · cases h; rfl
  · cases h
theorem join_scan (xs : List Tz) (hv : ∀ x ∈ xs, x.val ≤ 4294967295) (first : Bool) (s : List UInt8) (h : joinF first xs = some s) (f : Nat) (hf : xs.length < f) : scanK f s = some (realZ xs ++ [endK]) := by
  induction xs generalizing first s f with
  | nil =>
    cases h
    obtain ⟨f, rfl⟩ : ∃ j, f = j + 1 := ⟨f - 1, by omega⟩
    exact scanK_end
  | cons x r ih =>
    rw [joinF] at h
    split at h
    · cases h
    · next hx =>
      cases hs : spz x with
      | none => rw [hs] at h; cases h
      | some a =>
        rw [hs] at h
        simp only at h
        cases hj : joinF false r with
        | none => rw [hj] at h; cases h
        | some b =>
          rw [hj] at h
          cases h
          simp at hf
          obtain ⟨f, rfl⟩ : ∃ j, f = j + 1 := ⟨f - 1, by omega⟩
          have key : scanK (f + 1) (a ++ b) = some (realZ (x :: r) ++ [endK]) := by
            by_cases hk : x.kind = 0
            · have hr : r = [] := by
                cases r with
                | nil => rfl
                | cons y r => exact absurd ⟨hk, by simp⟩ hx
              subst hr
              cases hj
              rw [spz_end hs hk]
              have : realZ [x] = [] := by unfold realZ; simp [hk]
              rw [this]
              exact scanK_end
            · have hnw : NW b := by
                intro c hc
                rcases join_head hj with e | e
                · rw [e] at hc; cases hc
                · rw [e] at hc; cases hc; decide
              obtain ⟨t1, t2, t3⟩ := tok_spell hs hk (hv x (by simp)) b hnw
              rw [scanK_tok t1 t2 t3, ih (fun y hy => hv y (by simp [hy])) false b hj f (by omega)]
              have : realZ (x :: r) = tkOf x :: realZ r := by unfold realZ; simp [hk]
              rw [this]
              rfl
          cases first with
          | true => exact key
          | false =>
            show scanK (f + 1) ([32] ++ (a ++ b)) = _
            rw [scanK_sil (sil_blank _)]
            exact key
theorem join_back (xs : List Tz) (hv : ∀ x ∈ xs, x.val ≤ 4294967295) (s : List UInt8) (h : joinF true xs = some s) (hl : s.length ≤ 262144) : ∃ ts, scanA s = .inl ts ∧ ts.map (·.1) = realZ xs ++ [endK] := by
  obtain ⟨ts, h1, h2⟩ := K_good s _ 0 _ (Nat.zero_le _) (by rw [List.drop_zero]; exact join_scan xs hv true s h _ (Nat.lt_succ_self _))
  exact ⟨ts, good_scanA h1 hl, h2⟩
end Go.Proofs.YtlbgppijeoonjaaGreatDoor

