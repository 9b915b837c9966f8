import Derived.Lib.ItoaNum
import Derived.Lib.Index
import Derived.Lib.SlTrimSet
namespace Go.Proofs.YtnmknnkpkkefoaaGreatDoor
open Go
set_option linter.unusedVariables false

def isL (c : UInt8) : Bool := decide ((65 ≤ c.toNat ∧ c.toNat ≤ 90) ∨ (97 ≤ c.toNat ∧ c.toNat ≤ 122) ∨ c.toNat = 95)
def isG (c : UInt8) : Bool := decide (48 ≤ c.toNat ∧ c.toNat ≤ 57)
def isW (c : UInt8) : Bool := isL c || isG c
def blkL : List UInt8 := [32, 9, 10, 13]
def isB (c : UInt8) : Bool := blkL.contains c
def wlen (l : List UInt8) : Nat := (l.takeWhile isW).length
def blen (l : List UInt8) : Nat := (l.takeWhile isB).length
theorem tw_len {α : Type} (p : α → Bool) (l : List α) : (l.takeWhile p).length + (l.dropWhile p).length = l.length := by
  rw [← List.length_append, List.takeWhile_append_dropWhile]
theorem tw_le {α : Type} (p : α → Bool) (l : List α) : (l.takeWhile p).length ≤ l.length := by have := tw_len p l; omega
theorem blen_le (l : List UInt8) : blen l ≤ l.length := tw_le _ _
theorem wlen_le (l : List UInt8) : wlen l ≤ l.length := tw_le _ _

/-- How long a comment is with which l begins; none: it does not end. -/
def clen (l : List UInt8) : Option Nat :=
  if l.tail.head? = some 47 then some (if Lib.indexByte l 10 < 0 then l.length else (Lib.indexByte l 10).toNat)
  else if Lib.index (l.drop 2) [42, 47] < 0 then none else some ((Lib.index (l.drop 2) [42, 47]).toNat + 4)
def isC (l : List UInt8) : Bool := Lib.hasPrefix l [47, 47] || Lib.hasPrefix l [47, 42]
theorem isC_shape {l : List UInt8} (h : isC l = true) : ∃ t, l = 47 :: 47 :: t ∨ l = 47 :: 42 :: t := by
  match l with
  | [] => exact absurd h (by decide)
  | [a] => simp [isC, Lib.hasPrefix, List.isPrefixOf] at h
  | a :: b :: t =>
    refine ⟨t, ?_⟩
    simp [isC, Lib.hasPrefix, List.isPrefixOf] at h
    rcases h with ⟨h1, h2⟩ | ⟨h1, h2⟩
    · left; rw [← h1, ← h2]
    · right; rw [← h1, ← h2]
theorem ib_le (l : List UInt8) (c : UInt8) : Lib.indexByte l c < l.length := by
  induction l with
  | nil => show (-1 : Int) < 0; decide
  | cons a t ih =>
    unfold Lib.indexByte
    have e : ((a :: t).length : Int) = t.length + 1 := by simp
    split
    · omega
    · split
      · omega
      · omega
theorem ib_two (t : List UInt8) : Lib.indexByte (47 :: 47 :: t) 10 < 0 ∨ 2 ≤ Lib.indexByte (47 :: 47 :: t) 10 := by
  have h0 := Lib.indexByte_ge t 10
  have e1 : Lib.indexByte (47 :: t) 10 = if Lib.indexByte t 10 == -1 then -1 else Lib.indexByte t 10 + 1 := by rw [Lib.indexByte]; rfl
  have e2 : Lib.indexByte (47 :: 47 :: t) 10 = if Lib.indexByte (47 :: t) 10 == -1 then -1 else Lib.indexByte (47 :: t) 10 + 1 := by rw [Lib.indexByte]; rfl
  by_cases h : Lib.indexByte t 10 = -1
  · left
    rw [e2, e1, h]
    decide
  · right
    have e3 : Lib.indexByte (47 :: t) 10 = Lib.indexByte t 10 + 1 := by rw [e1, if_neg (by simpa using h)]
    rw [e2, if_neg (by simp; omega)]
    omega
theorem ix_le (l : List UInt8) (a b : UInt8) : Lib.index l [a, b] + 2 ≤ l.length ∨ Lib.index l [a, b] = -1 := by
  induction l with
  | nil => right; rfl
  | cons x t ih =>
    unfold Lib.index
    split
    · next h =>
      left
      have : 2 ≤ (x :: t).length := by
        have h2 := List.isPrefixOf_iff_prefix.1 h
        exact h2.length_le
      simp at this ⊢
      omega
    · split
      · right; rfl
      · next h =>
        left
        have h' : Lib.index t [a, b] ≠ -1 := by simpa using h
        rcases ih with h2 | h2
        · simp; omega
        · exact absurd h2 h'
theorem clen_line (t : List UInt8) : clen (47 :: 47 :: t) = some (if Lib.indexByte (47 :: 47 :: t) 10 < 0 then (47 :: 47 :: t).length else (Lib.indexByte (47 :: 47 :: t) 10).toNat) := rfl
theorem clen_star (t : List UInt8) : clen (47 :: 42 :: t) = if Lib.index t [42, 47] < 0 then none else some ((Lib.index t [42, 47]).toNat + 4) := rfl
theorem clen_le {l : List UInt8} {n : Nat} (hc : isC l = true) (h : clen l = some n) : 2 ≤ n ∧ n ≤ l.length := by
  obtain ⟨t, rfl | rfl⟩ := isC_shape hc
  · rw [clen_line] at h
    have hb := ib_le (47 :: 47 :: t) 10
    have h2 := ib_two t
    have e : (47 :: 47 :: t).length = t.length + 2 := by simp
    simp only [Option.some.injEq] at h
    split at h
    · omega
    · omega
  · rw [clen_star] at h
    have e : (47 :: 42 :: t).length = t.length + 2 := by simp
    have := ix_le t 42 47
    split at h
    · cases h
    · simp only [Option.some.injEq] at h
      omega

/-- What says nothing ahead of the next token: how many bytes; true: none of it lacks its end. -/
def skipL (l : List UInt8) : Nat × Bool :=
  if hc : isC (l.drop (blen l)) = true then
    match hm : clen (l.drop (blen l)) with
    | none => (blen l, false)
    | some m => (blen l + m + (skipL ((l.drop (blen l)).drop m)).1, (skipL ((l.drop (blen l)).drop m)).2)
  else (blen l, true)
termination_by l.length
decreasing_by
  all_goals
    have h1 := clen_le hc hm
    have h2 := blen_le l
    simp only [List.length_drop] at h1 ⊢
    omega
theorem skip_open {l : List UInt8} (hc : isC (l.drop (blen l)) = true) (hm : clen (l.drop (blen l)) = none) : skipL l = (blen l, false) := by
  rw [skipL, dif_pos hc]
  split
  · rfl
  · next h => rw [hm] at h; cases h
theorem skip_more {l : List UInt8} {m : Nat} (hc : isC (l.drop (blen l)) = true) (hm : clen (l.drop (blen l)) = some m) :
    skipL l = (blen l + m + (skipL (l.drop (blen l + m))).1, (skipL (l.drop (blen l + m))).2) := by
  rw [skipL, dif_pos hc]
  split
  · next h => rw [hm] at h; cases h
  · next m' h =>
    rw [hm] at h
    cases h
    rw [List.drop_drop]
theorem skip_none {l : List UInt8} (hc : isC (l.drop (blen l)) = false) : skipL l = (blen l, true) := by
  rw [skipL, dif_neg (by rw [hc]; decide)]

/-! ### Numbers -/
def hexV (c : UInt8) : Nat := if isG c = true then c.toNat - 48 else if 97 ≤ c.toNat ∧ c.toNat ≤ 102 then c.toNat - 87 else if 65 ≤ c.toNat ∧ c.toNat ≤ 70 then c.toNat - 55 else 99
def valB (b : Nat) (v : Nat) : List UInt8 → Nat
  | [] => v
  | c :: t => valB b (b * v + hexV c) t
def digB (b : Nat) (l : List UInt8) : Bool := l.all fun c => decide (hexV c < b)
def numB (b : Nat) (l : List UInt8) : Option Nat := if l ≠ [] ∧ digB b l = true ∧ valB b 0 l ≤ 4294967295 then some (valB b 0 l) else none
def isX (l : List UInt8) : Bool := Lib.hasPrefix l [48, 120] || Lib.hasPrefix l [48, 88]
def numL (l : List UInt8) : Option (Nat × Bool) :=
  if isX l = true then (numB 16 (l.drop 2)).map (·, true)
  else if l.head? = some 48 ∧ 1 < l.length then none
  else (numB 10 l).map (·, false)

/-! ### Strings: behind the first quote: what is said, and how many bytes stand ahead of the second; or where it is wrong, from the first quote on -/
inductive QR where
  | done (said : List UInt8) (n : Nat)
  | bad (at_ : Nat)
  | open_
def sayB (c : UInt8) : Bool := decide (32 ≤ c.toNat ∧ c.toNat ≤ 126)
def escB (c : UInt8) : Bool := decide (c = 34 ∨ c = 92)
def quoL : List UInt8 → List UInt8 → Nat → QR
  | [], _, _ => .open_
  | c :: t, said, i =>
    if c = 34 then .done said i
    else if sayB c = false then .bad (1 + i)
    else if c = 92 then
      match t with
      | [] => .bad (1 + i)
      | d :: t' => if escB d = true then quoL t' (said ++ [d]) (i + 2) else .bad (1 + i)
    else quoL t (said ++ [c]) (i + 1)

/-! ### Tokens -/
def mrk (c : UInt8) : Nat := if c = 123 then 4 else if c = 125 then 5 else if c = 61 then 6 else if c = 59 then 7 else if c = 58 then 8 else 0
structure Tk where
  kind : Nat
  text : List UInt8
  val : Nat
  hex : Bool
inductive TR where
  | ok (t : Tk) (len : Nat)
  | bad (code : Nat) (at_ : Nat)
def quoT : QR → TR
  | .done said n => if 255 < said.length then .bad 24 0 else .ok ⟨3, said, 0, false⟩ (n + 2)
  | .bad k => .bad 22 k
  | .open_ => .bad 22 0
def tokL (l : List UInt8) : TR :=
  match l with
  | [] => .ok ⟨0, [], 0, false⟩ 0
  | c :: t =>
    if isL c = true then (if 63 < wlen l then .bad 24 0 else .ok ⟨1, l.take (wlen l), 0, false⟩ (wlen l))
    else if isG c = true then
      match numL (l.take (wlen l)) with
      | none => .bad 21 0
      | some (v, h) => .ok ⟨2, [], v, h⟩ (wlen l)
    else if c = 34 then quoT (quoL t [] 0)
    else if mrk c = 0 then .bad 20 0 else .ok ⟨mrk c, [], 0, false⟩ 1
end Go.Proofs.YtnmknnkpkkefoaaGreatDoor
