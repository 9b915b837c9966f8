import Derived.Test.YtlbgppijeoonjaaGreatDoorScaX
namespace Go.Proofs.YtlbgppijeoonjaaGreatDoor
open Go.RowKit
set_option linter.unusedVariables false

/-! ### The scanner by counted steps, for texts that are given -/
def skipQ : Nat → List UInt8 → Nat × Bool
  | 0, _ => (0, true)
  | f + 1, l =>
    if isC (l.drop (blen l)) = true then
      match clen (l.drop (blen l)) with
      | none => (blen l, false)
      | some m => (blen l + m + (skipQ f (l.drop (blen l + m))).1, (skipQ f (l.drop (blen l + m))).2)
    else (blen l, true)
theorem skipQ_eq (f : Nat) (l : List UInt8) (h : l.length < f) : skipQ f l = skipL l := by
  induction f generalizing l with
  | zero => omega
  | succ f ih =>
    rw [skipQ]
    by_cases hc : isC (l.drop (blen l)) = true
    · rw [if_pos hc]
      cases hm : clen (l.drop (blen l)) with
      | none => rw [skip_open hc hm]
      | some m =>
        have h1 := clen_le hc hm
        rw [List.length_drop] at h1
        simp only
        rw [skip_more hc hm, ih (l.drop (blen l + m)) (by rw [List.length_drop]; omega)]
    · rw [if_neg hc, skip_none (by simpa using hc)]
def nxQ (l : List UInt8) : TR := if (skipQ (l.length + 1) l).2 = true then tokL (l.drop (skipQ (l.length + 1) l).1) else .bad 23 0
def scanQ (t : List UInt8) : Nat → Nat → (List (Tk × Nat)) ⊕ (Nat × Nat)
  | 0, _ => .inr (0, 0)
  | f + 1, off =>
    match nxQ (t.drop off) with
    | .bad c a => .inr (c, off + (skipQ ((t.drop off).length + 1) (t.drop off)).1 + a)
    | .ok k len =>
      if k.kind = 0 then .inl [(k, off + (skipQ ((t.drop off).length + 1) (t.drop off)).1)]
      else match scanQ t f (off + (skipQ ((t.drop off).length + 1) (t.drop off)).1 + len) with
        | .inl ts => .inl ((k, off + (skipQ ((t.drop off).length + 1) (t.drop off)).1) :: ts)
        | .inr e => .inr e
theorem nxQ_eq (l : List UInt8) : nxQ l = nxT l := by unfold nxQ nxT; rw [skipQ_eq _ _ (Nat.lt_succ_self _)]
theorem scanQ_eq (t : List UInt8) (f off : Nat) : scanQ t f off = scanF t f off := by
  induction f generalizing off with
  | zero => rfl
  | succ f ih =>
    rw [scanQ, scanF, nxQ_eq, skipQ_eq _ _ (Nat.lt_succ_self _)]
    cases nxT (t.drop off) with
    | bad c a => rfl
    | ok k len => simp only; rw [ih]; cases scanF t f (off + (skipL (t.drop off)).1 + len) <;> rfl
end Go.Proofs.YtlbgppijeoonjaaGreatDoor
