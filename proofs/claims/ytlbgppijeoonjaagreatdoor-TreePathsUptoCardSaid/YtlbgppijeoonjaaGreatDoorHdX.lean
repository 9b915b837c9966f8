import Derived.Test.YtlbgppijeoonjaaGreatDoorScaX
import Derived.Test.YtlbgppijeoonjaaGreatDoorTpX
namespace Go.Proofs.YtlbgppijeoonjaaGreatDoor
open Go.RowKit
set_option linter.unusedVariables false

/-! ### The scanner by counted steps, for texts that are given -/
def skipQ : Nat → List UInt8 → Nat × Bool
  | 0, _ => (0, true)
  | f + 1, l =>
    if isC (l.drop (blen l)) = true then
      match clen (l.drop (blen l)) with
      | none => (blen l, false)
      | some m => (blen l + m + (skipQ f (l.drop (blen l + m))).1, (skipQ f (l.drop (blen l + m))).2)
    else (blen l, true)
theorem skipQ_eq (f : Nat) (l : List UInt8) (h : l.length < f) : skipQ f l = skipL l := by
  induction f generalizing l with
  | zero => omega
  | succ f ih =>
    rw [skipQ]
    by_cases hc : isC (l.drop (blen l)) = true
    · rw [if_pos hc]
      cases hm : clen (l.drop (blen l)) with
      | none => rw [skip_open hc hm]
      | some m =>
        have h1 := clen_le hc hm
        rw [List.length_drop] at h1
        simp only
        rw [skip_more hc hm, ih (l.drop (blen l + m)) (by rw [List.length_drop]; omega)]
    · rw [if_neg hc, skip_none (by simpa using hc)]
def nxQ (l : List UInt8) : TR := if (skipQ (l.length + 1) l).2 = true then tokL (l.drop (skipQ (l.length + 1) l).1) else .bad 23 0
def scanQ (t : List UInt8) : Nat → Nat → (List (Tk × Nat)) ⊕ (Nat × Nat)
  | 0, _ => .inr (0, 0)
  | f + 1, off =>
    match nxQ (t.drop off) with
    | .bad c a => .inr (c, off + (skipQ ((t.drop off).length + 1) (t.drop off)).1 + a)
    | .ok k len =>
      if k.kind = 0 then .inl [(k, off + (skipQ ((t.drop off).length + 1) (t.drop off)).1)]
      else match scanQ t f (off + (skipQ ((t.drop off).length + 1) (t.drop off)).1 + len) with
        | .inl ts => .inl ((k, off + (skipQ ((t.drop off).length + 1) (t.drop off)).1) :: ts)
        | .inr e => .inr e
theorem nxQ_eq (l : List UInt8) : nxQ l = nxT l := by unfold nxQ nxT; rw [skipQ_eq _ _ (Nat.lt_succ_self _)]
theorem scanQ_eq (t : List UInt8) (f off : Nat) : scanQ t f off = scanF t f off := by
  induction f generalizing off with
  | zero => rfl
  | succ f ih =>
    rw [scanQ, scanF, nxQ_eq, skipQ_eq _ _ (Nat.lt_succ_self _)]
    cases nxT (t.drop off) with
    | bad c a => rfl
    | ok k len => simp only; rw [ih]; cases scanF t f (off + (skipL (t.drop off)).1 + len) <;> rfl
end Go.Proofs.YtlbgppijeoonjaaGreatDoor

namespace Go.Proofs.YtlbgppijeoonjaaGreatDoor
open Go.RowKit
set_option linter.unusedVariables false

/-! ### What heads() asks of two texts, reckoned -/
abbrev hd1 : List UInt8 := [79, 73, 76, 95, 86, 69, 82, 83, 73, 79, 78, 32, 61, 32, 34, 50, 46, 53, 34, 59, 32, 67, 80, 85, 32, 99, 32, 123, 32, 84, 65, 83, 75, 32, 84, 32, 123, 32, 80, 82, 73, 79, 82, 73, 84, 89, 32, 61, 32, 49, 59, 32, 65, 32, 61, 32, 66, 32, 123, 32, 67, 32, 61, 32, 48, 120, 50, 32, 58, 32, 34, 110, 34, 59, 32, 125, 59, 32, 125, 59, 32, 125, 59]
abbrev hd2 : List UInt8 := [79, 73, 76, 95, 86, 69, 82, 83, 73, 79, 78, 32, 61, 32, 34, 50, 46, 53, 34, 59, 32, 67, 80, 85, 32, 99, 32, 123, 32, 84, 65, 83, 75, 32, 84, 32, 123, 32, 80, 82, 73, 79, 82, 73, 84, 89, 32, 49, 59, 32, 125, 59, 32, 125, 59]
def hdC : At := .mk [67] 60 1 61 ⟨2, [], 2, true⟩ false [] true [110]
def hdA : At := .mk [65] 52 1 53 ⟨1, [66], 0, false⟩ true [hdC] false []
def hdP : At := .mk [80, 82, 73, 79, 82, 73, 84, 89] 38 1 39 ⟨2, [], 1, false⟩ false [] false []
def hdO : Ob := ⟨[84, 65, 83, 75], [84], 29, 1, 30, [hdP, hdA], false, []⟩
def hdT : Tr := ⟨[50, 46, 53], [99], [hdO], false, []⟩
theorem scanA_q (t : List UInt8) (h : ¬ 262144 < t.length) : scanA t = scanQ t (t.length + 1) 0 := by
  unfold scanA
  rw [if_neg h, ← scanQ_eq]
theorem hd_parse1 : parseL hd1 = .inl hdT := by
  unfold parseL
  rw [scanA_q hd1 (by decide)]
  kernel_rfl
theorem hd_parse2 : parseL hd2 = .inr (30, 47, 1, 48) := by
  unfold parseL
  rw [scanA_q hd2 (by decide)]
  kernel_rfl
end Go.Proofs.YtlbgppijeoonjaaGreatDoor

