import Derived.Test.YtnmknnkpkkefoaaGreatDoorJoi
namespace Go.Proofs.YtnmknnkpkkefoaaGreatDoor
open Go.RowKit
set_option linter.unusedVariables false

/-! ### The scanner by counted steps, for texts that are given -/
def skipQ : Nat → List UInt8 → Nat × Bool
  | 0, _ => (0, true)
  | f + 1, l =>
    if isC (l.drop (blen l)) = true then
      match clen (l.drop (blen l)) with
      | none => (blen l, false)
      | some m => (blen l + m + (skipQ f (l.drop (blen l + m))).1, (skipQ f (l.drop (blen l + m))).2)
    else (blen l, true)
theorem skipQ_eq (f : Nat) (l : List UInt8) (h : l.length < f) : skipQ f l = skipL l := by
  induction f generalizing l with
  | zero => omega
  | succ f ih =>
    rw [skipQ]
    by_cases hc : isC (l.drop (blen l)) = true
    · rw [if_pos hc]
      cases hm : clen (l.drop (blen l)) with
      | none => rw [skip_open hc hm]
      | some m =>
        have h1 := clen_le hc hm
        rw [List.length_drop] at h1
        simp only
        rw [skip_more hc hm, ih (l.drop (blen l + m)) (by rw [List.length_drop]; omega)]
    · rw [if_neg hc, skip_none (by simpa using hc)]
def nxQ (l : List UInt8) : TR := if (skipQ (l.length + 1) l).2 = true then tokL (l.drop (skipQ (l.length + 1) l).1) else .bad 23 0
def scanQ (t : List UInt8) : Nat → Nat → (List (Tk × Nat)) ⊕ (Nat × Nat)
  | 0, _ => .inr (0, 0)
  | f + 1, off =>
    match nxQ (t.drop off) with
    | .bad c a => .inr (c, off + (skipQ ((t.drop off).length + 1) (t.drop off)).1 + a)
    | .ok k len =>
      if k.kind = 0 then .inl [(k, off + (skipQ ((t.drop off).length + 1) (t.drop off)).1)]
      else match scanQ t f (off + (skipQ ((t.drop off).length + 1) (t.drop off)).1 + len) with
        | .inl ts => .inl ((k, off + (skipQ ((t.drop off).length + 1) (t.drop off)).1) :: ts)
        | .inr e => .inr e
theorem nxQ_eq (l : List UInt8) : nxQ l = nxT l := by unfold nxQ nxT; rw [skipQ_eq _ _ (Nat.lt_succ_self _)]
theorem scanQ_eq (t : List UInt8) (f off : Nat) : scanQ t f off = scanF t f off := by
  induction f generalizing off with
  | zero => rfl
  | succ f ih =>
    rw [scanQ, scanF, nxQ_eq, skipQ_eq _ _ (Nat.lt_succ_self _)]
    cases nxT (t.drop off) with
    | bad c a => rfl
    | ok k len => simp only; rw [ih]; cases scanF t f (off + (skipL (t.drop off)).1 + len) <;> rfl
abbrev al1 : List UInt8 := [84, 95, 49, 123, 32, 47, 47, 32, 120, 10, 34, 97, 92, 34, 34, 61, 48, 120, 102, 70, 59]
abbrev al2 : List UInt8 := [120, 10, 32, 32, 64]
abbrev alT : List (Tk × Nat) := [(⟨1, [84, 95, 49], 0, false⟩, 0), (⟨4, [], 0, false⟩, 3), (⟨3, [97, 34], 0, false⟩, 10), (⟨6, [], 0, false⟩, 15), (⟨2, [], 255, true⟩, 16), (⟨7, [], 0, false⟩, 20), (⟨0, [], 0, false⟩, 21)]
theorem al_scan1 : scanA al1 = .inl alT := by
  unfold scanA
  rw [if_neg (by decide), ← scanQ_eq]
  kernel_rfl
theorem al_scan2 : scanA al2 = .inr (20, 4) := by
  unfold scanA
  rw [if_neg (by decide), ← scanQ_eq]
  kernel_rfl
def tpOf (t : List UInt8) (x : Tk × Nat) : Tp := ⟨⟨(x.1.kind : Int), x.1.text, x.1.val, x.1.hex⟩, (x.2 : Int), (lineN t x.2 : Int), (colN t x.2 : Int)⟩
theorem tks_tps (t : List UInt8) (ts : List (Tk × Nat)) : tksL t ts = tpsL (ts.map (tpOf t)) := by
  induction ts with
  | nil => rfl
  | cons x ts ih =>
    show tkL t x ++ tksL t ts = tpL (tpOf t x) ++ tpsL (ts.map (tpOf t))
    rw [ih]
    rfl
theorem row_own {w : World} {base n : Nat} {v : Value} {xs : List Tp} (h : w.ownsRow base 34 7 v n (tpsL xs)) (hn : n = xs.length) : RowT w v xs := by
  subst hn
  obtain ⟨hl, ⟨rfl, h0⟩ | ⟨g, cap, cur, rfl, hb, hh, h1, h2, h3, h4⟩⟩ := h
  · have : xs = [] := List.eq_nil_of_length_eq_zero h0
    subst this
    exact .nil
  · refine .some (heap_lt hh) (fun j u hj => ?_) h1
    have := cell_of_row w g j _ _ (0, 0) hh
    rw [Nat.zero_add, this, ← Array.getElem?_toList]
    rw [← h4, List.getElem?_take] at hj
    split at hj
    · exact hj
    · cases hj
theorem hex255 : hexU 255 = [70, 70] := by
  unfold hexU
  rw [hexG, dif_neg (by decide), hexG, dif_pos (by decide)]
  decide
theorem al_join : joinF true ((alT.map (tpOf al1)).map (·.z)) = some [84, 95, 49, 32, 123, 32, 34, 97, 92, 34, 34, 32, 61, 32, 48, 120, 70, 70, 32, 59, 32] := by
  have h4 : spz ⟨2, [], 255, true⟩ = some [48, 120, 70, 70] := by rw [spz_num, if_pos rfl, hex255]
  have h4' : spz ⟨((2 : Nat) : Int), [], 255, true⟩ = some [48, 120, 70, 70] := h4
  have e : (alT.map (tpOf al1)).map (·.z) = [⟨((1 : Nat) : Int), [84, 95, 49], 0, false⟩, ⟨((4 : Nat) : Int), [], 0, false⟩, ⟨((3 : Nat) : Int), [97, 34], 0, false⟩, ⟨((6 : Nat) : Int), [], 0, false⟩, ⟨((2 : Nat) : Int), [], 255, true⟩, ⟨((7 : Nat) : Int), [], 0, false⟩, ⟨((0 : Nat) : Int), [], 0, false⟩] := rfl
  have h0 : spz ⟨((1 : Nat) : Int), [84, 95, 49], 0, false⟩ = some [84, 95, 49] := by kernel_rfl
  have h1 : spz ⟨((4 : Nat) : Int), [], 0, false⟩ = some [123] := by kernel_rfl
  have h2 : spz ⟨((3 : Nat) : Int), [97, 34], 0, false⟩ = some [34, 97, 92, 34, 34] := by kernel_rfl
  have h3 : spz ⟨((6 : Nat) : Int), [], 0, false⟩ = some [61] := by kernel_rfl
  have h5 : spz ⟨((7 : Nat) : Int), [], 0, false⟩ = some [59] := by kernel_rfl
  have h6 : spz ⟨((0 : Nat) : Int), [], 0, false⟩ = some [] := by kernel_rfl
  rw [e]
  simp only [joinF, h0, h1, h2, h3, h4', h5, h6]
  rfl
end Go.Proofs.YtnmknnkpkkefoaaGreatDoor
