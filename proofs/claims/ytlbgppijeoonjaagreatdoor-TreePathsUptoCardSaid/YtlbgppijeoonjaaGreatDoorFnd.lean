import Derived.Test.YtlbgppijeoonjaaGreatDoorTreX
namespace Go.Proofs.YtlbgppijeoonjaaGreatDoor
open Go.RowKit
set_option linter.unusedVariables false

/-! ### Find, the document's -/
def isOb (k n : List UInt8) (o : Ob) : Bool := decide (o.kind = k) && decide (o.name = n)
def findL (k n : List UInt8) (l : List Ob) : Int := match l.findIdx? (isOb k n) with
  | some i => i
  | none => -1
theorem rowsO_at (qs : List (Ob × Value)) (j : Nat) (q : Ob × Value) (hq : qs[j]? = some q) (i : Nat) (hi : i < 8) : (rowsO qs)[j * 8 + i]? = (obC q.1 q.2)[i]? := by
  induction qs generalizing j with
  | nil => simp at hq
  | cons p ps ih =>
    have hs : (obC p.1 p.2).toList.length = 8 := rfl
    cases j with
    | zero =>
      obtain rfl : p = q := by simpa using hq
      show ((obC p.1 p.2).toList ++ rowsO ps)[0 * 8 + i]? = _
      rw [List.getElem?_append_left (by rw [hs]; omega), Nat.zero_mul, Nat.zero_add, Array.getElem?_toList]
    | succ j =>
      show ((obC p.1 p.2).toList ++ rowsO ps)[(j + 1) * 8 + i]? = _
      rw [List.getElem?_append_right (by rw [hs]; omega), hs, show (j + 1) * 8 + i - 8 = j * 8 + i from by omega]
      exact ih j (by simpa using hq)
theorem findL_hit {k n : List UInt8} {l : List Ob} {j : Nat} {o : Ob} (hj : l[j]? = some o) (ho : isOb k n o = true) (hb : ∀ i, i < j → ∀ p, l[i]? = some p → isOb k n p = false) : findL k n l = j := by
  obtain ⟨hl, he⟩ := List.getElem?_eq_some_iff.mp hj
  have : l.findIdx? (isOb k n) = some j := by
    rw [List.findIdx?_eq_some_iff_getElem]
    refine ⟨hl, by rw [he]; exact ho, fun i hi => ?_⟩
    have := hb i hi l[i] (List.getElem?_eq_getElem _)
    simp [this]
  unfold findL
  rw [this]
theorem findL_none {k n : List UInt8} {l : List Ob} (hb : ∀ i, i < l.length → ∀ p, l[i]? = some p → isOb k n p = false) : findL k n l = -1 := by
  have : l.findIdx? (isOb k n) = none := by
    rw [List.findIdx?_eq_none_iff]
    intro x hx
    obtain ⟨i, hi, rfl⟩ := List.mem_iff_getElem.mp hx
    exact hb i hi _ (List.getElem?_eq_getElem _)
  unfold findL
  rw [this]
theorem next_no {k n : List UInt8} {l : List Ob} {j : Nat} {o : Ob} (hf : ∀ i, i < j → ∀ p, l[i]? = some p → isOb k n p = false) (hj : l[j]? = some o) (ho : isOb k n o = false) : ∀ i, i < j + 1 → ∀ p, l[i]? = some p → isOb k n p = false := fun i hi p hp => by
  rcases Nat.lt_or_ge i j with h | h
  · exact hf i h p hp
  · obtain rfl : i = j := by omega
    rw [hj] at hp
    cases hp
    exact ho
set_option maxHeartbeats 4000000 in
set_option maxRecDepth 100000 in
theorem rFind_row (w : World) (t : Tr) (k n : List UInt8) (g off cap : Nat) (qs : List (Ob × Value)) (hg : g < w.heap.size) (hc : ∀ j u, (rowsO qs)[j]? = some u → w.cell? ⟨g, off + j, none⟩ = some u) (N : Nat) (hl : qs.length = N) (hn : N < 2199023255552) :
    Calls Tryz.prog 13 #[.agg (trC t (.slice (some ⟨g, off, none⟩) N cap)), .string ⟨k.toArray⟩, .string ⟨n.toArray⟩] w fun e w' => e = .returned (.int .i64 (findL k n (qs.map Prod.fst))) ∧ Below w.heap.size w w' := by
  obtain ⟨tv, tc, tobs, tnd, tnt⟩ := t
  unfold trC
  have HX : Hid (qs.length = N) := hl
  clear hl
  go_enter Tryz.func13, Tryz.ntmps13
  go_wp2
  have hb1 : Below w.heap.size w (w.alloc (.cells #[.string ⟨tv.toArray⟩, .string ⟨tc.toArray⟩, .slice (some ⟨g, off, none⟩) N cap, .bool tnd, .string ⟨tnt.toArray⟩] 24)) := (Below.refl _ _).alloc (Nat.le_refl _) _
  have hs1 : (w.alloc (.cells #[.string ⟨tv.toArray⟩, .string ⟨tc.toArray⟩, .slice (some ⟨g, off, none⟩) N cap, .bool tnd, .string ⟨tnt.toArray⟩] 24)).heap.size = w.heap.size + 1 := by simp
  have hk1 : (w.alloc (.cells #[.string ⟨tv.toArray⟩, .string ⟨tc.toArray⟩, .slice (some ⟨g, off, none⟩) N cap, .bool tnd, .string ⟨tnt.toArray⟩] 24)).cell? ⟨w.heap.size, 2, none⟩ = some (.slice (some ⟨g, off, none⟩) N cap) := by go_simp
  generalize (w.alloc (.cells #[.string ⟨tv.toArray⟩, .string ⟨tc.toArray⟩, .slice (some ⟨g, off, none⟩) N cap, .bool tnd, .string ⟨tnt.toArray⟩] 24)) = w1 at *
  go_loopw [7] (fun i wr => ∃ j : Nat, j ≤ N ∧ i = .int .i64 j ∧ (∀ i, i < j → ∀ p, (qs.map Prod.fst)[i]? = some p → isOb k n p = false) ∧ Below w1.heap.size w1 wr) (fun i _ => N - (intOf i).toNat)
  case atStart => exact ⟨0, by omega, rfl, fun i hi => by omega, Below.refl _ _⟩
  case round =>
    obtain ⟨j, hj, rfl, hf, hb⟩ := hrel
    have hz : Below w.heap.size w wr := hb1.trans (hb.mono (by omega))
    have k2 : wr.cell? ⟨w.heap.size, 2, none⟩ = some (.slice (some ⟨g, off, none⟩) N cap) := by rw [cell_below hb _ _ (by omega)]; exact hk1
    by_cases hlt : j < N
    · have hlt' : (j : Int) < N := by omega
      obtain ⟨q, hq⟩ : ∃ x, qs[j]? = some x := ⟨qs[j]'(by rw [HX.out]; exact hlt), List.getElem?_eq_getElem _⟩
      have x0 : wr.cell? ⟨g, off + j * 8, none⟩ = some (.string ⟨q.1.kind.toArray⟩) := by
        rw [cell_below hz _ _ hg]
        exact hc _ _ (rowsO_at qs j q hq 0 (by omega))
      have x1 : wr.cell? ⟨g, off + j * 8 + 1, none⟩ = some (.string ⟨q.1.name.toArray⟩) := by
        rw [cell_below hz _ _ hg]
        exact hc _ _ (rowsO_at qs j q hq 1 (by omega))
      clear hc hk1
      have hB : isOb k n q.1 = (decide (q.1.kind = k) && decide (q.1.name = n)) := rfl
      have hQ : (qs.map Prod.fst)[j]? = some q.1 := by rw [List.getElem?_map, hq]; rfl
      generalize q.1 = o at *
      clear hq
      obtain ⟨ok, on, oo, ol, oc, oat, ond, ont⟩ := o
      dsimp only at x0 x1 hB
      by_cases h1 : ok = k
      · subst h1
        by_cases h2 : on = n
        · subst h2
          go_wp2
          go_ret
          refine ⟨?_, hz⟩
          rw [findL_hit hQ (by rw [hB]; simp) hf]
          rfl
        · have h2b : (on == n) = false := by simpa using h2
          have hN : isOb ok n ⟨ok, on, oo, ol, oc, oat, ond, ont⟩ = false := by rw [hB]; simp [h2]
          clear hB
          go_wp2
          go_roundw
          case rel => exact ⟨j + 1, by omega, by go_num, next_no hf hQ hN, hb⟩
          case measure => simp [intOf]; omega
      · have h1b : (ok == k) = false := by simpa using h1
        have hN : isOb k n ⟨ok, on, oo, ol, oc, oat, ond, ont⟩ = false := by rw [hB]; simp [h1]
        clear hB
        go_wp2
        go_roundw
        case rel => exact ⟨j + 1, by omega, by go_num, next_no hf hQ hN, hb⟩
        case measure => simp [intOf]; omega
    · have hlt' : ¬ (j : Int) < N := by omega
      go_wp2
      go_ret
      refine ⟨?_, hz⟩
      rw [findL_none (fun i hi => hf i (by rw [List.length_map, HX.out] at hi; omega))]
      rfl
set_option maxHeartbeats 1000000 in
theorem rFind_nil (w : World) (t : Tr) (k n : List UInt8) (a : Option Addr) (cap : Nat) :
    Calls Tryz.prog 13 #[.agg (trC t (.slice a 0 cap)), .string ⟨k.toArray⟩, .string ⟨n.toArray⟩] w fun e w' => e = .returned (.int .i64 (-1)) ∧ Below w.heap.size w w' := by
  obtain ⟨tv, tc, tobs, tnd, tnt⟩ := t
  unfold trC
  go_enter Tryz.func13, Tryz.ntmps13
  go_wp2
  have hb1 : Below w.heap.size w (w.alloc (.cells #[.string ⟨tv.toArray⟩, .string ⟨tc.toArray⟩, .slice a 0 cap, .bool tnd, .string ⟨tnt.toArray⟩] 24)) := (Below.refl _ _).alloc (Nat.le_refl _) _
  have hs1 : (w.alloc (.cells #[.string ⟨tv.toArray⟩, .string ⟨tc.toArray⟩, .slice a 0 cap, .bool tnd, .string ⟨tnt.toArray⟩] 24)).heap.size = w.heap.size + 1 := by simp
  have hk1 : (w.alloc (.cells #[.string ⟨tv.toArray⟩, .string ⟨tc.toArray⟩, .slice a 0 cap, .bool tnd, .string ⟨tnt.toArray⟩] 24)).cell? ⟨w.heap.size, 2, none⟩ = some (.slice a 0 cap) := by go_simp
  generalize (w.alloc (.cells #[.string ⟨tv.toArray⟩, .string ⟨tc.toArray⟩, .slice a 0 cap, .bool tnd, .string ⟨tnt.toArray⟩] 24)) = w1 at *
  go_loopw [7] (fun i wr => i = .int .i64 0 ∧ Below w1.heap.size w1 wr) (fun _ _ => 0)
  case atStart => exact ⟨rfl, Below.refl _ _⟩
  case round =>
    obtain ⟨rfl, hb⟩ := hrel
    have hz : Below w.heap.size w wr := hb1.trans (hb.mono (by omega))
    have k2 : wr.cell? ⟨w.heap.size, 2, none⟩ = some (.slice a 0 cap) := by rw [cell_below hb _ _ (by omega)]; exact hk1
    go_wp2
    go_ret
    exact ⟨rfl, hz⟩
/-- Find, of a tree that lies in memory. -/
theorem rFind_any (w : World) (F : Nat → Prop) (t : Tr) (pv : Value) (k n : List UInt8) (h : ObjsAt w F pv t.objs) (hn : t.objs.length < 2199023255552) :
    Calls Tryz.prog 13 #[.agg (trC t pv), .string ⟨k.toArray⟩, .string ⟨n.toArray⟩] w fun e w' => e = .returned (.int .i64 (findL k n t.objs)) ∧ Below w.heap.size w w' := by
  obtain ⟨tv, tc, tobs, tnd, tnt⟩ := t
  cases h with
  | nil => exact rFind_nil w ⟨tv, tc, _, tnd, tnt⟩ k n _ _
  | row a b c d e => exact rFind_row w ⟨tv, tc, _, tnd, tnt⟩ k n _ _ _ _ b c _ rfl (by simpa using hn)
end Go.Proofs.YtlbgppijeoonjaaGreatDoor
