import Derived.Test.YticgikbnlpgnkaaYt
import Derived.Test.YticgikbnlpgnkaaYm
namespace Go.Proofs.Yticgikbnlpgnkaa
open Go.RowKit
set_option linter.unusedVariables false
set_option linter.unusedSimpArgs false

/-! ### ints, queued; both queues -/
set_option maxHeartbeats 4000000 in
theorem qints_any (w : World) (s1 s2 : Sl) (l : List Int) (hl : l.length ≤ 65536) (h1 : RowsAt w 1 inP s1 l) (h2 : RowsAt w 1 inP s2 l) : Calls Try.prog 46 #[.slice s1.a s1.n s1.c, .slice s2.a s2.n s2.c] w fun e w' => e = .returned (.bool true) ∧ Below w.heap.size w w' := by
  obtain ⟨a1, n1, c1⟩ := s1
  obtain ⟨a2, n2, c2⟩ := s2
  have e1 := h1.n
  have e2 := h2.n
  simp only at e1 e2
  subst e1 e2
  have HA : Hid (∀ (k : Nat) (x : Int), l[k]? = some x → ∃ g1 o1 g2 o2, a1 = some ⟨g1, o1, none⟩ ∧ a2 = some ⟨g2, o2, none⟩ ∧ ∀ wr, Below w.heap.size w wr → wr.cell? ⟨g1, o1 + k, none⟩ = some (I x) ∧ wr.cell? ⟨g2, o2 + k, none⟩ = some (I x)) := fun k x hx => by
    obtain ⟨g1, o1, e1, k1, r1⟩ := h1.row k x hx
    obtain ⟨g2, o2, e2, k2, r2⟩ := h2.row k x hx
    obtain ⟨u1, q1, p1⟩ := r1 0 (by decide)
    obtain ⟨u2, q2, p2⟩ := r2 0 (by decide)
    cases p1
    cases p2
    rw [Nat.mul_one, Nat.add_zero] at q1 q2
    exact ⟨g1, o1, g2, o2, e1, e2, fun wr hb => ⟨(World.cell?_of_block (hb.block g1 k1)).trans q1, (World.cell?_of_block (hb.block g2 k2)).trans q2⟩⟩
  clear h1 h2
  simp only
  go_enter Try.func46, Try.ntmps46
  go_wp2
  go_loopw [5] (fun i wr => ∃ k : Nat, k ≤ l.length ∧ i = .int .i64 k ∧ Hid (Below w.heap.size w wr)) (fun i _ => l.length - (intOf i).toNat)
  case atStart => exact ⟨0, by omega, rfl, Below.refl _ _⟩
  case round =>
    obtain ⟨k, hk, rfl, HB⟩ := hrel
    by_cases hlt : k < l.length
    · obtain ⟨x, hx⟩ : ∃ x, l[k]? = some x := ⟨_, List.getElem?_eq_getElem hlt⟩
      have hltI : (k : Int) < l.length := by omega
      have k0 : ¬ (k : Int) < 0 := by omega
      obtain ⟨g1, o1, g2, o2, rfl, rfl, hc⟩ := HA.out k x hx
      obtain ⟨x1, x2⟩ := hc wr HB.out
      clear hx hc
      go_wp2
      go_quiet (fail)
      have H9 : Hid (Below w.heap.size w (wr.drewN nq)) := below_drewN nq HB.out
      clear HB x1 x2
      generalize wr.drewN nq = W9 at *
      go_wp2
      go_roundw
      case rel => exact ⟨k + 1, by omega, by go_num, H9.out⟩
      case measure => simp [intOf]; omega
    · obtain rfl : k = l.length := by omega
      have hge : ¬ ((l.length : Int) < l.length) := by omega
      go_wp2
      go_ret
      exact ⟨rfl, HB.out⟩
set_option maxHeartbeats 4000000 in
theorem qqueued_any (w : World) (b1 b2 : Nat) (v u : Value) (l : List (Int × Int)) (hl : l.length ≤ 4194304) (h1 : w.ownsRow b1 35 2 v l.length (pairsC l)) (h2 : w.ownsRow b2 35 2 u l.length (pairsC l)) : Calls Try.prog 14 #[v, u] w fun e w' => e = .returned (.bool true) ∧ Below w.heap.size w w' := by
  obtain ⟨a1, c1, e1⟩ := own_sl2 h1
  obtain ⟨a2, c2, e2⟩ := own_sl2 h2
  subst e1 e2
  have HA : Hid (∀ (k : Nat) (p x : Int), l[k]? = some (p, x) → ∃ g1 g2, a1 = some ⟨g1, 0, none⟩ ∧ a2 = some ⟨g2, 0, none⟩ ∧ ∀ wr, Below w.heap.size w wr → wr.cell? ⟨g1, k * 2, none⟩ = some (I p) ∧ wr.cell? ⟨g1, k * 2 + 1, none⟩ = some (I x) ∧ wr.cell? ⟨g2, k * 2, none⟩ = some (I p) ∧ wr.cell? ⟨g2, k * 2 + 1, none⟩ = some (I x)) := fun k p x hx => by
    have hlt := (List.getElem?_eq_some_iff.1 hx).1
    obtain ⟨g1, d1, cur1, e1, _, k1, r1⟩ := own_pairs h1 (by omega)
    obtain ⟨g2, d2, cur2, e2, _, k2, r2⟩ := own_pairs h2 (by omega)
    cases e1
    cases e2
    refine ⟨g1, g2, rfl, rfl, fun wr hb => ?_⟩
    have m1 := (hb.block g1 (heap_lt k1)).trans k1
    have m2 := (hb.block g2 (heap_lt k2)).trans k2
    rw [cell_of_row wr g1 _ _ _ (0, 0) m1, cell_of_row wr g1 _ _ _ (0, 0) m1, cell_of_row wr g2 _ _ _ (0, 0) m2, cell_of_row wr g2 _ _ _ (0, 0) m2]
    exact ⟨(r1 k p x hx).1, (r1 k p x hx).2, (r2 k p x hx).1, (r2 k p x hx).2⟩
  clear h1 h2
  go_enter Try.func14, Try.ntmps14
  go_wp2
  go_loopw [5] (fun i wr => ∃ k : Nat, k ≤ l.length ∧ i = .int .i64 k ∧ Hid (Below w.heap.size w wr)) (fun i _ => l.length - (intOf i).toNat)
  case atStart => exact ⟨0, by omega, rfl, Below.refl _ _⟩
  case round =>
    obtain ⟨k, hk, rfl, HB⟩ := hrel
    by_cases hlt : k < l.length
    · obtain ⟨⟨p, x⟩, hx⟩ : ∃ x, l[k]? = some x := ⟨_, List.getElem?_eq_getElem hlt⟩
      have hltI : (k : Int) < l.length := by omega
      have k0 : ¬ (k : Int) < 0 := by omega
      obtain ⟨g1, g2, rfl, rfl, hc⟩ := HA.out k p x hx
      obtain ⟨x1, x2, x3, x4⟩ := hc wr HB.out
      clear hx hc
      go_wp2
      go_quiet (fail)
      have H9 : Hid (Below w.heap.size w (wr.drewN nq)) := below_drewN nq HB.out
      clear HB x1 x2 x3 x4
      generalize wr.drewN nq = W9 at *
      go_wp2
      go_roundw
      case rel => exact ⟨k + 1, by omega, by go_num, H9.out⟩
      case measure => simp [intOf]; omega
    · obtain rfl : k = l.length := by omega
      have hge : ¬ ((l.length : Int) < l.length) := by omega
      go_wp2
      go_ret
      exact ⟨rfl, HB.out⟩
/-- The program's queue and the document's, alike. -/
structure Cp (w : World) (Q D : Nat) (X Y : Nat → Prop) (rs : List Rr) : Prop where
  q : QR w Q X rs
  d : DQ w D X Y rs
  x : ∀ b, X b → b < w.heap.size
  n : rs.length ≤ 64
theorem Cp.below {w w' : World} {Q D : Nat} {X Y : Nat → Prop} {rs : List Rr} (h : Cp w Q D X Y rs) (hb : Below w.heap.size w w') : Cp w' Q D X Y rs :=
  ⟨h.q.below hb, h.d.below hb, fun b e => Nat.lt_of_lt_of_le (h.x b e) hb.size, h.n⟩
theorem DQ.yx {w : World} {D : Nat} {X Y : Nat → Prop} {rs : List Rr} (h : DQ w D X Y rs) : ∀ b, Y b → b < w.heap.size ∧ ¬ X b := by
  obtain ⟨vr, vl, vh, ls, h⟩ := h
  exact h.yn
section
variable {w : World} {Q D : Nat} {X Y : Nat → Prop} {rs : List Rr}
theorem Cp.h16 (h : Cp w Q D X Y rs) : ∀ (i : Nat) (r : Rr), rs[i]? = some r → r.l.length ≤ 65536 := fun i r hi => by
  have := h.q.p64 i r hi
  omega
/-- The row of a priority. -/
def atR (rs : List Rr) (p : Int) : Option Rr := rs.find? fun r => decide ((r.p : Int) = p)
theorem atR_some {p : Int} {r : Rr} (h : atR rs p = some r) : ∃ i : Nat, rs[i]? = some r ∧ (r.p : Int) = p := by
  have h1 := List.find?_some h
  have h2 := List.mem_of_find?_eq_some h
  obtain ⟨i, hi⟩ := List.getElem?_of_mem h2
  exact ⟨i, hi, by simpa using h1⟩
theorem atR_none {p : Int} (h : atR rs p = none) : Noway rs p := fun i r hi e => by
  have := List.find?_eq_none.1 h r (List.mem_of_getElem? hi)
  simp [e] at this
def lsR (rs : List Rr) (p : Int) : List Int := (atR rs p).elim [] (·.l)
def hiR (rs : List Rr) (p : Int) : Nat := (atR rs p).elim 0 (·.h)
theorem pRing (h : Cp w Q D X Y rs) (p : Int) : Calls Try.prog 43 #[qP Q, I p] w fun e w' => ∃ v, e = .returned v ∧ w'.ownsRow w.heap.size 3 1 v (lsR rs p).length (intsV (lsR rs p)) ∧ Below w.heap.size w w' := by
  unfold lsR
  cases e : atR rs p with
  | none => exact rRing_no h.q (atR_none e)
  | some r =>
    obtain ⟨i, hi, rfl⟩ := atR_some e
    exact rRing_ok h.q hi
theorem pHigh (h : Cp w Q D X Y rs) (p : Int) : Calls Try.prog 44 #[qP Q, I p] w fun e w' => e = .returned (I (hiR rs p)) ∧ w = w' := by
  unfold hiR
  cases e : atR rs p with
  | none => exact rHigh_no h.q (atR_none e)
  | some r =>
    obtain ⟨i, hi, rfl⟩ := atR_some e
    exact rHigh_ok h.q hi
theorem eRing (h : Cp w Q D X Y rs) (p : Int) : Calls Try.prog 47 #[dQ D, I p] w fun e w' => ∃ s : Sl, e = .returned (.slice s.a s.n s.c) ∧ RowsAt w 1 inP s (lsR rs p) ∧ w = w' := by
  obtain ⟨vr, vl, vh, ls, hd⟩ := h.d
  unfold lsR
  cases e : atR rs p with
  | none =>
    refine (dRing_no hd (atR_none e) h.n).mono ?_
    rintro e w' ⟨rfl, rfl⟩
    exact ⟨⟨none, 0, 0⟩, rfl, ⟨rfl, Nat.le_refl _, Nat.zero_le _, fun j x hj => by simp at hj⟩, rfl⟩
  | some r =>
    obtain ⟨i, hi, rfl⟩ := atR_some e
    exact dRing_ok hd hi h.q.fall h.n
theorem eMost (h : Cp w Q D X Y rs) (p : Int) : Calls Try.prog 48 #[dQ D, I p] w fun e w' => e = .returned (I (hiR rs p)) ∧ w = w' := by
  obtain ⟨vr, vl, vh, ls, hd⟩ := h.d
  unfold hiR
  cases e : atR rs p with
  | none => exact dMost_no hd (atR_none e) h.n
  | some r =>
    obtain ⟨i, hi, rfl⟩ := atR_some e
    exact dMost_ok hd hi h.q.fall h.n
theorem lsR_len (h : Cp w Q D X Y rs) (p : Int) : (lsR rs p).length ≤ 65536 := by
  unfold lsR
  cases e : atR rs p with
  | none => simp
  | some r =>
    obtain ⟨i, hi, _⟩ := atR_some e
    exact h.h16 i r hi
/-- The first row that is not empty. -/
theorem first_row : ∀ (rs : List Rr), (∀ (i : Nat) (r : Rr), rs[i]? = some r → r.l = []) ∨ ∃ (i : Nat) (r : Rr), rs[i]? = some r ∧ r.l ≠ [] ∧ ∀ (j : Nat) (b : Rr), j < i → rs[j]? = some b → b.l = []
  | [] => .inl (fun i r hi => by simp at hi)
  | r :: t => by
    by_cases e : r.l = []
    · rcases first_row t with h | ⟨i, b, h1, h2, h3⟩
      · refine .inl (fun i b hi => ?_)
        cases i with
        | zero => simp at hi; subst hi; exact e
        | succ i => exact h i b (by simpa using hi)
      · refine .inr ⟨i + 1, b, by simpa using h1, h2, fun j c hj hc => ?_⟩
        cases j with
        | zero => simp at hc; subst hc; exact e
        | succ j => exact h3 j c (by omega) (by simpa using hc)
    · exact .inr ⟨0, r, rfl, e, fun j b hj => by omega⟩
theorem bothHighest (h : Cp w Q D X Y rs) : ∃ (a : Int) (b : Bool), (∀ W, Below w.heap.size w W → Calls Try.prog 30 #[qP Q] W fun e w' => e = .returned (.tuple #[I a, .bool b]) ∧ W = w') ∧ (∀ W, Below w.heap.size w W → Calls Try.prog 41 #[dQ D] W fun e w' => e = .returned (.tuple #[I a, .bool b]) ∧ W = w') := by
  rcases first_row rs with h0 | ⟨i, r, hi, hl, hj⟩
  · refine ⟨0, false, fun W hb => rHighest_no (h.q.below hb) h0, fun W hb => ?_⟩
    obtain ⟨vr, vl, vh, ls, hd⟩ := h.d.below hb
    exact dHighest_no hd h0 h.n
  · refine ⟨r.p, true, fun W hb => rHighest_ok (h.q.below hb) hi hl hj, fun W hb => ?_⟩
    obtain ⟨vr, vl, vh, ls, hd⟩ := h.d.below hb
    exact dHighest_ok hd hi hl hj h.n
theorem eBits (h : Cp w Q D X Y rs) : Calls Try.prog 45 #[dQ D] w fun e w' => e = .returned (.int .u64 (bitsR 0 rs : Nat)) ∧ w = w' := by
  obtain ⟨vr, vl, vh, ls, hd⟩ := h.d
  exact dBits_any hd (fun i r hi => (h.q.p64 i r hi).1) h.n
theorem eAllC (h : Cp w Q D X Y rs) : Calls Try.prog 18 #[dQ D] w fun e w' => ∃ v, e = .returned v ∧ w'.ownsRow w.heap.size 35 2 v (allR rs).length (pairsC (allR rs)) ∧ Below w.heap.size w w' := eAll h.d h.n h.q.allLen h.h16
end
end Go.Proofs.Yticgikbnlpgnkaa
