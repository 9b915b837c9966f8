import Derived.Test.YtpoekphebmonnabUb
import Derived.Laws.OwnMore
import Derived.Deep.MidRow
import Derived.Deep.WholeRow
namespace Go.Proofs.Ytpoekphebmonnab
open Go.RowKit
set_option linter.unusedVariables false
set_option linter.unusedSimpArgs false

/-! ### Alarms in memory -/
def flP : List Alm → List Value
  | [] => []
  | x :: r => Q x.1 :: U x.2 :: flP r
theorem flP_len (l : List Alm) : (flP l).length = l.length * 2 := by
  induction l with
  | nil => rfl
  | cons x r ih => simp only [flP, List.length_cons, ih]; omega
theorem flP_app (a b : List Alm) : flP (a ++ b) = flP a ++ flP b := by
  induction a with
  | nil => rfl
  | cons x r ih => simp only [List.cons_append, flP, ih]
theorem flP_at : ∀ {l : List Alm} {i : Nat} {x : Alm}, l[i]? = some x → (flP l)[i * 2]? = some (Q x.1) ∧ (flP l)[i * 2 + 1]? = some (U x.2)
  | [], i, x, h => by simp at h
  | y :: r, 0, x, h => by simp at h; subst h; exact ⟨rfl, rfl⟩
  | y :: r, i + 1, x, h => by
    rw [show (i + 1) * 2 = i * 2 + 2 by omega]
    exact flP_at (l := r) (by simpa using h)
theorem flP_set : ∀ (l : List Alm) (i : Nat) (x : Alm), flP (l.set i x) = ((flP l).set (i * 2) (Q x.1)).set (i * 2 + 1) (U x.2)
  | [], i, x => by simp [flP]
  | y :: r, 0, x => by simp [flP]
  | y :: r, i + 1, x => by
    rw [show (i + 1) * 2 = i * 2 + 2 by omega]
    simp only [List.set_cons_succ, flP, flP_set r i x]
theorem own_sl {w : World} {b E k n : Nat} {v : Value} {xs : List Value} (h : w.ownsRow b E k v n xs) : ∃ a cc, v = .slice a n cc := by
  rcases h.2 with ⟨h1, h0⟩ | ⟨g, cap, cur, h1, _⟩
  · exact ⟨none, 0, by rw [h0]; exact h1⟩
  · exact ⟨_, _, h1⟩
theorem own_some {w : World} {b e k n : Nat} {v : Value} {xs : List Value} (h : w.ownsRow b e k v n xs) (hn : 0 < n) : ∃ g c, v = .slice (some ⟨g, 0, none⟩) n c := by
  rcases h.2 with ⟨_, h0⟩ | ⟨g, cap, cur, h1, _⟩
  · omega
  · exact ⟨g, cap, h1⟩
theorem cell_set_off {w : World} {B i j : Nat} {v u : Value} (h : w.cell? ⟨B, i, none⟩ = some u) (hij : j ≠ i) : (w.setCell ⟨B, j, none⟩ v).cell? ⟨B, i, none⟩ = some u := by
  rw [World.cell?_setCell_other _ _ _ _ (by intro e; injection e with e1 e2 e3; exact hij e2)]
  exact h
theorem cell_set_on {w : World} {B i : Nat} {v u : Value} (h : w.cell? ⟨B, i, none⟩ = some u) : (w.setCell ⟨B, i, none⟩ v).cell? ⟨B, i, none⟩ = some v := World.cell?_setCell_same _ _ _ h
abbrev cP (B : Nat) : Value := .pointer (some ⟨B, 0, none⟩)
/-- the numbers of alarms -/
def AlOK (G : Nat) (al : List Alm) : Prop := ∀ x ∈ al, x.1 ≤ G + 1 ∧ x.2 ≤ G
/-- A clock: its block B, the slice of its alarms, what it holds. -/
structure Ck (w : World) (B : Nat) (v : Value) (G L V : Nat) (al : List Alm) : Prop where
  o : w.heap[B]? = some (.cells #[U G, U L, U V, v] 44)
  p : w.ownsRow 0 79 2 v al.length (flP al)
  d : v.ownBlock ≠ some B
  b : 1 ≤ G ∧ G ≤ 2147483647 ∧ 1 ≤ L ∧ L ≤ G ∧ V ≤ G
  n : al.length ≤ 64
  x : AlOK G al
  a : ∃ g c, v = .slice (some ⟨g, 0, none⟩) al.length c
def Cb (B : Nat) (v : Value) (b : Nat) : Prop := b = B ∨ v.ownBlock = some b
section
variable {w w' : World} {B G L V : Nat} {v : Value} {al : List Alm}
theorem Ck.lt (h : Ck w B v G L V al) {b : Nat} (hb : Cb B v b) : b < w.heap.size := by
  rcases hb with rfl | e
  · exact heap_lt h.o
  · exact (h.p.lt b e).2
theorem Ck.keptZ (h : Ck w B v G L V al) {M : Nat → Prop} (hf : Fz M w w') (hM : ∀ b, Cb B v b → ¬ M b) : Ck w' B v G L V al :=
  ⟨hf.heap h.o (hM _ (.inl rfl)), hf.own h.p (fun g e => hM g (.inr e)), h.d, h.b, h.n, h.x, h.a⟩
theorem Ck.below (h : Ck w B v G L V al) (hb : Below w.heap.size w w') : Ck w' B v G L V al := h.keptZ (M := fun _ => False) (Fz.of_below hb) (fun _ _ e => e)
theorem Ck.cells (h : Ck w B v G L V al) : w.cell? ⟨B, 0, none⟩ = some (U G) ∧ w.cell? ⟨B, 1, none⟩ = some (U L) ∧ w.cell? ⟨B, 2, none⟩ = some (U V) ∧ w.cell? ⟨B, 3, none⟩ = some v := by
  refine ⟨?_, ?_, ?_, ?_⟩ <;> (rw [cell_of_row w B _ _ _ (0, 0) h.o]; rfl)
theorem Ck.frz (h : Ck w B v G L V al) (j : Nat) : w.frozen? ⟨B, j, none⟩ = false := frozen_of_row w B j _ _ h.o
/-- what an alarm's place holds -/
theorem Ck.at (h : Ck w B v G L V al) {k : Nat} {x : Alm} (hx : al[k]? = some x) : ∃ g c, v = .slice (some ⟨g, 0, none⟩) al.length c ∧ w.cell? ⟨g, k * 2, none⟩ = some (Q x.1) ∧ w.cell? ⟨g, k * 2 + 1, none⟩ = some (U x.2) ∧ ∀ j, w.frozen? ⟨g, j, none⟩ = false := by
  have hk : k < al.length := (List.getElem?_eq_some_iff.1 hx).1
  have h0 : 0 < al.length := by omega
  obtain ⟨g, c, rfl⟩ := own_some h.p h0
  obtain ⟨e1, e2⟩ := flP_at hx
  exact ⟨g, c, rfl, by rw [h.p.cellAt _ (by omega)]; exact e1, by rw [h.p.cellAt _ (by omega)]; exact e2, h.p.frozenAt⟩
/-- a row of alarms of which one is written over -/
theorem row_set {w : World} {b g n c k : Nat} {al : List Alm} (h : w.ownsRow b 79 2 (.slice (some ⟨g, 0, none⟩) n c) n (flP al)) (y : Alm) : ((w.setCell ⟨g, k * 2, none⟩ (Q y.1)).setCell ⟨g, k * 2 + 1, none⟩ (U y.2)).ownsRow b 79 2 (.slice (some ⟨g, 0, none⟩) n c) n (flP (al.set k y)) := by
  rw [flP_set]
  exact (((h.stored (k * 2) (Q y.1)).1).stored (k * 2 + 1) (U y.2)).1
theorem row_left {w : World} {b g n c k : Nat} {al : List Alm} {x : Alm} (hx : al[k]? = some x) (h : w.ownsRow b 79 2 (.slice (some ⟨g, 0, none⟩) n c) n (flP al)) (y : Nat) : (w.setCell ⟨g, k * 2, none⟩ (Q y)).ownsRow b 79 2 (.slice (some ⟨g, 0, none⟩) n c) n (flP (al.set k (y, x.2))) := by
  have h1 := (h.stored (k * 2) (Q y)).1
  rw [flP_set, set_self (l := (flP al).set (k * 2) (Q y)) (a := U x.2)]
  · exact h1
  · rw [List.getElem?_set_ne (by omega)]
    exact (flP_at hx).2
theorem fz_set2 (w : World) (g i j : Nat) (u v : Value) : Fz (fun b => b = g) w ((w.setCell ⟨g, i, none⟩ u).setCell ⟨g, j, none⟩ v) := ((Fz.refl (fun b => b = g) w).set (.inl rfl) i u).set (.inl rfl) j v
theorem AlOK.set {G : Nat} {al : List Alm} (h : AlOK G al) {k : Nat} {y : Alm} (hy : y.1 ≤ G + 1 ∧ y.2 ≤ G) : AlOK G (al.set k y) := fun x hx => by
  rcases List.mem_or_eq_of_mem_set hx with hx | rfl
  · exact h x hx
  · exact hy
theorem Ck.put {g c : Nat} (h : Ck w B (.slice (some ⟨g, 0, none⟩) al.length c) G L V al) (k : Nat) (y : Alm) (hy : y.1 ≤ G + 1 ∧ y.2 ≤ G) : Ck ((w.setCell ⟨g, k * 2, none⟩ (Q y.1)).setCell ⟨g, k * 2 + 1, none⟩ (U y.2)) B (.slice (some ⟨g, 0, none⟩) al.length c) G L V (al.set k y) := by
  have hf := fz_set2 w g (k * 2) (k * 2 + 1) (Q y.1) (U y.2)
  have hd : B ≠ g := fun e => h.d (by rw [e]; rfl)
  exact ⟨hf.heap h.o hd, by simpa using row_set h.p y, h.d, h.b, by simpa using h.n, h.x.set hy, by rw [List.length_set]; exact h.a⟩
/-! ### Small calls -/
theorem none_any (h : Ck w B v G L V al) : Calls Try.prog 33 #[cP B] w fun e w' => e = .returned (.bool false) ∧ w = w' := by
  obtain ⟨c0, c1, c2, c3⟩ := h.cells
  have hb := h.b.1
  have h0 : ¬ ((G : Int) = 0) := by omega
  go_enter Try.func33, Try.ntmps33
  go_wp2
  go_ret
  exact ⟨ret_bool (beq_eq_false_iff_ne.2 h0), rfl⟩
theorem none_nil (w : World) : Calls Try.prog 33 #[.pointer none] w fun e w' => e = .returned (.bool true) ∧ w = w' := by
  go_enter Try.func33, Try.ntmps33
  go_wp2
  go_ret
  exact ⟨rfl, rfl⟩
theorem none_zero (w : World) (B : Nat) (c0 : w.cell? ⟨B, 0, none⟩ = some (U 0)) : Calls Try.prog 33 #[cP B] w fun e w' => e = .returned (.bool true) ∧ w = w' := by
  go_enter Try.func33, Try.ntmps33
  go_wp2
  go_ret
  exact ⟨rfl, rfl⟩
theorem Value_any (h : Ck w B v G L V al) : Calls Try.prog 17 #[cP B] w fun e w' => e = .returned (U V) ∧ w = w' := by
  obtain ⟨c0, c1, c2, c3⟩ := h.cells
  have hN := none_any h
  go_enter Try.func17, Try.ntmps17
  go_wp2_with (first | (go_at_call 33; refine hN.mono ?_; rintro e w1 ⟨rfl, rfl⟩))
  go_ret
  exact ⟨rfl, rfl⟩
theorem snone_any (w : World) (g k : Nat) (n : Nat) (hc : w.cell? ⟨g, k, none⟩ = some (Q n)) : Calls Try.prog 50 #[.pointer (some ⟨g, k, none⟩)] w fun e w' => e = .returned (.bool (decide (n = 0))) ∧ w = w' := by
  by_cases h0 : n = 0
  · subst h0
    go_enter Try.func50, Try.ntmps50
    go_wp2
    go_ret
    exact ⟨rfl, rfl⟩
  · have h1 : ¬ ((n : Int) = 0) := by omega
    rw [show decide (n = 0) = false by simpa using h0]
    go_enter Try.func50, Try.ntmps50
    go_wp2
    go_ret
    exact ⟨ret_bool (beq_eq_false_iff_ne.2 h1), rfl⟩
theorem find_out (h : Ck w B v G L V al) (t : Int) (ht : t < 0 ∨ (al.length : Int) ≤ t) : Calls Try.prog 49 #[cP B, I t] w fun e w' => e = .returned (.tuple #[.pointer none, I 3]) ∧ w = w' := by
  obtain ⟨c0, c1, c2, c3⟩ := h.cells
  obtain ⟨a, cc, rfl⟩ := own_sl h.p
  have hN := none_any h
  by_cases h0 : t < 0
  · go_enter Try.func49, Try.ntmps49
    go_wp2_with (first | (go_at_call 33; refine hN.mono ?_; rintro e w1 ⟨rfl, rfl⟩))
    go_ret2
    exact ⟨rfl, rfl⟩
  · have h1 : (al.length : Int) ≤ t := by omega
    go_enter Try.func49, Try.ntmps49
    go_wp2_with (first | (go_at_call 33; refine hN.mono ?_; rintro e w1 ⟨rfl, rfl⟩))
    go_ret2
    exact ⟨rfl, rfl⟩
theorem find_ok {g c : Nat} (h : Ck w B (.slice (some ⟨g, 0, none⟩) al.length c) G L V al) (k : Nat) (hk : k < al.length) : Calls Try.prog 49 #[cP B, I k] w fun e w' => e = .returned (.tuple #[.pointer (some ⟨g, k * 2, none⟩), I 0]) ∧ w = w' := by
  obtain ⟨c0, c1, c2, c3⟩ := h.cells
  have hN := none_any h
  have h0 : ¬ ((k : Int) < 0) := by omega
  have h1 : ¬ ((al.length : Int) ≤ k) := by omega
  have h2 : (k : Int) < al.length := by omega
  go_enter Try.func49, Try.ntmps49
  go_wp2_with (first | (go_at_call 33; refine hN.mono ?_; rintro e w1 ⟨rfl, rfl⟩))
  go_ret2
  exact ⟨rfl, rfl⟩
end
/-- what is answered of an alarm that must be set -/
def getS (al : List Alm) (t : Int) : Int := if t < 0 ∨ (al.length : Int) ≤ t then 3 else if (al.getD t.toNat (0, 0)).1 = 0 then 5 else 0
theorem getS_zero {al : List Alm} {t : Int} (h : getS al t = 0) : ∃ (k : Nat) (x : Alm), t = k ∧ k < al.length ∧ al[k]? = some x ∧ x.1 ≠ 0 := by
  unfold getS at h
  split at h
  · omega
  · have hk : t.toNat < al.length := by omega
    refine ⟨t.toNat, al[t.toNat], by omega, hk, List.getElem?_eq_getElem hk, ?_⟩
    split at h
    · omega
    · rename_i h2
      rw [List.getD_eq_getElem?_getD, List.getElem?_eq_getElem hk] at h2
      exact h2
section
variable {w w' : World} {B G L V : Nat} {v : Value} {al : List Alm}
theorem findSet_no (h : Ck w B v G L V al) (t : Int) (ht : getS al t ≠ 0) : Calls Try.prog 40 #[cP B, I t] w fun e w' => e = .returned (.tuple #[.pointer none, I (getS al t)]) ∧ w = w' := by
  by_cases h0 : t < 0 ∨ (al.length : Int) ≤ t
  · rw [show getS al t = 3 by unfold getS; rw [if_pos h0]]
    have hF := find_out h t h0
    go_enter Try.func40, Try.ntmps40
    go_wp2_with (first | (go_at_call 49; refine hF.mono ?_; rintro e w1 ⟨rfl, rfl⟩))
    go_ret2
    exact ⟨rfl, rfl⟩
  · have e1 : getS al t = if (al.getD t.toNat (0, 0)).1 = 0 then 5 else 0 := by unfold getS; rw [if_neg h0]
    obtain ⟨k, rfl⟩ := Int.eq_ofNat_of_zero_le (show 0 ≤ t by omega)
    have hk : k < al.length := by omega
    have hx : al[k]? = some al[k] := List.getElem?_eq_getElem hk
    generalize al[k] = x at hx
    rw [e1, Int.toNat_natCast, List.getD_eq_getElem?_getD, hx, Option.getD_some] at ht ⊢
    by_cases hz : x.1 = 0
    · rw [if_pos hz]
      obtain ⟨g, c, rfl, q1, q2, q3⟩ := h.at hx
      have hF := find_ok h k hk
      have hS := snone_any w g (k * 2) x.1 q1
      rw [show decide (x.1 = 0) = true by simpa using hz] at hS
      clear ht hz
      go_enter Try.func40, Try.ntmps40
      go_wp2_with (first | (go_at_call 49; refine hF.mono ?_; rintro e w1 ⟨rfl, rfl⟩) | (go_at_call 50; refine hS.mono ?_; rintro e w1 ⟨rfl, rfl⟩))
      go_ret2
      exact ⟨rfl, rfl⟩
    · rw [if_neg hz] at ht
      exact absurd rfl ht
theorem findSet_ok {g c : Nat} (h : Ck w B (.slice (some ⟨g, 0, none⟩) al.length c) G L V al) (k : Nat) {x : Alm} (hx : al[k]? = some x) (hz : x.1 ≠ 0) : Calls Try.prog 40 #[cP B, I k] w fun e w' => e = .returned (.tuple #[.pointer (some ⟨g, k * 2, none⟩), I 0]) ∧ w = w' := by
  have hk : k < al.length := (List.getElem?_eq_some_iff.1 hx).1
  obtain ⟨g', c', e, q1, q2, q3⟩ := h.at hx
  cases e
  have hF := find_ok h k hk
  have hS := snone_any w g (k * 2) x.1 q1
  rw [show decide (x.1 = 0) = false by simpa using hz] at hS
  clear hz
  go_enter Try.func40, Try.ntmps40
  go_wp2_with (first | (go_at_call 49; refine hF.mono ?_; rintro e w1 ⟨rfl, rfl⟩) | (go_at_call 50; refine hS.mono ?_; rintro e w1 ⟨rfl, rfl⟩))
  go_ret2
  exact ⟨rfl, rfl⟩
def lftN (al : List Alm) (t : Int) : Nat := if getS al t = 0 then (al.getD t.toNat (0, 0)).1 else 0
def cycN (al : List Alm) (t : Int) : Nat := if getS al t = 0 then (al.getD t.toNat (0, 0)).2 else 0
def canL (al : List Alm) (t : Int) : List Alm := if getS al t = 0 then al.set t.toNat (0, 0) else al
theorem Left_any (h : Ck w B v G L V al) (t : Int) : Calls Try.prog 16 #[cP B, I t] w fun e w' => e = .returned (.tuple #[Q (lftN al t : Nat), I (getS al t)]) ∧ w = w' := by
  by_cases hs : getS al t = 0
  · unfold lftN
    rw [hs, if_pos rfl]
    obtain ⟨k, x, rfl, hk, hx, hz⟩ := getS_zero hs
    rw [Int.toNat_natCast, List.getD_eq_getElem?_getD, hx, Option.getD_some]
    obtain ⟨g, c, rfl, q1, q2, q3⟩ := h.at hx
    have hF := findSet_ok h k hx hz
    clear hs
    go_enter Try.func16, Try.ntmps16
    go_wp2_with (first | (go_at_call 40; refine hF.mono ?_; rintro e w1 ⟨rfl, rfl⟩))
    go_ret2
    exact ⟨rfl, rfl⟩
  · unfold lftN
    rw [if_neg hs]
    have hF := findSet_no h t hs
    generalize getS al t = s at *
    go_enter Try.func16, Try.ntmps16
    go_wp2_with (first | (go_at_call 40; refine hF.mono ?_; rintro e w1 ⟨rfl, rfl⟩))
    go_ret2
    exact ⟨rfl, rfl⟩
theorem Cycle_any (h : Ck w B v G L V al) (t : Int) : Calls Try.prog 32 #[cP B, I t] w fun e w' => e = .returned (.tuple #[U (cycN al t : Nat), I (getS al t)]) ∧ w = w' := by
  by_cases hs : getS al t = 0
  · unfold cycN
    rw [hs, if_pos rfl]
    obtain ⟨k, x, rfl, hk, hx, hz⟩ := getS_zero hs
    rw [Int.toNat_natCast, List.getD_eq_getElem?_getD, hx, Option.getD_some]
    obtain ⟨g, c, rfl, q1, q2, q3⟩ := h.at hx
    have hF := findSet_ok h k hx hz
    clear hs
    go_enter Try.func32, Try.ntmps32
    go_wp2_with (first | (go_at_call 40; refine hF.mono ?_; rintro e w1 ⟨rfl, rfl⟩))
    go_ret2
    exact ⟨rfl, rfl⟩
  · unfold cycN
    rw [if_neg hs]
    have hF := findSet_no h t hs
    generalize getS al t = s at *
    go_enter Try.func32, Try.ntmps32
    go_wp2_with (first | (go_at_call 40; refine hF.mono ?_; rintro e w1 ⟨rfl, rfl⟩))
    go_ret2
    exact ⟨rfl, rfl⟩
theorem Cancel_any (h : Ck w B v G L V al) (t : Int) : Calls Try.prog 23 #[cP B, I t] w fun e w' => e = .returned (I (getS al t)) ∧ Ck w' B v G L V (canL al t) ∧ Fz (Cb B v) w w' := by
  by_cases hs : getS al t = 0
  · unfold canL
    rw [hs, if_pos rfl]
    obtain ⟨k, x, rfl, hk, hx, hz⟩ := getS_zero hs
    rw [Int.toNat_natCast]
    obtain ⟨g, c, rfl, q1, q2, q3⟩ := h.at hx
    have hF := findSet_ok h k hx hz
    have hP := h.put k (0, 0) ⟨by omega, by omega⟩
    have hZ : Fz (Cb B (.slice (some ⟨g, 0, none⟩) al.length c)) w ((w.setCell ⟨g, k * 2, none⟩ (Q 0)).setCell ⟨g, k * 2 + 1, none⟩ (U 0)) := (fz_set2 w g (k * 2) (k * 2 + 1) (Q 0) (U 0)).mono (by rintro b rfl; exact .inr rfl)
    have q4 : (w.setCell ⟨g, k * 2, none⟩ (Q 0)).cell? ⟨g, k * 2 + 1, none⟩ = some (U x.2) := cell_set_off q2 (by omega)
    clear hs
    go_enter Try.func23, Try.ntmps23
    go_wp2_with (first | (go_at_call 40; refine hF.mono ?_; rintro e w1 ⟨rfl, rfl⟩))
    go_ret
    exact ⟨rfl, hP, hZ⟩
  · unfold canL
    rw [if_neg hs]
    have hF := findSet_no h t hs
    generalize getS al t = s at *
    go_enter Try.func23, Try.ntmps23
    go_wp2_with (first | (go_at_call 40; refine hF.mono ?_; rintro e w1 ⟨rfl, rfl⟩))
    go_ret
    exact ⟨rfl, h, Fz.refl _ _⟩
end
end Go.Proofs.Ytpoekphebmonnab
