import Derived.Test.YthhckhifaolmkaaGreatXUb
import Derived.Laws.OwnMore
import Derived.Deep.MidRow
import Derived.Deep.WholeRow
import Derived.Shelf.Abstract
import Derived.Lib.QuietBelow
namespace Go.Proofs.YthhckhifaolmkaaGreat.Cl
open Go.RowKit
set_option linter.unusedVariables false
set_option linter.unusedSimpArgs false

/-! ### Alarms in memory -/
def flP : List Alm → List Value
  | [] => []
  | x :: r => Q x.1 :: U x.2 :: flP r
theorem flP_len (l : List Alm) : (flP l).length = l.length * 2 := by
  induction l with
  | nil => rfl
  | cons x r ih => simp only [flP, List.length_cons, ih]; omega
theorem flP_app (a b : List Alm) : flP (a ++ b) = flP a ++ flP b := by
  induction a with
  | nil => rfl
  | cons x r ih => simp only [List.cons_append, flP, ih]
theorem flP_at : ∀ {l : List Alm} {i : Nat} {x : Alm}, l[i]? = some x → (flP l)[i * 2]? = some (Q x.1) ∧ (flP l)[i * 2 + 1]? = some (U x.2)
  | [], i, x, h => by simp at h
  | y :: r, 0, x, h => by simp at h; subst h; exact ⟨rfl, rfl⟩
  | y :: r, i + 1, x, h => by
    rw [show (i + 1) * 2 = i * 2 + 2 by omega]
    exact flP_at (l := r) (by simpa using h)
theorem flP_set : ∀ (l : List Alm) (i : Nat) (x : Alm), flP (l.set i x) = ((flP l).set (i * 2) (Q x.1)).set (i * 2 + 1) (U x.2)
  | [], i, x => by simp [flP]
  | y :: r, 0, x => by simp [flP]
  | y :: r, i + 1, x => by
    rw [show (i + 1) * 2 = i * 2 + 2 by omega]
    simp only [List.set_cons_succ, flP, flP_set r i x]
theorem own_sl {w : World} {b E k n : Nat} {v : Value} {xs : List Value} (h : w.ownsRow b E k v n xs) : ∃ a cc, v = .slice a n cc := by
  rcases h.2 with ⟨h1, h0⟩ | ⟨g, cap, cur, h1, _⟩
  · exact ⟨none, 0, by rw [h0]; exact h1⟩
  · exact ⟨_, _, h1⟩
theorem own_some {w : World} {b e k n : Nat} {v : Value} {xs : List Value} (h : w.ownsRow b e k v n xs) (hn : 0 < n) : ∃ g c, v = .slice (some ⟨g, 0, none⟩) n c := by
  rcases h.2 with ⟨_, h0⟩ | ⟨g, cap, cur, h1, _⟩
  · omega
  · exact ⟨g, cap, h1⟩
theorem cell_set_off {w : World} {B i j : Nat} {v u : Value} (h : w.cell? ⟨B, i, none⟩ = some u) (hij : j ≠ i) : (w.setCell ⟨B, j, none⟩ v).cell? ⟨B, i, none⟩ = some u := by
  rw [World.cell?_setCell_other _ _ _ _ (by intro e; injection e with e1 e2 e3; exact hij e2)]
  exact h
theorem cell_set_on {w : World} {B i : Nat} {v u : Value} (h : w.cell? ⟨B, i, none⟩ = some u) : (w.setCell ⟨B, i, none⟩ v).cell? ⟨B, i, none⟩ = some v := World.cell?_setCell_same _ _ _ h
abbrev cP (B : Nat) : Value := .pointer (some ⟨B, 0, none⟩)
/-- the numbers of alarms -/
def AlOK (G : Nat) (al : List Alm) : Prop := ∀ x ∈ al, x.1 ≤ G + 1 ∧ x.2 ≤ G
/-- A clock: its block B, the slice of its alarms, what it holds. -/
structure Ck (w : World) (B : Nat) (v : Value) (G L V : Nat) (al : List Alm) : Prop where
  o : w.heap[B]? = some (.cells #[U G, U L, U V, v] 158)
  p : w.ownsRow 0 147 2 v al.length (flP al)
  d : v.ownBlock ≠ some B
  b : 1 ≤ G ∧ G ≤ 2147483647 ∧ 1 ≤ L ∧ L ≤ G ∧ V ≤ G
  n : al.length ≤ 64
  x : AlOK G al
  a : ∃ g c, v = .slice (some ⟨g, 0, none⟩) al.length c
def Cb (B : Nat) (v : Value) (b : Nat) : Prop := b = B ∨ v.ownBlock = some b
section
variable {w w' : World} {B G L V : Nat} {v : Value} {al : List Alm}
theorem Ck.lt (h : Ck w B v G L V al) {b : Nat} (hb : Cb B v b) : b < w.heap.size := by
  rcases hb with rfl | e
  · exact heap_lt h.o
  · exact (h.p.lt b e).2
theorem Ck.keptZ (h : Ck w B v G L V al) {M : Nat → Prop} (hf : Fz M w w') (hM : ∀ b, Cb B v b → ¬ M b) : Ck w' B v G L V al :=
  ⟨hf.heap h.o (hM _ (.inl rfl)), hf.own h.p (fun g e => hM g (.inr e)), h.d, h.b, h.n, h.x, h.a⟩
theorem Ck.below (h : Ck w B v G L V al) (hb : Below w.heap.size w w') : Ck w' B v G L V al := h.keptZ (M := fun _ => False) (Fz.of_below hb) (fun _ _ e => e)
theorem Ck.cells (h : Ck w B v G L V al) : w.cell? ⟨B, 0, none⟩ = some (U G) ∧ w.cell? ⟨B, 1, none⟩ = some (U L) ∧ w.cell? ⟨B, 2, none⟩ = some (U V) ∧ w.cell? ⟨B, 3, none⟩ = some v := by
  refine ⟨?_, ?_, ?_, ?_⟩ <;> (rw [cell_of_row w B _ _ _ (0, 0) h.o]; rfl)
theorem Ck.frz (h : Ck w B v G L V al) (j : Nat) : w.frozen? ⟨B, j, none⟩ = false := frozen_of_row w B j _ _ h.o
/-- what an alarm's place holds -/
theorem Ck.at (h : Ck w B v G L V al) {k : Nat} {x : Alm} (hx : al[k]? = some x) : ∃ g c, v = .slice (some ⟨g, 0, none⟩) al.length c ∧ w.cell? ⟨g, k * 2, none⟩ = some (Q x.1) ∧ w.cell? ⟨g, k * 2 + 1, none⟩ = some (U x.2) ∧ ∀ j, w.frozen? ⟨g, j, none⟩ = false := by
  have hk : k < al.length := (List.getElem?_eq_some_iff.1 hx).1
  have h0 : 0 < al.length := by omega
  obtain ⟨g, c, rfl⟩ := own_some h.p h0
  obtain ⟨e1, e2⟩ := flP_at hx
  exact ⟨g, c, rfl, by rw [h.p.cellAt _ (by omega)]; exact e1, by rw [h.p.cellAt _ (by omega)]; exact e2, h.p.frozenAt⟩
/-- a row of alarms of which one is written over -/
theorem row_set {w : World} {b g n c k : Nat} {al : List Alm} (h : w.ownsRow b 147 2 (.slice (some ⟨g, 0, none⟩) n c) n (flP al)) (y : Alm) : ((w.setCell ⟨g, k * 2, none⟩ (Q y.1)).setCell ⟨g, k * 2 + 1, none⟩ (U y.2)).ownsRow b 147 2 (.slice (some ⟨g, 0, none⟩) n c) n (flP (al.set k y)) := by
  rw [flP_set]
  exact (((h.stored (k * 2) (Q y.1)).1).stored (k * 2 + 1) (U y.2)).1
theorem row_left {w : World} {b g n c k : Nat} {al : List Alm} {x : Alm} (hx : al[k]? = some x) (h : w.ownsRow b 147 2 (.slice (some ⟨g, 0, none⟩) n c) n (flP al)) (y : Nat) : (w.setCell ⟨g, k * 2, none⟩ (Q y)).ownsRow b 147 2 (.slice (some ⟨g, 0, none⟩) n c) n (flP (al.set k (y, x.2))) := by
  have h1 := (h.stored (k * 2) (Q y)).1
  rw [flP_set, set_self (l := (flP al).set (k * 2) (Q y)) (a := U x.2)]
  · exact h1
  · rw [List.getElem?_set_ne (by omega)]
    exact (flP_at hx).2
theorem fz_set2 (w : World) (g i j : Nat) (u v : Value) : Fz (fun b => b = g) w ((w.setCell ⟨g, i, none⟩ u).setCell ⟨g, j, none⟩ v) := ((Fz.refl (fun b => b = g) w).set (.inl rfl) i u).set (.inl rfl) j v
theorem AlOK.set {G : Nat} {al : List Alm} (h : AlOK G al) {k : Nat} {y : Alm} (hy : y.1 ≤ G + 1 ∧ y.2 ≤ G) : AlOK G (al.set k y) := fun x hx => by
  rcases List.mem_or_eq_of_mem_set hx with hx | rfl
  · exact h x hx
  · exact hy
theorem Ck.put {g c : Nat} (h : Ck w B (.slice (some ⟨g, 0, none⟩) al.length c) G L V al) (k : Nat) (y : Alm) (hy : y.1 ≤ G + 1 ∧ y.2 ≤ G) : Ck ((w.setCell ⟨g, k * 2, none⟩ (Q y.1)).setCell ⟨g, k * 2 + 1, none⟩ (U y.2)) B (.slice (some ⟨g, 0, none⟩) al.length c) G L V (al.set k y) := by
  have hf := fz_set2 w g (k * 2) (k * 2 + 1) (Q y.1) (U y.2)
  have hd : B ≠ g := fun e => h.d (by rw [e]; rfl)
  exact ⟨hf.heap h.o hd, by simpa using row_set h.p y, h.d, h.b, by simpa using h.n, h.x.set hy, by rw [List.length_set]; exact h.a⟩
/-! ### Small calls -/
theorem none_any (h : Ck w B v G L V al) : Calls Tryz.prog 85 #[cP B] w fun e w' => e = .returned (.bool false) ∧ w = w' := by
  obtain ⟨c0, c1, c2, c3⟩ := h.cells
  have hb := h.b.1
  have h0 : ¬ ((G : Int) = 0) := by omega
  go_enter Tryz.func85, Tryz.ntmps85
  go_wp2
  go_ret
  exact ⟨ret_bool (beq_eq_false_iff_ne.2 h0), rfl⟩
theorem none_nil (w : World) : Calls Tryz.prog 85 #[.pointer none] w fun e w' => e = .returned (.bool true) ∧ w = w' := by
  go_enter Tryz.func85, Tryz.ntmps85
  go_wp2
  go_ret
  exact ⟨rfl, rfl⟩
theorem none_zero (w : World) (B : Nat) (c0 : w.cell? ⟨B, 0, none⟩ = some (U 0)) : Calls Tryz.prog 85 #[cP B] w fun e w' => e = .returned (.bool true) ∧ w = w' := by
  go_enter Tryz.func85, Tryz.ntmps85
  go_wp2
  go_ret
  exact ⟨rfl, rfl⟩
theorem Value_any (h : Ck w B v G L V al) : Calls Tryz.prog 59 #[cP B] w fun e w' => e = .returned (U V) ∧ w = w' := by
  obtain ⟨c0, c1, c2, c3⟩ := h.cells
  have hN := none_any h
  go_enter Tryz.func59, Tryz.ntmps59
  go_wp2_with (first | (go_at_call 85; refine hN.mono ?_; rintro e w1 ⟨rfl, rfl⟩))
  go_ret
  exact ⟨rfl, rfl⟩
theorem snone_any (w : World) (g k : Nat) (n : Nat) (hc : w.cell? ⟨g, k, none⟩ = some (Q n)) : Calls Tryz.prog 118 #[.pointer (some ⟨g, k, none⟩)] w fun e w' => e = .returned (.bool (decide (n = 0))) ∧ w = w' := by
  by_cases h0 : n = 0
  · subst h0
    go_enter Tryz.func118, Tryz.ntmps118
    go_wp2
    go_ret
    exact ⟨rfl, rfl⟩
  · have h1 : ¬ ((n : Int) = 0) := by omega
    rw [show decide (n = 0) = false by simpa using h0]
    go_enter Tryz.func118, Tryz.ntmps118
    go_wp2
    go_ret
    exact ⟨ret_bool (beq_eq_false_iff_ne.2 h1), rfl⟩
theorem find_out (h : Ck w B v G L V al) (t : Int) (ht : t < 0 ∨ (al.length : Int) ≤ t) : Calls Tryz.prog 117 #[cP B, I t] w fun e w' => e = .returned (.tuple #[.pointer none, I 3]) ∧ w = w' := by
  obtain ⟨c0, c1, c2, c3⟩ := h.cells
  obtain ⟨a, cc, rfl⟩ := own_sl h.p
  have hN := none_any h
  by_cases h0 : t < 0
  · go_enter Tryz.func117, Tryz.ntmps117
    go_wp2_with (first | (go_at_call 85; refine hN.mono ?_; rintro e w1 ⟨rfl, rfl⟩))
    go_ret2
    exact ⟨rfl, rfl⟩
  · have h1 : (al.length : Int) ≤ t := by omega
    go_enter Tryz.func117, Tryz.ntmps117
    go_wp2_with (first | (go_at_call 85; refine hN.mono ?_; rintro e w1 ⟨rfl, rfl⟩))
    go_ret2
    exact ⟨rfl, rfl⟩
theorem find_ok {g c : Nat} (h : Ck w B (.slice (some ⟨g, 0, none⟩) al.length c) G L V al) (k : Nat) (hk : k < al.length) : Calls Tryz.prog 117 #[cP B, I k] w fun e w' => e = .returned (.tuple #[.pointer (some ⟨g, k * 2, none⟩), I 0]) ∧ w = w' := by
  obtain ⟨c0, c1, c2, c3⟩ := h.cells
  have hN := none_any h
  have h0 : ¬ ((k : Int) < 0) := by omega
  have h1 : ¬ ((al.length : Int) ≤ k) := by omega
  have h2 : (k : Int) < al.length := by omega
  go_enter Tryz.func117, Tryz.ntmps117
  go_wp2_with (first | (go_at_call 85; refine hN.mono ?_; rintro e w1 ⟨rfl, rfl⟩))
  go_ret2
  exact ⟨rfl, rfl⟩
end
/-- what is answered of an alarm that must be set -/
def getS (al : List Alm) (t : Int) : Int := if t < 0 ∨ (al.length : Int) ≤ t then 3 else if (al.getD t.toNat (0, 0)).1 = 0 then 5 else 0
theorem getS_zero {al : List Alm} {t : Int} (h : getS al t = 0) : ∃ (k : Nat) (x : Alm), t = k ∧ k < al.length ∧ al[k]? = some x ∧ x.1 ≠ 0 := by
  unfold getS at h
  split at h
  · omega
  · have hk : t.toNat < al.length := by omega
    refine ⟨t.toNat, al[t.toNat], by omega, hk, List.getElem?_eq_getElem hk, ?_⟩
    split at h
    · omega
    · rename_i h2
      rw [List.getD_eq_getElem?_getD, List.getElem?_eq_getElem hk] at h2
      exact h2
section
variable {w w' : World} {B G L V : Nat} {v : Value} {al : List Alm}
theorem findSet_no (h : Ck w B v G L V al) (t : Int) (ht : getS al t ≠ 0) : Calls Tryz.prog 74 #[cP B, I t] w fun e w' => e = .returned (.tuple #[.pointer none, I (getS al t)]) ∧ w = w' := by
  by_cases h0 : t < 0 ∨ (al.length : Int) ≤ t
  · rw [show getS al t = 3 by unfold getS; rw [if_pos h0]]
    have hF := find_out h t h0
    go_enter Tryz.func74, Tryz.ntmps74
    go_wp2_with (first | (go_at_call 117; refine hF.mono ?_; rintro e w1 ⟨rfl, rfl⟩))
    go_ret2
    exact ⟨rfl, rfl⟩
  · have e1 : getS al t = if (al.getD t.toNat (0, 0)).1 = 0 then 5 else 0 := by unfold getS; rw [if_neg h0]
    obtain ⟨k, rfl⟩ := Int.eq_ofNat_of_zero_le (show 0 ≤ t by omega)
    have hk : k < al.length := by omega
    have hx : al[k]? = some al[k] := List.getElem?_eq_getElem hk
    generalize al[k] = x at hx
    rw [e1, Int.toNat_natCast, List.getD_eq_getElem?_getD, hx, Option.getD_some] at ht ⊢
    by_cases hz : x.1 = 0
    · rw [if_pos hz]
      obtain ⟨g, c, rfl, q1, q2, q3⟩ := h.at hx
      have hF := find_ok h k hk
      have hS := snone_any w g (k * 2) x.1 q1
      rw [show decide (x.1 = 0) = true by simpa using hz] at hS
      clear ht hz
      go_enter Tryz.func74, Tryz.ntmps74
      go_wp2_with (first | (go_at_call 117; refine hF.mono ?_; rintro e w1 ⟨rfl, rfl⟩) | (go_at_call 118; refine hS.mono ?_; rintro e w1 ⟨rfl, rfl⟩))
      go_ret2
      exact ⟨rfl, rfl⟩
    · rw [if_neg hz] at ht
      exact absurd rfl ht
theorem findSet_ok {g c : Nat} (h : Ck w B (.slice (some ⟨g, 0, none⟩) al.length c) G L V al) (k : Nat) {x : Alm} (hx : al[k]? = some x) (hz : x.1 ≠ 0) : Calls Tryz.prog 74 #[cP B, I k] w fun e w' => e = .returned (.tuple #[.pointer (some ⟨g, k * 2, none⟩), I 0]) ∧ w = w' := by
  have hk : k < al.length := (List.getElem?_eq_some_iff.1 hx).1
  obtain ⟨g', c', e, q1, q2, q3⟩ := h.at hx
  cases e
  have hF := find_ok h k hk
  have hS := snone_any w g (k * 2) x.1 q1
  rw [show decide (x.1 = 0) = false by simpa using hz] at hS
  clear hz
  go_enter Tryz.func74, Tryz.ntmps74
  go_wp2_with (first | (go_at_call 117; refine hF.mono ?_; rintro e w1 ⟨rfl, rfl⟩) | (go_at_call 118; refine hS.mono ?_; rintro e w1 ⟨rfl, rfl⟩))
  go_ret2
  exact ⟨rfl, rfl⟩
def lftN (al : List Alm) (t : Int) : Nat := if getS al t = 0 then (al.getD t.toNat (0, 0)).1 else 0
def cycN (al : List Alm) (t : Int) : Nat := if getS al t = 0 then (al.getD t.toNat (0, 0)).2 else 0
def canL (al : List Alm) (t : Int) : List Alm := if getS al t = 0 then al.set t.toNat (0, 0) else al
theorem Left_any (h : Ck w B v G L V al) (t : Int) : Calls Tryz.prog 38 #[cP B, I t] w fun e w' => e = .returned (.tuple #[Q (lftN al t : Nat), I (getS al t)]) ∧ w = w' := by
  by_cases hs : getS al t = 0
  · unfold lftN
    rw [hs, if_pos rfl]
    obtain ⟨k, x, rfl, hk, hx, hz⟩ := getS_zero hs
    rw [Int.toNat_natCast, List.getD_eq_getElem?_getD, hx, Option.getD_some]
    obtain ⟨g, c, rfl, q1, q2, q3⟩ := h.at hx
    have hF := findSet_ok h k hx hz
    clear hs
    go_enter Tryz.func38, Tryz.ntmps38
    go_wp2_with (first | (go_at_call 74; refine hF.mono ?_; rintro e w1 ⟨rfl, rfl⟩))
    go_ret2
    exact ⟨rfl, rfl⟩
  · unfold lftN
    rw [if_neg hs]
    have hF := findSet_no h t hs
    generalize getS al t = s at *
    go_enter Tryz.func38, Tryz.ntmps38
    go_wp2_with (first | (go_at_call 74; refine hF.mono ?_; rintro e w1 ⟨rfl, rfl⟩))
    go_ret2
    exact ⟨rfl, rfl⟩
theorem Cycle_any (h : Ck w B v G L V al) (t : Int) : Calls Tryz.prog 122 #[cP B, I t] w fun e w' => e = .returned (.tuple #[U (cycN al t : Nat), I (getS al t)]) ∧ w = w' := by
  by_cases hs : getS al t = 0
  · unfold cycN
    rw [hs, if_pos rfl]
    obtain ⟨k, x, rfl, hk, hx, hz⟩ := getS_zero hs
    rw [Int.toNat_natCast, List.getD_eq_getElem?_getD, hx, Option.getD_some]
    obtain ⟨g, c, rfl, q1, q2, q3⟩ := h.at hx
    have hF := findSet_ok h k hx hz
    clear hs
    go_enter Tryz.func122, Tryz.ntmps122
    go_wp2_with (first | (go_at_call 74; refine hF.mono ?_; rintro e w1 ⟨rfl, rfl⟩))
    go_ret2
    exact ⟨rfl, rfl⟩
  · unfold cycN
    rw [if_neg hs]
    have hF := findSet_no h t hs
    generalize getS al t = s at *
    go_enter Tryz.func122, Tryz.ntmps122
    go_wp2_with (first | (go_at_call 74; refine hF.mono ?_; rintro e w1 ⟨rfl, rfl⟩))
    go_ret2
    exact ⟨rfl, rfl⟩
theorem Cancel_any (h : Ck w B v G L V al) (t : Int) : Calls Tryz.prog 33 #[cP B, I t] w fun e w' => e = .returned (I (getS al t)) ∧ Ck w' B v G L V (canL al t) ∧ Fz (Cb B v) w w' := by
  by_cases hs : getS al t = 0
  · unfold canL
    rw [hs, if_pos rfl]
    obtain ⟨k, x, rfl, hk, hx, hz⟩ := getS_zero hs
    rw [Int.toNat_natCast]
    obtain ⟨g, c, rfl, q1, q2, q3⟩ := h.at hx
    have hF := findSet_ok h k hx hz
    have hP := h.put k (0, 0) ⟨by omega, by omega⟩
    have hZ : Fz (Cb B (.slice (some ⟨g, 0, none⟩) al.length c)) w ((w.setCell ⟨g, k * 2, none⟩ (Q 0)).setCell ⟨g, k * 2 + 1, none⟩ (U 0)) := (fz_set2 w g (k * 2) (k * 2 + 1) (Q 0) (U 0)).mono (by rintro b rfl; exact .inr rfl)
    have q4 : (w.setCell ⟨g, k * 2, none⟩ (Q 0)).cell? ⟨g, k * 2 + 1, none⟩ = some (U x.2) := cell_set_off q2 (by omega)
    clear hs
    go_enter Tryz.func33, Tryz.ntmps33
    go_wp2_with (first | (go_at_call 74; refine hF.mono ?_; rintro e w1 ⟨rfl, rfl⟩))
    go_ret
    exact ⟨rfl, hP, hZ⟩
  · unfold canL
    rw [if_neg hs]
    have hF := findSet_no h t hs
    generalize getS al t = s at *
    go_enter Tryz.func33, Tryz.ntmps33
    go_wp2_with (first | (go_at_call 74; refine hF.mono ?_; rintro e w1 ⟨rfl, rfl⟩))
    go_ret
    exact ⟨rfl, h, Fz.refl _ _⟩
end
end Go.Proofs.YthhckhifaolmkaaGreat.Cl

namespace Go.Proofs.YthhckhifaolmkaaGreat.Cl
open Go.RowKit Go.Shelf Go.Sort
set_option linter.unusedVariables false
set_option linter.unusedSimpArgs false

/-! ### What alarms may be set to -/
def mcB (L G cy : Nat) : Bool := decide (cy = 0) || (decide (L ≤ cy) && decide (cy ≤ G))
section
variable {w w' : World} {B G L V : Nat} {v : Value} {al : List Alm}
theorem mayCycle_any (h : Ck w B v G L V al) (cy : Nat) : Calls Tryz.prog 120 #[cP B, U cy] w fun e w' => e = .returned (.bool (mcB L G cy)) ∧ w = w' := by
  obtain ⟨c0, c1, c2, c3⟩ := h.cells
  unfold mcB
  by_cases h0 : cy = 0
  · subst h0
    go_enter Tryz.func120, Tryz.ntmps120
    go_wp2
    go_ret
    exact ⟨rfl, rfl⟩
  · have h0I : ¬ ((cy : Int) = 0) := by omega
    by_cases h1 : L ≤ cy
    · have h1I : (L : Int) ≤ cy := by omega
      by_cases h2 : cy ≤ G
      · have h2I : (cy : Int) ≤ G := by omega
        go_enter Tryz.func120, Tryz.ntmps120
        go_wp2
        go_ret
        exact ⟨ret_bool (by simp [h0, h1, h2]), rfl⟩
      · have h2I : ¬ (cy : Int) ≤ G := by omega
        go_enter Tryz.func120, Tryz.ntmps120
        go_wp2
        go_ret
        exact ⟨ret_bool (by simp [h0, h1, h2]), rfl⟩
    · have h1I : ¬ (L : Int) ≤ cy := by omega
      go_enter Tryz.func120, Tryz.ntmps120
      go_wp2
      go_ret
      exact ⟨ret_bool (by simp [h0, h1]), rfl⟩
def relB (L G f cy : Nat) : Bool := decide (1 ≤ f) && (decide (f ≤ G) && mcB L G cy)
def absB (L G f cy : Nat) : Bool := decide (f ≤ G) && mcB L G cy
def staB (G f cy : Nat) : Bool := decide (1 ≤ f) && (decide (f ≤ G + 1) && decide (cy ≤ G))
theorem fromNow_any (h : Ck w B v G L V al) (f cy : Nat) (hf : f < 4294967296) : Calls Tryz.prog 73 #[cP B, U f, U cy] w fun e w' => e = .returned (.tuple #[Q f, .bool (relB L G f cy)]) ∧ Below w.heap.size w w' := by
  obtain ⟨c0, c1, c2, c3⟩ := h.cells
  have hM := mayCycle_any h cy
  unfold relB
  by_cases h0 : 1 ≤ f
  · have h0I : (1 : Int) ≤ f := by omega
    by_cases h1 : f ≤ G
    · have h1I : (f : Int) ≤ G := by omega
      rw [show (decide (1 ≤ f) && (decide (f ≤ G) && mcB L G cy)) = mcB L G cy by simp [h0, h1]]
      generalize mcB L G cy = m at *
      clear h0 h1
      go_enter Tryz.func73, Tryz.ntmps73
      go_wp2_with (first | (go_at_call 120; refine hM.mono ?_; rintro e w1 ⟨rfl, rfl⟩))
      go_ret2
      exact ⟨rfl, Below.refl _ _⟩
    · have h1I : ¬ (f : Int) ≤ G := by omega
      rw [show (decide (1 ≤ f) && (decide (f ≤ G) && mcB L G cy)) = false by simp [h0, h1]]
      clear h0 h1
      go_enter Tryz.func73, Tryz.ntmps73
      go_wp2
      go_ret2
      exact ⟨rfl, Below.refl _ _⟩
  · have h0I : ¬ (1 : Int) ≤ f := by omega
    rw [show (decide (1 ≤ f) && (decide (f ≤ G) && mcB L G cy)) = false by simp [h0]]
    clear h0
    go_enter Tryz.func73, Tryz.ntmps73
    go_wp2
    go_ret2
    exact ⟨rfl, Below.refl _ _⟩
theorem atValue_any (h : Ck w B v G L V al) (f cy : Nat) (hf : f < 4294967296) : Calls Tryz.prog 72 #[cP B, U f, U cy] w fun e w' => e = .returned (.tuple #[Q (untN G V f : Nat), .bool (absB L G f cy)]) ∧ Below w.heap.size w w' := by
  have hb := h.b
  have cU : ∀ d os, Calls Tryz.prog 119 #[U G, U V, U f] (grow (redrawn w d) os) fun e w'' => e = .returned (Q (untN G V f : Nat)) ∧ ∃ p : Regrown, w'' = grow (redrawn w p.d) p.os := fun d os => Calls.regrown_of ((Until_any _ G V f (by omega) (by omega) hf).mono (fun e w' h => ⟨h.1, by rw [h.2]; exact Below.refl _ _⟩))
  have cM : ∀ d os, Calls Tryz.prog 120 #[cP B, U cy] (grow (redrawn w d) os) fun e w'' => e = .returned (.bool (mcB L G cy)) ∧ ∃ p : Regrown, w'' = grow (redrawn w p.d) p.os := fun d os => Calls.regrown_of ((mayCycle_any (h.below (below_regrown w d os)) cy).mono (fun e w' h => ⟨h.1, by rw [h.2]; exact Below.refl _ _⟩))
  obtain ⟨c0, c1, c2, c3⟩ := h.cells
  have x0 := cell_regrown c0
  have x2 := cell_regrown c2
  unfold absB
  by_cases h1 : f ≤ G
  · have h1I : (f : Int) ≤ G := by omega
    have h1D : decide ((f : Int) ≤ G) = true := by simpa using h1I
    rw [show (decide (f ≤ G) && mcB L G cy) = mcB L G cy by simp [h1]]
    generalize mcB L G cy = m at *
    generalize untN G V f = un at *
    clear h1 c0 c1 c2 c3
    go_enter Tryz.func72, Tryz.ntmps72
    go_wp2
    refine wp_region_quiet_below (by kernel_rfl) (by kernel_rfl) ?_
    repeat (go_big_quiet_step (first | exact cU _ _ | exact cM _ _))
    refine wpQuiet_nil ?_
    rintro _ ⟨⟨dq, osq⟩, rfl⟩
    dsimp only
    have b0 := below_regrown w dq osq
    generalize grow (redrawn w dq) osq = w2 at *
    go_wp2
    go_ret2
    exact ⟨rfl, b0⟩
  · have h1I : ¬ (f : Int) ≤ G := by omega
    have h1D : decide ((f : Int) ≤ G) = false := by simpa using h1I
    have h1N : decide (f ≤ G) = false := by simpa using h1
    rw [show (decide (f ≤ G) && mcB L G cy) = false by simp [h1]]
    generalize untN G V f = un at *
    clear h1 c0 c1 c2 c3
    go_enter Tryz.func72, Tryz.ntmps72
    go_wp2
    refine wp_region_quiet_below (by kernel_rfl) (by kernel_rfl) ?_
    repeat (go_big_quiet_step (first | exact cU _ _ | exact cM _ _))
    refine wpQuiet_nil ?_
    rintro _ ⟨⟨dq, osq⟩, rfl⟩
    dsimp only
    have b0 := below_regrown w dq osq
    generalize grow (redrawn w dq) osq = w2 at *
    go_wp2
    go_ret2
    exact ⟨rfl, b0⟩
theorem fromStart_any (h : Ck w B v G L V al) (f cy : Nat) (hf : f < 4294967296) : Calls Tryz.prog 121 #[cP B, U f, U cy] w fun e w' => e = .returned (.tuple #[Q f, .bool (staB G f cy)]) ∧ Below w.heap.size w w' := by
  have hb := h.b
  have hG : G < 4294967296 := by omega
  have cR : ∀ d os, Calls Tryz.prog 148 #[U G] (grow (redrawn w d) os) fun e w'' => e = .returned (Q ((G : Int) + 1)) ∧ ∃ p : Regrown, w'' = grow (redrawn w p.d) p.os := fun d os => Calls.regrown_of ((round_any _ G hG).mono (fun e w' h => ⟨h.1, by rw [h.2]; exact Below.refl _ _⟩))
  obtain ⟨c0, c1, c2, c3⟩ := h.cells
  have x0 := cell_regrown c0
  clear c0 c1 c2 c3 hb
  unfold staB
  by_cases h0 : 1 ≤ f
  · have h0I : (1 : Int) ≤ f := by omega
    have h0D : decide ((1 : Int) ≤ f) = true := by simpa using h0I
    by_cases h1 : f ≤ G + 1
    · have h1I : (f : Int) ≤ (G : Int) + 1 := by omega
      have h1D : decide ((f : Int) ≤ (G : Int) + 1) = true := by simpa using h1I
      by_cases h2 : cy ≤ G
      · have h2I : (cy : Int) ≤ G := by omega
        have h2D : decide ((cy : Int) ≤ G) = true := by simpa using h2I
        rw [show (decide (1 ≤ f) && (decide (f ≤ G + 1) && decide (cy ≤ G))) = true by simp [h0, h1, h2]]
        clear h0 h1 h2
        go_enter Tryz.func121, Tryz.ntmps121
        go_wp2
        refine wp_region_quiet_below (by kernel_rfl) (by kernel_rfl) ?_
        repeat (go_big_quiet_step (first | exact cR _ _))
        refine wpQuiet_nil ?_
        rintro _ ⟨⟨dq, osq⟩, rfl⟩
        dsimp only
        have b0 := below_regrown w dq osq
        generalize grow (redrawn w dq) osq = w2 at *
        go_wp2
        go_ret2
        exact ⟨rfl, b0⟩
      · have h2I : ¬ (cy : Int) ≤ G := by omega
        have h2D : decide ((cy : Int) ≤ G) = false := by simpa using h2I
        have h2N : decide (cy ≤ G) = false := by simpa using h2
        rw [show (decide (1 ≤ f) && (decide (f ≤ G + 1) && decide (cy ≤ G))) = false by simp [h0, h1, h2]]
        clear h0 h1 h2
        go_enter Tryz.func121, Tryz.ntmps121
        go_wp2
        refine wp_region_quiet_below (by kernel_rfl) (by kernel_rfl) ?_
        repeat (go_big_quiet_step (first | exact cR _ _))
        refine wpQuiet_nil ?_
        rintro _ ⟨⟨dq, osq⟩, rfl⟩
        dsimp only
        have b0 := below_regrown w dq osq
        generalize grow (redrawn w dq) osq = w2 at *
        go_wp2
        go_ret2
        exact ⟨rfl, b0⟩
    · have h1I : ¬ (f : Int) ≤ (G : Int) + 1 := by omega
      have h1D : decide ((f : Int) ≤ (G : Int) + 1) = false := by simpa using h1I
      have h1N : decide (f ≤ G + 1) = false := by simpa using h1
      rw [show (decide (1 ≤ f) && (decide (f ≤ G + 1) && decide (cy ≤ G))) = false by simp [h0, h1]]
      clear h0 h1
      go_enter Tryz.func121, Tryz.ntmps121
      go_wp2
      refine wp_region_quiet_below (by kernel_rfl) (by kernel_rfl) ?_
      repeat (go_big_quiet_step (first | exact cR _ _))
      refine wpQuiet_nil ?_
      rintro _ ⟨⟨dq, osq⟩, rfl⟩
      dsimp only
      have b0 := below_regrown w dq osq
      generalize grow (redrawn w dq) osq = w2 at *
      go_wp2
      go_ret2
      exact ⟨rfl, b0⟩
  · have h0I : ¬ (1 : Int) ≤ f := by omega
    have h0D : decide ((1 : Int) ≤ f) = false := by simpa using h0I
    have h0N : decide (1 ≤ f) = false := by simpa using h0
    rw [show (decide (1 ≤ f) && (decide (f ≤ G + 1) && decide (cy ≤ G))) = false by simp [h0]]
    clear h0
    go_enter Tryz.func121, Tryz.ntmps121
    go_wp2
    refine wp_region_quiet_below (by kernel_rfl) (by kernel_rfl) ?_
    repeat (go_big_quiet_step (first | exact cR _ _))
    refine wpQuiet_nil ?_
    rintro _ ⟨⟨dq, osq⟩, rfl⟩
    dsimp only
    have b0 := below_regrown w dq osq
    generalize grow (redrawn w dq) osq = w2 at *
    go_wp2
    go_ret2
    exact ⟨rfl, b0⟩
end
/-- what is answered of an alarm that is to be set -/
def setS (al : List Alm) (t : Int) (may : Bool) : Int := if t < 0 ∨ (al.length : Int) ≤ t then 3 else if (al.getD t.toNat (0, 0)).1 ≠ 0 then 7 else if may then 0 else 8
def setA (al : List Alm) (t : Int) (may : Bool) (y : Alm) : List Alm := if setS al t may = 0 then al.set t.toNat y else al
theorem setS_at {al : List Alm} {k : Nat} {x : Alm} (hx : al[k]? = some x) (may : Bool) : setS al k may = if x.1 ≠ 0 then 7 else if may then 0 else 8 := by
  have hk : k < al.length := (List.getElem?_eq_some_iff.1 hx).1
  unfold setS
  rw [if_neg (by omega), Int.toNat_natCast, List.getD_eq_getElem?_getD, hx, Option.getD_some]
section
variable {w w' : World} {B G L V : Nat} {v : Value} {al : List Alm}
set_option maxRecDepth 100000 in
theorem setBy_any (h : Ck w B v G L V al) (f : Nat) (eg : ∀ args W, (callFunc f args).run Tryz.prog W = .ok (.enter f args) W) (t : Int) (fg cy lf : Nat) (may : Bool)
    (hR : Calls Tryz.prog f #[cP B, U fg, U cy] w fun e w' => e = .returned (.tuple #[Q lf, .bool may]) ∧ Below w.heap.size w w')
    (hy : may = true → lf ≤ G + 1 ∧ cy ≤ G) :
    Calls Tryz.prog 71 #[cP B, .func (.func f) #[cP B] #[], I t, U fg, U cy] w fun e w' => e = .returned (I (setS al t may)) ∧ Ck w' B v G L V (setA al t may (lf, cy)) ∧ Fz (Cb B v) w w' := by
  unfold setA
  by_cases h0 : t < 0 ∨ (al.length : Int) ≤ t
  · have e0 : setS al t may = 3 := by unfold setS; rw [if_pos h0]
    rw [e0, if_neg (by decide)]
    have hF := find_out h t h0
    clear h0 e0 hy
    go_enter Tryz.func71, Tryz.ntmps71
    go_wp2_with (first | (go_at_call 117; refine hF.mono ?_; rintro e w1 ⟨rfl, rfl⟩))
    go_ret
    exact ⟨rfl, h, Fz.refl _ _⟩
  · obtain ⟨k, rfl⟩ := Int.eq_ofNat_of_zero_le (show 0 ≤ t by omega)
    have hk : k < al.length := by omega
    have hx : al[k]? = some al[k] := List.getElem?_eq_getElem hk
    generalize al[k] = x at hx
    rw [setS_at hx, Int.toNat_natCast]
    obtain ⟨g, c, rfl, q1, q2, q3⟩ := h.at hx
    have hF := find_ok h k hk
    have hS := snone_any w g (k * 2) x.1 q1
    by_cases hz : x.1 = 0
    · rw [show (if x.1 ≠ 0 then (7 : Int) else if may = true then 0 else 8) = if may = true then 0 else 8 by rw [if_neg (by omega)]]
      rw [show decide (x.1 = 0) = true by simpa using hz] at hS
      cases may with
      | false =>
        rw [if_neg (by decide : ¬ (false = true)), if_neg (by decide)]
        clear hz h0 hy
        go_enter Tryz.func71, Tryz.ntmps71
        go_wp2_with (first | (go_at_call 117; refine hF.mono ?_; rintro e w1 ⟨rfl, rfl⟩) | (go_at_call 118; refine hS.mono ?_; rintro e w1 ⟨rfl, rfl⟩))
        refine hR.mono ?_
        rintro e w1 ⟨rfl, b1⟩
        go_wp2
        go_ret
        exact ⟨rfl, h.below b1, Fz.of_below b1⟩
      | true =>
        rw [if_pos rfl, if_pos rfl]
        have hyy := hy rfl
        clear hz h0 hy
        go_enter Tryz.func71, Tryz.ntmps71
        go_wp2_with (first | (go_at_call 117; refine hF.mono ?_; rintro e w1 ⟨rfl, rfl⟩) | (go_at_call 118; refine hS.mono ?_; rintro e w1 ⟨rfl, rfl⟩))
        refine hR.mono ?_
        rintro e w1 ⟨rfl, b1⟩
        have h1 := h.below b1
        have hP := h1.put k (lf, cy) hyy
        have hZ : Fz (Cb B (.slice (some ⟨g, 0, none⟩) al.length c)) w ((w1.setCell ⟨g, k * 2, none⟩ (Q lf)).setCell ⟨g, k * 2 + 1, none⟩ (U cy)) := (Fz.of_below b1).trans ((fz_set2 w1 g (k * 2) (k * 2 + 1) (Q lf) (U cy)).mono (by rintro b rfl; exact .inr rfl))
        obtain ⟨g', c', e', q1', q2', q3'⟩ := h1.at hx
        cases e'
        have q4 : (w1.setCell ⟨g, k * 2, none⟩ (Q lf)).cell? ⟨g, k * 2 + 1, none⟩ = some (U x.2) := cell_set_off q2' (by omega)
        clear hR hS hF h q1 q2 q3 hx
        go_wp2
        go_ret
        exact ⟨rfl, hP, hZ⟩
    · rw [show (if x.1 ≠ 0 then (7 : Int) else if may = true then 0 else 8) = 7 by rw [if_pos hz], if_neg (by decide)]
      rw [show decide (x.1 = 0) = false by simpa using hz] at hS
      clear hz h0 hy
      go_enter Tryz.func71, Tryz.ntmps71
      go_wp2_with (first | (go_at_call 117; refine hF.mono ?_; rintro e w1 ⟨rfl, rfl⟩) | (go_at_call 118; refine hS.mono ?_; rintro e w1 ⟨rfl, rfl⟩))
      go_ret
      exact ⟨rfl, h, Fz.refl _ _⟩
theorem mcB_le {L G cy : Nat} (h : mcB L G cy = true) : cy ≤ G := by
  unfold mcB at h
  simp at h
  omega
theorem Rel_any (h : Ck w B v G L V al) (t : Int) (f cy : Nat) (hf : f < 4294967296) : Calls Tryz.prog 32 #[cP B, I t, U f, U cy] w fun e w' => e = .returned (I (setS al t (relB L G f cy))) ∧ Ck w' B v G L V (setA al t (relB L G f cy) (f, cy)) ∧ Fz (Cb B v) w w' := by
  have hS := setBy_any h 73 (enters_of Tryz.func73 (by kernel_rfl) rfl) t f cy f (relB L G f cy) (fromNow_any h f cy hf) (fun e => by unfold relB at e; simp at e; exact ⟨by omega, mcB_le e.2.2⟩)
  generalize relB L G f cy = m at *
  go_enter Tryz.func32, Tryz.ntmps32
  go_wp2_with (first | (go_at_call 71; refine hS.mono ?_; rintro e w1 ⟨rfl, k1, z1⟩))
  go_ret
  exact ⟨rfl, k1, z1⟩
theorem Abs_any (h : Ck w B v G L V al) (t : Int) (f cy : Nat) (hf : f < 4294967296) : Calls Tryz.prog 31 #[cP B, I t, U f, U cy] w fun e w' => e = .returned (I (setS al t (absB L G f cy))) ∧ Ck w' B v G L V (setA al t (absB L G f cy) (untN G V f, cy)) ∧ Fz (Cb B v) w w' := by
  have hS := setBy_any h 72 (enters_of Tryz.func72 (by kernel_rfl) rfl) t f cy (untN G V f) (absB L G f cy) (atValue_any h f cy hf) (fun e => by unfold absB at e; simp at e; exact ⟨(untN_pos G V f).2, mcB_le e.2⟩)
  generalize absB L G f cy = m at *
  go_enter Tryz.func31, Tryz.ntmps31
  go_wp2_with (first | (go_at_call 71; refine hS.mono ?_; rintro e w1 ⟨rfl, k1, z1⟩))
  go_ret
  exact ⟨rfl, k1, z1⟩
theorem Set_any (h : Ck w B v G L V al) (t : Int) (f cy : Nat) (hf : f < 4294967296) : Calls Tryz.prog 76 #[cP B, I t, U f, U cy] w fun e w' => e = .returned (I (setS al t (staB G f cy))) ∧ Ck w' B v G L V (setA al t (staB G f cy) (f, cy)) ∧ Fz (Cb B v) w w' := by
  have hS := setBy_any h 121 (enters_of Tryz.func121 (by kernel_rfl) rfl) t f cy f (staB G f cy) (fromStart_any h f cy hf) (fun e => by unfold staB at e; simp at e; exact ⟨by omega, by omega⟩)
  generalize staB G f cy = m at *
  go_enter Tryz.func76, Tryz.ntmps76
  go_wp2_with (first | (go_at_call 71; refine hS.mono ?_; rintro e w1 ⟨rfl, k1, z1⟩))
  go_ret
  exact ⟨rfl, k1, z1⟩
end
end Go.Proofs.YthhckhifaolmkaaGreat.Cl

namespace Go.Proofs.YthhckhifaolmkaaGreat.Cl
open Go.RowKit Go.Shelf Go.Sort
set_option linter.unusedVariables false
set_option linter.unusedSimpArgs false

/-! ### Rows that are made, copied, cleared -/
theorem sinfo : (Tryz.prog.info? 147).map (fun i => (i.zero, i.size, i.bytes)) = some (some (.agg #[.int .u64 0, .int .u32 0]), 2, 16) := by kernel_rfl
theorem iinfo : (Tryz.prog.info? 3).map (fun i => (i.zero, i.size, i.bytes)) = some (some (.int .i64 0), 1, 8) := by kernel_rfl
theorem fz_none {w w' : World} (h : w.grownBy w' none) (M : Nat → Prop) : Fz M w w' := ⟨h.os, h.tape, h.output, h.size, fun b hb _ => h.block b hb (by simp)⟩
theorem own_base {w : World} {b b' e k n : Nat} {v : Value} {xs : List Value} (h : w.ownsRow b e k v n xs) (hb : b' ≤ b) : w.ownsRow b' e k v n xs := by
  obtain ⟨hl, h0 | ⟨g, cap, cur, hv, hb1, hh, rr⟩⟩ := h
  · exact ⟨hl, .inl h0⟩
  · exact ⟨hl, .inr ⟨g, cap, cur, hv, by omega, hh, rr⟩⟩
theorem flP_one (l : List Alm) : ∀ v ∈ flP l, v.oneCell' = true := by
  induction l with
  | nil => intro v hv; simp [flP] at hv
  | cons x r ih =>
    intro v hv
    simp only [flP, List.mem_cons] at hv
    rcases hv with rfl | rfl | hv
    · rfl
    · rfl
    · exact ih v hv
theorem flP_zero (n : Nat) : flP (List.replicate n (0, 0)) = (madeCells (Value.agg #[.int .u64 0, .int .u32 0]).cells (n * 2)).toList := by
  apply List.ext_getElem?
  intro j
  by_cases hj : j < n * 2
  · have hz : (List.replicate n ((0, 0) : Alm))[j / 2]? = some (0, 0) := by rw [List.getElem?_replicate, if_pos (by omega)]
    obtain ⟨h1, h2⟩ := flP_at hz
    have hr : (madeCells (Value.agg #[.int .u64 0, .int .u32 0]).cells (n * 2)).toList[j]? = some ((#[Value.int .u64 0, .int .u32 0] : Array Value)[j % 2]!) := by
      simp [madeCells, Value.cells, hj]
    rw [hr]
    rcases (by omega : j = j / 2 * 2 ∨ j = j / 2 * 2 + 1) with e | e
    · rw [e, h1, show j / 2 * 2 % 2 = 0 by omega]; rfl
    · rw [e, h2, show (j / 2 * 2 + 1) % 2 = 1 by omega]; rfl
  · rw [List.getElem?_eq_none (by rw [flP_len, List.length_replicate]; omega), List.getElem?_eq_none (by simp [madeCells]; omega)]
/-- a store over all of a row that is one's own -/
theorem own_over {P : Program} {w : World} {b e k g n cap : Nat} {xs vs : List Value} (h : w.ownsRow b e k (.slice (some ⟨g, 0, none⟩) n cap) n xs) (hl : vs.length = n * k) (h1 : ∀ v ∈ vs, v.oneCell' = true) :
    ∃ w', (storeCells ⟨g, 0, none⟩ vs 0).run P w = .ok () w' ∧ w'.ownsRow b e k (.slice (some ⟨g, 0, none⟩) n cap) n vs ∧ Fz (fun x => x = g) w w' := by
  rcases h.2 with ⟨h', _⟩ | ⟨g', cap', cur, h', hb, hg, hnc, hcm, hcs, htake⟩
  · simp at h'
  · simp only [Value.slice.injEq, Option.some.injEq, Addr.mk.injEq, and_true, true_and] at h'
    obtain ⟨rfl, rfl⟩ := h'
    have hle : n * k ≤ cap * k := Nat.mul_le_mul_right _ hnc
    have hr := run_storeCells_at P g 0 e vs 0 cur w hg (by rw [hl, hcs]; omega) h1
    refine ⟨_, hr, ⟨hl, .inr ⟨g, cap, _, rfl, hb, setRow_heap w g cur _ e _ hg, hnc, hcm, ?_, ?_⟩⟩, ⟨rfl, rfl, rfl, by simp [World.setRow], fun i _ hi => setRow_other w g i _ hi⟩⟩
    · simp only [List.size_toArray, List.length_append, List.length_take, List.length_drop, Array.length_toList]
      rw [hl, hcs]; omega
    · simp only [Nat.add_zero, List.take_zero, List.nil_append]
      rw [← hl]
      exact List.take_left
theorem run_copy_own {P : Program} {w : World} {b b2 e k g n cap : Nat} {v : Value} {xs ys : List Value} (dT ty : TypeId) (hu : P.underlying dT = some (.slice e)) (hs : (P.info? e).map (·.size) = some k)
    (h : w.ownsRow b e k (.slice (some ⟨g, 0, none⟩) n cap) n xs) (hv : w.ownsRow b2 e k v n ys) (h1 : ∀ v ∈ ys, v.oneCell' = true) :
    ∃ w', (Builtin.copy_ #[dT, dT] ty #[.slice (some ⟨g, 0, none⟩) n cap, v]).run P w = .ok (goInt n) w' ∧ w'.ownsRow b e k (.slice (some ⟨g, 0, none⟩) n cap) n ys ∧ Fz (fun x => x = g) w w' := by
  obtain ⟨w', hst, ho, hf⟩ := own_over (P := P) h hv.1 h1
  refine ⟨w', ?_, ho, hf⟩
  cases hq : P.info? e with
  | none => simp [hq] at hs
  | some i =>
    have hi : i.size = k := by simpa [hq] using hs
    rcases hv.2 with ⟨rfl, rfl⟩ | ⟨gv, capv, curv, rfl, _⟩
    · have hy : ys = [] := List.eq_nil_of_length_eq_zero (by have := hv.1; simpa using this)
      subst hy
      have e1 : w' = w := by simp [storeCells] at hst; exact hst.symm
      subst e1
      simp [Builtin.copy_, run_underlying hu, Builtin.lenOf, Builtin.firstCells, sizeOf, typeInfo, hq, storeCells]
    · have hl := run_loadCells_list (P := P) w ⟨gv, 0, none⟩ ys (hv.cells rfl)
      rw [hv.1] at hl
      simp [Builtin.copy_, run_underlying hu, Builtin.lenOf, Builtin.firstCells, sizeOf, typeInfo, hq, hi, hl, hst]
theorem zero_made (z : Array Value) (n : Nat) : Builtin.zeroCells z n = madeCells z (n * z.size) := rfl
theorem run_clear_own {w : World} {b n : Nat} {v : Value} {xs : List Value} (h : w.ownsRow b 147 2 v n xs) :
    ∃ w', (∀ ty, (Builtin.clear_ #[156] ty #[v]).run Tryz.prog w = .ok (.tuple #[]) w') ∧ w'.ownsRow b 147 2 v n (flP (List.replicate n (0, 0))) ∧ Fz (fun x => v.ownBlock = some x) w w' := by
  have ht := Tryz.underlying156
  have hz : ∀ w, (zeroValue 147).run Tryz.prog w = .ok (.agg #[.int .u64 0, .int .u32 0]) w := by
    obtain ⟨i, hi, h0, h1, h2⟩ := info_parts sinfo
    intro w
    simp [zeroValue, typeInfo, hi, h0]
  rcases Nat.eq_zero_or_pos n with rfl | hn
  · refine ⟨w, fun ty => ?_, ?_, Fz.refl _ _⟩
    · obtain ⟨a, c, rfl⟩ := own_sl h
      cases a <;> simp [Builtin.clear_, run_underlying ht]
    · have hx : xs = [] := List.eq_nil_of_length_eq_zero (by have := h.1; simpa using this)
      subst hx
      exact h
  · obtain ⟨g, c, rfl⟩ := own_some h hn
    obtain ⟨w', hst, ho, hf⟩ := own_over (P := Tryz.prog) (vs := flP (List.replicate n (0, 0))) h (by rw [flP_len, List.length_replicate]) (flP_one _)
    refine ⟨w', fun ty => ?_, ho, hf.mono (by rintro x rfl; rfl)⟩
    have hzc : (Builtin.zeroCells (Value.agg #[.int .u64 0, .int .u32 0]).cells n).toList = flP (List.replicate n (0, 0)) := by rw [zero_made, flP_zero]; rfl
    obtain ⟨m, rfl⟩ : ∃ m, n = m + 1 := ⟨n - 1, by omega⟩
    simp [Builtin.clear_, run_underlying ht, hz, hzc, hst]
section
variable {w w' : World} {B G L V : Nat} {v : Value} {al : List Alm}
set_option maxRecDepth 100000 in
theorem copied_any (n : Nat) (hn : n = al.length) (hl : al.length ≤ 64) (h : w.ownsRow 0 147 2 v n (flP al)) : Calls Tryz.prog 126 #[v] w fun e w' => e = .returned (.slice (some ⟨w.heap.size, 0, none⟩) n n) ∧ w'.ownsRow w.heap.size 147 2 (.slice (some ⟨w.heap.size, 0, none⟩) n n) n (flP al) ∧ Below w.heap.size w w' := by
  obtain ⟨i0, hi0, hz0, hz1, hz2⟩ := info_parts sinfo
  obtain ⟨w1, hmk, ho1, hg1⟩ := run_make_full (P := Tryz.prog) w w.heap.size 156 147 i0 _ 2 Tryz.underlying156 hi0 hz0 hz1 .i64 .i64 n (by rw [hz2]; omega) (by unfold maxLen; omega) (Nat.le_refl _)
  have hsz : (Tryz.prog.info? 147).map (·.size) = some 2 := by rw [hi0]; simp [hz1]
  have h2 := (fz_none hg1 (fun _ => False)).own h (fun _ _ e => e)
  have b1 : Below w.heap.size w w1 := ⟨hg1.os, hg1.tape, hg1.output, hg1.size, fun i hi => hg1.block i hi (by simp)⟩
  obtain ⟨a, c, rfl⟩ := own_sl h
  obtain ⟨w2, hcp, ho2, hf2⟩ := run_copy_own (P := Tryz.prog) 156 3 Tryz.underlying156 hsz ho1 h2 (flP_one al)
  have b2 := b1.trans (hf2.below b1.size (by rintro x rfl; exact Nat.le_refl _))
  have HO : Hid (w2.ownsRow w.heap.size 147 2 (.slice (some ⟨w.heap.size, 0, none⟩) n n) n (flP al) ∧ Below w.heap.size w w2) := ⟨ho2, b2⟩
  clear ho1 hg1 h2 b1 h hn ho2 hf2 b2
  go_enter Tryz.func126, Tryz.ntmps126
  go_wp2
  go_ret
  exact ⟨rfl, HO.out.1, HO.out.2⟩
end
end Go.Proofs.YthhckhifaolmkaaGreat.Cl

