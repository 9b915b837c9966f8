import Derived.Test.YtmidaeljeoifdaaGreatDoorKrt2
namespace Go.Proofs.YtmidaeljeoifdaaGreatDoor
set_option maxHeartbeats 16000000
open Go.RowKit
set_option linter.unusedVariables false
theorem strs_at {w : World} {s : Sl} {l : List (List UInt8)} (h : RowsAt w 1 strP s l) {j : Nat} {x : List UInt8} (hj : l[j]? = some x) : ∃ g off, s.a = some ⟨g, off, none⟩ ∧ g < w.heap.size ∧ w.cell? ⟨g, off + j, none⟩ = some (S x) := by
 obtain ⟨g, off, e, hg, hr⟩ := h.row j x hj
 obtain ⟨u, h1, h2⟩ := hr 0 (by omega)
 refine ⟨g, off, e, hg, ?_⟩
 rw [show off + j * 1 + 0 = off + j by omega] at h1
 rw [h1, h2]
def idxS (x : List UInt8) (j : Nat) : List (List UInt8) → Int
 | [] => -1
 | y :: r => if x == y then (j : Int) else idxS x (j + 1) r
def hasS (l : List (List UInt8)) (x : List UInt8) : Bool := l.any (fun y => x == y)
theorem idxS_has (x : List UInt8) (l : List (List UInt8)) (j : Nat) : decide (0 ≤ idxS x j l) = hasS l x := by
 induction l generalizing j with
 | nil => rfl
 | cons y r ih =>
  rw [idxS]
  cases h : x == y with
  | true =>
   simp only [if_true]
   rw [decide_eq_true (by omega)]
   simp [hasS, h]
  | false =>
   have h2 : hasS (y :: r) x = hasS r x := by simp [hasS, h]
   rw [h2, if_neg (by decide)]
   exact ih (j + 1)
theorem index_str (w : World) (s : Sl) (l : List (List UInt8)) (h : RowsAt w 1 strP s l) (x : List UInt8) : Calls Tryz.prog 259 #[.slice s.a s.n s.c, S x] w fun e w' => e = .returned (I (idxS x 0 l)) ∧ w' = w := by
 obtain ⟨sa, sn, sc⟩ := s
 have HN : Hid (sn = l.length) := h.n
 have hc : sn ≤ sc := h.c
 have hm : sc ≤ maxLen := h.m
 dsimp only
 unfold maxLen at hm
 go_enter Tryz.func259, Tryz.ntmps259
 go_wp2
 go_loop [5, 8] (fun _ i => ∃ j : Nat, j ≤ sn ∧ i = .int .i64 j ∧ Hid (idxS x 0 l = idxS x j (l.drop j))) (fun _ i => sn - (intOf i).toNat)
 case atStart => exact ⟨0, by omega, rfl, rfl⟩
 case round =>
  obtain ⟨j, hj, rfl, HR⟩ := hrel
  by_cases hlt : j < sn
  ·have hlt' : (j : Int) < sn := by omega
   have hjl : j < l.length := by rw [← HN.out]; exact hlt
   obtain ⟨y, hy⟩ : ∃ y, l[j]? = some y := ⟨l[j], List.getElem?_eq_getElem hjl⟩
   obtain ⟨g, off, e, hg, hcx⟩ := strs_at h hy
   dsimp only at e
   subst e
   have HE : Hid (idxS x 0 l = if x == y then (j : Int) else idxS x (j + 1) (l.drop (j + 1))) := by
    show _ = _
    rw [HR.out, List.drop_eq_getElem_cons hjl, idxS]
    rw [List.getElem?_eq_getElem hjl] at hy
    rw [Option.some.inj hy]
   clear hy hjl HR
   cases hk : x == y with
   | true =>
    have HE2 : Hid (idxS x 0 l = j) := by show _ = _; rw [HE.out, hk]; rfl
    clear HE
    go_wp2
    go_ret
    exact ⟨ret_int HE2.out.symm, rfl⟩
   | false =>
    have HE2 : Hid (idxS x 0 l = idxS x (j + 1) (l.drop (j + 1))) := by show _ = _; rw [HE.out, hk]; rfl
    clear HE
    go_wp2
    go_round
    case rel => exact ⟨j + 1, by omega, by go_num, HE2⟩
    case measure => simp [intOf]; omega
  ·obtain rfl : j = sn := by omega
   have hlt' : ¬ (j : Int) < j := by omega
   have HE2 : Hid (idxS x 0 l = -1) := by show _ = _; rw [HR.out, List.drop_eq_nil_of_le (by rw [← HN.out]; exact Nat.le_refl _), idxS]
   go_wp2
   go_ret
   exact ⟨ret_int HE2.out.symm, rfl⟩
theorem contains_str (w : World) (s : Sl) (l : List (List UInt8)) (h : RowsAt w 1 strP s l) (x : List UInt8) : Calls Tryz.prog 196 #[.slice s.a s.n s.c, S x] w fun e w' => e = .returned (.bool (hasS l x)) ∧ w' = w := by
 have c1 := index_str w s l h x
 have HH : Hid (decide (0 ≤ idxS x 0 l) = hasS l x) := idxS_has x l 0
 generalize idxS x 0 l = r at *
 go_enter Tryz.func196, Tryz.ntmps196
 go_wp2_with (first | (go_at_call 259; refine c1.mono ?_; rintro e w' ⟨rfl, rfl⟩))
 go_ret
 exact ⟨ret_bool (by rw [← HH.out]), rfl⟩
end Go.Proofs.YtmidaeljeoifdaaGreatDoor
