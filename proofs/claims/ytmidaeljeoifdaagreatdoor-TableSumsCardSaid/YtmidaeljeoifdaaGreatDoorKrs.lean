import Derived.Test.YtmidaeljeoifdaaGreatDoorKnm
namespace Go.Proofs.YtmidaeljeoifdaaGreatDoor
set_option maxHeartbeats 16000000
open Go.RowKit
set_option linter.unusedVariables false
theorem ints_at {w : World} {s : Sl} {l : List Int} (h : RowsAt w 1 intP s l) {j : Nat} {x : Int} (hj : l[j]? = some x) : ∃ g off, s.a = some ⟨g, off, none⟩ ∧ g < w.heap.size ∧ w.cell? ⟨g, off + j, none⟩ = some (I x) := by
 obtain ⟨g, off, e, hg, hr⟩ := h.row j x hj
 obtain ⟨u, h1, h2⟩ := hr 0 (by omega)
 refine ⟨g, off, e, hg, ?_⟩
 rw [show off + j * 1 + 0 = off + j by omega] at h1
 rw [h1, h2]
def risF (a : Int) (l : List Int) (n : Int) : Bool := match l with
 | [] => true
 | x :: r => isId x n && decide (a < x) && risF x r n
theorem rises_any (w : World) (s : Sl) (l : List Int) (h : RowsAt w 1 intP s l) (n : Int) : Calls Tryz.prog 274 #[.slice s.a s.n s.c, I n] w fun e w' => e = .returned (.bool (risF (-1) l n)) ∧ w' = w := by
 obtain ⟨sa, sn, sc⟩ := s
 have hn : sn = l.length := h.n
 have hc : sn ≤ sc := h.c
 have hm : sc ≤ maxLen := h.m
 dsimp only
 unfold maxLen at hm
 have HN : Hid (sn = l.length) := hn
 clear hn
 go_enter Tryz.func274, Tryz.ntmps274
 go_wp2
 go_loop [5, 7, 10] (fun a5 _ i => ∃ (j : Nat) (a : Int), j ≤ sn ∧ i = .int .i64 j ∧ a5 = .int .i64 a ∧ Hid (risF (-1) l n = risF a (l.drop j) n)) (fun _ _ i => sn - (intOf i).toNat)
 case atStart => exact ⟨0, -1, by omega, rfl, rfl, rfl⟩
 case round =>
  obtain ⟨j, a, hj, rfl, rfl, HR⟩ := hrel
  by_cases hlt : j < sn
  ·have hlt' : (j : Int) < sn := by omega
   have hjl : j < l.length := by rw [← HN.out]; exact hlt
   obtain ⟨x, hx⟩ : ∃ x, l[j]? = some x := ⟨l[j], List.getElem?_eq_getElem hjl⟩
   obtain ⟨g, off, e, hg, hcx⟩ := ints_at h hx
   dsimp only at e
   subst e
   have HD : Hid (l.drop j = x :: l.drop (j + 1)) := by
    show _ = _
    rw [List.drop_eq_getElem_cons hjl]
    rw [List.getElem?_eq_getElem hjl] at hx
    cases hx
    rfl
   have c1 := isID_any x n
   have HE : Hid (risF (-1) l n = (isId x n && decide (a < x) && risF x (l.drop (j + 1)) n)) := by show _ = _; rw [HR.out, HD.out, risF]
   clear hx hjl
   generalize isId x n = b at *
   cases b with
   | false =>
    have HE2 : Hid (risF (-1) l n = false) := by show _ = _; rw [HE.out]; rfl
    go_wp2_with (first | (go_at_call 272; refine (c1 _).mono ?_; rintro e w' ⟨rfl, rfl⟩))
    go_ret
    exact ⟨ret_bool HE2.out.symm, rfl⟩
   | true =>
    by_cases hax : x ≤ a
    ·have HE2 : Hid (risF (-1) l n = false) := by show _ = _; rw [HE.out, decide_eq_false (by omega)]; rfl
     go_wp2_with (first | (go_at_call 272; refine (c1 _).mono ?_; rintro e w' ⟨rfl, rfl⟩))
     go_ret
     exact ⟨ret_bool HE2.out.symm, rfl⟩
    ·have HE2 : Hid (risF (-1) l n = risF x (l.drop (j + 1)) n) := by show _ = _; rw [HE.out, decide_eq_true (by omega)]; rfl
     go_wp2_with (first | (go_at_call 272; refine (c1 _).mono ?_; rintro e w' ⟨rfl, rfl⟩))
     go_round
     case rel => exact ⟨j + 1, x, by omega, by go_num, rfl, HE2⟩
     case measure => simp [intOf]; omega
  ·obtain rfl : j = sn := by omega
   have hlt' : ¬ (j : Int) < j := by omega
   have HE2 : Hid (risF (-1) l n = true) := by show _ = _; rw [HR.out, List.drop_eq_nil_of_le (by rw [← HN.out]; exact Nat.le_refl _), risF]
   go_wp2
   go_ret
   exact ⟨ret_bool HE2.out.symm, rfl⟩
end Go.Proofs.YtmidaeljeoifdaaGreatDoor
