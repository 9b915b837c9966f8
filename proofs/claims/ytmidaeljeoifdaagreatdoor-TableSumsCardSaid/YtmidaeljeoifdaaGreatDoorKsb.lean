import Derived.Test.YtmidaeljeoifdaaGreatDoorKsa
import Derived.Test.YtmidaeljeoifdaaGreatDoorKro
namespace Go.Proofs.YtmidaeljeoifdaaGreatDoor
set_option maxRecDepth 100000
set_option maxHeartbeats 16000000
open Go.RowKit
set_option linter.unusedVariables false
theorem rrises_any (w : World) (s : Sl) (l : List Int) (h : RowsAt w 1 intP s l) (n : Int) : Calls Tryz.prog 210 #[.slice s.a s.n s.c, I n] w fun e w' => e = .returned (.bool (risF (-1) l n)) ∧ Below w.heap.size w w' := by
 obtain ⟨sa, sn, sc⟩ := s
 have HN : Hid (sn = l.length) := h.n
 have hc : sn ≤ sc := h.c
 have hm : sc ≤ maxLen := h.m
 dsimp only
 unfold maxLen at hm
 go_enter Tryz.func210, Tryz.ntmps210
 go_wp2
 go_loopw [5] (fun i wr => ∃ (j : Nat) (a : Int), j ≤ sn ∧ i = .int .i64 j ∧ Hid (Below w.heap.size w wr ∧ risF (-1) l n = risF a (l.drop j) n ∧ ((j = 0 ∧ a = -1) ∨ (0 < j ∧ l[j - 1]? = some a)))) (fun i _ => sn - (intOf i).toNat)
 case atStart => exact ⟨0, -1, by omega, rfl, Below.refl _ _, rfl, .inl ⟨rfl, rfl⟩⟩
 case round =>
  obtain ⟨j, a, hj, rfl, HJ⟩ := hrel
  obtain ⟨hB, hR, hA⟩ := HJ.out
  have HR : Hid (risF (-1) l n = risF a (l.drop j) n) := hR
  clear HJ hR
  by_cases hlt : j < sn
  ·have hlt' : (j : Int) < sn := by omega
   have hjl : j < l.length := by rw [← HN.out]; exact hlt
   obtain ⟨x, hx⟩ : ∃ x, l[j]? = some x := ⟨l[j], List.getElem?_eq_getElem hjl⟩
   obtain ⟨g, off, e, hg, hcx⟩ := ints_at (h.below hB (fun _ _ _ _ h => h)) hx
   dsimp only at e
   subst e
   have HE : Hid (risF (-1) l n = (isId x n && decide (a < x) && risF x (l.drop (j + 1)) n)) := by
    show _ = _
    rw [HR.out, List.drop_eq_getElem_cons hjl, risF]
    rw [List.getElem?_eq_getElem hjl] at hx
    rw [Option.some.inj hx]
   have HA2 : Hid (l[j + 1 - 1]? = some x) := hx
   clear hjl HR
   by_cases h0 : x < 0
   ·have HF : Hid (risF (-1) l n = false) := by show _ = _; rw [HE.out, isId, decide_eq_false (show ¬ 0 ≤ x by omega)]; rfl
    clear HE hA hx
    go_wp2
    go_quiet (fail)
    go_wp2
    go_ret
    exact ⟨ret_bool HF.out.symm, below_drewN hB _⟩
   ·have h0x : Hid (0 ≤ x) := by show _ ≤ _; omega
    by_cases h1 : n ≤ x
    ·have HF : Hid (risF (-1) l n = false) := by show _ = _; rw [HE.out, isId, decide_eq_false (show ¬ x < n by omega), Bool.and_false]; rfl
     clear HE hA hx
     go_wp2
     have d0 : ¬ x < 0 := by omega
     go_quiet (fail)
     go_wp2
     go_ret
     exact ⟨ret_bool HF.out.symm, below_drewN hB _⟩
    ·have HE1 : Hid (risF (-1) l n = (decide (a < x) && risF x (l.drop (j + 1)) n)) := by show _ = _; rw [HE.out, isId, decide_eq_true h0x.out, decide_eq_true (show x < n by omega)]; rfl
     clear HE
     rcases hA with ⟨rfl, rfl⟩ | ⟨hj0, hA⟩
     ·have hcx0 : wr.cell? ⟨g, off, none⟩ = some (I x) := hcx
      have hl0 : (0 : Int) < sn := by omega
      have HG : Hid (risF (-1) l n = risF x (l.drop (0 + 1)) n) := by show _ = _; rw [HE1.out, decide_eq_true (by omega)]; rfl
      clear HE1 hx
      go_wp2
      have d0 : ¬ x < 0 := by omega
      have d1 : ¬ n ≤ x := by omega
      go_quiet (fail)
      go_wp2
      go_roundw
      case rel => exact ⟨_ + 1, x, by omega, by go_num, below_drewN hB _, HG.out, .inr ⟨by omega, HA2.out⟩⟩
      case measure => simp [intOf]; omega
     ·obtain ⟨k, rfl⟩ : ∃ k, j = k + 1 := ⟨j - 1, by omega⟩
      obtain ⟨g', off', e', hg', hcy⟩ := ints_at (h.below hB (fun _ _ _ _ h => h)) (show l[k]? = some a from hA)
      dsimp only at e'
      obtain ⟨rfl, rfl⟩ : g = g' ∧ off = off' := by cases e'; exact ⟨rfl, rfl⟩
      have hk0 : (0 : Int) ≤ k := by omega
      by_cases hax : x ≤ a
      ·have HF : Hid (risF (-1) l n = false) := by show _ = _; rw [HE1.out, decide_eq_false (by omega)]; rfl
       clear HE1 hx hA e'
       go_wp2
       have d0 : ¬ x < 0 := by omega
       have d1 : ¬ n ≤ x := by omega
       have d2 : (0 : Int) < (k : Int) + 1 := by omega
       have d3 : x ≤ a := by omega
       go_quiet (fail)
       go_wp2
       go_ret
       exact ⟨ret_bool HF.out.symm, below_drewN hB _⟩
      ·have HG : Hid (risF (-1) l n = risF x (l.drop (k + 1 + 1)) n) := by show _ = _; rw [HE1.out, decide_eq_true (by omega)]; rfl
       clear HE1 hx hA e'
       go_wp2
       have d0 : ¬ x < 0 := by omega
       have d1 : ¬ n ≤ x := by omega
       have d2 : (0 : Int) < (k : Int) + 1 := by omega
       have d3 : ¬ x ≤ a := by omega
       go_quiet (fail)
       go_wp2
       go_roundw
       case rel => exact ⟨_ + 1, x, by omega, by go_num, below_drewN hB _, HG.out, .inr ⟨by omega, HA2.out⟩⟩
       case measure => simp [intOf]; omega
  ·obtain rfl : j = sn := by omega
   have hlt' : ¬ (j : Int) < j := by omega
   have HF : Hid (risF (-1) l n = true) := by show _ = _; rw [HR.out, List.drop_eq_nil_of_le (by rw [← HN.out]; exact Nat.le_refl _), risF]
   clear hA
   go_wp2
   go_ret
   exact ⟨ret_bool HF.out.symm, hB⟩
end Go.Proofs.YtmidaeljeoifdaaGreatDoor
