import Derived.Test.YtmidaeljeoifdaaGreatDoorKse
import Derived.Test.YtmidaeljeoifdaaGreatDoorKrv
namespace Go.Proofs.YtmidaeljeoifdaaGreatDoor
set_option maxRecDepth 100000
set_option maxHeartbeats 16000000
open Go.RowKit
set_option linter.unusedVariables false
theorem rName_l (l : List UInt8) (hl : l.length < 9223372036854775808) (w : World) : Calls Tryz.prog 160 #[S l] w fun e w' => e = .returned (.bool (isNm l)) ∧ w' = w := by
 have := rName_any ⟨l.toArray⟩ w (by rw [size_l]; exact hl)
 simpa using this
theorem hasS_take (l : List (List UInt8)) (j : Nat) (x nm : List UInt8) (hx : l[j]? = some x) : hasS (l.take (j + 1)) nm = (hasS (l.take j) nm || nm == x) := by
 unfold hasS
 rw [List.take_add_one, hx, Option.toList_some, List.any_append]
 simp
theorem hasS_mono (l : List (List UInt8)) (i j : Nat) (h : j ≤ i) (nm : List UInt8) (ht : hasS (l.take j) nm = true) : hasS (l.take i) nm = true := by
 unfold hasS at *
 rw [List.any_eq_true] at ht ⊢
 obtain ⟨x, hx, hp⟩ := ht
 refine ⟨x, ?_, hp⟩
 obtain ⟨k, hk⟩ := List.mem_iff_getElem?.1 hx
 rw [List.getElem?_take] at hk
 split at hk
 ·exact List.mem_iff_getElem?.2 ⟨k, by rw [List.getElem?_take, if_pos (by omega)]; exact hk⟩
 ·cases hk
theorem rnamed_any (w : World) (s : Sl) (l : List (List UInt8)) (h : RowsAt w 1 strP s l) (i : Nat) (nm : List UInt8) (hi : l[i]? = some nm) (hsz : nm.length < 9223372036854775808) :
  Calls Tryz.prog 96 #[.slice s.a s.n s.c, I i] w fun e w' => e = .returned (I (if (!isNm nm || hasS (l.take i) nm) = true then 72 else 0)) ∧ Below w.heap.size w w' := by
 obtain ⟨sa, sn, sc⟩ := s
 have HN : Hid (sn = l.length) := h.n
 have hc : sn ≤ sc := h.c
 have hm : sc ≤ maxLen := h.m
 dsimp only
 unfold maxLen at hm
 have hin : i < sn := by have := (List.getElem?_eq_some_iff.1 hi).1; have := HN.out; omega
 have hin' : (i : Int) < sn := by omega
 obtain ⟨g, off, e, hg, hci⟩ := strs_at h hi
 dsimp only at e
 subst e
 have c1 := rName_l nm hsz
 obtain ⟨R, hR⟩ : ∃ R : Int, R = (if (!isNm nm || hasS (l.take i) nm) = true then 72 else 0) := ⟨_, rfl⟩
 rw [← hR]
 have HR : Hid (R = _) := hR
 clear hR
 cases hnm : isNm nm with
 | false =>
  have HE : Hid (R = 72) := by show _ = _; rw [HR.out, hnm]; rfl
  rw [hnm] at c1
  clear HR
  go_enter Tryz.func96, Tryz.ntmps96
  go_wp2_with (first | (go_at_call 160; refine (c1 _).mono ?_; rintro e w' ⟨rfl, hq⟩; replace hq := hq.symm; subst hq))
  go_ret
  exact ⟨ret_int HE.out.symm, Below.refl _ _⟩
 | true =>
  have HE : Hid (R = if hasS (l.take i) nm = true then 72 else 0) := by show _ = _; rw [HR.out, hnm]; rfl
  rw [hnm] at c1
  clear HR
  go_enter Tryz.func96, Tryz.ntmps96
  go_wp2_with (first | (go_at_call 160; refine (c1 _).mono ?_; rintro e w' ⟨rfl, hq⟩; replace hq := hq.symm; subst hq))
  go_loopw [5] (fun iv wr => ∃ j : Nat, j ≤ i ∧ iv = .int .i64 j ∧ Hid (Below w.heap.size w wr ∧ hasS (l.take j) nm = false)) (fun iv _ => i - (intOf iv).toNat)
  case atStart => exact ⟨0, by omega, rfl, Below.refl _ _, rfl⟩
  case round =>
   obtain ⟨j, hj, rfl, HJ⟩ := hrel
   obtain ⟨hB, hA⟩ := HJ.out
   have HA : Hid (hasS (l.take j) nm = false) := hA
   clear HJ hA
   by_cases hlt : j < i
   ·have hlt' : (j : Int) < i := by omega
    have hjn : (j : Int) < sn := by omega
    have hjl : j < l.length := by have := HN.out; omega
    obtain ⟨y, hy⟩ : ∃ y, l[j]? = some y := ⟨l[j], List.getElem?_eq_getElem hjl⟩
    obtain ⟨g', off', e', hg', hcj⟩ := strs_at h hy
    dsimp only at e'
    obtain ⟨rfl, rfl⟩ : g = g' ∧ off = off' := by cases e'; exact ⟨rfl, rfl⟩
    have y1 : wr.cell? ⟨g, off + j, none⟩ = some (S y) := by rw [cell_below hB _ _ hg]; exact hcj
    have y2 : wr.cell? ⟨g, off + i, none⟩ = some (S nm) := by rw [cell_below hB _ _ hg]; exact hci
    have HT := hasS_take l j y nm hy
    have HT2 : Hid (hasS (l.take (j + 1)) nm = (nm == y)) := by show _ = _; rw [HT, HA.out, Bool.false_or]
    clear HT hy hjl e' hcj
    cases hk : y == nm with
    | true =>
     have e1 : (nm == y) = true := by rw [beq_iff_eq] at hk ⊢; exact hk.symm
     have HF : Hid (R = 72) := by show _ = _; rw [HE.out, if_pos (hasS_mono l i (j + 1) (by omega) nm (by rw [HT2.out, e1]))]
     clear HE HT2 e1
     go_wp2
     go_quiet (fail)
     go_wp2
     go_ret
     exact ⟨ret_int HF.out.symm, below_drewN hB _⟩
    | false =>
     have e1 : (nm == y) = false := by rw [beq_eq_false_iff_ne] at hk ⊢; exact fun e => hk e.symm
     have HF : Hid (hasS (l.take (j + 1)) nm = false) := by show _ = _; rw [HT2.out, e1]
     clear HT2 e1
     go_wp2
     go_quiet (fail)
     go_wp2
     go_roundw
     case rel => exact ⟨j + 1, by omega, by go_num, below_drewN hB _, HF.out⟩
     case measure => simp [intOf]; omega
   ·obtain rfl : j = i := by omega
    have hlt' : ¬ (j : Int) < j := by omega
    have HF : Hid (R = 0) := by show _ = _; rw [HE.out, HA.out]; rfl
    clear HA HE
    go_wp2
    go_ret
    exact ⟨ret_int HF.out.symm, hB⟩
end Go.Proofs.YtmidaeljeoifdaaGreatDoor
