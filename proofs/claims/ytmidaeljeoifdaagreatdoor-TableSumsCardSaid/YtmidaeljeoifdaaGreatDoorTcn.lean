import Derived.Test.YtmidaeljeoifdaaGreatDoorTcw
namespace Go.Proofs.YtmidaeljeoifdaaGreatDoor
set_option maxRecDepth 100000
set_option maxHeartbeats 16000000
open Go.RowKit Go.Shelf Go.Sort
set_option linter.unusedVariables false
set_option linter.unusedSimpArgs false
theorem index9_any (w : World) (s : Sl) (l : List Int) (h : RowsAt w 1 intP s l) (p : Int) : Calls Tryz.prog 148 #[.slice s.a s.n s.c, I p] w fun e w' => (∃ i : Int, e = .returned (I i) ∧ decide (0 ≤ i) = l.any (fun x => x == p)) ∧ w = w' := by
 have HS : Hid (s.n = l.length) := h.n
 have hsc : s.n ≤ s.c := h.c
 have hsm : s.c ≤ maxLen := h.m
 unfold maxLen at hsm
 have HH : Hid (RowsAt w 1 intP s l) := h
 obtain ⟨R, hR⟩ : ∃ R, R = l.any (fun x => x == p) := ⟨_, rfl⟩
 rw [← hR]
 have HR : Hid (R = l.any (fun x => x == p)) := hR
 clear h hR
 go_enter Tryz.func148, Tryz.ntmps148
 go_wp2
 go_loopw [5, 8] (fun _ iv wr => ∃ j : Nat, j ≤ s.n ∧ iv = .int .i64 j ∧ Hid (w = wr ∧ (l.take j).any (fun x => x == p) = false)) (fun _ iv _ => s.n - (intOf iv).toNat)
 case atStart => exact ⟨0, by omega, rfl, rfl, by simp⟩
 case round =>
  obtain ⟨j, hj, rfl, HJ⟩ := hrel
  obtain rfl := HJ.out.1
  by_cases hlt : j < s.n
  ·have hlt' : (j : Int) < s.n := by omega
   obtain ⟨x, hx⟩ : ∃ x, l[j]? = some x := ⟨_, List.getElem?_eq_getElem (by rw [← HS.out]; exact hlt)⟩
   obtain ⟨g5, o5, e5, hg5, b5⟩ := ints_at9 HH.out hx
   have HT : Hid ((x == p) = true → R = true) := fun ht => by
    rw [HR.out, List.any_eq_true]
    exact ⟨x, List.mem_of_getElem? hx, ht⟩
   have HA : Hid ((x == p) = false → (l.take (j + 1)).any (fun x => x == p) = false) := fun ht => by
    rw [List.take_add_one, hx, Option.toList_some, List.any_append, HJ.out.2]
    simp [ht]
   rw [e5]
   clear hx e5 HJ
   by_cases he : p = x
   ·subst he
    have HE : Hid (R = true) := HT.out (by simp)
    clear HT HA
    go_wp2
    go_ret
    exact ⟨⟨j, rfl, by rw [HE.out]; simp⟩, rfl⟩
   ·have he1 : (p == x) = false := by simpa using he
    have HA2 : Hid ((l.take (j + 1)).any (fun x => x == p) = false) := HA.out (by simp; omega)
    clear HT HA he
    go_wp2
    go_roundw
    case rel => exact ⟨j + 1, by omega, by go_num, trivial, HA2.out⟩
    case measure => simp [intOf]; omega
  ·obtain rfl : j = s.n := by omega
   have hlt' : ¬ ((s.n : Nat) : Int) < (s.n : Nat) := by omega
   have HE : Hid (R = false) := by
    show _ = _
    rw [HR.out]
    have := HJ.out.2
    rwa [List.take_of_length_le (by rw [HS.out]; exact Nat.le_refl _)] at this
   clear HR HJ
   go_wp2
   go_ret
   exact ⟨⟨-1, rfl, by rw [HE.out]; rfl⟩, rfl⟩
theorem contains9_any (w : World) (s : Sl) (l : List Int) (h : RowsAt w 1 intP s l) (p : Int) : Calls Tryz.prog 110 #[.slice s.a s.n s.c, I p] w fun e w' => e = .returned (.bool (l.any (fun x => x == p))) ∧ w = w' := by
 have k := index9_any w s l h p
 obtain ⟨R, hR⟩ : ∃ R, R = l.any (fun x => x == p) := ⟨_, rfl⟩
 rw [← hR] at k ⊢
 clear h hR
 go_enter Tryz.func110, Tryz.ntmps110
 go_wp2_with (go_at_call 148; refine k.mono ?_; clear k; rintro e w' ⟨⟨i, rfl, hi⟩, rfl⟩)
 go_ret
 exact ⟨rfl, rfl⟩
theorem four_at (w : World) : RowsAt (w.alloc (.cells #[I 1, I 2, I 4, I 8] 3)) 1 intP ⟨some ⟨w.heap.size, 0, none⟩, 4, 4⟩ [1, 2, 4, 8] := by
 refine ⟨rfl, Nat.le_refl _, (by show 4 ≤ maxLen; unfold maxLen; decide), fun j x hj => ⟨w.heap.size, 0, rfl, by simp, fun i hi => ?_⟩⟩
 obtain rfl : i = 0 := by omega
 refine ⟨I x, ?_, ?_⟩
 ·rw [cell_of_row _ _ _ _ _ (0, 0) (heap_alloc_new w _)]
  match j, hj with
  | 0, h => cases h; rfl
  | 1, h => cases h; rfl
  | 2, h => cases h; rfl
  | 3, h => cases h; rfl
 ·first | rfl | exact rfl | trivial
theorem fieldsFit_any (x : MsR) (w : World) : Calls Tryz.prog 70 #[.agg (msrC x)] w fun e w' => e = .returned (.bool (fldB x)) ∧ Below w.heap.size w w' := by
 have hb : ∀ o, Below w.heap.size w (w.alloc o) := fun o => below_alloc w o
 have hb4 : ∀ o q, Below w.heap.size w ((w.alloc o).alloc q) := fun o q => (hb o).trans ((below_alloc _ _).mono (hb o).size)
 have kc : ∀ o, Calls Tryz.prog 110 #[.slice (some ⟨w.heap.size + 1, 0, none⟩) 4 4, I x.len] ((w.alloc o).alloc (.cells #[I 1, I 2, I 4, I 8] 3)) fun e w' => e = .returned (.bool ([1, 2, 4, 8].any (fun y => y == x.len))) ∧ ((w.alloc o).alloc (.cells #[I 1, I 2, I 4, I 8] 3)) = w' := fun o => by
  have := contains9_any _ _ _ (four_at (w.alloc o)) x.len
  rw [World.size_alloc] at this
  exact this
 have kq := withinI_any x.queue 1 16
 obtain ⟨R, hR⟩ : ∃ R, R = fldB x := ⟨_, rfl⟩
 rw [← hR]
 unfold msrC at *
 by_cases k1 : x.kind = 1
 ·have k1' : (x.kind == 1) = true := by simpa using k1
  have HX : Hid (R = ([1, 2, 4, 8].any (fun y => y == x.len) && (x.frm == 0) && ((x.init : Int) == 0) && (x.queue == 0))) := by
   show _ = _
   rw [hR]
   unfold fldB
   rw [if_pos k1, Bool.eq_iff_iff]
   simp
   omega
  clear hR k1
  generalize [1, 2, 4, 8].any (fun y => y == x.len) = bb at *
  go_enter Tryz.func70, Tryz.ntmps70
  cases bb
  ·go_wp2_with (first | (go_at_call 110; refine (kc _).mono ?_; clear kc; rintro e w' ⟨rfl, rfl⟩))
   go_ret
   exact ⟨ret_bool' (by rw [HX.out]; simp), hb4 _ _⟩
  ·cases b2 : (x.frm == 0)
   ·rw [b2] at HX
    go_wp2_with (first | (go_at_call 110; refine (kc _).mono ?_; clear kc; rintro e w' ⟨rfl, rfl⟩))
    go_ret
    exact ⟨ret_bool' (by rw [HX.out]; simp), hb4 _ _⟩
   ·rw [b2] at HX
    cases b3 : ((x.init : Int) == 0)
    ·rw [b3] at HX
     go_wp2_with (first | (go_at_call 110; refine (kc _).mono ?_; clear kc; rintro e w' ⟨rfl, rfl⟩))
     go_ret
     exact ⟨ret_bool' (by rw [HX.out]; simp), hb4 _ _⟩
    ·rw [b3] at HX
     go_wp2_with (first | (go_at_call 110; refine (kc _).mono ?_; clear kc; rintro e w' ⟨rfl, rfl⟩))
     go_ret
     exact ⟨ret_bool' (by rw [HX.out]; simp), hb4 _ _⟩
 ·have k1' : (x.kind == 1) = false := by simpa using k1
  by_cases k2 : x.kind = 2
  ·have k2' : (x.kind == 2) = true := by simpa using k2
   have HX : Hid (R = ((x.len == 0) && decide ((x.init : Int) ≤ 4294967295) && (x.queue == 0))) := by
    show _ = _
    rw [hR]
    unfold fldB
    rw [if_neg k1, if_pos k2, Bool.eq_iff_iff]
    simp
    omega
   clear hR k1 k2 kc
   go_enter Tryz.func70, Tryz.ntmps70
   cases b1 : (x.len == 0)
   ·rw [b1] at HX
    go_wp2_with (first | (go_at_call 46; refine (kq _).mono ?_; clear kq; rintro e w' ⟨rfl, rfl⟩))
    go_ret
    exact ⟨ret_bool' (by rw [HX.out]; simp), hb _⟩
   ·rw [b1] at HX
    by_cases b2 : (x.init : Int) ≤ 4294967295
    ·have b2' : decide ((x.init : Int) ≤ 4294967295) = true := by simpa using b2
     rw [b2'] at HX
     go_wp2_with (first | (go_at_call 46; refine (kq _).mono ?_; clear kq; rintro e w' ⟨rfl, rfl⟩))
     go_ret
     exact ⟨ret_bool' (by rw [HX.out]; simp), hb _⟩
    ·have b2' : decide ((x.init : Int) ≤ 4294967295) = false := by simpa using b2
     rw [b2'] at HX
     go_wp2_with (first | (go_at_call 46; refine (kq _).mono ?_; clear kq; rintro e w' ⟨rfl, rfl⟩))
     go_ret
     exact ⟨ret_bool' (by rw [HX.out]; simp), hb _⟩
  ·have k2' : (x.kind == 2) = false := by simpa using k2
   by_cases k3 : x.kind = 3
   ·have k3' : (x.kind == 3) = true := by simpa using k3
    have HX : Hid (R = ((x.len == 0) && ((x.init : Int) == 0) && inI x.queue 1 16)) := by
     show _ = _
     rw [hR]
     unfold fldB
     rw [if_neg k1, if_neg k2, if_pos k3, Bool.eq_iff_iff]
     simp
    clear hR k1 k2 k3 kc
    generalize inI x.queue 1 16 = bq at *
    go_enter Tryz.func70, Tryz.ntmps70
    cases b1 : (x.len == 0)
    ·rw [b1] at HX
     go_wp2_with (first | (go_at_call 46; refine (kq _).mono ?_; clear kq; rintro e w' ⟨rfl, rfl⟩))
     go_ret
     exact ⟨ret_bool' (by rw [HX.out]; simp), hb _⟩
    ·rw [b1] at HX
     cases b2 : ((x.init : Int) == 0)
     ·rw [b2] at HX
      go_wp2_with (first | (go_at_call 46; refine (kq _).mono ?_; clear kq; rintro e w' ⟨rfl, rfl⟩))
      go_ret
      exact ⟨ret_bool' (by rw [HX.out]; simp), hb _⟩
     ·rw [b2] at HX
      go_wp2_with (first | (go_at_call 46; refine (kq _).mono ?_; clear kq; rintro e w' ⟨rfl, rfl⟩))
      go_ret
      exact ⟨ret_bool' (by rw [HX.out]; simp), hb _⟩
   ·have k3' : (x.kind == 3) = false := by simpa using k3
    have HX : Hid (R = false) := by
     show _ = _
     rw [hR]
     unfold fldB
     rw [if_neg k1, if_neg k2, if_neg k3]
    clear hR k1 k2 k3 kc
    go_enter Tryz.func70, Tryz.ntmps70
    go_wp2_with (first | (go_at_call 46; refine (kq _).mono ?_; clear kq; rintro e w' ⟨rfl, rfl⟩))
    go_ret
    exact ⟨ret_bool' (by rw [HX.out]), hb _⟩
end Go.Proofs.YtmidaeljeoifdaaGreatDoor
