import Derived.Test.YtmidaeljeoifdaaGreatDoorXTr1
import Derived.Test.YtmidaeljeoifdaaGreatDoorXTcw
namespace Go.Proofs.YtmidaeljeoifdaaGreatDoor
open Go.RowKit Go.Shelf Go.Sort Go.Maps
set_option linter.unusedVariables false
set_option linter.unusedSimpArgs false

/-! ### A row of one number sorted -/
set_option maxHeartbeats 8000000 in
set_option maxRecDepth 100000 in
theorem insert1 (w : World) (a : Option Addr) (c : Nat) (F : Value) : Calls Tryz.prog 260 #[.slice a 1 c, I 0, I 1, F] w fun e w' => e = .returned (.tuple #[]) ∧ w' = w := by
  go_enter Tryz.func260, Tryz.ntmps260
  go_wp2
  go_loopw [8] (fun iv wr => iv = .int .i64 1 ∧ wr = w) (fun _ _ => 0)
  case atStart => exact ⟨rfl, rfl⟩
  case round =>
    obtain ⟨rfl, rfl⟩ := hrel
    go_wp2
    refine bodyPost_end (v := .tuple #[]) (by simp [results, Tryz.results260, go_sem]) rfl ?_
    exact ⟨rfl, rfl⟩
set_option maxHeartbeats 8000000 in
set_option maxRecDepth 100000 in
theorem pdq1 (w : World) (a : Option Addr) (c : Nat) (k : Int) (F : Value) : Calls Tryz.prog 202 #[.slice a 1 c, I 0, I 1, I k, F] w fun e w' => e = .returned (.tuple #[]) ∧ w' = w := by
  have k1 := insert1 w a c F
  go_enter Tryz.func202, Tryz.ntmps202
  go_wp2
  go_loopw [1, 2] (fun av bv wr => av = I 0 ∧ bv = I 1 ∧ wr = w) (fun _ _ _ => 0)
  case atStart => exact ⟨rfl, rfl, rfl⟩
  case round =>
    obtain ⟨rfl, rfl, rfl⟩ := hrel
    go_wp2_with (first | (go_at_call 260; refine k1.mono ?_; clear k1; rintro e w1 ⟨rfl, rfl⟩))
    refine bodyPost_ret (v := .tuple #[]) (by simp [results, Tryz.results202, go_sem]) rfl ?_
    exact ⟨rfl, rfl⟩
set_option maxHeartbeats 8000000 in
set_option maxRecDepth 100000 in
theorem len1 (w : World) : Calls Tryz.prog 203 #[.int .u64 1] w fun e w' => (∃ k : Int, e = .returned (I k)) ∧ w' = w := by
  go_enter Tryz.func203, Tryz.ntmps203
  go_wp2
  go_ret
  exact ⟨⟨_, rfl⟩, rfl⟩
set_option maxHeartbeats 8000000 in
set_option maxRecDepth 100000 in
theorem compact1 (w : World) (a : Option Addr) (c : Nat) : Calls Tryz.prog 141 #[.slice a 1 c] w fun e w' => e = .returned (.slice a 1 c) ∧ w' = w := by
  go_enter Tryz.func141, Tryz.ntmps141
  go_wp2
  go_ret
  exact ⟨rfl, rfl⟩
end Go.Proofs.YtmidaeljeoifdaaGreatDoor

namespace Go.Proofs.YtmidaeljeoifdaaGreatDoor
open Go.RowKit Go.Shelf Go.Sort
set_option linter.unusedVariables false
set_option linter.unusedSimpArgs false

/-! ### fieldsFit -/
set_option maxHeartbeats 8000000 in
set_option maxRecDepth 100000 in
theorem index9_any (w : World) (s : Sl) (l : List Int) (h : RowsAt w 1 intP s l) (p : Int) : Calls Tryz.prog 148 #[.slice s.a s.n s.c, I p] w fun e w' => (∃ i : Int, e = .returned (I i) ∧ decide (0 ≤ i) = l.any (fun x => x == p)) ∧ w = w' := by
  have HS : Hid (s.n = l.length) := h.n
  have hsc : s.n ≤ s.c := h.c
  have hsm : s.c ≤ maxLen := h.m
  unfold maxLen at hsm
  have HH : Hid (RowsAt w 1 intP s l) := h
  obtain ⟨R, hR⟩ : ∃ R, R = l.any (fun x => x == p) := ⟨_, rfl⟩
  rw [← hR]
  have HR : Hid (R = l.any (fun x => x == p)) := hR
  clear h hR
  go_enter Tryz.func148, Tryz.ntmps148
  go_wp2
  go_loopw [5, 8] (fun _ iv wr => ∃ j : Nat, j ≤ s.n ∧ iv = .int .i64 j ∧ Hid (w = wr ∧ (l.take j).any (fun x => x == p) = false)) (fun _ iv _ => s.n - (intOf iv).toNat)
  case atStart => exact ⟨0, by omega, rfl, rfl, by simp⟩
  case round =>
    obtain ⟨j, hj, rfl, HJ⟩ := hrel
    obtain rfl := HJ.out.1
    by_cases hlt : j < s.n
    · have hlt' : (j : Int) < s.n := by omega
      obtain ⟨x, hx⟩ : ∃ x, l[j]? = some x := ⟨_, List.getElem?_eq_getElem (by rw [← HS.out]; exact hlt)⟩
      obtain ⟨g5, o5, e5, hg5, b5⟩ := ints_at9 HH.out hx
      have HT : Hid ((x == p) = true → R = true) := fun ht => by
        rw [HR.out, List.any_eq_true]
        exact ⟨x, List.mem_of_getElem? hx, ht⟩
      have HA : Hid ((x == p) = false → (l.take (j + 1)).any (fun x => x == p) = false) := fun ht => by
        rw [List.take_add_one, hx, Option.toList_some, List.any_append, HJ.out.2]
        simp [ht]
      rw [e5]
      clear hx e5 HJ
      by_cases he : p = x
      · subst he
        have HE : Hid (R = true) := HT.out (by simp)
        clear HT HA
        go_wp2
        go_ret
        exact ⟨⟨j, rfl, by rw [HE.out]; simp⟩, rfl⟩
      · have he1 : (p == x) = false := by simpa using he
        have HA2 : Hid ((l.take (j + 1)).any (fun x => x == p) = false) := HA.out (by simp; omega)
        clear HT HA he
        go_wp2
        go_roundw
        case rel => exact ⟨j + 1, by omega, by go_num, trivial, HA2.out⟩
        case measure => simp [intOf]; omega
    · obtain rfl : j = s.n := by omega
      have hlt' : ¬ ((s.n : Nat) : Int) < (s.n : Nat) := by omega
      have HE : Hid (R = false) := by
        show _ = _
        rw [HR.out]
        have := HJ.out.2
        rwa [List.take_of_length_le (by rw [HS.out]; exact Nat.le_refl _)] at this
      clear HR HJ
      go_wp2
      go_ret
      exact ⟨⟨-1, rfl, by rw [HE.out]; rfl⟩, rfl⟩
set_option maxRecDepth 100000 in
theorem contains9_any (w : World) (s : Sl) (l : List Int) (h : RowsAt w 1 intP s l) (p : Int) : Calls Tryz.prog 110 #[.slice s.a s.n s.c, I p] w fun e w' => e = .returned (.bool (l.any (fun x => x == p))) ∧ w = w' := by
  have k := index9_any w s l h p
  obtain ⟨R, hR⟩ : ∃ R, R = l.any (fun x => x == p) := ⟨_, rfl⟩
  rw [← hR] at k ⊢
  clear h hR
  go_enter Tryz.func110, Tryz.ntmps110
  go_wp2_with (go_at_call 148; refine k.mono ?_; clear k; rintro e w' ⟨⟨i, rfl, hi⟩, rfl⟩)
  go_ret
  exact ⟨rfl, rfl⟩
theorem four_at (w : World) : RowsAt (w.alloc (.cells #[I 1, I 2, I 4, I 8] 3)) 1 intP ⟨some ⟨w.heap.size, 0, none⟩, 4, 4⟩ [1, 2, 4, 8] := by
  refine ⟨rfl, Nat.le_refl _, (by show 4 ≤ maxLen; unfold maxLen; decide), fun j x hj => ⟨w.heap.size, 0, rfl, by simp, fun i hi => ?_⟩⟩
  obtain rfl : i = 0 := by omega
  refine ⟨I x, ?_, ?_⟩
  · rw [cell_of_row _ _ _ _ _ (0, 0) (heap_alloc_new w _)]
    match j, hj with
    | 0, h => cases h; rfl
    | 1, h => cases h; rfl
    | 2, h => cases h; rfl
    | 3, h => cases h; rfl
  · first | rfl | exact rfl | trivial
set_option maxHeartbeats 8000000 in
set_option maxRecDepth 100000 in
theorem fieldsFit_any (x : MsR) (w : World) : Calls Tryz.prog 70 #[.agg (msrC x)] w fun e w' => e = .returned (.bool (fldB x)) ∧ Below w.heap.size w w' := by
  have hb : ∀ o, Below w.heap.size w (w.alloc o) := fun o => below_alloc w o
  have hb4 : ∀ o q, Below w.heap.size w ((w.alloc o).alloc q) := fun o q => (hb o).trans ((below_alloc _ _).mono (hb o).size)
  have kc : ∀ o, Calls Tryz.prog 110 #[.slice (some ⟨w.heap.size + 1, 0, none⟩) 4 4, I x.len] ((w.alloc o).alloc (.cells #[I 1, I 2, I 4, I 8] 3)) fun e w' => e = .returned (.bool ([1, 2, 4, 8].any (fun y => y == x.len))) ∧ ((w.alloc o).alloc (.cells #[I 1, I 2, I 4, I 8] 3)) = w' := fun o => by
    have := contains9_any _ _ _ (four_at (w.alloc o)) x.len
    rw [World.size_alloc] at this
    exact this
  have kq := withinI_any x.queue 1 16
  obtain ⟨R, hR⟩ : ∃ R, R = fldB x := ⟨_, rfl⟩
  rw [← hR]
  unfold msrC at *
  by_cases k1 : x.kind = 1
  · have k1' : (x.kind == 1) = true := by simpa using k1
    have HX : Hid (R = ([1, 2, 4, 8].any (fun y => y == x.len) && (x.frm == 0) && ((x.init : Int) == 0) && (x.queue == 0))) := by
      show _ = _
      rw [hR]
      unfold fldB
      rw [if_pos k1, Bool.eq_iff_iff]
      simp
      omega
    clear hR k1
    generalize [1, 2, 4, 8].any (fun y => y == x.len) = bb at *
    go_enter Tryz.func70, Tryz.ntmps70
    cases bb
    · go_wp2_with (first | (go_at_call 110; refine (kc _).mono ?_; clear kc; rintro e w' ⟨rfl, rfl⟩))
      go_ret
      exact ⟨ret_bool' (by rw [HX.out]; simp), hb4 _ _⟩
    · cases b2 : (x.frm == 0)
      · rw [b2] at HX
        go_wp2_with (first | (go_at_call 110; refine (kc _).mono ?_; clear kc; rintro e w' ⟨rfl, rfl⟩))
        go_ret
        exact ⟨ret_bool' (by rw [HX.out]; simp), hb4 _ _⟩
      · rw [b2] at HX
        cases b3 : ((x.init : Int) == 0)
        · rw [b3] at HX
          go_wp2_with (first | (go_at_call 110; refine (kc _).mono ?_; clear kc; rintro e w' ⟨rfl, rfl⟩))
          go_ret
          exact ⟨ret_bool' (by rw [HX.out]; simp), hb4 _ _⟩
        · rw [b3] at HX
          go_wp2_with (first | (go_at_call 110; refine (kc _).mono ?_; clear kc; rintro e w' ⟨rfl, rfl⟩))
          go_ret
          exact ⟨ret_bool' (by rw [HX.out]; simp), hb4 _ _⟩
  · have k1' : (x.kind == 1) = false := by simpa using k1
    by_cases k2 : x.kind = 2
    · have k2' : (x.kind == 2) = true := by simpa using k2
      have HX : Hid (R = ((x.len == 0) && decide ((x.init : Int) ≤ 4294967295) && (x.queue == 0))) := by
        show _ = _
        rw [hR]
        unfold fldB
        rw [if_neg k1, if_pos k2, Bool.eq_iff_iff]
        simp
        omega
      clear hR k1 k2 kc
      go_enter Tryz.func70, Tryz.ntmps70
      cases b1 : (x.len == 0)
      · rw [b1] at HX
        go_wp2_with (first | (go_at_call 46; refine (kq _).mono ?_; clear kq; rintro e w' ⟨rfl, rfl⟩))
        go_ret
        exact ⟨ret_bool' (by rw [HX.out]; simp), hb _⟩
      · rw [b1] at HX
        by_cases b2 : (x.init : Int) ≤ 4294967295
        · have b2' : decide ((x.init : Int) ≤ 4294967295) = true := by simpa using b2
          rw [b2'] at HX
          go_wp2_with (first | (go_at_call 46; refine (kq _).mono ?_; clear kq; rintro e w' ⟨rfl, rfl⟩))
          go_ret
          exact ⟨ret_bool' (by rw [HX.out]; simp), hb _⟩
        · have b2' : decide ((x.init : Int) ≤ 4294967295) = false := by simpa using b2
          rw [b2'] at HX
          go_wp2_with (first | (go_at_call 46; refine (kq _).mono ?_; clear kq; rintro e w' ⟨rfl, rfl⟩))
          go_ret
          exact ⟨ret_bool' (by rw [HX.out]; simp), hb _⟩
    · have k2' : (x.kind == 2) = false := by simpa using k2
      by_cases k3 : x.kind = 3
      · have k3' : (x.kind == 3) = true := by simpa using k3
        have HX : Hid (R = ((x.len == 0) && ((x.init : Int) == 0) && inI x.queue 1 16)) := by
          show _ = _
          rw [hR]
          unfold fldB
          rw [if_neg k1, if_neg k2, if_pos k3, Bool.eq_iff_iff]
          simp
        clear hR k1 k2 k3 kc
        generalize inI x.queue 1 16 = bq at *
        go_enter Tryz.func70, Tryz.ntmps70
        cases b1 : (x.len == 0)
        · rw [b1] at HX
          go_wp2_with (first | (go_at_call 46; refine (kq _).mono ?_; clear kq; rintro e w' ⟨rfl, rfl⟩))
          go_ret
          exact ⟨ret_bool' (by rw [HX.out]; simp), hb _⟩
        · rw [b1] at HX
          cases b2 : ((x.init : Int) == 0)
          · rw [b2] at HX
            go_wp2_with (first | (go_at_call 46; refine (kq _).mono ?_; clear kq; rintro e w' ⟨rfl, rfl⟩))
            go_ret
            exact ⟨ret_bool' (by rw [HX.out]; simp), hb _⟩
          · rw [b2] at HX
            go_wp2_with (first | (go_at_call 46; refine (kq _).mono ?_; clear kq; rintro e w' ⟨rfl, rfl⟩))
            go_ret
            exact ⟨ret_bool' (by rw [HX.out]; simp), hb _⟩
      · have k3' : (x.kind == 3) = false := by simpa using k3
        have HX : Hid (R = false) := by
          show _ = _
          rw [hR]
          unfold fldB
          rw [if_neg k1, if_neg k2, if_neg k3]
        clear hR k1 k2 k3 kc
        go_enter Tryz.func70, Tryz.ntmps70
        go_wp2_with (first | (go_at_call 46; refine (kq _).mono ?_; clear kq; rintro e w' ⟨rfl, rfl⟩))
        go_ret
        exact ⟨ret_bool' (by rw [HX.out]), hb _⟩
end Go.Proofs.YtmidaeljeoifdaaGreatDoor

namespace Go.Proofs.YtmidaeljeoifdaaGreatDoor
open Go.RowKit Go.Shelf Go.Sort Go.Maps
set_option linter.unusedVariables false
set_option linter.unusedSimpArgs false

/-! ### What tables calls, at rows with nothing in them -/
set_option maxHeartbeats 8000000
set_option maxRecDepth 100000
theorem mask_nil (w : World) (C : Array Value) (a : Option Addr) (c : Nat) : Calls Tryz.prog 149 #[.agg C, .slice a 0 c] w fun e w' => e = .returned (.int .u32 0) ∧ Below w.heap.size w w' := by
  have hb := below_alloc w (.cells C 47)
  go_enter Tryz.func149, Tryz.ntmps149
  go_wp2
  go_loopw [5, 7, 10] (fun ov _ iv wr => ov = .int .u32 0 ∧ iv = .int .i64 0 ∧ wr = w.alloc (.cells C 47)) (fun _ _ _ _ => 0)
  case atStart => exact ⟨rfl, rfl, rfl⟩
  case round =>
    obtain ⟨rfl, rfl, rfl⟩ := hrel
    go_wp2
    go_ret
    exact ⟨rfl, hb⟩
theorem bits_nil (w : World) (a : Option Addr) (c : Nat) : Calls Tryz.prog 152 #[.slice a 0 c] w fun e w' => e = .returned (.int .u32 0) ∧ w' = w := by
  go_enter Tryz.func152, Tryz.ntmps152
  go_wp2
  go_loopw [3, 5, 8] (fun ov _ iv wr => ov = .int .u32 0 ∧ iv = .int .i64 0 ∧ wr = w) (fun _ _ _ _ => 0)
  case atStart => exact ⟨rfl, rfl, rfl⟩
  case round =>
    obtain ⟨rfl, rfl, rfl⟩ := hrel
    go_wp2
    go_ret
    exact ⟨rfl, rfl⟩
theorem those_nil (w : World) (a : Option Addr) (c : Nat) (F : Value) : Calls Tryz.prog 207 #[.slice a 0 c, F] w fun e w' => e = .returned (.slice none 0 0) ∧ w' = w := by
  go_enter Tryz.func207, Tryz.ntmps207
  go_wp2
  go_loopw [5, 7, 10] (fun ov _ iv wr => ov = .slice none 0 0 ∧ iv = .int .i64 0 ∧ wr = w) (fun _ _ _ _ => 0)
  case atStart => exact ⟨rfl, rfl, rfl⟩
  case round =>
    obtain ⟨rfl, rfl, rfl⟩ := hrel
    go_wp2
    go_ret
    exact ⟨rfl, rfl⟩
theorem indexf_nil (w : World) (a : Option Addr) (c : Nat) (F : Value) : Calls Tryz.prog 205 #[.slice a 0 c, F] w fun e w' => e = .returned (I (-1)) ∧ w' = w := by
  go_enter Tryz.func205, Tryz.ntmps205
  go_wp2
  go_loopw [5, 8] (fun _ iv wr => iv = .int .i64 0 ∧ wr = w) (fun _ _ _ => 0)
  case atStart => exact ⟨rfl, rfl⟩
  case round =>
    obtain ⟨rfl, rfl⟩ := hrel
    go_wp2
    go_ret
    exact ⟨rfl, rfl⟩
theorem index_one (w : World) (s : Sl) (p : Int) (h : RowsAt w 1 intP s [p]) : Calls Tryz.prog 148 #[.slice s.a s.n s.c, I p] w fun e w' => e = .returned (I 0) ∧ w' = w := by
  obtain ⟨g5, o5, e5, hg5, b5⟩ := ints_at9 h (j := 0) (x := p) rfl
  have hn : s.n = 1 := h.n
  obtain ⟨a, n, c⟩ := s
  dsimp only at e5 hn
  subst e5 hn
  rw [Nat.add_zero] at b5
  clear h
  go_enter Tryz.func148, Tryz.ntmps148
  go_wp2
  go_loopw [5, 8] (fun _ iv wr => iv = .int .i64 0 ∧ wr = w) (fun _ _ _ => 0)
  case atStart => exact ⟨rfl, rfl⟩
  case round =>
    obtain ⟨rfl, rfl⟩ := hrel
    go_wp2
    go_ret
    exact ⟨rfl, rfl⟩
theorem internal_nil (w : World) (C E : Array Value) (a : Option Addr) (c : Nat) : Calls Tryz.prog 150 #[.agg C, .agg E, .slice a 0 c] w fun e w' => e = .returned (I (-1)) ∧ Below w.heap.size w w' := by
  have hb : Below w.heap.size w ((w.alloc (.cells C 47)).alloc (.cells E 82)) := (below_alloc w _).trans ((below_alloc _ _).mono (by simp))
  have k1 := fun W F => indexf_nil W a c F
  go_enter Tryz.func150, Tryz.ntmps150
  go_wp2_with (first | (go_at_call 205; refine (k1 _ _).mono ?_; clear k1; rintro e w1 ⟨rfl, rfl⟩))
  go_ret
  exact ⟨rfl, hb⟩
theorem own_nil (w : World) (C : Array Value) (a : Option Addr) (c : Nat) (h9 : C[9]? = some (.bool false)) : Calls Tryz.prog 151 #[.agg C, .slice a 0 c] w fun e w' => e = .returned (.slice none 0 0) ∧ Below w.heap.size w w' := by
  have hb : Below w.heap.size w (w.alloc (.cells C 47)) := below_alloc w _
  have c9 : (w.alloc (.cells C 47)).cell? ⟨w.heap.size, 9, none⟩ = some (.bool false) := by rw [cell_of_row _ _ 9 _ _ (0, 0) (heap_alloc_new w _)]; exact h9
  have k1 := fun W F => those_nil W a c F
  clear h9
  go_enter Tryz.func151, Tryz.ntmps151
  go_wp2_with (first | (go_at_call 207; refine (k1 _ _).mono ?_; clear k1; rintro e w1 ⟨rfl, rfl⟩))
  go_ret
  exact ⟨rfl, hb⟩
theorem sort1 (w : World) (a : Option Addr) (c : Nat) (F : Value) : Calls Tryz.prog 138 #[.slice a 1 c, F] w fun e w' => e = .returned (.tuple #[]) ∧ w' = w := by
  have k1 := len1 w
  have k2 := fun k => pdq1 w a c k F
  go_enter Tryz.func138, Tryz.ntmps138
  go_wp2_with (first | (go_at_call 203; refine k1.mono ?_; clear k1; rintro e w1 ⟨⟨kk, rfl⟩, rfl⟩) | (go_at_call 202; refine (k2 _).mono ?_; clear k2; rintro e w1 ⟨rfl, rfl⟩))
  refine bodyPost_end (v := .tuple #[]) (by simp [results, Tryz.results138, go_sem]) rfl ?_
  exact ⟨rfl, rfl⟩
theorem prio1_any (w : World) (x : Tk) (s4 s5 s6 s7 : Sl) : Calls Tryz.prog 137 (#[.agg #[S x.name, I x.prio, .bool x.full, I x.act, .slice s4.a s4.n s4.c, .slice s5.a s5.n s5.c, .slice s6.a s6.n s6.c, .slice s7.a s7.n s7.c]] ++ #[]) w fun e w' => e = .returned (I x.prio) ∧ Below w.heap.size w w' := by
  have hb : ∀ o, Below w.heap.size w (w.alloc o) := fun o => below_alloc w o
  go_enter Tryz.func137, Tryz.ntmps137
  go_wp2
  go_ret
  exact ⟨rfl, hb _⟩
theorem prios_one (w : World) (s : Sl) (x : Tk) (h : RowsAt w 8 (tkP w) s [x]) : Calls Tryz.prog 83 #[.slice s.a s.n s.c] w fun e w' => (∃ a c, e = .returned (.slice a 1 c) ∧ w'.ownsRow w.heap.size 3 1 (.slice a 1 c) 1 [I x.prio]) ∧ Below w.heap.size w w' := by
  have k1 := rows_Task_int w s [x] h (by simp) 137 #[] (enters_of Tryz.func137 (by kernel_rfl) rfl) (fun x => x.prio) (fun W hW y hy s4 h4 s5 h5 s6 h6 s7 h7 => prio1_any W y s4 s5 s6 s7)
  have k2 := fun W a c F => sort1 W a c F
  have k3 := fun W a c => compact1 W a c
  go_enter Tryz.func83, Tryz.ntmps83
  go_wp2_with (first
    | (go_at_call 136; refine k1.mono ?_; clear k1; rintro e w1 ⟨⟨a1, c1, xs, rfl, o1, x1⟩, b1⟩)
    | (go_at_call 138; refine (k2 _ _ _ _).mono ?_; clear k2; rintro e w2 ⟨rfl, rfl⟩)
    | (go_at_call 141; refine (k3 _ _ _).mono ?_; clear k3; rintro e w3 ⟨rfl, rfl⟩))
  go_ret
  have e9 : xs = [I x.prio] := by
    have h1 := x1.n
    obtain ⟨u, h2, h3⟩ := x1.at' 0 x.prio rfl 0 (by omega)
    match xs, h1, h2 with
    | [z], _, h2 => simp at h2; subst h2; exact congrArg (fun z => [z]) h3
  subst e9
  exact ⟨⟨a1, c1, rfl, o1⟩, b1⟩
end Go.Proofs.YtmidaeljeoifdaaGreatDoor

