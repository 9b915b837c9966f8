import Derived.Test.YtpbnpmeigdjfdaaGreatDoorXKrt
import Derived.Deep.WholeRow
namespace Go.Proofs.YtpbnpmeigdjfdaaGreatDoor
open Go.RowKit
set_option linter.unusedSimpArgs false
set_option linter.unusedVariables false
set_option maxHeartbeats 16000000
set_option maxRecDepth 100000
theorem linkIsID_any (w : World) (c : Cf) (v : Vs) (h : CfAt w c v) (i : Nat) (x : Rs) (hi : c.ress[i]? = some x) :
  Calls Tryz.prog 116 #[.agg (cfC c v), I i] w fun e w' => Ans w (isId x.link v.r.n) e w' := by
 have hn : v.r.n = c.ress.length := h.r.n
 have hlt : (i : Int) < v.r.n := by have := (List.getElem?_eq_some_iff.1 hi).1; omega
 obtain ⟨g, off, e, hg, a0, a1, a2⟩ := rs_at h hi
 have hne : g ≠ w.heap.size := by omega
 have hb := below_alloc w
 have hb2 := fun o o' => (hb o).trans ((below_alloc (w.alloc o) o').mono (hb o).size)
 have c1 := isID_any x.link v.r.n
 have f12 : ∀ h : 12 < (cfC c v).size, (cfC c v)[12] = .slice v.r.a v.r.n v.r.c := fun _ => rfl
 have hs18 : (cfC c v).size = 18 := rfl
 generalize cfC c v = C at *
 replace f12 := f12 (by omega)
 rw [e] at f12
 clear hi hn
 go_enter Tryz.func116, Tryz.ntmps116
 go_wp2
 go_quiet (first | (go_at_call 165; refine Calls.quiet_of_same (c1 _)))
 go_wp2
 go_ret
 exact ⟨rfl, below_drewN (hb _) _⟩
theorem maskIsSome_any (w : World) (c : Cf) (v : Vs) (h : CfAt w c v) (i : Nat) (x : Ev) (hi : c.evs[i]? = some x) :
  Calls Tryz.prog 120 #[.agg (cfC c v), I i] w fun e w' => Ans w ((x.mask : Int) != 0) e w' := by
 have hn : v.e.n = c.evs.length := h.e.n
 have hlt : (i : Int) < v.e.n := by have := (List.getElem?_eq_some_iff.1 hi).1; omega
 obtain ⟨g, off, e, hg, a0, a1, a2⟩ := ev_at h hi
 have hne : g ≠ w.heap.size := by omega
 have hb := below_alloc w
 have hb2 := fun o o' => (hb o).trans ((below_alloc (w.alloc o) o').mono (hb o).size)
 have f13 : ∀ h : 13 < (cfC c v).size, (cfC c v)[13] = .slice v.e.a v.e.n v.e.c := fun _ => rfl
 have hs18 : (cfC c v).size = 18 := rfl
 generalize cfC c v = C at *
 replace f13 := f13 (by omega)
 rw [e] at f13
 clear hi hn
 go_enter Tryz.func120, Tryz.ntmps120
 go_wp2
 go_ret
 first | exact ⟨rfl, hb _⟩ | exact ⟨rfl, hb2 _ _⟩
theorem counterFits_any (w : World) (c : Cf) (v : Vs) (h : CfAt w c v) (i : Nat) (x : Ct) (hi : c.ctrs[i]? = some x) :
  Calls Tryz.prog 131 #[.agg (cfC c v), I i] w fun e w' => Ans w (inR x.max 1 2147483647 && inR x.base 1 2147483647 && inR x.min 1 x.max) e w' := by
 have hn : v.k.n = c.ctrs.length := h.k.n
 have hlt : (i : Int) < v.k.n := by have := (List.getElem?_eq_some_iff.1 hi).1; omega
 obtain ⟨g, off, e, hg, a0, a1, a2, a3⟩ := ct_at h hi
 have hne : g ≠ w.heap.size := by omega
 have hb := below_alloc w
 have hb2 := fun o o' => (hb o).trans ((below_alloc (w.alloc o) o').mono (hb o).size)
 have c1 := within_u32 x.max 1 2147483647
 have c2 := within_u32 x.base 1 2147483647
 have c3 := within_u32 x.min 1 x.max
 have f14 : ∀ h : 14 < (cfC c v).size, (cfC c v)[14] = .slice v.k.a v.k.n v.k.c := fun _ => rfl
 have hs18 : (cfC c v).size = 18 := rfl
 generalize cfC c v = C at *
 replace f14 := f14 (by omega)
 rw [e] at f14
 clear hi hn
 generalize hgb1 : (inR x.max 1 2147483647) = b1 at *
 generalize hgb2 : (inR x.base 1 2147483647) = b2 at *
 generalize hgb3 : (inR x.min 1 x.max) = b3 at *
 cases b1 with
 | false =>
  go_enter Tryz.func131, Tryz.ntmps131
  go_wp2_with (first | (go_at_call 170; refine (c1 _).mono ?_; clear c1; rintro e w' ⟨rfl, rfl⟩) | (go_at_call 170; refine (c2 _).mono ?_; clear c2; rintro e w' ⟨rfl, rfl⟩) | (go_at_call 170; refine (c3 _).mono ?_; clear c3; rintro e w' ⟨rfl, rfl⟩))
  go_ret
  first | exact ⟨by simp, hb _⟩ | exact ⟨by simp, hb2 _ _⟩
 | true =>
  cases b2 with
  | false =>
   go_enter Tryz.func131, Tryz.ntmps131
   go_wp2_with (first | (go_at_call 170; refine (c1 _).mono ?_; clear c1; rintro e w' ⟨rfl, rfl⟩) | (go_at_call 170; refine (c2 _).mono ?_; clear c2; rintro e w' ⟨rfl, rfl⟩) | (go_at_call 170; refine (c3 _).mono ?_; clear c3; rintro e w' ⟨rfl, rfl⟩))
   go_ret
   first | exact ⟨by simp, hb _⟩ | exact ⟨by simp, hb2 _ _⟩
  | true =>
   cases b3 with
   | false =>
    go_enter Tryz.func131, Tryz.ntmps131
    go_wp2_with (first | (go_at_call 170; refine (c1 _).mono ?_; clear c1; rintro e w' ⟨rfl, rfl⟩) | (go_at_call 170; refine (c2 _).mono ?_; clear c2; rintro e w' ⟨rfl, rfl⟩) | (go_at_call 170; refine (c3 _).mono ?_; clear c3; rintro e w' ⟨rfl, rfl⟩))
    go_ret
    first | exact ⟨by simp, hb _⟩ | exact ⟨by simp, hb2 _ _⟩
   | true =>
    go_enter Tryz.func131, Tryz.ntmps131
    go_wp2_with (first | (go_at_call 170; refine (c1 _).mono ?_; clear c1; rintro e w' ⟨rfl, rfl⟩) | (go_at_call 170; refine (c2 _).mono ?_; clear c2; rintro e w' ⟨rfl, rfl⟩) | (go_at_call 170; refine (c3 _).mono ?_; clear c3; rintro e w' ⟨rfl, rfl⟩))
    go_ret
    first | exact ⟨by simp, hb _⟩ | exact ⟨by simp, hb2 _ _⟩
theorem taskNumbersFit_any (w : World) (c : Cf) (v : Vs) (h : CfAt w c v) (i : Nat) (x : Tk) (hi : c.tasks[i]? = some x) :
  Calls Tryz.prog 123 #[.agg (cfC c v), I i] w fun e w' => Ans w (inR x.prio 0 63 && inR x.act 1 255) e w' := by
 have hn : v.t.n = c.tasks.length := h.t.n
 have hlt : (i : Int) < v.t.n := by have := (List.getElem?_eq_some_iff.1 hi).1; omega
 obtain ⟨g, off, s4, s5, s6, s7, e, hg, a0, a1, a2, a3, a4, a5, a6, a7, r4, r5, r6, r7⟩ := tk_at h hi
 have hne : g ≠ w.heap.size := by omega
 have hb := below_alloc w
 have hb2 := fun o o' => (hb o).trans ((below_alloc (w.alloc o) o').mono (hb o).size)
 have c1 := within_int x.prio 0 63
 have c2 := within_int x.act 1 255
 have f11 : ∀ h : 11 < (cfC c v).size, (cfC c v)[11] = .slice v.t.a v.t.n v.t.c := fun _ => rfl
 have hs18 : (cfC c v).size = 18 := rfl
 generalize cfC c v = C at *
 replace f11 := f11 (by omega)
 rw [e] at f11
 clear hi hn
 generalize hgb1 : (inR x.prio 0 63) = b1 at *
 generalize hgb2 : (inR x.act 1 255) = b2 at *
 cases b1 with
 | false =>
  go_enter Tryz.func123, Tryz.ntmps123
  go_wp2_with (first | (go_at_call 86; refine (c1 _).mono ?_; clear c1; rintro e w' ⟨rfl, rfl⟩) | (go_at_call 86; refine (c2 _).mono ?_; clear c2; rintro e w' ⟨rfl, rfl⟩))
  go_ret
  first | exact ⟨by simp, hb _⟩ | exact ⟨by simp, hb2 _ _⟩
 | true =>
  cases b2 with
  | false =>
   go_enter Tryz.func123, Tryz.ntmps123
   go_wp2_with (first | (go_at_call 86; refine (c1 _).mono ?_; clear c1; rintro e w' ⟨rfl, rfl⟩) | (go_at_call 86; refine (c2 _).mono ?_; clear c2; rintro e w' ⟨rfl, rfl⟩))
   go_ret
   first | exact ⟨by simp, hb _⟩ | exact ⟨by simp, hb2 _ _⟩
  | true =>
   go_enter Tryz.func123, Tryz.ntmps123
   go_wp2_with (first | (go_at_call 86; refine (c1 _).mono ?_; clear c1; rintro e w' ⟨rfl, rfl⟩) | (go_at_call 86; refine (c2 _).mono ?_; clear c2; rintro e w' ⟨rfl, rfl⟩))
   go_ret
   first | exact ⟨by simp, hb _⟩ | exact ⟨by simp, hb2 _ _⟩
theorem taskListsRise_any (w : World) (c : Cf) (v : Vs) (h : CfAt w c v) (i : Nat) (x : Tk) (hi : c.tasks[i]? = some x) :
  Calls Tryz.prog 124 #[.agg (cfC c v), I i] w fun e w' => Ans w (risF (-1) x.auto v.m.n && risF (-1) x.res v.r.n && risF (-1) x.evs v.e.n && risF (-1) x.msgs v.s.n) e w' := by
 have hn : v.t.n = c.tasks.length := h.t.n
 have hlt : (i : Int) < v.t.n := by have := (List.getElem?_eq_some_iff.1 hi).1; omega
 obtain ⟨g, off, s4, s5, s6, s7, e, hg, a0, a1, a2, a3, a4, a5, a6, a7, r4, r5, r6, r7⟩ := tk_at h hi
 have hne : g ≠ w.heap.size := by omega
 have hb := below_alloc w
 have hb2 := fun o o' => (hb o).trans ((below_alloc (w.alloc o) o').mono (hb o).size)
 have c1 := fun W (hW : Below w.heap.size w W) => rises_any W s4 x.auto (r4.below hW (fun _ _ _ _ h => h)) v.m.n
 have c2 := fun W (hW : Below w.heap.size w W) => rises_any W s5 x.res (r5.below hW (fun _ _ _ _ h => h)) v.r.n
 have c3 := fun W (hW : Below w.heap.size w W) => rises_any W s6 x.evs (r6.below hW (fun _ _ _ _ h => h)) v.e.n
 have c4 := fun W (hW : Below w.heap.size w W) => rises_any W s7 x.msgs (r7.below hW (fun _ _ _ _ h => h)) v.s.n
 have f10 : ∀ h : 10 < (cfC c v).size, (cfC c v)[10] = .slice v.m.a v.m.n v.m.c := fun _ => rfl
 have f11 : ∀ h : 11 < (cfC c v).size, (cfC c v)[11] = .slice v.t.a v.t.n v.t.c := fun _ => rfl
 have f12 : ∀ h : 12 < (cfC c v).size, (cfC c v)[12] = .slice v.r.a v.r.n v.r.c := fun _ => rfl
 have f13 : ∀ h : 13 < (cfC c v).size, (cfC c v)[13] = .slice v.e.a v.e.n v.e.c := fun _ => rfl
 have f17 : ∀ h : 17 < (cfC c v).size, (cfC c v)[17] = .slice v.s.a v.s.n v.s.c := fun _ => rfl
 have hs18 : (cfC c v).size = 18 := rfl
 generalize cfC c v = C at *
 replace f10 := f10 (by omega)
 replace f11 := f11 (by omega)
 replace f12 := f12 (by omega)
 replace f13 := f13 (by omega)
 replace f17 := f17 (by omega)
 rw [e] at f11
 clear hi hn
 generalize hgb1 : (risF (-1) x.auto v.m.n) = b1 at *
 generalize hgb2 : (risF (-1) x.res v.r.n) = b2 at *
 generalize hgb3 : (risF (-1) x.evs v.e.n) = b3 at *
 generalize hgb4 : (risF (-1) x.msgs v.s.n) = b4 at *
 cases b1 with
 | false =>
  go_enter Tryz.func124, Tryz.ntmps124
  go_wp2_with (first | (go_at_call 167; refine (c1 _ (hb2 _ _)).mono ?_; clear c1; rintro e w' ⟨rfl, rfl⟩) | (go_at_call 167; refine (c2 _ (hb2 _ _)).mono ?_; clear c2; rintro e w' ⟨rfl, rfl⟩) | (go_at_call 167; refine (c3 _ (hb2 _ _)).mono ?_; clear c3; rintro e w' ⟨rfl, rfl⟩) | (go_at_call 167; refine (c4 _ (hb2 _ _)).mono ?_; clear c4; rintro e w' ⟨rfl, rfl⟩))
  go_ret
  first | exact ⟨by simp, hb _⟩ | exact ⟨by simp, hb2 _ _⟩
 | true =>
  cases b2 with
  | false =>
   go_enter Tryz.func124, Tryz.ntmps124
   go_wp2_with (first | (go_at_call 167; refine (c1 _ (hb2 _ _)).mono ?_; clear c1; rintro e w' ⟨rfl, rfl⟩) | (go_at_call 167; refine (c2 _ (hb2 _ _)).mono ?_; clear c2; rintro e w' ⟨rfl, rfl⟩) | (go_at_call 167; refine (c3 _ (hb2 _ _)).mono ?_; clear c3; rintro e w' ⟨rfl, rfl⟩) | (go_at_call 167; refine (c4 _ (hb2 _ _)).mono ?_; clear c4; rintro e w' ⟨rfl, rfl⟩))
   go_ret
   first | exact ⟨by simp, hb _⟩ | exact ⟨by simp, hb2 _ _⟩
  | true =>
   cases b3 with
   | false =>
    go_enter Tryz.func124, Tryz.ntmps124
    go_wp2_with (first | (go_at_call 167; refine (c1 _ (hb2 _ _)).mono ?_; clear c1; rintro e w' ⟨rfl, rfl⟩) | (go_at_call 167; refine (c2 _ (hb2 _ _)).mono ?_; clear c2; rintro e w' ⟨rfl, rfl⟩) | (go_at_call 167; refine (c3 _ (hb2 _ _)).mono ?_; clear c3; rintro e w' ⟨rfl, rfl⟩) | (go_at_call 167; refine (c4 _ (hb2 _ _)).mono ?_; clear c4; rintro e w' ⟨rfl, rfl⟩))
    go_ret
    first | exact ⟨by simp, hb _⟩ | exact ⟨by simp, hb2 _ _⟩
   | true =>
    cases b4 with
    | false =>
     go_enter Tryz.func124, Tryz.ntmps124
     go_wp2_with (first | (go_at_call 167; refine (c1 _ (hb2 _ _)).mono ?_; clear c1; rintro e w' ⟨rfl, rfl⟩) | (go_at_call 167; refine (c2 _ (hb2 _ _)).mono ?_; clear c2; rintro e w' ⟨rfl, rfl⟩) | (go_at_call 167; refine (c3 _ (hb2 _ _)).mono ?_; clear c3; rintro e w' ⟨rfl, rfl⟩) | (go_at_call 167; refine (c4 _ (hb2 _ _)).mono ?_; clear c4; rintro e w' ⟨rfl, rfl⟩))
     go_ret
     first | exact ⟨by simp, hb _⟩ | exact ⟨by simp, hb2 _ _⟩
    | true =>
     go_enter Tryz.func124, Tryz.ntmps124
     go_wp2_with (first | (go_at_call 167; refine (c1 _ (hb2 _ _)).mono ?_; clear c1; rintro e w' ⟨rfl, rfl⟩) | (go_at_call 167; refine (c2 _ (hb2 _ _)).mono ?_; clear c2; rintro e w' ⟨rfl, rfl⟩) | (go_at_call 167; refine (c3 _ (hb2 _ _)).mono ?_; clear c3; rintro e w' ⟨rfl, rfl⟩) | (go_at_call 167; refine (c4 _ (hb2 _ _)).mono ?_; clear c4; rintro e w' ⟨rfl, rfl⟩))
     go_ret
     first | exact ⟨by simp, hb _⟩ | exact ⟨by simp, hb2 _ _⟩
theorem linkEnds_any (w : World) (c : Cf) (v : Vs) (h : CfAt w c v) (i : Nat) (x : Rs) (hi : c.ress[i]? = some x) :
  Calls Tryz.prog 117 #[.agg (cfC c v), I i] w fun e w' => Ans w (x.kind != 2 || (decide (0 ≤ rootF c c.ress.length i) && rkind c (rootF c c.ress.length i) == 1)) e w' := by
 have hn : v.r.n = c.ress.length := h.r.n
 have hlt : (i : Int) < v.r.n := by have := (List.getElem?_eq_some_iff.1 hi).1; omega
 obtain ⟨g, off, e, hg, a0, a1, a2⟩ := rs_at h hi
 have hne : g ≠ w.heap.size := by omega
 have hb := below_alloc w
 have hV0 := heap_alloc_new w (.cells (cfC c v) 33)
 have c1 := root_any _ c v (h.below (hb (.cells (cfC c v) 33))) i
 have hh := h.below (hb (.cells (cfC c v) 33))
 have hbw := hb (.cells (cfC c v) 33)
 obtain ⟨B, hB⟩ : ∃ B, B = (x.kind != 2 || (decide (0 ≤ rootF c c.ress.length i) && rkind c (rootF c c.ress.length i) == 1)) := ⟨_, rfl⟩
 rw [← hB]
 have HB : Hid (B = _) := hB
 have hro : rootF c c.ress.length i < v.r.n := by rw [hn]; exact rootF_lt c c.ress.length i
 have HN : Hid (v.r.n = c.ress.length) := hn
 clear hi hn hB
 generalize rootF c c.ress.length i = ρ at *
 have hV1 : ∀ w1, Below (w.alloc (.cells (cfC c v) 33)).heap.size (w.alloc (.cells (cfC c v) 33)) w1 → CfAt w1 c v ∧ Below w.heap.size w w1 ∧ w1.cell? ⟨w.heap.size, 12, none⟩ = some (.slice v.r.a v.r.n v.r.c) := fun w1 hb1 =>
  ⟨hh.below hb1, hbw.trans (hb1.mono hbw.size), cell_of_row w1 w.heap.size 12 _ _ (0, 0) ((hb1.block _ (heap_lt hV0)).trans hV0)⟩
 clear hV0 hh hbw
 have f12 : ∀ h : 12 < (cfC c v).size, (cfC c v)[12] = .slice v.r.a v.r.n v.r.c := fun _ => rfl
 have hs18 : (cfC c v).size = 18 := rfl
 have hi18 : (Tryz.prog.info? 33).map (·.size) = some (cfC c v).size := by rw [show (cfC c v).size = 18 from rfl]; kernel_rfl
 have hV0 := heap_alloc_new w (.cells (cfC c v) 33)
 generalize cfC c v = C at *
 replace f12 := f12 (by omega)
 rw [e] at hV1 f12
 cases hk : x.kind == 2 with
 | false =>
  have hk2 : Hid (B = true) := by show _ = _; rw [HB.out]; simp [bne, hk]
  clear c1 hV1 HB
  go_enter Tryz.func117, Tryz.ntmps117
  go_wp2
  go_ret
  exact ⟨ret_bool hk2.out.symm, hb _⟩
 | true =>
  have hk2 : Hid (B = (decide (0 ≤ ρ) && rkind c ρ == 1)) := by show _ = _; rw [HB.out]; simp [bne, hk]
  clear HB hb
  go_enter Tryz.func117, Tryz.ntmps117
  go_wp2_with (refine wpList_load_row rfl 33 _ rfl w.heap.size rfl 33 _ (0, 0) _ hV0 Tryz.underlying33 rfl hi18 ?_)
  refine c1.mono ?_
  rintro e1 w1 ⟨rfl, hb1⟩
  obtain ⟨h1, hbw1, k12⟩ := hV1 w1 hb1
  clear hb1 c1 hV1
  by_cases h0 : 0 ≤ ρ
  ·obtain ⟨q, rfl⟩ := Int.eq_ofNat_of_zero_le h0
   have hql : q < c.ress.length := by rw [← HN.out]; omega
   obtain ⟨y, hy⟩ : ∃ y, c.ress[q]? = some y := ⟨_, List.getElem?_eq_getElem hql⟩
   obtain ⟨g', off', e', hg', b0, b1, b2⟩ := rs_at h1 hy
   rw [e] at e'
   obtain ⟨rfl, rfl⟩ : g = g' ∧ off = off' := by cases e'; exact ⟨rfl, rfl⟩
   have hk3 : Hid (B = (y.kind == 1)) := by show _ = _; rw [hk2.out]; simp [rkind, hy]
   clear hy hql e' h1 h a0 a1 a2 b0 b2 hk2
   go_wp2
   go_ret
   exact ⟨ret_bool hk3.out.symm, hbw1⟩
  ·have HF : Hid (B = false) := by show _ = _; rw [hk2.out, decide_eq_false h0]; rfl
   go_wp2
   go_ret
   exact ⟨ret_bool HF.out.symm, hbw1⟩
theorem taskEventsFit_any (w : World) (c : Cf) (v : Vs) (h : CfAt w c v) (i : Nat) (x : Tk) (hi : c.tasks[i]? = some x) :
  Calls Tryz.prog 125 #[.agg (cfC c v), I i] w fun e w' => Ans w (decide ((x.evs.length : Int) ≤ 32)) e w' := by
 have hn : v.t.n = c.tasks.length := h.t.n
 have hlt : (i : Int) < v.t.n := by have := (List.getElem?_eq_some_iff.1 hi).1; omega
 obtain ⟨g, off, s4, s5, s6, s7, e, hg, a0, a1, a2, a3, a4, a5, a6, a7, r4, r5, r6, r7⟩ := tk_at h hi
 have hne : g ≠ w.heap.size := by omega
 have hb := below_alloc w
 have hb2 := fun o o' => (hb o).trans ((below_alloc (w.alloc o) o').mono (hb o).size)
 have hl6 : Hid (s6.n = x.evs.length) := r6.n
 have f11 : ∀ h : 11 < (cfC c v).size, (cfC c v)[11] = .slice v.t.a v.t.n v.t.c := fun _ => rfl
 have hs18 : (cfC c v).size = 18 := rfl
 generalize cfC c v = C at *
 replace f11 := f11 (by omega)
 rw [e] at f11
 clear hi hn
 rw [← hl6.out]
 by_cases h32 : (s6.n : Int) ≤ 32
 ·go_enter Tryz.func125, Tryz.ntmps125
  go_wp2
  go_ret
  exact ⟨ret_bool (by simp [h32]), hb _⟩
 ·go_enter Tryz.func125, Tryz.ntmps125
  go_wp2
  go_ret
  exact ⟨ret_bool (by simp [h32]), hb _⟩
def extL (c : Cf) (t : Int) : Bool := isId t c.tasks.length && (match c.tasks[t.toNat]? with | some x => decide (0 < (x.evs.length : Int)) | none => false)
theorem extended_any (w : World) (c : Cf) (v : Vs) (h : CfAt w c v) (t : Int) :
  Calls Tryz.prog 168 #[.agg (cfC c v), I t] w fun e w' => Ans w (extL c t) e w' := by
 have hn : v.t.n = c.tasks.length := h.t.n
 have c1 := isID_any t v.t.n
 have hb := below_alloc w
 obtain ⟨B, hB⟩ : ∃ B, B = extL c t := ⟨_, rfl⟩
 rw [← hB]
 unfold extL at hB
 rw [← hn] at hB
 have HB : Hid (B = _) := hB
 have HN : Hid (v.t.n = c.tasks.length) := hn
 clear hB hn
 have f11 : ∀ h : 11 < (cfC c v).size, (cfC c v)[11] = .slice v.t.a v.t.n v.t.c := fun _ => rfl
 have hs18 : (cfC c v).size = 18 := rfl
 generalize cfC c v = C at *
 replace f11 := f11 (by omega)
 cases hid : isId t v.t.n with
 | false =>
  rw [hid] at c1
  have HF : Hid (B = false) := by show _ = _; rw [HB.out, hid]; rfl
  clear HB
  go_enter Tryz.func168, Tryz.ntmps168
  go_wp2_with (first | (go_at_call 165; refine (c1 _).mono ?_; rintro e w' ⟨rfl, rfl⟩))
  go_ret
  exact ⟨ret_bool HF.out.symm, hb _⟩
 | true =>
  rw [hid] at c1
  have hr : 0 ≤ t ∧ t < v.t.n := by simpa [isId] using hid
  obtain ⟨q, rfl⟩ := Int.eq_ofNat_of_zero_le hr.1
  have hq' : (q : Int) < v.t.n := hr.2
  have hql : q < c.tasks.length := by rw [← HN.out]; omega
  obtain ⟨x, hx⟩ : ∃ x, c.tasks[q]? = some x := ⟨_, List.getElem?_eq_getElem hql⟩
  obtain ⟨g, off, s4, s5, s6, s7, e, hg, a0, a1, a2, a3, a4, a5, a6, a7, r4, r5, r6, r7⟩ := tk_at h hx
  have hne : g ≠ w.heap.size := by omega
  have hl6 : s6.n = x.evs.length := r6.n
  have HF : Hid (B = decide (0 < (s6.n : Int))) := by show _ = _; rw [HB.out, hid, hl6]; simp [hx]
  rw [e] at f11
  clear HB hr hql hx hid hl6
  go_enter Tryz.func168, Tryz.ntmps168
  go_wp2_with (first | (go_at_call 165; refine (c1 _).mono ?_; rintro e w' ⟨rfl, rfl⟩))
  go_ret
  exact ⟨ret_bool (by rw [HF.out]; simp), hb _⟩
theorem extendedIsSingle_any (w : World) (c : Cf) (v : Vs) (h : CfAt w c v) (i : Nat) (x : Tk) (hi : c.tasks[i]? = some x) :
  Calls Tryz.prog 126 #[.agg (cfC c v), I i] w fun e w' => Ans w (!extL c i || x.act == 1) e w' := by
 have hn : v.t.n = c.tasks.length := h.t.n
 have hlt : (i : Int) < v.t.n := by have := (List.getElem?_eq_some_iff.1 hi).1; omega
 obtain ⟨g, off, s4, s5, s6, s7, e, hg, a0, a1, a2, a3, a4, a5, a6, a7, r4, r5, r6, r7⟩ := tk_at h hi
 have hne : g ≠ w.heap.size := by omega
 have hb := below_alloc w
 have hb2 := fun o o' => (hb o).trans ((below_alloc (w.alloc o) o').mono (hb o).size)
 have hi18 : (Tryz.prog.info? 33).map (·.size) = some (cfC c v).size := by rw [show (cfC c v).size = 18 from rfl]; kernel_rfl
 have hV0 := heap_alloc_new w (.cells (cfC c v) 33)
 have c1 := extended_any _ c v (h.below (hb (.cells (cfC c v) 33))) i
 have hV1 : ∀ w1, Below (w.alloc (.cells (cfC c v) 33)).heap.size (w.alloc (.cells (cfC c v) 33)) w1 → Below w.heap.size w w1 ∧ w1.cell? ⟨w.heap.size, 11, none⟩ = some (.slice (some ⟨g, off, none⟩) v.t.n v.t.c) ∧ w1.cell? ⟨g, off + i * 8 + 3, none⟩ = some (I x.act) := fun w1 hb1 =>
  ⟨(hb _).trans (hb1.mono (hb _).size), by rw [← e]; exact cell_of_row w1 w.heap.size 11 _ _ (0, 0) ((hb1.block _ (heap_lt hV0)).trans hV0), by rw [cell_below hb1 _ _ (Nat.lt_of_lt_of_le hg (hb _).size), cell_below (hb _) _ _ hg]; exact a3⟩
 generalize extL c i = b at *
 have f11 : ∀ h : 11 < (cfC c v).size, (cfC c v)[11] = .slice v.t.a v.t.n v.t.c := fun _ => rfl
 have hs18 : (cfC c v).size = 18 := rfl
 generalize cfC c v = C at *
 replace f11 := f11 (by omega)
 rw [e] at f11
 clear hi hn
 cases b with
 | false =>
  go_enter Tryz.func126, Tryz.ntmps126
  go_wp2_with (refine wpList_load_row rfl 33 _ rfl w.heap.size rfl 33 _ (0, 0) _ hV0 Tryz.underlying33 rfl hi18 ?_)
  refine c1.mono ?_
  rintro e1 w1 ⟨rfl, hb1⟩
  obtain ⟨hbw1, k11, x3⟩ := hV1 w1 hb1
  clear hb1 c1 hV1 hV0 hi18
  go_wp2
  go_ret
  exact ⟨by simp, hbw1⟩
 | true =>
  go_enter Tryz.func126, Tryz.ntmps126
  go_wp2_with (refine wpList_load_row rfl 33 _ rfl w.heap.size rfl 33 _ (0, 0) _ hV0 Tryz.underlying33 rfl hi18 ?_)
  refine c1.mono ?_
  rintro e1 w1 ⟨rfl, hb1⟩
  obtain ⟨hbw1, k11, x3⟩ := hV1 w1 hb1
  clear hb1 c1 hV1 hV0 hi18
  go_wp2
  go_ret
  exact ⟨by simp, hbw1⟩
end Go.Proofs.YtpbnpmeigdjfdaaGreatDoor
