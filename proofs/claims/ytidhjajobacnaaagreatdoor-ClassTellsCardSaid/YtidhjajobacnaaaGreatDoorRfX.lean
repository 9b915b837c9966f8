import Derived.Test.YtidhjajobacnaaaGreatDoorKqb
namespace Go.Proofs.YtidhjajobacnaaaGreatDoor
open Go.RowKit Go.Sort
set_option linter.unusedVariables false

set_option maxHeartbeats 1000000 in
theorem oneInternal_any (w : World) (c : Cf) (v : Vs) (h : CfAt w c v) (i : Nat) (x : Tk) (hi : c.tasks[i]? = some x) (hv : ∀ y ∈ x.res, isId y v.r.n = true) :
    Calls Tryz.prog 81 #[.agg (cfC c v), I i] w fun e w' => Ans w (decide ((intN c x.res : Int) ≤ 1)) e w' := by
  have hn : v.t.n = c.tasks.length := h.t.n
  have hlt : (i : Int) < v.t.n := by have := (List.getElem?_eq_some_iff.1 hi).1; omega
  obtain ⟨g, off, s4, s5, s6, s7, e, hg, a0, a1, a2, a3, a4, a5, a6, a7, r4, r5, r6, r7⟩ := tk_at h hi
  have hne : g ≠ w.heap.size := by omega
  have hb := below_alloc w
  have hb2 := fun o o' => (hb o).trans ((below_alloc (w.alloc o) o').mono (hb o).size)
  have hi18 : (Tryz.prog.info? 33).map (·.size) = some (cfC c v).size := by rw [show (cfC c v).size = 18 from rfl]; kernel_rfl
  have hV0 := heap_alloc_new w (.cells (cfC c v) 33)
  have h0 := h.below (hb (.cells (cfC c v) 33))
  have hg0 := Nat.lt_of_lt_of_le hg (hb (.cells (cfC c v) 33)).size
  have c1 : ∀ d os, Calls Tryz.prog 113 #[.agg (cfC c v), .slice s5.a s5.n s5.c] (grow (redrawn (w.alloc (.cells (cfC c v) 33)) d) os) fun e w'' => e = .returned (I (intN c x.res)) ∧ ∃ p : Regrown, w'' = grow (redrawn (w.alloc (.cells (cfC c v) 33)) p.d) p.os := fun d os => Calls.regrown_of (internals_any _ c v (h0.below (below_regrown _ d os)) s5 x.res ((r5.below (hb _) (fun _ _ _ _ h => h)).below (below_regrown _ d os) (fun _ _ _ _ h => h)) hv)
  have kV : (w.alloc (.cells (cfC c v) 33)).cell? ⟨w.heap.size, 11, none⟩ = some (.slice (some ⟨g, off, none⟩) v.t.n v.t.c) := by rw [← e]; exact cell_of_row _ w.heap.size 11 _ _ (0, 0) hV0
  have kx : (w.alloc (.cells (cfC c v) 33)).cell? ⟨g, off + i * 8 + 5, none⟩ = some (.slice s5.a s5.n s5.c) := by rw [cell_below (hb _) _ _ hg]; exact a5
  have hbw := hb (.cells (cfC c v) 33)
  have f11 : ∀ h : 11 < (cfC c v).size, (cfC c v)[11] = .slice v.t.a v.t.n v.t.c := fun _ => rfl
  have hs18 : (cfC c v).size = 18 := rfl
  generalize cfC c v = C at *
  replace f11 := f11 (by omega)
  rw [e] at f11
  clear hi hn
  go_enter Tryz.func81, Tryz.ntmps81
  go_wp2
  generalize w.alloc (.cells C 33) = W0 at *
  have k0 := cell_regrown kV
  have k1 := cell_regrown kx
  refine wp_region_quiet_below (by kernel_rfl) (by kernel_rfl) ?_
  refine wpQuiet_load_row rfl 33 _ rfl w.heap.size rfl 33 _ (0, 0) _ (heap_regrown hV0) Tryz.underlying33 rfl hi18 ?_
  repeat (quiet_step (first | exact c1 _ _))
  refine wpQuiet_nil ?_
  intro _ hw'
  obtain ⟨⟨dq, osq⟩, hw''⟩ := hw'
  subst hw''
  go_wp2
  go_ret
  exact ⟨ret_bool (by simp), hbw.trans ((below_regrown W0 dq osq).mono hbw.size)⟩
set_option maxHeartbeats 1000000 in
theorem noInternal_any (w : World) (c : Cf) (v : Vs) (h : CfAt w c v) (i : Nat) (x : Is) (hi : c.isrs[i]? = some x) (hv : ∀ y ∈ x.res, isId y v.r.n = true) :
    Calls Tryz.prog 98 #[.agg (cfC c v), I i] w fun e w' => Ans w ((intN c x.res : Int) == 0) e w' := by
  have hn : v.i.n = c.isrs.length := h.i.n
  have hlt : (i : Int) < v.i.n := by have := (List.getElem?_eq_some_iff.1 hi).1; omega
  obtain ⟨g, off, s3, s4, e, hg, a0, a1, a2, a3, a4, r3, r4⟩ := is_at h hi
  have hne : g ≠ w.heap.size := by omega
  have hb := below_alloc w
  have hb2 := fun o o' => (hb o).trans ((below_alloc (w.alloc o) o').mono (hb o).size)
  have hi18 : (Tryz.prog.info? 33).map (·.size) = some (cfC c v).size := by rw [show (cfC c v).size = 18 from rfl]; kernel_rfl
  have hV0 := heap_alloc_new w (.cells (cfC c v) 33)
  have h0 := h.below (hb (.cells (cfC c v) 33))
  have hg0 := Nat.lt_of_lt_of_le hg (hb (.cells (cfC c v) 33)).size
  have c1 : ∀ d os, Calls Tryz.prog 113 #[.agg (cfC c v), .slice s3.a s3.n s3.c] (grow (redrawn (w.alloc (.cells (cfC c v) 33)) d) os) fun e w'' => e = .returned (I (intN c x.res)) ∧ ∃ p : Regrown, w'' = grow (redrawn (w.alloc (.cells (cfC c v) 33)) p.d) p.os := fun d os => Calls.regrown_of (internals_any _ c v (h0.below (below_regrown _ d os)) s3 x.res ((r3.below (hb _) (fun _ _ _ _ h => h)).below (below_regrown _ d os) (fun _ _ _ _ h => h)) hv)
  have kV : (w.alloc (.cells (cfC c v) 33)).cell? ⟨w.heap.size, 16, none⟩ = some (.slice (some ⟨g, off, none⟩) v.i.n v.i.c) := by rw [← e]; exact cell_of_row _ w.heap.size 16 _ _ (0, 0) hV0
  have kx : (w.alloc (.cells (cfC c v) 33)).cell? ⟨g, off + i * 5 + 3, none⟩ = some (.slice s3.a s3.n s3.c) := by rw [cell_below (hb _) _ _ hg]; exact a3
  have hbw := hb (.cells (cfC c v) 33)
  have f16 : ∀ h : 16 < (cfC c v).size, (cfC c v)[16] = .slice v.i.a v.i.n v.i.c := fun _ => rfl
  have hs18 : (cfC c v).size = 18 := rfl
  generalize cfC c v = C at *
  replace f16 := f16 (by omega)
  rw [e] at f16
  clear hi hn
  go_enter Tryz.func98, Tryz.ntmps98
  go_wp2
  generalize w.alloc (.cells C 33) = W0 at *
  have k0 := cell_regrown kV
  have k1 := cell_regrown kx
  refine wp_region_quiet_below (by kernel_rfl) (by kernel_rfl) ?_
  refine wpQuiet_load_row rfl 33 _ rfl w.heap.size rfl 33 _ (0, 0) _ (heap_regrown hV0) Tryz.underlying33 rfl hi18 ?_
  repeat (quiet_step (first | exact c1 _ _))
  refine wpQuiet_nil ?_
  intro _ hw'
  obtain ⟨⟨dq, osq⟩, hw''⟩ := hw'
  subst hw''
  go_wp2
  go_ret
  exact ⟨rfl, hbw.trans ((below_regrown W0 dq osq).mono hbw.size)⟩
end Go.Proofs.YtidhjajobacnaaaGreatDoor

namespace Go.Proofs.YtidhjajobacnaaaGreatDoor
open Go.RowKit
set_option linter.unusedVariables false

set_option maxHeartbeats 1000000 in
theorem isrNumbersFit_any (w : World) (c : Cf) (v : Vs) (h : CfAt w c v) (i : Nat) (x : Is) (hi : c.isrs[i]? = some x) :
    Calls Tryz.prog 96 #[.agg (cfC c v), I i] w fun e w' => Ans w (inR x.cat 1 2 && inR x.prio 64 127) e w' := by
  have hn : v.i.n = c.isrs.length := h.i.n
  have hlt : (i : Int) < v.i.n := by have := (List.getElem?_eq_some_iff.1 hi).1; omega
  obtain ⟨g, off, s3, s4, e, hg, a0, a1, a2, a3, a4, r3, r4⟩ := is_at h hi
  have hne : g ≠ w.heap.size := by omega
  have hb := below_alloc w
  have hb2 := fun o o' => (hb o).trans ((below_alloc (w.alloc o) o').mono (hb o).size)
  have c1 := within_int x.cat 1 2
  have c2 := within_int x.prio 64 127
  have f16 : ∀ h : 16 < (cfC c v).size, (cfC c v)[16] = .slice v.i.a v.i.n v.i.c := fun _ => rfl
  have hs18 : (cfC c v).size = 18 := rfl
  generalize cfC c v = C at *
  replace f16 := f16 (by omega)
  rw [e] at f16
  clear hi hn
  generalize hgb1 : (inR x.cat 1 2) = b1 at *
  generalize hgb2 : (inR x.prio 64 127) = b2 at *
  cases b1 with
  | false =>
    go_enter Tryz.func96, Tryz.ntmps96
    go_wp2_with (first | (go_at_call 57; refine (c1 _).mono ?_; clear c1; rintro e w' ⟨rfl, rfl⟩) | (go_at_call 57; refine (c2 _).mono ?_; clear c2; rintro e w' ⟨rfl, rfl⟩))
    go_ret
    first | exact ⟨by simp, hb _⟩ | exact ⟨by simp, hb2 _ _⟩
  | true =>
    cases b2 with
    | false =>
      go_enter Tryz.func96, Tryz.ntmps96
      go_wp2_with (first | (go_at_call 57; refine (c1 _).mono ?_; clear c1; rintro e w' ⟨rfl, rfl⟩) | (go_at_call 57; refine (c2 _).mono ?_; clear c2; rintro e w' ⟨rfl, rfl⟩))
      go_ret
      first | exact ⟨by simp, hb _⟩ | exact ⟨by simp, hb2 _ _⟩
    | true =>
      go_enter Tryz.func96, Tryz.ntmps96
      go_wp2_with (first | (go_at_call 57; refine (c1 _).mono ?_; clear c1; rintro e w' ⟨rfl, rfl⟩) | (go_at_call 57; refine (c2 _).mono ?_; clear c2; rintro e w' ⟨rfl, rfl⟩))
      go_ret
      first | exact ⟨by simp, hb _⟩ | exact ⟨by simp, hb2 _ _⟩
set_option maxHeartbeats 1000000 in
theorem isrListsRise_any (w : World) (c : Cf) (v : Vs) (h : CfAt w c v) (i : Nat) (x : Is) (hi : c.isrs[i]? = some x) :
    Calls Tryz.prog 97 #[.agg (cfC c v), I i] w fun e w' => Ans w (risF (-1) x.res v.r.n && risF (-1) x.msgs v.s.n) e w' := by
  have hn : v.i.n = c.isrs.length := h.i.n
  have hlt : (i : Int) < v.i.n := by have := (List.getElem?_eq_some_iff.1 hi).1; omega
  obtain ⟨g, off, s3, s4, e, hg, a0, a1, a2, a3, a4, r3, r4⟩ := is_at h hi
  have hne : g ≠ w.heap.size := by omega
  have hb := below_alloc w
  have hb2 := fun o o' => (hb o).trans ((below_alloc (w.alloc o) o').mono (hb o).size)
  have c1 := fun W (hW : Below w.heap.size w W) => rises_any W s3 x.res (r3.below hW (fun _ _ _ _ h => h)) v.r.n
  have c2 := fun W (hW : Below w.heap.size w W) => rises_any W s4 x.msgs (r4.below hW (fun _ _ _ _ h => h)) v.s.n
  have f12 : ∀ h : 12 < (cfC c v).size, (cfC c v)[12] = .slice v.r.a v.r.n v.r.c := fun _ => rfl
  have f16 : ∀ h : 16 < (cfC c v).size, (cfC c v)[16] = .slice v.i.a v.i.n v.i.c := fun _ => rfl
  have f17 : ∀ h : 17 < (cfC c v).size, (cfC c v)[17] = .slice v.s.a v.s.n v.s.c := fun _ => rfl
  have hs18 : (cfC c v).size = 18 := rfl
  generalize cfC c v = C at *
  replace f12 := f12 (by omega)
  replace f16 := f16 (by omega)
  replace f17 := f17 (by omega)
  rw [e] at f16
  clear hi hn
  generalize hgb1 : (risF (-1) x.res v.r.n) = b1 at *
  generalize hgb2 : (risF (-1) x.msgs v.s.n) = b2 at *
  cases b1 with
  | false =>
    go_enter Tryz.func97, Tryz.ntmps97
    go_wp2_with (first | (go_at_call 112; refine (c1 _ (hb2 _ _)).mono ?_; clear c1; rintro e w' ⟨rfl, rfl⟩) | (go_at_call 112; refine (c2 _ (hb2 _ _)).mono ?_; clear c2; rintro e w' ⟨rfl, rfl⟩))
    go_ret
    first | exact ⟨by simp, hb _⟩ | exact ⟨by simp, hb2 _ _⟩
  | true =>
    cases b2 with
    | false =>
      go_enter Tryz.func97, Tryz.ntmps97
      go_wp2_with (first | (go_at_call 112; refine (c1 _ (hb2 _ _)).mono ?_; clear c1; rintro e w' ⟨rfl, rfl⟩) | (go_at_call 112; refine (c2 _ (hb2 _ _)).mono ?_; clear c2; rintro e w' ⟨rfl, rfl⟩))
      go_ret
      first | exact ⟨by simp, hb _⟩ | exact ⟨by simp, hb2 _ _⟩
    | true =>
      go_enter Tryz.func97, Tryz.ntmps97
      go_wp2_with (first | (go_at_call 112; refine (c1 _ (hb2 _ _)).mono ?_; clear c1; rintro e w' ⟨rfl, rfl⟩) | (go_at_call 112; refine (c2 _ (hb2 _ _)).mono ?_; clear c2; rintro e w' ⟨rfl, rfl⟩))
      go_ret
      first | exact ⟨by simp, hb _⟩ | exact ⟨by simp, hb2 _ _⟩
set_option maxHeartbeats 1000000 in
theorem firstCategoryIsBare_any (w : World) (c : Cf) (v : Vs) (h : CfAt w c v) (i : Nat) (x : Is) (hi : c.isrs[i]? = some x) :
    Calls Tryz.prog 99 #[.agg (cfC c v), I i] w fun e w' => Ans w (x.cat != 1 || ((x.res.length : Int) == 0 && (x.msgs.length : Int) == 0)) e w' := by
  have hn : v.i.n = c.isrs.length := h.i.n
  have hlt : (i : Int) < v.i.n := by have := (List.getElem?_eq_some_iff.1 hi).1; omega
  obtain ⟨g, off, s3, s4, e, hg, a0, a1, a2, a3, a4, r3, r4⟩ := is_at h hi
  have hne : g ≠ w.heap.size := by omega
  have hb := below_alloc w
  have hb2 := fun o o' => (hb o).trans ((below_alloc (w.alloc o) o').mono (hb o).size)
  have hl3 : Hid (s3.n = x.res.length) := r3.n
  have hl4 : Hid (s4.n = x.msgs.length) := r4.n
  have f16 : ∀ h : 16 < (cfC c v).size, (cfC c v)[16] = .slice v.i.a v.i.n v.i.c := fun _ => rfl
  have hs18 : (cfC c v).size = 18 := rfl
  generalize cfC c v = C at *
  replace f16 := f16 (by omega)
  rw [e] at f16
  clear hi hn
  rw [← hl3.out, ← hl4.out]
  generalize hc1 : (x.cat != 1) = b1 at *
  generalize hc2 : ((s3.n : Int) == 0) = b2 at *
  cases b1 <;> cases b2 <;> (go_enter Tryz.func99, Tryz.ntmps99; go_wp2; go_ret; exact ⟨ret_bool (by simp), hb2 _ _⟩)
set_option maxHeartbeats 1000000 in
theorem counterIsID_any (w : World) (c : Cf) (v : Vs) (h : CfAt w c v) (i : Nat) (x : Al) (hi : c.als[i]? = some x) :
    Calls Tryz.prog 89 #[.agg (cfC c v), I i] w fun e w' => Ans w (isId x.ctr v.k.n) e w' := by
  have hn : v.a.n = c.als.length := h.a.n
  have hlt : (i : Int) < v.a.n := by have := (List.getElem?_eq_some_iff.1 hi).1; omega
  obtain ⟨g, off, s6, e, hg, a0, a1, a2, a3, a4, a5, a6, a7, a8, r6⟩ := al_at h hi
  have hne : g ≠ w.heap.size := by omega
  have hb := below_alloc w
  have hb2 := fun o o' => (hb o).trans ((below_alloc (w.alloc o) o').mono (hb o).size)
  have c1 := isID_any x.ctr v.k.n
  have f14 : ∀ h : 14 < (cfC c v).size, (cfC c v)[14] = .slice v.k.a v.k.n v.k.c := fun _ => rfl
  have f15 : ∀ h : 15 < (cfC c v).size, (cfC c v)[15] = .slice v.a.a v.a.n v.a.c := fun _ => rfl
  have hs18 : (cfC c v).size = 18 := rfl
  generalize cfC c v = C at *
  replace f14 := f14 (by omega)
  replace f15 := f15 (by omega)
  rw [e] at f15
  clear hi hn
  go_enter Tryz.func89, Tryz.ntmps89
  go_wp2
  go_quiet (first | (go_at_call 19; refine Calls.quiet_of_same (c1 _)))
  go_wp2
  go_ret
  exact ⟨rfl, below_drewN (hb _) _⟩
set_option maxHeartbeats 1000000 in
theorem alarmModesRise_any (w : World) (c : Cf) (v : Vs) (h : CfAt w c v) (i : Nat) (x : Al) (hi : c.als[i]? = some x) :
    Calls Tryz.prog 92 #[.agg (cfC c v), I i] w fun e w' => Ans w (risF (-1) x.auto v.m.n) e w' := by
  have hn : v.a.n = c.als.length := h.a.n
  have hlt : (i : Int) < v.a.n := by have := (List.getElem?_eq_some_iff.1 hi).1; omega
  obtain ⟨g, off, s6, e, hg, a0, a1, a2, a3, a4, a5, a6, a7, a8, r6⟩ := al_at h hi
  have hne : g ≠ w.heap.size := by omega
  have hb := below_alloc w
  have hb2 := fun o o' => (hb o).trans ((below_alloc (w.alloc o) o').mono (hb o).size)
  have c1 := fun W (hW : Below w.heap.size w W) => rises_any W s6 x.auto (r6.below hW (fun _ _ _ _ h => h)) v.m.n
  have f10 : ∀ h : 10 < (cfC c v).size, (cfC c v)[10] = .slice v.m.a v.m.n v.m.c := fun _ => rfl
  have f15 : ∀ h : 15 < (cfC c v).size, (cfC c v)[15] = .slice v.a.a v.a.n v.a.c := fun _ => rfl
  have hs18 : (cfC c v).size = 18 := rfl
  generalize cfC c v = C at *
  replace f10 := f10 (by omega)
  replace f15 := f15 (by omega)
  rw [e] at f15
  clear hi hn
  go_enter Tryz.func92, Tryz.ntmps92
  go_wp2
  go_quiet (first | (go_at_call 112; refine Calls.quiet_of_same (c1 _ (below_drewN (hb _) _))))
  go_wp2
  go_ret
  exact ⟨rfl, below_drewN (hb _) _⟩
end Go.Proofs.YtidhjajobacnaaaGreatDoor

namespace Go.Proofs.YtidhjajobacnaaaGreatDoor
open Go.RowKit
set_option linter.unusedVariables false

def ctrOf (c : Cf) (i : Int) : Ct := match c.ctrs[i.toNat]? with | some x => x | none => ⟨[], 0, 0, 0⟩
/-- Time and cycle of an alarm, as its counter and modes allow them. -/
def timesL (c : Cf) (x : Al) : Bool := if (x.auto.length : Int) == 0 then ((x.time : Int) == 0 && (x.cycle : Int) == 0) else (inR x.time 1 (ctrOf c x.ctr).max && ((x.cycle : Int) == 0 || inR x.cycle (ctrOf c x.ctr).min (ctrOf c x.ctr).max))
set_option maxHeartbeats 2000000 in
theorem alarmTimesFit_any (w : World) (c : Cf) (v : Vs) (h : CfAt w c v) (i : Nat) (x : Al) (hi : c.als[i]? = some x) (hv : isId x.ctr v.k.n = true) :
    Calls Tryz.prog 93 #[.agg (cfC c v), I i] w fun e w' => Ans w (timesL c x) e w' := by
  have hn : v.a.n = c.als.length := h.a.n
  have hlt : (i : Int) < v.a.n := by have := (List.getElem?_eq_some_iff.1 hi).1; omega
  obtain ⟨g, off, s6, e, hg, a0, a1, a2, a3, a4, a5, a6, a7, a8, r6⟩ := al_at h hi
  have hne : g ≠ w.heap.size := by omega
  have hb := below_alloc w
  have hb2 := fun o o' => (hb o).trans ((below_alloc (w.alloc o) o').mono (hb o).size)
  have hl6 : Hid (s6.n = x.auto.length) := r6.n
  have hr : 0 ≤ x.ctr ∧ x.ctr < v.k.n := by simpa [isId] using hv
  obtain ⟨q, hq⟩ := Int.eq_ofNat_of_zero_le hr.1
  have hq' : (q : Int) < v.k.n := by omega
  have hql : q < c.ctrs.length := by have := h.k.n; omega
  obtain ⟨y, hy⟩ : ∃ y, c.ctrs[q]? = some y := ⟨_, List.getElem?_eq_getElem hql⟩
  obtain ⟨g', off', e', hg', b0, b1, b2, b3⟩ := ct_at h hy
  have hne' : g' ≠ w.heap.size := by omega
  have hgl : g' < w.heap.size + 1 := by omega
  have hne'' : g' ≠ w.heap.size + 1 := by omega
  have HY : Hid (ctrOf c x.ctr = y) := by show _ = _; rw [ctrOf, hq]; simp [hy]
  have c1 := within_u32 x.time 1 y.max
  have c2 := within_u32 x.cycle y.min y.max
  have hb3 := fun o o' o'' => (hb2 o o').trans ((below_alloc ((w.alloc o).alloc o') o'').mono (hb2 o o').size)
  obtain ⟨B, hB⟩ : ∃ B, B = timesL c x := ⟨_, rfl⟩
  rw [← hB]
  have HB : Hid (B = _) := hB
  rw [hq] at a1
  clear hB hv hr hq hql hy
  have f14 : ∀ h : 14 < (cfC c v).size, (cfC c v)[14] = .slice v.k.a v.k.n v.k.c := fun _ => rfl
  have f15 : ∀ h : 15 < (cfC c v).size, (cfC c v)[15] = .slice v.a.a v.a.n v.a.c := fun _ => rfl
  have hs18 : (cfC c v).size = 18 := rfl
  generalize cfC c v = C at *
  replace f14 := f14 (by omega)
  replace f15 := f15 (by omega)
  rw [e] at f15
  clear hi hn
  rw [e'] at f14
  cases hau : (s6.n : Int) == 0 with
  | true =>
    have HE : Hid (B = ((x.time : Int) == 0 && (x.cycle : Int) == 0)) := by show _ = _; rw [HB.out, timesL, ← hl6.out, hau]; rfl
    clear HB
    cases htm : (x.time : Int) == 0 with
    | false =>
      go_enter Tryz.func93, Tryz.ntmps93
      go_wp2
      go_ret
      exact ⟨ret_bool (by rw [HE.out, htm]; rfl), by first | exact hb2 _ _ | exact hb _⟩
    | true =>
      go_enter Tryz.func93, Tryz.ntmps93
      go_wp2
      go_ret
      exact ⟨ret_bool (by rw [HE.out, htm]; rfl), by first | exact hb2 _ _ | exact hb _⟩
  | false =>
    have HE : Hid (B = (inR x.time 1 y.max && ((x.cycle : Int) == 0 || inR x.cycle y.min y.max))) := by show _ = _; rw [HB.out, timesL, ← hl6.out, hau, HY.out]; rfl
    clear HB
    generalize inR x.time 1 y.max = b1 at *
    cases b1 with
    | false =>
      go_enter Tryz.func93, Tryz.ntmps93
      go_wp2_with (first | (go_at_call 114; refine (c1 _).mono ?_; clear c1; rintro e w' ⟨rfl, rfl⟩) | (go_at_call 114; refine (c2 _).mono ?_; clear c2; rintro e w' ⟨rfl, rfl⟩))
      go_ret
      exact ⟨ret_bool (by rw [HE.out]; rfl), hb3 _ _ _⟩
    | true =>
      cases hcy : (x.cycle : Int) == 0 with
      | true =>
        go_enter Tryz.func93, Tryz.ntmps93
        go_wp2_with (first | (go_at_call 114; refine (c1 _).mono ?_; clear c1; rintro e w' ⟨rfl, rfl⟩) | (go_at_call 114; refine (c2 _).mono ?_; clear c2; rintro e w' ⟨rfl, rfl⟩))
        go_ret
        exact ⟨ret_bool (by rw [HE.out, hcy]; rfl), hb3 _ _ _⟩
      | false =>
        generalize inR x.cycle y.min y.max = b2 at *
        go_enter Tryz.func93, Tryz.ntmps93
        go_wp2_with (first | (go_at_call 114; refine (c1 _).mono ?_; clear c1; rintro e w' ⟨rfl, rfl⟩) | (go_at_call 114; refine (c2 _).mono ?_; clear c2; rintro e w' ⟨rfl, rfl⟩))
        go_ret
        exact ⟨ret_bool (by rw [HE.out, hcy]; rfl), hb3 _ _ _⟩
end Go.Proofs.YtidhjajobacnaaaGreatDoor

