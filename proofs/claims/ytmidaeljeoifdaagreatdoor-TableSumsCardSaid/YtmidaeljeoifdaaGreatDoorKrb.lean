import Derived.Test.YtmidaeljeoifdaaGreatDoorKrt
namespace Go.Proofs.YtmidaeljeoifdaaGreatDoor
set_option maxHeartbeats 16000000
open Go.RowKit
set_option linter.unusedVariables false
theorem linkIsID_any (w : World) (c : Cf) (v : Vs) (h : CfAt w c v) (i : Nat) (x : Rs) (hi : c.ress[i]? = some x) :
  Calls Tryz.prog 220 #[.agg (cfC c v), I i] w fun e w' => Ans w (isId x.link v.r.n) e w' := by
 have hn : v.r.n = c.ress.length := h.r.n
 have hlt : (i : Int) < v.r.n := by have := (List.getElem?_eq_some_iff.1 hi).1; omega
 obtain ⟨g, off, e, hg, a0, a1, a2⟩ := rs_at h hi
 have hne : g ≠ w.heap.size := by omega
 have hb := below_alloc w
 have hb2 := fun o o' => (hb o).trans ((below_alloc (w.alloc o) o').mono (hb o).size)
 have c1 := isID_any x.link v.r.n
 have f12 : ∀ h : 12 < (cfC c v).size, (cfC c v)[12] = .slice v.r.a v.r.n v.r.c := fun _ => rfl
 have hs18 : (cfC c v).size = 18 := rfl
 generalize cfC c v = C at *
 replace f12 := f12 (by omega)
 rw [e] at f12
 clear hi hn
 go_enter Tryz.func220, Tryz.ntmps220
 go_wp2
 go_quiet (first | (go_at_call 272; refine Calls.quiet_of_same (c1 _)))
 go_wp2
 go_ret
 exact ⟨rfl, below_drewN (hb _) _⟩
theorem maskIsSome_any (w : World) (c : Cf) (v : Vs) (h : CfAt w c v) (i : Nat) (x : Ev) (hi : c.evs[i]? = some x) :
  Calls Tryz.prog 224 #[.agg (cfC c v), I i] w fun e w' => Ans w ((x.mask : Int) != 0) e w' := by
 have hn : v.e.n = c.evs.length := h.e.n
 have hlt : (i : Int) < v.e.n := by have := (List.getElem?_eq_some_iff.1 hi).1; omega
 obtain ⟨g, off, e, hg, a0, a1, a2⟩ := ev_at h hi
 have hne : g ≠ w.heap.size := by omega
 have hb := below_alloc w
 have hb2 := fun o o' => (hb o).trans ((below_alloc (w.alloc o) o').mono (hb o).size)
 have f13 : ∀ h : 13 < (cfC c v).size, (cfC c v)[13] = .slice v.e.a v.e.n v.e.c := fun _ => rfl
 have hs18 : (cfC c v).size = 18 := rfl
 generalize cfC c v = C at *
 replace f13 := f13 (by omega)
 rw [e] at f13
 clear hi hn
 go_enter Tryz.func224, Tryz.ntmps224
 go_wp2
 go_ret
 first | exact ⟨rfl, hb _⟩ | exact ⟨rfl, hb2 _ _⟩
theorem counterFits_any (w : World) (c : Cf) (v : Vs) (h : CfAt w c v) (i : Nat) (x : Ct) (hi : c.ctrs[i]? = some x) :
  Calls Tryz.prog 235 #[.agg (cfC c v), I i] w fun e w' => Ans w (inR x.max 1 2147483647 && inR x.base 1 2147483647 && inR x.min 1 x.max) e w' := by
 have hn : v.k.n = c.ctrs.length := h.k.n
 have hlt : (i : Int) < v.k.n := by have := (List.getElem?_eq_some_iff.1 hi).1; omega
 obtain ⟨g, off, e, hg, a0, a1, a2, a3⟩ := ct_at h hi
 have hne : g ≠ w.heap.size := by omega
 have hb := below_alloc w
 have hb2 := fun o o' => (hb o).trans ((below_alloc (w.alloc o) o').mono (hb o).size)
 have c1 := within_u32 x.max 1 2147483647
 have c2 := within_u32 x.base 1 2147483647
 have c3 := within_u32 x.min 1 x.max
 have f14 : ∀ h : 14 < (cfC c v).size, (cfC c v)[14] = .slice v.k.a v.k.n v.k.c := fun _ => rfl
 have hs18 : (cfC c v).size = 18 := rfl
 generalize cfC c v = C at *
 replace f14 := f14 (by omega)
 rw [e] at f14
 clear hi hn
 generalize hgb1 : (inR x.max 1 2147483647) = b1 at *
 generalize hgb2 : (inR x.base 1 2147483647) = b2 at *
 generalize hgb3 : (inR x.min 1 x.max) = b3 at *
 cases b1 with
 | false =>
  go_enter Tryz.func235, Tryz.ntmps235
  go_wp2_with (first | (go_at_call 277; refine (c1 _).mono ?_; clear c1; rintro e w' ⟨rfl, rfl⟩) | (go_at_call 277; refine (c2 _).mono ?_; clear c2; rintro e w' ⟨rfl, rfl⟩) | (go_at_call 277; refine (c3 _).mono ?_; clear c3; rintro e w' ⟨rfl, rfl⟩))
  go_ret
  first | exact ⟨by simp, hb _⟩ | exact ⟨by simp, hb2 _ _⟩
 | true =>
  cases b2 with
  | false =>
   go_enter Tryz.func235, Tryz.ntmps235
   go_wp2_with (first | (go_at_call 277; refine (c1 _).mono ?_; clear c1; rintro e w' ⟨rfl, rfl⟩) | (go_at_call 277; refine (c2 _).mono ?_; clear c2; rintro e w' ⟨rfl, rfl⟩) | (go_at_call 277; refine (c3 _).mono ?_; clear c3; rintro e w' ⟨rfl, rfl⟩))
   go_ret
   first | exact ⟨by simp, hb _⟩ | exact ⟨by simp, hb2 _ _⟩
  | true =>
   cases b3 with
   | false =>
    go_enter Tryz.func235, Tryz.ntmps235
    go_wp2_with (first | (go_at_call 277; refine (c1 _).mono ?_; clear c1; rintro e w' ⟨rfl, rfl⟩) | (go_at_call 277; refine (c2 _).mono ?_; clear c2; rintro e w' ⟨rfl, rfl⟩) | (go_at_call 277; refine (c3 _).mono ?_; clear c3; rintro e w' ⟨rfl, rfl⟩))
    go_ret
    first | exact ⟨by simp, hb _⟩ | exact ⟨by simp, hb2 _ _⟩
   | true =>
    go_enter Tryz.func235, Tryz.ntmps235
    go_wp2_with (first | (go_at_call 277; refine (c1 _).mono ?_; clear c1; rintro e w' ⟨rfl, rfl⟩) | (go_at_call 277; refine (c2 _).mono ?_; clear c2; rintro e w' ⟨rfl, rfl⟩) | (go_at_call 277; refine (c3 _).mono ?_; clear c3; rintro e w' ⟨rfl, rfl⟩))
    go_ret
    first | exact ⟨by simp, hb _⟩ | exact ⟨by simp, hb2 _ _⟩
theorem taskNumbersFit_any (w : World) (c : Cf) (v : Vs) (h : CfAt w c v) (i : Nat) (x : Tk) (hi : c.tasks[i]? = some x) :
  Calls Tryz.prog 227 #[.agg (cfC c v), I i] w fun e w' => Ans w (inR x.prio 0 63 && inR x.act 1 255) e w' := by
 have hn : v.t.n = c.tasks.length := h.t.n
 have hlt : (i : Int) < v.t.n := by have := (List.getElem?_eq_some_iff.1 hi).1; omega
 obtain ⟨g, off, s4, s5, s6, s7, e, hg, a0, a1, a2, a3, a4, a5, a6, a7, r4, r5, r6, r7⟩ := tk_at h hi
 have hne : g ≠ w.heap.size := by omega
 have hb := below_alloc w
 have hb2 := fun o o' => (hb o).trans ((below_alloc (w.alloc o) o').mono (hb o).size)
 have c1 := within_int x.prio 0 63
 have c2 := within_int x.act 1 255
 have f11 : ∀ h : 11 < (cfC c v).size, (cfC c v)[11] = .slice v.t.a v.t.n v.t.c := fun _ => rfl
 have hs18 : (cfC c v).size = 18 := rfl
 generalize cfC c v = C at *
 replace f11 := f11 (by omega)
 rw [e] at f11
 clear hi hn
 generalize hgb1 : (inR x.prio 0 63) = b1 at *
 generalize hgb2 : (inR x.act 1 255) = b2 at *
 cases b1 with
 | false =>
  go_enter Tryz.func227, Tryz.ntmps227
  go_wp2_with (first | (go_at_call 193; refine (c1 _).mono ?_; clear c1; rintro e w' ⟨rfl, rfl⟩) | (go_at_call 193; refine (c2 _).mono ?_; clear c2; rintro e w' ⟨rfl, rfl⟩))
  go_ret
  first | exact ⟨by simp, hb _⟩ | exact ⟨by simp, hb2 _ _⟩
 | true =>
  cases b2 with
  | false =>
   go_enter Tryz.func227, Tryz.ntmps227
   go_wp2_with (first | (go_at_call 193; refine (c1 _).mono ?_; clear c1; rintro e w' ⟨rfl, rfl⟩) | (go_at_call 193; refine (c2 _).mono ?_; clear c2; rintro e w' ⟨rfl, rfl⟩))
   go_ret
   first | exact ⟨by simp, hb _⟩ | exact ⟨by simp, hb2 _ _⟩
  | true =>
   go_enter Tryz.func227, Tryz.ntmps227
   go_wp2_with (first | (go_at_call 193; refine (c1 _).mono ?_; clear c1; rintro e w' ⟨rfl, rfl⟩) | (go_at_call 193; refine (c2 _).mono ?_; clear c2; rintro e w' ⟨rfl, rfl⟩))
   go_ret
   first | exact ⟨by simp, hb _⟩ | exact ⟨by simp, hb2 _ _⟩
theorem taskListsRise_any (w : World) (c : Cf) (v : Vs) (h : CfAt w c v) (i : Nat) (x : Tk) (hi : c.tasks[i]? = some x) :
  Calls Tryz.prog 228 #[.agg (cfC c v), I i] w fun e w' => Ans w (risF (-1) x.auto v.m.n && risF (-1) x.res v.r.n && risF (-1) x.evs v.e.n && risF (-1) x.msgs v.s.n) e w' := by
 have hn : v.t.n = c.tasks.length := h.t.n
 have hlt : (i : Int) < v.t.n := by have := (List.getElem?_eq_some_iff.1 hi).1; omega
 obtain ⟨g, off, s4, s5, s6, s7, e, hg, a0, a1, a2, a3, a4, a5, a6, a7, r4, r5, r6, r7⟩ := tk_at h hi
 have hne : g ≠ w.heap.size := by omega
 have hb := below_alloc w
 have hb2 := fun o o' => (hb o).trans ((below_alloc (w.alloc o) o').mono (hb o).size)
 have c1 := fun W (hW : Below w.heap.size w W) => rises_any W s4 x.auto (r4.below hW (fun _ _ _ _ h => h)) v.m.n
 have c2 := fun W (hW : Below w.heap.size w W) => rises_any W s5 x.res (r5.below hW (fun _ _ _ _ h => h)) v.r.n
 have c3 := fun W (hW : Below w.heap.size w W) => rises_any W s6 x.evs (r6.below hW (fun _ _ _ _ h => h)) v.e.n
 have c4 := fun W (hW : Below w.heap.size w W) => rises_any W s7 x.msgs (r7.below hW (fun _ _ _ _ h => h)) v.s.n
 have f10 : ∀ h : 10 < (cfC c v).size, (cfC c v)[10] = .slice v.m.a v.m.n v.m.c := fun _ => rfl
 have f11 : ∀ h : 11 < (cfC c v).size, (cfC c v)[11] = .slice v.t.a v.t.n v.t.c := fun _ => rfl
 have f12 : ∀ h : 12 < (cfC c v).size, (cfC c v)[12] = .slice v.r.a v.r.n v.r.c := fun _ => rfl
 have f13 : ∀ h : 13 < (cfC c v).size, (cfC c v)[13] = .slice v.e.a v.e.n v.e.c := fun _ => rfl
 have f17 : ∀ h : 17 < (cfC c v).size, (cfC c v)[17] = .slice v.s.a v.s.n v.s.c := fun _ => rfl
 have hs18 : (cfC c v).size = 18 := rfl
 generalize cfC c v = C at *
 replace f10 := f10 (by omega)
 replace f11 := f11 (by omega)
 replace f12 := f12 (by omega)
 replace f13 := f13 (by omega)
 replace f17 := f17 (by omega)
 rw [e] at f11
 clear hi hn
 generalize hgb1 : (risF (-1) x.auto v.m.n) = b1 at *
 generalize hgb2 : (risF (-1) x.res v.r.n) = b2 at *
 generalize hgb3 : (risF (-1) x.evs v.e.n) = b3 at *
 generalize hgb4 : (risF (-1) x.msgs v.s.n) = b4 at *
 cases b1 with
 | false =>
  go_enter Tryz.func228, Tryz.ntmps228
  go_wp2_with (first | (go_at_call 274; refine (c1 _ (hb2 _ _)).mono ?_; clear c1; rintro e w' ⟨rfl, rfl⟩) | (go_at_call 274; refine (c2 _ (hb2 _ _)).mono ?_; clear c2; rintro e w' ⟨rfl, rfl⟩) | (go_at_call 274; refine (c3 _ (hb2 _ _)).mono ?_; clear c3; rintro e w' ⟨rfl, rfl⟩) | (go_at_call 274; refine (c4 _ (hb2 _ _)).mono ?_; clear c4; rintro e w' ⟨rfl, rfl⟩))
  go_ret
  first | exact ⟨by simp, hb _⟩ | exact ⟨by simp, hb2 _ _⟩
 | true =>
  cases b2 with
  | false =>
   go_enter Tryz.func228, Tryz.ntmps228
   go_wp2_with (first | (go_at_call 274; refine (c1 _ (hb2 _ _)).mono ?_; clear c1; rintro e w' ⟨rfl, rfl⟩) | (go_at_call 274; refine (c2 _ (hb2 _ _)).mono ?_; clear c2; rintro e w' ⟨rfl, rfl⟩) | (go_at_call 274; refine (c3 _ (hb2 _ _)).mono ?_; clear c3; rintro e w' ⟨rfl, rfl⟩) | (go_at_call 274; refine (c4 _ (hb2 _ _)).mono ?_; clear c4; rintro e w' ⟨rfl, rfl⟩))
   go_ret
   first | exact ⟨by simp, hb _⟩ | exact ⟨by simp, hb2 _ _⟩
  | true =>
   cases b3 with
   | false =>
    go_enter Tryz.func228, Tryz.ntmps228
    go_wp2_with (first | (go_at_call 274; refine (c1 _ (hb2 _ _)).mono ?_; clear c1; rintro e w' ⟨rfl, rfl⟩) | (go_at_call 274; refine (c2 _ (hb2 _ _)).mono ?_; clear c2; rintro e w' ⟨rfl, rfl⟩) | (go_at_call 274; refine (c3 _ (hb2 _ _)).mono ?_; clear c3; rintro e w' ⟨rfl, rfl⟩) | (go_at_call 274; refine (c4 _ (hb2 _ _)).mono ?_; clear c4; rintro e w' ⟨rfl, rfl⟩))
    go_ret
    first | exact ⟨by simp, hb _⟩ | exact ⟨by simp, hb2 _ _⟩
   | true =>
    cases b4 with
    | false =>
     go_enter Tryz.func228, Tryz.ntmps228
     go_wp2_with (first | (go_at_call 274; refine (c1 _ (hb2 _ _)).mono ?_; clear c1; rintro e w' ⟨rfl, rfl⟩) | (go_at_call 274; refine (c2 _ (hb2 _ _)).mono ?_; clear c2; rintro e w' ⟨rfl, rfl⟩) | (go_at_call 274; refine (c3 _ (hb2 _ _)).mono ?_; clear c3; rintro e w' ⟨rfl, rfl⟩) | (go_at_call 274; refine (c4 _ (hb2 _ _)).mono ?_; clear c4; rintro e w' ⟨rfl, rfl⟩))
     go_ret
     first | exact ⟨by simp, hb _⟩ | exact ⟨by simp, hb2 _ _⟩
    | true =>
     go_enter Tryz.func228, Tryz.ntmps228
     go_wp2_with (first | (go_at_call 274; refine (c1 _ (hb2 _ _)).mono ?_; clear c1; rintro e w' ⟨rfl, rfl⟩) | (go_at_call 274; refine (c2 _ (hb2 _ _)).mono ?_; clear c2; rintro e w' ⟨rfl, rfl⟩) | (go_at_call 274; refine (c3 _ (hb2 _ _)).mono ?_; clear c3; rintro e w' ⟨rfl, rfl⟩) | (go_at_call 274; refine (c4 _ (hb2 _ _)).mono ?_; clear c4; rintro e w' ⟨rfl, rfl⟩))
     go_ret
     first | exact ⟨by simp, hb _⟩ | exact ⟨by simp, hb2 _ _⟩
end Go.Proofs.YtmidaeljeoifdaaGreatDoor
