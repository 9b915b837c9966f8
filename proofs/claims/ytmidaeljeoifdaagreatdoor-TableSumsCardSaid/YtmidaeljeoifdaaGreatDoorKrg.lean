import Derived.Test.YtmidaeljeoifdaaGreatDoorKrf
namespace Go.Proofs.YtmidaeljeoifdaaGreatDoor
set_option maxHeartbeats 16000000
open Go.RowKit
set_option linter.unusedVariables false
theorem isrNumbersFit_any (w : World) (c : Cf) (v : Vs) (h : CfAt w c v) (i : Nat) (x : Is) (hi : c.isrs[i]? = some x) :
  Calls Tryz.prog 246 #[.agg (cfC c v), I i] w fun e w' => Ans w (inR x.cat 1 2 && inR x.prio 64 127) e w' := by
 have hn : v.i.n = c.isrs.length := h.i.n
 have hlt : (i : Int) < v.i.n := by have := (List.getElem?_eq_some_iff.1 hi).1; omega
 obtain ⟨g, off, s3, s4, e, hg, a0, a1, a2, a3, a4, r3, r4⟩ := is_at h hi
 have hne : g ≠ w.heap.size := by omega
 have hb := below_alloc w
 have hb2 := fun o o' => (hb o).trans ((below_alloc (w.alloc o) o').mono (hb o).size)
 have c1 := within_int x.cat 1 2
 have c2 := within_int x.prio 64 127
 have f16 : ∀ h : 16 < (cfC c v).size, (cfC c v)[16] = .slice v.i.a v.i.n v.i.c := fun _ => rfl
 have hs18 : (cfC c v).size = 18 := rfl
 generalize cfC c v = C at *
 replace f16 := f16 (by omega)
 rw [e] at f16
 clear hi hn
 generalize hgb1 : (inR x.cat 1 2) = b1 at *
 generalize hgb2 : (inR x.prio 64 127) = b2 at *
 cases b1 with
 | false =>
  go_enter Tryz.func246, Tryz.ntmps246
  go_wp2_with (first | (go_at_call 193; refine (c1 _).mono ?_; clear c1; rintro e w' ⟨rfl, rfl⟩) | (go_at_call 193; refine (c2 _).mono ?_; clear c2; rintro e w' ⟨rfl, rfl⟩))
  go_ret
  first | exact ⟨by simp, hb _⟩ | exact ⟨by simp, hb2 _ _⟩
 | true =>
  cases b2 with
  | false =>
   go_enter Tryz.func246, Tryz.ntmps246
   go_wp2_with (first | (go_at_call 193; refine (c1 _).mono ?_; clear c1; rintro e w' ⟨rfl, rfl⟩) | (go_at_call 193; refine (c2 _).mono ?_; clear c2; rintro e w' ⟨rfl, rfl⟩))
   go_ret
   first | exact ⟨by simp, hb _⟩ | exact ⟨by simp, hb2 _ _⟩
  | true =>
   go_enter Tryz.func246, Tryz.ntmps246
   go_wp2_with (first | (go_at_call 193; refine (c1 _).mono ?_; clear c1; rintro e w' ⟨rfl, rfl⟩) | (go_at_call 193; refine (c2 _).mono ?_; clear c2; rintro e w' ⟨rfl, rfl⟩))
   go_ret
   first | exact ⟨by simp, hb _⟩ | exact ⟨by simp, hb2 _ _⟩
theorem isrListsRise_any (w : World) (c : Cf) (v : Vs) (h : CfAt w c v) (i : Nat) (x : Is) (hi : c.isrs[i]? = some x) :
  Calls Tryz.prog 247 #[.agg (cfC c v), I i] w fun e w' => Ans w (risF (-1) x.res v.r.n && risF (-1) x.msgs v.s.n) e w' := by
 have hn : v.i.n = c.isrs.length := h.i.n
 have hlt : (i : Int) < v.i.n := by have := (List.getElem?_eq_some_iff.1 hi).1; omega
 obtain ⟨g, off, s3, s4, e, hg, a0, a1, a2, a3, a4, r3, r4⟩ := is_at h hi
 have hne : g ≠ w.heap.size := by omega
 have hb := below_alloc w
 have hb2 := fun o o' => (hb o).trans ((below_alloc (w.alloc o) o').mono (hb o).size)
 have c1 := fun W (hW : Below w.heap.size w W) => rises_any W s3 x.res (r3.below hW (fun _ _ _ _ h => h)) v.r.n
 have c2 := fun W (hW : Below w.heap.size w W) => rises_any W s4 x.msgs (r4.below hW (fun _ _ _ _ h => h)) v.s.n
 have f12 : ∀ h : 12 < (cfC c v).size, (cfC c v)[12] = .slice v.r.a v.r.n v.r.c := fun _ => rfl
 have f16 : ∀ h : 16 < (cfC c v).size, (cfC c v)[16] = .slice v.i.a v.i.n v.i.c := fun _ => rfl
 have f17 : ∀ h : 17 < (cfC c v).size, (cfC c v)[17] = .slice v.s.a v.s.n v.s.c := fun _ => rfl
 have hs18 : (cfC c v).size = 18 := rfl
 generalize cfC c v = C at *
 replace f12 := f12 (by omega)
 replace f16 := f16 (by omega)
 replace f17 := f17 (by omega)
 rw [e] at f16
 clear hi hn
 generalize hgb1 : (risF (-1) x.res v.r.n) = b1 at *
 generalize hgb2 : (risF (-1) x.msgs v.s.n) = b2 at *
 cases b1 with
 | false =>
  go_enter Tryz.func247, Tryz.ntmps247
  go_wp2_with (first | (go_at_call 274; refine (c1 _ (hb2 _ _)).mono ?_; clear c1; rintro e w' ⟨rfl, rfl⟩) | (go_at_call 274; refine (c2 _ (hb2 _ _)).mono ?_; clear c2; rintro e w' ⟨rfl, rfl⟩))
  go_ret
  first | exact ⟨by simp, hb _⟩ | exact ⟨by simp, hb2 _ _⟩
 | true =>
  cases b2 with
  | false =>
   go_enter Tryz.func247, Tryz.ntmps247
   go_wp2_with (first | (go_at_call 274; refine (c1 _ (hb2 _ _)).mono ?_; clear c1; rintro e w' ⟨rfl, rfl⟩) | (go_at_call 274; refine (c2 _ (hb2 _ _)).mono ?_; clear c2; rintro e w' ⟨rfl, rfl⟩))
   go_ret
   first | exact ⟨by simp, hb _⟩ | exact ⟨by simp, hb2 _ _⟩
  | true =>
   go_enter Tryz.func247, Tryz.ntmps247
   go_wp2_with (first | (go_at_call 274; refine (c1 _ (hb2 _ _)).mono ?_; clear c1; rintro e w' ⟨rfl, rfl⟩) | (go_at_call 274; refine (c2 _ (hb2 _ _)).mono ?_; clear c2; rintro e w' ⟨rfl, rfl⟩))
   go_ret
   first | exact ⟨by simp, hb _⟩ | exact ⟨by simp, hb2 _ _⟩
theorem firstCategoryIsBare_any (w : World) (c : Cf) (v : Vs) (h : CfAt w c v) (i : Nat) (x : Is) (hi : c.isrs[i]? = some x) :
  Calls Tryz.prog 249 #[.agg (cfC c v), I i] w fun e w' => Ans w (x.cat != 1 || ((x.res.length : Int) == 0 && (x.msgs.length : Int) == 0)) e w' := by
 have hn : v.i.n = c.isrs.length := h.i.n
 have hlt : (i : Int) < v.i.n := by have := (List.getElem?_eq_some_iff.1 hi).1; omega
 obtain ⟨g, off, s3, s4, e, hg, a0, a1, a2, a3, a4, r3, r4⟩ := is_at h hi
 have hne : g ≠ w.heap.size := by omega
 have hb := below_alloc w
 have hb2 := fun o o' => (hb o).trans ((below_alloc (w.alloc o) o').mono (hb o).size)
 have hl3 : Hid (s3.n = x.res.length) := r3.n
 have hl4 : Hid (s4.n = x.msgs.length) := r4.n
 have f16 : ∀ h : 16 < (cfC c v).size, (cfC c v)[16] = .slice v.i.a v.i.n v.i.c := fun _ => rfl
 have hs18 : (cfC c v).size = 18 := rfl
 generalize cfC c v = C at *
 replace f16 := f16 (by omega)
 rw [e] at f16
 clear hi hn
 rw [← hl3.out, ← hl4.out]
 generalize hc1 : (x.cat != 1) = b1 at *
 generalize hc2 : ((s3.n : Int) == 0) = b2 at *
 cases b1 <;> cases b2 <;> (go_enter Tryz.func249, Tryz.ntmps249; go_wp2; go_ret; exact ⟨ret_bool (by simp), hb2 _ _⟩)
theorem counterIsID_any (w : World) (c : Cf) (v : Vs) (h : CfAt w c v) (i : Nat) (x : Al) (hi : c.als[i]? = some x) :
  Calls Tryz.prog 239 #[.agg (cfC c v), I i] w fun e w' => Ans w (isId x.ctr v.k.n) e w' := by
 have hn : v.a.n = c.als.length := h.a.n
 have hlt : (i : Int) < v.a.n := by have := (List.getElem?_eq_some_iff.1 hi).1; omega
 obtain ⟨g, off, s6, e, hg, a0, a1, a2, a3, a4, a5, a6, a7, a8, r6⟩ := al_at h hi
 have hne : g ≠ w.heap.size := by omega
 have hb := below_alloc w
 have hb2 := fun o o' => (hb o).trans ((below_alloc (w.alloc o) o').mono (hb o).size)
 have c1 := isID_any x.ctr v.k.n
 have f14 : ∀ h : 14 < (cfC c v).size, (cfC c v)[14] = .slice v.k.a v.k.n v.k.c := fun _ => rfl
 have f15 : ∀ h : 15 < (cfC c v).size, (cfC c v)[15] = .slice v.a.a v.a.n v.a.c := fun _ => rfl
 have hs18 : (cfC c v).size = 18 := rfl
 generalize cfC c v = C at *
 replace f14 := f14 (by omega)
 replace f15 := f15 (by omega)
 rw [e] at f15
 clear hi hn
 go_enter Tryz.func239, Tryz.ntmps239
 go_wp2
 go_quiet (first | (go_at_call 272; refine Calls.quiet_of_same (c1 _)))
 go_wp2
 go_ret
 exact ⟨rfl, below_drewN (hb _) _⟩
theorem alarmModesRise_any (w : World) (c : Cf) (v : Vs) (h : CfAt w c v) (i : Nat) (x : Al) (hi : c.als[i]? = some x) :
  Calls Tryz.prog 242 #[.agg (cfC c v), I i] w fun e w' => Ans w (risF (-1) x.auto v.m.n) e w' := by
 have hn : v.a.n = c.als.length := h.a.n
 have hlt : (i : Int) < v.a.n := by have := (List.getElem?_eq_some_iff.1 hi).1; omega
 obtain ⟨g, off, s6, e, hg, a0, a1, a2, a3, a4, a5, a6, a7, a8, r6⟩ := al_at h hi
 have hne : g ≠ w.heap.size := by omega
 have hb := below_alloc w
 have hb2 := fun o o' => (hb o).trans ((below_alloc (w.alloc o) o').mono (hb o).size)
 have c1 := fun W (hW : Below w.heap.size w W) => rises_any W s6 x.auto (r6.below hW (fun _ _ _ _ h => h)) v.m.n
 have f10 : ∀ h : 10 < (cfC c v).size, (cfC c v)[10] = .slice v.m.a v.m.n v.m.c := fun _ => rfl
 have f15 : ∀ h : 15 < (cfC c v).size, (cfC c v)[15] = .slice v.a.a v.a.n v.a.c := fun _ => rfl
 have hs18 : (cfC c v).size = 18 := rfl
 generalize cfC c v = C at *
 replace f10 := f10 (by omega)
 replace f15 := f15 (by omega)
 rw [e] at f15
 clear hi hn
 go_enter Tryz.func242, Tryz.ntmps242
 go_wp2
 go_quiet (first | (go_at_call 274; refine Calls.quiet_of_same (c1 _ (below_drewN (hb _) _))))
 go_wp2
 go_ret
 exact ⟨rfl, below_drewN (hb _) _⟩
end Go.Proofs.YtmidaeljeoifdaaGreatDoor
