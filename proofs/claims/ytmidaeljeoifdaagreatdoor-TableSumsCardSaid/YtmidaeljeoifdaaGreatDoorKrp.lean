import Derived.Test.YtmidaeljeoifdaaGreatDoorKro
namespace Go.Proofs.YtmidaeljeoifdaaGreatDoor
set_option maxRecDepth 100000
set_option maxHeartbeats 16000000
open Go.RowKit Go.Sort
set_option linter.unusedVariables false
def objB (c : Cf) (a : Ac) : Bool := (!uT a.kind || isId a.task c.tasks.length) && (!uE a.kind || isId a.event c.evs.length)
theorem meetsObjects_any (w : World) (c : Cf) (v : Vs) (h : CfAt w c v) (a : Ac) : Calls Tryz.prog 284 #[.agg (cfC c v), .agg (acC a)] w fun e w' => Ans w (objB c a) e w' := by
 have c1 := usesTask_any a.kind
 have c2 := usesEvent_any a.kind
 have c3 := isID_any a.task v.t.n
 have c4 := isID_any a.event v.e.n
 have hb := below_alloc w
 have hb2 := fun o o' => (hb o).trans ((below_alloc (w.alloc o) o').mono (hb o).size)
 unfold objB
 rw [← h.t.n, ← h.e.n]
 unfold acC
 generalize uT a.kind = b1 at *
 generalize uE a.kind = b2 at *
 generalize isId a.task v.t.n = b3 at *
 generalize isId a.event v.e.n = b4 at *
 have f11 : ∀ h : 11 < (cfC c v).size, (cfC c v)[11] = .slice v.t.a v.t.n v.t.c := fun _ => rfl
 have f13 : ∀ h : 13 < (cfC c v).size, (cfC c v)[13] = .slice v.e.a v.e.n v.e.c := fun _ => rfl
 have hs18 : (cfC c v).size = 18 := rfl
 generalize cfC c v = C at *
 replace f11 := f11 (by omega)
 replace f13 := f13 (by omega)
 cases h1 : (!b1 || b3) with
 | false =>
  obtain ⟨rfl, rfl⟩ : b1 = true ∧ b3 = false := by simpa using h1
  go_enter Tryz.func284, Tryz.ntmps284
  go_wp2_with (first | (go_at_call 298; refine (c1 _).mono ?_; rintro e w' ⟨rfl, rfl⟩) | (go_at_call 272; refine (c3 _).mono ?_; rintro e w' ⟨rfl, rfl⟩))
  go_ret
  exact ⟨ret_bool (by simp), hb2 _ _⟩
 | true =>
  cases b1 with
  | false =>
   clear h1 c3
   cases b2 <;> (go_enter Tryz.func284, Tryz.ntmps284; go_wp2_with (first | (go_at_call 298; refine (c1 _).mono ?_; rintro e w' ⟨rfl, rfl⟩) | (go_at_call 299; refine (c2 _).mono ?_; rintro e w' ⟨rfl, rfl⟩) | (go_at_call 272; refine (c4 _).mono ?_; rintro e w' ⟨rfl, rfl⟩)); go_ret; exact ⟨ret_bool (by simp), hb2 _ _⟩)
  | true =>
   obtain rfl : b3 = true := by simpa using h1
   clear h1
   cases b2 <;> (go_enter Tryz.func284, Tryz.ntmps284; go_wp2_with (first | (go_at_call 298; refine (c1 _).mono ?_; rintro e w' ⟨rfl, rfl⟩) | (go_at_call 299; refine (c2 _).mono ?_; rintro e w' ⟨rfl, rfl⟩) | (go_at_call 272; refine (c3 _).mono ?_; clear c3; rintro e w' ⟨rfl, rfl⟩) | (go_at_call 272; refine (c4 _).mono ?_; rintro e w' ⟨rfl, rfl⟩)); go_ret; exact ⟨ret_bool (by simp), hb2 _ _⟩)
def evsOf (c : Cf) (t : Int) : List Int := match c.tasks[t.toNat]? with | some x => x.evs | none => []
def ownB (c : Cf) (a : Ac) : Bool := !uE a.kind || hasL (evsOf c a.task) a.event
theorem meetsOwner_any (w : World) (c : Cf) (v : Vs) (h : CfAt w c v) (a : Ac) (hv : uE a.kind = true → isId a.task v.t.n = true) : Calls Tryz.prog 286 #[.agg (cfC c v), .agg (acC a)] w fun e w' => Ans w (ownB c a) e w' := by
 have c1 := usesEvent_any a.kind
 have hb := below_alloc w
 have hb2 := fun o o' => (hb o).trans ((below_alloc (w.alloc o) o').mono (hb o).size)
 have h2 := fun o o' => h.below (hb2 o o')
 have HN : Hid (v.t.n = c.tasks.length) := h.t.n
 obtain ⟨B, hB⟩ : ∃ B, B = ownB c a := ⟨_, rfl⟩
 rw [← hB]
 unfold ownB at hB
 have HB : Hid (B = _) := hB
 clear hB
 unfold acC
 have f11 : ∀ h : 11 < (cfC c v).size, (cfC c v)[11] = .slice v.t.a v.t.n v.t.c := fun _ => rfl
 have hs18 : (cfC c v).size = 18 := rfl
 generalize cfC c v = C at *
 replace f11 := f11 (by omega)
 cases hu : uE a.kind with
 | false =>
  have HE : Hid (B = true) := by show _ = _; rw [HB.out, hu]; rfl
  rw [hu] at c1
  clear HB hv
  go_enter Tryz.func286, Tryz.ntmps286
  go_wp2
  go_quiet (first | (go_at_call 299; refine Calls.quiet_of_same (c1 _)))
  go_wp2
  go_ret
  exact ⟨ret_bool HE.out.symm, below_drewN (hb2 _ _) _⟩
 | true =>
  have hid := hv hu
  have hr : 0 ≤ a.task ∧ a.task < v.t.n := by simpa [isId] using hid
  obtain ⟨q, hq⟩ := Int.eq_ofNat_of_zero_le hr.1
  have hq' : (q : Int) < v.t.n := by omega
  have hql : q < c.tasks.length := by rw [← HN.out]; omega
  obtain ⟨x, hx⟩ : ∃ y, c.tasks[q]? = some y := ⟨_, List.getElem?_eq_getElem hql⟩
  obtain ⟨g, off, s4, s5, s6, s7, e, hg, a0, a1, a2, a3, a4, a5, a6, a7, r4, r5, r6, r7⟩ := tk_at h hx
  have hne : g ≠ w.heap.size := by omega
  have hgl : g < w.heap.size + 1 := by omega
  have hne1 : g ≠ w.heap.size + 1 := by omega
  rw [e] at f11
  have HE : Hid (B = hasL x.evs a.event) := by show _ = _; rw [HB.out, hu, hq]; simp [evsOf, hx]
  have c2 := fun W (hW : Below w.heap.size w W) => contains_int W s6 x.evs (r6.below hW (fun _ _ _ _ h => h)) a.event
  rw [hu] at c1
  obtain ⟨ak, at_, ae, an⟩ := a
  dsimp only at hq c1 c2 HE ⊢
  rw [hq]
  clear HB hv hid hr hql hx a0 a1 a2 a3 a4 a5 a7 r4 r5 r7 hu hq
  generalize hasL x.evs ae = b at *
  go_enter Tryz.func286, Tryz.ntmps286
  go_wp2
  go_quiet (first | (go_at_call 299; refine Calls.quiet_of_same (c1 _)) | (go_at_call 110; refine Calls.quiet_of_same (c2 _ (below_drewN (hb2 _ _) _))))
  go_wp2
  go_ret
  exact ⟨ret_bool HE.out.symm, below_drewN (hb2 _ _) _⟩
end Go.Proofs.YtmidaeljeoifdaaGreatDoor
