import Derived.Test.YtmidaeljeoifdaaGreatDoorKsh
namespace Go.Proofs.YtmidaeljeoifdaaGreatDoor
set_option maxRecDepth 100000
set_option maxHeartbeats 16000000
open Go.RowKit
set_option linter.unusedVariables false
theorem raction2 (w : World) (c : Cf) (v : Vs) (h : CfAt w c v) (t ev : Int) (n : List UInt8) (lo hi : Int) (hsz : n.length < 9223372036854775808) (h1 : ¬ 2 < lo) (h2 : ¬ hi < 2) :
  Calls Tryz.prog 211 #[.agg (cfC c v), .agg (acC ⟨2, t, ev, n⟩), I lo, I hi] w fun e w' => e = .returned (I (actE c ⟨2, t, ev, n⟩ lo hi)) ∧ Below w.heap.size w w' := by
 have c1 := rName_l n hsz
 have hb := below_alloc w
 have hb2 := fun o o' => (hb o).trans ((below_alloc (w.alloc o) o').mono (hb o).size)
 have HN : Hid (v.t.n = c.tasks.length) := h.t.n
 have HM : Hid (v.e.n = c.evs.length) := h.e.n
 obtain ⟨R, hR⟩ : ∃ R, R = actE c ⟨2, t, ev, n⟩ lo hi := ⟨_, rfl⟩
 rw [← hR]
 have HR2 : Hid (R = if bareB ⟨2, t, ev, n⟩ = false then 74 else if objB c ⟨2, t, ev, n⟩ = false then 73 else if ownB c ⟨2, t, ev, n⟩ = false then 70 else if calB ⟨2, t, ev, n⟩ = false then 72 else 0) := by
  have hI : inR 2 lo hi = true := by simp [inR]; omega
  show _ = _
  rw [hR, actE, hI, Bool.true_and]
 clear hR
 unfold acC
 dsimp only
 have f11 : ∀ h : 11 < (cfC c v).size, (cfC c v)[11] = .slice v.t.a v.t.n v.t.c := fun _ => rfl
 have f13 : ∀ h : 13 < (cfC c v).size, (cfC c v)[13] = .slice v.e.a v.e.n v.e.c := fun _ => rfl
 have hs18 : (cfC c v).size = 18 := rfl
 generalize cfC c v = C at *
 replace f11 := f11 (by omega)
 replace f13 := f13 (by omega)
 cases n with
 | cons d r =>
  have HE : Hid (R = 74) := by show _ = _; rw [HR2.out]; delta bareB objB ownB calB; delta uT uE uN isId; simp []
  clear HR2
  go_enter Tryz.func211, Tryz.ntmps211
  go_wp2
  try go_quiet (fail)
  go_wp2
  go_ret
  exact ⟨ret_int HE.out.symm, by first | exact hb2 _ _ | exact below_drewN (hb2 _ _) _⟩
 | nil =>
  by_cases ht : t < 0
  ·skip
   have HE : Hid (R = 73) := by show _ = _; rw [HR2.out]; delta bareB objB ownB calB; delta uT uE uN isId; simp []; omega
   clear HR2
   go_enter Tryz.func211, Tryz.ntmps211
   go_wp2
   try go_quiet (fail)
   go_wp2
   go_ret
   exact ⟨ret_int HE.out.symm, by first | exact hb2 _ _ | exact below_drewN (hb2 _ _) _⟩
  ·by_cases ht2 : (v.t.n : Int) ≤ t
   ·skip
    have HE : Hid (R = 73) := by show _ = _; rw [HR2.out]; delta bareB objB ownB calB; delta uT uE uN isId; simp [← HN.out]; omega
    clear HR2
    go_enter Tryz.func211, Tryz.ntmps211
    go_wp2
    try go_quiet (fail)
    go_wp2
    go_ret
    exact ⟨ret_int HE.out.symm, by first | exact hb2 _ _ | exact below_drewN (hb2 _ _) _⟩
   ·obtain ⟨q, rfl⟩ := Int.eq_ofNat_of_zero_le (show 0 ≤ t by omega)
    by_cases he : ev < 0
    ·skip
     have HE : Hid (R = 73) := by show _ = _; rw [HR2.out]; delta bareB objB ownB calB; delta uT uE uN isId; simp [← HN.out]; omega
     clear HR2
     go_enter Tryz.func211, Tryz.ntmps211
     go_wp2
     try go_quiet (fail)
     go_wp2
     go_ret
     exact ⟨ret_int HE.out.symm, by first | exact hb2 _ _ | exact below_drewN (hb2 _ _) _⟩
    ·by_cases he2 : (v.e.n : Int) ≤ ev
     ·skip
      have HE : Hid (R = 73) := by show _ = _; rw [HR2.out]; delta bareB objB ownB calB; delta uT uE uN isId; simp [← HN.out, ← HM.out]; omega
      clear HR2
      go_enter Tryz.func211, Tryz.ntmps211
      go_wp2
      try go_quiet (fail)
      go_wp2
      go_ret
      exact ⟨ret_int HE.out.symm, by first | exact hb2 _ _ | exact below_drewN (hb2 _ _) _⟩
     ·have hql : q < c.tasks.length := by rw [← HN.out]; omega
      obtain ⟨x, hx⟩ : ∃ y, c.tasks[q]? = some y := ⟨_, List.getElem?_eq_getElem hql⟩
      obtain ⟨g, off, s4, s5, s6, s7, e, hg, a0, a1, a2, a3, a4, a5, a6, a7, r4, r5, r6, r7⟩ := tk_at h hx
      have hne : g ≠ w.heap.size := by omega
      have hgl : g < w.heap.size + 1 := by omega
      have hne1 : g ≠ w.heap.size + 1 := by omega
      rw [e] at f11
      have c2 := fun W (hW : Below w.heap.size w W) => rhas_any W s6 x.evs (r6.below hW (fun _ _ _ _ h => h)) ev
      have hq' : (q : Int) < v.t.n := by omega
      have hobj : objB c ⟨2, (q : Int), ev, []⟩ = true := by
       simp [objB, uT, uE, isId, ← HN.out, ← HM.out]
       omega
      have hown : ownB c ⟨2, (q : Int), ev, []⟩ = hasL x.evs ev := by simp [ownB, uE, evsOf, hx]
      have hbare : bareB ⟨2, (q : Int), ev, []⟩ = true := rfl
      have HR3 : Hid (R = if hasL x.evs ev = true then 0 else 70) := by
       show _ = _
       rw [HR2.out, hbare, hobj, hown, if_neg (by decide), if_neg (by decide)]
       cases hasL x.evs ev <;> rfl
      clear HR2 hbare hobj hown hx hql a0 a1 a2 a3 a4 a5 a7 r4 r5 r7
      cases hh : hasL x.evs ev with
      | true =>
       have HE : Hid (R = 0) := by show _ = _; rw [HR3.out, hh]; rfl
       rw [hh] at c2
       clear HR3
       go_enter Tryz.func211, Tryz.ntmps211
       go_wp2
       try go_quiet (first | (go_at_call 270; refine Calls.quiet_of_same (c2 _ (below_drewN (hb2 _ _) _))))
       go_wp2
       go_ret
       exact ⟨ret_int HE.out.symm, by first | exact hb2 _ _ | exact below_drewN (hb2 _ _) _⟩
      | false =>
       have HE : Hid (R = 70) := by show _ = _; rw [HR3.out, hh]; rfl
       rw [hh] at c2
       clear HR3
       go_enter Tryz.func211, Tryz.ntmps211
       go_wp2
       try go_quiet (first | (go_at_call 270; refine Calls.quiet_of_same (c2 _ (below_drewN (hb2 _ _) _))))
       go_wp2
       go_ret
       exact ⟨ret_int HE.out.symm, by first | exact hb2 _ _ | exact below_drewN (hb2 _ _) _⟩
theorem raction_any (w : World) (c : Cf) (v : Vs) (h : CfAt w c v) (a : Ac) (lo hi : Int) (hsz : a.name.length < 9223372036854775808) (h1 : ¬ a.kind < lo) (h2 : ¬ hi < a.kind) :
  Calls Tryz.prog 211 #[.agg (cfC c v), .agg (acC a), I lo, I hi] w fun e w' => e = .returned (I (actE c a lo hi)) ∧ Below w.heap.size w w' := by
 obtain ⟨k, t, ev, n⟩ := a
 dsimp only at h1 h2 hsz
 by_cases k1 : k = 1
 ·subst k1; exact raction1 w c v h t ev n lo hi hsz h1 h2
 by_cases k2 : k = 2
 ·subst k2; exact raction2 w c v h t ev n lo hi hsz h1 h2
 by_cases k3 : k = 3
 ·subst k3; exact raction3 w c v h t ev n lo hi hsz h1 h2
 by_cases k4 : k = 4
 ·subst k4; exact raction4 w c v h t ev n lo hi hsz h1 h2
 exact raction0 w c v h t ev n lo hi hsz k (by simpa using k1) (by simpa using k2) (by simpa using k3) (by simpa using k4) h1 h2
end Go.Proofs.YtmidaeljeoifdaaGreatDoor
