import Derived.Test.YtmidaeljeoifdaaGreatDoorKsf
import Derived.Test.YtmidaeljeoifdaaGreatDoorKrp
namespace Go.Proofs.YtmidaeljeoifdaaGreatDoor
set_option maxRecDepth 100000
set_option maxHeartbeats 16000000
open Go.RowKit
set_option linter.unusedVariables false
def actE (c : Cf) (a : Ac) (lo hi : Int) : Int :=
 if (inR a.kind lo hi && bareB a) = false then 74 else if objB c a = false then 73 else if ownB c a = false then 70 else if calB a = false then 72 else 0
theorem raction1 (w : World) (c : Cf) (v : Vs) (h : CfAt w c v) (t ev : Int) (n : List UInt8) (lo hi : Int) (hsz : n.length < 9223372036854775808) (h1 : ¬ 1 < lo) (h2 : ¬ hi < 1) :
  Calls Tryz.prog 211 #[.agg (cfC c v), .agg (acC ⟨1, t, ev, n⟩), I lo, I hi] w fun e w' => e = .returned (I (actE c ⟨1, t, ev, n⟩ lo hi)) ∧ Below w.heap.size w w' := by
 have c1 := rName_l n hsz
 have hb := below_alloc w
 have hb2 := fun o o' => (hb o).trans ((below_alloc (w.alloc o) o').mono (hb o).size)
 have HN : Hid (v.t.n = c.tasks.length) := h.t.n
 have HM : Hid (v.e.n = c.evs.length) := h.e.n
 obtain ⟨R, hR⟩ : ∃ R, R = actE c ⟨1, t, ev, n⟩ lo hi := ⟨_, rfl⟩
 rw [← hR]
 have HR2 : Hid (R = if bareB ⟨1, t, ev, n⟩ = false then 74 else if objB c ⟨1, t, ev, n⟩ = false then 73 else if ownB c ⟨1, t, ev, n⟩ = false then 70 else if calB ⟨1, t, ev, n⟩ = false then 72 else 0) := by
  have hI : inR 1 lo hi = true := by simp [inR]; omega
  show _ = _
  rw [hR, actE, hI, Bool.true_and]
 clear hR
 unfold acC
 dsimp only
 have f11 : ∀ h : 11 < (cfC c v).size, (cfC c v)[11] = .slice v.t.a v.t.n v.t.c := fun _ => rfl
 have f13 : ∀ h : 13 < (cfC c v).size, (cfC c v)[13] = .slice v.e.a v.e.n v.e.c := fun _ => rfl
 have hs18 : (cfC c v).size = 18 := rfl
 generalize cfC c v = C at *
 replace f11 := f11 (by omega)
 replace f13 := f13 (by omega)
 cases hev : ev == 0 with
 | false =>
  have hev' : (ev != 0) = true := by simp [bne, hev]
  have HE : Hid (R = 74) := by show _ = _; rw [HR2.out]; delta bareB objB ownB calB; delta uT uE uN isId; simp [hev]
  clear HR2
  go_enter Tryz.func211, Tryz.ntmps211
  go_wp2
  try go_quiet (fail)
  go_wp2
  go_ret
  exact ⟨ret_int HE.out.symm, by first | exact hb2 _ _ | exact below_drewN (hb2 _ _) _⟩
 | true =>
  have hev' : (ev != 0) = false := by simp [bne, hev]
  cases n with
  | cons d r =>
   have HE : Hid (R = 74) := by show _ = _; rw [HR2.out]; delta bareB objB ownB calB; delta uT uE uN isId; simp []
   clear HR2
   go_enter Tryz.func211, Tryz.ntmps211
   go_wp2
   try go_quiet (fail)
   go_wp2
   go_ret
   exact ⟨ret_int HE.out.symm, by first | exact hb2 _ _ | exact below_drewN (hb2 _ _) _⟩
  | nil =>
   by_cases ht : t < 0
   ·skip
    have HE : Hid (R = 73) := by show _ = _; rw [HR2.out]; delta bareB objB ownB calB; delta uT uE uN isId; simp [hev]; omega
    clear HR2
    go_enter Tryz.func211, Tryz.ntmps211
    go_wp2
    try go_quiet (fail)
    go_wp2
    go_ret
    exact ⟨ret_int HE.out.symm, by first | exact hb2 _ _ | exact below_drewN (hb2 _ _) _⟩
   ·by_cases ht2 : (v.t.n : Int) ≤ t
    ·skip
     have HE : Hid (R = 73) := by show _ = _; rw [HR2.out]; delta bareB objB ownB calB; delta uT uE uN isId; simp [hev, ← HN.out]; omega
     clear HR2
     go_enter Tryz.func211, Tryz.ntmps211
     go_wp2
     try go_quiet (fail)
     go_wp2
     go_ret
     exact ⟨ret_int HE.out.symm, by first | exact hb2 _ _ | exact below_drewN (hb2 _ _) _⟩
    ·skip
     have HE : Hid (R = 0) := by show _ = _; rw [HR2.out]; delta bareB objB ownB calB; delta uT uE uN isId; simp [hev, ← HN.out]; omega
     clear HR2
     go_enter Tryz.func211, Tryz.ntmps211
     go_wp2
     try go_quiet (fail)
     go_wp2
     go_ret
     exact ⟨ret_int HE.out.symm, by first | exact hb2 _ _ | exact below_drewN (hb2 _ _) _⟩
theorem raction3 (w : World) (c : Cf) (v : Vs) (h : CfAt w c v) (t ev : Int) (n : List UInt8) (lo hi : Int) (hsz : n.length < 9223372036854775808) (h1 : ¬ 3 < lo) (h2 : ¬ hi < 3) :
  Calls Tryz.prog 211 #[.agg (cfC c v), .agg (acC ⟨3, t, ev, n⟩), I lo, I hi] w fun e w' => e = .returned (I (actE c ⟨3, t, ev, n⟩ lo hi)) ∧ Below w.heap.size w w' := by
 have c1 := rName_l n hsz
 have hb := below_alloc w
 have hb2 := fun o o' => (hb o).trans ((below_alloc (w.alloc o) o').mono (hb o).size)
 have HN : Hid (v.t.n = c.tasks.length) := h.t.n
 have HM : Hid (v.e.n = c.evs.length) := h.e.n
 obtain ⟨R, hR⟩ : ∃ R, R = actE c ⟨3, t, ev, n⟩ lo hi := ⟨_, rfl⟩
 rw [← hR]
 have HR2 : Hid (R = if bareB ⟨3, t, ev, n⟩ = false then 74 else if objB c ⟨3, t, ev, n⟩ = false then 73 else if ownB c ⟨3, t, ev, n⟩ = false then 70 else if calB ⟨3, t, ev, n⟩ = false then 72 else 0) := by
  have hI : inR 3 lo hi = true := by simp [inR]; omega
  show _ = _
  rw [hR, actE, hI, Bool.true_and]
 clear hR
 unfold acC
 dsimp only
 have f11 : ∀ h : 11 < (cfC c v).size, (cfC c v)[11] = .slice v.t.a v.t.n v.t.c := fun _ => rfl
 have f13 : ∀ h : 13 < (cfC c v).size, (cfC c v)[13] = .slice v.e.a v.e.n v.e.c := fun _ => rfl
 have hs18 : (cfC c v).size = 18 := rfl
 generalize cfC c v = C at *
 replace f11 := f11 (by omega)
 replace f13 := f13 (by omega)
 cases ht : t == 0 with
 | false =>
  have ht' : (t != 0) = true := by simp [bne, ht]
  have HE : Hid (R = 74) := by show _ = _; rw [HR2.out]; delta bareB objB ownB calB; delta uT uE uN isId; simp [ht]
  clear HR2
  go_enter Tryz.func211, Tryz.ntmps211
  go_wp2
  try go_quiet (fail)
  go_wp2
  go_ret
  exact ⟨ret_int HE.out.symm, by first | exact hb2 _ _ | exact below_drewN (hb2 _ _) _⟩
 | true =>
  have ht' : (t != 0) = false := by simp [bne, ht]
  cases hev : ev == 0 with
  | false =>
   have hev' : (ev != 0) = true := by simp [bne, hev]
   have HE : Hid (R = 74) := by show _ = _; rw [HR2.out]; delta bareB objB ownB calB; delta uT uE uN isId; simp [hev]
   clear HR2
   go_enter Tryz.func211, Tryz.ntmps211
   go_wp2
   try go_quiet (fail)
   go_wp2
   go_ret
   exact ⟨ret_int HE.out.symm, by first | exact hb2 _ _ | exact below_drewN (hb2 _ _) _⟩
  | true =>
   have hev' : (ev != 0) = false := by simp [bne, hev]
   cases hnm : isNm n with
   | false =>
    rw [hnm] at c1
    have HE : Hid (R = 72) := by show _ = _; rw [HR2.out]; delta bareB objB ownB calB; delta uT uE uN isId; simp [ht, hev, hnm]
    clear HR2
    go_enter Tryz.func211, Tryz.ntmps211
    go_wp2_with (first | (go_at_call 160; refine (c1 _).mono ?_; rintro e w' ⟨rfl, hq⟩; replace hq := hq.symm; subst hq))
    try go_quiet (fail)
    go_wp2_with (first | (go_at_call 160; refine (c1 _).mono ?_; rintro e w' ⟨rfl, hq⟩; replace hq := hq.symm; subst hq))
    go_ret
    exact ⟨ret_int HE.out.symm, by first | exact hb2 _ _ | exact below_drewN (hb2 _ _) _⟩
   | true =>
    rw [hnm] at c1
    have HE : Hid (R = 0) := by show _ = _; rw [HR2.out]; delta bareB objB ownB calB; delta uT uE uN isId; simp [ht, hev, hnm]
    clear HR2
    go_enter Tryz.func211, Tryz.ntmps211
    go_wp2_with (first | (go_at_call 160; refine (c1 _).mono ?_; rintro e w' ⟨rfl, hq⟩; replace hq := hq.symm; subst hq))
    try go_quiet (fail)
    go_wp2_with (first | (go_at_call 160; refine (c1 _).mono ?_; rintro e w' ⟨rfl, hq⟩; replace hq := hq.symm; subst hq))
    go_ret
    exact ⟨ret_int HE.out.symm, by first | exact hb2 _ _ | exact below_drewN (hb2 _ _) _⟩
theorem raction4 (w : World) (c : Cf) (v : Vs) (h : CfAt w c v) (t ev : Int) (n : List UInt8) (lo hi : Int) (hsz : n.length < 9223372036854775808) (h1 : ¬ 4 < lo) (h2 : ¬ hi < 4) :
  Calls Tryz.prog 211 #[.agg (cfC c v), .agg (acC ⟨4, t, ev, n⟩), I lo, I hi] w fun e w' => e = .returned (I (actE c ⟨4, t, ev, n⟩ lo hi)) ∧ Below w.heap.size w w' := by
 have c1 := rName_l n hsz
 have hb := below_alloc w
 have hb2 := fun o o' => (hb o).trans ((below_alloc (w.alloc o) o').mono (hb o).size)
 have HN : Hid (v.t.n = c.tasks.length) := h.t.n
 have HM : Hid (v.e.n = c.evs.length) := h.e.n
 obtain ⟨R, hR⟩ : ∃ R, R = actE c ⟨4, t, ev, n⟩ lo hi := ⟨_, rfl⟩
 rw [← hR]
 have HR2 : Hid (R = if bareB ⟨4, t, ev, n⟩ = false then 74 else if objB c ⟨4, t, ev, n⟩ = false then 73 else if ownB c ⟨4, t, ev, n⟩ = false then 70 else if calB ⟨4, t, ev, n⟩ = false then 72 else 0) := by
  have hI : inR 4 lo hi = true := by simp [inR]; omega
  show _ = _
  rw [hR, actE, hI, Bool.true_and]
 clear hR
 unfold acC
 dsimp only
 have f11 : ∀ h : 11 < (cfC c v).size, (cfC c v)[11] = .slice v.t.a v.t.n v.t.c := fun _ => rfl
 have f13 : ∀ h : 13 < (cfC c v).size, (cfC c v)[13] = .slice v.e.a v.e.n v.e.c := fun _ => rfl
 have hs18 : (cfC c v).size = 18 := rfl
 generalize cfC c v = C at *
 replace f11 := f11 (by omega)
 replace f13 := f13 (by omega)
 cases ht : t == 0 with
 | false =>
  have ht' : (t != 0) = true := by simp [bne, ht]
  have HE : Hid (R = 74) := by show _ = _; rw [HR2.out]; delta bareB objB ownB calB; delta uT uE uN isId; simp [ht]
  clear HR2
  go_enter Tryz.func211, Tryz.ntmps211
  go_wp2
  try go_quiet (fail)
  go_wp2
  go_ret
  exact ⟨ret_int HE.out.symm, by first | exact hb2 _ _ | exact below_drewN (hb2 _ _) _⟩
 | true =>
  have ht' : (t != 0) = false := by simp [bne, ht]
  cases hev : ev == 0 with
  | false =>
   have hev' : (ev != 0) = true := by simp [bne, hev]
   have HE : Hid (R = 74) := by show _ = _; rw [HR2.out]; delta bareB objB ownB calB; delta uT uE uN isId; simp [hev]
   clear HR2
   go_enter Tryz.func211, Tryz.ntmps211
   go_wp2
   try go_quiet (fail)
   go_wp2
   go_ret
   exact ⟨ret_int HE.out.symm, by first | exact hb2 _ _ | exact below_drewN (hb2 _ _) _⟩
  | true =>
   have hev' : (ev != 0) = false := by simp [bne, hev]
   cases hnm : isNm n with
   | false =>
    rw [hnm] at c1
    have HE : Hid (R = 72) := by show _ = _; rw [HR2.out]; delta bareB objB ownB calB; delta uT uE uN isId; simp [ht, hev, hnm]
    clear HR2
    go_enter Tryz.func211, Tryz.ntmps211
    go_wp2_with (first | (go_at_call 160; refine (c1 _).mono ?_; rintro e w' ⟨rfl, hq⟩; replace hq := hq.symm; subst hq))
    try go_quiet (fail)
    go_wp2_with (first | (go_at_call 160; refine (c1 _).mono ?_; rintro e w' ⟨rfl, hq⟩; replace hq := hq.symm; subst hq))
    go_ret
    exact ⟨ret_int HE.out.symm, by first | exact hb2 _ _ | exact below_drewN (hb2 _ _) _⟩
   | true =>
    rw [hnm] at c1
    have HE : Hid (R = 0) := by show _ = _; rw [HR2.out]; delta bareB objB ownB calB; delta uT uE uN isId; simp [ht, hev, hnm]
    clear HR2
    go_enter Tryz.func211, Tryz.ntmps211
    go_wp2_with (first | (go_at_call 160; refine (c1 _).mono ?_; rintro e w' ⟨rfl, hq⟩; replace hq := hq.symm; subst hq))
    try go_quiet (fail)
    go_wp2_with (first | (go_at_call 160; refine (c1 _).mono ?_; rintro e w' ⟨rfl, hq⟩; replace hq := hq.symm; subst hq))
    go_ret
    exact ⟨ret_int HE.out.symm, by first | exact hb2 _ _ | exact below_drewN (hb2 _ _) _⟩
theorem raction0 (w : World) (c : Cf) (v : Vs) (h : CfAt w c v) (t ev : Int) (n : List UInt8) (lo hi : Int) (hsz : n.length < 9223372036854775808) (k : Int) (k1 : (k == 1) = false) (k2 : (k == 2) = false) (k3 : (k == 3) = false) (k4 : (k == 4) = false) (h1 : ¬ k < lo) (h2 : ¬ hi < k) :
  Calls Tryz.prog 211 #[.agg (cfC c v), .agg (acC ⟨k, t, ev, n⟩), I lo, I hi] w fun e w' => e = .returned (I (actE c ⟨k, t, ev, n⟩ lo hi)) ∧ Below w.heap.size w w' := by
 have c1 := rName_l n hsz
 have hb := below_alloc w
 have hb2 := fun o o' => (hb o).trans ((below_alloc (w.alloc o) o').mono (hb o).size)
 have HN : Hid (v.t.n = c.tasks.length) := h.t.n
 have HM : Hid (v.e.n = c.evs.length) := h.e.n
 obtain ⟨R, hR⟩ : ∃ R, R = actE c ⟨k, t, ev, n⟩ lo hi := ⟨_, rfl⟩
 rw [← hR]
 have HR2 : Hid (R = if bareB ⟨k, t, ev, n⟩ = false then 74 else if objB c ⟨k, t, ev, n⟩ = false then 73 else if ownB c ⟨k, t, ev, n⟩ = false then 70 else if calB ⟨k, t, ev, n⟩ = false then 72 else 0) := by
  have hI : inR k lo hi = true := by simp [inR]; omega
  show _ = _
  rw [hR, actE, hI, Bool.true_and]
 clear hR
 unfold acC
 dsimp only
 have f11 : ∀ h : 11 < (cfC c v).size, (cfC c v)[11] = .slice v.t.a v.t.n v.t.c := fun _ => rfl
 have f13 : ∀ h : 13 < (cfC c v).size, (cfC c v)[13] = .slice v.e.a v.e.n v.e.c := fun _ => rfl
 have hs18 : (cfC c v).size = 18 := rfl
 generalize cfC c v = C at *
 replace f11 := f11 (by omega)
 replace f13 := f13 (by omega)
 have k2' : (k != 2) = true := by simp [bne, k2]
 cases ht : t == 0 with
 | false =>
  have ht' : (t != 0) = true := by simp [bne, ht]
  have HE : Hid (R = 74) := by show _ = _; rw [HR2.out]; delta bareB objB ownB calB; delta uT uE uN isId; simp [k1, k2, ht]
  clear HR2
  go_enter Tryz.func211, Tryz.ntmps211
  go_wp2
  try go_quiet (fail)
  go_wp2
  go_ret
  exact ⟨ret_int HE.out.symm, by first | exact hb2 _ _ | exact below_drewN (hb2 _ _) _⟩
 | true =>
  have ht' : (t != 0) = false := by simp [bne, ht]
  cases hev : ev == 0 with
  | false =>
   have hev' : (ev != 0) = true := by simp [bne, hev]
   have HE : Hid (R = 74) := by show _ = _; rw [HR2.out]; delta bareB objB ownB calB; delta uT uE uN isId; simp [k2, hev]
   clear HR2
   go_enter Tryz.func211, Tryz.ntmps211
   go_wp2
   try go_quiet (fail)
   go_wp2
   go_ret
   exact ⟨ret_int HE.out.symm, by first | exact hb2 _ _ | exact below_drewN (hb2 _ _) _⟩
  | true =>
   have hev' : (ev != 0) = false := by simp [bne, hev]
   cases n with
   | cons d r =>
    have HE : Hid (R = 74) := by show _ = _; rw [HR2.out]; delta bareB objB ownB calB; delta uT uE uN isId; simp [k3, k4]
    clear HR2
    go_enter Tryz.func211, Tryz.ntmps211
    go_wp2
    try go_quiet (fail)
    go_wp2
    go_ret
    exact ⟨ret_int HE.out.symm, by first | exact hb2 _ _ | exact below_drewN (hb2 _ _) _⟩
   | nil =>
    have HE : Hid (R = 0) := by show _ = _; rw [HR2.out]; delta bareB objB ownB calB; delta uT uE uN isId; simp [k1, k2, k3, k4, ht, hev]
    clear HR2
    go_enter Tryz.func211, Tryz.ntmps211
    go_wp2
    try go_quiet (fail)
    go_wp2
    go_ret
    exact ⟨ret_int HE.out.symm, by first | exact hb2 _ _ | exact below_drewN (hb2 _ _) _⟩
end Go.Proofs.YtmidaeljeoifdaaGreatDoor
