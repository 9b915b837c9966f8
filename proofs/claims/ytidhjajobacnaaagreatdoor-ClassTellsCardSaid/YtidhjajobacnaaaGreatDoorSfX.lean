import Derived.Test.YtidhjajobacnaaaGreatDoorKse
import Derived.Test.YtidhjajobacnaaaGreatDoorKrv
import Derived.Test.YtidhjajobacnaaaGreatDoorRnX
namespace Go.Proofs.YtidhjajobacnaaaGreatDoor
open Go.RowKit
set_option linter.unusedVariables false

theorem rName_l (l : List UInt8) (hl : l.length < 9223372036854775808) (w : World) : Calls Tryz.prog 29 #[S l] w fun e w' => e = .returned (.bool (isNm l)) ∧ w' = w := by
  have := rName_any ⟨l.toArray⟩ w (by rw [size_l]; exact hl)
  simpa using this
theorem hasS_take (l : List (List UInt8)) (j : Nat) (x nm : List UInt8) (hx : l[j]? = some x) : hasS (l.take (j + 1)) nm = (hasS (l.take j) nm || nm == x) := by
  unfold hasS
  rw [List.take_add_one, hx, Option.toList_some, List.any_append]
  simp
theorem hasS_mono (l : List (List UInt8)) (i j : Nat) (h : j ≤ i) (nm : List UInt8) (ht : hasS (l.take j) nm = true) : hasS (l.take i) nm = true := by
  unfold hasS at *
  rw [List.any_eq_true] at ht ⊢
  obtain ⟨x, hx, hp⟩ := ht
  refine ⟨x, ?_, hp⟩
  obtain ⟨k, hk⟩ := List.mem_iff_getElem?.1 hx
  rw [List.getElem?_take] at hk
  split at hk
  · exact List.mem_iff_getElem?.2 ⟨k, by rw [List.getElem?_take, if_pos (by omega)]; exact hk⟩
  · cases hk
set_option maxHeartbeats 2000000 in
set_option maxRecDepth 100000 in
theorem rnamed_any (w : World) (s : Sl) (l : List (List UInt8)) (h : RowsAt w 1 strP s l) (i : Nat) (nm : List UInt8) (hi : l[i]? = some nm) (hsz : nm.length < 9223372036854775808) :
    Calls Tryz.prog 21 #[.slice s.a s.n s.c, I i] w fun e w' => e = .returned (I (if (!isNm nm || hasS (l.take i) nm) = true then 72 else 0)) ∧ Below w.heap.size w w' := by
  obtain ⟨sa, sn, sc⟩ := s
  have HN : Hid (sn = l.length) := h.n
  have hc : sn ≤ sc := h.c
  have hm : sc ≤ maxLen := h.m
  dsimp only
  unfold maxLen at hm
  have hin : i < sn := by have := (List.getElem?_eq_some_iff.1 hi).1; have := HN.out; omega
  have hin' : (i : Int) < sn := by omega
  obtain ⟨g, off, e, hg, hci⟩ := strs_at h hi
  dsimp only at e
  subst e
  have c1 := rName_l nm hsz
  obtain ⟨R, hR⟩ : ∃ R : Int, R = (if (!isNm nm || hasS (l.take i) nm) = true then 72 else 0) := ⟨_, rfl⟩
  rw [← hR]
  have HR : Hid (R = _) := hR
  clear hR
  cases hnm : isNm nm with
  | false =>
    have HE : Hid (R = 72) := by show _ = _; rw [HR.out, hnm]; rfl
    rw [hnm] at c1
    clear HR
    go_enter Tryz.func21, Tryz.ntmps21
    go_wp2_with (first | (go_at_call 29; refine (c1 _).mono ?_; rintro e w' ⟨rfl, hq⟩; replace hq := hq.symm; subst hq))
    go_ret
    exact ⟨ret_int HE.out.symm, Below.refl _ _⟩
  | true =>
    have HE : Hid (R = if hasS (l.take i) nm = true then 72 else 0) := by show _ = _; rw [HR.out, hnm]; rfl
    rw [hnm] at c1
    clear HR
    go_enter Tryz.func21, Tryz.ntmps21
    go_wp2_with (first | (go_at_call 29; refine (c1 _).mono ?_; rintro e w' ⟨rfl, hq⟩; replace hq := hq.symm; subst hq))
    go_loopw [5] (fun iv wr => ∃ j : Nat, j ≤ i ∧ iv = .int .i64 j ∧ Hid (Below w.heap.size w wr ∧ hasS (l.take j) nm = false)) (fun iv _ => i - (intOf iv).toNat)
    case atStart => exact ⟨0, by omega, rfl, Below.refl _ _, rfl⟩
    case round =>
      obtain ⟨j, hj, rfl, HJ⟩ := hrel
      obtain ⟨hB, hA⟩ := HJ.out
      have HA : Hid (hasS (l.take j) nm = false) := hA
      clear HJ hA
      by_cases hlt : j < i
      · have hlt' : (j : Int) < i := by omega
        have hjn : (j : Int) < sn := by omega
        have hjl : j < l.length := by have := HN.out; omega
        obtain ⟨y, hy⟩ : ∃ y, l[j]? = some y := ⟨l[j], List.getElem?_eq_getElem hjl⟩
        obtain ⟨g', off', e', hg', hcj⟩ := strs_at h hy
        dsimp only at e'
        obtain ⟨rfl, rfl⟩ : g = g' ∧ off = off' := by cases e'; exact ⟨rfl, rfl⟩
        have y1 : wr.cell? ⟨g, off + j, none⟩ = some (S y) := by rw [cell_below hB _ _ hg]; exact hcj
        have y2 : wr.cell? ⟨g, off + i, none⟩ = some (S nm) := by rw [cell_below hB _ _ hg]; exact hci
        have HT := hasS_take l j y nm hy
        have HT2 : Hid (hasS (l.take (j + 1)) nm = (nm == y)) := by show _ = _; rw [HT, HA.out, Bool.false_or]
        clear HT hy hjl e' hcj
        cases hk : y == nm with
        | true =>
          have e1 : (nm == y) = true := by rw [beq_iff_eq] at hk ⊢; exact hk.symm
          have HF : Hid (R = 72) := by show _ = _; rw [HE.out, if_pos (hasS_mono l i (j + 1) (by omega) nm (by rw [HT2.out, e1]))]
          clear HE HT2 e1
          go_wp2
          go_quiet (fail)
          go_wp2
          go_ret
          exact ⟨ret_int HF.out.symm, below_drewN hB _⟩
        | false =>
          have e1 : (nm == y) = false := by rw [beq_eq_false_iff_ne] at hk ⊢; exact fun e => hk e.symm
          have HF : Hid (hasS (l.take (j + 1)) nm = false) := by show _ = _; rw [HT2.out, e1]
          clear HT2 e1
          go_wp2
          go_quiet (fail)
          go_wp2
          go_roundw
          case rel => exact ⟨j + 1, by omega, by go_num, below_drewN hB _, HF.out⟩
          case measure => simp [intOf]; omega
      · obtain rfl : j = i := by omega
        have hlt' : ¬ (j : Int) < j := by omega
        have HF : Hid (R = 0) := by show _ = _; rw [HE.out, HA.out]; rfl
        clear HA HE
        go_wp2
        go_ret
        exact ⟨ret_int HF.out.symm, hB⟩
end Go.Proofs.YtidhjajobacnaaaGreatDoor

namespace Go.Proofs.YtidhjajobacnaaaGreatDoor
open Go.RowKit
set_option linter.unusedVariables false

/-- What is wrong with an action. -/
def actE (c : Cf) (a : Ac) (lo hi : Int) : Int :=
  if (inR a.kind lo hi && bareB a) = false then 74 else if objB c a = false then 73 else if ownB c a = false then 70 else if calB a = false then 72 else 0
set_option maxHeartbeats 4000000 in
set_option maxRecDepth 100000 in
theorem raction1 (w : World) (c : Cf) (v : Vs) (h : CfAt w c v) (t ev : Int) (n : List UInt8) (lo hi : Int) (hsz : n.length < 9223372036854775808) (h1 : ¬ 1 < lo) (h2 : ¬ hi < 1) :
    Calls Tryz.prog 62 #[.agg (cfC c v), .agg (acC ⟨1, t, ev, n⟩), I lo, I hi] w fun e w' => e = .returned (I (actE c ⟨1, t, ev, n⟩ lo hi)) ∧ Below w.heap.size w w' := by
  have c1 := rName_l n hsz
  have hb := below_alloc w
  have hb2 := fun o o' => (hb o).trans ((below_alloc (w.alloc o) o').mono (hb o).size)
  have HN : Hid (v.t.n = c.tasks.length) := h.t.n
  have HM : Hid (v.e.n = c.evs.length) := h.e.n
  obtain ⟨R, hR⟩ : ∃ R, R = actE c ⟨1, t, ev, n⟩ lo hi := ⟨_, rfl⟩
  rw [← hR]
  have HR2 : Hid (R = if bareB ⟨1, t, ev, n⟩ = false then 74 else if objB c ⟨1, t, ev, n⟩ = false then 73 else if ownB c ⟨1, t, ev, n⟩ = false then 70 else if calB ⟨1, t, ev, n⟩ = false then 72 else 0) := by
    have hI : inR 1 lo hi = true := by simp [inR]; omega
    show _ = _
    rw [hR, actE, hI, Bool.true_and]
  clear hR
  unfold acC
  dsimp only
  have f11 : ∀ h : 11 < (cfC c v).size, (cfC c v)[11] = .slice v.t.a v.t.n v.t.c := fun _ => rfl
  have f13 : ∀ h : 13 < (cfC c v).size, (cfC c v)[13] = .slice v.e.a v.e.n v.e.c := fun _ => rfl
  have hs18 : (cfC c v).size = 18 := rfl
  generalize cfC c v = C at *
  replace f11 := f11 (by omega)
  replace f13 := f13 (by omega)
  cases hev : ev == 0 with
  | false =>
    have hev' : (ev != 0) = true := by simp [bne, hev]
    have HE : Hid (R = 74) := by show _ = _; rw [HR2.out]; delta bareB objB ownB calB; delta uT uE uN isId; simp [hev]
    clear HR2
    go_enter Tryz.func62, Tryz.ntmps62
    go_wp2
    try go_quiet (fail)
    go_wp2
    go_ret
    exact ⟨ret_int HE.out.symm, by first | exact hb2 _ _ | exact below_drewN (hb2 _ _) _⟩
  | true =>
    have hev' : (ev != 0) = false := by simp [bne, hev]
    cases n with
    | cons d r =>
      have HE : Hid (R = 74) := by show _ = _; rw [HR2.out]; delta bareB objB ownB calB; delta uT uE uN isId; simp []
      clear HR2
      go_enter Tryz.func62, Tryz.ntmps62
      go_wp2
      try go_quiet (fail)
      go_wp2
      go_ret
      exact ⟨ret_int HE.out.symm, by first | exact hb2 _ _ | exact below_drewN (hb2 _ _) _⟩
    | nil =>
      by_cases ht : t < 0
      · skip
        have HE : Hid (R = 73) := by show _ = _; rw [HR2.out]; delta bareB objB ownB calB; delta uT uE uN isId; simp [hev]; omega
        clear HR2
        go_enter Tryz.func62, Tryz.ntmps62
        go_wp2
        try go_quiet (fail)
        go_wp2
        go_ret
        exact ⟨ret_int HE.out.symm, by first | exact hb2 _ _ | exact below_drewN (hb2 _ _) _⟩
      · by_cases ht2 : (v.t.n : Int) ≤ t
        · skip
          have HE : Hid (R = 73) := by show _ = _; rw [HR2.out]; delta bareB objB ownB calB; delta uT uE uN isId; simp [hev, ← HN.out]; omega
          clear HR2
          go_enter Tryz.func62, Tryz.ntmps62
          go_wp2
          try go_quiet (fail)
          go_wp2
          go_ret
          exact ⟨ret_int HE.out.symm, by first | exact hb2 _ _ | exact below_drewN (hb2 _ _) _⟩
        · skip
          have HE : Hid (R = 0) := by show _ = _; rw [HR2.out]; delta bareB objB ownB calB; delta uT uE uN isId; simp [hev, ← HN.out]; omega
          clear HR2
          go_enter Tryz.func62, Tryz.ntmps62
          go_wp2
          try go_quiet (fail)
          go_wp2
          go_ret
          exact ⟨ret_int HE.out.symm, by first | exact hb2 _ _ | exact below_drewN (hb2 _ _) _⟩
set_option maxHeartbeats 4000000 in
set_option maxRecDepth 100000 in
theorem raction3 (w : World) (c : Cf) (v : Vs) (h : CfAt w c v) (t ev : Int) (n : List UInt8) (lo hi : Int) (hsz : n.length < 9223372036854775808) (h1 : ¬ 3 < lo) (h2 : ¬ hi < 3) :
    Calls Tryz.prog 62 #[.agg (cfC c v), .agg (acC ⟨3, t, ev, n⟩), I lo, I hi] w fun e w' => e = .returned (I (actE c ⟨3, t, ev, n⟩ lo hi)) ∧ Below w.heap.size w w' := by
  have c1 := rName_l n hsz
  have hb := below_alloc w
  have hb2 := fun o o' => (hb o).trans ((below_alloc (w.alloc o) o').mono (hb o).size)
  have HN : Hid (v.t.n = c.tasks.length) := h.t.n
  have HM : Hid (v.e.n = c.evs.length) := h.e.n
  obtain ⟨R, hR⟩ : ∃ R, R = actE c ⟨3, t, ev, n⟩ lo hi := ⟨_, rfl⟩
  rw [← hR]
  have HR2 : Hid (R = if bareB ⟨3, t, ev, n⟩ = false then 74 else if objB c ⟨3, t, ev, n⟩ = false then 73 else if ownB c ⟨3, t, ev, n⟩ = false then 70 else if calB ⟨3, t, ev, n⟩ = false then 72 else 0) := by
    have hI : inR 3 lo hi = true := by simp [inR]; omega
    show _ = _
    rw [hR, actE, hI, Bool.true_and]
  clear hR
  unfold acC
  dsimp only
  have f11 : ∀ h : 11 < (cfC c v).size, (cfC c v)[11] = .slice v.t.a v.t.n v.t.c := fun _ => rfl
  have f13 : ∀ h : 13 < (cfC c v).size, (cfC c v)[13] = .slice v.e.a v.e.n v.e.c := fun _ => rfl
  have hs18 : (cfC c v).size = 18 := rfl
  generalize cfC c v = C at *
  replace f11 := f11 (by omega)
  replace f13 := f13 (by omega)
  cases ht : t == 0 with
  | false =>
    have ht' : (t != 0) = true := by simp [bne, ht]
    have HE : Hid (R = 74) := by show _ = _; rw [HR2.out]; delta bareB objB ownB calB; delta uT uE uN isId; simp [ht]
    clear HR2
    go_enter Tryz.func62, Tryz.ntmps62
    go_wp2
    try go_quiet (fail)
    go_wp2
    go_ret
    exact ⟨ret_int HE.out.symm, by first | exact hb2 _ _ | exact below_drewN (hb2 _ _) _⟩
  | true =>
    have ht' : (t != 0) = false := by simp [bne, ht]
    cases hev : ev == 0 with
    | false =>
      have hev' : (ev != 0) = true := by simp [bne, hev]
      have HE : Hid (R = 74) := by show _ = _; rw [HR2.out]; delta bareB objB ownB calB; delta uT uE uN isId; simp [hev]
      clear HR2
      go_enter Tryz.func62, Tryz.ntmps62
      go_wp2
      try go_quiet (fail)
      go_wp2
      go_ret
      exact ⟨ret_int HE.out.symm, by first | exact hb2 _ _ | exact below_drewN (hb2 _ _) _⟩
    | true =>
      have hev' : (ev != 0) = false := by simp [bne, hev]
      cases hnm : isNm n with
      | false =>
        rw [hnm] at c1
        have HE : Hid (R = 72) := by show _ = _; rw [HR2.out]; delta bareB objB ownB calB; delta uT uE uN isId; simp [ht, hev, hnm]
        clear HR2
        go_enter Tryz.func62, Tryz.ntmps62
        go_wp2_with (first | (go_at_call 29; refine (c1 _).mono ?_; rintro e w' ⟨rfl, hq⟩; replace hq := hq.symm; subst hq))
        try go_quiet (fail)
        go_wp2_with (first | (go_at_call 29; refine (c1 _).mono ?_; rintro e w' ⟨rfl, hq⟩; replace hq := hq.symm; subst hq))
        go_ret
        exact ⟨ret_int HE.out.symm, by first | exact hb2 _ _ | exact below_drewN (hb2 _ _) _⟩
      | true =>
        rw [hnm] at c1
        have HE : Hid (R = 0) := by show _ = _; rw [HR2.out]; delta bareB objB ownB calB; delta uT uE uN isId; simp [ht, hev, hnm]
        clear HR2
        go_enter Tryz.func62, Tryz.ntmps62
        go_wp2_with (first | (go_at_call 29; refine (c1 _).mono ?_; rintro e w' ⟨rfl, hq⟩; replace hq := hq.symm; subst hq))
        try go_quiet (fail)
        go_wp2_with (first | (go_at_call 29; refine (c1 _).mono ?_; rintro e w' ⟨rfl, hq⟩; replace hq := hq.symm; subst hq))
        go_ret
        exact ⟨ret_int HE.out.symm, by first | exact hb2 _ _ | exact below_drewN (hb2 _ _) _⟩
set_option maxHeartbeats 4000000 in
set_option maxRecDepth 100000 in
theorem raction4 (w : World) (c : Cf) (v : Vs) (h : CfAt w c v) (t ev : Int) (n : List UInt8) (lo hi : Int) (hsz : n.length < 9223372036854775808) (h1 : ¬ 4 < lo) (h2 : ¬ hi < 4) :
    Calls Tryz.prog 62 #[.agg (cfC c v), .agg (acC ⟨4, t, ev, n⟩), I lo, I hi] w fun e w' => e = .returned (I (actE c ⟨4, t, ev, n⟩ lo hi)) ∧ Below w.heap.size w w' := by
  have c1 := rName_l n hsz
  have hb := below_alloc w
  have hb2 := fun o o' => (hb o).trans ((below_alloc (w.alloc o) o').mono (hb o).size)
  have HN : Hid (v.t.n = c.tasks.length) := h.t.n
  have HM : Hid (v.e.n = c.evs.length) := h.e.n
  obtain ⟨R, hR⟩ : ∃ R, R = actE c ⟨4, t, ev, n⟩ lo hi := ⟨_, rfl⟩
  rw [← hR]
  have HR2 : Hid (R = if bareB ⟨4, t, ev, n⟩ = false then 74 else if objB c ⟨4, t, ev, n⟩ = false then 73 else if ownB c ⟨4, t, ev, n⟩ = false then 70 else if calB ⟨4, t, ev, n⟩ = false then 72 else 0) := by
    have hI : inR 4 lo hi = true := by simp [inR]; omega
    show _ = _
    rw [hR, actE, hI, Bool.true_and]
  clear hR
  unfold acC
  dsimp only
  have f11 : ∀ h : 11 < (cfC c v).size, (cfC c v)[11] = .slice v.t.a v.t.n v.t.c := fun _ => rfl
  have f13 : ∀ h : 13 < (cfC c v).size, (cfC c v)[13] = .slice v.e.a v.e.n v.e.c := fun _ => rfl
  have hs18 : (cfC c v).size = 18 := rfl
  generalize cfC c v = C at *
  replace f11 := f11 (by omega)
  replace f13 := f13 (by omega)
  cases ht : t == 0 with
  | false =>
    have ht' : (t != 0) = true := by simp [bne, ht]
    have HE : Hid (R = 74) := by show _ = _; rw [HR2.out]; delta bareB objB ownB calB; delta uT uE uN isId; simp [ht]
    clear HR2
    go_enter Tryz.func62, Tryz.ntmps62
    go_wp2
    try go_quiet (fail)
    go_wp2
    go_ret
    exact ⟨ret_int HE.out.symm, by first | exact hb2 _ _ | exact below_drewN (hb2 _ _) _⟩
  | true =>
    have ht' : (t != 0) = false := by simp [bne, ht]
    cases hev : ev == 0 with
    | false =>
      have hev' : (ev != 0) = true := by simp [bne, hev]
      have HE : Hid (R = 74) := by show _ = _; rw [HR2.out]; delta bareB objB ownB calB; delta uT uE uN isId; simp [hev]
      clear HR2
      go_enter Tryz.func62, Tryz.ntmps62
      go_wp2
      try go_quiet (fail)
      go_wp2
      go_ret
      exact ⟨ret_int HE.out.symm, by first | exact hb2 _ _ | exact below_drewN (hb2 _ _) _⟩
    | true =>
      have hev' : (ev != 0) = false := by simp [bne, hev]
      cases hnm : isNm n with
      | false =>
        rw [hnm] at c1
        have HE : Hid (R = 72) := by show _ = _; rw [HR2.out]; delta bareB objB ownB calB; delta uT uE uN isId; simp [ht, hev, hnm]
        clear HR2
        go_enter Tryz.func62, Tryz.ntmps62
        go_wp2_with (first | (go_at_call 29; refine (c1 _).mono ?_; rintro e w' ⟨rfl, hq⟩; replace hq := hq.symm; subst hq))
        try go_quiet (fail)
        go_wp2_with (first | (go_at_call 29; refine (c1 _).mono ?_; rintro e w' ⟨rfl, hq⟩; replace hq := hq.symm; subst hq))
        go_ret
        exact ⟨ret_int HE.out.symm, by first | exact hb2 _ _ | exact below_drewN (hb2 _ _) _⟩
      | true =>
        rw [hnm] at c1
        have HE : Hid (R = 0) := by show _ = _; rw [HR2.out]; delta bareB objB ownB calB; delta uT uE uN isId; simp [ht, hev, hnm]
        clear HR2
        go_enter Tryz.func62, Tryz.ntmps62
        go_wp2_with (first | (go_at_call 29; refine (c1 _).mono ?_; rintro e w' ⟨rfl, hq⟩; replace hq := hq.symm; subst hq))
        try go_quiet (fail)
        go_wp2_with (first | (go_at_call 29; refine (c1 _).mono ?_; rintro e w' ⟨rfl, hq⟩; replace hq := hq.symm; subst hq))
        go_ret
        exact ⟨ret_int HE.out.symm, by first | exact hb2 _ _ | exact below_drewN (hb2 _ _) _⟩
set_option maxHeartbeats 4000000 in
set_option maxRecDepth 100000 in
theorem raction0 (w : World) (c : Cf) (v : Vs) (h : CfAt w c v) (t ev : Int) (n : List UInt8) (lo hi : Int) (hsz : n.length < 9223372036854775808) (k : Int) (k1 : (k == 1) = false) (k2 : (k == 2) = false) (k3 : (k == 3) = false) (k4 : (k == 4) = false) (h1 : ¬ k < lo) (h2 : ¬ hi < k) :
    Calls Tryz.prog 62 #[.agg (cfC c v), .agg (acC ⟨k, t, ev, n⟩), I lo, I hi] w fun e w' => e = .returned (I (actE c ⟨k, t, ev, n⟩ lo hi)) ∧ Below w.heap.size w w' := by
  have c1 := rName_l n hsz
  have hb := below_alloc w
  have hb2 := fun o o' => (hb o).trans ((below_alloc (w.alloc o) o').mono (hb o).size)
  have HN : Hid (v.t.n = c.tasks.length) := h.t.n
  have HM : Hid (v.e.n = c.evs.length) := h.e.n
  obtain ⟨R, hR⟩ : ∃ R, R = actE c ⟨k, t, ev, n⟩ lo hi := ⟨_, rfl⟩
  rw [← hR]
  have HR2 : Hid (R = if bareB ⟨k, t, ev, n⟩ = false then 74 else if objB c ⟨k, t, ev, n⟩ = false then 73 else if ownB c ⟨k, t, ev, n⟩ = false then 70 else if calB ⟨k, t, ev, n⟩ = false then 72 else 0) := by
    have hI : inR k lo hi = true := by simp [inR]; omega
    show _ = _
    rw [hR, actE, hI, Bool.true_and]
  clear hR
  unfold acC
  dsimp only
  have f11 : ∀ h : 11 < (cfC c v).size, (cfC c v)[11] = .slice v.t.a v.t.n v.t.c := fun _ => rfl
  have f13 : ∀ h : 13 < (cfC c v).size, (cfC c v)[13] = .slice v.e.a v.e.n v.e.c := fun _ => rfl
  have hs18 : (cfC c v).size = 18 := rfl
  generalize cfC c v = C at *
  replace f11 := f11 (by omega)
  replace f13 := f13 (by omega)
  have k2' : (k != 2) = true := by simp [bne, k2]
  cases ht : t == 0 with
  | false =>
    have ht' : (t != 0) = true := by simp [bne, ht]
    have HE : Hid (R = 74) := by show _ = _; rw [HR2.out]; delta bareB objB ownB calB; delta uT uE uN isId; simp [k1, k2, ht]
    clear HR2
    go_enter Tryz.func62, Tryz.ntmps62
    go_wp2
    try go_quiet (fail)
    go_wp2
    go_ret
    exact ⟨ret_int HE.out.symm, by first | exact hb2 _ _ | exact below_drewN (hb2 _ _) _⟩
  | true =>
    have ht' : (t != 0) = false := by simp [bne, ht]
    cases hev : ev == 0 with
    | false =>
      have hev' : (ev != 0) = true := by simp [bne, hev]
      have HE : Hid (R = 74) := by show _ = _; rw [HR2.out]; delta bareB objB ownB calB; delta uT uE uN isId; simp [k2, hev]
      clear HR2
      go_enter Tryz.func62, Tryz.ntmps62
      go_wp2
      try go_quiet (fail)
      go_wp2
      go_ret
      exact ⟨ret_int HE.out.symm, by first | exact hb2 _ _ | exact below_drewN (hb2 _ _) _⟩
    | true =>
      have hev' : (ev != 0) = false := by simp [bne, hev]
      cases n with
      | cons d r =>
        have HE : Hid (R = 74) := by show _ = _; rw [HR2.out]; delta bareB objB ownB calB; delta uT uE uN isId; simp [k3, k4]
        clear HR2
        go_enter Tryz.func62, Tryz.ntmps62
        go_wp2
        try go_quiet (fail)
        go_wp2
        go_ret
        exact ⟨ret_int HE.out.symm, by first | exact hb2 _ _ | exact below_drewN (hb2 _ _) _⟩
      | nil =>
        have HE : Hid (R = 0) := by show _ = _; rw [HR2.out]; delta bareB objB ownB calB; delta uT uE uN isId; simp [k1, k2, k3, k4, ht, hev]
        clear HR2
        go_enter Tryz.func62, Tryz.ntmps62
        go_wp2
        try go_quiet (fail)
        go_wp2
        go_ret
        exact ⟨ret_int HE.out.symm, by first | exact hb2 _ _ | exact below_drewN (hb2 _ _) _⟩
end Go.Proofs.YtidhjajobacnaaaGreatDoor

namespace Go.Proofs.YtidhjajobacnaaaGreatDoor
open Go.RowKit
set_option linter.unusedVariables false

set_option maxHeartbeats 4000000 in
set_option maxRecDepth 100000 in
theorem raction2 (w : World) (c : Cf) (v : Vs) (h : CfAt w c v) (t ev : Int) (n : List UInt8) (lo hi : Int) (hsz : n.length < 9223372036854775808) (h1 : ¬ 2 < lo) (h2 : ¬ hi < 2) :
    Calls Tryz.prog 62 #[.agg (cfC c v), .agg (acC ⟨2, t, ev, n⟩), I lo, I hi] w fun e w' => e = .returned (I (actE c ⟨2, t, ev, n⟩ lo hi)) ∧ Below w.heap.size w w' := by
  have c1 := rName_l n hsz
  have hb := below_alloc w
  have hb2 := fun o o' => (hb o).trans ((below_alloc (w.alloc o) o').mono (hb o).size)
  have HN : Hid (v.t.n = c.tasks.length) := h.t.n
  have HM : Hid (v.e.n = c.evs.length) := h.e.n
  obtain ⟨R, hR⟩ : ∃ R, R = actE c ⟨2, t, ev, n⟩ lo hi := ⟨_, rfl⟩
  rw [← hR]
  have HR2 : Hid (R = if bareB ⟨2, t, ev, n⟩ = false then 74 else if objB c ⟨2, t, ev, n⟩ = false then 73 else if ownB c ⟨2, t, ev, n⟩ = false then 70 else if calB ⟨2, t, ev, n⟩ = false then 72 else 0) := by
    have hI : inR 2 lo hi = true := by simp [inR]; omega
    show _ = _
    rw [hR, actE, hI, Bool.true_and]
  clear hR
  unfold acC
  dsimp only
  have f11 : ∀ h : 11 < (cfC c v).size, (cfC c v)[11] = .slice v.t.a v.t.n v.t.c := fun _ => rfl
  have f13 : ∀ h : 13 < (cfC c v).size, (cfC c v)[13] = .slice v.e.a v.e.n v.e.c := fun _ => rfl
  have hs18 : (cfC c v).size = 18 := rfl
  generalize cfC c v = C at *
  replace f11 := f11 (by omega)
  replace f13 := f13 (by omega)
  cases n with
  | cons d r =>
    have HE : Hid (R = 74) := by show _ = _; rw [HR2.out]; delta bareB objB ownB calB; delta uT uE uN isId; simp []
    clear HR2
    go_enter Tryz.func62, Tryz.ntmps62
    go_wp2
    try go_quiet (fail)
    go_wp2
    go_ret
    exact ⟨ret_int HE.out.symm, by first | exact hb2 _ _ | exact below_drewN (hb2 _ _) _⟩
  | nil =>
    by_cases ht : t < 0
    · skip
      have HE : Hid (R = 73) := by show _ = _; rw [HR2.out]; delta bareB objB ownB calB; delta uT uE uN isId; simp []; omega
      clear HR2
      go_enter Tryz.func62, Tryz.ntmps62
      go_wp2
      try go_quiet (fail)
      go_wp2
      go_ret
      exact ⟨ret_int HE.out.symm, by first | exact hb2 _ _ | exact below_drewN (hb2 _ _) _⟩
    · by_cases ht2 : (v.t.n : Int) ≤ t
      · skip
        have HE : Hid (R = 73) := by show _ = _; rw [HR2.out]; delta bareB objB ownB calB; delta uT uE uN isId; simp [← HN.out]; omega
        clear HR2
        go_enter Tryz.func62, Tryz.ntmps62
        go_wp2
        try go_quiet (fail)
        go_wp2
        go_ret
        exact ⟨ret_int HE.out.symm, by first | exact hb2 _ _ | exact below_drewN (hb2 _ _) _⟩
      · obtain ⟨q, rfl⟩ := Int.eq_ofNat_of_zero_le (show 0 ≤ t by omega)
        by_cases he : ev < 0
        · skip
          have HE : Hid (R = 73) := by show _ = _; rw [HR2.out]; delta bareB objB ownB calB; delta uT uE uN isId; simp [← HN.out]; omega
          clear HR2
          go_enter Tryz.func62, Tryz.ntmps62
          go_wp2
          try go_quiet (fail)
          go_wp2
          go_ret
          exact ⟨ret_int HE.out.symm, by first | exact hb2 _ _ | exact below_drewN (hb2 _ _) _⟩
        · by_cases he2 : (v.e.n : Int) ≤ ev
          · skip
            have HE : Hid (R = 73) := by show _ = _; rw [HR2.out]; delta bareB objB ownB calB; delta uT uE uN isId; simp [← HN.out, ← HM.out]; omega
            clear HR2
            go_enter Tryz.func62, Tryz.ntmps62
            go_wp2
            try go_quiet (fail)
            go_wp2
            go_ret
            exact ⟨ret_int HE.out.symm, by first | exact hb2 _ _ | exact below_drewN (hb2 _ _) _⟩
          · have hql : q < c.tasks.length := by rw [← HN.out]; omega
            obtain ⟨x, hx⟩ : ∃ y, c.tasks[q]? = some y := ⟨_, List.getElem?_eq_getElem hql⟩
            obtain ⟨g, off, s4, s5, s6, s7, e, hg, a0, a1, a2, a3, a4, a5, a6, a7, r4, r5, r6, r7⟩ := tk_at h hx
            have hne : g ≠ w.heap.size := by omega
            have hgl : g < w.heap.size + 1 := by omega
            have hne1 : g ≠ w.heap.size + 1 := by omega
            rw [e] at f11
            have c2 := fun W (hW : Below w.heap.size w W) => rhas_any W s6 x.evs (r6.below hW (fun _ _ _ _ h => h)) ev
            have hq' : (q : Int) < v.t.n := by omega
            have hobj : objB c ⟨2, (q : Int), ev, []⟩ = true := by
              simp [objB, uT, uE, isId, ← HN.out, ← HM.out]
              omega
            have hown : ownB c ⟨2, (q : Int), ev, []⟩ = hasL x.evs ev := by simp [ownB, uE, evsOf, hx]
            have hbare : bareB ⟨2, (q : Int), ev, []⟩ = true := rfl
            have HR3 : Hid (R = if hasL x.evs ev = true then 0 else 70) := by
              show _ = _
              rw [HR2.out, hbare, hobj, hown, if_neg (by decide), if_neg (by decide)]
              cases hasL x.evs ev <;> rfl
            clear HR2 hbare hobj hown hx hql a0 a1 a2 a3 a4 a5 a7 r4 r5 r7
            cases hh : hasL x.evs ev with
            | true =>
              have HE : Hid (R = 0) := by show _ = _; rw [HR3.out, hh]; rfl
              rw [hh] at c2
              clear HR3
              go_enter Tryz.func62, Tryz.ntmps62
              go_wp2
              try go_quiet (first | (go_at_call 110; refine Calls.quiet_of_same (c2 _ (below_drewN (hb2 _ _) _))))
              go_wp2
              go_ret
              exact ⟨ret_int HE.out.symm, by first | exact hb2 _ _ | exact below_drewN (hb2 _ _) _⟩
            | false =>
              have HE : Hid (R = 70) := by show _ = _; rw [HR3.out, hh]; rfl
              rw [hh] at c2
              clear HR3
              go_enter Tryz.func62, Tryz.ntmps62
              go_wp2
              try go_quiet (first | (go_at_call 110; refine Calls.quiet_of_same (c2 _ (below_drewN (hb2 _ _) _))))
              go_wp2
              go_ret
              exact ⟨ret_int HE.out.symm, by first | exact hb2 _ _ | exact below_drewN (hb2 _ _) _⟩
/-- The document's action, of every kind. -/
theorem raction_any (w : World) (c : Cf) (v : Vs) (h : CfAt w c v) (a : Ac) (lo hi : Int) (hsz : a.name.length < 9223372036854775808) (h1 : ¬ a.kind < lo) (h2 : ¬ hi < a.kind) :
    Calls Tryz.prog 62 #[.agg (cfC c v), .agg (acC a), I lo, I hi] w fun e w' => e = .returned (I (actE c a lo hi)) ∧ Below w.heap.size w w' := by
  obtain ⟨k, t, ev, n⟩ := a
  dsimp only at h1 h2 hsz
  by_cases k1 : k = 1
  · subst k1; exact raction1 w c v h t ev n lo hi hsz h1 h2
  by_cases k2 : k = 2
  · subst k2; exact raction2 w c v h t ev n lo hi hsz h1 h2
  by_cases k3 : k = 3
  · subst k3; exact raction3 w c v h t ev n lo hi hsz h1 h2
  by_cases k4 : k = 4
  · subst k4; exact raction4 w c v h t ev n lo hi hsz h1 h2
  exact raction0 w c v h t ev n lo hi hsz k (by simpa using k1) (by simpa using k2) (by simpa using k3) (by simpa using k4) h1 h2
end Go.Proofs.YtidhjajobacnaaaGreatDoor

namespace Go.Proofs.YtidhjajobacnaaaGreatDoor
open Go.RowKit
set_option linter.unusedVariables false

set_option maxHeartbeats 4000000 in
set_option maxRecDepth 100000 in
theorem raction_lo (w : World) (c : Cf) (v : Vs) (a : Ac) (lo hi : Int) (h0 : ¬ False) (h1 : a.kind < lo) :
    Calls Tryz.prog 62 #[.agg (cfC c v), .agg (acC a), I lo, I hi] w fun e w' => e = .returned (I (actE c a lo hi)) ∧ Below w.heap.size w w' := by
  have hb := below_alloc w
  have hb2 := fun o o' => (hb o).trans ((below_alloc (w.alloc o) o').mono (hb o).size)
  have HE : Hid (actE c a lo hi = 74) := by
    have hI : inR a.kind lo hi = false := by simp [inR]; intro; omega
    show _ = _
    rw [actE, hI, Bool.false_and, if_pos rfl]
  generalize actE c a lo hi = R at *
  unfold acC
  have f11 : ∀ h : 11 < (cfC c v).size, (cfC c v)[11] = .slice v.t.a v.t.n v.t.c := fun _ => rfl
  have f13 : ∀ h : 13 < (cfC c v).size, (cfC c v)[13] = .slice v.e.a v.e.n v.e.c := fun _ => rfl
  have hs18 : (cfC c v).size = 18 := rfl
  generalize cfC c v = C at *
  replace f11 := f11 (by omega)
  replace f13 := f13 (by omega)
  cases hk1 : a.kind == 1 <;> cases hk3 : a.kind == 3 <;> (go_enter Tryz.func62, Tryz.ntmps62; go_wp2; go_ret; exact ⟨ret_int HE.out.symm, hb2 _ _⟩)
set_option maxHeartbeats 4000000 in
set_option maxRecDepth 100000 in
theorem raction_hi (w : World) (c : Cf) (v : Vs) (a : Ac) (lo hi : Int) (h0 : ¬ a.kind < lo) (h1 : hi < a.kind) :
    Calls Tryz.prog 62 #[.agg (cfC c v), .agg (acC a), I lo, I hi] w fun e w' => e = .returned (I (actE c a lo hi)) ∧ Below w.heap.size w w' := by
  have hb := below_alloc w
  have hb2 := fun o o' => (hb o).trans ((below_alloc (w.alloc o) o').mono (hb o).size)
  have HE : Hid (actE c a lo hi = 74) := by
    have hI : inR a.kind lo hi = false := by simp [inR]; intro; omega
    show _ = _
    rw [actE, hI, Bool.false_and, if_pos rfl]
  generalize actE c a lo hi = R at *
  unfold acC
  have f11 : ∀ h : 11 < (cfC c v).size, (cfC c v)[11] = .slice v.t.a v.t.n v.t.c := fun _ => rfl
  have f13 : ∀ h : 13 < (cfC c v).size, (cfC c v)[13] = .slice v.e.a v.e.n v.e.c := fun _ => rfl
  have hs18 : (cfC c v).size = 18 := rfl
  generalize cfC c v = C at *
  replace f11 := f11 (by omega)
  replace f13 := f13 (by omega)
  cases hk1 : a.kind == 1 <;> cases hk3 : a.kind == 3 <;> (go_enter Tryz.func62, Tryz.ntmps62; go_wp2; go_ret; exact ⟨ret_int HE.out.symm, hb2 _ _⟩)
theorem raction_all (w : World) (c : Cf) (v : Vs) (h : CfAt w c v) (a : Ac) (lo hi : Int) (hsz : a.name.length < 9223372036854775808) :
    Calls Tryz.prog 62 #[.agg (cfC c v), .agg (acC a), I lo, I hi] w fun e w' => e = .returned (I (actE c a lo hi)) ∧ Below w.heap.size w w' := by
  by_cases h1 : a.kind < lo
  · exact raction_lo w c v a lo hi (fun h => h) h1
  · by_cases h2 : hi < a.kind
    · exact raction_hi w c v a lo hi h1 h2
    · exact raction_any w c v h a lo hi hsz h1 h2
end Go.Proofs.YtidhjajobacnaaaGreatDoor

