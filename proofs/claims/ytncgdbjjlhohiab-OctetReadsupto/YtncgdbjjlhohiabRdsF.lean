import Derived.Test.YtncgdbjjlhohiabRdsB
import Derived.Test.YtncgdbjjlhohiabRdsE
namespace Go.Proofs.Ytncgdbjjlhohiab
open Go.RowKit
set_option linter.unusedVariables false

theorem tE_cons (x : UInt8) (r : List UInt8) : tE (x :: r) = if r.length < x.toNat then 10 else if plainB (r.take x.toNat) = true then 0 else 12 := rfl
theorem grown_refl (w : World) (k : Nat) : w.grownBy w (some k) := ⟨rfl, rfl, rfl, Nat.le_refl _, fun _ _ _ => rfl⟩
set_option maxHeartbeats 400000 in
theorem rbytes_zero {w : World} {base r : Nat} {cap : Nat} {l : List UInt8} (h : IsR w base r none 0 cap l) : Calls Try.prog 22 #[.pointer (some ⟨r, 0, none⟩), .int .i64 0] w fun e w' => e = .returned (.tuple #[.slice none 0 0, .int .i64 0]) ∧ Rdr w' base r [] ∧ w.grownBy w' (some r) := by
  obtain ⟨i0, hi, hz0, hz1, hz2⟩ := info_parts Try.info5
  have c0 := h.c0
  have c1 := h.c1
  have f1 := h.f1
  obtain ⟨_, hc⟩ := h.hrd.hnil rfl
  subst hc
  have R := isR_store h none 0 0 [] ⟨rfl, Nat.le_refl _, by omega, fun _ => ⟨rfl, rfl⟩, fun e => by omega⟩ (fun b off e _ => by cases e)
  have HR := (show Hid (_ ∧ _) from R)
  clear R
  go_enter Try.func22, Try.ntmps22
  go_wp2_with (first | (go_at_call 37; refine (none_any _ _ true _ c0).mono ?_; rintro e w' ⟨rfl, rfl⟩) | (at_builtin; refine wpList_append_own_none rfl _ (.tmp 23) 30 rfl w.heap.size 5 i0 1 Try.underlying30 hi _ _ _ rfl (World.ownsRow_nil _ _ _ _) rfl ?_))
  go_ret2
  exact ⟨rfl, HR.out.1.rdr, HR.out.2⟩

set_option maxHeartbeats 400000 in
theorem rbytes_zero' {w : World} {base r : Nat} {ad : Addr} {cap : Nat} {l : List UInt8} (h : IsR w base r (some ad) 0 cap l) : Calls Try.prog 22 #[.pointer (some ⟨r, 0, none⟩), .int .i64 0] w fun e w' => ∃ a' c', e = .returned (.tuple #[.slice a' 0 c', .int .i64 0]) ∧ Own1 w' w.heap.size a' c' [] ∧ Rdr w' base r [] ∧ w.grownBy w' (some r) := by
  obtain ⟨i0, hi, hz0, hz1, hz2⟩ := info_parts Try.info5
  have c0 := h.c0
  have c1 := h.c1
  have f1 := h.f1
  have hr := h.rlt
  go_enter Try.func22, Try.ntmps22
  go_wp2_with (first | (go_at_call 37; refine (none_any _ _ true _ c0).mono ?_; rintro e w' ⟨rfl, rfl⟩) | (at_builtin; refine wpList_append_own _ rfl _ (.tmp 23) 30 rfl w.heap.size 5 i0 (.int .u8 0) 1 1 Try.underlying30 hi hz0 hz1 hz2 rfl (by decide) _ _ _ rfl (World.ownsRow_nil _ _ _ _) ad 0 cap [] rfl rfl (fun j u hj => by cases hj) (fun u hu => by cases hu) (by unfold maxLen; omega) (by omega) (Nat.le_refl _) ?_))
  intro v2 w2 ho2 hg2 _
  have hb2 : Below w.heap.size w w2 := (Below.refl _ _).grown hg2 (Nat.le_refl _) (fun k h => by cases h)
  have h3 := h.below hb2
  have d0 := h3.c0
  have d1 := h3.c1
  have g1 := h3.f1
  obtain ⟨a2, cap2, rfl⟩ := owns_shape ho2
  have hO : Own1 w2 w.heap.size a2 cap2 [] := ho2
  have R := isR_store h3 (some ad) 0 cap [] ⟨rfl, Nat.zero_le _, by omega, (fun e => by cases e), fun e => by omega⟩ (fun b off e hp => by omega)
  have HR := (show Hid (_ ∧ _) from R)
  have HO : Hid (Own1 _ w.heap.size a2 cap2 []) := own1_kept hO R.2 hr
  have HG : Hid (_) := grown_two hb2 R.2
  clear R hO ho2 hg2 c0 c1 f1
  go_wp2
  go_ret2
  exact ⟨_, _, rfl, HO.out, HR.out.1.rdr, HG.out⟩

/-! ### One contract a call -/
theorem rnum_u {w : World} {base r : Nat} {l : List UInt8} (h : Rdr w base r l) (m : Int) : Calls Try.prog 20 #[.pointer (some ⟨r, 0, none⟩), .int .i64 m] w fun e w' => e = .returned (.tuple #[.int .u64 (nV l m), .int .i64 (nE l m)]) ∧ Rdr w' base r (l.drop (nK l m)) ∧ w.grownBy w' (some r) := by
  obtain ⟨a, cap, hr⟩ := h
  by_cases h1 : m < 1 ∨ 8 < m
  · have e1 : nE l m = 2 := by unfold nE; rw [if_pos h1]
    have e2 : nK l m = 0 := by unfold nK; rw [e1]; rfl
    have e3 : nV l m = 0 := by unfold nV; rw [e2]; rfl
    rw [e1, e2, e3]
    exact (rnumber_arg hr m h1).mono fun e w' ⟨a1, a2⟩ => ⟨a1, a2 ▸ hr.rdr, a2 ▸ grown_refl _ _⟩
  · by_cases h2 : (l.length : Int) < m
    · have e1 : nE l m = 10 := by unfold nE; rw [if_neg h1, if_pos h2]
      have e2 : nK l m = 0 := by unfold nK; rw [e1]; rfl
      have e3 : nV l m = 0 := by unfold nV; rw [e2]; rfl
      rw [e1, e2, e3]
      exact (rnumber_short hr m (by omega) (by omega) h2).mono fun e w' ⟨a1, a2⟩ => ⟨a1, a2 ▸ hr.rdr, a2 ▸ grown_refl _ _⟩
    · have e1 : nE l m = 0 := by unfold nE; rw [if_neg h1, if_neg h2]
      obtain ⟨j, rfl⟩ := Int.eq_ofNat_of_zero_le (show 0 ≤ m by omega)
      have e2 : nK l (j : Int) = j := by unfold nK; rw [e1]; simp
      unfold nV
      rw [e1, e2]
      exact rnumber_made hr j (by omega) (by omega) (by omega)
theorem pnum_u {w : World} {base p b1 o1 n cap k : Nat} {l : List UInt8} (h : IsP w base p (some ⟨b1, o1, none⟩) n cap k l) (m : Int) : Calls Try.prog 21 #[.pointer (some ⟨p, 0, none⟩), .int .i64 m] w fun e w' => e = .returned (.tuple #[.int .u64 (nV (l.drop k) m), .int .i64 (nE (l.drop k) m)]) ∧ IsP w' base p (some ⟨b1, o1, none⟩) n cap (k + nK (l.drop k) m) l ∧ w.grownBy w' (some p) := by
  have hl := h.hrd.hlen
  have hk := h.hk
  have hlen : (l.drop k).length = n - k := by simp; omega
  by_cases h1 : m < 1 ∨ 8 < m
  · have e1 : nE (l.drop k) m = 2 := by unfold nE; rw [if_pos h1]
    have e2 : nK (l.drop k) m = 0 := by unfold nK; rw [e1]; rfl
    have e3 : nV (l.drop k) m = 0 := by unfold nV; rw [e2]; rfl
    rw [e1, e2, e3]
    exact pnumber_arg h m h1
  · by_cases h2 : ((l.drop k).length : Int) < m
    · have e1 : nE (l.drop k) m = 10 := by unfold nE; rw [if_neg h1, if_pos h2]
      have e2 : nK (l.drop k) m = 0 := by unfold nK; rw [e1]; rfl
      have e3 : nV (l.drop k) m = 0 := by unfold nV; rw [e2]; rfl
      rw [e1, e2, e3]
      exact pnumber_short h m (by omega) (by omega) (by omega)
    · have e1 : nE (l.drop k) m = 0 := by unfold nE; rw [if_neg h1, if_neg h2]
      obtain ⟨j, rfl⟩ := Int.eq_ofNat_of_zero_le (show 0 ≤ m by omega)
      have e2 : nK (l.drop k) (j : Int) = j := by unfold nK; rw [e1]; simp
      unfold nV
      rw [e1, e2]
      exact pnumber_made h j (by omega) (by omega) (by omega)
theorem rbyt_u {w : World} {base r : Nat} {l : List UInt8} (h : Rdr w base r l) (m : Int) : Calls Try.prog 22 #[.pointer (some ⟨r, 0, none⟩), .int .i64 m] w fun e w' => ∃ a' c', e = .returned (.tuple #[.slice a' (bL l m).length c', .int .i64 (bE l m)]) ∧ Own1 w' w.heap.size a' c' (bL l m) ∧ Rdr w' base r (l.drop (bK l m)) ∧ w.grownBy w' (some r) := by
  obtain ⟨a, cap, hr⟩ := h
  by_cases h1 : m < 0
  · have e1 : bE l m = 2 := by unfold bE; rw [if_pos h1]
    have e2 : bK l m = 0 := by unfold bK; rw [e1]; rfl
    have e3 : bL l m = [] := by unfold bL; rw [e2]; rfl
    rw [e1, e2, e3]
    exact (rbytes_arg hr m h1).mono fun e w' ⟨a1, a2⟩ => ⟨none, 0, a1, World.ownsRow_nil _ _ _ _, a2 ▸ hr.rdr, a2 ▸ grown_refl _ _⟩
  · by_cases h2 : (l.length : Int) < m
    · have e1 : bE l m = 10 := by unfold bE; rw [if_neg h1, if_pos h2]
      have e2 : bK l m = 0 := by unfold bK; rw [e1]; rfl
      have e3 : bL l m = [] := by unfold bL; rw [e2]; rfl
      rw [e1, e2, e3]
      exact (rbytes_short hr m (by omega) h2).mono fun e w' ⟨a1, a2⟩ => ⟨none, 0, a1, World.ownsRow_nil _ _ _ _, a2 ▸ hr.rdr, a2 ▸ grown_refl _ _⟩
    · have e1 : bE l m = 0 := by unfold bE; rw [if_neg h1, if_neg h2]
      obtain ⟨j, rfl⟩ := Int.eq_ofNat_of_zero_le (show 0 ≤ m by omega)
      have e2 : bK l (j : Int) = j := by unfold bK; rw [e1]; simp
      have hj : j ≤ l.length := by omega
      unfold bL
      rw [e1, e2]
      have hl : (l.take j).length = j := by simp; omega
      rw [hl]
      cases a with
      | none =>
        obtain ⟨z1, z2⟩ := hr.hrd.hnil rfl
        have e3 : l = [] := List.eq_nil_of_length_eq_zero z1
        subst e3
        have ej : j = 0 := by simpa using hj
        subst ej
        exact (rbytes_zero hr).mono fun e w' ⟨a1, a2, a3⟩ => ⟨none, 0, a1, World.ownsRow_nil _ _ _ _, a2, a3⟩
      | some ad =>
        by_cases h0 : 0 < l.length
        · obtain ⟨b1, o1, e, _, _⟩ := hr.hrd.hcell h0
          simp only [Option.some.injEq] at e
          subst e
          exact rbytes_made hr j hj
        · have e3 : l = [] := List.eq_nil_of_length_eq_zero (by omega)
          subst e3
          have ej : j = 0 := by simpa using hj
          subst ej
          exact rbytes_zero' hr
theorem pbyt_u {w : World} {base p b1 o1 n cap k : Nat} {l : List UInt8} (h : IsP w base p (some ⟨b1, o1, none⟩) n cap k l) (m : Int) : Calls Try.prog 23 #[.pointer (some ⟨p, 0, none⟩), .int .i64 m] w fun e w' => ∃ a' c', e = .returned (.tuple #[.slice a' (bL (l.drop k) m).length c', .int .i64 (bE (l.drop k) m)]) ∧ Rd w' a' (bL (l.drop k) m).length c' (bL (l.drop k) m) ∧ IsP w' base p (some ⟨b1, o1, none⟩) n cap (k + bK (l.drop k) m) l ∧ w.grownBy w' (some p) := by
  have hl := h.hrd.hlen
  have hk := h.hk
  have hlen : (l.drop k).length = n - k := by simp; omega
  have hnil : ∀ w', Rd w' none 0 0 [] := fun w' => ⟨rfl, Nat.le_refl _, by omega, fun _ => ⟨rfl, rfl⟩, fun e => by omega⟩
  by_cases h1 : m < 0
  · have e1 : bE (l.drop k) m = 2 := by unfold bE; rw [if_pos h1]
    have e2 : bK (l.drop k) m = 0 := by unfold bK; rw [e1]; rfl
    have e3 : bL (l.drop k) m = [] := by unfold bL; rw [e2]; rfl
    rw [e1, e2, e3]
    exact (pbytes_arg h m h1).mono fun e w' ⟨a1, a2, a3⟩ => ⟨none, 0, a1, hnil _, a2, a3⟩
  · by_cases h2 : ((l.drop k).length : Int) < m
    · have e1 : bE (l.drop k) m = 10 := by unfold bE; rw [if_neg h1, if_pos h2]
      have e2 : bK (l.drop k) m = 0 := by unfold bK; rw [e1]; rfl
      have e3 : bL (l.drop k) m = [] := by unfold bL; rw [e2]; rfl
      rw [e1, e2, e3]
      exact (pbytes_short h m (by omega) (by omega)).mono fun e w' ⟨a1, a2, a3⟩ => ⟨none, 0, a1, hnil _, a2, a3⟩
    · have e1 : bE (l.drop k) m = 0 := by unfold bE; rw [if_neg h1, if_neg h2]
      obtain ⟨j, rfl⟩ := Int.eq_ofNat_of_zero_le (show 0 ≤ m by omega)
      have e2 : bK (l.drop k) (j : Int) = j := by unfold bK; rw [e1]; simp
      unfold bL
      rw [e1, e2]
      have hl2 : ((l.drop k).take j).length = j := by rw [List.length_take]; omega
      rw [hl2]
      exact pbytes_made h j (by omega)
theorem rtxt_u {w : World} {base r : Nat} {l : List UInt8} (h : Rdr w base r l) : Calls Try.prog 24 #[.pointer (some ⟨r, 0, none⟩)] w fun e w' => e = .returned (.tuple #[.string ⟨(tS l).toArray⟩, .int .i64 (tE l)]) ∧ Rdr w' base r (l.drop (tK l)) ∧ w.grownBy w' (some r) := by
  obtain ⟨a, cap, hr⟩ := h
  have no : ∀ c, tE l = c → c ≠ 0 → tK l = 0 ∧ tS l = [] := by
    intro c e hc
    have : tK l = 0 := by unfold tK; rw [e, if_neg hc]
    exact ⟨this, by unfold tS; rw [this]; rfl⟩
  cases l with
  | nil =>
    exact (rtext_empty hr).mono fun e w' ⟨a1, a2⟩ => ⟨a1, a2 ▸ hr.rdr, a2 ▸ grown_refl _ _⟩
  | cons x t =>
    by_cases h1 : t.length < x.toNat
    · have e1 : tE (x :: t) = 10 := by rw [tE_cons, if_pos h1]
      obtain ⟨e2, e3⟩ := no 10 e1 (by decide)
      rw [e1, e2, e3]
      exact (rtext_short hr h1).mono fun e w' ⟨a1, a2⟩ => ⟨a1, a2 ▸ hr.rdr, a2 ▸ grown_refl _ _⟩
    · have hlen : (t.take x.toNat).length = x.toNat := by rw [List.length_take]; omega
      have hcat : x :: t = x :: (t.take x.toNat ++ t.drop x.toNat) := by rw [List.take_append_drop]
      cases hp : plainB (t.take x.toNat) with
      | true =>
        have e1 : tE (x :: t) = 0 := by rw [tE_cons, if_neg h1, if_pos hp]
        have e2 : tK (x :: t) = 1 + x.toNat := by unfold tK; rw [e1]; rfl
        have e3 : tS (x :: t) = t.take x.toNat := by unfold tS; rw [e2, Nat.add_comm, List.take_succ_cons]; rfl
        have e4 : (x :: t).drop (1 + x.toNat) = t.drop x.toNat := by rw [Nat.add_comm, List.drop_succ_cons]
        rw [e1, e2, e3, e4]
        rw [hcat] at hr
        exact rtext_made hr hlen.symm hp
      | false =>
        have e1 : tE (x :: t) = 12 := by rw [tE_cons, if_neg h1, if_neg (by rw [hp]; simp)]
        obtain ⟨e2, e3⟩ := no 12 e1 (by decide)
        rw [e1, e2, e3]
        have hr2 := hr
        rw [hcat] at hr2
        exact (rtext_bad hr2 hlen.symm hp).mono fun e w' ⟨a1, a2⟩ => ⟨a1, a2 ▸ hr.rdr, a2 ▸ grown_refl _ _⟩
theorem ptxt_u {w : World} {base p b1 o1 n cap k : Nat} {l : List UInt8} (h : IsP w base p (some ⟨b1, o1, none⟩) n cap k l) : Calls Try.prog 25 #[.pointer (some ⟨p, 0, none⟩)] w fun e w' => e = .returned (.tuple #[.string ⟨(tS (l.drop k)).toArray⟩, .int .i64 (tE (l.drop k))]) ∧ IsP w' base p (some ⟨b1, o1, none⟩) n cap (k + tK (l.drop k)) l ∧ w.grownBy w' (some p) := by
  have hl := h.hrd.hlen
  have hk := h.hk
  have hlen : (l.drop k).length = n - k := by simp; omega
  have no : ∀ c, tE (l.drop k) = c → c ≠ 0 → tK (l.drop k) = 0 ∧ tS (l.drop k) = [] := by
    intro c e hc
    have : tK (l.drop k) = 0 := by unfold tK; rw [e, if_neg hc]
    exact ⟨this, by unfold tS; rw [this]; rfl⟩
  by_cases hkn : n = k
  · have e0 : l.drop k = [] := List.eq_nil_of_length_eq_zero (by omega)
    have e1 : tE (l.drop k) = 10 := by rw [e0]; rfl
    obtain ⟨e2, e3⟩ := no 10 e1 (by decide)
    rw [e1, e2, e3]
    exact ptext_empty h hkn
  · have hlt : k < l.length := by omega
    have hd := List.drop_eq_getElem_cons hlt
    have hx : l[k]? = some l[k] := List.getElem?_eq_getElem hlt
    generalize l[k] = x at *
    have ht : (l.drop (k + 1)).length = n - k - 1 := by simp; omega
    by_cases h1 : (l.drop (k + 1)).length < x.toNat
    · have e1 : tE (l.drop k) = 10 := by rw [hd]; rw [tE_cons, if_pos h1]
      obtain ⟨e2, e3⟩ := no 10 e1 (by decide)
      rw [e1, e2, e3]
      exact ptext_short h (by omega) hx (by omega)
    · have hlen2 : ((l.drop (k + 1)).take x.toNat).length = x.toNat := by rw [List.length_take]; omega
      cases hp : plainB ((l.drop (k + 1)).take x.toNat) with
      | true =>
        have e1 : tE (l.drop k) = 0 := by rw [hd]; rw [tE_cons, if_neg h1, if_pos hp]
        have e2 : tK (l.drop k) = 1 + x.toNat := by unfold tK; rw [e1, hd]; rfl
        have e3 : tS (l.drop k) = (l.drop (k + 1)).take x.toNat := by unfold tS; rw [e2, hd, Nat.add_comm, List.take_succ_cons]; rfl
        rw [e1, e2, e3]
        have := ptext_made h hx hlen2.symm (by rw [hlen2]) (by rw [hlen2]; omega) hp
        rw [hlen2] at this
        exact this
      | false =>
        have e1 : tE (l.drop k) = 12 := by rw [hd]; rw [tE_cons, if_neg h1, if_neg (by rw [hp]; simp)]
        obtain ⟨e2, e3⟩ := no 12 e1 (by decide)
        rw [e1, e2, e3]
        exact ptext_bad h hx hlen2.symm (by rw [hlen2]) (by rw [hlen2]; omega) hp
end Go.Proofs.Ytncgdbjjlhohiab
