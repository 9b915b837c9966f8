import Derived.Test.YtmidaeljeoifdaaGreatDoorKrd
namespace Go.Proofs.YtmidaeljeoifdaaGreatDoor
set_option maxRecDepth 100000
set_option maxHeartbeats 16000000
open Go.RowKit
set_option linter.unusedVariables false
def intN (c : Cf) (l : List Int) : Nat := (l.filter (fun x => rkind c x == 3)).length
theorem ids_of_ris {a n : Int} {l : List Int} (h : risF a l n = true) : ∀ x ∈ l, isId x n = true := by
 induction l generalizing a with
 | nil => intro x hx; cases hx
 | cons y r ih =>
  rw [risF] at h
  simp at h
  intro x hx
  rcases List.mem_cons.1 hx with rfl | hx
  ·exact h.1.1
  ·exact ih h.2 x hx
theorem intN_snoc (c : Cf) (l : List Int) (j : Nat) (x : Int) (hx : l[j]? = some x) : intN c (l.take (j + 1)) = intN c (l.take j) + (if rkind c x == 3 then 1 else 0) := by
 unfold intN
 rw [List.take_add_one, hx, Option.toList_some, List.filter_append, List.length_append]
 congr 1
 simp only [List.filter_cons, List.filter_nil]
 split <;> simp
theorem internals_any (w : World) (c : Cf) (v : Vs) (h : CfAt w c v) (s : Sl) (l : List Int) (hl : RowsAt w 1 intP s l) (hv : ∀ x ∈ l, isId x v.r.n = true) :
  Calls Tryz.prog 276 #[.agg (cfC c v), .slice s.a s.n s.c] w fun e w' => e = .returned (I (intN c l)) ∧ Below w.heap.size w w' := by
 have hb := below_alloc w
 have hn : v.r.n = c.ress.length := h.r.n
 have HN : Hid (v.r.n = c.ress.length) := hn
 clear hn
 obtain ⟨sa, sn, sc⟩ := s
 have hm : sn = l.length := hl.n
 have HM : Hid (sn = l.length) := hm
 have hc1 : sn ≤ sc := hl.c
 have hc2 : sc ≤ maxLen := hl.m
 unfold maxLen at hc2
 dsimp only
 clear hm
 have f12 : ∀ h : 12 < (cfC c v).size, (cfC c v)[12] = .slice v.r.a v.r.n v.r.c := fun _ => rfl
 have hs18 : (cfC c v).size = 18 := rfl
 generalize cfC c v = C at *
 replace f12 := f12 (by omega)
 go_enter Tryz.func276, Tryz.ntmps276
 go_wp2
 go_loop [5, 7, 10] (fun n5 _ i => ∃ (j m : Nat), j ≤ sn ∧ i = .int .i64 j ∧ n5 = .int .i64 m ∧ m ≤ j ∧ Hid (m = intN c (l.take j))) (fun _ _ i => sn - (intOf i).toNat)
 case atStart => exact ⟨0, 0, by omega, rfl, rfl, by omega, rfl⟩
 case round =>
  obtain ⟨j, m, hj, rfl, rfl, hmj, HR⟩ := hrel
  by_cases hlt : j < sn
  ·have hlt' : (j : Int) < sn := by omega
   have hjl : j < l.length := by rw [← HM.out]; exact hlt
   obtain ⟨x, hx⟩ : ∃ x, l[j]? = some x := ⟨l[j], List.getElem?_eq_getElem hjl⟩
   obtain ⟨g, off, e, hg, hcx⟩ := ints_at hl hx
   dsimp only at e
   subst e
   have hne : g ≠ w.heap.size := by omega
   have hid := hv x (List.mem_of_getElem? hx)
   have hr : 0 ≤ x ∧ x < v.r.n := by simpa [isId] using hid
   obtain ⟨q, rfl⟩ := Int.eq_ofNat_of_zero_le hr.1
   have hq' : (q : Int) < v.r.n := hr.2
   have hql : q < c.ress.length := by rw [← HN.out]; omega
   obtain ⟨y, hy⟩ : ∃ x, c.ress[q]? = some x := ⟨_, List.getElem?_eq_getElem hql⟩
   obtain ⟨g', off', e', hg', b0, b1, b2⟩ := rs_at h hy
   have hne' : g' ≠ w.heap.size := by omega
   have f12' := f12
   rw [e'] at f12'
   have HS : Hid (intN c (l.take (j + 1)) = m + (if y.kind == 3 then 1 else 0)) := by
    show _ = _
    rw [intN_snoc c l j _ hx, HR.out]
    simp [rkind, hy]
   clear hx hjl hid hr hql hy f12
   cases hk : y.kind == 3 with
   | true =>
    have HS2 : Hid (m + 1 = intN c (l.take (j + 1))) := by show _ = _; rw [HS.out, hk]; rfl
    clear HS
    go_wp2
    go_round
    case rel => exact ⟨j + 1, m + 1, by omega, by go_num, by go_num, by omega, HS2⟩
    case measure => simp [intOf]; omega
   | false =>
    have HS2 : Hid (m = intN c (l.take (j + 1))) := by show _ = _; rw [HS.out, hk]; rfl
    clear HS
    go_wp2
    go_round
    case rel => exact ⟨j + 1, m, by omega, by go_num, rfl, by omega, HS2⟩
    case measure => simp [intOf]; omega
  ·obtain rfl : j = sn := by omega
   have hlt' : ¬ (j : Int) < j := by omega
   have HE2 : Hid (m = intN c l) := by show _ = _; rw [HR.out, List.take_of_length_le (by rw [← HM.out]; exact Nat.le_refl _)]
   go_wp2
   go_ret
   exact ⟨ret_int (by rw [HE2.out]), hb _⟩
def emask (c : Cf) (e : Int) : Nat := match c.evs[e.toNat]? with | some x => x.mask | none => 0
def apartF (c : Cf) : Int → List Int → Bool
 | _, [] => true
 | t, e :: r => !(bits BinOp.and IntKind.u32 t (emask c e) != 0) && apartF c (bits BinOp.or IntKind.u32 t (emask c e)) r
theorem masksAreApart_any (w : World) (c : Cf) (v : Vs) (h : CfAt w c v) (i : Nat) (x : Tk) (hi : c.tasks[i]? = some x) (hv : ∀ y ∈ x.evs, isId y v.e.n = true) :
  Calls Tryz.prog 232 #[.agg (cfC c v), I i] w fun e w' => Ans w (apartF c 0 x.evs) e w' := by
 have hn : v.t.n = c.tasks.length := h.t.n
 have hltn : (i : Int) < v.t.n := by have := (List.getElem?_eq_some_iff.1 hi).1; omega
 obtain ⟨g, off, s4, s5, s6, s7, e, hg, a0, a1, a2, a3, a4, a5, a6, a7, r4, r5, r6, r7⟩ := tk_at h hi
 have hne : g ≠ w.heap.size := by omega
 have hb := below_alloc w
 have HN : Hid (v.e.n = c.evs.length) := h.e.n
 obtain ⟨sa, sn, sc⟩ := s6
 have HM : Hid (sn = x.evs.length) := r6.n
 have hc1 : sn ≤ sc := r6.c
 have hc2 : sc ≤ maxLen := r6.m
 unfold maxLen at hc2
 dsimp only at a6
 clear hi hn a0 a1 a2 a3 a4 a5 a7 r4 r5 r7
 have f11 : ∀ h : 11 < (cfC c v).size, (cfC c v)[11] = .slice v.t.a v.t.n v.t.c := fun _ => rfl
 have f13 : ∀ h : 13 < (cfC c v).size, (cfC c v)[13] = .slice v.e.a v.e.n v.e.c := fun _ => rfl
 have hs18 : (cfC c v).size = 18 := rfl
 generalize cfC c v = C at *
 replace f11 := f11 (by omega)
 replace f13 := f13 (by omega)
 rw [e] at f11
 go_enter Tryz.func232, Tryz.ntmps232
 go_wp2
 go_loop [5, 7, 8, 16] (fun t5 _ _ i => ∃ (j : Nat) (t : Int), j ≤ sn ∧ i = .int .i64 j ∧ t5 = .int .u32 t ∧ Hid (apartF c 0 x.evs = apartF c t (x.evs.drop j))) (fun _ _ _ i => sn - (intOf i).toNat)
 case atStart => exact ⟨0, 0, by omega, rfl, rfl, rfl⟩
 case round =>
  obtain ⟨j, t, hj, rfl, rfl, HR⟩ := hrel
  by_cases hlt : j < sn
  ·have hlt' : (j : Int) < sn := by omega
   have hjl : j < x.evs.length := by rw [← HM.out]; exact hlt
   obtain ⟨y, hy⟩ : ∃ y, x.evs[j]? = some y := ⟨_, List.getElem?_eq_getElem hjl⟩
   obtain ⟨g2, off2, e2, hg2, hcx⟩ := ints_at r6 hy
   dsimp only at e2
   subst e2
   have hne2 : g2 ≠ w.heap.size := by omega
   have hid := hv y (List.mem_of_getElem? hy)
   have hr : 0 ≤ y ∧ y < v.e.n := by simpa [isId] using hid
   obtain ⟨q, rfl⟩ := Int.eq_ofNat_of_zero_le hr.1
   have hq' : (q : Int) < v.e.n := hr.2
   have hql : q < c.evs.length := by rw [← HN.out]; omega
   obtain ⟨z, hz⟩ : ∃ z, c.evs[q]? = some z := ⟨_, List.getElem?_eq_getElem hql⟩
   obtain ⟨g', off', e', hg', b0, b1, b2⟩ := ev_at h hz
   have hne' : g' ≠ w.heap.size := by omega
   have f13' := f13
   rw [e'] at f13'
   have HS : Hid (apartF c 0 x.evs = (!(bits BinOp.and IntKind.u32 t z.mask != 0) && apartF c (bits BinOp.or IntKind.u32 t z.mask) (x.evs.drop (j + 1)))) := by
    show _ = _
    rw [HR.out, List.drop_eq_getElem_cons hjl, apartF]
    rw [List.getElem?_eq_getElem hjl] at hy
    rw [Option.some.inj hy]
    simp [emask, hz]
   clear hy hjl hid hr hql hz f13
   cases hk : bits BinOp.and IntKind.u32 t z.mask != 0 with
   | false =>
    have HS2 : Hid (apartF c 0 x.evs = apartF c (bits BinOp.or IntKind.u32 t z.mask) (x.evs.drop (j + 1))) := by show _ = _; rw [HS.out, hk]; rfl
    clear HS
    go_wp2
    go_round
    case rel => exact ⟨j + 1, _, by omega, by go_num, rfl, HS2⟩
    case measure => simp [intOf]; omega
   | true =>
    have HS2 : Hid (apartF c 0 x.evs = false) := by show _ = _; rw [HS.out, hk]; rfl
    clear HS
    go_wp2
    go_ret
    exact ⟨ret_bool HS2.out.symm, hb _⟩
  ·obtain rfl : j = sn := by omega
   have hlt' : ¬ (j : Int) < j := by omega
   have HE2 : Hid (apartF c 0 x.evs = true) := by show _ = _; rw [HR.out, List.drop_eq_nil_of_le (by rw [← HM.out]; exact Nat.le_refl _), apartF]
   go_wp2
   go_ret
   exact ⟨ret_bool HE2.out.symm, hb _⟩
end Go.Proofs.YtmidaeljeoifdaaGreatDoor
