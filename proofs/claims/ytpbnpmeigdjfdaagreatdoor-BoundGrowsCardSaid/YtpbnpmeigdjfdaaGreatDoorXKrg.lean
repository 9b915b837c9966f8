import Derived.Test.YtpbnpmeigdjfdaaGreatDoorXKrd
import Derived.Lib.QuietBelow
namespace Go.Proofs.YtpbnpmeigdjfdaaGreatDoor
open Go.RowKit
set_option linter.unusedSimpArgs false
set_option linter.unusedVariables false
set_option maxHeartbeats 16000000
set_option maxRecDepth 100000
def intN (c : Cf) (l : List Int) : Nat := (l.filter (fun x => rkind c x == 3)).length
theorem ids_of_ris {a n : Int} {l : List Int} (h : risF a l n = true) : ∀ x ∈ l, isId x n = true := by
 induction l generalizing a with
 | nil => intro x hx; cases hx
 | cons y r ih =>
  rw [risF] at h
  simp at h
  intro x hx
  rcases List.mem_cons.1 hx with rfl | hx
  ·exact h.1.1
  ·exact ih h.2 x hx
theorem intN_snoc (c : Cf) (l : List Int) (j : Nat) (x : Int) (hx : l[j]? = some x) : intN c (l.take (j + 1)) = intN c (l.take j) + (if rkind c x == 3 then 1 else 0) := by
 unfold intN
 rw [List.take_add_one, hx, Option.toList_some, List.filter_append, List.length_append]
 congr 1
 simp only [List.filter_cons, List.filter_nil]
 split <;> simp
theorem internals_any (w : World) (c : Cf) (v : Vs) (h : CfAt w c v) (s : Sl) (l : List Int) (hl : RowsAt w 1 intP s l) (hv : ∀ x ∈ l, isId x v.r.n = true) :
  Calls Tryz.prog 169 #[.agg (cfC c v), .slice s.a s.n s.c] w fun e w' => e = .returned (I (intN c l)) ∧ Below w.heap.size w w' := by
 have hb := below_alloc w
 have hn : v.r.n = c.ress.length := h.r.n
 have HN : Hid (v.r.n = c.ress.length) := hn
 clear hn
 obtain ⟨sa, sn, sc⟩ := s
 have hm : sn = l.length := hl.n
 have HM : Hid (sn = l.length) := hm
 have hc1 : sn ≤ sc := hl.c
 have hc2 : sc ≤ maxLen := hl.m
 unfold maxLen at hc2
 dsimp only
 clear hm
 have f12 : ∀ h : 12 < (cfC c v).size, (cfC c v)[12] = .slice v.r.a v.r.n v.r.c := fun _ => rfl
 have hs18 : (cfC c v).size = 18 := rfl
 generalize cfC c v = C at *
 replace f12 := f12 (by omega)
 go_enter Tryz.func169, Tryz.ntmps169
 go_wp2
 go_loop [5, 7, 10] (fun n5 _ i => ∃ (j m : Nat), j ≤ sn ∧ i = .int .i64 j ∧ n5 = .int .i64 m ∧ m ≤ j ∧ Hid (m = intN c (l.take j))) (fun _ _ i => sn - (intOf i).toNat)
 case atStart => exact ⟨0, 0, by omega, rfl, rfl, by omega, rfl⟩
 case round =>
  obtain ⟨j, m, hj, rfl, rfl, hmj, HR⟩ := hrel
  by_cases hlt : j < sn
  ·have hlt' : (j : Int) < sn := by omega
   have hjl : j < l.length := by rw [← HM.out]; exact hlt
   obtain ⟨x, hx⟩ : ∃ x, l[j]? = some x := ⟨l[j], List.getElem?_eq_getElem hjl⟩
   obtain ⟨g, off, e, hg, hcx⟩ := ints_at hl hx
   dsimp only at e
   subst e
   have hne : g ≠ w.heap.size := by omega
   have hid := hv x (List.mem_of_getElem? hx)
   have hr : 0 ≤ x ∧ x < v.r.n := by simpa [isId] using hid
   obtain ⟨q, rfl⟩ := Int.eq_ofNat_of_zero_le hr.1
   have hq' : (q : Int) < v.r.n := hr.2
   have hql : q < c.ress.length := by rw [← HN.out]; omega
   obtain ⟨y, hy⟩ : ∃ x, c.ress[q]? = some x := ⟨_, List.getElem?_eq_getElem hql⟩
   obtain ⟨g', off', e', hg', b0, b1, b2⟩ := rs_at h hy
   have hne' : g' ≠ w.heap.size := by omega
   have f12' := f12
   rw [e'] at f12'
   have HS : Hid (intN c (l.take (j + 1)) = m + (if y.kind == 3 then 1 else 0)) := by
    show _ = _
    rw [intN_snoc c l j _ hx, HR.out]
    simp [rkind, hy]
   clear hx hjl hid hr hql hy f12
   cases hk : y.kind == 3 with
   | true =>
    have HS2 : Hid (m + 1 = intN c (l.take (j + 1))) := by show _ = _; rw [HS.out, hk]; rfl
    clear HS
    go_wp2
    go_round
    case rel => exact ⟨j + 1, m + 1, by omega, by go_num, by go_num, by omega, HS2⟩
    case measure => simp [intOf]; omega
   | false =>
    have HS2 : Hid (m = intN c (l.take (j + 1))) := by show _ = _; rw [HS.out, hk]; rfl
    clear HS
    go_wp2
    go_round
    case rel => exact ⟨j + 1, m, by omega, by go_num, rfl, by omega, HS2⟩
    case measure => simp [intOf]; omega
  ·obtain rfl : j = sn := by omega
   have hlt' : ¬ (j : Int) < j := by omega
   have HE2 : Hid (m = intN c l) := by show _ = _; rw [HR.out, List.take_of_length_le (by rw [← HM.out]; exact Nat.le_refl _)]
   go_wp2
   go_ret
   exact ⟨ret_int (by rw [HE2.out]), hb _⟩
def emask (c : Cf) (e : Int) : Nat := match c.evs[e.toNat]? with | some x => x.mask | none => 0
def apartF (c : Cf) : Int → List Int → Bool
 | _, [] => true
 | t, e :: r => !(bits BinOp.and IntKind.u32 t (emask c e) != 0) && apartF c (bits BinOp.or IntKind.u32 t (emask c e)) r
theorem masksAreApart_any (w : World) (c : Cf) (v : Vs) (h : CfAt w c v) (i : Nat) (x : Tk) (hi : c.tasks[i]? = some x) (hv : ∀ y ∈ x.evs, isId y v.e.n = true) :
  Calls Tryz.prog 128 #[.agg (cfC c v), I i] w fun e w' => Ans w (apartF c 0 x.evs) e w' := by
 have hn : v.t.n = c.tasks.length := h.t.n
 have hltn : (i : Int) < v.t.n := by have := (List.getElem?_eq_some_iff.1 hi).1; omega
 obtain ⟨g, off, s4, s5, s6, s7, e, hg, a0, a1, a2, a3, a4, a5, a6, a7, r4, r5, r6, r7⟩ := tk_at h hi
 have hne : g ≠ w.heap.size := by omega
 have hb := below_alloc w
 have HN : Hid (v.e.n = c.evs.length) := h.e.n
 obtain ⟨sa, sn, sc⟩ := s6
 have HM : Hid (sn = x.evs.length) := r6.n
 have hc1 : sn ≤ sc := r6.c
 have hc2 : sc ≤ maxLen := r6.m
 unfold maxLen at hc2
 dsimp only at a6
 clear hi hn a0 a1 a2 a3 a4 a5 a7 r4 r5 r7
 have f11 : ∀ h : 11 < (cfC c v).size, (cfC c v)[11] = .slice v.t.a v.t.n v.t.c := fun _ => rfl
 have f13 : ∀ h : 13 < (cfC c v).size, (cfC c v)[13] = .slice v.e.a v.e.n v.e.c := fun _ => rfl
 have hs18 : (cfC c v).size = 18 := rfl
 generalize cfC c v = C at *
 replace f11 := f11 (by omega)
 replace f13 := f13 (by omega)
 rw [e] at f11
 go_enter Tryz.func128, Tryz.ntmps128
 go_wp2
 go_loop [5, 7, 8, 16] (fun t5 _ _ i => ∃ (j : Nat) (t : Int), j ≤ sn ∧ i = .int .i64 j ∧ t5 = .int .u32 t ∧ Hid (apartF c 0 x.evs = apartF c t (x.evs.drop j))) (fun _ _ _ i => sn - (intOf i).toNat)
 case atStart => exact ⟨0, 0, by omega, rfl, rfl, rfl⟩
 case round =>
  obtain ⟨j, t, hj, rfl, rfl, HR⟩ := hrel
  by_cases hlt : j < sn
  ·have hlt' : (j : Int) < sn := by omega
   have hjl : j < x.evs.length := by rw [← HM.out]; exact hlt
   obtain ⟨y, hy⟩ : ∃ y, x.evs[j]? = some y := ⟨_, List.getElem?_eq_getElem hjl⟩
   obtain ⟨g2, off2, e2, hg2, hcx⟩ := ints_at r6 hy
   dsimp only at e2
   subst e2
   have hne2 : g2 ≠ w.heap.size := by omega
   have hid := hv y (List.mem_of_getElem? hy)
   have hr : 0 ≤ y ∧ y < v.e.n := by simpa [isId] using hid
   obtain ⟨q, rfl⟩ := Int.eq_ofNat_of_zero_le hr.1
   have hq' : (q : Int) < v.e.n := hr.2
   have hql : q < c.evs.length := by rw [← HN.out]; omega
   obtain ⟨z, hz⟩ : ∃ z, c.evs[q]? = some z := ⟨_, List.getElem?_eq_getElem hql⟩
   obtain ⟨g', off', e', hg', b0, b1, b2⟩ := ev_at h hz
   have hne' : g' ≠ w.heap.size := by omega
   have f13' := f13
   rw [e'] at f13'
   have HS : Hid (apartF c 0 x.evs = (!(bits BinOp.and IntKind.u32 t z.mask != 0) && apartF c (bits BinOp.or IntKind.u32 t z.mask) (x.evs.drop (j + 1)))) := by
    show _ = _
    rw [HR.out, List.drop_eq_getElem_cons hjl, apartF]
    rw [List.getElem?_eq_getElem hjl] at hy
    rw [Option.some.inj hy]
    simp [emask, hz]
   clear hy hjl hid hr hql hz f13
   cases hk : bits BinOp.and IntKind.u32 t z.mask != 0 with
   | false =>
    have HS2 : Hid (apartF c 0 x.evs = apartF c (bits BinOp.or IntKind.u32 t z.mask) (x.evs.drop (j + 1))) := by show _ = _; rw [HS.out, hk]; rfl
    clear HS
    go_wp2
    go_round
    case rel => exact ⟨j + 1, _, by omega, by go_num, rfl, HS2⟩
    case measure => simp [intOf]; omega
   | true =>
    have HS2 : Hid (apartF c 0 x.evs = false) := by show _ = _; rw [HS.out, hk]; rfl
    clear HS
    go_wp2
    go_ret
    exact ⟨ret_bool HS2.out.symm, hb _⟩
  ·obtain rfl : j = sn := by omega
   have hlt' : ¬ (j : Int) < j := by omega
   have HE2 : Hid (apartF c 0 x.evs = true) := by show _ = _; rw [HR.out, List.drop_eq_nil_of_le (by rw [← HM.out]; exact Nat.le_refl _), apartF]
   go_wp2
   go_ret
   exact ⟨ret_bool HE2.out.symm, hb _⟩
end Go.Proofs.YtpbnpmeigdjfdaaGreatDoor
namespace Go.Proofs.YtpbnpmeigdjfdaaGreatDoor
open Go.RowKit Go.Sort
set_option linter.unusedSimpArgs false
set_option linter.unusedVariables false
set_option maxHeartbeats 16000000
set_option maxRecDepth 100000
theorem wpQuiet_load_row {P : Program} {ops : Array Oper} {C : World → Prop} {Q : Act → Prop} {a : Act} {o : Oper} {rest : List Oper} (hgd : Region.wanted o (yielded ops a.tmps) = true) (ty : TypeId) (x : Operand) (ho : o.op = .load ty x)
  (g : Nat) (hx : a.eval x = .pointer (some ⟨g, 0, none⟩)) (t : TypeId) (cs : Array Value) (fr : Nat × Nat) (d : TypeDesc) (hg : ∀ w, C w → w.heap[g]? = some (.cells cs t fr))
  (hu : P.underlying ty = some d) (hd : (match d with | .struct _ | .array _ _ => true | _ => false) = true) (hi : (P.info? ty).map (·.size) = some cs.size)
  (h : wpQuiet P ops C Q rest (a.put o.dst (.agg cs))) : wpQuiet P ops C Q (o :: rest) a := by
 unfold wpQuiet
 rw [if_pos hgd]
 refine ⟨.agg cs, fun w hw => ?_, h⟩
 unfold Oper.quietAt execOp
 simp only [ho, hx, Instr.loadAt, Instr.sureAddr, Sem.run_bind, Sem.run_pure, Result.andThen_ok, run_loadVar_row w g t ty cs fr d (hg w hw) hu hd hi]
 exact ⟨rfl, rfl⟩
theorem heap_regrown {w : World} {g : Nat} {o : Obj} (h : w.heap[g]? = some o) : ∀ w', (∃ p : Regrown, w' = grow (redrawn w p.d) p.os) → w'.heap[g]? = some o := by
 rintro w' ⟨p, rfl⟩
 exact ((below_regrown w p.d p.os).block g (heap_lt h)).trans h
theorem oneInternal_any (w : World) (c : Cf) (v : Vs) (h : CfAt w c v) (i : Nat) (x : Tk) (hi : c.tasks[i]? = some x) (hv : ∀ y ∈ x.res, isId y v.r.n = true) :
  Calls Tryz.prog 127 #[.agg (cfC c v), I i] w fun e w' => Ans w (decide ((intN c x.res : Int) ≤ 1)) e w' := by
 have hn : v.t.n = c.tasks.length := h.t.n
 have hlt : (i : Int) < v.t.n := by have := (List.getElem?_eq_some_iff.1 hi).1; omega
 obtain ⟨g, off, s4, s5, s6, s7, e, hg, a0, a1, a2, a3, a4, a5, a6, a7, r4, r5, r6, r7⟩ := tk_at h hi
 have hne : g ≠ w.heap.size := by omega
 have hb := below_alloc w
 have hb2 := fun o o' => (hb o).trans ((below_alloc (w.alloc o) o').mono (hb o).size)
 have hi18 : (Tryz.prog.info? 33).map (·.size) = some (cfC c v).size := by rw [show (cfC c v).size = 18 from rfl]; kernel_rfl
 have hV0 := heap_alloc_new w (.cells (cfC c v) 33)
 have h0 := h.below (hb (.cells (cfC c v) 33))
 have hg0 := Nat.lt_of_lt_of_le hg (hb (.cells (cfC c v) 33)).size
 have c1 : ∀ d os, Calls Tryz.prog 169 #[.agg (cfC c v), .slice s5.a s5.n s5.c] (grow (redrawn (w.alloc (.cells (cfC c v) 33)) d) os) fun e w'' => e = .returned (I (intN c x.res)) ∧ ∃ p : Regrown, w'' = grow (redrawn (w.alloc (.cells (cfC c v) 33)) p.d) p.os := fun d os => Calls.regrown_of (internals_any _ c v (h0.below (below_regrown _ d os)) s5 x.res ((r5.below (hb _) (fun _ _ _ _ h => h)).below (below_regrown _ d os) (fun _ _ _ _ h => h)) hv)
 have kV : (w.alloc (.cells (cfC c v) 33)).cell? ⟨w.heap.size, 11, none⟩ = some (.slice (some ⟨g, off, none⟩) v.t.n v.t.c) := by rw [← e]; exact cell_of_row _ w.heap.size 11 _ _ (0, 0) hV0
 have kx : (w.alloc (.cells (cfC c v) 33)).cell? ⟨g, off + i * 8 + 5, none⟩ = some (.slice s5.a s5.n s5.c) := by rw [cell_below (hb _) _ _ hg]; exact a5
 have hbw := hb (.cells (cfC c v) 33)
 have f11 : ∀ h : 11 < (cfC c v).size, (cfC c v)[11] = .slice v.t.a v.t.n v.t.c := fun _ => rfl
 have hs18 : (cfC c v).size = 18 := rfl
 generalize cfC c v = C at *
 replace f11 := f11 (by omega)
 rw [e] at f11
 clear hi hn
 go_enter Tryz.func127, Tryz.ntmps127
 go_wp2
 generalize w.alloc (.cells C 33) = W0 at *
 have k0 := cell_regrown kV
 have k1 := cell_regrown kx
 refine wp_region_quiet_below (by kernel_rfl) (by kernel_rfl) ?_
 refine wpQuiet_load_row rfl 33 _ rfl w.heap.size rfl 33 _ (0, 0) _ (heap_regrown hV0) Tryz.underlying33 rfl hi18 ?_
 repeat (quiet_step (first | exact c1 _ _))
 refine wpQuiet_nil ?_
 intro _ hw'
 obtain ⟨⟨dq, osq⟩, hw''⟩ := hw'
 subst hw''
 go_wp2
 go_ret
 exact ⟨ret_bool (by simp), hbw.trans ((below_regrown W0 dq osq).mono hbw.size)⟩
theorem noInternal_any (w : World) (c : Cf) (v : Vs) (h : CfAt w c v) (i : Nat) (x : Is) (hi : c.isrs[i]? = some x) (hv : ∀ y ∈ x.res, isId y v.r.n = true) :
  Calls Tryz.prog 144 #[.agg (cfC c v), I i] w fun e w' => Ans w ((intN c x.res : Int) == 0) e w' := by
 have hn : v.i.n = c.isrs.length := h.i.n
 have hlt : (i : Int) < v.i.n := by have := (List.getElem?_eq_some_iff.1 hi).1; omega
 obtain ⟨g, off, s3, s4, e, hg, a0, a1, a2, a3, a4, r3, r4⟩ := is_at h hi
 have hne : g ≠ w.heap.size := by omega
 have hb := below_alloc w
 have hb2 := fun o o' => (hb o).trans ((below_alloc (w.alloc o) o').mono (hb o).size)
 have hi18 : (Tryz.prog.info? 33).map (·.size) = some (cfC c v).size := by rw [show (cfC c v).size = 18 from rfl]; kernel_rfl
 have hV0 := heap_alloc_new w (.cells (cfC c v) 33)
 have h0 := h.below (hb (.cells (cfC c v) 33))
 have hg0 := Nat.lt_of_lt_of_le hg (hb (.cells (cfC c v) 33)).size
 have c1 : ∀ d os, Calls Tryz.prog 169 #[.agg (cfC c v), .slice s3.a s3.n s3.c] (grow (redrawn (w.alloc (.cells (cfC c v) 33)) d) os) fun e w'' => e = .returned (I (intN c x.res)) ∧ ∃ p : Regrown, w'' = grow (redrawn (w.alloc (.cells (cfC c v) 33)) p.d) p.os := fun d os => Calls.regrown_of (internals_any _ c v (h0.below (below_regrown _ d os)) s3 x.res ((r3.below (hb _) (fun _ _ _ _ h => h)).below (below_regrown _ d os) (fun _ _ _ _ h => h)) hv)
 have kV : (w.alloc (.cells (cfC c v) 33)).cell? ⟨w.heap.size, 16, none⟩ = some (.slice (some ⟨g, off, none⟩) v.i.n v.i.c) := by rw [← e]; exact cell_of_row _ w.heap.size 16 _ _ (0, 0) hV0
 have kx : (w.alloc (.cells (cfC c v) 33)).cell? ⟨g, off + i * 5 + 3, none⟩ = some (.slice s3.a s3.n s3.c) := by rw [cell_below (hb _) _ _ hg]; exact a3
 have hbw := hb (.cells (cfC c v) 33)
 have f16 : ∀ h : 16 < (cfC c v).size, (cfC c v)[16] = .slice v.i.a v.i.n v.i.c := fun _ => rfl
 have hs18 : (cfC c v).size = 18 := rfl
 generalize cfC c v = C at *
 replace f16 := f16 (by omega)
 rw [e] at f16
 clear hi hn
 go_enter Tryz.func144, Tryz.ntmps144
 go_wp2
 generalize w.alloc (.cells C 33) = W0 at *
 have k0 := cell_regrown kV
 have k1 := cell_regrown kx
 refine wp_region_quiet_below (by kernel_rfl) (by kernel_rfl) ?_
 refine wpQuiet_load_row rfl 33 _ rfl w.heap.size rfl 33 _ (0, 0) _ (heap_regrown hV0) Tryz.underlying33 rfl hi18 ?_
 repeat (quiet_step (first | exact c1 _ _))
 refine wpQuiet_nil ?_
 intro _ hw'
 obtain ⟨⟨dq, osq⟩, hw''⟩ := hw'
 subst hw''
 go_wp2
 go_ret
 exact ⟨rfl, hbw.trans ((below_regrown W0 dq osq).mono hbw.size)⟩
end Go.Proofs.YtpbnpmeigdjfdaaGreatDoor
namespace Go.Proofs.YtpbnpmeigdjfdaaGreatDoor
open Go.RowKit
set_option linter.unusedSimpArgs false
set_option linter.unusedVariables false
set_option maxHeartbeats 16000000
set_option maxRecDepth 100000
theorem isrNumbersFit_any (w : World) (c : Cf) (v : Vs) (h : CfAt w c v) (i : Nat) (x : Is) (hi : c.isrs[i]? = some x) :
  Calls Tryz.prog 142 #[.agg (cfC c v), I i] w fun e w' => Ans w (inR x.cat 1 2 && inR x.prio 64 127) e w' := by
 have hn : v.i.n = c.isrs.length := h.i.n
 have hlt : (i : Int) < v.i.n := by have := (List.getElem?_eq_some_iff.1 hi).1; omega
 obtain ⟨g, off, s3, s4, e, hg, a0, a1, a2, a3, a4, r3, r4⟩ := is_at h hi
 have hne : g ≠ w.heap.size := by omega
 have hb := below_alloc w
 have hb2 := fun o o' => (hb o).trans ((below_alloc (w.alloc o) o').mono (hb o).size)
 have c1 := within_int x.cat 1 2
 have c2 := within_int x.prio 64 127
 have f16 : ∀ h : 16 < (cfC c v).size, (cfC c v)[16] = .slice v.i.a v.i.n v.i.c := fun _ => rfl
 have hs18 : (cfC c v).size = 18 := rfl
 generalize cfC c v = C at *
 replace f16 := f16 (by omega)
 rw [e] at f16
 clear hi hn
 generalize hgb1 : (inR x.cat 1 2) = b1 at *
 generalize hgb2 : (inR x.prio 64 127) = b2 at *
 cases b1 with
 | false =>
  go_enter Tryz.func142, Tryz.ntmps142
  go_wp2_with (first | (go_at_call 86; refine (c1 _).mono ?_; clear c1; rintro e w' ⟨rfl, rfl⟩) | (go_at_call 86; refine (c2 _).mono ?_; clear c2; rintro e w' ⟨rfl, rfl⟩))
  go_ret
  first | exact ⟨by simp, hb _⟩ | exact ⟨by simp, hb2 _ _⟩
 | true =>
  cases b2 with
  | false =>
   go_enter Tryz.func142, Tryz.ntmps142
   go_wp2_with (first | (go_at_call 86; refine (c1 _).mono ?_; clear c1; rintro e w' ⟨rfl, rfl⟩) | (go_at_call 86; refine (c2 _).mono ?_; clear c2; rintro e w' ⟨rfl, rfl⟩))
   go_ret
   first | exact ⟨by simp, hb _⟩ | exact ⟨by simp, hb2 _ _⟩
  | true =>
   go_enter Tryz.func142, Tryz.ntmps142
   go_wp2_with (first | (go_at_call 86; refine (c1 _).mono ?_; clear c1; rintro e w' ⟨rfl, rfl⟩) | (go_at_call 86; refine (c2 _).mono ?_; clear c2; rintro e w' ⟨rfl, rfl⟩))
   go_ret
   first | exact ⟨by simp, hb _⟩ | exact ⟨by simp, hb2 _ _⟩
theorem isrListsRise_any (w : World) (c : Cf) (v : Vs) (h : CfAt w c v) (i : Nat) (x : Is) (hi : c.isrs[i]? = some x) :
  Calls Tryz.prog 143 #[.agg (cfC c v), I i] w fun e w' => Ans w (risF (-1) x.res v.r.n && risF (-1) x.msgs v.s.n) e w' := by
 have hn : v.i.n = c.isrs.length := h.i.n
 have hlt : (i : Int) < v.i.n := by have := (List.getElem?_eq_some_iff.1 hi).1; omega
 obtain ⟨g, off, s3, s4, e, hg, a0, a1, a2, a3, a4, r3, r4⟩ := is_at h hi
 have hne : g ≠ w.heap.size := by omega
 have hb := below_alloc w
 have hb2 := fun o o' => (hb o).trans ((below_alloc (w.alloc o) o').mono (hb o).size)
 have c1 := fun W (hW : Below w.heap.size w W) => rises_any W s3 x.res (r3.below hW (fun _ _ _ _ h => h)) v.r.n
 have c2 := fun W (hW : Below w.heap.size w W) => rises_any W s4 x.msgs (r4.below hW (fun _ _ _ _ h => h)) v.s.n
 have f12 : ∀ h : 12 < (cfC c v).size, (cfC c v)[12] = .slice v.r.a v.r.n v.r.c := fun _ => rfl
 have f16 : ∀ h : 16 < (cfC c v).size, (cfC c v)[16] = .slice v.i.a v.i.n v.i.c := fun _ => rfl
 have f17 : ∀ h : 17 < (cfC c v).size, (cfC c v)[17] = .slice v.s.a v.s.n v.s.c := fun _ => rfl
 have hs18 : (cfC c v).size = 18 := rfl
 generalize cfC c v = C at *
 replace f12 := f12 (by omega)
 replace f16 := f16 (by omega)
 replace f17 := f17 (by omega)
 rw [e] at f16
 clear hi hn
 generalize hgb1 : (risF (-1) x.res v.r.n) = b1 at *
 generalize hgb2 : (risF (-1) x.msgs v.s.n) = b2 at *
 cases b1 with
 | false =>
  go_enter Tryz.func143, Tryz.ntmps143
  go_wp2_with (first | (go_at_call 167; refine (c1 _ (hb2 _ _)).mono ?_; clear c1; rintro e w' ⟨rfl, rfl⟩) | (go_at_call 167; refine (c2 _ (hb2 _ _)).mono ?_; clear c2; rintro e w' ⟨rfl, rfl⟩))
  go_ret
  first | exact ⟨by simp, hb _⟩ | exact ⟨by simp, hb2 _ _⟩
 | true =>
  cases b2 with
  | false =>
   go_enter Tryz.func143, Tryz.ntmps143
   go_wp2_with (first | (go_at_call 167; refine (c1 _ (hb2 _ _)).mono ?_; clear c1; rintro e w' ⟨rfl, rfl⟩) | (go_at_call 167; refine (c2 _ (hb2 _ _)).mono ?_; clear c2; rintro e w' ⟨rfl, rfl⟩))
   go_ret
   first | exact ⟨by simp, hb _⟩ | exact ⟨by simp, hb2 _ _⟩
  | true =>
   go_enter Tryz.func143, Tryz.ntmps143
   go_wp2_with (first | (go_at_call 167; refine (c1 _ (hb2 _ _)).mono ?_; clear c1; rintro e w' ⟨rfl, rfl⟩) | (go_at_call 167; refine (c2 _ (hb2 _ _)).mono ?_; clear c2; rintro e w' ⟨rfl, rfl⟩))
   go_ret
   first | exact ⟨by simp, hb _⟩ | exact ⟨by simp, hb2 _ _⟩
theorem firstCategoryIsBare_any (w : World) (c : Cf) (v : Vs) (h : CfAt w c v) (i : Nat) (x : Is) (hi : c.isrs[i]? = some x) :
  Calls Tryz.prog 145 #[.agg (cfC c v), I i] w fun e w' => Ans w (x.cat != 1 || ((x.res.length : Int) == 0 && (x.msgs.length : Int) == 0)) e w' := by
 have hn : v.i.n = c.isrs.length := h.i.n
 have hlt : (i : Int) < v.i.n := by have := (List.getElem?_eq_some_iff.1 hi).1; omega
 obtain ⟨g, off, s3, s4, e, hg, a0, a1, a2, a3, a4, r3, r4⟩ := is_at h hi
 have hne : g ≠ w.heap.size := by omega
 have hb := below_alloc w
 have hb2 := fun o o' => (hb o).trans ((below_alloc (w.alloc o) o').mono (hb o).size)
 have hl3 : Hid (s3.n = x.res.length) := r3.n
 have hl4 : Hid (s4.n = x.msgs.length) := r4.n
 have f16 : ∀ h : 16 < (cfC c v).size, (cfC c v)[16] = .slice v.i.a v.i.n v.i.c := fun _ => rfl
 have hs18 : (cfC c v).size = 18 := rfl
 generalize cfC c v = C at *
 replace f16 := f16 (by omega)
 rw [e] at f16
 clear hi hn
 rw [← hl3.out, ← hl4.out]
 generalize hc1 : (x.cat != 1) = b1 at *
 generalize hc2 : ((s3.n : Int) == 0) = b2 at *
 cases b1 <;> cases b2 <;> (go_enter Tryz.func145, Tryz.ntmps145; go_wp2; go_ret; exact ⟨ret_bool (by simp), hb2 _ _⟩)
theorem counterIsID_any (w : World) (c : Cf) (v : Vs) (h : CfAt w c v) (i : Nat) (x : Al) (hi : c.als[i]? = some x) :
  Calls Tryz.prog 135 #[.agg (cfC c v), I i] w fun e w' => Ans w (isId x.ctr v.k.n) e w' := by
 have hn : v.a.n = c.als.length := h.a.n
 have hlt : (i : Int) < v.a.n := by have := (List.getElem?_eq_some_iff.1 hi).1; omega
 obtain ⟨g, off, s6, e, hg, a0, a1, a2, a3, a4, a5, a6, a7, a8, r6⟩ := al_at h hi
 have hne : g ≠ w.heap.size := by omega
 have hb := below_alloc w
 have hb2 := fun o o' => (hb o).trans ((below_alloc (w.alloc o) o').mono (hb o).size)
 have c1 := isID_any x.ctr v.k.n
 have f14 : ∀ h : 14 < (cfC c v).size, (cfC c v)[14] = .slice v.k.a v.k.n v.k.c := fun _ => rfl
 have f15 : ∀ h : 15 < (cfC c v).size, (cfC c v)[15] = .slice v.a.a v.a.n v.a.c := fun _ => rfl
 have hs18 : (cfC c v).size = 18 := rfl
 generalize cfC c v = C at *
 replace f14 := f14 (by omega)
 replace f15 := f15 (by omega)
 rw [e] at f15
 clear hi hn
 go_enter Tryz.func135, Tryz.ntmps135
 go_wp2
 go_quiet (first | (go_at_call 165; refine Calls.quiet_of_same (c1 _)))
 go_wp2
 go_ret
 exact ⟨rfl, below_drewN (hb _) _⟩
theorem alarmModesRise_any (w : World) (c : Cf) (v : Vs) (h : CfAt w c v) (i : Nat) (x : Al) (hi : c.als[i]? = some x) :
  Calls Tryz.prog 138 #[.agg (cfC c v), I i] w fun e w' => Ans w (risF (-1) x.auto v.m.n) e w' := by
 have hn : v.a.n = c.als.length := h.a.n
 have hlt : (i : Int) < v.a.n := by have := (List.getElem?_eq_some_iff.1 hi).1; omega
 obtain ⟨g, off, s6, e, hg, a0, a1, a2, a3, a4, a5, a6, a7, a8, r6⟩ := al_at h hi
 have hne : g ≠ w.heap.size := by omega
 have hb := below_alloc w
 have hb2 := fun o o' => (hb o).trans ((below_alloc (w.alloc o) o').mono (hb o).size)
 have c1 := fun W (hW : Below w.heap.size w W) => rises_any W s6 x.auto (r6.below hW (fun _ _ _ _ h => h)) v.m.n
 have f10 : ∀ h : 10 < (cfC c v).size, (cfC c v)[10] = .slice v.m.a v.m.n v.m.c := fun _ => rfl
 have f15 : ∀ h : 15 < (cfC c v).size, (cfC c v)[15] = .slice v.a.a v.a.n v.a.c := fun _ => rfl
 have hs18 : (cfC c v).size = 18 := rfl
 generalize cfC c v = C at *
 replace f10 := f10 (by omega)
 replace f15 := f15 (by omega)
 rw [e] at f15
 clear hi hn
 go_enter Tryz.func138, Tryz.ntmps138
 go_wp2
 go_quiet (first | (go_at_call 167; refine Calls.quiet_of_same (c1 _ (below_drewN (hb _) _))))
 go_wp2
 go_ret
 exact ⟨rfl, below_drewN (hb _) _⟩
end Go.Proofs.YtpbnpmeigdjfdaaGreatDoor
