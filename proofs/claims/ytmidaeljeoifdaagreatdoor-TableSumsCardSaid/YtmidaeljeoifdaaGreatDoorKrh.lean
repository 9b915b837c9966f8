import Derived.Test.YtmidaeljeoifdaaGreatDoorKrg
namespace Go.Proofs.YtmidaeljeoifdaaGreatDoor
set_option maxHeartbeats 16000000
open Go.RowKit
set_option linter.unusedVariables false
def ctrOf (c : Cf) (i : Int) : Ct := match c.ctrs[i.toNat]? with | some x => x | none => ⟨[], 0, 0, 0⟩
def timesL (c : Cf) (x : Al) : Bool := if (x.auto.length : Int) == 0 then ((x.time : Int) == 0 && (x.cycle : Int) == 0) else (inR x.time 1 (ctrOf c x.ctr).max && ((x.cycle : Int) == 0 || inR x.cycle (ctrOf c x.ctr).min (ctrOf c x.ctr).max))
theorem alarmTimesFit_any (w : World) (c : Cf) (v : Vs) (h : CfAt w c v) (i : Nat) (x : Al) (hi : c.als[i]? = some x) (hv : isId x.ctr v.k.n = true) :
  Calls Tryz.prog 243 #[.agg (cfC c v), I i] w fun e w' => Ans w (timesL c x) e w' := by
 have hn : v.a.n = c.als.length := h.a.n
 have hlt : (i : Int) < v.a.n := by have := (List.getElem?_eq_some_iff.1 hi).1; omega
 obtain ⟨g, off, s6, e, hg, a0, a1, a2, a3, a4, a5, a6, a7, a8, r6⟩ := al_at h hi
 have hne : g ≠ w.heap.size := by omega
 have hb := below_alloc w
 have hb2 := fun o o' => (hb o).trans ((below_alloc (w.alloc o) o').mono (hb o).size)
 have hl6 : Hid (s6.n = x.auto.length) := r6.n
 have hr : 0 ≤ x.ctr ∧ x.ctr < v.k.n := by simpa [isId] using hv
 obtain ⟨q, hq⟩ := Int.eq_ofNat_of_zero_le hr.1
 have hq' : (q : Int) < v.k.n := by omega
 have hql : q < c.ctrs.length := by have := h.k.n; omega
 obtain ⟨y, hy⟩ : ∃ y, c.ctrs[q]? = some y := ⟨_, List.getElem?_eq_getElem hql⟩
 obtain ⟨g', off', e', hg', b0, b1, b2, b3⟩ := ct_at h hy
 have hne' : g' ≠ w.heap.size := by omega
 have hgl : g' < w.heap.size + 1 := by omega
 have hne'' : g' ≠ w.heap.size + 1 := by omega
 have HY : Hid (ctrOf c x.ctr = y) := by show _ = _; rw [ctrOf, hq]; simp [hy]
 have c1 := within_u32 x.time 1 y.max
 have c2 := within_u32 x.cycle y.min y.max
 have hb3 := fun o o' o'' => (hb2 o o').trans ((below_alloc ((w.alloc o).alloc o') o'').mono (hb2 o o').size)
 obtain ⟨B, hB⟩ : ∃ B, B = timesL c x := ⟨_, rfl⟩
 rw [← hB]
 have HB : Hid (B = _) := hB
 rw [hq] at a1
 clear hB hv hr hq hql hy
 have f14 : ∀ h : 14 < (cfC c v).size, (cfC c v)[14] = .slice v.k.a v.k.n v.k.c := fun _ => rfl
 have f15 : ∀ h : 15 < (cfC c v).size, (cfC c v)[15] = .slice v.a.a v.a.n v.a.c := fun _ => rfl
 have hs18 : (cfC c v).size = 18 := rfl
 generalize cfC c v = C at *
 replace f14 := f14 (by omega)
 replace f15 := f15 (by omega)
 rw [e] at f15
 clear hi hn
 rw [e'] at f14
 cases hau : (s6.n : Int) == 0 with
 | true =>
  have HE : Hid (B = ((x.time : Int) == 0 && (x.cycle : Int) == 0)) := by show _ = _; rw [HB.out, timesL, ← hl6.out, hau]; rfl
  clear HB
  cases htm : (x.time : Int) == 0 with
  | false =>
   go_enter Tryz.func243, Tryz.ntmps243
   go_wp2
   go_ret
   exact ⟨ret_bool (by rw [HE.out, htm]; rfl), by first | exact hb2 _ _ | exact hb _⟩
  | true =>
   go_enter Tryz.func243, Tryz.ntmps243
   go_wp2
   go_ret
   exact ⟨ret_bool (by rw [HE.out, htm]; rfl), by first | exact hb2 _ _ | exact hb _⟩
 | false =>
  have HE : Hid (B = (inR x.time 1 y.max && ((x.cycle : Int) == 0 || inR x.cycle y.min y.max))) := by show _ = _; rw [HB.out, timesL, ← hl6.out, hau, HY.out]; rfl
  clear HB
  generalize inR x.time 1 y.max = b1 at *
  cases b1 with
  | false =>
   go_enter Tryz.func243, Tryz.ntmps243
   go_wp2_with (first | (go_at_call 277; refine (c1 _).mono ?_; clear c1; rintro e w' ⟨rfl, rfl⟩) | (go_at_call 277; refine (c2 _).mono ?_; clear c2; rintro e w' ⟨rfl, rfl⟩))
   go_ret
   exact ⟨ret_bool (by rw [HE.out]; rfl), hb3 _ _ _⟩
  | true =>
   cases hcy : (x.cycle : Int) == 0 with
   | true =>
    go_enter Tryz.func243, Tryz.ntmps243
    go_wp2_with (first | (go_at_call 277; refine (c1 _).mono ?_; clear c1; rintro e w' ⟨rfl, rfl⟩) | (go_at_call 277; refine (c2 _).mono ?_; clear c2; rintro e w' ⟨rfl, rfl⟩))
    go_ret
    exact ⟨ret_bool (by rw [HE.out, hcy]; rfl), hb3 _ _ _⟩
   | false =>
    generalize inR x.cycle y.min y.max = b2 at *
    go_enter Tryz.func243, Tryz.ntmps243
    go_wp2_with (first | (go_at_call 277; refine (c1 _).mono ?_; clear c1; rintro e w' ⟨rfl, rfl⟩) | (go_at_call 277; refine (c2 _).mono ?_; clear c2; rintro e w' ⟨rfl, rfl⟩))
    go_ret
    exact ⟨ret_bool (by rw [HE.out, hcy]; rfl), hb3 _ _ _⟩
end Go.Proofs.YtmidaeljeoifdaaGreatDoor
