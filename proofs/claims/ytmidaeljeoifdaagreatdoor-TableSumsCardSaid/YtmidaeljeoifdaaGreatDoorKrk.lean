import Derived.Test.YtmidaeljeoifdaaGreatDoorKrj
namespace Go.Proofs.YtmidaeljeoifdaaGreatDoor
set_option maxHeartbeats 16000000
open Go.RowKit
set_option linter.unusedVariables false
def mkind (c : Cf) (i : Int) : Int := match c.msgs[i.toNat]? with | some x => x.kind | none => 0
def mlen (c : Cf) (i : Int) : Int := match c.msgs[i.toNat]? with | some x => x.len | none => 0
theorem fromIsSent_any (w : World) (c : Cf) (v : Vs) (h : CfAt w c v) (i : Nat) (x : Ms) (hi : c.msgs[i]? = some x) :
  Calls Tryz.prog 254 #[.agg (cfC c v), I i] w fun e w' => Ans w (x.kind == 1 || (isId x.frm v.s.n && mkind c x.frm == 1)) e w' := by
 have hn : v.s.n = c.msgs.length := h.s.n
 have hlt : (i : Int) < v.s.n := by have := (List.getElem?_eq_some_iff.1 hi).1; omega
 obtain ⟨g, off, e, hg, a0, a1, a2, a3, a4, a5, a6, a7, a8, a9⟩ := ms_at h hi
 have hne : g ≠ w.heap.size := by omega
 have hb := below_alloc w
 have hb2 := fun o o' => (hb o).trans ((below_alloc (w.alloc o) o').mono (hb o).size)
 have c1 := isID_any x.frm v.s.n
 obtain ⟨B, hB⟩ : ∃ B, B = (x.kind == 1 || (isId x.frm v.s.n && mkind c x.frm == 1)) := ⟨_, rfl⟩
 rw [← hB]
 have HB : Hid (B = _) := hB
 have HN : Hid (v.s.n = c.msgs.length) := h.s.n
 have hgl : g < w.heap.size + 1 := by omega
 have hne1 : g ≠ w.heap.size + 1 := by omega
 clear hB
 have f17 : ∀ h : 17 < (cfC c v).size, (cfC c v)[17] = .slice v.s.a v.s.n v.s.c := fun _ => rfl
 have hs18 : (cfC c v).size = 18 := rfl
 generalize cfC c v = C at *
 replace f17 := f17 (by omega)
 rw [e] at f17
 clear hi hn
 cases hk1 : x.kind == 1 with
 | true =>
  have HE : Hid (B = true) := by show _ = _; rw [HB.out, hk1]; rfl
  clear HB
  go_enter Tryz.func254, Tryz.ntmps254
  go_wp2_with (first | (go_at_call 272; refine (c1 _).mono ?_; clear c1; rintro e w' ⟨rfl, rfl⟩))
  go_ret
  exact ⟨ret_bool HE.out.symm, hb2 _ _⟩
 | false =>
  cases hid : isId x.frm v.s.n with
  | false =>
   have HE : Hid (B = false) := by show _ = _; rw [HB.out, hk1, hid]; rfl
   rw [hid] at c1
   clear HB hid
   go_enter Tryz.func254, Tryz.ntmps254
   go_wp2_with (first | (go_at_call 272; refine (c1 _).mono ?_; clear c1; rintro e w' ⟨rfl, rfl⟩))
   go_ret
   exact ⟨ret_bool HE.out.symm, hb2 _ _⟩
  | true =>
   have hr : 0 ≤ x.frm ∧ x.frm < v.s.n := by simpa [isId] using hid
   obtain ⟨q, hq⟩ := Int.eq_ofNat_of_zero_le hr.1
   have hq' : (q : Int) < v.s.n := by omega
   have hql : q < c.msgs.length := by rw [← HN.out]; omega
   obtain ⟨y, hy⟩ : ∃ y, c.msgs[q]? = some y := ⟨_, List.getElem?_eq_getElem hql⟩
   obtain ⟨g', off', e', hg', b0, b1, b2, b3, b4, b5, b6, b7, b8, b9⟩ := ms_at h hy
   rw [e] at e'
   obtain ⟨rfl, rfl⟩ : g = g' ∧ off = off' := by cases e'; exact ⟨rfl, rfl⟩
   have HE : Hid (B = (y.kind == 1)) := by show _ = _; rw [HB.out, hk1, hid, hq]; simp [mkind, hy]
   rw [hid] at c1
   rw [hq] at a3 c1
   clear HB hid hr hq hql hy e' b0 b2 b3 b4 b5 b6 b7 b8 b9
   go_enter Tryz.func254, Tryz.ntmps254
   go_wp2_with (first | (go_at_call 272; refine (c1 _).mono ?_; clear c1; rintro e w' ⟨rfl, rfl⟩))
   go_ret
   exact ⟨ret_bool HE.out.symm, hb2 _ _⟩
theorem width_any (n : Int) (w : World) : Calls Tryz.prog 303 #[I n] w fun e w' => e = .returned (.bool (inR n 1 8)) ∧ w' = w := by
 unfold inR
 by_cases h1 : 1 ≤ n <;> by_cases h2 : n ≤ 8 <;> (go_enter Tryz.func303, Tryz.ntmps303; go_wp2; go_ret; exact ⟨ret_bool (by simp [h1, h2]), rfl⟩)
def fitsB (x n : Nat) : Bool := (x : Int) / 2 ^ (8 * n) == 0
theorem fits_any (x : Nat) (n : Nat) (hn : 1 ≤ n) (h7 : n ≤ 7) (w : World) : Calls Tryz.prog 304 #[.int .u64 (x : Int), I n] w fun e w' => e = .returned (.bool (fitsB x n)) ∧ w' = w := by
 go_enter Tryz.func304, Tryz.ntmps304
 go_wp2
 go_ret
 exact ⟨rfl, rfl⟩
end Go.Proofs.YtmidaeljeoifdaaGreatDoor
