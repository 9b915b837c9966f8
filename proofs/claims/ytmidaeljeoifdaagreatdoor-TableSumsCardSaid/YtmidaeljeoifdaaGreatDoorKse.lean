import Derived.Test.YtmidaeljeoifdaaGreatDoorKsd
import Derived.Test.YtmidaeljeoifdaaGreatDoorKrw
namespace Go.Proofs.YtmidaeljeoifdaaGreatDoor
set_option maxRecDepth 100000
set_option maxHeartbeats 16000000
open Go.RowKit
set_option linter.unusedVariables false
def resE (c : Cf) (i : Nat) (x : Rs) : Int :=
 if inR x.kind 1 3 = false then 74 else if (x.kind == 2 || x.link == 0) = false then 74
 else if (x.kind == 2) = false then 0 else if isId x.link c.ress.length = false then 73
 else if (decide (0 ≤ rootF c c.ress.length i) && rkind c (rootF c c.ress.length i) == 1) = true then 0 else 70
theorem rresource_any (w : World) (c : Cf) (v : Vs) (h : CfAt w c v) (i : Nat) (x : Rs) (hi : c.ress[i]? = some x) (hl : c.ress.length ≤ 8796093022208) :
  Calls Tryz.prog 161 #[.agg (cfC c v), I i] w fun e w' => e = .returned (I (resE c i x)) ∧ Below w.heap.size w w' := by
 have hn : v.r.n = c.ress.length := h.r.n
 have hlt : (i : Int) < v.r.n := by have := (List.getElem?_eq_some_iff.1 hi).1; omega
 obtain ⟨g, off, e, hg, a0, a1, a2⟩ := rs_at h hi
 have hne : g ≠ w.heap.size := by omega
 have hb := below_alloc w
 have hb2 := fun o o' => (hb o).trans ((below_alloc (w.alloc o) o').mono (hb o).size)
 have HN : Hid (v.r.n = c.ress.length) := hn
 have hi18 : (Tryz.prog.info? 47).map (·.size) = some (cfC c v).size := by rw [show (cfC c v).size = 18 from rfl]; kernel_rfl
 have hV0 : ∀ o, ((w.alloc (.cells (cfC c v) 47)).alloc o).heap[w.heap.size]? = some (.cells (cfC c v) 47 (0, 0)) := fun o => by rw [heap_alloc_old (w.alloc _) _ (by simp)]; exact heap_alloc_new w _
 have c1 : ∀ o, Calls Tryz.prog 209 #[.agg (cfC c v), I i] ((w.alloc (.cells (cfC c v) 47)).alloc o) fun e w' => e = .returned (I (rootF c c.ress.length i)) ∧ Below ((w.alloc (.cells (cfC c v) 47)).alloc o).heap.size ((w.alloc (.cells (cfC c v) 47)).alloc o) w' := fun o => by rw [← rootF_more]; exact rroot_any _ c v (h.below (hb2 _ _)) hl i
 have hro : rootF c c.ress.length i < v.r.n := by rw [hn]; exact rootF_lt c c.ress.length i
 have hV1 : ∀ o w1, Below ((w.alloc (.cells (cfC c v) 47)).alloc o).heap.size ((w.alloc (.cells (cfC c v) 47)).alloc o) w1 → CfAt w1 c v ∧ Below w.heap.size w w1 ∧ w1.cell? ⟨w.heap.size, 12, none⟩ = some (.slice v.r.a v.r.n v.r.c) := fun o w1 hb1 =>
  ⟨(h.below (hb2 _ _)).below hb1, (hb2 _ _).trans (hb1.mono (hb2 _ _).size), cell_of_row w1 w.heap.size 12 _ _ (0, 0) ((hb1.block _ (heap_lt (hV0 o))).trans (hV0 o))⟩
 have f12 : ∀ h : 12 < (cfC c v).size, (cfC c v)[12] = .slice v.r.a v.r.n v.r.c := fun _ => rfl
 have hs18 : (cfC c v).size = 18 := rfl
 generalize cfC c v = C at *
 replace f12 := f12 (by omega)
 rw [e] at f12
 clear hi hn
 obtain ⟨R, hR⟩ : ∃ R, R = resE c i x := ⟨_, rfl⟩
 rw [← hR]
 unfold resE at hR
 have HR : Hid (R = _) := hR
 clear hR
 by_cases h1 : x.kind < 1
 ·clear hV0 c1 hV1
  have HE : Hid (R = 74) := by show _ = _; rw [HR.out, if_pos (by simp [inR]; omega)]
  clear HR
  go_enter Tryz.func161, Tryz.ntmps161
  go_wp2
  go_ret
  exact ⟨ret_int HE.out.symm, hb2 _ _⟩
 ·by_cases h3 : 3 < x.kind
  ·clear hV0 c1 hV1
   have HE : Hid (R = 74) := by show _ = _; rw [HR.out, if_pos (by simp [inR]; omega)]
   clear HR
   go_enter Tryz.func161, Tryz.ntmps161
   go_wp2
   go_ret
   exact ⟨ret_int HE.out.symm, hb2 _ _⟩
  ·have HI : Hid (inR x.kind 1 3 = true) := by show _ = _; simp [inR]; omega
   cases hk2 : x.kind == 2 with
   | false =>
    have hk2' : (x.kind != 2) = true := by simp [bne, hk2]
    clear hV0 c1 hV1
    cases hl0 : x.link == 0 with
    | false =>
     have hl0' : (x.link != 0) = true := by simp [bne, hl0]
     have HE : Hid (R = 74) := by show _ = _; rw [HR.out, if_neg (by rw [HI.out]; decide), if_pos (by rw [hk2, hl0]; rfl)]
     clear HR
     go_enter Tryz.func161, Tryz.ntmps161
     go_wp2
     go_ret
     exact ⟨ret_int HE.out.symm, hb2 _ _⟩
    | true =>
     have hl0' : (x.link != 0) = false := by simp [bne, hl0]
     have HE : Hid (R = 0) := by show _ = _; rw [HR.out, if_neg (by rw [HI.out]; decide), if_neg (by rw [hk2, hl0]; decide), if_pos hk2]
     clear HR
     go_enter Tryz.func161, Tryz.ntmps161
     go_wp2
     go_ret
     exact ⟨ret_int HE.out.symm, hb2 _ _⟩
   | true =>
    have hk2' : (x.kind != 2) = false := by simp [bne, hk2]
    have HR2 : Hid (R = if isId x.link c.ress.length = false then 73 else if (decide (0 ≤ rootF c c.ress.length i) && rkind c (rootF c c.ress.length i) == 1) = true then 0 else 70) := by show _ = _; rw [HR.out, if_neg (by rw [HI.out]; decide), if_neg (by rw [hk2]; simp), if_neg (by rw [hk2]; decide)]
    clear HR
    have HR := HR2
    clear HR2
    by_cases h4 : x.link < 0
    ·clear hV0 c1 hV1
     have HE : Hid (R = 73) := by show _ = _; rw [HR.out, if_pos (by simp [isId]; omega)]
     clear HR
     go_enter Tryz.func161, Tryz.ntmps161
     go_wp2
     go_ret
     exact ⟨ret_int HE.out.symm, hb2 _ _⟩
    ·by_cases h5 : (v.r.n : Int) ≤ x.link
     ·clear hV0 c1 hV1
      have HE : Hid (R = 73) := by show _ = _; rw [HR.out, if_pos (by rw [← HN.out]; simp [isId]; omega)]
      clear HR
      go_enter Tryz.func161, Tryz.ntmps161
      go_wp2
      go_ret
      exact ⟨ret_int HE.out.symm, hb2 _ _⟩
     ·have HR3 : Hid (R = if (decide (0 ≤ rootF c c.ress.length i) && rkind c (rootF c c.ress.length i) == 1) = true then 0 else 70) := by show _ = _; rw [HR.out, if_neg (by rw [← HN.out]; simp [isId]; omega)]
      clear HR
      generalize rootF c c.ress.length i = ρ at *
      go_enter Tryz.func161, Tryz.ntmps161
      go_wp2_with (refine wpList_load_row rfl 47 _ rfl w.heap.size rfl 47 _ (0, 0) _ (hV0 _) Tryz.underlying47 rfl hi18 ?_)
      refine (c1 _).mono ?_
      rintro e1 w1 ⟨rfl, hb1⟩
      obtain ⟨h1', hbw1, k12⟩ := hV1 _ w1 hb1
      clear hb1 c1 hV1 hV0
      rw [e] at k12
      by_cases h6 : ρ < 0
      ·have HE : Hid (R = 70) := by show _ = _; rw [HR3.out, decide_eq_false (show ¬ 0 ≤ ρ by omega)]; rfl
       clear HR3
       go_wp2
       go_ret
       exact ⟨ret_int HE.out.symm, hbw1⟩
      ·obtain ⟨q, rfl⟩ := Int.eq_ofNat_of_zero_le (show 0 ≤ ρ by omega)
       have hql : q < c.ress.length := by rw [← HN.out]; omega
       obtain ⟨y, hy⟩ : ∃ y, c.ress[q]? = some y := ⟨_, List.getElem?_eq_getElem hql⟩
       obtain ⟨g', off', e', hg', b0, b1, b2⟩ := rs_at h1' hy
       rw [e] at e'
       obtain ⟨rfl, rfl⟩ : g = g' ∧ off = off' := by cases e'; exact ⟨rfl, rfl⟩
       have HE0 : Hid (R = if (y.kind == 1) = true then 0 else 70) := by show _ = _; rw [HR3.out, decide_eq_true (show (0 : Int) ≤ (q : Int) by omega)]; simp [rkind, hy]
       clear HR3 hy hql e' h1' h a0 a1 a2 b0 b2
       cases hy1 : y.kind == 1 with
       | true =>
        have hy1' : (y.kind != 1) = false := by simp [bne, hy1]
        have HE : Hid (R = 0) := by show _ = _; rw [HE0.out, hy1]; rfl
        clear HE0
        go_wp2
        go_ret
        exact ⟨ret_int HE.out.symm, hbw1⟩
       | false =>
        have hy1' : (y.kind != 1) = true := by simp [bne, hy1]
        have HE : Hid (R = 70) := by show _ = _; rw [HE0.out, hy1]; rfl
        clear HE0
        go_wp2
        go_ret
        exact ⟨ret_int HE.out.symm, hbw1⟩
end Go.Proofs.YtmidaeljeoifdaaGreatDoor
