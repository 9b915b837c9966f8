import Derived.Test.YtmidaeljeoifdaaGreatDoorKrb
import Derived.Deep.WholeRow
namespace Go.Proofs.YtmidaeljeoifdaaGreatDoor
set_option maxRecDepth 100000
set_option maxHeartbeats 16000000
open Go.RowKit
set_option linter.unusedVariables false
theorem linkEnds_any (w : World) (c : Cf) (v : Vs) (h : CfAt w c v) (i : Nat) (x : Rs) (hi : c.ress[i]? = some x) :
  Calls Tryz.prog 221 #[.agg (cfC c v), I i] w fun e w' => Ans w (x.kind != 2 || (decide (0 ≤ rootF c c.ress.length i) && rkind c (rootF c c.ress.length i) == 1)) e w' := by
 have hn : v.r.n = c.ress.length := h.r.n
 have hlt : (i : Int) < v.r.n := by have := (List.getElem?_eq_some_iff.1 hi).1; omega
 obtain ⟨g, off, e, hg, a0, a1, a2⟩ := rs_at h hi
 have hne : g ≠ w.heap.size := by omega
 have hb := below_alloc w
 have hV0 := heap_alloc_new w (.cells (cfC c v) 47)
 have c1 := root_any _ c v (h.below (hb (.cells (cfC c v) 47))) i
 have hh := h.below (hb (.cells (cfC c v) 47))
 have hbw := hb (.cells (cfC c v) 47)
 obtain ⟨B, hB⟩ : ∃ B, B = (x.kind != 2 || (decide (0 ≤ rootF c c.ress.length i) && rkind c (rootF c c.ress.length i) == 1)) := ⟨_, rfl⟩
 rw [← hB]
 have HB : Hid (B = _) := hB
 have hro : rootF c c.ress.length i < v.r.n := by rw [hn]; exact rootF_lt c c.ress.length i
 have HN : Hid (v.r.n = c.ress.length) := hn
 clear hi hn hB
 generalize rootF c c.ress.length i = ρ at *
 have hV1 : ∀ w1, Below (w.alloc (.cells (cfC c v) 47)).heap.size (w.alloc (.cells (cfC c v) 47)) w1 → CfAt w1 c v ∧ Below w.heap.size w w1 ∧ w1.cell? ⟨w.heap.size, 12, none⟩ = some (.slice v.r.a v.r.n v.r.c) := fun w1 hb1 =>
  ⟨hh.below hb1, hbw.trans (hb1.mono hbw.size), cell_of_row w1 w.heap.size 12 _ _ (0, 0) ((hb1.block _ (heap_lt hV0)).trans hV0)⟩
 clear hV0 hh hbw
 have f12 : ∀ h : 12 < (cfC c v).size, (cfC c v)[12] = .slice v.r.a v.r.n v.r.c := fun _ => rfl
 have hs18 : (cfC c v).size = 18 := rfl
 have hi18 : (Tryz.prog.info? 47).map (·.size) = some (cfC c v).size := by rw [show (cfC c v).size = 18 from rfl]; kernel_rfl
 have hV0 := heap_alloc_new w (.cells (cfC c v) 47)
 generalize cfC c v = C at *
 replace f12 := f12 (by omega)
 rw [e] at hV1 f12
 cases hk : x.kind == 2 with
 | false =>
  have hk2 : Hid (B = true) := by show _ = _; rw [HB.out]; simp [bne, hk]
  clear c1 hV1 HB
  go_enter Tryz.func221, Tryz.ntmps221
  go_wp2
  go_ret
  exact ⟨ret_bool hk2.out.symm, hb _⟩
 | true =>
  have hk2 : Hid (B = (decide (0 ≤ ρ) && rkind c ρ == 1)) := by show _ = _; rw [HB.out]; simp [bne, hk]
  clear HB hb
  go_enter Tryz.func221, Tryz.ntmps221
  go_wp2_with (refine wpList_load_row rfl 47 _ rfl w.heap.size rfl 47 _ (0, 0) _ hV0 Tryz.underlying47 rfl hi18 ?_)
  refine c1.mono ?_
  rintro e1 w1 ⟨rfl, hb1⟩
  obtain ⟨h1, hbw1, k12⟩ := hV1 w1 hb1
  clear hb1 c1 hV1
  by_cases h0 : 0 ≤ ρ
  ·obtain ⟨q, rfl⟩ := Int.eq_ofNat_of_zero_le h0
   have hql : q < c.ress.length := by rw [← HN.out]; omega
   obtain ⟨y, hy⟩ : ∃ y, c.ress[q]? = some y := ⟨_, List.getElem?_eq_getElem hql⟩
   obtain ⟨g', off', e', hg', b0, b1, b2⟩ := rs_at h1 hy
   rw [e] at e'
   obtain ⟨rfl, rfl⟩ : g = g' ∧ off = off' := by cases e'; exact ⟨rfl, rfl⟩
   have hk3 : Hid (B = (y.kind == 1)) := by show _ = _; rw [hk2.out]; simp [rkind, hy]
   clear hy hql e' h1 h a0 a1 a2 b0 b2 hk2
   go_wp2
   go_ret
   exact ⟨ret_bool hk3.out.symm, hbw1⟩
  ·have HF : Hid (B = false) := by show _ = _; rw [hk2.out, decide_eq_false h0]; rfl
   go_wp2
   go_ret
   exact ⟨ret_bool HF.out.symm, hbw1⟩
end Go.Proofs.YtmidaeljeoifdaaGreatDoor
