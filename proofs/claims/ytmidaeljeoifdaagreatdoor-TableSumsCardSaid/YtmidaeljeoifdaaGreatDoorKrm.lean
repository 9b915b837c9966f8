import Derived.Test.YtmidaeljeoifdaaGreatDoorKrl
namespace Go.Proofs.YtmidaeljeoifdaaGreatDoor
set_option maxRecDepth 100000
set_option maxHeartbeats 16000000
open Go.RowKit Go.Sort
set_option linter.unusedVariables false
def fitI (x : Nat) (n : Int) : Bool := if n == 0 then (x : Int) == 0 else if inR n 1 7 then fitsB x n.toNat else true
theorem fitsInto_any (x : Nat) (n : Int) (w : World) : Calls Tryz.prog 290 #[.int .u64 (x : Int), I n] w fun e w' => e = .returned (.bool (fitI x n)) ∧ Below w.heap.size w w' := by
 obtain ⟨B, hB⟩ : ∃ B, B = fitI x n := ⟨_, rfl⟩
 rw [← hB]
 unfold fitI at hB
 have HB : Hid (B = _) := hB
 clear hB
 have c1 := within_int n 1 7
 cases hn : n == 0 with
 | true =>
  have HE : Hid (B = ((x : Int) == 0)) := by show _ = _; rw [HB.out, hn]; rfl
  clear HB
  go_enter Tryz.func290, Tryz.ntmps290
  go_wp2
  go_ret
  exact ⟨ret_bool HE.out.symm, Below.refl _ _⟩
 | false =>
  cases h1 : inR n 1 7 with
  | false =>
   have HE : Hid (B = true) := by show _ = _; rw [HB.out, hn, h1]; rfl
   rw [h1] at c1
   clear HB
   go_enter Tryz.func290, Tryz.ntmps290
   go_wp2_with (first | (go_at_call 193; refine (c1 _).mono ?_; clear c1; rintro e w' ⟨rfl, rfl⟩))
   go_ret
   exact ⟨ret_bool HE.out.symm, Below.refl _ _⟩
  | true =>
   have hr : 1 ≤ n ∧ n ≤ 7 := by simpa [inR] using h1
   obtain ⟨q, rfl⟩ := Int.eq_ofNat_of_zero_le (show 0 ≤ n by omega)
   have HE : Hid (B = fitsB x q) := by show _ = _; rw [HB.out, hn, h1]; simp
   have c2 := number_any x q (by omega) (by omega)
   rw [h1] at c1
   clear HB
   cases hf : fitsB x q with
   | true =>
    rw [hf] at c2 HE
    go_enter Tryz.func290, Tryz.ntmps290
    go_wp2_with (first | (go_at_call 193; refine (c1 _).mono ?_; clear c1; rintro e w' ⟨rfl, rfl⟩) | (go_at_call 301; refine (c2 _).mono ?_; clear c2; rintro e w2 ⟨s, rfl, hb2⟩))
    go_ret
    exact ⟨ret_bool HE.out.symm, hb2⟩
   | false =>
    rw [hf] at c2 HE
    go_enter Tryz.func290, Tryz.ntmps290
    go_wp2_with (first | (go_at_call 193; refine (c1 _).mono ?_; clear c1; rintro e w' ⟨rfl, rfl⟩) | (go_at_call 301; refine (c2 _).mono ?_; clear c2; rintro e w2 ⟨s, rfl, hb2⟩))
    go_ret
    exact ⟨ret_bool HE.out.symm, hb2⟩
theorem initFits_any (w : World) (c : Cf) (v : Vs) (h : CfAt w c v) (i : Nat) (x : Ms) (hi : c.msgs[i]? = some x) (hv : x.kind == 1 ∨ isId x.frm v.s.n = true) :
  Calls Tryz.prog 255 #[.agg (cfC c v), I i] w fun e w' => Ans w (x.kind == 1 || (decide ((x.init : Int) ≤ 4294967295) && fitI x.init (mlen c x.frm))) e w' := by
 have hn : v.s.n = c.msgs.length := h.s.n
 have hlt : (i : Int) < v.s.n := by have := (List.getElem?_eq_some_iff.1 hi).1; omega
 obtain ⟨g, off, e, hg, a0, a1, a2, a3, a4, a5, a6, a7, a8, a9⟩ := ms_at h hi
 have hne : g ≠ w.heap.size := by omega
 have hb := below_alloc w
 have hb2 := fun o o' => (hb o).trans ((below_alloc (w.alloc o) o').mono (hb o).size)
 obtain ⟨B, hB⟩ : ∃ B, B = (x.kind == 1 || (decide ((x.init : Int) ≤ 4294967295) && fitI x.init (mlen c x.frm))) := ⟨_, rfl⟩
 rw [← hB]
 have HB : Hid (B = _) := hB
 have HN : Hid (v.s.n = c.msgs.length) := h.s.n
 have hgl : g < w.heap.size + 1 := by omega
 have hne1 : g ≠ w.heap.size + 1 := by omega
 clear hB
 have f17 : ∀ h : 17 < (cfC c v).size, (cfC c v)[17] = .slice v.s.a v.s.n v.s.c := fun _ => rfl
 have hs18 : (cfC c v).size = 18 := rfl
 generalize cfC c v = C at *
 replace f17 := f17 (by omega)
 rw [e] at f17
 clear hi hn
 go_enter Tryz.func255, Tryz.ntmps255
 go_wp2
 have k1 : ((w.alloc (.cells C 47)).alloc (.cells #[S x.name, I x.kind, I x.len, I x.frm, .int .u64 (x.init : Int), I x.queue, I x.ac.kind, I x.ac.task, I x.ac.event, S x.ac.name] 114)).cell? ⟨w.heap.size + 1, 1, none⟩ = some (I x.kind) := by simp
 have k3 : ((w.alloc (.cells C 47)).alloc (.cells #[S x.name, I x.kind, I x.len, I x.frm, .int .u64 (x.init : Int), I x.queue, I x.ac.kind, I x.ac.task, I x.ac.event, S x.ac.name] 114)).cell? ⟨w.heap.size + 1, 3, none⟩ = some (I x.frm) := by simp
 have k4 : ((w.alloc (.cells C 47)).alloc (.cells #[S x.name, I x.kind, I x.len, I x.frm, .int .u64 (x.init : Int), I x.queue, I x.ac.kind, I x.ac.task, I x.ac.event, S x.ac.name] 114)).cell? ⟨w.heap.size + 1, 4, none⟩ = some (.int .u64 (x.init : Int)) := by simp
 have k17 : ((w.alloc (.cells C 47)).alloc (.cells #[S x.name, I x.kind, I x.len, I x.frm, .int .u64 (x.init : Int), I x.queue, I x.ac.kind, I x.ac.task, I x.ac.event, S x.ac.name] 114)).cell? ⟨w.heap.size, 17, none⟩ = some (.slice (some ⟨g, off, none⟩) v.s.n v.s.c) := by
  rw [cell_below (below_alloc _ _) _ _ (by simp), World.cell?_alloc_new, ← f17]
  exact Array.getElem?_eq_getElem _
 have hbw := hb2 (.cells C 47) (.cells #[S x.name, I x.kind, I x.len, I x.frm, .int .u64 (x.init : Int), I x.queue, I x.ac.kind, I x.ac.task, I x.ac.event, S x.ac.name] 114)
 have h2 := h.below hbw
 clear a0 a1 a2 a3 a4 a5 a6 a7 a8 a9 hb hb2 f17 hs18 h
 generalize ((w.alloc (.cells C 47)).alloc (.cells #[S x.name, I x.kind, I x.len, I x.frm, .int .u64 (x.init : Int), I x.queue, I x.ac.kind, I x.ac.task, I x.ac.event, S x.ac.name] 114)) = W2 at *
 replace k1 := cell_regrown k1
 replace k4 := cell_regrown k4
 replace k17 := cell_regrown k17
 cases hk1 : x.kind == 1 with
 | true =>
  have HE : Hid (B = true) := by show _ = _; rw [HB.out, hk1]; rfl
  clear HB hv h2
  have c2 : True := trivial
  refine wp_region_quiet_below (by kernel_rfl) (by kernel_rfl) ?_
  repeat (go_big_quiet_step (first | exact c2 _ _))
  refine wpQuiet_nil ?_
  intro _ hw'
  obtain ⟨⟨dq, osq⟩, hw''⟩ := hw'
  subst hw''
  go_wp2
  go_ret
  exact ⟨ret_bool HE.out.symm, hbw.trans ((below_regrown W2 dq osq).mono hbw.size)⟩
 | false =>
  have hid : isId x.frm v.s.n = true := by rcases hv with hv | hv; · rw [hk1] at hv; cases hv
                       ·exact hv
  have hr : 0 ≤ x.frm ∧ x.frm < v.s.n := by simpa [isId] using hid
  obtain ⟨q, hq⟩ := Int.eq_ofNat_of_zero_le hr.1
  have hq' : (q : Int) < v.s.n := by omega
  have hql : q < c.msgs.length := by rw [← HN.out]; omega
  obtain ⟨y, hy⟩ : ∃ y, c.msgs[q]? = some y := ⟨_, List.getElem?_eq_getElem hql⟩
  obtain ⟨g', off', e', hg', b0, b1, b2, b3, b4, b5, b6, b7, b8, b9⟩ := ms_at h2 hy
  rw [e] at e'
  obtain ⟨rfl, rfl⟩ : g = g' ∧ off = off' := by cases e'; exact ⟨rfl, rfl⟩
  have kl := cell_regrown b2
  rw [hq] at k3
  replace k3 := cell_regrown k3
  have HE0 : Hid (B = (decide ((x.init : Int) ≤ 4294967295) && fitI x.init y.len)) := by show _ = _; rw [HB.out, hk1, hq]; simp [mlen, hy]
  have c2 : ∀ d os, Calls Tryz.prog 290 #[.int .u64 (x.init : Int), I y.len] (grow (redrawn W2 d) os) fun e w'' => e = .returned (.bool (fitI x.init y.len)) ∧ ∃ p : Regrown, w'' = grow (redrawn W2 p.d) p.os := fun d os => Calls.regrown_of (fitsInto_any x.init y.len _)
  clear HB hid hr hq hql hy e' b0 b1 b2 b3 b4 b5 b6 b7 b8 b9 h2 hv
  generalize fitI x.init y.len = b at *
  by_cases hle : (x.init : Int) ≤ 4294967295
  ·have HE : Hid (B = b) := by show _ = _; rw [HE0.out, decide_eq_true hle]; rfl
   clear HE0
   refine wp_region_quiet_below (by kernel_rfl) (by kernel_rfl) ?_
   repeat (go_big_quiet_step (first | exact c2 _ _))
   refine wpQuiet_nil ?_
   intro _ hw'
   obtain ⟨⟨dq, osq⟩, hw''⟩ := hw'
   subst hw''
   go_wp2
   go_ret
   exact ⟨ret_bool HE.out.symm, hbw.trans ((below_regrown W2 dq osq).mono hbw.size)⟩
  ·have HE : Hid (B = false) := by show _ = _; rw [HE0.out, decide_eq_false hle]; rfl
   clear HE0
   refine wp_region_quiet_below (by kernel_rfl) (by kernel_rfl) ?_
   repeat (go_big_quiet_step (first | exact c2 _ _))
   refine wpQuiet_nil ?_
   intro _ hw'
   obtain ⟨⟨dq, osq⟩, hw''⟩ := hw'
   subst hw''
   go_wp2
   go_ret
   exact ⟨ret_bool HE.out.symm, hbw.trans ((below_regrown W2 dq osq).mono hbw.size)⟩
end Go.Proofs.YtmidaeljeoifdaaGreatDoor
