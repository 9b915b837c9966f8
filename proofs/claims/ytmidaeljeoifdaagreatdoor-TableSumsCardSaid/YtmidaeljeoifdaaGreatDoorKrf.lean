import Derived.Test.YtmidaeljeoifdaaGreatDoorKqb
namespace Go.Proofs.YtmidaeljeoifdaaGreatDoor
set_option maxHeartbeats 16000000
open Go.RowKit Go.Sort
set_option linter.unusedVariables false
theorem oneInternal_any (w : World) (c : Cf) (v : Vs) (h : CfAt w c v) (i : Nat) (x : Tk) (hi : c.tasks[i]? = some x) (hv : ∀ y ∈ x.res, isId y v.r.n = true) :
  Calls Tryz.prog 231 #[.agg (cfC c v), I i] w fun e w' => Ans w (decide ((intN c x.res : Int) ≤ 1)) e w' := by
 have hn : v.t.n = c.tasks.length := h.t.n
 have hlt : (i : Int) < v.t.n := by have := (List.getElem?_eq_some_iff.1 hi).1; omega
 obtain ⟨g, off, s4, s5, s6, s7, e, hg, a0, a1, a2, a3, a4, a5, a6, a7, r4, r5, r6, r7⟩ := tk_at h hi
 have hne : g ≠ w.heap.size := by omega
 have hb := below_alloc w
 have hb2 := fun o o' => (hb o).trans ((below_alloc (w.alloc o) o').mono (hb o).size)
 have hi18 : (Tryz.prog.info? 47).map (·.size) = some (cfC c v).size := by rw [show (cfC c v).size = 18 from rfl]; kernel_rfl
 have hV0 := heap_alloc_new w (.cells (cfC c v) 47)
 have h0 := h.below (hb (.cells (cfC c v) 47))
 have hg0 := Nat.lt_of_lt_of_le hg (hb (.cells (cfC c v) 47)).size
 have c1 : ∀ d os, Calls Tryz.prog 276 #[.agg (cfC c v), .slice s5.a s5.n s5.c] (grow (redrawn (w.alloc (.cells (cfC c v) 47)) d) os) fun e w'' => e = .returned (I (intN c x.res)) ∧ ∃ p : Regrown, w'' = grow (redrawn (w.alloc (.cells (cfC c v) 47)) p.d) p.os := fun d os => Calls.regrown_of (internals_any _ c v (h0.below (below_regrown _ d os)) s5 x.res ((r5.below (hb _) (fun _ _ _ _ h => h)).below (below_regrown _ d os) (fun _ _ _ _ h => h)) hv)
 have kV : (w.alloc (.cells (cfC c v) 47)).cell? ⟨w.heap.size, 11, none⟩ = some (.slice (some ⟨g, off, none⟩) v.t.n v.t.c) := by rw [← e]; exact cell_of_row _ w.heap.size 11 _ _ (0, 0) hV0
 have kx : (w.alloc (.cells (cfC c v) 47)).cell? ⟨g, off + i * 8 + 5, none⟩ = some (.slice s5.a s5.n s5.c) := by rw [cell_below (hb _) _ _ hg]; exact a5
 have hbw := hb (.cells (cfC c v) 47)
 have f11 : ∀ h : 11 < (cfC c v).size, (cfC c v)[11] = .slice v.t.a v.t.n v.t.c := fun _ => rfl
 have hs18 : (cfC c v).size = 18 := rfl
 generalize cfC c v = C at *
 replace f11 := f11 (by omega)
 rw [e] at f11
 clear hi hn
 go_enter Tryz.func231, Tryz.ntmps231
 go_wp2
 generalize w.alloc (.cells C 47) = W0 at *
 have k0 := cell_regrown kV
 have k1 := cell_regrown kx
 refine wp_region_quiet_below (by kernel_rfl) (by kernel_rfl) ?_
 refine wpQuiet_load_row rfl 47 _ rfl w.heap.size rfl 47 _ (0, 0) _ (heap_regrown hV0) Tryz.underlying47 rfl hi18 ?_
 repeat (quiet_step (first | exact c1 _ _))
 refine wpQuiet_nil ?_
 intro _ hw'
 obtain ⟨⟨dq, osq⟩, hw''⟩ := hw'
 subst hw''
 go_wp2
 go_ret
 exact ⟨ret_bool (by simp), hbw.trans ((below_regrown W0 dq osq).mono hbw.size)⟩
theorem noInternal_any (w : World) (c : Cf) (v : Vs) (h : CfAt w c v) (i : Nat) (x : Is) (hi : c.isrs[i]? = some x) (hv : ∀ y ∈ x.res, isId y v.r.n = true) :
  Calls Tryz.prog 248 #[.agg (cfC c v), I i] w fun e w' => Ans w ((intN c x.res : Int) == 0) e w' := by
 have hn : v.i.n = c.isrs.length := h.i.n
 have hlt : (i : Int) < v.i.n := by have := (List.getElem?_eq_some_iff.1 hi).1; omega
 obtain ⟨g, off, s3, s4, e, hg, a0, a1, a2, a3, a4, r3, r4⟩ := is_at h hi
 have hne : g ≠ w.heap.size := by omega
 have hb := below_alloc w
 have hb2 := fun o o' => (hb o).trans ((below_alloc (w.alloc o) o').mono (hb o).size)
 have hi18 : (Tryz.prog.info? 47).map (·.size) = some (cfC c v).size := by rw [show (cfC c v).size = 18 from rfl]; kernel_rfl
 have hV0 := heap_alloc_new w (.cells (cfC c v) 47)
 have h0 := h.below (hb (.cells (cfC c v) 47))
 have hg0 := Nat.lt_of_lt_of_le hg (hb (.cells (cfC c v) 47)).size
 have c1 : ∀ d os, Calls Tryz.prog 276 #[.agg (cfC c v), .slice s3.a s3.n s3.c] (grow (redrawn (w.alloc (.cells (cfC c v) 47)) d) os) fun e w'' => e = .returned (I (intN c x.res)) ∧ ∃ p : Regrown, w'' = grow (redrawn (w.alloc (.cells (cfC c v) 47)) p.d) p.os := fun d os => Calls.regrown_of (internals_any _ c v (h0.below (below_regrown _ d os)) s3 x.res ((r3.below (hb _) (fun _ _ _ _ h => h)).below (below_regrown _ d os) (fun _ _ _ _ h => h)) hv)
 have kV : (w.alloc (.cells (cfC c v) 47)).cell? ⟨w.heap.size, 16, none⟩ = some (.slice (some ⟨g, off, none⟩) v.i.n v.i.c) := by rw [← e]; exact cell_of_row _ w.heap.size 16 _ _ (0, 0) hV0
 have kx : (w.alloc (.cells (cfC c v) 47)).cell? ⟨g, off + i * 5 + 3, none⟩ = some (.slice s3.a s3.n s3.c) := by rw [cell_below (hb _) _ _ hg]; exact a3
 have hbw := hb (.cells (cfC c v) 47)
 have f16 : ∀ h : 16 < (cfC c v).size, (cfC c v)[16] = .slice v.i.a v.i.n v.i.c := fun _ => rfl
 have hs18 : (cfC c v).size = 18 := rfl
 generalize cfC c v = C at *
 replace f16 := f16 (by omega)
 rw [e] at f16
 clear hi hn
 go_enter Tryz.func248, Tryz.ntmps248
 go_wp2
 generalize w.alloc (.cells C 47) = W0 at *
 have k0 := cell_regrown kV
 have k1 := cell_regrown kx
 refine wp_region_quiet_below (by kernel_rfl) (by kernel_rfl) ?_
 refine wpQuiet_load_row rfl 47 _ rfl w.heap.size rfl 47 _ (0, 0) _ (heap_regrown hV0) Tryz.underlying47 rfl hi18 ?_
 repeat (quiet_step (first | exact c1 _ _))
 refine wpQuiet_nil ?_
 intro _ hw'
 obtain ⟨⟨dq, osq⟩, hw''⟩ := hw'
 subst hw''
 go_wp2
 go_ret
 exact ⟨rfl, hbw.trans ((below_regrown W0 dq osq).mono hbw.size)⟩
end Go.Proofs.YtmidaeljeoifdaaGreatDoor
