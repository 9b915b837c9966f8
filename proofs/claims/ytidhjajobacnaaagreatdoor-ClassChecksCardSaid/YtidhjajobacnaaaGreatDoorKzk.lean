import Derived.Test.YtidhjajobacnaaaGreatDoorKck
import Derived.Test.YtidhjajobacnaaaGreatDoorKvk
namespace Go.Proofs.YtidhjajobacnaaaGreatDoor
open Go.RowKit Go.Sort
set_option linter.unusedVariables false

/-! ### ClassChecks -/
set_option maxHeartbeats 4000000 in
set_option maxRecDepth 100000 in
theorem checks_any (w : World) (c : Cf) (v : Vs) (h : CfAt w c v) (hl : LensOK c) (hz : NamesOK c) (hE : EnvE w) : Calls Tryz.prog 5 #[.agg (cfC c v)] w fun e w' => Ans w true e w' := by
  have hi18 : (Tryz.prog.info? 33).map (·.size) = some (cfC c v).size := by rw [show (cfC c v).size = 18 from rfl]; kernel_rfl
  have hV0 := heap_alloc_new w (.cells (cfC c v) 33)
  have hb := below_alloc w (.cells (cfC c v) 33)
  have k1 : ∀ W, Below w.heap.size w W → Calls Tryz.prog 7 #[.agg (cfC c v)] W fun e w' => e = .returned (.agg (vdC (allF c))) ∧ Below W.heap.size W w' := fun W hW => check_any W c v (h.below hW) hl (hE.below hW)
  have k2 : ∀ W, Below w.heap.size w W → Calls Tryz.prog 10 #[.agg (cfC c v)] W fun e w' => e = .returned (.agg (vdC (allF c))) ∧ Below W.heap.size W w' := fun W hW => rcheck_any W c v (h.below hW) hl hz
  have k3 : ∀ W, Below w.heap.size w W → Calls Tryz.prog 8 #[] W fun e w' => e = .returned (.bool true) ∧ Below W.heap.size W w' := fun W hW => heads_any W (hE.below hW)
  obtain ⟨x0, x1, x2, hx⟩ : ∃ x0 x1 x2, vdC (allF c) = #[I x0, S x1, I x2] := by
    cases allF c with
    | none => exact ⟨0, [], 0, rfl⟩
    | some p => obtain ⟨a, b, d⟩ := p; exact ⟨a, b, d, rfl⟩
  rw [hx] at k1 k2
  generalize cfC c v = C at *
  clear h hl hz hE hx
  go_enter Tryz.func5, Tryz.ntmps5
  go_wp2
  have HB : Hid (Below w.heap.size w (w.alloc (.cells C 33))) := hb
  generalize w.alloc (.cells C 33) = w1 at *
  have c1 : ∀ d os, Calls Tryz.prog 7 #[.agg C] (grow (redrawn w1 d) os) fun e w'' => e = .returned (.agg #[I x0, S x1, I x2]) ∧ ∃ p : Regrown, w'' = grow (redrawn w1 p.d) p.os := fun d os => Calls.regrown_of (k1 _ (HB.out.trans ((below_regrown _ d os).mono HB.out.size)))
  have c2 : ∀ d os, Calls Tryz.prog 10 #[.agg C] (grow (redrawn w1 d) os) fun e w'' => e = .returned (.agg #[I x0, S x1, I x2]) ∧ ∃ p : Regrown, w'' = grow (redrawn w1 p.d) p.os := fun d os => Calls.regrown_of (k2 _ (HB.out.trans ((below_regrown _ d os).mono HB.out.size)))
  have c3 : ∀ d os, Calls Tryz.prog 8 #[] (grow (redrawn w1 d) os) fun e w'' => e = .returned (.bool true) ∧ ∃ p : Regrown, w'' = grow (redrawn w1 p.d) p.os := fun d os => Calls.regrown_of (k3 _ (HB.out.trans ((below_regrown _ d os).mono HB.out.size)))
  clear k1 k2 k3 hb
  refine wp_region_quiet_below (by kernel_rfl) (by kernel_rfl) ?_
  refine wpQuiet_load_row rfl 33 _ rfl w.heap.size rfl 33 _ (0, 0) _ (heap_regrown hV0) Tryz.underlying33 rfl hi18 ?_
  quiet_step (exact c1 _ _)
  refine wpQuiet_load_row rfl 33 _ rfl w.heap.size rfl 33 _ (0, 0) _ (heap_regrown hV0) Tryz.underlying33 rfl hi18 ?_
  quiet_step (exact c2 _ _)
  repeat (quiet_step (first | exact c3 _ _))
  refine wpQuiet_nil ?_
  rintro _ ⟨⟨dq, osq⟩, rfl⟩
  go_wp2
  go_ret
  exact ⟨rfl, HB.out.trans ((below_regrown w1 dq osq).mono HB.out.size)⟩
end Go.Proofs.YtidhjajobacnaaaGreatDoor
