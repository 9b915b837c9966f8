import Derived.Test.YtidhjajobacnaaaGreatDoorKvf
import Derived.Test.YtidhjajobacnaaaGreatDoorKvg
import Derived.Test.YtidhjajobacnaaaGreatDoorKqb
namespace Go.Proofs.YtidhjajobacnaaaGreatDoor
open Go.RowKit Go.Sort
set_option linter.unusedVariables false

/-! ### Class -/
def clsK (ext single : Bool) : Int := if ext then (if single then 3 else 4) else (if single then 1 else 2)
def clsL (c : Cf) : Int × Int := match allF c with
  | none => (clsK (extAny c) (sgL [] c.tasks), 0)
  | some _ => (0, 2)
def ClsPost (w : World) (p : Int × Int) (e : Ending) (w' : World) : Prop := e = .returned (.tuple #[I p.1, I p.2]) ∧ Below w.heap.size w w'
set_option maxHeartbeats 2000000 in
set_option maxRecDepth 100000 in
theorem class_any (w : World) (c : Cf) (v : Vs) (h : CfAt w c v) (hl : LensOK c) : Calls Tryz.prog 11 #[.agg (cfC c v)] w fun e w' => ClsPost w (clsL c) e w' := by
  have hi18 : (Tryz.prog.info? 33).map (·.size) = some (cfC c v).size := by rw [show (cfC c v).size = 18 from rfl]; kernel_rfl
  have hV0 := heap_alloc_new w (.cells (cfC c v) 33)
  have hbw := below_alloc w (.cells (cfC c v) 33)
  have cl := look_all (w.alloc (.cells (cfC c v) 33)) c v (h.below hbw) hl
  cases ho : allF c with
  | some r =>
    obtain ⟨cd, wd, ix⟩ := r
    rw [ho] at cl
    rw [show clsL c = (0, 2) by unfold clsL; rw [ho]]
    generalize cfC c v = C at *
    go_enter Tryz.func11, Tryz.ntmps11
    go_wp2_with (first | (refine wpList_load_row rfl 33 _ rfl w.heap.size rfl 33 _ (0, 0) _ hV0 Tryz.underlying33 rfl hi18 ?_) | (go_at_call 17; refine cl.mono ?_; rintro e w1 ⟨b, rfl, hr1, hr2, hb3⟩))
    go_ret2
    exact ⟨rfl, hbw.trans (hb3.mono hbw.size)⟩
  | none =>
    rw [ho] at cl
    rw [show clsL c = (clsK (extAny c) (sgL [] c.tasks), 0) by unfold clsL; rw [ho]]
    have hp := may_prio ho
    have ca := fun W (hW : Below w.heap.size w W) => anyExtended_any W c v (h.below hW)
    have cs := fun W (hW : Below w.heap.size w W) => allSingle_any W c v (h.below hW) hp
    generalize cfC c v = C at *
    generalize extAny c = be at *
    generalize sgL [] c.tasks = bs at *
    go_enter Tryz.func11, Tryz.ntmps11
    go_wp2_with (first | (refine wpList_load_row rfl 33 _ rfl w.heap.size rfl 33 _ (0, 0) _ hV0 Tryz.underlying33 rfl hi18 ?_) | (go_at_call 17; refine cl.mono ?_; rintro e w1 ⟨rfl, hb3⟩))
    have hbw1 := hbw.trans (hb3.mono hbw.size)
    have hV1 := (hb3.block _ (heap_lt hV0)).trans hV0
    have c1 : ∀ d os, Calls Tryz.prog 23 #[.agg C] (grow (redrawn w1 d) os) fun e w'' => e = .returned (.bool be) ∧ ∃ p : Regrown, w'' = grow (redrawn w1 p.d) p.os := fun d os => Calls.regrown_of (ca _ (hbw1.trans ((below_regrown _ d os).mono hbw1.size)))
    have c2 : ∀ d os, Calls Tryz.prog 24 #[.agg C] (grow (redrawn w1 d) os) fun e w'' => e = .returned (.bool bs) ∧ ∃ p : Regrown, w'' = grow (redrawn w1 p.d) p.os := fun d os => Calls.regrown_of (cs _ (hbw1.trans ((below_regrown _ d os).mono hbw1.size)))
    clear ca cs cl
    refine wp_region_quiet_below (by kernel_rfl) (by kernel_rfl) ?_
    refine wpQuiet_load_row rfl 33 _ rfl w.heap.size rfl 33 _ (0, 0) _ (heap_regrown hV1) Tryz.underlying33 rfl hi18 ?_
    quiet_step (exact c1 _ _)
    refine wpQuiet_load_row rfl 33 _ rfl w.heap.size rfl 33 _ (0, 0) _ (heap_regrown hV1) Tryz.underlying33 rfl hi18 ?_
    repeat (quiet_step (first | exact c1 _ _ | exact c2 _ _))
    refine wpQuiet_nil ?_
    intro _ hw'
    obtain ⟨⟨dq, osq⟩, hw''⟩ := hw'
    subst hw''
    cases be <;> cases bs <;> (go_wp2; go_ret2; exact ⟨rfl, hbw1.trans ((below_regrown w1 dq osq).mono hbw1.size)⟩)
end Go.Proofs.YtidhjajobacnaaaGreatDoor
