import Derived.Test.YtmidaeljeoifdaaGreatDoorKat
namespace Go.Proofs.YtmidaeljeoifdaaGreatDoor
set_option maxHeartbeats 16000000
open Go.RowKit
set_option linter.unusedVariables false
def Ans (w : World) (b : Bool) (e : Ending) (w' : World) : Prop := e = .returned (.bool b) ∧ Below w.heap.size w w'
theorem resourceHasKind_any (w : World) (c : Cf) (v : Vs) (h : CfAt w c v) (i : Nat) (x : Rs) (hi : c.ress[i]? = some x) :
  Calls Tryz.prog 218 #[.agg (cfC c v), I i] w fun e w' => Ans w (inR x.kind 1 3) e w' := by
 have hn : v.r.n = c.ress.length := h.r.n
 have hlt : (i : Int) < v.r.n := by have := (List.getElem?_eq_some_iff.1 hi).1; omega
 obtain ⟨g, off, e, hg, a0, a1, a2⟩ := rs_at h hi
 have hne : g ≠ w.heap.size := by omega
 have c1 := within_rk x.kind 1 3
 have hb := below_alloc w (.cells (cfC c v) 47)
 unfold cfC at *
 rw [e] at *
 clear hi hn
 go_enter Tryz.func218, Tryz.ntmps218
 go_wp2_with (first | (go_at_call 271; refine (c1 _).mono ?_; rintro e w' ⟨rfl, rfl⟩))
 go_ret
 exact ⟨rfl, hb⟩
theorem linkIsUsed_any (w : World) (c : Cf) (v : Vs) (h : CfAt w c v) (i : Nat) (x : Rs) (hi : c.ress[i]? = some x) :
  Calls Tryz.prog 219 #[.agg (cfC c v), I i] w fun e w' => Ans w (x.kind == 2 || x.link == 0) e w' := by
 have hn : v.r.n = c.ress.length := h.r.n
 have hlt : (i : Int) < v.r.n := by have := (List.getElem?_eq_some_iff.1 hi).1; omega
 obtain ⟨g, off, e, hg, a0, a1, a2⟩ := rs_at h hi
 have hne : g ≠ w.heap.size := by omega
 have hb := below_alloc w (.cells (cfC c v) 47)
 unfold cfC at *
 rw [e] at *
 clear hi hn
 generalize hk1 : (x.kind == 2) = b1 at *
 cases b1 <;> (go_enter Tryz.func219, Tryz.ntmps219; go_wp2; go_ret; exact ⟨by simp, hb.trans (below_alloc _ _ |>.mono hb.size)⟩)
end Go.Proofs.YtmidaeljeoifdaaGreatDoor
