import Derived.Test.YtmidaeljeoifdaaGreatDoorKck
import Derived.Test.YtmidaeljeoifdaaGreatDoorKvh
import Derived.Test.YtmidaeljeoifdaaGreatDoorKvl
import Derived.Test.YtmidaeljeoifdaaGreatDoorKsa
namespace Go.Proofs.YtmidaeljeoifdaaGreatDoor
set_option maxRecDepth 100000
set_option maxHeartbeats 16000000
open Go.RowKit Go.Sort
set_option linter.unusedVariables false
set_option linter.unusedSimpArgs false
theorem rmay_any (w : World) (c : Cf) (v : Vs) (h : CfAt w c v) (hl : LensOK c) (hz : NamesOK c) : Calls Tryz.prog 12 #[.agg (cfC c v)] w fun e w' => Ans w (allF c).isNone e w' := by
 have hi18 : (Tryz.prog.info? 47).map (·.size) = some (cfC c v).size := by rw [show (cfC c v).size = 18 from rfl]; kernel_rfl
 have hV0 := heap_alloc_new w (.cells (cfC c v) 47)
 have hb := below_alloc w (.cells (cfC c v) 47)
 have k1 := rcheck_any _ c v (h.below hb) hl hz
 generalize cfC c v = C at *
 clear h hl hz
 cases ho : allF c with
 | none =>
  rw [ho] at k1
  clear ho
  go_enter Tryz.func12, Tryz.ntmps12
  go_wp2_with (first | (refine wpList_load_row rfl 47 _ rfl w.heap.size rfl 47 _ (0, 0) _ hV0 Tryz.underlying47 rfl hi18 ?_) | (go_at_call 35; refine k1.mono ?_; clear k1; rintro e w1 ⟨he, hb1⟩; obtain rfl : e = .returned (.agg #[I 0, S [], I 0]) := he))
  go_ret
  exact ⟨rfl, hb.trans (hb1.mono hb.size)⟩
 | some p =>
  obtain ⟨cd, wd, ix⟩ := p
  have hcd : (cd == 0) = false := by simpa using allF_code ho
  rw [ho] at k1
  clear ho
  go_enter Tryz.func12, Tryz.ntmps12
  go_wp2_with (first | (refine wpList_load_row rfl 47 _ rfl w.heap.size rfl 47 _ (0, 0) _ hV0 Tryz.underlying47 rfl hi18 ?_) | (go_at_call 35; refine k1.mono ?_; clear k1; rintro e w1 ⟨he, hb1⟩; obtain rfl : e = .returned (.agg #[I cd, S wd, I ix]) := he))
  go_ret
  exact ⟨rfl, hb.trans (hb1.mono hb.size)⟩
end Go.Proofs.YtmidaeljeoifdaaGreatDoor
