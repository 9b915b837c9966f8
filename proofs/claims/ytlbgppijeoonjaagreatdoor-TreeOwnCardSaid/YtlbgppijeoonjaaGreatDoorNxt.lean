import Derived.Test.YtlbgppijeoonjaaGreatDoorNxp
namespace Go.Proofs.YtlbgppijeoonjaaGreatDoor
open Go.RowKit
set_option linter.unusedVariables false
set_option maxHeartbeats 8000000 in
set_option maxRecDepth 100000 in
theorem next_any (B0 r off : Nat) (p : Nat → Addr) (s : ByteArray) (w : World) (hE : Env B0 p w) (h : Sc w r s off) (hr : B0 ≤ r) (ho : off ≤ s.size) (hs : s.size < 4294967281) :
    Calls Tryz.prog 81 #[.pointer (some ⟨r, 0, none⟩)] w fun e w' => TokPost p w r s (off + (skipL (s.data.toList.drop off)).1) (nxT (s.data.toList.drop off)) e w' := by
  have hrl := Sc4.lt h
  have key := next_pass B0 r off (off + (skipL (s.data.toList.drop off)).1) p s (nxT (s.data.toList.drop off)) w hE hrl hr hs rfl rfl
  have hJ0 : NJ B0 p w r s off 0 (w.alloc (.cells zero7 57)) := ⟨Sc4.alloc h _, ho, grown_of_below ((Below.refl _ _).alloc (Nat.le_refl _) _), heap_alloc_new _ _, by simp⟩
  generalize nxT (s.data.toList.drop off) = x at *
  generalize off + (skipL (s.data.toList.drop off)).1 = o at *
  go_enter Tryz.func81, Tryz.ntmps81
  go_wp2
  refine wp_scope_jumps 0 (nxJ B0 p w r s off) (nxM s r) rfl ?first ?pass
  case first =>
    refine wp_seq ?_
    go_step3
    show Code.wp Tryz.prog nxRest _ _ _
    refine Code.wp_mono ?_ (key _ _ ⟨0, _, _, _, _, _, _, _, _, _, _, _, _, _, _, _, _, _, _, _, _, _, _, _, _, _, _, _, _, _, _, _, _, _, _, _, _, _, _, _, _, _, _, _, _, _, _, _, _, _, _, _, _, _, _, _, _, _, _, _, _, _, _, _, _, _, _, _, _, _, hJ0, rfl⟩)
    exact jump_mono (fun _ _ h => h.1)
  case pass =>
    intro a1 w1 hJ
    refine wp_seq (wp_skip ?_)
    show Code.wp Tryz.prog nxRest _ _ _
    exact key a1 w1 hJ
end Go.Proofs.YtlbgppijeoonjaaGreatDoor
