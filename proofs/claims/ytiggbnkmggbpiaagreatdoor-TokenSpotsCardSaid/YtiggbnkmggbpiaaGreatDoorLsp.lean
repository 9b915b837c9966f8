import Derived.Test.YtiggbnkmggbpiaaGreatDoorAlv
namespace Go.Proofs.YtiggbnkmggbpiaaGreatDoor
open Go.RowKit
set_option linter.unusedVariables false

set_option maxHeartbeats 4000000 in
set_option maxRecDepth 100000 in
theorem spots_any (B0 : Nat) (p : Nat → Addr) (s : ByteArray) (off : Int) (w : World) (hE : Env B0 p w) (hF : EnvF B0 p w) (hT : EnvT w) (hs : s.size < 4611686018427387904) :
    Calls Tryz.prog 4 #[.string s, .int .i64 off] w fun e w' => e = .returned (.bool true) ∧ Below w.heap.size w w' := by
  have c1 := at_any s off w hs
  unfold spV at c1
  go_enter Tryz.func4, Tryz.ntmps4
  go_wp2_with (first
    | (go_at_call 10; refine c1.mono ?_; rintro e w1 ⟨rfl, hb1⟩; have c2 := rspot_any s off w1 hs; unfold spV at c2)
    | (go_at_call 13; refine c2.mono ?_; rintro e w2 ⟨rfl, hb2⟩; have hbw := hb1.trans (hb2.mono hb1.size))
    | (go_at_call 12; refine (alive_any B0 p w2 (hE.below (hbw.mono hE.size)) (hF.below hE (hbw.mono hE.size)) (hT.below hbw)).mono ?_; rintro e w3 ⟨rfl, hb3⟩))
  go_ret
  exact ⟨rfl, hbw.trans (hb3.mono hbw.size)⟩
end Go.Proofs.YtiggbnkmggbpiaaGreatDoor
