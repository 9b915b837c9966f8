import Derived.Test.YtiggbnkmggbpiaaGreatDoorBtw
namespace Go.Proofs.YtiggbnkmggbpiaaGreatDoor
open Go.RowKit
set_option linter.unusedVariables false

set_option maxHeartbeats 4000000 in
set_option maxRecDepth 100000 in
theorem silent_bad (B0 : Nat) (p : Nat → Addr) (s : ByteArray) (mk : Value) (cut : Int) (w : World) (hE : Env B0 p w) (hF : EnvF B0 p w) (hT : EnvT w) (hs : s.size < 4611686018427387904) (c a : Nat) (hx : scanA s.data.toList = .inr (c, a)) :
    Calls Tryz.prog 6 #[.string s, mk, .int .i64 cut] w fun e w' => e = .returned (.bool true) ∧ Below w.heap.size w w' := by
  have c1 := Scan_any B0 p s w hE hF hs
  rw [hx] at c1
  obtain ⟨h1, h2, h3, h4⟩ := scanA_bad hx
  have cal : ∀ W, Below w.heap.size w W → Calls Tryz.prog 12 #[] W fun e w' => e = .returned (.bool true) ∧ Below W.heap.size W w' := fun W hb => alive_any B0 p W (hE.below (hb.mono hE.size)) (hF.below hE (hb.mono hE.size)) (hT.below hb)
  go_enter Tryz.func6, Tryz.ntmps6
  go_wp2_with fail
  refine c1.mono ?_
  rintro e w1 ⟨rfl, hb1⟩
  have hc0 : ((c : Int) == 0) = false := by rw [beq_eq_false_iff_ne]; omega
  have hba : ∀ o, Below w.heap.size w (w1.alloc o) := fun o => hb1.alloc hb1.size o
  generalize lineN s.data.toList a = ln at *
  generalize colN s.data.toList a = cl at *
  clear c1 hx h4 h3
  go_wp2_with (first | (go_at_call 12; refine (cal _ (hba _)).mono ?_; rintro e w9 ⟨rfl, hb9⟩))
  go_ret
  exact ⟨rfl, (hba _).trans (hb9.mono (hba _).size)⟩
end Go.Proofs.YtiggbnkmggbpiaaGreatDoor
