import Derived.Test.YtiggbnkmggbpiaaGreatDoorAlk
import Derived.Test.YtiggbnkmggbpiaaGreatDoorLsi
namespace Go.Proofs.YtiggbnkmggbpiaaGreatDoor
open Go.RowKit
set_option linter.unusedVariables false

set_option maxHeartbeats 2000000 in
set_option maxRecDepth 100000 in
theorem between_any (k : Nat) (hk : k < 256) (w : World) : Calls Tryz.prog 16 #[.int .u8 (k : Int)] w fun e w' => e = .returned (.string ⟨(btw k).toArray⟩) ∧ Below w.heap.size w w' := by
  have hd : (k : Int) % 8 = ((k % 8 : Nat) : Int) := by omega
  have h8 : k % 8 < 8 := by omega
  obtain ⟨r, hr⟩ : ∃ r, r = btw k := ⟨_, rfl⟩
  rw [← hr]
  have HR : Hid (r = btw k) := hr
  clear hr
  have hc : k % 8 = 0 ∨ k % 8 = 1 ∨ k % 8 = 2 ∨ k % 8 = 3 ∨ k % 8 = 4 ∨ k % 8 = 5 ∨ k % 8 = 6 ∨ k % 8 = 7 := by omega
  unfold btw at HR
  rcases hc with h | h | h | h | h | h | h | h
  all_goals
    rw [h] at hd HR
    have hd' := hd
    clear h h8 hd
    go_enter Tryz.func16, Tryz.ntmps16
    go_wp2
    go_ret
    exact ⟨by rw [HR.out]; rfl, (Below.refl _ _).alloc (Nat.le_refl _) _⟩
end Go.Proofs.YtiggbnkmggbpiaaGreatDoor
