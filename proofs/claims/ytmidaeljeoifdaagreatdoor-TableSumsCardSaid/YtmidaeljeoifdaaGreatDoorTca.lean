import Derived.Test.YtmidaeljeoifdaaGreatDoorTbm
namespace Go.Proofs.YtmidaeljeoifdaaGreatDoor
set_option maxRecDepth 100000
open Go.RowKit
set_option linter.unusedVariables false
set_option linter.unusedSimpArgs false
theorem ret_bool' {a b : Bool} (h : a = b) : Ending.returned (.bool a) = Ending.returned (.bool b) := by rw [h]
theorem withinI_any (v lo hi : Int) (w : World) : Calls Tryz.prog 46 #[I v, I lo, I hi] w fun e w' => e = .returned (.bool (inI v lo hi)) ∧ w' = w := by
 unfold inI
 go_enter Tryz.func46, Tryz.ntmps46
 by_cases h1 : lo ≤ v
 ·by_cases h2 : v ≤ hi
  ·go_wp2
   go_ret
   exact ⟨ret_bool' (by first | (rw [Bool.eq_iff_iff]; simp; omega) | (simp; omega) | (simp_all; done)), rfl⟩
  ·have h2' : hi < v := by omega
   go_wp2
   go_ret
   exact ⟨ret_bool' (by first | (rw [Bool.eq_iff_iff]; simp; omega) | (simp; omega) | (simp_all; done)), rfl⟩
 ·have h1' : v < lo := by omega
  go_wp2
  go_ret
  exact ⟨ret_bool' (by first | (rw [Bool.eq_iff_iff]; simp; omega) | (simp; omega) | (simp_all; done)), rfl⟩
theorem withinK_any (v lo hi : Int) (w : World) : Calls Tryz.prog 108 #[I v, I lo, I hi] w fun e w' => e = .returned (.bool (inI v lo hi)) ∧ w' = w := by
 unfold inI
 go_enter Tryz.func108, Tryz.ntmps108
 by_cases h1 : lo ≤ v
 ·by_cases h2 : v ≤ hi
  ·go_wp2
   go_ret
   exact ⟨ret_bool' (by first | (rw [Bool.eq_iff_iff]; simp; omega) | (simp; omega) | (simp_all; done)), rfl⟩
  ·have h2' : hi < v := by omega
   go_wp2
   go_ret
   exact ⟨ret_bool' (by first | (rw [Bool.eq_iff_iff]; simp; omega) | (simp; omega) | (simp_all; done)), rfl⟩
 ·have h1' : v < lo := by omega
  go_wp2
  go_ret
  exact ⟨ret_bool' (by first | (rw [Bool.eq_iff_iff]; simp; omega) | (simp; omega) | (simp_all; done)), rfl⟩
theorem withinU_any (v lo hi : Nat) (w : World) : Calls Tryz.prog 59 #[.int .u32 (v : Int), .int .u32 (lo : Int), .int .u32 (hi : Int)] w fun e w' => e = .returned (.bool (decide (lo ≤ v) && decide (v ≤ hi))) ∧ w' = w := by
 go_enter Tryz.func59, Tryz.ntmps59
 by_cases h1 : lo ≤ v
 ·have g1 : (lo : Int) ≤ v := by omega
  by_cases h2 : v ≤ hi
  ·have g2 : (v : Int) ≤ hi := by omega
   go_wp2
   go_ret
   exact ⟨ret_bool' (by first | (rw [Bool.eq_iff_iff]; simp; omega) | (simp; omega) | (simp_all; done)), rfl⟩
  ·have g2 : ¬ (v : Int) ≤ hi := by omega
   go_wp2
   go_ret
   exact ⟨ret_bool' (by first | (rw [Bool.eq_iff_iff]; simp; omega) | (simp; omega) | (simp_all; done)), rfl⟩
 ·have g1 : ¬ (lo : Int) ≤ v := by omega
  go_wp2
  go_ret
  exact ⟨ret_bool' (by first | (rw [Bool.eq_iff_iff]; simp; omega) | (simp; omega) | (simp_all; done)), rfl⟩
theorem isID_rings (v : Int) (s : Sl) (w : World) : Calls Tryz.prog 53 #[I v, .slice s.a s.n s.c] w fun e w' => e = .returned (.bool (idB v s.n)) ∧ w' = w := by
 unfold idB
 go_enter Tryz.func53, Tryz.ntmps53
 by_cases h1 : 0 ≤ v
 ·by_cases h2 : v < (s.n : Int)
  ·go_wp2
   go_ret
   exact ⟨ret_bool' (by first | (rw [Bool.eq_iff_iff]; simp; omega) | (simp; omega) | (simp_all; done)), rfl⟩
  ·go_wp2
   go_ret
   exact ⟨ret_bool' (by first | (rw [Bool.eq_iff_iff]; simp; omega) | (simp; omega) | (simp_all; done)), rfl⟩
 ·have h1' : v < 0 := by omega
  go_wp2
  go_ret
  exact ⟨ret_bool' (by first | (rw [Bool.eq_iff_iff]; simp; omega) | (simp; omega) | (simp_all; done)), rfl⟩
theorem isID_ctrs (v : Int) (s : Sl) (w : World) : Calls Tryz.prog 62 #[I v, .slice s.a s.n s.c] w fun e w' => e = .returned (.bool (idB v s.n)) ∧ w' = w := by
 unfold idB
 go_enter Tryz.func62, Tryz.ntmps62
 by_cases h1 : 0 ≤ v
 ·by_cases h2 : v < (s.n : Int)
  ·go_wp2
   go_ret
   exact ⟨ret_bool' (by first | (rw [Bool.eq_iff_iff]; simp; omega) | (simp; omega) | (simp_all; done)), rfl⟩
  ·go_wp2
   go_ret
   exact ⟨ret_bool' (by first | (rw [Bool.eq_iff_iff]; simp; omega) | (simp; omega) | (simp_all; done)), rfl⟩
 ·have h1' : v < 0 := by omega
  go_wp2
  go_ret
  exact ⟨ret_bool' (by first | (rw [Bool.eq_iff_iff]; simp; omega) | (simp; omega) | (simp_all; done)), rfl⟩
theorem isID_ress (v : Int) (s : Sl) (w : World) : Calls Tryz.prog 107 #[I v, .slice s.a s.n s.c] w fun e w' => e = .returned (.bool (idB v s.n)) ∧ w' = w := by
 unfold idB
 go_enter Tryz.func107, Tryz.ntmps107
 by_cases h1 : 0 ≤ v
 ·by_cases h2 : v < (s.n : Int)
  ·go_wp2
   go_ret
   exact ⟨ret_bool' (by first | (rw [Bool.eq_iff_iff]; simp; omega) | (simp; omega) | (simp_all; done)), rfl⟩
  ·go_wp2
   go_ret
   exact ⟨ret_bool' (by first | (rw [Bool.eq_iff_iff]; simp; omega) | (simp; omega) | (simp_all; done)), rfl⟩
 ·have h1' : v < 0 := by omega
  go_wp2
  go_ret
  exact ⟨ret_bool' (by first | (rw [Bool.eq_iff_iff]; simp; omega) | (simp; omega) | (simp_all; done)), rfl⟩
theorem isID_tasks (v : Int) (s : Sl) (w : World) : Calls Tryz.prog 109 #[I v, .slice s.a s.n s.c] w fun e w' => e = .returned (.bool (idB v s.n)) ∧ w' = w := by
 unfold idB
 go_enter Tryz.func109, Tryz.ntmps109
 by_cases h1 : 0 ≤ v
 ·by_cases h2 : v < (s.n : Int)
  ·go_wp2
   go_ret
   exact ⟨ret_bool' (by first | (rw [Bool.eq_iff_iff]; simp; omega) | (simp; omega) | (simp_all; done)), rfl⟩
  ·go_wp2
   go_ret
   exact ⟨ret_bool' (by first | (rw [Bool.eq_iff_iff]; simp; omega) | (simp; omega) | (simp_all; done)), rfl⟩
 ·have h1' : v < 0 := by omega
  go_wp2
  go_ret
  exact ⟨ret_bool' (by first | (rw [Bool.eq_iff_iff]; simp; omega) | (simp; omega) | (simp_all; done)), rfl⟩
theorem isID_msgs (v : Int) (s : Sl) (w : World) : Calls Tryz.prog 111 #[I v, .slice s.a s.n s.c] w fun e w' => e = .returned (.bool (idB v s.n)) ∧ w' = w := by
 unfold idB
 go_enter Tryz.func111, Tryz.ntmps111
 by_cases h1 : 0 ≤ v
 ·by_cases h2 : v < (s.n : Int)
  ·go_wp2
   go_ret
   exact ⟨ret_bool' (by first | (rw [Bool.eq_iff_iff]; simp; omega) | (simp; omega) | (simp_all; done)), rfl⟩
  ·go_wp2
   go_ret
   exact ⟨ret_bool' (by first | (rw [Bool.eq_iff_iff]; simp; omega) | (simp; omega) | (simp_all; done)), rfl⟩
 ·have h1' : v < 0 := by omega
  go_wp2
  go_ret
  exact ⟨ret_bool' (by first | (rw [Bool.eq_iff_iff]; simp; omega) | (simp; omega) | (simp_all; done)), rfl⟩
end Go.Proofs.YtmidaeljeoifdaaGreatDoor
