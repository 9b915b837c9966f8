import Derived.Test.YtmidaeljeoifdaaGreatDoorTca
namespace Go.Proofs.YtmidaeljeoifdaaGreatDoor
set_option maxRecDepth 100000
set_option maxHeartbeats 16000000
open Go.RowKit
set_option linter.unusedVariables false
set_option linter.unusedSimpArgs false
def tkrC (x : TkR) (s : Sl) : Array Value := #[I x.prio, I x.ring, .bool x.full, I x.limit, .int .u32 (x.mask : Int), I x.inner, .slice s.a s.n s.c, .int .u32 (x.auto : Int)]
def ctrC (x : CtR) : Array Value := #[.int .u32 (x.max : Int), .int .u32 (x.base : Int), .int .u32 (x.min : Int)]
def acrC (x : AcR) : Array Value := #[I x.kind, I x.task, .int .u32 (x.mask : Int)]
def alrC (x : AlR) : Array Value := #[I x.ctr, I x.ac.kind, I x.ac.task, .int .u32 (x.ac.mask : Int), .int .u32 (x.auto : Int), .int .u32 (x.time : Int), .int .u32 (x.cycle : Int)]
def isrC (x : IsR) (s : Sl) : Array Value := #[I x.cat, I x.prio, .slice s.a s.n s.c]
def msrC (x : MsR) : Array Value := #[I x.kind, I x.len, I x.frm, .int .u64 (x.init : Int), I x.queue, I x.ac.kind, I x.ac.task, .int .u32 (x.ac.mask : Int)]
theorem limitFits_any (x : TkR) (s : Sl) (w : World) : Calls Tryz.prog 54 #[.agg (tkrC x s)] w fun e w' => e = .returned (.bool (limitB x)) ∧ Below w.heap.size w w' := by
 have hb : ∀ o, Below w.heap.size w (w.alloc o) := fun o => below_alloc w o
 unfold tkrC at *
 have k1 := withinI_any x.limit 1 255
 unfold limitB
 go_enter Tryz.func54, Tryz.ntmps54
 by_cases h0 : x.mask = 0
 ·have h0' : ((x.mask : Int) != 0) = false := by simp [h0]
  have H0 : Hid (x.mask = 0) := h0
  clear h0
  go_wp2_with (go_at_call 46; refine (k1 _).mono ?_; rintro e w' ⟨rfl, rfl⟩)
  go_ret
  exact ⟨ret_bool' (by simp [H0.out]), hb _⟩
 ·have h0' : ((x.mask : Int) != 0) = true := by simpa using h0
  have H0 : Hid (¬ x.mask = 0) := h0
  clear h0
  go_wp2
  go_ret
  exact ⟨ret_bool' (by simp [H0.out]), hb _⟩
theorem autoFits_any (tb : Tb) (v : Ts) (a : Nat) (ha : a < 4294967296) (hm : 1 ≤ tb.modes ∧ tb.modes ≤ 8) (w : World) : Calls Tryz.prog 56 #[.agg (tbC tb v), .int .u32 (a : Int)] w fun e w' => e = .returned (.bool (autoB tb a)) ∧ Below w.heap.size w w' := by
 have hb : ∀ o, Below w.heap.size w (w.alloc o) := fun o => below_alloc w o
 unfold tbC at *
 unfold autoB
 generalize tb.modes = m at *
 have : m = 1 ∨ m = 2 ∨ m = 3 ∨ m = 4 ∨ m = 5 ∨ m = 6 ∨ m = 7 ∨ m = 8 := by omega
 go_enter Tryz.func56, Tryz.ntmps56
 rcases this with rfl | rfl | rfl | rfl | rfl | rfl | rfl | rfl
 all_goals
  go_wp2
  go_ret
  exact ⟨ret_bool' (by rw [Bool.eq_iff_iff]; simp; omega), hb _⟩
theorem areApart_any (x y : IsR) (s t : Sl) (w : World) : Calls Tryz.prog 68 #[.agg (isrC x s), .agg (isrC y t)] w fun e w' => e = .returned (.bool (apartB x y)) ∧ Below w.heap.size w w' := by
 have hb : ∀ o p, Below w.heap.size w ((w.alloc o).alloc p) := fun o p => ((Below.refl w.heap.size w).alloc (Nat.le_refl _) o).alloc (by simp) p
 unfold isrC at *
 unfold apartB
 generalize x.prio = a at *
 generalize y.prio = b at *
 generalize x.cat = c at *
 generalize y.cat = d at *
 obtain ⟨R, hR⟩ : ∃ R, R = ((a != b) && (c == d || (decide (c < d) == decide (b < a)))) := ⟨_, rfl⟩
 rw [← hR]
 have HR : Hid (R = ((a != b) && (c == d || (decide (c < d) == decide (b < a))))) := hR
 clear hR
 go_enter Tryz.func68, Tryz.ntmps68
 cases h1 : (a != b)
 ·go_wp2
  go_ret
  exact ⟨ret_bool' (by rw [HR.out, h1]; rfl), hb _ _⟩
 ·cases h2 : (c == d)
  ·go_wp2
   go_ret
   exact ⟨ret_bool' (by rw [HR.out, h1, h2]; simp), hb _ _⟩
  ·go_wp2
   go_ret
   exact ⟨ret_bool' (by rw [HR.out, h1, h2]; rfl), hb _ _⟩
theorem timesFit_any (x : AlR) (k : CtR) (w : World) : Calls Tryz.prog 64 #[.agg (alrC x), .agg (ctrC k)] w fun e w' => e = .returned (.bool (timesB x k)) ∧ Below w.heap.size w w' := by
 have hb : ∀ o p, Below w.heap.size w ((w.alloc o).alloc p) := fun o p => ((Below.refl w.heap.size w).alloc (Nat.le_refl _) o).alloc (by simp) p
 have k1 := withinU_any x.time 1 k.max
 have k2 := withinU_any x.cycle k.min k.max
 unfold alrC ctrC at *
 unfold timesB
 go_enter Tryz.func64, Tryz.ntmps64
 by_cases h0 : x.auto = 0
 ·have h0' : ((x.auto : Int) == 0) = true := by simp [h0]
  rw [if_pos h0]
  clear h0
  by_cases h1 : x.time = 0
  ·have h1' : ((x.time : Int) == 0) = true := by simp [h1]
   have H1 : Hid (x.time = 0) := h1
   clear h1
   go_wp2
   go_ret
   exact ⟨ret_bool' (by rw [Bool.eq_iff_iff]; simp [H1.out]), hb _ _⟩
  ·have h1' : ((x.time : Int) == 0) = false := by simpa using h1
   have H1 : Hid (¬ x.time = 0) := h1
   clear h1
   go_wp2
   go_ret
   exact ⟨ret_bool' (by rw [Bool.eq_iff_iff]; simp [H1.out]), hb _ _⟩
 ·have h0' : ((x.auto : Int) == 0) = false := by simpa using h0
  rw [if_neg h0]
  clear h0
  have e1 : (decide (1 ≤ x.time ∧ x.time ≤ k.max)) = (decide (1 ≤ x.time) && decide (x.time ≤ k.max)) := by rw [Bool.eq_iff_iff]; simp
  have e2 : (decide (k.min ≤ x.cycle ∧ x.cycle ≤ k.max)) = (decide (k.min ≤ x.cycle) && decide (x.cycle ≤ k.max)) := by rw [Bool.eq_iff_iff]; simp
  rw [e1, e2]
  clear e1 e2
  generalize (decide (1 ≤ x.time) && decide (x.time ≤ k.max)) = b1 at *
  generalize (decide (k.min ≤ x.cycle) && decide (x.cycle ≤ k.max)) = b2 at *
  by_cases h2 : x.cycle = 0
  ·have h2' : ((x.cycle : Int) == 0) = true := by simp [h2]
   have H2 : Hid (x.cycle = 0) := h2
   clear h2
   cases b1
   all_goals
    go_wp2_with (first | (go_at_call 59; refine (k1 _).mono ?_; clear k1; rintro e w' ⟨rfl, rfl⟩) | (go_at_call 59; refine (k2 _).mono ?_; clear k2; rintro e w' ⟨rfl, rfl⟩))
    go_ret
    exact ⟨ret_bool' (by simp [H2.out]), hb _ _⟩
  ·have h2' : ((x.cycle : Int) == 0) = false := by simpa using h2
   have H2 : Hid (¬ x.cycle = 0) := h2
   clear h2
   cases b1
   all_goals
    go_wp2_with (first | (go_at_call 59; refine (k1 _).mono ?_; clear k1; rintro e w' ⟨rfl, rfl⟩) | (go_at_call 59; refine (k2 _).mono ?_; clear k2; rintro e w' ⟨rfl, rfl⟩))
    go_ret
    exact ⟨ret_bool' (by simp [H2.out]), hb _ _⟩
end Go.Proofs.YtmidaeljeoifdaaGreatDoor
