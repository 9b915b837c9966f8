import Derived.Test.YtmidaeljeoifdaaGreatDoorKba
namespace Go.Proofs.YtmidaeljeoifdaaGreatDoor
set_option maxHeartbeats 16000000
open Go.RowKit
set_option linter.unusedVariables false
theorem ret_int {k : IntKind} {a b : Int} (h : a = b) : Ending.returned (.int k a) = .returned (.int k b) := by rw [h]
theorem ret_bool {a b : Bool} (h : a = b) : Ending.returned (.bool a) = .returned (.bool b) := by rw [h]
def inR (v a b : Int) : Bool := decide (a ≤ v) && decide (v ≤ b)
theorem within_int (v a b : Int) (w : World) : Calls Tryz.prog 193 #[I v, I a, I b] w fun e w' => e = .returned (.bool (inR v a b)) ∧ w' = w := by
 unfold inR
 by_cases h1 : a ≤ v <;> by_cases h2 : v ≤ b <;> (go_enter Tryz.func193, Tryz.ntmps193; go_wp2; go_ret; exact ⟨ret_bool (by simp [h1, h2]), rfl⟩)
theorem within_rk (v a b : Int) (w : World) : Calls Tryz.prog 271 #[I v, I a, I b] w fun e w' => e = .returned (.bool (inR v a b)) ∧ w' = w := by
 unfold inR
 by_cases h1 : a ≤ v <;> by_cases h2 : v ≤ b <;> (go_enter Tryz.func271, Tryz.ntmps271; go_wp2; go_ret; exact ⟨ret_bool (by simp [h1, h2]), rfl⟩)
theorem within_ak (v a b : Int) (w : World) : Calls Tryz.prog 297 #[I v, I a, I b] w fun e w' => e = .returned (.bool (inR v a b)) ∧ w' = w := by
 unfold inR
 by_cases h1 : a ≤ v <;> by_cases h2 : v ≤ b <;> (go_enter Tryz.func297, Tryz.ntmps297; go_wp2; go_ret; exact ⟨ret_bool (by simp [h1, h2]), rfl⟩)
theorem within_u32 (v a b : Int) (w : World) : Calls Tryz.prog 277 #[.int .u32 v, .int .u32 a, .int .u32 b] w fun e w' => e = .returned (.bool (inR v a b)) ∧ w' = w := by
 unfold inR
 by_cases h1 : a ≤ v <;> by_cases h2 : v ≤ b <;> (go_enter Tryz.func277, Tryz.ntmps277; go_wp2; go_ret; exact ⟨ret_bool (by simp [h1, h2]), rfl⟩)
theorem within_u8 (v a b : Int) (w : World) : Calls Tryz.prog 291 #[.int .u8 v, .int .u8 a, .int .u8 b] w fun e w' => e = .returned (.bool (inR v a b)) ∧ w' = w := by
 unfold inR
 by_cases h1 : a ≤ v <;> by_cases h2 : v ≤ b <;> (go_enter Tryz.func291, Tryz.ntmps291; go_wp2; go_ret; exact ⟨ret_bool (by simp [h1, h2]), rfl⟩)
def isId (v n : Int) : Bool := decide (0 ≤ v) && decide (v < n)
theorem isID_any (v n : Int) (w : World) : Calls Tryz.prog 272 #[I v, I n] w fun e w' => e = .returned (.bool (isId v n)) ∧ w' = w := by
 unfold isId
 by_cases h1 : 0 ≤ v <;> by_cases h2 : v < n <;> (go_enter Tryz.func272, Tryz.ntmps272; go_wp2; go_ret; exact ⟨ret_bool (by simp [h1, h2]), rfl⟩)
def isLt (c : UInt8) : Bool := inR c.toNat 65 90 || inR c.toNat 97 122 || ((c.toNat : Int) == 95)
def isDg (c : UInt8) : Bool := inR c.toNat 48 57
theorem letter_any (c : UInt8) (w : World) : Calls Tryz.prog 257 #[.int .u8 c.toNat] w fun e w' => e = .returned (.bool (isLt c)) ∧ w' = w := by
 have c1 := within_u8 c.toNat 65 90
 have c2 := within_u8 c.toNat 97 122
 unfold isLt
 generalize inR c.toNat 65 90 = a at *
 generalize inR c.toNat 97 122 = b at *
 cases a <;> cases b <;> (go_enter Tryz.func257, Tryz.ntmps257; go_wp2_with (first | (go_at_call 291; refine (c1 _).mono ?_; clear c1; rintro e w' ⟨rfl, rfl⟩) | (go_at_call 291; refine (c2 _).mono ?_; rintro e w' ⟨rfl, rfl⟩)); go_ret; exact ⟨ret_bool (by simp), rfl⟩)
theorem digit_any (c : UInt8) (w : World) : Calls Tryz.prog 258 #[.int .u8 c.toNat] w fun e w' => e = .returned (.bool (isDg c)) ∧ w' = w := by
 have c1 := within_u8 c.toNat 48 57
 unfold isDg
 generalize inR c.toNat 48 57 = a at *
 go_enter Tryz.func258, Tryz.ntmps258
 go_wp2_with (first | (go_at_call 291; refine (c1 _).mono ?_; rintro e w' ⟨rfl, rfl⟩))
 go_ret
 exact ⟨rfl, rfl⟩
theorem index_at (s : ByteArray) (k : Nat) (z : Int) (w : World) (h : k < s.size) (hz : z = k) : (Instr.index 9 (.string s) (.int .i64 z)).run Tryz.prog w = .ok (.int .u8 (s[k].toNat : Int)) w := by
 subst hz
 have h1 : (0 : Int) ≤ k ∧ (k : Int) < s.size := by omega
 simp [go_sem, h1]
def isNm (l : List UInt8) : Bool := match l with
 | [] => false
 | c :: r => decide (r.length ≤ 62) && isLt c && r.all (fun d => isLt d || isDg d)
theorem size_l (l : List UInt8) : (⟨l.toArray⟩ : ByteArray).size = l.length := by simp [ByteArray.size]
end Go.Proofs.YtmidaeljeoifdaaGreatDoor
