import Derived.Test.YtidhjajobacnaaaGreatDoorKba
namespace Go.Proofs.YtidhjajobacnaaaGreatDoor
open Go.RowKit
set_option linter.unusedVariables false

theorem ret_int {k : IntKind} {a b : Int} (h : a = b) : Ending.returned (.int k a) = .returned (.int k b) := by rw [h]
theorem ret_bool {a b : Bool} (h : a = b) : Ending.returned (.bool a) = .returned (.bool b) := by rw [h]
/-! ### Small words -/
def inR (v a b : Int) : Bool := decide (a ≤ v) && decide (v ≤ b)
set_option maxHeartbeats 400000 in
theorem within_int (v a b : Int) (w : World) : Calls Tryz.prog 57 #[I v, I a, I b] w fun e w' => e = .returned (.bool (inR v a b)) ∧ w' = w := by
  unfold inR
  by_cases h1 : a ≤ v <;> by_cases h2 : v ≤ b <;> (go_enter Tryz.func57, Tryz.ntmps57; go_wp2; go_ret; exact ⟨ret_bool (by simp [h1, h2]), rfl⟩)
set_option maxHeartbeats 400000 in
theorem within_rk (v a b : Int) (w : World) : Calls Tryz.prog 111 #[I v, I a, I b] w fun e w' => e = .returned (.bool (inR v a b)) ∧ w' = w := by
  unfold inR
  by_cases h1 : a ≤ v <;> by_cases h2 : v ≤ b <;> (go_enter Tryz.func111, Tryz.ntmps111; go_wp2; go_ret; exact ⟨ret_bool (by simp [h1, h2]), rfl⟩)
set_option maxHeartbeats 400000 in
theorem within_ak (v a b : Int) (w : World) : Calls Tryz.prog 129 #[I v, I a, I b] w fun e w' => e = .returned (.bool (inR v a b)) ∧ w' = w := by
  unfold inR
  by_cases h1 : a ≤ v <;> by_cases h2 : v ≤ b <;> (go_enter Tryz.func129, Tryz.ntmps129; go_wp2; go_ret; exact ⟨ret_bool (by simp [h1, h2]), rfl⟩)
set_option maxHeartbeats 400000 in
theorem within_u32 (v a b : Int) (w : World) : Calls Tryz.prog 114 #[.int .u32 v, .int .u32 a, .int .u32 b] w fun e w' => e = .returned (.bool (inR v a b)) ∧ w' = w := by
  unfold inR
  by_cases h1 : a ≤ v <;> by_cases h2 : v ≤ b <;> (go_enter Tryz.func114, Tryz.ntmps114; go_wp2; go_ret; exact ⟨ret_bool (by simp [h1, h2]), rfl⟩)
set_option maxHeartbeats 400000 in
theorem within_u8 (v a b : Int) (w : World) : Calls Tryz.prog 128 #[.int .u8 v, .int .u8 a, .int .u8 b] w fun e w' => e = .returned (.bool (inR v a b)) ∧ w' = w := by
  unfold inR
  by_cases h1 : a ≤ v <;> by_cases h2 : v ≤ b <;> (go_enter Tryz.func128, Tryz.ntmps128; go_wp2; go_ret; exact ⟨ret_bool (by simp [h1, h2]), rfl⟩)
def isId (v n : Int) : Bool := decide (0 ≤ v) && decide (v < n)
set_option maxHeartbeats 400000 in
theorem isID_any (v n : Int) (w : World) : Calls Tryz.prog 19 #[I v, I n] w fun e w' => e = .returned (.bool (isId v n)) ∧ w' = w := by
  unfold isId
  by_cases h1 : 0 ≤ v <;> by_cases h2 : v < n <;> (go_enter Tryz.func19, Tryz.ntmps19; go_wp2; go_ret; exact ⟨ret_bool (by simp [h1, h2]), rfl⟩)
def isLt (c : UInt8) : Bool := inR c.toNat 65 90 || inR c.toNat 97 122 || ((c.toNat : Int) == 95)
def isDg (c : UInt8) : Bool := inR c.toNat 48 57
set_option maxHeartbeats 400000 in
theorem letter_any (c : UInt8) (w : World) : Calls Tryz.prog 107 #[.int .u8 c.toNat] w fun e w' => e = .returned (.bool (isLt c)) ∧ w' = w := by
  have c1 := within_u8 c.toNat 65 90
  have c2 := within_u8 c.toNat 97 122
  unfold isLt
  generalize inR c.toNat 65 90 = a at *
  generalize inR c.toNat 97 122 = b at *
  cases a <;> cases b <;> (go_enter Tryz.func107, Tryz.ntmps107; go_wp2_with (first | (go_at_call 128; refine (c1 _).mono ?_; clear c1; rintro e w' ⟨rfl, rfl⟩) | (go_at_call 128; refine (c2 _).mono ?_; rintro e w' ⟨rfl, rfl⟩)); go_ret; exact ⟨ret_bool (by simp), rfl⟩)
set_option maxHeartbeats 400000 in
theorem digit_any (c : UInt8) (w : World) : Calls Tryz.prog 108 #[.int .u8 c.toNat] w fun e w' => e = .returned (.bool (isDg c)) ∧ w' = w := by
  have c1 := within_u8 c.toNat 48 57
  unfold isDg
  generalize inR c.toNat 48 57 = a at *
  go_enter Tryz.func108, Tryz.ntmps108
  go_wp2_with (first | (go_at_call 128; refine (c1 _).mono ?_; rintro e w' ⟨rfl, rfl⟩))
  go_ret
  exact ⟨rfl, rfl⟩
theorem index_at (s : ByteArray) (k : Nat) (z : Int) (w : World) (h : k < s.size) (hz : z = k) : (Instr.index 9 (.string s) (.int .i64 z)).run Tryz.prog w = .ok (.int .u8 (s[k].toNat : Int)) w := by
  subst hz
  have h1 : (0 : Int) ≤ k ∧ (k : Int) < s.size := by omega
  simp [go_sem, h1]
/-- A name: a letter, and then letters and digits, at most 63. -/
def isNm (l : List UInt8) : Bool := match l with
  | [] => false
  | c :: r => decide (r.length ≤ 62) && isLt c && r.all (fun d => isLt d || isDg d)
theorem index_l (l : List UInt8) (k : Nat) (c : UInt8) (h : l[k]? = some c) (w : World) : (Instr.index 9 (.string ⟨l.toArray⟩) (.int .i64 (k : Int))).run Tryz.prog w = .ok (.int .u8 (c.toNat : Int)) w := by
  obtain ⟨hk, e⟩ := List.getElem?_eq_some_iff.1 h
  have hs : k < (⟨l.toArray⟩ : ByteArray).size := by simpa [ByteArray.size] using hk
  rw [index_at ⟨l.toArray⟩ k _ w hs rfl]
  have : (⟨l.toArray⟩ : ByteArray)[k] = c := by rw [← e]; rfl
  rw [this]
theorem size_l (l : List UInt8) : (⟨l.toArray⟩ : ByteArray).size = l.length := by simp [ByteArray.size]
end Go.Proofs.YtidhjajobacnaaaGreatDoor
