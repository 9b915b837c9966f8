import Derived.Test.YtphafnfmkhhamaaVop
namespace Go.Proofs.Ytphafnfmkhhamaa
open Go.RowKit
set_option linter.unusedVariables false
set_option linter.unusedSimpArgs false

/-! ### Bits -/
theorem and_bv (a b : Int) : andU a b = ((BitVec.ofInt 32 a &&& BitVec.ofInt 32 b).toNat : Int) := by
  show IntKind.u32.wrap ((BitVec.ofInt 32 a &&& BitVec.ofInt 32 b).toNat : Int) = _
  have := (BitVec.ofInt 32 a &&& BitVec.ofInt 32 b).isLt
  rw [IntKind.wrap_u32']
  omega
theorem an_bv (a b : Int) : anU a b = ((BitVec.ofInt 32 a &&& ~~~BitVec.ofInt 32 b).toNat : Int) := by
  show IntKind.u32.wrap ((BitVec.ofInt 32 a &&& ~~~BitVec.ofInt 32 b).toNat : Int) = _
  have := (BitVec.ofInt 32 a &&& ~~~BitVec.ofInt 32 b).isLt
  rw [IntKind.wrap_u32']
  omega
theorem ofInt_toNat (x : BitVec 32) : BitVec.ofInt 32 (x.toNat : Int) = x := by rw [BitVec.ofInt_natCast, BitVec.ofNat_toNat, BitVec.setWidth_eq]
theorem and_zero {a b : Int} : andU a b = 0 ↔ BitVec.ofInt 32 a &&& BitVec.ofInt 32 b = 0#32 := by
  rw [and_bv]
  constructor
  · intro h
    apply BitVec.eq_of_toNat_eq
    simp only [BitVec.toNat_ofNat, Nat.zero_mod]
    omega
  · intro h; rw [h]; rfl
theorem andU_comm (a b : Int) : andU a b = andU b a := by rw [and_bv, and_bv, BitVec.and_comm]
theorem and_an {a b : Int} (m : Int) (h : andU a b = 0) : andU (anU a m) b = 0 := by
  rw [and_zero] at h ⊢
  rw [an_bv, ofInt_toNat, BitVec.and_assoc, BitVec.and_comm (~~~ BitVec.ofInt 32 m), ← BitVec.and_assoc, h]
  simp
end Go.Proofs.Ytphafnfmkhhamaa
