import Derived.Test.YtlbgppijeoonjaaGreatDoorTpX
import Derived.Test.YtlbgppijeoonjaaGreatDoorSqa
namespace Go.Proofs.YtlbgppijeoonjaaGreatDoor
open Go.RowKit
set_option linter.unusedVariables false

/-! ### What heads() asks of two texts, reckoned -/
abbrev hd1 : List UInt8 := [79, 73, 76, 95, 86, 69, 82, 83, 73, 79, 78, 32, 61, 32, 34, 50, 46, 53, 34, 59, 32, 67, 80, 85, 32, 99, 32, 123, 32, 84, 65, 83, 75, 32, 84, 32, 123, 32, 80, 82, 73, 79, 82, 73, 84, 89, 32, 61, 32, 49, 59, 32, 65, 32, 61, 32, 66, 32, 123, 32, 67, 32, 61, 32, 48, 120, 50, 32, 58, 32, 34, 110, 34, 59, 32, 125, 59, 32, 125, 59, 32, 125, 59]
abbrev hd2 : List UInt8 := [79, 73, 76, 95, 86, 69, 82, 83, 73, 79, 78, 32, 61, 32, 34, 50, 46, 53, 34, 59, 32, 67, 80, 85, 32, 99, 32, 123, 32, 84, 65, 83, 75, 32, 84, 32, 123, 32, 80, 82, 73, 79, 82, 73, 84, 89, 32, 49, 59, 32, 125, 59, 32, 125, 59]
def hdC : At := .mk [67] 60 1 61 ⟨2, [], 2, true⟩ false [] true [110]
def hdA : At := .mk [65] 52 1 53 ⟨1, [66], 0, false⟩ true [hdC] false []
def hdP : At := .mk [80, 82, 73, 79, 82, 73, 84, 89] 38 1 39 ⟨2, [], 1, false⟩ false [] false []
def hdO : Ob := ⟨[84, 65, 83, 75], [84], 29, 1, 30, [hdP, hdA], false, []⟩
def hdT : Tr := ⟨[50, 46, 53], [99], [hdO], false, []⟩
theorem scanA_q (t : List UInt8) (h : ¬ 262144 < t.length) : scanA t = scanQ t (t.length + 1) 0 := by
  unfold scanA
  rw [if_neg h, ← scanQ_eq]
theorem hd_parse1 : parseL hd1 = .inl hdT := by
  unfold parseL
  rw [scanA_q hd1 (by decide)]
  kernel_rfl
theorem hd_parse2 : parseL hd2 = .inr (30, 47, 1, 48) := by
  unfold parseL
  rw [scanA_q hd2 (by decide)]
  kernel_rfl
end Go.Proofs.YtlbgppijeoonjaaGreatDoor
