import Derived.Test.YtmidaeljeoifdaaGreatDoorKop
import Derived.Test.YtmidaeljeoifdaaGreatDoorKvd
namespace Go.Proofs.YtmidaeljeoifdaaGreatDoor
open Go.RowKit Go.ChangeShapes Go.WideShapes
set_option linter.unusedVariables false
theorem array18 {α : Type} {l : Array α} (h : l.size = 18) : ∃ c0 c1 c2 c3 c4 c5 c6 c7 c8 c9 c10 c11 c12 c13 c14 c15 c16 c17, l = #[c0, c1, c2, c3, c4, c5, c6, c7, c8, c9, c10, c11, c12, c13, c14, c15, c16, c17] := by
 obtain ⟨l⟩ := l
 obtain ⟨c0, c1, c2, c3, c4, c5, c6, c7, c8, c9, c10, c11, c12, c13, c14, c15, c16, c17, e⟩ := list18 (l := l) (by simpa using h)
 exact ⟨c0, c1, c2, c3, c4, c5, c6, c7, c8, c9, c10, c11, c12, c13, c14, c15, c16, c17, by rw [e]⟩
theorem p_Cf : Tryz.prog.cellsOf 47 = 18 := by kernel_rfl
theorem b_t : Tryz.prog.bytesOf 58 = 136 := by kernel_rfl
theorem q_t : Tryz.prog.cellsOf 58 = 8 := by kernel_rfl
theorem b_r : Tryz.prog.bytesOf 106 = 32 := by kernel_rfl
theorem q_r : Tryz.prog.cellsOf 106 = 3 := by kernel_rfl
theorem b_e : Tryz.prog.bytesOf 109 = 24 := by kernel_rfl
theorem q_e : Tryz.prog.cellsOf 109 = 3 := by kernel_rfl
theorem b_k : Tryz.prog.bytesOf 111 = 32 := by kernel_rfl
theorem q_k : Tryz.prog.cellsOf 111 = 4 := by kernel_rfl
theorem b_a : Tryz.prog.bytesOf 66 = 96 := by kernel_rfl
theorem q_a : Tryz.prog.cellsOf 66 = 9 := by kernel_rfl
theorem b_i : Tryz.prog.bytesOf 88 = 80 := by kernel_rfl
theorem q_i : Tryz.prog.cellsOf 88 = 5 := by kernel_rfl
theorem b_s : Tryz.prog.bytesOf 114 = 96 := by kernel_rfl
theorem q_s : Tryz.prog.cellsOf 114 = 10 := by kernel_rfl
end Go.Proofs.YtmidaeljeoifdaaGreatDoor
