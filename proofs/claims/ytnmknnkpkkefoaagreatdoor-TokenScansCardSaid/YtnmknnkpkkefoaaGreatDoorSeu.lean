import Derived.Test.YtnmknnkpkkefoaaGreatDoorSca
namespace Go.Proofs.YtnmknnkpkkefoaaGreatDoor
open Go.RowKit
set_option linter.unusedVariables false

theorem same_bytes (l : List UInt8) (s : ByteArray) (h : l = s.data.toList) : (⟨l.toArray⟩ : ByteArray) = s := by
  subst h; cases s; simp
def zero7 : Array Value := #[.int .i64 0, .int .i64 0, .int .i64 0, .int .i64 0, .string ⟨#[]⟩, .int .u32 0, .bool false]
theorem heap_lt {w : World} {b : Nat} {o : Obj} (h : w.heap[b]? = some o) : b < w.heap.size := by
  rcases Nat.lt_or_ge b w.heap.size with h' | h'
  · exact h'
  · rw [Array.getElem?_eq_none h'] at h; cases h
/-- The result's variable can be written. -/
structure VarF (w : World) (b : Nat) : Prop where
  y0 : w.cell? ⟨b, 0, none⟩ = some (.int .i64 0)
  y1 : w.cell? ⟨b, 1, none⟩ = some (.int .i64 0)
  y2 : w.cell? ⟨b, 2, none⟩ = some (.int .i64 0)
  y3 : w.cell? ⟨b, 3, none⟩ = some (.int .i64 0)
  y4 : w.cell? ⟨b, 4, none⟩ = some (.string ⟨#[]⟩)
  y5 : w.cell? ⟨b, 5, none⟩ = some (.int .u32 0)
  y6 : w.cell? ⟨b, 6, none⟩ = some (.bool false)
  fz : ∀ i, w.frozen? ⟨b, i, none⟩ = false
theorem varF {w : World} {b : Nat} (h : w.heap[b]? = some (.cells zero7 34 (0, 0))) : VarF w b := by
  have a1 := fun i => cell_of_row w b i _ _ (0, 0) h
  exact ⟨a1 0, a1 1, a1 2, a1 3, a1 4, a1 5, a1 6, fun i => frozen_of_row w b i _ _ h⟩
end Go.Proofs.YtnmknnkpkkefoaaGreatDoor
