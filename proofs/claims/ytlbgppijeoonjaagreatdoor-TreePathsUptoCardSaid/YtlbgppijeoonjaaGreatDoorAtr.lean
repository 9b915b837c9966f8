import Derived.Test.YtlbgppijeoonjaaGreatDoorScaX
namespace Go.Proofs.YtlbgppijeoonjaaGreatDoor
open Go.RowKit
set_option linter.unusedVariables false

/-- The place asked for, within the text. -/
def inN (s : ByteArray) (off : Int) : Nat := if off < 0 then 0 else if (s.size : Int) < off then s.size else off.toNat
theorem inN_le (s : ByteArray) (off : Int) : inN s off ≤ s.size := by unfold inN; split; omega; split <;> omega
theorem pre_list (s : ByteArray) (k : Nat) (hk : k ≤ s.size) : (s.extract 0 k).data.toList = s.data.toList.take k ∧ (s.extract 0 k).size = k := by
  have h := Lib.extract_data s 0 k
  refine ⟨by rw [h]; simp, ?_⟩
  have := congrArg List.length h
  rw [len_all] at this
  rw [this]
  simp
  omega
theorem col_step (t : List UInt8) (k : Nat) : colN t (k + 1) = if t[k]? = some 10 then 1 else colN t k + 1 := by
  unfold colN
  rw [begN]
  have := begN_le t k
  split <;> omega
structure Sp3 (w : World) (b : Nat) (v0 v1 v2 : Int) : Prop where
  hheap : w.heap[b]? = some (.cells #[.int .i64 v0, .int .i64 v1, .int .i64 v2] 27 (0, 0))
theorem Sp3.c0 {w : World} {b : Nat} {v0 v1 v2 : Int} (h : Sp3 w b v0 v1 v2) : w.cell? ⟨b, 0, none⟩ = some (.int .i64 v0) := by rw [cell_of_row w b 0 _ _ (0, 0) h.hheap]; rfl
theorem Sp3.c1 {w : World} {b : Nat} {v0 v1 v2 : Int} (h : Sp3 w b v0 v1 v2) : w.cell? ⟨b, 1, none⟩ = some (.int .i64 v1) := by rw [cell_of_row w b 1 _ _ (0, 0) h.hheap]; rfl
theorem Sp3.c2 {w : World} {b : Nat} {v0 v1 v2 : Int} (h : Sp3 w b v0 v1 v2) : w.cell? ⟨b, 2, none⟩ = some (.int .i64 v2) := by rw [cell_of_row w b 2 _ _ (0, 0) h.hheap]; rfl
theorem Sp3.fz {w : World} {b : Nat} {v0 v1 v2 : Int} (h : Sp3 w b v0 v1 v2) (i : Nat) : w.frozen? ⟨b, i, none⟩ = false := frozen_of_row w b i _ _ h.hheap
theorem Sp3.set1 {w : World} {b : Nat} {v0 v1 v2 : Int} (h : Sp3 w b v0 v1 v2) (n : Int) : Sp3 (w.setCell ⟨b, 1, none⟩ (.int .i64 n)) b v0 n v2 := ⟨heap_setCell_same _ b 1 _ _ _ h.hheap⟩
theorem Sp3.set2 {w : World} {b : Nat} {v0 v1 v2 : Int} (h : Sp3 w b v0 v1 v2) (n : Int) : Sp3 (w.setCell ⟨b, 2, none⟩ (.int .i64 n)) b v0 v1 n := ⟨heap_setCell_same _ b 2 _ _ _ h.hheap⟩
theorem below_set3 {w w' : World} (h : Below w.heap.size w w') (b i : Nat) (v : Value) (hb : w.heap.size ≤ b) : Below w.heap.size w (w'.setCell ⟨b, i, none⟩ v) :=
  h.trans (below_of_grown (grown_set w' b i v) hb h.size)
theorem _root_.Go.RowKit.Below.set3 {w w' : World} (h : Below w.heap.size w w') (b i : Nat) (v : Value) (hb : w.heap.size ≤ b) : Below w.heap.size w (w'.setCell ⟨b, i, none⟩ v) := below_set3 h b i v hb
theorem heap_set_ne (w : World) (b i g : Nat) (v : Value) (h : g ≠ b) : (w.setCell ⟨b, i, none⟩ v).heap[g]? = w.heap[g]? := heap_setCell_other w ⟨b, i, none⟩ g _ (fun e => h e)
theorem heap2_0' (w : World) (a b : Obj) : ((w.alloc a).alloc b).heap[w.heap.size]? = some a := by
  show ((w.heap.push a).push b)[w.heap.size]? = some a
  rw [push_lt _ _ _ (by simp), push_at]
theorem heap2_1' (w : World) (a b : Obj) : ((w.alloc a).alloc b).heap[w.heap.size + 1]? = some b := by
  show ((w.heap.push a).push b)[w.heap.size + 1]? = some b
  have := push_at (w.heap.push a) b
  rwa [Array.size_push] at this
theorem res_spot {fn : Func} {n : Nat} (hf : fn.results = #[.cell n 27]) (tmps : Array Value) (b : Nat) (w : World) (v0 v1 v2 : Value)
    (h2 : tmps[n]? = some (.pointer (some ⟨b, 0, none⟩))) (hk : w.heap[b]? = some (.cells #[v0, v1, v2] 27 (0, 0))) :
    (results fn tmps).run Tryz.prog w = .ok (.agg #[v0, v1, v2]) w := by
  have a1 := fun i => cell_of_row w b i _ _ (0, 0) hk
  have z0 := a1 0; have z1 := a1 1; have z2 := a1 2
  simp at z0 z1 z2
  simp [results, hf, go_sem, h2, z0, z1, z2]
theorem set3_at (w : World) (b : Nat) (t : TypeId) (o0 o1 o2 v0 v1 v2 : Value) (k : w.heap[b]? = some (.cells #[o0, o1, o2] t (0, 0))) :
    (((w.setCell ⟨b, 0, none⟩ v0).setCell ⟨b, 1, none⟩ v1).setCell ⟨b, 2, none⟩ v2).heap[b]? = some (.cells #[v0, v1, v2] t (0, 0)) := by
  have h0 : (w.setCell ⟨b, 0, none⟩ v0).heap[b]? = some (.cells #[v0, o1, o2] t (0, 0)) := heap_setCell_same _ b 0 _ t _ k
  generalize w.setCell ⟨b, 0, none⟩ v0 = w0 at *
  have h1 : (w0.setCell ⟨b, 1, none⟩ v1).heap[b]? = some (.cells #[v0, v1, o2] t (0, 0)) := heap_setCell_same _ b 1 _ t _ h0
  generalize w0.setCell ⟨b, 1, none⟩ v1 = w1 at *
  exact heap_setCell_same _ b 2 _ t _ h1
end Go.Proofs.YtlbgppijeoonjaaGreatDoor
