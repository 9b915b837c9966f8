import Derived.Test.YtiggbnkmggbpiaaGreatDoorNxt
namespace Go.Proofs.YtiggbnkmggbpiaaGreatDoor
open Go.RowKit
set_option linter.unusedVariables false

def tkL (t : List UInt8) (x : Tk × Nat) : List Value := (tkC x.1 x.2 (lineN t x.2) (colN t x.2)).toList
def tksL (t : List UInt8) (ts : List (Tk × Nat)) : List Value := ts.flatMap (tkL t)
theorem tksL_snoc (t : List UInt8) (ts : List (Tk × Nat)) (x : Tk × Nat) : tksL t (ts ++ [x]) = tksL t ts ++ tkL t x := by simp [tksL]
theorem Tryz.info36 : (Tryz.prog.info? 36).map (fun i => (i.zero, i.size, i.bytes)) = some (some (.agg zero7), 7, 56) := by kernel_rfl
theorem own_grown {w w' : World} {base e size r n : Nat} {v : Value} {xs : List Value} (h : w.ownsRow base e size v n xs) (hg : w.grownBy w' (some r)) (hr : r < base) : w'.ownsRow base e size v n xs := by
  obtain ⟨hl, h0 | ⟨g, cap, cur, hv, hb, hh, rr⟩⟩ := h
  · exact ⟨hl, .inl h0⟩
  · exact ⟨hl, .inr ⟨g, cap, cur, hv, hb, (hg.block g (heap_lt hh) (fun e => by cases e; omega)).trans hh, rr⟩⟩
theorem cell_new7 (w : World) (vs : Array Value) (t : TypeId) : ∀ j u, vs.toList[j]? = some u → (w.alloc (.cells vs t)).cell? ((⟨w.heap.size, 0, none⟩ : Addr).add j) = some u := by
  intro j u hj
  rw [Lib.add_plain, Nat.zero_add, World.cell?_alloc_new]
  simpa using hj
theorem own_shape7 {w : World} {base : Nat} {v : Value} {n : Nat} {xs : List Value} (h : w.ownsRow base 36 7 v n xs) : ∃ a cap, v = .slice a n cap := by
  rcases h.2 with ⟨h1, h2⟩ | ⟨g, cap', cur, hv, _⟩
  · exact ⟨none, 0, by rw [h1, h2]⟩
  · exact ⟨_, _, hv⟩
end Go.Proofs.YtiggbnkmggbpiaaGreatDoor
