import Derived.Test.YtmidaeljeoifdaaGreatDoorTgx
import Derived.Maps.AppendAt
namespace Go.Proofs.YtmidaeljeoifdaaGreatDoor
open Go.RowKit Go.Shelf Go.Sort Go.Maps
set_option linter.unusedVariables false
set_option linter.unusedSimpArgs false
theorem iinfo9 : (Tryz.prog.info? 3).map (fun i => (i.zero, i.size, i.bytes)) = some (some (I 0), 1, 8) := by kernel_rfl
theorem Two9.symm {B E k : Nat} {w : World} {u1 u2 : Value} {n m : Nat} {xs ys : List Value} (h : Two9 B E k w u1 n xs u2 m ys) : Two9 B E k w u2 m ys u1 n xs := ⟨h.o2, h.o1, fun g e e' => h.ap g e' e⟩
theorem grown_blk9 {a b : World} {r : Option Nat} (h : a.grownBy b r) {i : Nat} (hi : i < a.heap.size) (hr : some i ≠ r) : b.heap[i]? = a.heap[i]? := by
 obtain ⟨_, _, _, _, h5⟩ := h
 exact h5 i hi hr
theorem take_map9 {α β : Type} (f : α → β) {l : List α} {j : Nat} {x : α} (h : l[j]? = some x) : (l.take (j + 1)).map f = (l.take j).map f ++ [f x] := by
 rw [List.take_add_one, h, Option.toList_some, List.map_append]; rfl
theorem rows_ints9 {w : World} {base n : Nat} {s : Sl} {l : List Int} (hn : n = l.length) (ho : w.ownsRow base 3 1 (.slice s.a s.n s.c) n (l.map fun x => I x)) : RowsAt w 1 intP s l := by
 subst hn
 refine RwX.rows (P := intP) ho ⟨by simp, fun j x hj i hi => ⟨I x, ?_, rfl⟩⟩
 obtain rfl : i = 0 := by omega
 rw [Nat.mul_one, Nat.add_zero, List.getElem?_map, hj]
 rfl
end Go.Proofs.YtmidaeljeoifdaaGreatDoor
