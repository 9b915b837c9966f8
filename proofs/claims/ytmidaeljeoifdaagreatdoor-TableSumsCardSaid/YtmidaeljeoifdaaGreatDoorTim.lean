import Derived.Test.YtmidaeljeoifdaaGreatDoorTil
import Derived.Lib.SlicesCompact
namespace Go.Proofs.YtmidaeljeoifdaaGreatDoor
open Go.RowKit Go.Shelf Go.Sort Go.Maps
set_option linter.unusedVariables false
set_option linter.unusedSimpArgs false
theorem put_own9 (W : World) (g : Nat) (cur : Array Value) (cap q : Nat) (os : Array Obj) (l : List Int) (hg : W.heap[g]? = some (.cells cur 3 (0, 0))) (hs : cur.size = cap) (hl : l.length ≤ cap) :
  (∃ cur', (grow (putRow (Value.int .i64) (Sort.ahead W q) g 0 l.toArray) os).heap[g]? = some (.cells cur' 3 (0, 0)) ∧ cur'.size = cap ∧ cur'.toList.take l.length = l.map fun x => I x) ∧ W.grownBy (grow (putRow (Value.int .i64) (Sort.ahead W q) g 0 l.toArray) os) (some g) := by
 have hlt : g < W.heap.size := heap_lt hg
 have hz : (grow (putRow (Value.int .i64) (Sort.ahead W q) g 0 l.toArray) os).heap = (W.heap.modify g (onCells (putCells (Value.int .i64) 0 l.toArray))) ++ os := rfl
 refine ⟨⟨putCells (Value.int .i64) 0 l.toArray cur, ?_, ?_, ?_⟩, ⟨rfl, rfl, rfl, ?_, ?_⟩⟩
 ·rw [hz, Array.getElem?_append_left (by simpa using hlt), Array.getElem?_modify, if_pos rfl, hg]
  rfl
 ·simp [putCells, hs]
 ·apply List.ext_getElem?
  intro j
  by_cases hj : j < l.length
  ·rw [List.getElem?_take_of_lt hj, List.getElem?_map, List.getElem?_eq_getElem hj]
   simp only [putCells, Array.toList_mapIdx, List.getElem?_mapIdx]
   rw [List.getElem?_eq_getElem (by simpa using (by omega : j < cur.size))]
   simp [hj, I]
  ·rw [List.getElem?_eq_none (by simp; omega), List.getElem?_eq_none (by simp; omega)]
 ·rw [hz]; simp
 ·intro k hk hne
  rw [hz, Array.getElem?_append_left (by simpa using hk), Array.getElem?_modify, if_neg (fun e => hne (by rw [e]))]
theorem holds_own9 {W : World} {base g cap : Nat} {l : List Int} (h : IntsO9 W base l (.slice (some ⟨g, 0, none⟩) l.length cap)) : Holds (Value.int .i64) W g 0 l.toArray ∧ g < W.heap.size ∧ base ≤ g ∧ l.length ≤ cap ∧ cap ≤ maxLen ∧ ∃ cur, W.heap[g]? = some (.cells cur 3 (0, 0)) ∧ cur.size = cap := by
 obtain ⟨h1, h2 | ⟨g', cap', cur, hv, hb, hg, hn, hm, hs, ht⟩⟩ := h
 ·cases h2.1
 ·cases hv
  rw [Nat.mul_one] at hs ht
  refine ⟨fun j hj => ?_, heap_lt hg, hb, hn, hm, cur, hg, hs⟩
  have hj' : j < l.length := by simpa using hj
  have hc : cur[j]? = some (I l[j]) := by
   have : (cur.toList.take l.length)[j]? = (l.map fun x => I x)[j]? := by rw [ht]
   rw [List.getElem?_take_of_lt hj', List.getElem?_map, List.getElem?_eq_getElem hj'] at this
   rw [← Array.getElem?_toList]
   exact this
  rw [Nat.zero_add]
  refine ⟨?_, ?_⟩
  ·rw [cell_of_row _ _ j _ _ (0, 0) hg, hc]
   simp [hj', I]
  ·simp [World.frozen?, hg]
theorem comp_mem9 (d : List Int) (x : Int) : x ∈ Lib.compact d ↔ x ∈ d := by
 unfold Lib.compact Lib.compactUpTo
 rw [List.mem_map]
 constructor
 ·rintro ⟨j, hj, rfl⟩
  rw [List.mem_filter, List.mem_range] at hj
  rw [List.getElem!_toArray, getElem!_pos d j hj.1]
  exact List.getElem_mem _
 ·intro hx
  obtain ⟨j0, hj0⟩ := List.mem_iff_getElem?.1 hx
  suffices H : ∀ n j : Nat, j ≤ n → d[j]? = some x → ∃ k, k ∈ (List.range d.length).filter (Lib.keeps d.toArray) ∧ d.toArray[k]! = x from H j0 j0 (Nat.le_refl _) hj0
  intro n
  induction n with
  | zero =>
   intro j hj h
   obtain rfl : j = 0 := by omega
   have hl := (List.getElem?_eq_some_iff.1 h)
   refine ⟨0, ?_, ?_⟩
   ·rw [List.mem_filter, List.mem_range]; exact ⟨hl.1, by simp [Lib.keeps]⟩
   ·rw [List.getElem!_toArray, getElem!_pos d 0 hl.1]; exact hl.2
  | succ n ih =>
   intro j hj h
   have hl := (List.getElem?_eq_some_iff.1 h)
   by_cases hk : Lib.keeps d.toArray j = true
   ·refine ⟨j, ?_, ?_⟩
    ·rw [List.mem_filter, List.mem_range]; exact ⟨hl.1, hk⟩
    ·rw [List.getElem!_toArray, getElem!_pos d j hl.1]; exact hl.2
   ·have hk' : j ≠ 0 ∧ d.toArray[j]! = d.toArray[j - 1]! := by
     simp [Lib.keeps] at hk
     simpa using hk
    refine ih (j - 1) (by omega) ?_
    have h2 := hk'.2
    have hjl := hl.1
    rw [List.getElem!_toArray, List.getElem!_toArray, getElem!_pos d j hl.1, getElem!_pos d (j - 1) (by omega)] at h2
    rw [List.getElem?_eq_getElem (by omega), ← h2]
    exact congrArg some hl.2
theorem comp_fall9 (d : List Int) (hd : d.Pairwise fun x y => y ≤ x) : (Lib.compact d).Pairwise fun x y => y < x := by
 unfold Lib.compact Lib.compactUpTo
 rw [List.pairwise_map, List.pairwise_filter]
 refine List.pairwise_lt_range.imp_of_mem (fun {i j} hi hj hlt ki kj => ?_)
 rw [List.mem_range] at hi hj
 have hk' : d.toArray[j]! ≠ d.toArray[j - 1]! := by
  have : ¬ j = 0 := by omega
  simpa [Lib.keeps, this] using kj
 rw [List.getElem!_toArray, List.getElem!_toArray, getElem!_pos d j hj, getElem!_pos d (j - 1) (by omega)] at hk'
 rw [List.getElem!_toArray, List.getElem!_toArray, getElem!_pos d j hj, getElem!_pos d i hi]
 have h1 := List.pairwise_iff_getElem.1 hd (j - 1) j (by omega) hj (by omega)
 rcases Nat.lt_or_ge i (j - 1) with h | h
 ·have h2 := List.pairwise_iff_getElem.1 hd i (j - 1) hi (by omega) h
  omega
 ·obtain rfl : i = j - 1 := by omega
  omega
theorem comp_len9 (d : List Int) : (Lib.compact d).length ≤ d.length := by
 unfold Lib.compact Lib.compactUpTo
 rw [List.length_map]
 exact Nat.le_trans (List.length_filter_le _ _) (by simp)
def prL9 (l : List Tk) : List Int := Lib.compact ((l.map fun x => x.prio).mergeSort fun x y => decide (y ≤ x))
theorem prL_mem (l : List Tk) (p : Int) : p ∈ prL9 l ↔ ∃ x ∈ l, x.prio = p := by
 unfold prL9
 rw [comp_mem9, (List.mergeSort_perm _ _).mem_iff, List.mem_map]
theorem prL_fall (l : List Tk) : (prL9 l).Pairwise fun x y => y < x := by
 refine comp_fall9 _ ?_
 refine (List.pairwise_mergeSort (le := fun x y : Int => decide (y ≤ x)) (fun a b c h1 h2 => ?_) (fun a b => ?_) _).imp (fun {a b} h => by simpa using h)
 ·simp at *; omega
 ·simp; omega
theorem prL_len (l : List Tk) : (prL9 l).length ≤ l.length := by
 refine Nat.le_trans (comp_len9 _) ?_
 rw [List.length_mergeSort, List.length_map]
 exact Nat.le_refl _
end Go.Proofs.YtmidaeljeoifdaaGreatDoor
