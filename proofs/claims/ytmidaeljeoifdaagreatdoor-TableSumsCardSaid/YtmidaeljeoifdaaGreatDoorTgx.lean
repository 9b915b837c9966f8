import Derived.Test.YtmidaeljeoifdaaGreatDoorTcu
namespace Go.Proofs.YtmidaeljeoifdaaGreatDoor
open Go.RowKit Go.Shelf Go.Sort
set_option linter.unusedVariables false
set_option linter.unusedSimpArgs false
structure RwX {α : Type} (k : Nat) (P : α → Nat → Value → Prop) (l : List α) (xs : List Value) : Prop where
 n : xs.length = l.length * k
 at' : ∀ j x, l[j]? = some x → ∀ i, i < k → ∃ u, xs[j * k + i]? = some u ∧ P x i u
theorem RwX.nil {α : Type} (k : Nat) (P : α → Nat → Value → Prop) : RwX k P [] [] := ⟨by simp, fun j x hj => by simp at hj⟩
theorem RwX.mono {α : Type} {k : Nat} {P Q : α → Nat → Value → Prop} {l : List α} {xs : List Value} (h : RwX k P l xs) (hPQ : ∀ x i u, P x i u → Q x i u) : RwX k Q l xs :=
 ⟨h.n, fun j x hj i hi => by obtain ⟨u, h1, h2⟩ := h.at' j x hj i hi; exact ⟨u, h1, hPQ x i u h2⟩⟩
theorem RwX.snoc {α : Type} {k : Nat} {P : α → Nat → Value → Prop} {l : List α} {xs : List Value} (h : RwX k P l xs) (x : α) (cs : List Value) (hc : cs.length = k) (hP : ∀ i, i < k → ∃ u, cs[i]? = some u ∧ P x i u) : RwX k P (l ++ [x]) (xs ++ cs) := by
 refine ⟨by rw [List.length_append, List.length_append, h.n, hc, Nat.add_mul]; simp, fun j y hj i hi => ?_⟩
 by_cases hjl : j < l.length
 ·rw [List.getElem?_append_left hjl] at hj
  obtain ⟨u, h1, h2⟩ := h.at' j y hj i hi
  exact ⟨u, by rw [List.getElem?_append_left (List.getElem?_eq_some_iff.1 h1).1]; exact h1, h2⟩
 ·have hje : j = l.length := by
   have := (List.getElem?_eq_some_iff.1 hj).1
   simp at this
   omega
  subst hje
  rw [List.getElem?_append_right (Nat.le_refl _), Nat.sub_self] at hj
  have hxy : x = y := by simpa using hj
  subst hxy
  obtain ⟨u, h1, h2⟩ := hP i hi
  refine ⟨u, ?_, h2⟩
  rw [List.getElem?_append_right (by rw [h.n]; omega), h.n]
  rw [show l.length * k + i - l.length * k = i by omega]
  exact h1
theorem RwX.rows {α : Type} {w : World} {base E k : Nat} {P : α → Nat → Value → Prop} {s : Sl} {l : List α} {xs : List Value} (ho : w.ownsRow base E k (.slice s.a s.n s.c) l.length xs) (h : RwX k P l xs) : RowsAt w k P s l := by
 rcases ho.2 with ⟨e, h0⟩ | ⟨g, cap, cur, e, hb, hg, hnc, hcm, hcs, htk⟩
 ·injection e with e1 e2 e3
  exact ⟨by rw [e2, h0], by rw [e2]; exact Nat.zero_le _, by rw [e3]; exact Nat.zero_le _, fun j x hj => by have := (List.getElem?_eq_some_iff.1 hj).1; omega⟩
 ·injection e with e1 e2 e3
  refine ⟨e2, by rw [e2, e3]; exact hnc, by rw [e3]; exact hcm, fun j x hj => ⟨g, 0, e1, heap_lt hg, fun i hi => ?_⟩⟩
  obtain ⟨u, h1, h2⟩ := h.at' j x hj i hi
  refine ⟨u, ?_, h2⟩
  rw [e1, e2, e3] at ho
  have hlt : j * k + i < l.length * k := by have := (List.getElem?_eq_some_iff.1 h1).1; rw [h.n] at this; exact this
  rw [show 0 + j * k + i = j * k + i by omega, ho.cellAt _ hlt]
  exact h1
theorem own_slk {w : World} {b E k n : Nat} {v : Value} {xs : List Value} (h : w.ownsRow b E k v n xs) : ∃ a cc, v = .slice a n cc := by
 rcases h.2 with ⟨h1, h0⟩ | ⟨g, cap, cur, h1, _⟩
 ·exact ⟨none, 0, by rw [h0]; exact h1⟩
 ·exact ⟨_, _, h1⟩
theorem cells_new9 (w : World) (cs : Array Value) (t : TypeId) : ∀ j u, cs.toList[j]? = some u → (w.alloc (.cells cs t)).cell? ((⟨w.heap.size, 0, none⟩ : Addr).add j) = some u := fun j u hj => by
 rw [Addr.add_mid9, Nat.zero_add, cell_of_row _ _ j _ _ (0, 0) (heap_alloc_new w _)]
 rw [← Array.getElem?_toList]
 exact hj
end Go.Proofs.YtmidaeljeoifdaaGreatDoor
