import Derived.Test.YtmidaeljeoifdaaGreatDoorEei
import Derived.Maps.AppendAt
namespace Go.Proofs.YtmidaeljeoifdaaGreatDoor.Ce
open Go.RowKit Go.Maps
set_option linter.unusedVariables false
set_option linter.unusedSimpArgs false
def BoxS (w : World) (b : Nat) (u : Value) : Prop := w.heap[b]? = some (.cells #[u] 54 (0, 0))
structure Two (w : World) (base b1 b2 : Nat) (u1 u2 : Value) (l1 l2 : List Int) : Prop where
 x1 : BoxS w b1 u1
 x2 : BoxS w b2 u2
 o1 : w.ownsRow base 3 1 u1 l1.length (l1.map fun x => I x)
 o2 : w.ownsRow base 3 1 u2 l2.length (l2.map fun x => I x)
 ap : ∀ g, u1.ownBlock = some g → u2.ownBlock ≠ some g
 n1 : b1 < base
 n2 : b2 < base
 ne : b1 ≠ b2
 sz : base ≤ w.heap.size
theorem Two.swap {w : World} {base b1 b2 : Nat} {u1 u2 : Value} {l1 l2 : List Int} (h : Two w base b1 b2 u1 u2 l1 l2) : Two w base b2 b1 u2 u1 l2 l1 :=
 ⟨h.x2, h.x1, h.o2, h.o1, fun g h2 h1 => h.ap g h1 h2, h.n2, h.n1, h.ne.symm, h.sz⟩
theorem Two.below {w w' : World} {base b1 b2 : Nat} {u1 u2 : Value} {l1 l2 : List Int} (h : Two w base b1 b2 u1 u2 l1 l2) (hb : Below w.heap.size w w') : Two w' base b1 b2 u1 u2 l1 l2 :=
 ⟨(hb.block _ (heap_lt h.x1)).trans h.x1, (hb.block _ (heap_lt h.x2)).trans h.x2, own_below h.o1 hb, own_below h.o2 hb, h.ap, h.n1, h.n2, h.ne, Nat.le_trans h.sz hb.size⟩
structure Fr2 (base b1 b2 : Nat) (w w' : World) : Prop where
 os : w'.os = w.os
 tape : w'.tape = w.tape
 output : w'.output = w.output
 size : w.heap.size ≤ w'.heap.size
 block : ∀ k, k < base → k ≠ b1 → k ≠ b2 → w'.heap[k]? = w.heap[k]?
theorem Fr2.swap {base b1 b2 : Nat} {w w' : World} (h : Fr2 base b1 b2 w w') : Fr2 base b2 b1 w w' := ⟨h.os, h.tape, h.output, h.size, fun k a b c => h.block k a c b⟩
theorem Fr2.of {base b1 b2 : Nat} {w w' w'' : World} (h : Below w.heap.size w w') (hs : base ≤ w.heap.size) (k : Fr2 base b1 b2 w' w'') : Fr2 base b1 b2 w w'' :=
 ⟨k.os.trans h.os, k.tape.trans h.tape, k.output.trans h.output, Nat.le_trans h.size k.size, fun g a b c => (k.block g a b c).trans (h.block g (by omega))⟩
theorem Fr2.below {base b1 b2 n : Nat} {w w' : World} (h : Fr2 base b1 b2 w w') (h0 : n ≤ base) (h1 : n ≤ b1) (h2 : n ≤ b2) : Below n w w' :=
 ⟨h.os, h.tape, h.output, h.size, fun k hk => h.block k (by omega) (by omega) (by omega)⟩
theorem two_app {w w6 : World} {base b1 b2 : Nat} {u1 u2 v6 : Value} {l1 l2 : List Int} (h : Two w base b1 b2 u1 u2 l1 l2) (o : Obj) (x : Int)
  (ho : w6.ownsRow base 3 1 v6 (l1.length + 1) (l1.map (fun x => I x) ++ [I x])) (hg : (w.alloc o).grownBy w6 u1.ownBlock) (hw : v6.ownBlock = u1.ownBlock ∨ v6.ownBlock = some (w.heap.size + 1)) :
  (BoxS w6 b1 u1) ∧ Two (w6.setCell ⟨b1, 0, none⟩ v6) base b1 b2 v6 u2 (l1 ++ [x]) l2 ∧ Fr2 base b1 b2 w (w6.setCell ⟨b1, 0, none⟩ v6) := by
 have hsz : (w.alloc o).heap.size = w.heap.size + 1 := by simp
 have hb1 : (some b1 : Option Nat) ≠ u1.ownBlock := fun e => by have := (h.o1.lt b1 e.symm).1; have := h.n1; omega
 have hb2 : (some b2 : Option Nat) ≠ u1.ownBlock := fun e => by have := (h.o1.lt b2 e.symm).1; have := h.n2; omega
 have x1 : BoxS w6 b1 u1 := heap_kept (heap_over w o h.x1) hg hb1
 have x2 : BoxS w6 b2 u2 := heap_kept (heap_over w o h.x2) hg hb2
 have gs := grown_set w6 b1 0 v6
 have o2 : w6.ownsRow base 3 1 u2 l2.length (l2.map fun x => I x) := by
  refine (h.o2.alloc o).kept hg ?_
  cases hu : u2.ownBlock with
  | none => exact .inl rfl
  | some g => exact .inr (fun e => h.ap g e.symm hu)
 have n6 : v6.ownBlock = none ∨ v6.ownBlock ≠ some b1 := .inr (fun e => by have := (ho.lt b1 e).1; have := h.n1; omega)
 have n2 : u2.ownBlock = none ∨ u2.ownBlock ≠ some b1 := .inr (fun e => by have := (o2.lt b1 e).1; have := h.n1; omega)
 refine ⟨x1, ⟨heap_setCell_same w6 b1 0 _ _ v6 x1, heap_kept x2 gs (fun e => h.ne (Option.some.inj e).symm), ?_, o2.kept gs n2, ?_, h.n1, h.n2, h.ne, ?_⟩, ?_⟩
 ·have := ho.kept gs n6
  rw [List.length_append, List.map_append]
  exact this
 ·intro g h6 h2
  rcases hw with hw | hw
  ·exact h.ap g (hw.symm.trans h6) h2
  ·have := (h.o2.lt g h2).2
   rw [hw] at h6
   have := Option.some.inj h6
   omega
 ·exact Nat.le_trans h.sz (Nat.le_trans (by omega) (Nat.le_trans hg.size gs.size))
 ·refine ⟨gs.os.trans hg.os, gs.tape.trans hg.tape, gs.output.trans hg.output, Nat.le_trans (by omega) (Nat.le_trans hg.size gs.size), fun k hk hk1 hk2 => ?_⟩
  have hkw : k < w.heap.size := by have := h.sz; omega
  have hk6 : (some k : Option Nat) ≠ u1.ownBlock := fun e => by have := (h.o1.lt k e.symm).1; omega
  rw [gs.block k (by have := hg.size; omega) (fun e => hk1 (Option.some.inj e)), hg.block k (by omega) hk6]
  exact (below_alloc w o).block k hkw
end Go.Proofs.YtmidaeljeoifdaaGreatDoor.Ce
