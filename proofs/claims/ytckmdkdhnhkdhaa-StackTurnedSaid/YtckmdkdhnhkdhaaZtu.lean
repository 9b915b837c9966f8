import Derived.Test.YtckmdkdhnhkdhaaZpr
import Derived.Test.YtckmdkdhnhkdhaaZop
import Derived.Test.YtckmdkdhnhkdhaaZal
namespace Go.Proofs.Ytckmdkdhnhkdhaa
open Go.RowKit
set_option linter.unusedVariables false
set_option linter.unusedSimpArgs false

/-! ### StackTurned: memory -/
theorem ints_cell {W : World} {a : Option Addr} {n c : Nat} {l : List Int} (h : RowsAt W 1 intP ⟨a, n, c⟩ l) {i : Nat} {x : Int} (hx : l[i]? = some x) : ∃ g off, a = some ⟨g, off, none⟩ ∧ ∀ Z, Below W.heap.size W Z → Z.cell? ⟨g, off + i, none⟩ = some (I x) := by
  obtain ⟨g, off, e, hg, hr⟩ := h.row i _ hx
  refine ⟨g, off, e, fun Z hZ => ?_⟩
  obtain ⟨u0, h0, p0⟩ := hr 0 (by omega)
  have e0 := p0.1
  subst e0
  exact (hZ.cell (p := ⟨g, off + i, none⟩) hg).trans (by simpa using h0)
/-- Two stacks and two rows, apart. -/
structure T2 (W wr : World) (Bs gs Bt gt n hs ht : Nat) (vi vl : Value) (a b c d : List Int) : Prop where
  s : iQ wr Bs gs n hs a
  t : iQ wr Bt gt n ht b
  i : wr.ownsRow W.heap.size 3 1 vi c.length (iV c)
  l : wr.ownsRow W.heap.size 3 1 vl d.length (iV d)
  b : Below W.heap.size W wr
  k : W.heap.size ≤ Bs ∧ W.heap.size ≤ gs ∧ W.heap.size ≤ Bt ∧ W.heap.size ≤ gt
  ne : Bs ≠ Bt ∧ Bs ≠ gt ∧ gs ≠ Bt ∧ gs ≠ gt
  ni : ∀ x, vi.ownBlock = some x ∨ vl.ownBlock = some x → x ∉ [Bs, gs, Bt, gt]
  nv : ∀ x, vi.ownBlock = some x → vl.ownBlock ≠ some x
section
variable {W wr w' : World} {Bs gs Bt gt n hs ht hs' : Nat} {vi vl : Value} {a b c d a' : List Int}
theorem T2.below (h : T2 W wr Bs gs Bt gt n hs ht vi vl a b c d) (hb : Below wr.heap.size wr w') : T2 W w' Bs gs Bt gt n hs ht vi vl a b c d :=
  ⟨h.s.below hb, h.t.below hb, own_below h.i hb, own_below h.l hb, h.b.trans (hb.mono h.b.size), h.k, h.ne, h.ni, h.nv⟩
theorem T2.opS (h : T2 W wr Bs gs Bt gt n hs ht vi vl a b c d) (hq : iQ w' Bs gs n hs' a') (hf : Fx [Bs, gs] wr w') : T2 W w' Bs gs Bt gt n hs' ht vi vl a' b c d := by
  obtain ⟨n1, n2, n3, n4⟩ := h.ne
  have hz : Fz (fun x => x = Bs ∨ x = gs) wr w' := Fz.of_fx hf (fun x hx => by simpa using hx)
  have hk := h.k
  have hi : ∀ x, vi.ownBlock = some x ∨ vl.ownBlock = some x → x ∉ [Bs, gs] := fun x hx e => h.ni x hx (by simp at e ⊢; omega)
  exact ⟨hq, h.t.keptZ hz (by omega) (by omega), hf.own h.i (fun x e => hi x (.inl e)), hf.own h.l (fun x e => hi x (.inr e)), h.b.trans (hf.below h.b.size (by simp; omega)), h.k, h.ne, h.ni, h.nv⟩
theorem T2.opT (h : T2 W wr Bs gs Bt gt n hs ht vi vl a b c d) (hq : iQ w' Bt gt n hs' a') (hf : Fx [Bt, gt] wr w') : T2 W w' Bs gs Bt gt n hs hs' vi vl a a' c d := by
  obtain ⟨n1, n2, n3, n4⟩ := h.ne
  have hz : Fz (fun x => x = Bt ∨ x = gt) wr w' := Fz.of_fx hf (fun x hx => by simpa using hx)
  have hk := h.k
  have hi : ∀ x, vi.ownBlock = some x ∨ vl.ownBlock = some x → x ∉ [Bt, gt] := fun x hx e => h.ni x hx (by simp at e ⊢; omega)
  exact ⟨h.s.keptZ hz (by omega) (by omega), hq, hf.own h.i (fun x e => hi x (.inl e)), hf.own h.l (fun x e => hi x (.inr e)), h.b.trans (hf.below h.b.size (by simp; omega)), h.k, h.ne, h.ni, h.nv⟩
/-- an append to the first row -/
theorem T2.app {o : Obj} {v4 : Value} {c' : List Int} (h : T2 W wr Bs gs Bt gt n hs ht vi vl a b c d) (h4 : w'.ownsRow W.heap.size 3 1 v4 c'.length (iV c')) (hg4 : (wr.alloc o).grownBy w' vi.ownBlock) (hat : v4.ownBlock = vi.ownBlock ∨ v4.ownBlock = some (wr.alloc o).heap.size) : T2 W w' Bs gs Bt gt n hs ht v4 vl a b c' d := by
  obtain ⟨hV, F4⟩ := app_facts hg4 hat
  have hsz := h.b.size
  have q1 := h.s.lts
  have q2 := h.t.lts
  have hni : ∀ x, vi.ownBlock = some x → x ∉ [Bs, gs, Bt, gt] := fun x hx => h.ni x (.inl hx)
  have h1 : ¬ vi.ownBlock = some Bs := fun e => hni _ e (by simp)
  have h2 : ¬ vi.ownBlock = some gs := fun e => hni _ e (by simp)
  have h3 : ¬ vi.ownBlock = some Bt := fun e => hni _ e (by simp)
  have h5 : ¬ vi.ownBlock = some gt := fun e => hni _ e (by simp)
  refine ⟨h.s.keptZ F4 h1 h2, h.t.keptZ F4 h3 h5, h4, F4.own h.l (fun x e e2 => h.nv x e2 e), h.b.trans (F4.below h.b.size (fun x e => (h.i.lt x e).1)), h.k, h.ne, fun x hx => ?_, fun x hx e => ?_⟩
  · rcases hx with hx | hx
    · rcases hV x hx with e | e
      · exact hni x e
      · simp; omega
    · exact h.ni x (.inr hx)
  · rcases hV x hx with e1 | e1
    · exact h.nv x e1 e
    · have := (h.l.lt x e).2; omega
/-- what Cut told -/
theorem T2.cut {vl' : Value} {ht' : Nat} {b' d' : List Int} (h : T2 W wr Bs gs Bt gt n hs ht vi vl a b c d) (hq : iQ w' Bt gt n ht' b') (hf : Fx [Bt, gt] wr w') (hl : w'.ownsRow wr.heap.size 3 1 vl' d'.length (iV d')) : T2 W w' Bs gs Bt gt n hs ht' vi vl' a b' c d' := by
  have h1 := h.opT hq hf
  have q1 := h.s.lts
  have q2 := h.t.lts
  have hn : ∀ x, vl'.ownBlock = some x → wr.heap.size ≤ x := fun x e => (hl.lt x e).1
  refine ⟨h1.s, h1.t, h1.i, own_base hl h.b.size, h1.b, h1.k, h1.ne, fun x hx => ?_, fun x hx e => ?_⟩
  · rcases hx with hx | hx
    · exact h1.ni x (.inl hx)
    · have := hn x hx; simp; omega
  · have := (h.i.lt x hx).2
    have := hn x e
    omega
theorem T2.at_i (h : T2 W wr Bs gs Bt gt n hs ht vi vl a b c d) {j : Nat} {x : Int} (hj : c[j]? = some x) : ∃ g cc, vi = .slice (some ⟨g, 0, none⟩) c.length cc ∧ wr.cell? ⟨g, j, none⟩ = some (I x) := by
  obtain ⟨g, cc, e, _, hc⟩ := own_cell h.i (by have := (List.getElem?_eq_some_iff.1 hj).1; omega)
  exact ⟨g, cc, e, hc j x hj⟩
theorem T2.at_l (h : T2 W wr Bs gs Bt gt n hs ht vi vl a b c d) {j : Nat} {x : Int} (hj : d[j]? = some x) : ∃ g cc, vl = .slice (some ⟨g, 0, none⟩) d.length cc ∧ wr.cell? ⟨g, j, none⟩ = some (I x) := by
  obtain ⟨g, cc, e, _, hc⟩ := own_cell h.l (by have := (List.getElem?_eq_some_iff.1 hj).1; omega)
  exact ⟨g, cc, e, hc j x hj⟩
end
theorem T2.start {W w1 w2 : World} {n : Nat} (q1 : iQ w1 (W.heap.size + 1) W.heap.size n 0 []) (b1 : Below W.heap.size W w1) (q2 : iQ w2 (w1.heap.size + 1) w1.heap.size n 0 []) (b2 : Below w1.heap.size w1 w2) : T2 W w2 (W.heap.size + 1) W.heap.size (w1.heap.size + 1) w1.heap.size n 0 0 (.slice none 0 0) (.slice none 0 0) [] [] [] [] := by
  have l1 := q1.lts
  have l2 := q2.lts
  have s1 := b1.size
  exact ⟨q1.below b2, q2, World.ownsRow_nil _ _ _ _, World.ownsRow_nil _ _ _ _, b1.trans (b2.mono b1.size), by omega, by omega, (fun x hx => by rcases hx with e | e <;> cases e), (fun x hx => by cases hx)⟩
end Go.Proofs.Ytckmdkdhnhkdhaa
