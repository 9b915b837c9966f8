import Derived.Test.YtncgdbjjlhohiabText
namespace Go.Proofs.Ytncgdbjjlhohiab
open Go.RowKit
set_option linter.unusedVariables false

/-- Two slices lie in no block together. -/
def Apart (v v' : Value) : Prop := ∀ g, v.ownBlock = some g → v'.ownBlock ≠ some g
theorem Apart.symm {v v' : Value} (h : Apart v v') : Apart v' v := fun g e e' => h g e' e
theorem Apart.ne {v v' : Value} (h : Apart v v') : v.ownBlock = none ∨ v.ownBlock ≠ v'.ownBlock := by
  cases hv : v.ownBlock with
  | none => exact Or.inl rfl
  | some g => exact Or.inr fun e => h g hv (by rw [← e])
/-- The byte n as a cell. -/
def Y8 (n : Nat) : Value := .int .u8 ((n % 256 : Nat) : Int)
def rep (n m : Nat) : List Value := List.replicate n (Y8 m)
theorem rep_len (n m : Nat) : (rep n m).length = n := by simp [rep]
theorem rep_get (n m j : Nat) (h : j < n) : (rep n m)[j]? = some (Y8 m) := by simp [rep, h]
theorem rep_one (n m : Nat) : ∀ u ∈ rep n m, u.oneCell' = true := by
  intro u hu; rw [rep, List.mem_replicate] at hu; rw [hu.2]; rfl

/-- A row of n cells of which the first j are Y8 m. -/
def part (xs : List Value) (j m : Nat) : List Value := rep j m ++ xs.drop j
theorem part_zero (xs : List Value) (m : Nat) : part xs 0 m = xs := by simp [part, rep]
theorem part_all (xs : List Value) (m : Nat) : part xs xs.length m = rep xs.length m := by simp [part]
theorem part_set (xs : List Value) (j m : Nat) (h : j < xs.length) : (part xs j m).set j (Y8 m) = part xs (j + 1) m := by
  unfold part
  rw [List.set_append_right _ _ (by simp [rep]), rep_len, Nat.sub_self, List.drop_eq_getElem_cons h, List.set_cons_zero]
  unfold rep
  rw [List.replicate_succ']
  simp
theorem part_len (xs : List Value) (j m : Nat) (h : j ≤ xs.length) : (part xs j m).length = xs.length := by
  simp [part, rep]; omega

/-- The rows E i, i below N, each its own. -/
structure Fam (w : World) (base N : Nat) (E : Nat → Value) (nn : Nat → Nat) (X : Nat → List Value) : Prop where
  own : ∀ i, i < N → w.ownsRow base 5 1 (E i) (nn i) (X i)
theorem Fam.below {w w' : World} {base N : Nat} {E : Nat → Value} {nn : Nat → Nat} {X : Nat → List Value} (h : Fam w base N E nn X) (hb : Below w.heap.size w w') : Fam w' base N E nn X :=
  ⟨fun i hi => (h.own i hi).kept (row := none) ⟨hb.os, hb.tape, hb.output, hb.size, fun k hk _ => hb.block k hk⟩ (by cases (E i).ownBlock <;> simp)⟩
/-- One cell of row i is written. -/
theorem Fam.store {w : World} {base N : Nat} {E : Nat → Value} {nn : Nat → Nat} {X : Nat → List Value} (h : Fam w base N E nn X) (hA : ∀ i j, i < N → j < N → i ≠ j → Apart (E i) (E j))
    {i g c j : Nat} (hi : i < N) (hE : E i = .slice (some ⟨g, 0, none⟩) (nn i) c) (u : Value) :
    Fam (w.setCell ⟨g, j, none⟩ u) base N E nn (fun k => if k = i then (X i).set j u else X k) := by
  have hs := (h.own i hi)
  rw [hE] at hs
  obtain ⟨s1, s2⟩ := hs.stored j u
  refine ⟨fun k hk => ?_⟩
  by_cases e : k = i
  · subst e
    simp only [if_pos]
    rw [hE]; exact s1
  · simp only [if_neg e]
    refine (h.own k hk).kept s2 ?_
    have := (hA k i hk hi e).ne
    rw [hE] at this
    exact this

/-- What is handed to Own: a row of N slices at block b0, each its own. -/
structure OwnIn (w : World) (base N : Nat) (a : Option Addr) (b0 o0 : Nat) (E : Nat → Value) (nn : Nat → Nat) (X : Nat → List Value) : Prop where
  fam : Fam w base N E nn X
  apart : ∀ i j, i < N → j < N → i ≠ j → Apart (E i) (E j)
  small : ∀ i, i < N → nn i ≤ 1099511627776
  few : N ≤ 1099511627776
  hbase : base ≤ w.heap.size
  outer : 0 < N → a = some ⟨b0, o0, none⟩
  ty : 0 < N → ∃ cs fr, w.heap[b0]? = some (.cells cs 30 fr)
  cell : ∀ i, i < N → w.cell? ⟨b0, o0 + i, none⟩ = some (E i)

/-- A world of Own's: the rows hold X, the outer row is as it was. -/
structure OwnSt (w wr : World) (base N b0 : Nat) (E : Nat → Value) (nn : Nat → Nat) (X : Nat → List Value) : Prop where
  fam : Fam wr base N E nn X
  out : wr.heap[b0]? = w.heap[b0]?
  bel : Below base w wr
  keep : ∀ k, k < w.heap.size → (∀ i, i < N → (E i).ownBlock ≠ some k) → wr.heap[k]? = w.heap[k]?
theorem OwnSt.cell {w wr : World} {base N b0 : Nat} {E : Nat → Value} {nn : Nat → Nat} {X : Nat → List Value} (h : OwnSt w wr base N b0 E nn X) {o : Nat} {v : Value} (hc : w.cell? ⟨b0, o, none⟩ = some v) : wr.cell? ⟨b0, o, none⟩ = some v :=
  (World.cell?_of_block (w := w) h.out).trans hc
/-- One cell of row i is written. -/
theorem OwnSt.store {w wr : World} {base N b0 o0 : Nat} {a : Option Addr} {E : Nat → Value} {nn : Nat → Nat} {X X0 : Nat → List Value} (I : OwnIn w base N a b0 o0 E nn X0) (h : OwnSt w wr base N b0 E nn X)
    {i g c j : Nat} (hi : i < N) (hE : E i = .slice (some ⟨g, 0, none⟩) (nn i) c) (u : Value) :
    OwnSt w (wr.setCell ⟨g, j, none⟩ u) base N b0 E nn (fun k => if k = i then (X i).set j u else X k) := by
  have hs := h.fam.own i hi
  rw [hE] at hs
  obtain ⟨hb1, hb2⟩ := hs.lt g rfl
  have hne : b0 ≠ g := by
    intro e
    obtain ⟨cs, fr, ht⟩ := I.ty (by omega)
    have h1 := h.out
    rw [ht, e] at h1
    rcases hs.2 with ⟨h', _⟩ | ⟨g', cap', cur, h', _, hg, _⟩
    · simp at h'
    · simp only [Value.slice.injEq, Option.some.injEq, Addr.mk.injEq, and_true, true_and] at h'
      rw [← h'.1, h1] at hg
      simp at hg
  exact ⟨h.fam.store I.apart hi hE u, (heap_setCell_other wr ⟨g, j, none⟩ b0 u hne).trans h.out, h.bel.setCell hb1 u, fun k hk hn => (heap_setCell_other wr ⟨g, j, none⟩ k u (fun e => hn i hi (by rw [hE, e]; rfl))).trans (h.keep k hk hn)⟩
/-- Of a row that has a cell: where it lies. -/
theorem owns_at {w : World} {base : Nat} {v : Value} {n : Nat} {xs : List Value} (h : w.ownsRow base 5 1 v n xs) (hn : 0 < n) : ∃ g c, v = .slice (some ⟨g, 0, none⟩) n c := by
  rcases h.2 with ⟨_, h0⟩ | ⟨g, cap, cur, hv, _⟩
  · omega
  · exact ⟨g, cap, hv⟩

end Go.Proofs.Ytncgdbjjlhohiab
