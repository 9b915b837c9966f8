import Derived.Test.YtncgdbjjlhohiabRefs
namespace Go.Proofs.Ytncgdbjjlhohiab
open Go.RowKit
set_option linter.unusedVariables false

theorem Own1.below {w w' : World} {base : Nat} {a : Option Addr} {cap : Nat} {l : List UInt8} (h : Own1 w base a cap l) (hb : Below w.heap.size w w') : Own1 w' base a cap l :=
  World.ownsRow.kept h (row := none) ⟨hb.os, hb.tape, hb.output, hb.size, fun k hk _ => hb.block k hk⟩ (by cases (Value.slice a l.length cap).ownBlock <;> simp)
theorem apart_of {v v' : Value} {n : Nat} (h1 : ∀ k, v.ownBlock = some k → k < n) (h2 : ∀ k, v'.ownBlock = some k → n ≤ k) : Apart v v' := fun g e1 e2 => by
  have := h1 g e1
  have := h2 g e2
  omega
theorem Own1.hi {w : World} {base : Nat} {a : Option Addr} {cap : Nat} {l : List UInt8} (h : Own1 w base a cap l) : ∀ k, (Value.slice a l.length cap).ownBlock = some k → k < w.heap.size := fun k e => (World.ownsRow.lt h k e).2
theorem Own1.lo {w : World} {base : Nat} {a : Option Addr} {cap : Nat} {l : List UInt8} (h : Own1 w base a cap l) : ∀ k, (Value.slice a l.length cap).ownBlock = some k → base ≤ k := fun k e => (World.ownsRow.lt h k e).1
theorem Own1.rd {w : World} {base : Nat} {a : Option Addr} {cap : Nat} {l : List UInt8} (h : Own1 w base a cap l) (hs : l.length ≤ 140737488351232) : Rd w a l.length cap l := rd_of_owns h hs
theorem Own1.mono {w : World} {base base' : Nat} {a : Option Addr} {cap : Nat} {l : List UInt8} (h : Own1 w base a cap l) (hb : base' ≤ base) : Own1 w base' a cap l := owns_mono h hb

/-- The i-th of a list. -/
def nth {α : Type} (d : α) (l : List α) (i : Nat) : α := l.getD i d
/-- A literal row of slices, each its own: what Own is handed. -/
theorem ownIn_lit (W : World) (base : Nat) (Vs : List (Option Addr × Nat × List UInt8)) (hb : base ≤ W.heap.size) (hfew : Vs.length ≤ 1099511627776)
    (hown : ∀ p ∈ Vs, Own1 W base p.1 p.2.1 p.2.2 ∧ p.2.2.length ≤ 1099511627776)
    (hap : ∀ (i j : Nat) (p q : Option Addr × Nat × List UInt8), Vs[i]? = some p → Vs[j]? = some q → i ≠ j → Apart (.slice p.1 p.2.2.length p.2.1) (.slice q.1 q.2.2.length q.2.1))
    (cs : Array Value) (hcs : cs.toList = Vs.map fun p => Value.slice p.1 p.2.2.length p.2.1) :
    OwnIn (W.alloc (.cells cs 30)) base Vs.length (some ⟨W.heap.size, 0, none⟩) W.heap.size 0 (fun i => (Vs.map fun p => Value.slice p.1 p.2.2.length p.2.1).getD i (.slice none 0 0)) (fun i => (Vs.map fun p => p.2.2.length).getD i 0) (fun i => (Vs.map fun p => p.2.2.map B).getD i []) := by
  have hget : ∀ i, i < Vs.length → ∃ p, Vs[i]? = some p ∧ p ∈ Vs := fun i hi => ⟨Vs[i], List.getElem?_eq_getElem hi, List.getElem_mem hi⟩
  have gv : ∀ {α : Type} (f : Option Addr × Nat × List UInt8 → α) (d : α) i p, Vs[i]? = some p → (Vs.map f).getD i d = f p := fun f d i p h => by
    rw [List.getD_eq_getElem?_getD, List.getElem?_map, h]; rfl
  refine ⟨⟨fun i hi => ?_⟩, fun i j hi hj hne => ?_, fun i hi => ?_, hfew, by simp; omega, fun _ => rfl, fun _ => ⟨cs, (0, 0), heap_alloc_new W _⟩, fun i hi => ?_⟩
  · obtain ⟨p, hp, hm⟩ := hget i hi
    rw [gv _ _ i p hp, gv _ _ i p hp, gv _ _ i p hp]
    exact World.ownsRow.alloc (hown p hm).1 _
  · obtain ⟨p, hp, _⟩ := hget i hi
    obtain ⟨q, hq, _⟩ := hget j hj
    rw [gv _ _ i p hp, gv _ _ j q hq]
    exact hap i j p q hp hq hne
  · obtain ⟨p, hp, hm⟩ := hget i hi
    rw [gv _ _ i p hp]
    exact (hown p hm).2
  · obtain ⟨p, hp, _⟩ := hget i hi
    rw [gv _ _ i p hp, cell_of_row _ _ _ _ 30 (0, 0) (heap_alloc_new W _), Nat.zero_add, ← Array.getElem?_toList, hcs, List.getElem?_map, hp]
    rfl

/-- What stands ahead of Own. -/
theorem writes_in {w w1 w3 w6 w7 w8 : World} {a1 a3 a7 a8 : Option Addr} {c1 c3 c7 c8 : Nat} {l m : List UInt8} (h1 : Own1 w1 w.heap.size a1 c1 l) (hb1 : Below w.heap.size w w1)
    (hs12 : w1.heap.size ≤ w3.heap.size) (h3 : Own1 w3 w1.heap.size a3 c3 m) (hb16 : Below w1.heap.size w1 w6) (hb36 : Below w3.heap.size w3 w6)
    (h7 : Own1 w7 w6.heap.size a7 c7 l) (hb7 : Below w6.heap.size w6 w7) (h8 : Own1 w8 w7.heap.size a8 c8 m) (hb8 : Below w7.heap.size w7 w8) (hl : l.length ≤ 1000) (hm : m.length ≤ 1000) :
    OwnIn (w8.alloc (.cells #[.slice a1 l.length c1, .slice a7 l.length c7, .slice a3 m.length c3, .slice a8 m.length c8] 30)) w.heap.size 4 (some ⟨w8.heap.size, 0, none⟩) w8.heap.size 0
      (fun i => ([(a1, c1, l), (a7, c7, l), (a3, c3, m), (a8, c8, m)].map fun p => Value.slice p.1 p.2.2.length p.2.1).getD i (.slice none 0 0)) (fun i => ([(a1, c1, l), (a7, c7, l), (a3, c3, m), (a8, c8, m)].map fun p => p.2.2.length).getD i 0) (fun i => ([(a1, c1, l), (a7, c7, l), (a3, c3, m), (a8, c8, m)].map fun p => p.2.2.map B).getD i []) := by
  have e1 := hb1.size
  have e6 := hb36.size
  have e7 := hb7.size
  have e8 := hb8.size
  have a17 : Apart (.slice a1 l.length c1) (.slice a7 l.length c7) := apart_of h1.hi (fun k e => by have := h7.lo k e; omega)
  have a13 : Apart (.slice a1 l.length c1) (.slice a3 m.length c3) := apart_of h1.hi (fun k e => by have := h3.lo k e; omega)
  have a18 : Apart (.slice a1 l.length c1) (.slice a8 m.length c8) := apart_of h1.hi (fun k e => by have := h8.lo k e; omega)
  have a37 : Apart (.slice a3 m.length c3) (.slice a7 l.length c7) := apart_of h3.hi (fun k e => by have := h7.lo k e; omega)
  have a38 : Apart (.slice a3 m.length c3) (.slice a8 m.length c8) := apart_of h3.hi (fun k e => by have := h8.lo k e; omega)
  have a78 : Apart (.slice a7 l.length c7) (.slice a8 m.length c8) := apart_of h7.hi (fun k e => by have := h8.lo k e; omega)
  have o1 : Own1 w8 w.heap.size a1 c1 l := ((h1.below hb16).below hb7).below hb8
  have o7 : Own1 w8 w.heap.size a7 c7 l := (h7.below hb8).mono (by omega)
  have o3 : Own1 w8 w.heap.size a3 c3 m := (((h3.below hb36).below hb7).below hb8).mono (by omega)
  have o8 : Own1 w8 w.heap.size a8 c8 m := h8.mono (by omega)
  refine ownIn_lit w8 w.heap.size [(a1, c1, l), (a7, c7, l), (a3, c3, m), (a8, c8, m)] (by omega) (by simp) ?_ ?_ _ rfl
  · intro p hp
    simp only [List.mem_cons, List.not_mem_nil, or_false] at hp
    rcases hp with rfl | rfl | rfl | rfl
    · exact ⟨o1, by simp; omega⟩
    · exact ⟨o7, by simp; omega⟩
    · exact ⟨o3, by simp; omega⟩
    · exact ⟨o8, by simp; omega⟩
  · intro i j p q hp hq hne
    match i, j, hp, hq with
    | 0, 0, hp, hq => omega
    | 0, 1, hp, hq => simp at hp hq; subst hp hq; exact a17
    | 0, 2, hp, hq => simp at hp hq; subst hp hq; exact a13
    | 0, 3, hp, hq => simp at hp hq; subst hp hq; exact a18
    | 1, 0, hp, hq => simp at hp hq; subst hp hq; exact a17.symm
    | 1, 1, hp, hq => omega
    | 1, 2, hp, hq => simp at hp hq; subst hp hq; exact a37.symm
    | 1, 3, hp, hq => simp at hp hq; subst hp hq; exact a78
    | 2, 0, hp, hq => simp at hp hq; subst hp hq; exact a13.symm
    | 2, 1, hp, hq => simp at hp hq; subst hp hq; exact a37
    | 2, 2, hp, hq => omega
    | 2, 3, hp, hq => simp at hp hq; subst hp hq; exact a38
    | 3, 0, hp, hq => simp at hp hq; subst hp hq; exact a18.symm
    | 3, 1, hp, hq => simp at hp hq; subst hp hq; exact a78.symm
    | 3, 2, hp, hq => simp at hp hq; subst hp hq; exact a38.symm
    | 3, 3, hp, hq => omega
    | k + 4, _, hp, _ => simp at hp
    | _, k + 4, _, hq => simp at hq
theorem lN_len (v n : Int) : (lN v n).length ≤ 1000 := by
  unfold lN
  split
  · rename_i h
    simp only [okN, decide_eq_true_eq] at h
    rw [leB_len]; omega
  · simp
theorem lT_len (s : ByteArray) : (lT s).length ≤ 1000 := by
  unfold lT
  split
  · rename_i h
    simp [plainB] at h
    have hlen : s.data.toList.length = s.size := by simp
    simp; omega
  · simp

end Go.Proofs.Ytncgdbjjlhohiab
