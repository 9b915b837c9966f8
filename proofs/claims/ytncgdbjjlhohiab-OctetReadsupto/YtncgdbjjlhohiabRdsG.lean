import Derived.Test.YtncgdbjjlhohiabRdsF
namespace Go.Proofs.Ytncgdbjjlhohiab
open Go.RowKit
set_option linter.unusedVariables false

/-! ### What stands beside a call -/
theorem isR_other {w w' : World} {base r k : Nat} {l : List UInt8} (h : Rdr w base r l) (hg : w.grownBy w' (some k)) (hk : r < k) : Rdr w' base r l := by
  obtain ⟨a, cap, h⟩ := h
  have hr := h.rlt
  refine ⟨a, cap, ⟨(hg.block r hr (by simp; omega)).trans h.hheap, h.hbase, ⟨h.hrd.hlen, h.hrd.hle, h.hrd.hsmall, h.hrd.hnil, fun hp => ?_⟩, h.hlt⟩⟩
  obtain ⟨b, off, e, hb, hc⟩ := h.hrd.hcell hp
  have := h.hlt b off e hp
  exact ⟨b, off, e, Nat.lt_of_lt_of_le hb hg.size, fun i x hx => (World.cell?_of_block (w := w) (a := ⟨b, off + i, none⟩) (hg.block b hb (by simp; omega))).trans (hc i x hx)⟩
theorem isP_other {w w' : World} {base p b1 o1 n cap k j : Nat} {l : List UInt8} (h : IsP w base p (some ⟨b1, o1, none⟩) n cap k l) (hg : w.grownBy w' (some j)) (hj : j < p) (hb1 : j < b1) : IsP w' base p (some ⟨b1, o1, none⟩) n cap k l := by
  have hr := h.plt
  refine ⟨(hg.block p hr (by simp; omega)).trans h.hheap, h.hbase, ⟨h.hrd.hlen, h.hrd.hle, h.hrd.hsmall, h.hrd.hnil, fun hp => ?_⟩, h.hlt, h.hk⟩
  obtain ⟨b, off, e, hb, hc⟩ := h.hrd.hcell hp
  have e2 : b1 = b := by simp only [Option.some.injEq, Addr.mk.injEq] at e; exact e.1
  exact ⟨b, off, e, Nat.lt_of_lt_of_le hb hg.size, fun i x hx => (World.cell?_of_block (w := w) (a := ⟨b, off + i, none⟩) (hg.block b hb (by simp; omega))).trans (hc i x hx)⟩
/-- Nothing at or below p is changed. -/
theorem rdr_below {w w' : World} {base r B : Nat} {l : List UInt8} (h : Rdr w base r l) (hb : Below B w w') (hB : B ≤ w.heap.size) (hr : r < B) : Rdr w' base r l := by
  obtain ⟨a, cap, h⟩ := h
  refine ⟨a, cap, ⟨(hb.block r hr).trans h.hheap, h.hbase, ⟨h.hrd.hlen, h.hrd.hle, h.hrd.hsmall, h.hrd.hnil, fun hp => ?_⟩, h.hlt⟩⟩
  obtain ⟨b, off, e, hbl, hc⟩ := h.hrd.hcell hp
  have := h.hlt b off e hp
  have hsz := hb.size
  exact ⟨b, off, e, by omega, fun i x hx => (hb.cell (p := ⟨b, off + i, none⟩) (show b < B by omega)).trans (hc i x hx)⟩
theorem isP_below {w w' : World} {base p B n cap k : Nat} {a : Option Addr} {l : List UInt8} (h : IsP w base p a n cap k l) (hb : Below B w w') (hB : B ≤ w.heap.size) (hp : p < B) : IsP w' base p a n cap k l := by
  refine ⟨(hb.block p hp).trans h.hheap, h.hbase, ⟨h.hrd.hlen, h.hrd.hle, h.hrd.hsmall, h.hrd.hnil, fun hp2 => ?_⟩, h.hlt, h.hk⟩
  obtain ⟨b, off, e, hbl, hc⟩ := h.hrd.hcell hp2
  have := h.hlt b off e hp2
  have hsz := hb.size
  exact ⟨b, off, e, by omega, fun i x hx => (hb.cell (p := ⟨b, off + i, none⟩) (show b < B by omega)).trans (hc i x hx)⟩

/-! ### The slices that were read -/
def sv (p : Option Addr × Nat × List UInt8) : Value := .slice p.1 p.2.2.length p.2.1
theorem apart_types {w : World} {b b' n n' : Nat} {v v' : Value} {xs ys : List Value} (h : w.ownsRow b 30 1 v n xs) (h' : w.ownsRow b' 5 1 v' n' ys) : Apart v v' := by
  intro g e1 e2
  rcases h.2 with ⟨rfl, _⟩ | ⟨g1, c1, cur1, rfl, _, hh1, _⟩
  · cases e1
  · rcases h'.2 with ⟨rfl, _⟩ | ⟨g2, c2, cur2, rfl, _, hh2, _⟩
    · cases e2
    · have a1 : g1 = g := by simpa [Value.ownBlock] using e1
      have a2 : g2 = g := by simpa [Value.ownBlock] using e2
      subst a1 a2
      rw [hh1] at hh2
      simp at hh2
structure GotF (w : World) (base : Nat) (v : Value) (Vs : List (Option Addr × Nat × List UInt8)) : Prop where
  row : w.ownsRow base 30 1 v Vs.length (Vs.map sv)
  own : ∀ p ∈ Vs, Own1 w base p.1 p.2.1 p.2.2 ∧ p.2.2.length ≤ 1048576
  ap : ∀ (i j : Nat) p q, Vs[i]? = some p → Vs[j]? = some q → i ≠ j → Apart (sv p) (sv q)
theorem GotF.nil (w : World) (base : Nat) : GotF w base (.slice none 0 0) [] :=
  ⟨World.ownsRow_nil _ _ _ _, (fun p hp => by cases hp), fun i j p q hp => by simp at hp⟩
theorem GotF.keep {w w' : World} {base k : Nat} {v : Value} {Vs : List (Option Addr × Nat × List UInt8)} (h : GotF w base v Vs) (hg : w.grownBy w' (some k)) (hk : k < base) : GotF w' base v Vs := by
  refine ⟨h.row.kept hg ?_, fun p hp => ⟨own1_kept (h.own p hp).1 hg hk, (h.own p hp).2⟩, h.ap⟩
  cases hv : v.ownBlock with
  | none => exact Or.inl rfl
  | some g => exact Or.inr fun e => by have := (h.row.lt g hv).1; simp at e; omega
theorem GotF.below {w w' : World} {base : Nat} {v : Value} {Vs : List (Option Addr × Nat × List UInt8)} (h : GotF w base v Vs) (hb : Below w.heap.size w w') : GotF w' base v Vs :=
  ⟨h.row.kept (row := none) ⟨hb.os, hb.tape, hb.output, hb.size, fun k hk _ => hb.block k hk⟩ (by cases v.ownBlock <;> simp), fun p hp => ⟨(h.own p hp).1.below hb, (h.own p hp).2⟩, h.ap⟩
theorem GotF.hi {w : World} {base : Nat} {v : Value} {Vs : List (Option Addr × Nat × List UInt8)} (h : GotF w base v Vs) : ∀ p ∈ Vs, ∀ k, (sv p).ownBlock = some k → k < w.heap.size := fun p hp k e => (h.own p hp).1.hi k e
/-- One more is laid behind them. -/
theorem GotF.push {w w' : World} {base : Nat} {v v' : Value} {Vs : List (Option Addr × Nat × List UInt8)} (h : GotF w base v Vs) (q : Option Addr × Nat × List UInt8) (hq : Own1 w base q.1 q.2.1 q.2.2) (hl : q.2.2.length ≤ 1048576) (hap : ∀ p ∈ Vs, Apart (sv p) (sv q))
    (ho : w'.ownsRow base 30 1 v' (Vs.length + 1) (Vs.map sv ++ [sv q])) (hg : w.grownBy w' v.ownBlock) : GotF w' base v' (Vs ++ [q]) := by
  have hk : ∀ p : Option Addr × Nat × List UInt8, Own1 w base p.1 p.2.1 p.2.2 → Own1 w' base p.1 p.2.1 p.2.2 := fun p hp => World.ownsRow.kept hp hg ((apart_types h.row hp).symm.ne)
  refine ⟨?_, fun p hp => ?_, fun i j p r hp hr hne => ?_⟩
  · rw [List.length_append, List.map_append]; exact ho
  · simp only [List.mem_append, List.mem_singleton] at hp
    rcases hp with hp | rfl
    · exact ⟨hk p (h.own p hp).1, (h.own p hp).2⟩
    · exact ⟨hk p hq, hl⟩
  · have get : ∀ i p, (Vs ++ [q])[i]? = some p → (i < Vs.length ∧ Vs[i]? = some p) ∨ (i = Vs.length ∧ p = q) := by
      intro i p hp
      by_cases hi : i < Vs.length
      · rw [List.getElem?_append_left hi] at hp; exact .inl ⟨hi, hp⟩
      · rw [List.getElem?_append_right (by omega)] at hp
        have h0 : i - Vs.length = 0 := by
          have := (List.getElem?_eq_some_iff.mp hp).1
          simp at this; omega
        rw [h0] at hp
        exact .inr ⟨by omega, by simpa using hp.symm⟩
    rcases get i p hp with ⟨_, hp'⟩ | ⟨hi, e⟩
    · rcases get j r hr with ⟨_, hr'⟩ | ⟨hj, e⟩
      · exact h.ap i j p r hp' hr' hne
      · rw [e]; exact hap p (List.mem_of_getElem? hp')
    · rcases get j r hr with ⟨_, hr'⟩ | ⟨hj, e2⟩
      · rw [e]; exact (hap r (List.mem_of_getElem? hr')).symm
      · omega
/-- What Own is handed. -/
theorem GotF.ownIn {w : World} {base : Nat} {a : Option Addr} {cap : Nat} {Vs : List (Option Addr × Nat × List UInt8)} (h : GotF w base (.slice a Vs.length cap) Vs) (hb : base ≤ w.heap.size) (hfew : Vs.length ≤ 1048576) :
    ∃ b0, OwnIn w base Vs.length a b0 0 (fun i => (Vs.map sv).getD i (.slice none 0 0)) (fun i => (Vs.map fun p => p.2.2.length).getD i 0) (fun i => (Vs.map fun p => p.2.2.map B).getD i []) := by
  have hget : ∀ i, i < Vs.length → ∃ p, Vs[i]? = some p ∧ p ∈ Vs := fun i hi => ⟨Vs[i], List.getElem?_eq_getElem hi, List.getElem_mem hi⟩
  have gv : ∀ {α : Type} (f : Option Addr × Nat × List UInt8 → α) (d : α) i p, Vs[i]? = some p → (Vs.map f).getD i d = f p := fun f d i p h => by
    rw [List.getD_eq_getElem?_getD, List.getElem?_map, h]; rfl
  have hf : Fam w base Vs.length (fun i => (Vs.map sv).getD i (.slice none 0 0)) (fun i => (Vs.map fun p => p.2.2.length).getD i 0) (fun i => (Vs.map fun p => p.2.2.map B).getD i []) := ⟨fun i hi => by
    obtain ⟨p, hp, hm⟩ := hget i hi
    rw [gv _ _ i p hp, gv _ _ i p hp, gv _ _ i p hp]
    exact (h.own p hm).1⟩
  have hA : ∀ i j, i < Vs.length → j < Vs.length → i ≠ j → Apart ((Vs.map sv).getD i (.slice none 0 0)) ((Vs.map sv).getD j (.slice none 0 0)) := fun i j hi hj hne => by
    obtain ⟨p, hp, _⟩ := hget i hi
    obtain ⟨q, hq, _⟩ := hget j hj
    rw [gv _ _ i p hp, gv _ _ j q hq]
    exact h.ap i j p q hp hq hne
  have hS : ∀ i, i < Vs.length → (Vs.map fun p => p.2.2.length).getD i 0 ≤ 1099511627776 := fun i hi => by
    obtain ⟨p, hp, hm⟩ := hget i hi
    rw [gv _ _ i p hp]
    have := (h.own p hm).2
    omega
  rcases h.row.2 with ⟨_, h0⟩ | ⟨g, c, cur, hv, hbg, hh, hrest⟩
  · exact ⟨0, hf, hA, hS, by omega, hb, (fun e => by omega), (fun e => by omega), fun i hi => by omega⟩
  · simp only [Value.slice.injEq] at hv
    obtain ⟨rfl, _, rfl⟩ := hv
    refine ⟨g, hf, hA, hS, by omega, hb, fun _ => rfl, fun _ => ⟨cur, _, hh⟩, fun i hi => ?_⟩
    obtain ⟨p, hp, _⟩ := hget i hi
    rw [gv _ _ i p hp, Nat.zero_add, h.row.cellAt i (by omega), List.getElem?_map, hp]
    rfl
end Go.Proofs.Ytncgdbjjlhohiab
