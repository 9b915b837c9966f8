import Derived.Test.YtlbkbnhnklaebaaRit
import Derived.Test.YtlbkbnhnklaebaaRcp12
namespace Go.Proofs.Ytlbkbnhnklaebaa
open Go.RowKit
set_option linter.unusedVariables false
set_option linter.unusedSimpArgs false

/-! ### same, told -/
theorem own_cell {w : World} {b E : Nat} {v : Value} {l : List Int} (h : w.ownsRow b E 1 v l.length (intsV l)) (hne : 0 < l.length) : ∃ g c, v = .slice (some ⟨g, 0, none⟩) l.length c ∧ g < w.heap.size ∧ ∀ (j : Nat) (x : Int), l[j]? = some x → w.cell? ⟨g, j, none⟩ = some (I x) := by
  rcases h.2 with ⟨h1, h0⟩ | ⟨g, cap, cur, h1, _, hh, _⟩
  · omega
  · refine ⟨g, cap, h1, heap_lt hh, fun j x hj => ?_⟩
    have := h.cells (g := g) (by rw [h1]; rfl) j (I x) (by simp [intsV, hj])
    rw [addr_add, Nat.zero_add] at this
    exact this
set_option maxRecDepth 100000 in
set_option maxHeartbeats 4000000 in
theorem same_any (w : World) (b1 b2 : Nat) (v u : Value) (l : List Int) (hl : l.length ≤ 65536) (h1 : w.ownsRow b1 3 1 v l.length (intsV l)) (h2 : w.ownsRow b2 3 1 u l.length (intsV l)) : Calls Try.prog 58 #[v, u] w fun e w' => e = .returned (.bool true) ∧ Below w.heap.size w w' := by
  by_cases h0 : l.length = 0
  · obtain ⟨a1, c1, rfl⟩ := own_sl h1
    obtain ⟨a2, c2, rfl⟩ := own_sl h2
    rw [h0]
    clear h1 h2 h0
    go_enter Try.func58, Try.ntmps58
    go_wp2
    go_loopw [5] (fun i wr => i = .int .i64 0 ∧ wr = w) (fun _ _ => 0)
    case atStart => exact ⟨rfl, rfl⟩
    case round =>
      obtain ⟨rfl, rfl⟩ := hrel
      go_wp2
      go_ret
      exact ⟨rfl, Below.refl _ _⟩
  · obtain ⟨g1, c1, rfl, hg1, hc1⟩ := own_cell h1 (by omega)
    obtain ⟨g2, c2, rfl, hg2, hc2⟩ := own_cell h2 (by omega)
    clear h1 h2 h0
    have H1 : Hid (∀ (j : Nat) (x : Int), l[j]? = some x → w.cell? ⟨g1, j, none⟩ = some (I x)) := hc1
    have H2 : Hid (∀ (j : Nat) (x : Int), l[j]? = some x → w.cell? ⟨g2, j, none⟩ = some (I x)) := hc2
    clear hc1 hc2
    go_enter Try.func58, Try.ntmps58
    go_wp2
    go_loopw [5] (fun i wr => ∃ k : Nat, k ≤ l.length ∧ i = .int .i64 k ∧ Hid (Below w.heap.size w wr)) (fun i _ => l.length - (intOf i).toNat)
    case atStart => exact ⟨0, by omega, rfl, Below.refl _ _⟩
    case round =>
      obtain ⟨k, hk, rfl, HB⟩ := hrel
      by_cases hlt : k < l.length
      · obtain ⟨x, hx⟩ : ∃ x, l[k]? = some x := ⟨_, List.getElem?_eq_getElem hlt⟩
        have hltI : (k : Int) < l.length := by omega
        have k0 : ¬ (k : Int) < 0 := by omega
        have x1 : wr.cell? ⟨g1, k, none⟩ = some (I x) := (HB.out.cell (p := ⟨g1, k, none⟩) hg1).trans (H1.out k x hx)
        have x2 : wr.cell? ⟨g2, k, none⟩ = some (I x) := (HB.out.cell (p := ⟨g2, k, none⟩) hg2).trans (H2.out k x hx)
        clear hx
        go_wp2
        go_quiet (fail)
        have H9 : Hid (Below w.heap.size w (wr.drewN nq)) := below_drewN nq HB.out
        clear HB x1 x2
        generalize wr.drewN nq = W9 at *
        go_wp2
        go_roundw
        case rel => exact ⟨k + 1, by omega, by go_num, H9.out⟩
        case measure => simp [intOf]; omega
      · obtain rfl : k = l.length := by omega
        have hge : ¬ ((l.length : Int) < l.length) := by omega
        go_wp2
        go_ret
        exact ⟨rfl, HB.out⟩
/-- A ring and the document's ring, alike. -/
structure Pr (X : Nat → Prop) (w : World) (B g D n hi : Nat) (l : List Int) : Prop where
  q : iQ w B g n hi (intsV l)
  d : ∃ v, Dg w D n hi v l ∧ ∀ k, v.ownBlock = some k → k ≠ g ∧ ¬ X k
  x : ∀ k, X k → k < w.heap.size
theorem Pr.below {X : Nat → Prop} {w w' : World} {B g D n hi : Nat} {l : List Int} (h : Pr X w B g D n hi l) (hb : Below w.heap.size w w') : Pr X w' B g D n hi l := by
  obtain ⟨v, hd, hk⟩ := h.d
  exact ⟨h.q.below hb, ⟨v, hd.below hb, hk⟩, fun k e => Nat.lt_of_lt_of_le (h.x k e) hb.size⟩
theorem Pr.ne {X : Nat → Prop} {w : World} {B g D n hi : Nat} {l : List Int} (h : Pr X w B g D n hi l) : D ≠ B ∧ D ≠ g := by
  obtain ⟨v, hd, hk⟩ := h.d
  obtain ⟨c1, h1⟩ := h.q.ty
  obtain ⟨c2, h2⟩ := h.q.tyg
  refine ⟨fun e => ?_, fun e => ?_⟩
  · subst e; have := hd.o; rw [h1] at this; simp only [Option.some.injEq, Obj.cells.injEq] at this; exact absurd this.2.1 (by decide)
  · subst e; have := hd.o; rw [h2] at this; simp only [Option.some.injEq, Obj.cells.injEq] at this; exact absurd this.2.1 (by decide)
theorem Pr.vB {w : World} {B g n hi : Nat} {l : List Value} (h : iQ w B g n hi l) {b k : Nat} {v : Value} {xs : List Value} (hp : w.ownsRow b 3 1 v k xs) : v.ownBlock ≠ some B := fun e => by
  obtain ⟨c1, h1⟩ := h.ty
  rcases hp.2 with ⟨h2, _⟩ | ⟨g', cap, cur, h2, _, hh, _⟩
  · rw [h2] at e; cases e
  · rw [h2] at e
    obtain rfl : g' = B := by simpa [Value.ownBlock] using e
    rw [h1] at hh
    simp only [Option.some.injEq, Obj.cells.injEq] at hh
    exact absurd hh.2.1 (by decide)
/-- behind a call of the ring's the document's stands -/
theorem Pr.ring {X : Nat → Prop} {w w' : World} {B g D n hi : Nat} {l : List Int} (h : Pr X w B g D n hi l) (hf : Fx [B, g] w w') : ∃ v, Dg w' D n hi v l ∧ ∀ k, v.ownBlock = some k → k ≠ g ∧ ¬ X k := by
  obtain ⟨v, hd, hk⟩ := h.d
  have hn := h.ne
  refine ⟨v, ⟨hf.heap hd.o (by simp; exact hn), hf.own hd.p (fun k e => ?_), hd.m, hd.y⟩, hk⟩
  have h1 := (hk k e).1
  have h2 : k ≠ B := fun e2 => Pr.vB h.q hd.p (e2 ▸ e)
  simp; exact ⟨h2, h1⟩
/-- behind a call of the document's -/
theorem Pr.doc {X : Nat → Prop} {w w' : World} {B g D n hi : Nat} {l : List Int} {v : Value} (hq : iQ w B g n hi (intsV l)) (hD : D ≠ B ∧ D ≠ g) (hd : Dg w' D n hi v l) (hk : ∀ k, v.ownBlock = some k → w.heap.size ≤ k) (hX : ∀ k, X k → k < w.heap.size) (hf : Fx [D] w w') : Pr X w' B g D n hi l :=
  ⟨hq.kept hf (by simp; exact fun e => hD.1 e.symm) (by simp; exact fun e => hD.2 e.symm), ⟨v, hd, fun k e => ⟨by have := hk k e; have := hq.lts; omega, fun e2 => by have := hk k e; have := hX k e2; omega⟩⟩, fun k e => Nat.lt_of_lt_of_le (hX k e) hf.size⟩
end Go.Proofs.Ytlbkbnhnklaebaa
