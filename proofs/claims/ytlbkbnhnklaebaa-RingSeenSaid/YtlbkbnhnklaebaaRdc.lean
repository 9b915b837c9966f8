import Derived.Test.YtlbkbnhnklaebaaRpa
namespace Go.Proofs.Ytlbkbnhnklaebaa
open Go.RowKit
set_option linter.unusedVariables false
set_option linter.unusedSimpArgs false

/-! ### The document's ring -/
theorem own_base {w : World} {b b' e k n : Nat} {v : Value} {xs : List Value} (h : w.ownsRow b e k v n xs) (hb : b' ≤ b) : w.ownsRow b' e k v n xs := by
  obtain ⟨hl, h0 | ⟨g, cap, cur, hv, hb1, hh, rr⟩⟩ := h
  · exact ⟨hl, .inl h0⟩
  · exact ⟨hl, .inr ⟨g, cap, cur, hv, by omega, hh, rr⟩⟩
/-- An append of a row that may be nil. -/
theorem run_append_both {P : Program} (w : World) (base b2 : Nat) (t ty e : TypeId) (i : TypeInfo) (z : Value) (bytes : Nat) (ht : P.underlying t = some (.slice e)) (hi : P.info? e = some i) (hz : i.zero = some z)
    (hsize : i.size = 1) (hby : i.bytes = bytes) (hzs : z.cells.size = 1) (v u : Value) (n m : Nat) (xs ys : List Value) (hown : w.ownsRow base e 1 v n xs) (hu : w.ownsRow b2 e 1 u m ys) (h1 : ∀ y ∈ ys, y.oneCell' = true)
    (h63 : n + m ≤ maxLen) (hbytes : (n + m) * bytes ≤ 140737488355328) (hbase : base ≤ w.heap.size) :
    ∃ v' w', (Builtin.append_ #[t, t] ty #[v, u]).run P w = .ok v' w' ∧ w'.ownsRow base e 1 v' (n + m) (xs ++ ys) ∧ w.grownBy w' v.ownBlock := by
  rcases hu.2 with ⟨rfl, rfl⟩ | ⟨g, cap, cur, rfl, _⟩
  · have hy : ys = [] := List.eq_nil_of_length_eq_zero (by have := hu.1; simpa using this)
    subst hy
    exact ⟨v, w, run_append_owned_none (P := P) w base t ty e i 1 ht hi v n xs hown, by simpa using hown, grown_refl _ _⟩
  · obtain ⟨v', w', hr, h2, h3, _⟩ := run_append_own (P := P) w base t ty e i z 1 bytes ht hi hz hsize hby hzs (by decide) v n xs hown ⟨g, 0, none⟩ m cap ys (by rw [Nat.mul_one]; have := hu.1; omega) (hu.cells rfl) h1 h63 hbytes hbase
    exact ⟨v', w', hr, h2, h3⟩
theorem wpList_append_both {P : Program} (w : World) {ops : Array Oper} {rest : List Oper} {o : Oper} {a : Act} {Q : Exit → Act → World → Prop} (hgd : o.guard = none) (s x : Operand) (t : TypeId)
    (ho : o.op = .call { callee := .builtin .append, args := #[s, x], argTypes := #[t, t] })
    (base b2 : Nat) (e : TypeId) (i : TypeInfo) (z : Value) (bytes : Nat) (ht : P.underlying t = some (.slice e)) (hi : P.info? e = some i) (hz : i.zero = some z)
    (hsize : i.size = 1) (hby : i.bytes = bytes) (hzs : z.cells.size = 1) (v u : Value) (n m : Nat) (xs ys : List Value) (hs : a.eval s = v) (hx : a.eval x = u) (hown : w.ownsRow base e 1 v n xs) (hu : w.ownsRow b2 e 1 u m ys) (h1 : ∀ y ∈ ys, y.oneCell' = true)
    (h63 : n + m ≤ maxLen) (hbytes : (n + m) * bytes ≤ 140737488355328) (hbase : base ≤ w.heap.size)
    (h : ∀ v' w', w'.ownsRow base e 1 v' (n + m) (xs ++ ys) → w.grownBy w' v.ownBlock → wpList P ops Q rest (a.put o.dst v') w') :
    wpList P ops Q (o :: rest) a w := by
  refine wpList_plain hgd fun K hK => ?_
  obtain ⟨v', w', hr, h2, h3⟩ := run_append_both (P := P) w base b2 t o.type e i z bytes ht hi hz hsize hby hzs v u n m xs ys hown hu h1 h63 hbytes hbase
  unfold Oper.wp execOp
  simp only [ho, resolve, invoke, builtin, Sem.run_bind, Sem.run_pure, Result.andThen_ok, List.map_toArray, List.map_cons, List.map_nil, hs, hx, hr]
  exact hK _ _ (h v' w' h2 h3)
theorem step_append_both {P : Program} {ops : Array Oper} {o : Oper} {a : Act} {w : World} {K : Act → World → Prop} {Q : Exit → Act → World → Prop} {E : Prop} (hgd : o.guard = none) (s x : Operand) (t : TypeId)
    (ho : o.op = .call { callee := .builtin .append, args := #[s, x], argTypes := #[t, t] })
    (base b2 : Nat) (e : TypeId) (i : TypeInfo) (z : Value) (bytes : Nat) (ht : P.underlying t = some (.slice e)) (hi : P.info? e = some i) (hz : i.zero = some z)
    (hsize : i.size = 1) (hby : i.bytes = bytes) (hzs : z.cells.size = 1) (v u : Value) (n m : Nat) (xs ys : List Value) (hs : a.eval s = v) (hx : a.eval x = u) (hown : w.ownsRow base e 1 v n xs) (hu : w.ownsRow b2 e 1 u m ys) (h1 : ∀ y ∈ ys, y.oneCell' = true)
    (h63 : n + m ≤ maxLen) (hbytes : (n + m) * bytes ≤ 140737488355328) (hbase : base ≤ w.heap.size)
    (h : ∀ v' w', w'.ownsRow base e 1 v' (n + m) (xs ++ ys) → w.grownBy w' v.ownBlock → K (a.put o.dst v') w') :
    if Region.wanted o (yielded ops a.tmps) = true then Oper.wp P o a w K Q else E := by
  have hw : Region.wanted o (yielded ops a.tmps) = true := by simp [Region.wanted, hgd]
  rw [if_pos hw]
  obtain ⟨v', w', hr, h2, h3⟩ := run_append_both (P := P) w base b2 t o.type e i z bytes ht hi hz hsize hby hzs v u n m xs ys hown hu h1 h63 hbytes hbase
  unfold Oper.wp
  simp [execOp, ho, resolve, invoke, builtin, hs, hx, hr, Result.andThen]
  exact h v' w' h2 h3
theorem ones (l : List Int) : ∀ u ∈ (l.map fun x => I x), u.oneCell' = true := fun u hu => by
  obtain ⟨x, _, rfl⟩ := List.mem_map.1 hu
  rfl
/-- The document's ring in block D. -/
structure Dg (w : World) (D n hi : Nat) (v : Value) (l : List Int) : Prop where
  o : w.heap[D]? = some (.cells #[.bool true, I n, v, I hi] 47)
  p : w.ownsRow 0 3 1 v l.length (l.map fun x => I x)
  m : n ≤ 65536
  y : hi ≤ n
theorem Dg.cells {w : World} {D n hi : Nat} {v : Value} {l : List Int} (h : Dg w D n hi v l) : w.cell? ⟨D, 0, none⟩ = some (.bool true) ∧ w.cell? ⟨D, 1, none⟩ = some (I n) ∧ w.cell? ⟨D, 2, none⟩ = some v ∧ w.cell? ⟨D, 3, none⟩ = some (I hi) := by
  refine ⟨?_, ?_, ?_, ?_⟩ <;> (rw [cell_of_row w D _ _ _ (0, 0) h.o]; rfl)
theorem Dg.frz {w : World} {D n hi : Nat} {v : Value} {l : List Int} (h : Dg w D n hi v l) (j : Nat) : w.frozen? ⟨D, j, none⟩ = false := frozen_of_row w D j _ _ h.o
theorem Dg.below {w w' : World} {D n hi : Nat} {v : Value} {l : List Int} (h : Dg w D n hi v l) (hb : Below w.heap.size w w') : Dg w' D n hi v l :=
  ⟨(hb.block D (heap_lt h.o)).trans h.o, own_below h.p hb, h.m, h.y⟩
theorem Dg.drewN {w : World} {D n hi : Nat} {v : Value} {l : List Int} (h : Dg w D n hi v l) (q : Nat) : Dg (w.drewN q) D n hi v l := h.below (below_drewN q (Below.refl _ _))
/-- A new row in place of the old one. -/
theorem Dg.set {w w' : World} {D n hi : Nat} {v v' : Value} {l l' : List Int} (h : Dg w D n hi v l) (hf : Fx [] w w') (hp : w'.ownsRow w.heap.size 3 1 v' l'.length (l'.map fun x => I x)) : Dg (w'.setCell ⟨D, 2, none⟩ v') D n hi v' l' ∧ Fx [D] w (w'.setCell ⟨D, 2, none⟩ v') ∧ ∀ k, v'.ownBlock = some k → w.heap.size ≤ k := by
  have hD := heap_lt h.o
  have ho := heap_setCell_same w' D 2 _ _ v' (hf.heap h.o (by simp))
  have gs := grown_set w' D 2 v'
  refine ⟨⟨ho, own_base (hp.kept gs (.inr (fun e => by have := (hp.lt D e).1; omega))) (Nat.zero_le _), h.m, h.y⟩, (hf.mono (by simp)).set (b := D) (.inl (by simp)) _ _, fun k e => (hp.lt k e).1⟩
theorem Dg.high {w : World} {D n hi hi' : Nat} {v : Value} {l : List Int} (h : Dg w D n hi v l) (hy : hi' ≤ n) (hD : v.ownBlock ≠ some D) : Dg (w.setCell ⟨D, 3, none⟩ (I hi')) D n hi' v l := by
  have ho := heap_setCell_same w D 3 _ _ (I hi') h.o
  exact ⟨ho, h.p.kept (grown_set w D 3 _) (.inr hD), h.m, hy⟩
theorem Dg.notD {w : World} {D n hi : Nat} {v : Value} {l : List Int} (h : Dg w D n hi v l) : v.ownBlock ≠ some D := fun e => by
  rcases h.p.2 with ⟨h1, _⟩ | ⟨g, cap, cur, h1, _, hh, _⟩
  · rw [h1] at e; cases e
  · rw [h1] at e
    obtain rfl : g = D := by simpa [Value.ownBlock] using e
    rw [h.o] at hh
    cases hh
abbrev dP (D : Nat) : Value := .pointer (some ⟨D, 0, none⟩)
theorem dNew_ok (w : World) (n : Nat) (hn : n ≤ 65536) : Calls Try.prog 18 #[I n] w fun e w' => e = .returned (.tuple #[dP w.heap.size, I 0]) ∧ Dg w' w.heap.size n 0 (.slice none 0 0) [] ∧ Below w.heap.size w w' := by
  have h1 : ¬ (n : Int) < 0 := by omega
  have h2 : ¬ (65536 : Int) < n := by omega
  go_enter Try.func18, Try.ntmps18
  go_wp2
  go_ret2
  exact ⟨rfl, ⟨heap_alloc_new w _, World.ownsRow_nil _ _ _ _, hn, by simp⟩, below_alloc w _⟩
theorem dNew_no (w : World) (n : Int) (hn : n < 0 ∨ 65536 < n) : Calls Try.prog 18 #[I n] w fun e w' => e = .returned (.tuple #[dP w.heap.size, I 120]) ∧ w'.cell? ⟨w.heap.size, 0, none⟩ = some (.bool false) ∧ Below w.heap.size w w' := by
  rcases hn with hn | hn
  · go_enter Try.func18, Try.ntmps18
    go_wp2
    go_ret2
    exact ⟨rfl, by rw [cell_of_row _ _ _ _ _ (0, 0) (heap_alloc_new w _)]; rfl, below_alloc w _⟩
  · have h1 : ¬ n < 0 := by omega
    go_enter Try.func18, Try.ntmps18
    go_wp2
    go_ret2
    exact ⟨rfl, by rw [cell_of_row _ _ _ _ _ (0, 0) (heap_alloc_new w _)]; rfl, below_alloc w _⟩
section
variable {w : World} {D n hi : Nat} {v : Value} {l : List Int}
theorem dPut_full (h : Dg w D n hi v l) (hc : l.length = n) (x : Int) (b : Bool) : Calls Try.prog 20 #[dP D, I x, .bool b] w fun e w' => e = .returned (I 121) ∧ Below w.heap.size w w' := by
  obtain ⟨c0, c1, c2, -⟩ := h.cells
  obtain ⟨a, cc, rfl⟩ : ∃ a cc, v = .slice a l.length cc := by
    rcases h.p.2 with ⟨h1, h0⟩ | ⟨g, cap, cur, h1, _⟩
    · exact ⟨none, 0, by rw [h0]; exact h1⟩
    · exact ⟨_, _, h1⟩
  have hm := h.m
  have h1 : (n : Int) ≤ l.length := by omega
  clear h hc
  go_enter Try.func20, Try.ntmps20
  go_wp2
  go_quiet (fail)
  go_wp2
  go_ret
  exact ⟨rfl, below_drewN _ (Below.refl _ _)⟩
end
end Go.Proofs.Ytlbkbnhnklaebaa
