import Derived.Test.YticgikbnlpgnkaaYp
namespace Go.Proofs.Yticgikbnlpgnkaa
open Go.RowKit
set_option linter.unusedVariables false
set_option linter.unusedSimpArgs false

/-! ### The document's queue: put, Take -/
/-- One cell of a row is written. -/
theorem own_set1 {w : World} {E n g c i : Nat} {u : Value} {xs : List Value} (h : w.ownsRow 0 E 1 (.slice (some ⟨g, 0, none⟩) n c) n xs) (hi : i < n) : (w.setCell ⟨g, i, none⟩ u).ownsRow 0 E 1 (.slice (some ⟨g, 0, none⟩) n c) n (xs.set i u) := by
  obtain ⟨hl, ⟨h0, _⟩ | ⟨g', cap, cur, hv, hb, hh, h1, h2, h3, h4⟩⟩ := h
  · cases h0
  · cases hv
    refine ⟨by simpa using hl, .inr ⟨g, c, _, rfl, hb, heap_setCell_same w g i _ _ u hh, h1, h2, by simpa using h3, ?_⟩⟩
    rw [Array.toList_setIfInBounds, ← h4, List.take_set]
theorem own_blk {w : World} {b E k n : Nat} {v : Value} {xs : List Value} (h : w.ownsRow b E k v n xs) {g : Nat} (hg : v.ownBlock = some g) : ∃ cs, w.heap[g]? = some (.cells cs E) := by
  rcases h.2 with ⟨h1, _⟩ | ⟨g', cap, cur, h1, _, hh, _⟩
  · rw [h1] at hg; cases hg
  · rw [h1] at hg
    obtain rfl : g' = g := by simpa [Value.ownBlock] using hg
    exact ⟨_, hh⟩
theorem ty_ne {w : World} {a b : Nat} {c d : Array Value} {S T : TypeId} (ha : w.heap[a]? = some (.cells c S)) (hb : w.heap[b]? = some (.cells d T)) (h : S ≠ T) : a ≠ b := fun e => by
  subst e
  rw [ha] at hb
  simp only [Option.some.injEq, Obj.cells.injEq] at hb
  exact h hb.2.1
section
variable {w : World} {D : Nat} {N Y : Nat → Prop} {rs : List Rr} {vr vl vh : Value} {ls : List Sl}
theorem rowP_set {i : Nat} {r : Rr} (hi : rs[i]? = some r) (h' : Nat) (l' : List Int) : rowP (rs.set i ⟨r.p, r.c, h', l'⟩) = rowP rs := by
  unfold rowP
  rw [List.map_set]
  apply List.ext_getElem?
  intro j
  by_cases e : i = j
  · subst e
    rw [List.getElem?_set_self (by simpa using (List.getElem?_eq_some_iff.1 hi).1)]
    simp [hi]
  · rw [List.getElem?_set_ne e]
theorem DV.setL (h : DV w D N Y rs vr vl vh ls) {i : Nat} {r : Rr} (hi : rs[i]? = some r) {g c : Nat} (hv : vl = .slice (some ⟨g, 0, none⟩) rs.length c) {s' : Sl} {l' : List Int} (hR : RowsAt w 1 inP s' l') (hs' : ∀ g off, s'.a = some ⟨g, off, none⟩ → ¬ N g ∧ vh.ownBlock ≠ some g ∧ ∃ cs, w.heap[g]? = some (.cells cs 3)) :
    DV (w.setCell ⟨g, i, none⟩ (slV s')) D N Y (rs.set i ⟨r.p, r.c, r.h, l'⟩) vr vl vh (ls.set i s') ∧ Fz Y w (w.setCell ⟨g, i, none⟩ (slV s')) := by
  have hlt := (List.getElem?_eq_some_iff.1 hi).1
  have hYg : Y g := h.y g (.inl (by rw [hv]; rfl))
  have hF : Fz (fun b => b = g) w (w.setCell ⟨g, i, none⟩ (slV s')) := (Fz.refl (fun b => b = g) w).set (b := g) (.inl rfl) i _
  obtain ⟨cg, hcg⟩ := own_blk h.l (g := g) (by rw [hv]; rfl)
  have hDg : D ≠ g := ty_ne h.o hcg (by decide)
  have hint : ∀ b cs, w.heap[b]? = some (.cells cs 3) → b ≠ g := fun b cs hb => ty_ne hb hcg (by decide)
  refine ⟨⟨hF.heap h.o hDg, ?_, ?_, ?_, by simpa using h.n, fun j x s hx hs => ?_, h.y, fun b hb => ⟨Nat.lt_of_lt_of_le (h.yn b hb).1 hF.size, (h.yn b hb).2⟩, h.f⟩, hF.mono (fun b e => by rw [e]; exact hYg)⟩
  · rw [rowP_set hi, List.length_set]
    refine hF.own h.r (fun b hb e => ?_)
    obtain ⟨cb, hcb⟩ := own_blk h.r hb
    exact ty_ne hcb hcg (by decide) e
  · rw [List.map_set, List.length_set]
    have := h.l
    rw [hv] at this ⊢
    exact own_set1 this hlt
  · have e : highV (rs.set i ⟨r.p, r.c, r.h, l'⟩) = highV rs := by
      unfold highV
      rw [List.map_set]
      apply List.ext_getElem?
      intro j
      by_cases e : i = j
      · subst e
        rw [List.getElem?_set_self (by simpa using hlt)]
        simp [hi]
      · rw [List.getElem?_set_ne e]
    rw [e, List.length_set]
    refine hF.own h.h (fun b hb e => ?_)
    obtain ⟨cb, hcb⟩ := own_blk h.h hb
    exact hint b cb hcb e
  · by_cases e : i = j
    · subst e
      rw [List.getElem?_set_self hlt] at hx
      rw [List.getElem?_set_self (by rw [h.n]; exact hlt)] at hs
      cases hx
      cases hs
      refine ⟨inRows_kept hR hF (fun b off e => ?_), fun b off e => ?_⟩
      · obtain ⟨_, _, cs, hcs⟩ := hs' b off e
        exact hint b cs hcs
      · obtain ⟨k1, k2, cs, hcs⟩ := hs' b off e
        exact ⟨k1, k2, cs, hF.heap hcs (hint b cs hcs)⟩
    · rw [List.getElem?_set_ne e] at hx hs
      obtain ⟨k1, k2⟩ := h.s j x s hx hs
      refine ⟨inRows_kept k1 hF (fun b off e => ?_), fun b off e => ?_⟩
      · obtain ⟨_, _, cs, hcs⟩ := k2 b off e
        exact hint b cs hcs
      · obtain ⟨m1, m2, cs, hcs⟩ := k2 b off e
        exact ⟨m1, m2, cs, hF.heap hcs (hint b cs hcs)⟩
theorem DV.setH (h : DV w D N Y rs vr vl vh ls) {i : Nat} {r : Rr} (hi : rs[i]? = some r) {g c : Nat} (hv : vh = .slice (some ⟨g, 0, none⟩) rs.length c) (h' : Nat) :
    DV (w.setCell ⟨g, i, none⟩ (I h')) D N Y (rs.set i ⟨r.p, r.c, h', r.l⟩) vr vl vh ls ∧ Fz Y w (w.setCell ⟨g, i, none⟩ (I h')) := by
  have hlt := (List.getElem?_eq_some_iff.1 hi).1
  have hYg : Y g := h.y g (.inr (by rw [hv]; rfl))
  have hF : Fz (fun b => b = g) w (w.setCell ⟨g, i, none⟩ (I h')) := (Fz.refl (fun b => b = g) w).set (b := g) (.inl rfl) i _
  obtain ⟨cg, hcg⟩ := own_blk h.h (g := g) (by rw [hv]; rfl)
  have hDg : D ≠ g := ty_ne h.o hcg (by decide)
  refine ⟨⟨hF.heap h.o hDg, ?_, ?_, ?_, by simpa using h.n, fun j x s hx hs => ?_, h.y, fun b hb => ⟨Nat.lt_of_lt_of_le (h.yn b hb).1 hF.size, (h.yn b hb).2⟩, h.f⟩, hF.mono (fun b e => by rw [e]; exact hYg)⟩
  · rw [rowP_set hi, List.length_set]
    refine hF.own h.r (fun b hb e => ?_)
    obtain ⟨cb, hcb⟩ := own_blk h.r hb
    exact ty_ne hcb hcg (by decide) e
  · rw [List.length_set]
    refine hF.own h.l (fun b hb e => ?_)
    obtain ⟨cb, hcb⟩ := own_blk h.l hb
    exact ty_ne hcb hcg (by decide) e
  · have e : highV (rs.set i ⟨r.p, r.c, h', r.l⟩) = (highV rs).set i (I h') := by
      unfold highV
      rw [List.map_set]
    rw [e, List.length_set]
    have := h.h
    rw [hv] at this ⊢
    exact own_set1 this hlt
  · have hk : ∃ y, rs[j]? = some y ∧ x.l = y.l := by
      rcases set_get j hx with ⟨rfl, rfl, _⟩ | ⟨_, h2⟩
      · exact ⟨r, hi, rfl⟩
      · exact ⟨x, h2, rfl⟩
    obtain ⟨y, hy, e⟩ := hk
    obtain ⟨k1, k2⟩ := h.s j y s hy hs
    rw [e]
    refine ⟨inRows_kept k1 hF (fun b off e2 e3 => ?_), fun b off e2 => ?_⟩
    · exact (k2 b off e2).2.1 (by rw [hv, e3]; rfl)
    · obtain ⟨m1, m2, cs, hcs⟩ := k2 b off e2
      exact ⟨m1, m2, cs, hF.heap hcs (fun e3 => m2 (by rw [hv, e3]; rfl))⟩
end
/-- A row of ints of its own, as a slice. -/
theorem own_in {w : World} {b n : Nat} {v : Value} {l : List Int} (h : w.ownsRow b 3 1 v n (intsV l)) (hn : n = l.length) : ∃ s : Sl, v = slV s ∧ RowsAt w 1 inP s l ∧ ∀ g off, s.a = some ⟨g, off, none⟩ → b ≤ g ∧ v.ownBlock = some g ∧ ∃ cs, w.heap[g]? = some (.cells cs 3) := by
  subst hn
  rcases h.2 with ⟨h1, h0⟩ | ⟨g, cap, cur, h1, hb, hh, k1, k2, k3, k4⟩
  · have : l = [] := List.eq_nil_of_length_eq_zero h0
    subst this
    exact ⟨⟨none, 0, 0⟩, h1, ⟨rfl, Nat.le_refl _, Nat.zero_le _, fun j x hj => by simp at hj⟩, fun g off e => by cases e⟩
  · refine ⟨⟨some ⟨g, 0, none⟩, l.length, cap⟩, h1, ⟨rfl, k1, k2, fun j x hj => ⟨g, 0, rfl, heap_lt hh, fun i hi => ?_⟩⟩, fun g2 off e => ?_⟩
    · obtain rfl : i = 0 := by omega
      have := h.cells (g := g) (by rw [h1]; rfl) j (I x) (by simp [intsV, hj])
      rw [addr_add] at this
      exact ⟨I x, by simpa using this, rfl⟩
    · cases e
      exact ⟨hb, by rw [h1]; rfl, cur, hh⟩
theorem run_append_none_sc {P : Program} (w : World) (base : Nat) (t ty e : TypeId) (i : TypeInfo) (size : Nat) (ht : P.underlying t = some (.slice e)) (hi : P.info? e = some i)
    (v : Value) (n : Nat) (xs : List Value) (hown : w.ownsRow base e size v n xs) (sc : Nat) : (Builtin.append_ #[t, t] ty #[v, .slice none 0 sc]).run P w = .ok v w := by
  rcases hown.2 with ⟨rfl, rfl⟩ | ⟨g, cap, cur, rfl, _, _, hnc, _⟩
  · simp [Builtin.append_, run_underlying ht, sizeOf, typeInfo, hi, Builtin.lenOf, Builtin.firstCells]
  · simp [Builtin.append_, run_underlying ht, sizeOf, typeInfo, hi, Builtin.lenOf, Builtin.firstCells, hnc, storeCells]
/-- append(l, s...) of a slice of ints, be it nil. -/
theorem run_append_sl {P : Program} (w : World) (base : Nat) (t ty e : TypeId) (i : TypeInfo) (z : Value) (bytes : Nat) (ht : P.underlying t = some (.slice e)) (hi : P.info? e = some i) (hz : i.zero = some z)
    (hsize : i.size = 1) (hby : i.bytes = bytes) (hzs : z.cells.size = 1) (v : Value) (n : Nat) (xs : List Value) (s : Sl) (l : List Int) (hown : w.ownsRow base e 1 v n xs) (hs : RowsAt w 1 inP s l)
    (h63 : n + l.length ≤ maxLen) (hbytes : (n + l.length) * bytes ≤ 140737488355328) (hbase : base ≤ w.heap.size) :
    ∃ v' w', (Builtin.append_ #[t, t] ty #[v, slV s]).run P w = .ok v' w' ∧ w'.ownsRow base e 1 v' (n + l.length) (xs ++ intsV l) ∧ w.grownBy w' v.ownBlock := by
  obtain ⟨sa, sn, sc⟩ := s
  have hn : sn = l.length := hs.n
  subst hn
  cases sa with
  | none =>
    have hl : l = [] := by
      cases l with
      | nil => rfl
      | cons x t =>
        obtain ⟨g, off, e, _⟩ := hs.row 0 x rfl
        cases e
    subst hl
    have hc : sc = sc := rfl
    refine ⟨v, w, ?_, by simpa [intsV] using hown, grown_refl _ _⟩
    exact run_append_none_sc w base t ty e i 1 ht hi v n xs hown sc
  | some ad =>
    obtain ⟨v', w', hr, h2, h3, _⟩ := run_append_own (P := P) w base t ty e i z 1 bytes ht hi hz hsize hby hzs (by decide) v n xs hown ad l.length sc (intsV l) (by simp [intsV]) (fun j u hj => by
      unfold intsV at hj
      rw [List.getElem?_map] at hj
      obtain ⟨x, hx, rfl⟩ := Option.map_eq_some_iff.1 hj
      obtain ⟨g, off, e, _, hr⟩ := hs.row j x hx
      cases e
      obtain ⟨u, hu, hp⟩ := hr 0 (by decide)
      rw [addr_add]
      cases hp
      simpa using hu) (ones2 l) h63 hbytes hbase
    exact ⟨v', w', hr, h2, h3⟩
theorem wpList_append_sl {P : Program} (w : World) {ops : Array Oper} {rest : List Oper} {o : Oper} {a : Act} {Q : Exit → Act → World → Prop} (hgd : o.guard = none) (s x : Operand) (t : TypeId)
    (ho : o.op = .call { callee := .builtin .append, args := #[s, x], argTypes := #[t, t] })
    (base : Nat) (e : TypeId) (i : TypeInfo) (z : Value) (bytes : Nat) (ht : P.underlying t = some (.slice e)) (hi : P.info? e = some i) (hz : i.zero = some z)
    (hsize : i.size = 1) (hby : i.bytes = bytes) (hzs : z.cells.size = 1) (v : Value) (n : Nat) (xs : List Value) (sl : Sl) (l : List Int) (hs : a.eval s = v) (hx : a.eval x = .slice sl.a sl.n sl.c) (hown : w.ownsRow base e 1 v n xs) (hr : RowsAt w 1 inP sl l)
    (h63 : n + l.length ≤ maxLen) (hbytes : (n + l.length) * bytes ≤ 140737488355328) (hbase : base ≤ w.heap.size)
    (h : ∀ v' w', w'.ownsRow base e 1 v' (n + l.length) (xs ++ intsV l) → w.grownBy w' v.ownBlock → wpList P ops Q rest (a.put o.dst v') w') :
    wpList P ops Q (o :: rest) a w := by
  refine wpList_plain hgd fun K hK => ?_
  obtain ⟨v', w', hru, h2, h3⟩ := run_append_sl (P := P) w base t o.type e i z bytes ht hi hz hsize hby hzs v n xs sl l hown hr h63 hbytes hbase
  change (Builtin.append_ #[t, t] o.type #[v, .slice sl.a sl.n sl.c]).run P w = .ok v' w' at hru
  unfold Oper.wp execOp
  simp only [ho, resolve, invoke, builtin, Sem.run_bind, Sem.run_pure, Result.andThen_ok, List.map_toArray, List.map_cons, List.map_nil, hs, hx, hru]
  exact hK _ _ (h v' w' h2 h3)
section
variable {w : World} {D : Nat} {N Y : Nat → Prop} {rs : List Rr} {vr vl vh : Value} {ls : List Sl}
set_option maxHeartbeats 4000000 in
theorem dput_no (h : DV w D N Y rs vr vl vh ls) {p : Int} (hp : Noway rs p) (hn : rs.length ≤ 64) (v : Int) (b : Bool) : Calls Try.prog 38 #[dQ D, I p, I v, .bool b] w fun e w' => e = .returned (I 130) ∧ w = w' := by
  have hF := dfind_no h hp hn
  clear h hp
  go_enter Try.func38, Try.ntmps38
  go_wp2_with (first | (go_at_call 42; refine hF.mono ?_; rintro e w1 ⟨rfl, rfl⟩))
  go_ret
  exact ⟨rfl, rfl⟩
set_option maxHeartbeats 4000000 in
theorem dput_full (h : DV w D N Y rs vr vl vh ls) {i : Nat} {x : Rr} (hi : rs[i]? = some x) (hF : Fall rs) (hn : rs.length ≤ 64) (hl : x.l.length = x.c) (v : Int) (b : Bool) : Calls Try.prog 38 #[dQ D, I x.p, I v, .bool b] w fun e w' => e = .returned (I 131) ∧ ∃ q, w' = w.drewN q := by
  have hf := dfind_ok h hi hF hn
  obtain ⟨c0, c1, -⟩ := h.cells
  obtain ⟨g, c, s, rfl, hs, hc, hz, hr⟩ := h.lAt hi
  obtain ⟨g2, c2, rfl, -, hx1⟩ := h.rowAt hi
  have hlt := (List.getElem?_eq_some_iff.1 hi).1
  have hi0 : ¬ (i : Int) < 0 := by omega
  have hiI : (i : Int) < rs.length := by omega
  have hsn := hr.n
  obtain ⟨sa, sn, sc⟩ := s
  simp only at hsn
  subst hsn
  rw [← hl] at hx1
  clear h hi hF hr hl hs hz
  generalize x.l.length = m at *
  go_enter Try.func38, Try.ntmps38
  go_wp2_with (first | (go_at_call 42; refine hf.mono ?_; rintro e w1 ⟨rfl, rfl⟩))
  go_quiet (fail)
  go_wp2
  go_ret
  exact ⟨rfl, nq, rfl⟩
end
end Go.Proofs.Yticgikbnlpgnkaa
