import Derived.Test.YtapfbinaocaclaaEey
namespace Go.Proofs.Ytapfbinaocaclaa
open Go.RowKit Go.Maps
set_option linter.unusedVariables false
set_option linter.unusedSimpArgs false

/-! ### Copies of a configuration: memory -/
structure RowsX {α : Type} (k : Nat) (P : α → Nat → Value → Prop) (l : List α) (xs : List Value) : Prop where
  n : xs.length = l.length * k
  at' : ∀ j x, l[j]? = some x → ∀ i, i < k → ∃ u, xs[j * k + i]? = some u ∧ P x i u
theorem RowsX.nil {α : Type} (k : Nat) (P : α → Nat → Value → Prop) : RowsX k P [] [] := ⟨by simp, fun j x hj => by simp at hj⟩
theorem RowsX.mono {α : Type} {k : Nat} {P Q : α → Nat → Value → Prop} {l : List α} {xs : List Value} (h : RowsX k P l xs) (hPQ : ∀ x i u, P x i u → Q x i u) : RowsX k Q l xs :=
  ⟨h.n, fun j x hj i hi => by obtain ⟨u, h1, h2⟩ := h.at' j x hj i hi; exact ⟨u, h1, hPQ x i u h2⟩⟩
theorem RowsX.snoc {α : Type} {k : Nat} {P : α → Nat → Value → Prop} {l : List α} {xs : List Value} (h : RowsX k P l xs) (x : α) (cs : List Value) (hc : cs.length = k) (hP : ∀ i, i < k → ∃ u, cs[i]? = some u ∧ P x i u) : RowsX k P (l ++ [x]) (xs ++ cs) := by
  refine ⟨by rw [List.length_append, List.length_append, h.n, hc, Nat.add_mul]; simp, fun j y hj i hi => ?_⟩
  by_cases hjl : j < l.length
  · rw [List.getElem?_append_left hjl] at hj
    obtain ⟨u, h1, h2⟩ := h.at' j y hj i hi
    exact ⟨u, by rw [List.getElem?_append_left (List.getElem?_eq_some_iff.1 h1).1]; exact h1, h2⟩
  · have hje : j = l.length := by
      have := (List.getElem?_eq_some_iff.1 hj).1
      simp at this
      omega
    subst hje
    rw [List.getElem?_append_right (Nat.le_refl _), Nat.sub_self] at hj
    have hxy : x = y := by simpa using hj
    subst hxy
    obtain ⟨u, h1, h2⟩ := hP i hi
    refine ⟨u, ?_, h2⟩
    rw [List.getElem?_append_right (by rw [h.n]; omega), h.n]
    rw [show l.length * k + i - l.length * k = i by omega]
    exact h1
theorem RowsX.rows {α : Type} {w : World} {base E k : Nat} {P : α → Nat → Value → Prop} {s : Sl} {l : List α} {xs : List Value} (ho : w.ownsRow base E k (.slice s.a s.n s.c) l.length xs) (h : RowsX k P l xs) : RowsAt w k P s l := by
  rcases ho.2 with ⟨e, h0⟩ | ⟨g, cap, cur, e, hb, hg, hnc, hcm, hcs, htk⟩
  · injection e with e1 e2 e3
    exact ⟨by rw [e2, h0], by rw [e2]; exact Nat.zero_le _, by rw [e3]; exact Nat.zero_le _, fun j x hj => by have := (List.getElem?_eq_some_iff.1 hj).1; omega⟩
  · injection e with e1 e2 e3
    refine ⟨e2, by rw [e2, e3]; exact hnc, by rw [e3]; exact hcm, fun j x hj => ⟨g, 0, e1, heap_lt hg, fun i hi => ?_⟩⟩
    obtain ⟨u, h1, h2⟩ := h.at' j x hj i hi
    refine ⟨u, ?_, h2⟩
    rw [e1, e2, e3] at ho
    have hlt : j * k + i < l.length * k := by have := (List.getElem?_eq_some_iff.1 h1).1; rw [h.n] at this; exact this
    rw [show 0 + j * k + i = j * k + i by omega, ho.cellAt _ hlt]
    exact h1
/-- Rows of unlike types lie apart. -/
theorem own_kept_ty {W W' : World} {b1 b2 E1 E2 k1 k2 n m : Nat} {u v : Value} {xs ys : List Value} (h : W.ownsRow b1 E1 k1 u n xs) (h2 : W.ownsRow b2 E2 k2 v m ys) (hne : E1 ≠ E2) (hg : W.grownBy W' v.ownBlock) : W'.ownsRow b1 E1 k1 u n xs := by
  refine h.kept hg ?_
  rcases h.2 with ⟨h0, _⟩ | ⟨g, cap, cur, hv, _, hh, _⟩
  · rw [h0]; exact .inl rfl
  · right
    intro e
    rcases h2.2 with ⟨h0, _⟩ | ⟨g', cap', cur', hv', _, hh', _⟩
    · rw [h0, hv] at e; cases e
    · rw [hv, hv'] at e
      have e3 : g = g' := Option.some.inj e
      rw [e3, hh'] at hh
      injection hh with hh
      injection hh with _ e4
      exact hne e4.symm
theorem own_kept_blk {W W' : World} {b1 E1 k1 n g : Nat} {u : Value} {xs : List Value} (h : W.ownsRow b1 E1 k1 u n xs) (hg : W.grownBy W' (some g)) (hb : g < b1) : W'.ownsRow b1 E1 k1 u n xs :=
  h.kept hg (.inr (fun e => by have := (h.lt g e).1; omega))
abbrev IntsO (w : World) (base : Nat) (l : List Int) (u : Value) : Prop := w.ownsRow base 3 1 u l.length (l.map fun x => I x)
theorem intsO_v {w : World} {base : Nat} {l : List Int} {u : Value} (h : IntsO w base l u) : IntsV w l u := rows_ints h (l := l) rfl rfl
def cpT (x : Tk) : Tk := ⟨x.name, x.prio, x.full, 0, [], x.res, [], []⟩
def cpI (x : Is) : Is := ⟨x.name, 0, x.prio, x.res, []⟩
def cpyC (c : Cf) : Cf := { cpu := [], osn := [], o1 := false, o2 := false, o3 := false, o4 := false, o5 := false, o6 := false, o7 := false, o8 := c.o8, modes := [], tasks := c.tasks.map cpT, ress := c.ress, evs := [], ctrs := [], als := [], isrs := c.isrs.map cpI, msgs := [] }
def tkO (w : World) (base : Nat) (x : Tk) (i : Nat) (u : Value) : Prop := match i with | 0 => u = S x.name | 1 => u = I x.prio | 2 => u = .bool x.full | 3 => u = I 0 | 4 => u = .slice none 0 0 | 5 => IntsO w base x.res u | 6 => u = .slice none 0 0 | _ => u = .slice none 0 0
def isO (w : World) (base : Nat) (x : Is) (i : Nat) (u : Value) : Prop := match i with | 0 => u = S x.name | 1 => u = I 0 | 2 => u = I x.prio | 3 => IntsO w base x.res u | _ => u = .slice none 0 0
theorem tkO_P {w : World} {base : Nat} {x : Tk} {i : Nat} {u : Value} (h : tkO w base x i u) : tkP w (cpT x) i u := by
  unfold tkO at h
  unfold tkP
  split at h
  all_goals first | exact h | exact intsO_v h | (subst h; exact intsV_nil w) | skip
  rename_i h0 h1 h2 h3 h4 h5 h6
  subst h
  split
  all_goals first | exact intsV_nil w | (exfalso; simp_all)
theorem isO_P {w : World} {base : Nat} {x : Is} {i : Nat} {u : Value} (h : isO w base x i u) : isP w (cpI x) i u := by
  unfold isO at h
  unfold isP
  split at h
  all_goals first | exact h | exact intsO_v h | skip
  rename_i h0 h1 h2 h3
  subst h
  split
  all_goals first | exact intsV_nil w | (exfalso; simp_all)
theorem tkO_mono {w w' : World} {base : Nat} (hk : ∀ (n : Nat) (u : Value) (xs : List Value), w.ownsRow base 3 1 u n xs → w'.ownsRow base 3 1 u n xs) : ∀ x i u, tkO w base x i u → tkO w' base x i u := fun x i u h => by
  unfold tkO at h ⊢
  split at h <;> first | exact h | exact hk _ _ _ h
theorem isO_mono {w w' : World} {base : Nat} (hk : ∀ (n : Nat) (u : Value) (xs : List Value), w.ownsRow base 3 1 u n xs → w'.ownsRow base 3 1 u n xs) : ∀ x i u, isO w base x i u → isO w' base x i u := fun x i u h => by
  unfold isO at h ⊢
  split at h <;> first | exact h | exact hk _ _ _ h
def dC (o8 : Bool) (ut ur ui : Value) : Array Value := #[S [], S [], .bool false, .bool false, .bool false, .bool false, .bool false, .bool false, .bool false, .bool o8, .slice none 0 0, ut, ur, .slice none 0 0, .slice none 0 0, .slice none 0 0, ui, .slice none 0 0]
structure CpS (w : World) (c : Cf) (v : Vs) (nt nr ni : Nat) (ut ur ui : Value) (W : World) : Prop where
  b : Below w.heap.size w W
  vc : W.heap[w.heap.size]? = some (.cells (cfC c v) 33 (0, 0))
  vr : W.heap[w.heap.size + 1]? = some (.cells (dC false (.slice none 0 0) (.slice none 0 0) (.slice none 0 0)) 33 (0, 0))
  vd : W.heap[w.heap.size + 2]? = some (.cells (dC c.o8 ut ur ui) 33 (0, 0))
  sz : w.heap.size + 3 ≤ W.heap.size
  ot : ∃ xs, W.ownsRow (w.heap.size + 3) 47 8 ut (c.tasks.take nt).length xs ∧ RowsX 8 (tkO W (w.heap.size + 3)) (c.tasks.take nt) xs
  or' : ∃ xs, W.ownsRow (w.heap.size + 3) 89 3 ur (c.ress.take nr).length xs ∧ RowsX 3 rsP (c.ress.take nr) xs
  oi : ∃ xs, W.ownsRow (w.heap.size + 3) 49 5 ui (c.isrs.take ni).length xs ∧ RowsX 5 (isO W (w.heap.size + 3)) (c.isrs.take ni) xs
theorem CpS.below {w : World} {c : Cf} {v : Vs} {nt nr ni : Nat} {ut ur ui : Value} {W W' : World} (h : CpS w c v nt nr ni ut ur ui W) (hb : Below W.heap.size W W') : CpS w c v nt nr ni ut ur ui W' := by
  obtain ⟨xt, t1, t2⟩ := h.ot
  obtain ⟨xr, r1, r2⟩ := h.or'
  obtain ⟨xi, i1, i2⟩ := h.oi
  exact ⟨h.b.trans (hb.mono h.b.size), (hb.block _ (heap_lt h.vc)).trans h.vc, (hb.block _ (heap_lt h.vr)).trans h.vr, (hb.block _ (heap_lt h.vd)).trans h.vd, Nat.le_trans h.sz hb.size, ⟨xt, own_below t1 hb, t2.mono (tkO_mono (fun _ _ _ h => own_below h hb))⟩, ⟨xr, own_below r1 hb, r2⟩, ⟨xi, own_below i1 hb, i2.mono (isO_mono (fun _ _ _ h => own_below h hb))⟩⟩
theorem take_snoc {α : Type} {l : List α} {j : Nat} {x : α} (hx : l[j]? = some x) : l.take (j + 1) = l.take j ++ [x] := by rw [List.take_add_one, hx]; rfl
theorem take_len {α : Type} {l : List α} {j : Nat} {x : α} (hx : l[j]? = some x) : (l.take j).length = j := by have := (List.getElem?_eq_some_iff.1 hx).1; rw [List.length_take]; omega
theorem CpS.task {w : World} {c : Cf} {v : Vs} {nt nr ni : Nat} {ut ur ui : Value} {W w6 : World} (h : CpS w c v nt nr ni ut ur ui W) {x : Tk} (hx : c.tasks[nt]? = some x) {u2 v6 : Value} (h2 : IntsO W (w.heap.size + 3) x.res u2) {xs : List Value} (h1 : W.ownsRow (w.heap.size + 3) 47 8 ut (c.tasks.take nt).length xs) (hX : RowsX 8 (tkO W (w.heap.size + 3)) (c.tasks.take nt) xs)
    (h6 : w6.ownsRow (w.heap.size + 3) 47 8 v6 ((c.tasks.take nt).length + 1) (xs ++ [S x.name, I x.prio, .bool x.full, I 0, .slice none 0 0, u2, .slice none 0 0, .slice none 0 0])) (hg : W.grownBy w6 ut.ownBlock) :
    w6.heap[w.heap.size + 2]? = some (.cells (dC c.o8 ut ur ui) 33 (0, 0)) ∧ CpS w c v (nt + 1) nr ni v6 ur ui (w6.setCell ⟨w.heap.size + 2, 11, none⟩ v6) := by
  obtain ⟨xr, r1, r2⟩ := h.or'
  obtain ⟨xi, i1, i2⟩ := h.oi
  have hlo : ∀ g, g < w.heap.size + 3 → (some g : Option Nat) ≠ ut.ownBlock := fun g hgl e => by have := (h1.lt g e.symm).1; omega
  have vd6 := heap_kept h.vd hg (hlo _ (by omega))
  have gs := grown_set w6 (w.heap.size + 2) 11 v6
  have ki : ∀ (n : Nat) (u : Value) (ys : List Value), W.ownsRow (w.heap.size + 3) 3 1 u n ys → (w6.setCell ⟨w.heap.size + 2, 11, none⟩ v6).ownsRow (w.heap.size + 3) 3 1 u n ys := fun n u ys ho => own_kept_blk (own_kept_ty ho h1 (by decide) hg) gs (by omega)
  have hb6 := h.b.grown hg (Nat.le_trans (by omega) h.sz) (fun k e => by have := (h1.lt k e).1; omega)
  refine ⟨vd6, hb6.grown gs hb6.size (fun k e => by cases e; omega), heap_kept (heap_kept h.vc hg (hlo _ (by omega))) gs (fun e => by have := Option.some.inj e; omega), heap_kept (heap_kept h.vr hg (hlo _ (by omega))) gs (fun e => by have := Option.some.inj e; omega), heap_setCell_same _ _ 11 _ _ _ vd6, Nat.le_trans h.sz (Nat.le_trans hg.size gs.size), ?_, ⟨xr, own_kept_blk (own_kept_ty r1 h1 (by decide) hg) gs (by omega), r2⟩, ⟨xi, own_kept_blk (own_kept_ty i1 h1 (by decide) hg) gs (by omega), i2.mono (isO_mono ki)⟩⟩
  rw [take_snoc hx]
  refine ⟨_, by rw [List.length_append]; exact own_kept_blk h6 gs (by omega), (hX.mono (tkO_mono ki)).snoc x _ rfl (fun i hi => ?_)⟩
  match i, hi with
  | 0, _ => exact ⟨_, rfl, rfl⟩
  | 1, _ => exact ⟨_, rfl, rfl⟩
  | 2, _ => exact ⟨_, rfl, rfl⟩
  | 3, _ => exact ⟨_, rfl, rfl⟩
  | 4, _ => exact ⟨_, rfl, rfl⟩
  | 5, _ => exact ⟨_, rfl, ki _ _ _ h2⟩
  | 6, _ => exact ⟨_, rfl, rfl⟩
  | 7, _ => exact ⟨_, rfl, rfl⟩
  | i + 8, hi => omega
theorem CpS.res {w : World} {c : Cf} {v : Vs} {nt nr ni : Nat} {ut ur ui : Value} {W w6 : World} (h : CpS w c v nt nr ni ut ur ui W) {x : Rs} (hx : c.ress[nr]? = some x) {v6 : Value} {xs : List Value} (h1 : W.ownsRow (w.heap.size + 3) 89 3 ur (c.ress.take nr).length xs) (hX : RowsX 3 rsP (c.ress.take nr) xs)
    (h6 : w6.ownsRow (w.heap.size + 3) 89 3 v6 ((c.ress.take nr).length + 1) (xs ++ [S x.name, I x.kind, I x.link])) (hg : W.grownBy w6 ur.ownBlock) :
    w6.heap[w.heap.size + 2]? = some (.cells (dC c.o8 ut ur ui) 33 (0, 0)) ∧ CpS w c v nt (nr + 1) ni ut v6 ui (w6.setCell ⟨w.heap.size + 2, 12, none⟩ v6) := by
  obtain ⟨xt, t1, t2⟩ := h.ot
  obtain ⟨xi, i1, i2⟩ := h.oi
  have hlo : ∀ g, g < w.heap.size + 3 → (some g : Option Nat) ≠ ur.ownBlock := fun g hgl e => by have := (h1.lt g e.symm).1; omega
  have vd6 := heap_kept h.vd hg (hlo _ (by omega))
  have gs := grown_set w6 (w.heap.size + 2) 12 v6
  have ki : ∀ (n : Nat) (u : Value) (ys : List Value), W.ownsRow (w.heap.size + 3) 3 1 u n ys → (w6.setCell ⟨w.heap.size + 2, 12, none⟩ v6).ownsRow (w.heap.size + 3) 3 1 u n ys := fun n u ys ho => own_kept_blk (own_kept_ty ho h1 (by decide) hg) gs (by omega)
  have hb6 := h.b.grown hg (Nat.le_trans (by omega) h.sz) (fun k e => by have := (h1.lt k e).1; omega)
  refine ⟨vd6, hb6.grown gs hb6.size (fun k e => by cases e; omega), heap_kept (heap_kept h.vc hg (hlo _ (by omega))) gs (fun e => by have := Option.some.inj e; omega), heap_kept (heap_kept h.vr hg (hlo _ (by omega))) gs (fun e => by have := Option.some.inj e; omega), heap_setCell_same _ _ 12 _ _ _ vd6, Nat.le_trans h.sz (Nat.le_trans hg.size gs.size), ⟨xt, own_kept_blk (own_kept_ty t1 h1 (by decide) hg) gs (by omega), t2.mono (tkO_mono ki)⟩, ?_, ⟨xi, own_kept_blk (own_kept_ty i1 h1 (by decide) hg) gs (by omega), i2.mono (isO_mono ki)⟩⟩
  rw [take_snoc hx]
  refine ⟨_, by rw [List.length_append]; exact own_kept_blk h6 gs (by omega), hX.snoc x _ rfl (fun i hi => ?_)⟩
  match i, hi with
  | 0, _ => exact ⟨_, rfl, rfl⟩
  | 1, _ => exact ⟨_, rfl, rfl⟩
  | 2, _ => exact ⟨_, rfl, rfl⟩
  | i + 3, hi => omega
theorem CpS.isr {w : World} {c : Cf} {v : Vs} {nt nr ni : Nat} {ut ur ui : Value} {W w6 : World} (h : CpS w c v nt nr ni ut ur ui W) {x : Is} (hx : c.isrs[ni]? = some x) {u2 v6 : Value} (h2 : IntsO W (w.heap.size + 3) x.res u2) {xs : List Value} (h1 : W.ownsRow (w.heap.size + 3) 49 5 ui (c.isrs.take ni).length xs) (hX : RowsX 5 (isO W (w.heap.size + 3)) (c.isrs.take ni) xs)
    (h6 : w6.ownsRow (w.heap.size + 3) 49 5 v6 ((c.isrs.take ni).length + 1) (xs ++ [S x.name, I 0, I x.prio, u2, .slice none 0 0])) (hg : W.grownBy w6 ui.ownBlock) :
    w6.heap[w.heap.size + 2]? = some (.cells (dC c.o8 ut ur ui) 33 (0, 0)) ∧ CpS w c v nt nr (ni + 1) ut ur v6 (w6.setCell ⟨w.heap.size + 2, 16, none⟩ v6) := by
  obtain ⟨xt, t1, t2⟩ := h.ot
  obtain ⟨xr, r1, r2⟩ := h.or'
  have hlo : ∀ g, g < w.heap.size + 3 → (some g : Option Nat) ≠ ui.ownBlock := fun g hgl e => by have := (h1.lt g e.symm).1; omega
  have vd6 := heap_kept h.vd hg (hlo _ (by omega))
  have gs := grown_set w6 (w.heap.size + 2) 16 v6
  have ki : ∀ (n : Nat) (u : Value) (ys : List Value), W.ownsRow (w.heap.size + 3) 3 1 u n ys → (w6.setCell ⟨w.heap.size + 2, 16, none⟩ v6).ownsRow (w.heap.size + 3) 3 1 u n ys := fun n u ys ho => own_kept_blk (own_kept_ty ho h1 (by decide) hg) gs (by omega)
  have hb6 := h.b.grown hg (Nat.le_trans (by omega) h.sz) (fun k e => by have := (h1.lt k e).1; omega)
  refine ⟨vd6, hb6.grown gs hb6.size (fun k e => by cases e; omega), heap_kept (heap_kept h.vc hg (hlo _ (by omega))) gs (fun e => by have := Option.some.inj e; omega), heap_kept (heap_kept h.vr hg (hlo _ (by omega))) gs (fun e => by have := Option.some.inj e; omega), heap_setCell_same _ _ 16 _ _ _ vd6, Nat.le_trans h.sz (Nat.le_trans hg.size gs.size), ⟨xt, own_kept_blk (own_kept_ty t1 h1 (by decide) hg) gs (by omega), t2.mono (tkO_mono ki)⟩, ⟨xr, own_kept_blk (own_kept_ty r1 h1 (by decide) hg) gs (by omega), r2⟩, ?_⟩
  rw [take_snoc hx]
  refine ⟨_, by rw [List.length_append]; exact own_kept_blk h6 gs (by omega), (hX.mono (isO_mono ki)).snoc x _ rfl (fun i hi => ?_)⟩
  match i, hi with
  | 0, _ => exact ⟨_, rfl, rfl⟩
  | 1, _ => exact ⟨_, rfl, rfl⟩
  | 2, _ => exact ⟨_, rfl, rfl⟩
  | 3, _ => exact ⟨_, rfl, ki _ _ _ h2⟩
  | 4, _ => exact ⟨_, rfl, rfl⟩
  | i + 5, hi => omega
end Go.Proofs.Ytapfbinaocaclaa
