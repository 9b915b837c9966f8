import Derived.Test.YtapfbinaocaclaaEcx8
namespace Go.Proofs.Ytapfbinaocaclaa
open Go.RowKit Go.Maps
set_option linter.unusedVariables false
set_option linter.unusedSimpArgs false

/-! ### The document's Reckon: its memory -/
def Apt (u v : Value) : Prop := ∀ g, u.ownBlock = some g → v.ownBlock ≠ some g
theorem Apt.symm {u v : Value} (h : Apt u v) : Apt v u := fun g e e' => h g e' e
theorem own_kept_apt {W W' : World} {b1 E1 k1 n : Nat} {u v : Value} {xs : List Value} (h : W.ownsRow b1 E1 k1 u n xs) (ha : Apt u v) (hg : W.grownBy W' v.ownBlock) : W'.ownsRow b1 E1 k1 u n xs :=
  h.kept hg (by
    cases hu : u.ownBlock with
    | none => exact .inl rfl
    | some g => exact .inr (fun e => ha g hu e.symm))
structure RkS (w : World) (c : Cf) (v : Vs) (X : Nat) (k : Int) (u0 u2 u3 u4 : Value) (l0 l2 l3 l4 : List Int) (W : World) : Prop where
  b : Below w.heap.size w W
  vc : W.heap[w.heap.size]? = some (.cells (cfC c v) 33 (0, 0))
  vr : W.heap[w.heap.size + 1]? = some (.cells ceZ 36 (0, 0))
  vd : W.heap[X]? = some (.cells #[u0, I k, u2, u3, u4] 36 (0, 0))
  lo : w.heap.size + 2 ≤ X
  o0 : W.ownsRow (X + 1) 3 1 u0 l0.length (l0.map fun x => I x)
  o2 : W.ownsRow (X + 1) 3 1 u2 l2.length (l2.map fun x => I x)
  o3 : W.ownsRow (X + 1) 3 1 u3 l3.length (l3.map fun x => I x)
  o4 : W.ownsRow (X + 1) 3 1 u4 l4.length (l4.map fun x => I x)
  a02 : Apt u0 u2
  a03 : Apt u0 u3
  a04 : Apt u0 u4
  a23 : Apt u2 u3
  a24 : Apt u2 u4
  a34 : Apt u3 u4
theorem RkS.below {w : World} {c : Cf} {v : Vs} {X : Nat} {k : Int} {u0 u2 u3 u4 : Value} {l0 l2 l3 l4 : List Int} {W W' : World} (h : RkS w c v X k u0 u2 u3 u4 l0 l2 l3 l4 W) (hb : Below W.heap.size W W') : RkS w c v X k u0 u2 u3 u4 l0 l2 l3 l4 W' :=
  ⟨h.b.trans (hb.mono h.b.size), (hb.block _ (heap_lt h.vc)).trans h.vc, (hb.block _ (heap_lt h.vr)).trans h.vr, (hb.block _ (heap_lt h.vd)).trans h.vd, h.lo, own_below h.o0 hb, own_below h.o2 hb, own_below h.o3 hb, own_below h.o4 hb, h.a02, h.a03, h.a04, h.a23, h.a24, h.a34⟩
theorem apt_new {W : World} {b E n : Nat} {u v v' : Value} {xs : List Value} (h : W.ownsRow b E 1 v n xs) (ha : Apt u v) (hu : v'.ownBlock = u.ownBlock ∨ v'.ownBlock = some W.heap.size) : Apt v' v := fun g e e' => by
  rcases hu with hu | hu
  · exact ha g (hu ▸ e) e'
  · rw [hu] at e
    cases e
    have := (h.lt _ e').2
    omega
theorem RkS.app0 {w : World} {c : Cf} {v : Vs} {X : Nat} {k : Int} {u0 u2 u3 u4 : Value} {l0 l2 l3 l4 : List Int} {W w6 : World} {v6 : Value} {a : Int} (h : RkS w c v X k u0 u2 u3 u4 l0 l2 l3 l4 W) (h6 : w6.ownsRow (X + 1) 3 1 v6 (l0.length + 1) (l0.map (fun x => I x) ++ [I a])) (hg : W.grownBy w6 u0.ownBlock) (hv : v6.ownBlock = u0.ownBlock ∨ v6.ownBlock = some W.heap.size) :
    w6.heap[X]? = some (.cells #[u0, I k, u2, u3, u4] 36 (0, 0)) ∧ RkS w c v X k v6 u2 u3 u4 (l0 ++ [a]) l2 l3 l4 (w6.setCell ⟨X, 0, none⟩ v6) := by
  have hlo : ∀ g, g < X + 1 → (some g : Option Nat) ≠ u0.ownBlock := fun g hgl e => by have := (h.o0.lt g e.symm).1; omega
  have hL := h.lo
  have hXW := heap_lt h.vd
  have vd6 := heap_kept h.vd hg (hlo _ (by omega))
  have gs := grown_set w6 X 0 v6
  have hb6 := h.b.grown hg (by omega) (fun k e => by have := (h.o0.lt k e).1; omega)
  exact ⟨vd6, hb6.grown gs hb6.size (fun k e => by cases e; omega), heap_kept (heap_kept h.vc hg (hlo _ (by omega))) gs (fun e => by have := Option.some.inj e; omega), heap_kept (heap_kept h.vr hg (hlo _ (by omega))) gs (fun e => by have := Option.some.inj e; omega), heap_setCell_same _ _ 0 _ _ _ vd6, h.lo, (by rw [List.length_append, List.map_append]; exact own_kept_blk h6 gs (by omega)), own_kept_blk (own_kept_apt h.o2 (h.a02.symm) hg) gs (by omega), own_kept_blk (own_kept_apt h.o3 (h.a03.symm) hg) gs (by omega), own_kept_blk (own_kept_apt h.o4 (h.a04.symm) hg) gs (by omega), apt_new h.o2 (h.a02) hv, apt_new h.o3 (h.a03) hv, apt_new h.o4 (h.a04) hv, h.a23, h.a24, h.a34⟩

theorem RkS.app2 {w : World} {c : Cf} {v : Vs} {X : Nat} {k : Int} {u0 u2 u3 u4 : Value} {l0 l2 l3 l4 : List Int} {W w6 : World} {v6 : Value} {a : Int} (h : RkS w c v X k u0 u2 u3 u4 l0 l2 l3 l4 W) (h6 : w6.ownsRow (X + 1) 3 1 v6 (l2.length + 1) (l2.map (fun x => I x) ++ [I a])) (hg : W.grownBy w6 u2.ownBlock) (hv : v6.ownBlock = u2.ownBlock ∨ v6.ownBlock = some W.heap.size) :
    w6.heap[X]? = some (.cells #[u0, I k, u2, u3, u4] 36 (0, 0)) ∧ RkS w c v X k u0 v6 u3 u4 l0 (l2 ++ [a]) l3 l4 (w6.setCell ⟨X, 2, none⟩ v6) := by
  have hlo : ∀ g, g < X + 1 → (some g : Option Nat) ≠ u2.ownBlock := fun g hgl e => by have := (h.o2.lt g e.symm).1; omega
  have hL := h.lo
  have hXW := heap_lt h.vd
  have vd6 := heap_kept h.vd hg (hlo _ (by omega))
  have gs := grown_set w6 X 2 v6
  have hb6 := h.b.grown hg (by omega) (fun k e => by have := (h.o2.lt k e).1; omega)
  exact ⟨vd6, hb6.grown gs hb6.size (fun k e => by cases e; omega), heap_kept (heap_kept h.vc hg (hlo _ (by omega))) gs (fun e => by have := Option.some.inj e; omega), heap_kept (heap_kept h.vr hg (hlo _ (by omega))) gs (fun e => by have := Option.some.inj e; omega), heap_setCell_same _ _ 2 _ _ _ vd6, h.lo, own_kept_blk (own_kept_apt h.o0 (h.a02) hg) gs (by omega), (by rw [List.length_append, List.map_append]; exact own_kept_blk h6 gs (by omega)), own_kept_blk (own_kept_apt h.o3 (h.a23.symm) hg) gs (by omega), own_kept_blk (own_kept_apt h.o4 (h.a24.symm) hg) gs (by omega), (apt_new h.o0 (h.a02.symm) hv).symm, h.a03, h.a04, apt_new h.o3 (h.a23) hv, apt_new h.o4 (h.a24) hv, h.a34⟩

theorem RkS.app3 {w : World} {c : Cf} {v : Vs} {X : Nat} {k : Int} {u0 u2 u3 u4 : Value} {l0 l2 l3 l4 : List Int} {W w6 : World} {v6 : Value} {a : Int} (h : RkS w c v X k u0 u2 u3 u4 l0 l2 l3 l4 W) (h6 : w6.ownsRow (X + 1) 3 1 v6 (l3.length + 1) (l3.map (fun x => I x) ++ [I a])) (hg : W.grownBy w6 u3.ownBlock) (hv : v6.ownBlock = u3.ownBlock ∨ v6.ownBlock = some W.heap.size) :
    w6.heap[X]? = some (.cells #[u0, I k, u2, u3, u4] 36 (0, 0)) ∧ RkS w c v X k u0 u2 v6 u4 l0 l2 (l3 ++ [a]) l4 (w6.setCell ⟨X, 3, none⟩ v6) := by
  have hlo : ∀ g, g < X + 1 → (some g : Option Nat) ≠ u3.ownBlock := fun g hgl e => by have := (h.o3.lt g e.symm).1; omega
  have hL := h.lo
  have hXW := heap_lt h.vd
  have vd6 := heap_kept h.vd hg (hlo _ (by omega))
  have gs := grown_set w6 X 3 v6
  have hb6 := h.b.grown hg (by omega) (fun k e => by have := (h.o3.lt k e).1; omega)
  exact ⟨vd6, hb6.grown gs hb6.size (fun k e => by cases e; omega), heap_kept (heap_kept h.vc hg (hlo _ (by omega))) gs (fun e => by have := Option.some.inj e; omega), heap_kept (heap_kept h.vr hg (hlo _ (by omega))) gs (fun e => by have := Option.some.inj e; omega), heap_setCell_same _ _ 3 _ _ _ vd6, h.lo, own_kept_blk (own_kept_apt h.o0 (h.a03) hg) gs (by omega), own_kept_blk (own_kept_apt h.o2 (h.a23) hg) gs (by omega), (by rw [List.length_append, List.map_append]; exact own_kept_blk h6 gs (by omega)), own_kept_blk (own_kept_apt h.o4 (h.a34.symm) hg) gs (by omega), h.a02, (apt_new h.o0 (h.a03.symm) hv).symm, h.a04, (apt_new h.o2 (h.a23.symm) hv).symm, h.a24, apt_new h.o4 (h.a34) hv⟩

theorem RkS.app4 {w : World} {c : Cf} {v : Vs} {X : Nat} {k : Int} {u0 u2 u3 u4 : Value} {l0 l2 l3 l4 : List Int} {W w6 : World} {v6 : Value} {a : Int} (h : RkS w c v X k u0 u2 u3 u4 l0 l2 l3 l4 W) (h6 : w6.ownsRow (X + 1) 3 1 v6 (l4.length + 1) (l4.map (fun x => I x) ++ [I a])) (hg : W.grownBy w6 u4.ownBlock) (hv : v6.ownBlock = u4.ownBlock ∨ v6.ownBlock = some W.heap.size) :
    w6.heap[X]? = some (.cells #[u0, I k, u2, u3, u4] 36 (0, 0)) ∧ RkS w c v X k u0 u2 u3 v6 l0 l2 l3 (l4 ++ [a]) (w6.setCell ⟨X, 4, none⟩ v6) := by
  have hlo : ∀ g, g < X + 1 → (some g : Option Nat) ≠ u4.ownBlock := fun g hgl e => by have := (h.o4.lt g e.symm).1; omega
  have hL := h.lo
  have hXW := heap_lt h.vd
  have vd6 := heap_kept h.vd hg (hlo _ (by omega))
  have gs := grown_set w6 X 4 v6
  have hb6 := h.b.grown hg (by omega) (fun k e => by have := (h.o4.lt k e).1; omega)
  exact ⟨vd6, hb6.grown gs hb6.size (fun k e => by cases e; omega), heap_kept (heap_kept h.vc hg (hlo _ (by omega))) gs (fun e => by have := Option.some.inj e; omega), heap_kept (heap_kept h.vr hg (hlo _ (by omega))) gs (fun e => by have := Option.some.inj e; omega), heap_setCell_same _ _ 4 _ _ _ vd6, h.lo, own_kept_blk (own_kept_apt h.o0 (h.a04) hg) gs (by omega), own_kept_blk (own_kept_apt h.o2 (h.a24) hg) gs (by omega), own_kept_blk (own_kept_apt h.o3 (h.a34) hg) gs (by omega), (by rw [List.length_append, List.map_append]; exact own_kept_blk h6 gs (by omega)), h.a02, h.a03, (apt_new h.o0 (h.a04.symm) hv).symm, h.a23, (apt_new h.o2 (h.a24.symm) hv).symm, (apt_new h.o3 (h.a34.symm) hv).symm⟩
theorem RkS.fin {w : World} {c : Cf} {v : Vs} {X : Nat} {k : Int} {u0 u2 u3 u4 : Value} {l0 l2 l3 l4 : List Int} {W : World} (h : RkS w c v X k u0 u2 u3 u4 l0 l2 l3 l4 W) (e : Int) :
    RckP w ⟨l0, k, l2, l3, l4⟩ e (.returned (.tuple #[.agg #[u0, I k, u2, u3, u4], I e])) (W.setRow (w.heap.size + 1) #[u0, I k, u2, u3, u4]) := by
  have hL := h.lo
  have hgr := grown_row W (w.heap.size + 1) #[u0, I k, u2, u3, u4]
  obtain ⟨s0, rfl⟩ := own_slice h.o0
  obtain ⟨s2, rfl⟩ := own_slice h.o2
  obtain ⟨s3, rfl⟩ := own_slice h.o3
  obtain ⟨s4, rfl⟩ := own_slice h.o4
  refine ⟨s0, s2, s3, s4, rfl, ⟨own_mono (own_kept_blk h.o0 hgr (by omega)) (by omega), own_mono (own_kept_blk h.o2 hgr (by omega)) (by omega), own_mono (own_kept_blk h.o3 hgr (by omega)) (by omega), own_mono (own_kept_blk h.o4 hgr (by omega)) (by omega), ?_⟩, h.b.grown hgr h.b.size (fun k e => by cases e; omega)⟩
  have a1 := h.a02; have a2 := h.a03; have a3 := h.a04; have a4 := h.a23; have a5 := h.a24; have a6 := h.a34
  unfold Apt at a1 a2 a3 a4 a5 a6
  refine List.Pairwise.cons ?_ (List.Pairwise.cons ?_ (List.Pairwise.cons ?_ (List.Pairwise.cons ?_ List.Pairwise.nil)))
  · intro x hx
    simp only [List.mem_cons, List.not_mem_nil, or_false] at hx
    rcases hx with rfl | rfl | rfl <;> assumption
  · intro x hx
    simp only [List.mem_cons, List.not_mem_nil, or_false] at hx
    rcases hx with rfl | rfl <;> assumption
  · intro x hx
    simp only [List.mem_cons, List.not_mem_nil, or_false] at hx
    subst hx
    assumption
  · intro x hx
    cases hx
theorem RkS.d {w : World} {c : Cf} {v : Vs} {X : Nat} {k : Int} {u0 u2 u3 u4 : Value} {l0 l2 l3 l4 : List Int} {W : World} (h : RkS w c v X k u0 u2 u3 u4 l0 l2 l3 l4 W) : W.cell? ⟨X, 0, none⟩ = some u0 ∧ W.cell? ⟨X, 1, none⟩ = some (I k) ∧ W.cell? ⟨X, 2, none⟩ = some u2 ∧ W.cell? ⟨X, 3, none⟩ = some u3 ∧ W.cell? ⟨X, 4, none⟩ = some u4 := row5 h.vd
end Go.Proofs.Ytapfbinaocaclaa
