import Derived.Test.YtijgopkhdjaolaaGreatXHs10
import Derived.Deep.RegionHeldLaw
import Derived.Deep.DrawnRows
namespace Go.Proofs.YtijgopkhdjaolaaGreat
open Go.RowKit Go.Shelf Go.Sort
set_option linter.unusedSimpArgs false
set_option linter.unusedVariables false
set_option maxHeartbeats 40000000
set_option maxRecDepth 100000
theorem qmq {W : World} {Z T : Nat} {z0 z1 z2 z3 z4 z5 z6 z7 : Value} (v0 v1 v2 v3 v4 v5 v6 v7 : Value) (h0 : W.heap[Z]? = some (.cells #[z0,z1,z2,z3,z4,z5,z6,z7] T)) : (W.heap[Z]? = some (.cells #[z0,z1,z2,z3,z4,z5,z6,z7] T) ∧ W.cell? ⟨Z,0,none⟩ = some z0 ∧ W.frozen? ⟨Z,0,none⟩ = false) ∧ ((W.setCell ⟨Z,0,none⟩ v0).heap[Z]? = some (.cells #[v0,z1,z2,z3,z4,z5,z6,z7] T) ∧ (W.setCell ⟨Z,0,none⟩ v0).cell? ⟨Z,1,none⟩ = some z1 ∧ (W.setCell ⟨Z,0,none⟩ v0).frozen? ⟨Z,1,none⟩ = false) ∧ (((W.setCell ⟨Z,0,none⟩ v0).setCell ⟨Z,1,none⟩ v1).heap[Z]? = some (.cells #[v0,v1,z2,z3,z4,z5,z6,z7] T) ∧ ((W.setCell ⟨Z,0,none⟩ v0).setCell ⟨Z,1,none⟩ v1).cell? ⟨Z,2,none⟩ = some z2 ∧ ((W.setCell ⟨Z,0,none⟩ v0).setCell ⟨Z,1,none⟩ v1).frozen? ⟨Z,2,none⟩ = false) ∧ ((((W.setCell ⟨Z,0,none⟩ v0).setCell ⟨Z,1,none⟩ v1).setCell ⟨Z,2,none⟩ v2).heap[Z]? = some (.cells #[v0,v1,v2,z3,z4,z5,z6,z7] T) ∧ (((W.setCell ⟨Z,0,none⟩ v0).setCell ⟨Z,1,none⟩ v1).setCell ⟨Z,2,none⟩ v2).cell? ⟨Z,3,none⟩ = some z3 ∧ (((W.setCell ⟨Z,0,none⟩ v0).setCell ⟨Z,1,none⟩ v1).setCell ⟨Z,2,none⟩ v2).frozen? ⟨Z,3,none⟩ = false) ∧ (((((W.setCell ⟨Z,0,none⟩ v0).setCell ⟨Z,1,none⟩ v1).setCell ⟨Z,2,none⟩ v2).setCell ⟨Z,3,none⟩ v3).heap[Z]? = some (.cells #[v0,v1,v2,v3,z4,z5,z6,z7] T) ∧ ((((W.setCell ⟨Z,0,none⟩ v0).setCell ⟨Z,1,none⟩ v1).setCell ⟨Z,2,none⟩ v2).setCell ⟨Z,3,none⟩ v3).cell? ⟨Z,4,none⟩ = some z4 ∧ ((((W.setCell ⟨Z,0,none⟩ v0).setCell ⟨Z,1,none⟩ v1).setCell ⟨Z,2,none⟩ v2).setCell ⟨Z,3,none⟩ v3).frozen? ⟨Z,4,none⟩ = false) ∧ ((((((W.setCell ⟨Z,0,none⟩ v0).setCell ⟨Z,1,none⟩ v1).setCell ⟨Z,2,none⟩ v2).setCell ⟨Z,3,none⟩ v3).setCell ⟨Z,4,none⟩ v4).heap[Z]? = some (.cells #[v0,v1,v2,v3,v4,z5,z6,z7] T) ∧ (((((W.setCell ⟨Z,0,none⟩ v0).setCell ⟨Z,1,none⟩ v1).setCell ⟨Z,2,none⟩ v2).setCell ⟨Z,3,none⟩ v3).setCell ⟨Z,4,none⟩ v4).cell? ⟨Z,5,none⟩ = some z5 ∧ (((((W.setCell ⟨Z,0,none⟩ v0).setCell ⟨Z,1,none⟩ v1).setCell ⟨Z,2,none⟩ v2).setCell ⟨Z,3,none⟩ v3).setCell ⟨Z,4,none⟩ v4).frozen? ⟨Z,5,none⟩ = false) ∧ (((((((W.setCell ⟨Z,0,none⟩ v0).setCell ⟨Z,1,none⟩ v1).setCell ⟨Z,2,none⟩ v2).setCell ⟨Z,3,none⟩ v3).setCell ⟨Z,4,none⟩ v4).setCell ⟨Z,5,none⟩ v5).heap[Z]? = some (.cells #[v0,v1,v2,v3,v4,v5,z6,z7] T) ∧ ((((((W.setCell ⟨Z,0,none⟩ v0).setCell ⟨Z,1,none⟩ v1).setCell ⟨Z,2,none⟩ v2).setCell ⟨Z,3,none⟩ v3).setCell ⟨Z,4,none⟩ v4).setCell ⟨Z,5,none⟩ v5).cell? ⟨Z,6,none⟩ = some z6 ∧ ((((((W.setCell ⟨Z,0,none⟩ v0).setCell ⟨Z,1,none⟩ v1).setCell ⟨Z,2,none⟩ v2).setCell ⟨Z,3,none⟩ v3).setCell ⟨Z,4,none⟩ v4).setCell ⟨Z,5,none⟩ v5).frozen? ⟨Z,6,none⟩ = false) ∧ ((((((((W.setCell ⟨Z,0,none⟩ v0).setCell ⟨Z,1,none⟩ v1).setCell ⟨Z,2,none⟩ v2).setCell ⟨Z,3,none⟩ v3).setCell ⟨Z,4,none⟩ v4).setCell ⟨Z,5,none⟩ v5).setCell ⟨Z,6,none⟩ v6).heap[Z]? = some (.cells #[v0,v1,v2,v3,v4,v5,v6,z7] T) ∧ (((((((W.setCell ⟨Z,0,none⟩ v0).setCell ⟨Z,1,none⟩ v1).setCell ⟨Z,2,none⟩ v2).setCell ⟨Z,3,none⟩ v3).setCell ⟨Z,4,none⟩ v4).setCell ⟨Z,5,none⟩ v5).setCell ⟨Z,6,none⟩ v6).cell? ⟨Z,7,none⟩ = some z7 ∧ (((((((W.setCell ⟨Z,0,none⟩ v0).setCell ⟨Z,1,none⟩ v1).setCell ⟨Z,2,none⟩ v2).setCell ⟨Z,3,none⟩ v3).setCell ⟨Z,4,none⟩ v4).setCell ⟨Z,5,none⟩ v5).setCell ⟨Z,6,none⟩ v6).frozen? ⟨Z,7,none⟩ = false) ∧ ((((((((W.setCell ⟨Z,0,none⟩ v0).setCell ⟨Z,1,none⟩ v1).setCell ⟨Z,2,none⟩ v2).setCell ⟨Z,3,none⟩ v3).setCell ⟨Z,4,none⟩ v4).setCell ⟨Z,5,none⟩ v5).setCell ⟨Z,6,none⟩ v6).setCell ⟨Z,7,none⟩ v7).heap[Z]? = some (.cells #[v0,v1,v2,v3,v4,v5,v6,v7] T) := by
 have c0 : W.cell? ⟨Z,0,none⟩ = some z0 := by rw [cell_of_row _ _ _ _ _ (0,0) h0]; rfl
 have f0 : W.frozen? ⟨Z,0,none⟩ = false := frozen_of_row _ _ _ _ _ h0
 have h1 : (W.setCell ⟨Z,0,none⟩ v0).heap[Z]? = some (.cells #[v0,z1,z2,z3,z4,z5,z6,z7] T) := heap_setCell_same W Z 0 _ _ v0 h0
 have c1 : (W.setCell ⟨Z,0,none⟩ v0).cell? ⟨Z,1,none⟩ = some z1 := by rw [cell_of_row _ _ _ _ _ (0,0) h1]; rfl
 have f1 : (W.setCell ⟨Z,0,none⟩ v0).frozen? ⟨Z,1,none⟩ = false := frozen_of_row _ _ _ _ _ h1
 have h2 : ((W.setCell ⟨Z,0,none⟩ v0).setCell ⟨Z,1,none⟩ v1).heap[Z]? = some (.cells #[v0,v1,z2,z3,z4,z5,z6,z7] T) := heap_setCell_same (W.setCell ⟨Z,0,none⟩ v0) Z 1 _ _ v1 h1
 have c2 : ((W.setCell ⟨Z,0,none⟩ v0).setCell ⟨Z,1,none⟩ v1).cell? ⟨Z,2,none⟩ = some z2 := by rw [cell_of_row _ _ _ _ _ (0,0) h2]; rfl
 have f2 : ((W.setCell ⟨Z,0,none⟩ v0).setCell ⟨Z,1,none⟩ v1).frozen? ⟨Z,2,none⟩ = false := frozen_of_row _ _ _ _ _ h2
 have h3 : (((W.setCell ⟨Z,0,none⟩ v0).setCell ⟨Z,1,none⟩ v1).setCell ⟨Z,2,none⟩ v2).heap[Z]? = some (.cells #[v0,v1,v2,z3,z4,z5,z6,z7] T) := heap_setCell_same ((W.setCell ⟨Z,0,none⟩ v0).setCell ⟨Z,1,none⟩ v1) Z 2 _ _ v2 h2
 have c3 : (((W.setCell ⟨Z,0,none⟩ v0).setCell ⟨Z,1,none⟩ v1).setCell ⟨Z,2,none⟩ v2).cell? ⟨Z,3,none⟩ = some z3 := by rw [cell_of_row _ _ _ _ _ (0,0) h3]; rfl
 have f3 : (((W.setCell ⟨Z,0,none⟩ v0).setCell ⟨Z,1,none⟩ v1).setCell ⟨Z,2,none⟩ v2).frozen? ⟨Z,3,none⟩ = false := frozen_of_row _ _ _ _ _ h3
 have h4 : ((((W.setCell ⟨Z,0,none⟩ v0).setCell ⟨Z,1,none⟩ v1).setCell ⟨Z,2,none⟩ v2).setCell ⟨Z,3,none⟩ v3).heap[Z]? = some (.cells #[v0,v1,v2,v3,z4,z5,z6,z7] T) := heap_setCell_same (((W.setCell ⟨Z,0,none⟩ v0).setCell ⟨Z,1,none⟩ v1).setCell ⟨Z,2,none⟩ v2) Z 3 _ _ v3 h3
 have c4 : ((((W.setCell ⟨Z,0,none⟩ v0).setCell ⟨Z,1,none⟩ v1).setCell ⟨Z,2,none⟩ v2).setCell ⟨Z,3,none⟩ v3).cell? ⟨Z,4,none⟩ = some z4 := by rw [cell_of_row _ _ _ _ _ (0,0) h4]; rfl
 have f4 : ((((W.setCell ⟨Z,0,none⟩ v0).setCell ⟨Z,1,none⟩ v1).setCell ⟨Z,2,none⟩ v2).setCell ⟨Z,3,none⟩ v3).frozen? ⟨Z,4,none⟩ = false := frozen_of_row _ _ _ _ _ h4
 have h5 : (((((W.setCell ⟨Z,0,none⟩ v0).setCell ⟨Z,1,none⟩ v1).setCell ⟨Z,2,none⟩ v2).setCell ⟨Z,3,none⟩ v3).setCell ⟨Z,4,none⟩ v4).heap[Z]? = some (.cells #[v0,v1,v2,v3,v4,z5,z6,z7] T) := heap_setCell_same ((((W.setCell ⟨Z,0,none⟩ v0).setCell ⟨Z,1,none⟩ v1).setCell ⟨Z,2,none⟩ v2).setCell ⟨Z,3,none⟩ v3) Z 4 _ _ v4 h4
 have c5 : (((((W.setCell ⟨Z,0,none⟩ v0).setCell ⟨Z,1,none⟩ v1).setCell ⟨Z,2,none⟩ v2).setCell ⟨Z,3,none⟩ v3).setCell ⟨Z,4,none⟩ v4).cell? ⟨Z,5,none⟩ = some z5 := by rw [cell_of_row _ _ _ _ _ (0,0) h5]; rfl
 have f5 : (((((W.setCell ⟨Z,0,none⟩ v0).setCell ⟨Z,1,none⟩ v1).setCell ⟨Z,2,none⟩ v2).setCell ⟨Z,3,none⟩ v3).setCell ⟨Z,4,none⟩ v4).frozen? ⟨Z,5,none⟩ = false := frozen_of_row _ _ _ _ _ h5
 have h6 : ((((((W.setCell ⟨Z,0,none⟩ v0).setCell ⟨Z,1,none⟩ v1).setCell ⟨Z,2,none⟩ v2).setCell ⟨Z,3,none⟩ v3).setCell ⟨Z,4,none⟩ v4).setCell ⟨Z,5,none⟩ v5).heap[Z]? = some (.cells #[v0,v1,v2,v3,v4,v5,z6,z7] T) := heap_setCell_same (((((W.setCell ⟨Z,0,none⟩ v0).setCell ⟨Z,1,none⟩ v1).setCell ⟨Z,2,none⟩ v2).setCell ⟨Z,3,none⟩ v3).setCell ⟨Z,4,none⟩ v4) Z 5 _ _ v5 h5
 have c6 : ((((((W.setCell ⟨Z,0,none⟩ v0).setCell ⟨Z,1,none⟩ v1).setCell ⟨Z,2,none⟩ v2).setCell ⟨Z,3,none⟩ v3).setCell ⟨Z,4,none⟩ v4).setCell ⟨Z,5,none⟩ v5).cell? ⟨Z,6,none⟩ = some z6 := by rw [cell_of_row _ _ _ _ _ (0,0) h6]; rfl
 have f6 : ((((((W.setCell ⟨Z,0,none⟩ v0).setCell ⟨Z,1,none⟩ v1).setCell ⟨Z,2,none⟩ v2).setCell ⟨Z,3,none⟩ v3).setCell ⟨Z,4,none⟩ v4).setCell ⟨Z,5,none⟩ v5).frozen? ⟨Z,6,none⟩ = false := frozen_of_row _ _ _ _ _ h6
 have h7 : (((((((W.setCell ⟨Z,0,none⟩ v0).setCell ⟨Z,1,none⟩ v1).setCell ⟨Z,2,none⟩ v2).setCell ⟨Z,3,none⟩ v3).setCell ⟨Z,4,none⟩ v4).setCell ⟨Z,5,none⟩ v5).setCell ⟨Z,6,none⟩ v6).heap[Z]? = some (.cells #[v0,v1,v2,v3,v4,v5,v6,z7] T) := heap_setCell_same ((((((W.setCell ⟨Z,0,none⟩ v0).setCell ⟨Z,1,none⟩ v1).setCell ⟨Z,2,none⟩ v2).setCell ⟨Z,3,none⟩ v3).setCell ⟨Z,4,none⟩ v4).setCell ⟨Z,5,none⟩ v5) Z 6 _ _ v6 h6
 have c7 : (((((((W.setCell ⟨Z,0,none⟩ v0).setCell ⟨Z,1,none⟩ v1).setCell ⟨Z,2,none⟩ v2).setCell ⟨Z,3,none⟩ v3).setCell ⟨Z,4,none⟩ v4).setCell ⟨Z,5,none⟩ v5).setCell ⟨Z,6,none⟩ v6).cell? ⟨Z,7,none⟩ = some z7 := by rw [cell_of_row _ _ _ _ _ (0,0) h7]; rfl
 have f7 : (((((((W.setCell ⟨Z,0,none⟩ v0).setCell ⟨Z,1,none⟩ v1).setCell ⟨Z,2,none⟩ v2).setCell ⟨Z,3,none⟩ v3).setCell ⟨Z,4,none⟩ v4).setCell ⟨Z,5,none⟩ v5).setCell ⟨Z,6,none⟩ v6).frozen? ⟨Z,7,none⟩ = false := frozen_of_row _ _ _ _ _ h7
 have h8 : ((((((((W.setCell ⟨Z,0,none⟩ v0).setCell ⟨Z,1,none⟩ v1).setCell ⟨Z,2,none⟩ v2).setCell ⟨Z,3,none⟩ v3).setCell ⟨Z,4,none⟩ v4).setCell ⟨Z,5,none⟩ v5).setCell ⟨Z,6,none⟩ v6).setCell ⟨Z,7,none⟩ v7).heap[Z]? = some (.cells #[v0,v1,v2,v3,v4,v5,v6,v7] T) := heap_setCell_same (((((((W.setCell ⟨Z,0,none⟩ v0).setCell ⟨Z,1,none⟩ v1).setCell ⟨Z,2,none⟩ v2).setCell ⟨Z,3,none⟩ v3).setCell ⟨Z,4,none⟩ v4).setCell ⟨Z,5,none⟩ v5).setCell ⟨Z,6,none⟩ v6) Z 7 _ _ v7 h7
 exact ⟨⟨h0,c0,f0⟩,⟨h1,c1,f1⟩,⟨h2,c2,f2⟩,⟨h3,c3,f3⟩,⟨h4,c4,f4⟩,⟨h5,c5,f5⟩,⟨h6,c6,f6⟩,⟨h7,c7,f7⟩,h8⟩
theorem qmr {W : World} {Z T : Nat} {z0 z1 z2 : Value} (v0 v1 v2 : Value) (h0 : W.heap[Z]? = some (.cells #[z0,z1,z2] T)) : (W.heap[Z]? = some (.cells #[z0,z1,z2] T) ∧ W.cell? ⟨Z,0,none⟩ = some z0 ∧ W.frozen? ⟨Z,0,none⟩ = false) ∧ ((W.setCell ⟨Z,0,none⟩ v0).heap[Z]? = some (.cells #[v0,z1,z2] T) ∧ (W.setCell ⟨Z,0,none⟩ v0).cell? ⟨Z,1,none⟩ = some z1 ∧ (W.setCell ⟨Z,0,none⟩ v0).frozen? ⟨Z,1,none⟩ = false) ∧ (((W.setCell ⟨Z,0,none⟩ v0).setCell ⟨Z,1,none⟩ v1).heap[Z]? = some (.cells #[v0,v1,z2] T) ∧ ((W.setCell ⟨Z,0,none⟩ v0).setCell ⟨Z,1,none⟩ v1).cell? ⟨Z,2,none⟩ = some z2 ∧ ((W.setCell ⟨Z,0,none⟩ v0).setCell ⟨Z,1,none⟩ v1).frozen? ⟨Z,2,none⟩ = false) ∧ (((W.setCell ⟨Z,0,none⟩ v0).setCell ⟨Z,1,none⟩ v1).setCell ⟨Z,2,none⟩ v2).heap[Z]? = some (.cells #[v0,v1,v2] T) := by
 have c0 : W.cell? ⟨Z,0,none⟩ = some z0 := by rw [cell_of_row _ _ _ _ _ (0,0) h0]; rfl
 have f0 : W.frozen? ⟨Z,0,none⟩ = false := frozen_of_row _ _ _ _ _ h0
 have h1 : (W.setCell ⟨Z,0,none⟩ v0).heap[Z]? = some (.cells #[v0,z1,z2] T) := heap_setCell_same W Z 0 _ _ v0 h0
 have c1 : (W.setCell ⟨Z,0,none⟩ v0).cell? ⟨Z,1,none⟩ = some z1 := by rw [cell_of_row _ _ _ _ _ (0,0) h1]; rfl
 have f1 : (W.setCell ⟨Z,0,none⟩ v0).frozen? ⟨Z,1,none⟩ = false := frozen_of_row _ _ _ _ _ h1
 have h2 : ((W.setCell ⟨Z,0,none⟩ v0).setCell ⟨Z,1,none⟩ v1).heap[Z]? = some (.cells #[v0,v1,z2] T) := heap_setCell_same (W.setCell ⟨Z,0,none⟩ v0) Z 1 _ _ v1 h1
 have c2 : ((W.setCell ⟨Z,0,none⟩ v0).setCell ⟨Z,1,none⟩ v1).cell? ⟨Z,2,none⟩ = some z2 := by rw [cell_of_row _ _ _ _ _ (0,0) h2]; rfl
 have f2 : ((W.setCell ⟨Z,0,none⟩ v0).setCell ⟨Z,1,none⟩ v1).frozen? ⟨Z,2,none⟩ = false := frozen_of_row _ _ _ _ _ h2
 have h3 : (((W.setCell ⟨Z,0,none⟩ v0).setCell ⟨Z,1,none⟩ v1).setCell ⟨Z,2,none⟩ v2).heap[Z]? = some (.cells #[v0,v1,v2] T) := heap_setCell_same ((W.setCell ⟨Z,0,none⟩ v0).setCell ⟨Z,1,none⟩ v1) Z 2 _ _ v2 h2
 exact ⟨⟨h0,c0,f0⟩,⟨h1,c1,f1⟩,⟨h2,c2,f2⟩,h3⟩
theorem qfl (w : World) (tb : Tb) (va vb : Ts) (hA : TbAt w tb va) (hB : TbAt w tb vb) : Calls Tryz.prog 16 #[.agg (tbC tb va), .agg (tbC tb vb)] w fun e w' => e = .returned (.bool true) ∧ Below w.heap.size w w' := by
 have hb1 := qa0 w (.cells #[I tb.uses,I tb.modes, .slice va.t.a va.t.n va.t.c, .slice va.g.a va.g.n va.g.c, .slice va.r.a va.r.n va.r.c, .slice va.k.a va.k.n va.k.c, .slice va.a.a va.a.n va.a.c, .slice va.i.a va.i.n va.i.c, .slice va.s.a va.s.n va.s.c,I tb.depth,I tb.frames,I tb.errors,I tb.calls] 30)
 have hb2 := qa0 (w.alloc (.cells #[I tb.uses,I tb.modes, .slice va.t.a va.t.n va.t.c, .slice va.g.a va.g.n va.g.c, .slice va.r.a va.r.n va.r.c, .slice va.k.a va.k.n va.k.c, .slice va.a.a va.a.n va.a.c, .slice va.i.a va.i.n va.i.c, .slice va.s.a va.s.n va.s.c,I tb.depth,I tb.frames,I tb.errors,I tb.calls] 30)) (.cells #[I tb.uses,I tb.modes, .slice vb.t.a vb.t.n vb.t.c, .slice vb.g.a vb.g.n vb.g.c, .slice vb.r.a vb.r.n vb.r.c, .slice vb.k.a vb.k.n vb.k.c, .slice vb.a.a vb.a.n vb.a.c, .slice vb.i.a vb.i.n vb.i.c, .slice vb.s.a vb.s.n vb.s.c,I tb.depth,I tb.frames,I tb.errors,I tb.calls] 30)
 have hv1 := heap_alloc_new w (.cells #[I tb.uses,I tb.modes, .slice va.t.a va.t.n va.t.c, .slice va.g.a va.g.n va.g.c, .slice va.r.a va.r.n va.r.c, .slice va.k.a va.k.n va.k.c, .slice va.a.a va.a.n va.a.c, .slice va.i.a va.i.n va.i.c, .slice va.s.a va.s.n va.s.c,I tb.depth,I tb.frames,I tb.errors,I tb.calls] 30)
 have hv2 := heap_alloc_new (w.alloc (.cells #[I tb.uses,I tb.modes, .slice va.t.a va.t.n va.t.c, .slice va.g.a va.g.n va.g.c, .slice va.r.a va.r.n va.r.c, .slice va.k.a va.k.n va.k.c, .slice va.a.a va.a.n va.a.c, .slice va.i.a va.i.n va.i.c, .slice va.s.a va.s.n va.s.c,I tb.depth,I tb.frames,I tb.errors,I tb.calls] 30)) (.cells #[I tb.uses,I tb.modes, .slice vb.t.a vb.t.n vb.t.c, .slice vb.g.a vb.g.n vb.g.c, .slice vb.r.a vb.r.n vb.r.c, .slice vb.k.a vb.k.n vb.k.c, .slice vb.a.a vb.a.n vb.a.c, .slice vb.i.a vb.i.n vb.i.c, .slice vb.s.a vb.s.n vb.s.c,I tb.depth,I tb.frames,I tb.errors,I tb.calls] 30)
 have hb := belT hb1 hb2
 have HBB : Hid (Below w.heap.size w ((w.alloc (.cells #[I tb.uses,I tb.modes, .slice va.t.a va.t.n va.t.c, .slice va.g.a va.g.n va.g.c, .slice va.r.a va.r.n va.r.c, .slice va.k.a va.k.n va.k.c, .slice va.a.a va.a.n va.a.c, .slice va.i.a va.i.n va.i.c, .slice va.s.a va.s.n va.s.c,I tb.depth,I tb.frames,I tb.errors,I tb.calls] 30)).alloc (.cells #[I tb.uses,I tb.modes, .slice vb.t.a vb.t.n vb.t.c, .slice vb.g.a vb.g.n vb.g.c, .slice vb.r.a vb.r.n vb.r.c, .slice vb.k.a vb.k.n vb.k.c, .slice vb.a.a vb.a.n vb.a.c, .slice vb.i.a vb.i.n vb.i.c, .slice vb.s.a vb.s.n vb.s.c,I tb.depth,I tb.frames,I tb.errors,I tb.calls] 30))) := hb
 have HS0 : Hid (∀ W,Below ((w.alloc (.cells #[I tb.uses,I tb.modes, .slice va.t.a va.t.n va.t.c, .slice va.g.a va.g.n va.g.c, .slice va.r.a va.r.n va.r.c, .slice va.k.a va.k.n va.k.c, .slice va.a.a va.a.n va.a.c, .slice va.i.a va.i.n va.i.c, .slice va.s.a va.s.n va.s.c,I tb.depth,I tb.frames,I tb.errors,I tb.calls] 30)).alloc (.cells #[I tb.uses,I tb.modes, .slice vb.t.a vb.t.n vb.t.c, .slice vb.g.a vb.g.n vb.g.c, .slice vb.r.a vb.r.n vb.r.c, .slice vb.k.a vb.k.n vb.k.c, .slice vb.a.a vb.a.n vb.a.c, .slice vb.i.a vb.i.n vb.i.c, .slice vb.s.a vb.s.n vb.s.c,I tb.depth,I tb.frames,I tb.errors,I tb.calls] 30)).heap.size ((w.alloc (.cells #[I tb.uses,I tb.modes, .slice va.t.a va.t.n va.t.c, .slice va.g.a va.g.n va.g.c, .slice va.r.a va.r.n va.r.c, .slice va.k.a va.k.n va.k.c, .slice va.a.a va.a.n va.a.c, .slice va.i.a va.i.n va.i.c, .slice va.s.a va.s.n va.s.c,I tb.depth,I tb.frames,I tb.errors,I tb.calls] 30)).alloc (.cells #[I tb.uses,I tb.modes, .slice vb.t.a vb.t.n vb.t.c, .slice vb.g.a vb.g.n vb.g.c, .slice vb.r.a vb.r.n vb.r.c, .slice vb.k.a vb.k.n vb.k.c, .slice vb.a.a vb.a.n vb.a.c, .slice vb.i.a vb.i.n vb.i.c, .slice vb.s.a vb.s.n vb.s.c,I tb.depth,I tb.frames,I tb.errors,I tb.calls] 30)) W → (fun X0 X1 => W.cell? ⟨X0,0,none⟩ = some (I tb.uses) ∧ W.cell? ⟨X0,1,none⟩ = some (I tb.modes) ∧ W.cell? ⟨X0,2,none⟩ = some (.slice va.t.a va.t.n va.t.c) ∧ W.cell? ⟨X0,3,none⟩ = some (.slice va.g.a va.g.n va.g.c) ∧ W.cell? ⟨X0,4,none⟩ = some (.slice va.r.a va.r.n va.r.c) ∧ W.cell? ⟨X0,5,none⟩ = some (.slice va.k.a va.k.n va.k.c) ∧ W.cell? ⟨X0,6,none⟩ = some (.slice va.a.a va.a.n va.a.c) ∧ W.cell? ⟨X0,7,none⟩ = some (.slice va.i.a va.i.n va.i.c) ∧ W.cell? ⟨X0,8,none⟩ = some (.slice va.s.a va.s.n va.s.c) ∧ W.cell? ⟨X0,9,none⟩ = some (I tb.depth) ∧ W.cell? ⟨X0,10,none⟩ = some (I tb.frames) ∧ W.cell? ⟨X0,11,none⟩ = some (I tb.errors) ∧ W.cell? ⟨X0,12,none⟩ = some (I tb.calls) ∧ W.cell? ⟨X1,0,none⟩ = some (I tb.uses) ∧ W.cell? ⟨X1,1,none⟩ = some (I tb.modes) ∧ W.cell? ⟨X1,2,none⟩ = some (.slice vb.t.a vb.t.n vb.t.c) ∧ W.cell? ⟨X1,3,none⟩ = some (.slice vb.g.a vb.g.n vb.g.c) ∧ W.cell? ⟨X1,4,none⟩ = some (.slice vb.r.a vb.r.n vb.r.c) ∧ W.cell? ⟨X1,5,none⟩ = some (.slice vb.k.a vb.k.n vb.k.c) ∧ W.cell? ⟨X1,6,none⟩ = some (.slice vb.a.a vb.a.n vb.a.c) ∧ W.cell? ⟨X1,7,none⟩ = some (.slice vb.i.a vb.i.n vb.i.c) ∧ W.cell? ⟨X1,8,none⟩ = some (.slice vb.s.a vb.s.n vb.s.c) ∧ W.cell? ⟨X1,9,none⟩ = some (I tb.depth) ∧ W.cell? ⟨X1,10,none⟩ = some (I tb.frames) ∧ W.cell? ⟨X1,11,none⟩ = some (I tb.errors) ∧ W.cell? ⟨X1,12,none⟩ = some (I tb.calls)) w.heap.size (w.heap.size + 1)) := fun W hW => by
  have q0 := (hb2.block _ (qa4 hv1)).trans hv1
  have q := (hW.block _ (qa4 q0)).trans q0
  have p := (hW.block _ (qa4 hv2)).trans hv2
  rw [qmn] at p
  refine ⟨?_, ?_, ?_, ?_, ?_, ?_, ?_, ?_, ?_, ?_, ?_, ?_, ?_, ?_, ?_, ?_, ?_, ?_, ?_, ?_, ?_, ?_, ?_, ?_, ?_, ?_⟩ <;> first | (rw [cell_of_row _ _ _ _ _ (0,0) q]; rfl) | (rw [cell_of_row _ _ _ _ _ (0,0) p]; rfl)
 have HT : Hid (∀ W,Below ((w.alloc (.cells #[I tb.uses,I tb.modes, .slice va.t.a va.t.n va.t.c, .slice va.g.a va.g.n va.g.c, .slice va.r.a va.r.n va.r.c, .slice va.k.a va.k.n va.k.c, .slice va.a.a va.a.n va.a.c, .slice va.i.a va.i.n va.i.c, .slice va.s.a va.s.n va.s.c,I tb.depth,I tb.frames,I tb.errors,I tb.calls] 30)).alloc (.cells #[I tb.uses,I tb.modes, .slice vb.t.a vb.t.n vb.t.c, .slice vb.g.a vb.g.n vb.g.c, .slice vb.r.a vb.r.n vb.r.c, .slice vb.k.a vb.k.n vb.k.c, .slice vb.a.a vb.a.n vb.a.c, .slice vb.i.a vb.i.n vb.i.c, .slice vb.s.a vb.s.n vb.s.c,I tb.depth,I tb.frames,I tb.errors,I tb.calls] 30)).heap.size ((w.alloc (.cells #[I tb.uses,I tb.modes, .slice va.t.a va.t.n va.t.c, .slice va.g.a va.g.n va.g.c, .slice va.r.a va.r.n va.r.c, .slice va.k.a va.k.n va.k.c, .slice va.a.a va.a.n va.a.c, .slice va.i.a va.i.n va.i.c, .slice va.s.a va.s.n va.s.c,I tb.depth,I tb.frames,I tb.errors,I tb.calls] 30)).alloc (.cells #[I tb.uses,I tb.modes, .slice vb.t.a vb.t.n vb.t.c, .slice vb.g.a vb.g.n vb.g.c, .slice vb.r.a vb.r.n vb.r.c, .slice vb.k.a vb.k.n vb.k.c, .slice vb.a.a vb.a.n vb.a.c, .slice vb.i.a vb.i.n vb.i.c, .slice vb.s.a vb.s.n vb.s.c,I tb.depth,I tb.frames,I tb.errors,I tb.calls] 30)) W → TbAt W tb va ∧ TbAt W tb vb) := fun W hW => ⟨hA.below (belT hb hW),hB.below (belT hb hW)⟩
 have hRA := fun (W : World) (hW : Below ((w.alloc (.cells #[I tb.uses,I tb.modes, .slice va.t.a va.t.n va.t.c, .slice va.g.a va.g.n va.g.c, .slice va.r.a va.r.n va.r.c, .slice va.k.a va.k.n va.k.c, .slice va.a.a va.a.n va.a.c, .slice va.i.a va.i.n va.i.c, .slice va.s.a va.s.n va.s.c,I tb.depth,I tb.frames,I tb.errors,I tb.calls] 30)).alloc (.cells #[I tb.uses,I tb.modes, .slice vb.t.a vb.t.n vb.t.c, .slice vb.g.a vb.g.n vb.g.c, .slice vb.r.a vb.r.n vb.r.c, .slice vb.k.a vb.k.n vb.k.c, .slice vb.a.a vb.a.n vb.a.c, .slice vb.i.a vb.i.n vb.i.c, .slice vb.s.a vb.s.n vb.s.c,I tb.depth,I tb.frames,I tb.errors,I tb.calls] 30)).heap.size ((w.alloc (.cells #[I tb.uses,I tb.modes, .slice va.t.a va.t.n va.t.c, .slice va.g.a va.g.n va.g.c, .slice va.r.a va.r.n va.r.c, .slice va.k.a va.k.n va.k.c, .slice va.a.a va.a.n va.a.c, .slice va.i.a va.i.n va.i.c, .slice va.s.a va.s.n va.s.c,I tb.depth,I tb.frames,I tb.errors,I tb.calls] 30)).alloc (.cells #[I tb.uses,I tb.modes, .slice vb.t.a vb.t.n vb.t.c, .slice vb.g.a vb.g.n vb.g.c, .slice vb.r.a vb.r.n vb.r.c, .slice vb.k.a vb.k.n vb.k.c, .slice vb.a.a vb.a.n vb.a.c, .slice vb.i.a vb.i.n vb.i.c, .slice vb.s.a vb.s.n vb.s.c,I tb.depth,I tb.frames,I tb.errors,I tb.calls] 30)) W) => qgf W tb va (HT.out W hW).1
 have hRB := fun (W : World) (hW : Below ((w.alloc (.cells #[I tb.uses,I tb.modes, .slice va.t.a va.t.n va.t.c, .slice va.g.a va.g.n va.g.c, .slice va.r.a va.r.n va.r.c, .slice va.k.a va.k.n va.k.c, .slice va.a.a va.a.n va.a.c, .slice va.i.a va.i.n va.i.c, .slice va.s.a va.s.n va.s.c,I tb.depth,I tb.frames,I tb.errors,I tb.calls] 30)).alloc (.cells #[I tb.uses,I tb.modes, .slice vb.t.a vb.t.n vb.t.c, .slice vb.g.a vb.g.n vb.g.c, .slice vb.r.a vb.r.n vb.r.c, .slice vb.k.a vb.k.n vb.k.c, .slice vb.a.a vb.a.n vb.a.c, .slice vb.i.a vb.i.n vb.i.c, .slice vb.s.a vb.s.n vb.s.c,I tb.depth,I tb.frames,I tb.errors,I tb.calls] 30)).heap.size ((w.alloc (.cells #[I tb.uses,I tb.modes, .slice va.t.a va.t.n va.t.c, .slice va.g.a va.g.n va.g.c, .slice va.r.a va.r.n va.r.c, .slice va.k.a va.k.n va.k.c, .slice va.a.a va.a.n va.a.c, .slice va.i.a va.i.n va.i.c, .slice va.s.a va.s.n va.s.c,I tb.depth,I tb.frames,I tb.errors,I tb.calls] 30)).alloc (.cells #[I tb.uses,I tb.modes, .slice vb.t.a vb.t.n vb.t.c, .slice vb.g.a vb.g.n vb.g.c, .slice vb.r.a vb.r.n vb.r.c, .slice vb.k.a vb.k.n vb.k.c, .slice vb.a.a vb.a.n vb.a.c, .slice vb.i.a vb.i.n vb.i.c, .slice vb.s.a vb.s.n vb.s.c,I tb.depth,I tb.frames,I tb.errors,I tb.calls] 30)) W) => qgf W tb vb (HT.out W hW).2
 unfold tbC at *
 clear hb1 hb2 hv1 hv2 hb hA hB
 go_enter Tryz.func16,Tryz.ntmps16
 go_upto_region 1 with fail
 generalize (w.alloc (.cells #[I tb.uses,I tb.modes, .slice va.t.a va.t.n va.t.c, .slice va.g.a va.g.n va.g.c, .slice va.r.a va.r.n va.r.c, .slice va.k.a va.k.n va.k.c, .slice va.a.a va.a.n va.a.c, .slice va.i.a va.i.n va.i.c, .slice va.s.a va.s.n va.s.c,I tb.depth,I tb.frames,I tb.errors,I tb.calls] 30)).alloc (.cells #[I tb.uses,I tb.modes, .slice vb.t.a vb.t.n vb.t.c, .slice vb.g.a vb.g.n vb.g.c, .slice vb.r.a vb.r.n vb.r.c, .slice vb.k.a vb.k.n vb.k.c, .slice vb.a.a vb.a.n vb.a.c, .slice vb.i.a vb.i.n vb.i.c, .slice vb.s.a vb.s.n vb.s.c,I tb.depth,I tb.frames,I tb.errors,I tb.calls] 30) = w1 at *
 generalize w.heap.size + 1 = X1 at *
 generalize hX0 : w.heap.size = X0 at *
 have HX0 : Hid (w.heap.size = X0) := hX0
 clear hX0
 have HS : Hid (∀ W,Below w1.heap.size w1 W → W.cell? ⟨X0,0,none⟩ = some (I tb.uses) ∧ W.cell? ⟨X0,1,none⟩ = some (I tb.modes) ∧ W.cell? ⟨X0,2,none⟩ = some (.slice va.t.a va.t.n va.t.c) ∧ W.cell? ⟨X0,3,none⟩ = some (.slice va.g.a va.g.n va.g.c) ∧ W.cell? ⟨X0,4,none⟩ = some (.slice va.r.a va.r.n va.r.c) ∧ W.cell? ⟨X0,5,none⟩ = some (.slice va.k.a va.k.n va.k.c) ∧ W.cell? ⟨X0,6,none⟩ = some (.slice va.a.a va.a.n va.a.c) ∧ W.cell? ⟨X0,7,none⟩ = some (.slice va.i.a va.i.n va.i.c) ∧ W.cell? ⟨X0,8,none⟩ = some (.slice va.s.a va.s.n va.s.c) ∧ W.cell? ⟨X0,9,none⟩ = some (I tb.depth) ∧ W.cell? ⟨X0,10,none⟩ = some (I tb.frames) ∧ W.cell? ⟨X0,11,none⟩ = some (I tb.errors) ∧ W.cell? ⟨X0,12,none⟩ = some (I tb.calls) ∧ W.cell? ⟨X1,0,none⟩ = some (I tb.uses) ∧ W.cell? ⟨X1,1,none⟩ = some (I tb.modes) ∧ W.cell? ⟨X1,2,none⟩ = some (.slice vb.t.a vb.t.n vb.t.c) ∧ W.cell? ⟨X1,3,none⟩ = some (.slice vb.g.a vb.g.n vb.g.c) ∧ W.cell? ⟨X1,4,none⟩ = some (.slice vb.r.a vb.r.n vb.r.c) ∧ W.cell? ⟨X1,5,none⟩ = some (.slice vb.k.a vb.k.n vb.k.c) ∧ W.cell? ⟨X1,6,none⟩ = some (.slice vb.a.a vb.a.n vb.a.c) ∧ W.cell? ⟨X1,7,none⟩ = some (.slice vb.i.a vb.i.n vb.i.c) ∧ W.cell? ⟨X1,8,none⟩ = some (.slice vb.s.a vb.s.n vb.s.c) ∧ W.cell? ⟨X1,9,none⟩ = some (I tb.depth) ∧ W.cell? ⟨X1,10,none⟩ = some (I tb.frames) ∧ W.cell? ⟨X1,11,none⟩ = some (I tb.errors) ∧ W.cell? ⟨X1,12,none⟩ = some (I tb.calls)) := HS0.out
 clear HS0
 have HY := HS.out w1.drew (Below.refl w1.heap.size w1).drew
 have hbz : Below w1.heap.size w1 w1.drew := (Below.refl w1.heap.size w1).drew
 go_region_held_law (fun W => W.cell? ⟨X0,0,none⟩ = some (I tb.uses) ∧ W.cell? ⟨X0,1,none⟩ = some (I tb.modes) ∧ W.cell? ⟨X0,2,none⟩ = some (.slice va.t.a va.t.n va.t.c) ∧ W.cell? ⟨X0,3,none⟩ = some (.slice va.g.a va.g.n va.g.c) ∧ W.cell? ⟨X0,4,none⟩ = some (.slice va.r.a va.r.n va.r.c) ∧ W.cell? ⟨X0,5,none⟩ = some (.slice va.k.a va.k.n va.k.c) ∧ W.cell? ⟨X0,6,none⟩ = some (.slice va.a.a va.a.n va.a.c) ∧ W.cell? ⟨X0,7,none⟩ = some (.slice va.i.a va.i.n va.i.c) ∧ W.cell? ⟨X0,8,none⟩ = some (.slice va.s.a va.s.n va.s.c) ∧ W.cell? ⟨X0,9,none⟩ = some (I tb.depth) ∧ W.cell? ⟨X0,10,none⟩ = some (I tb.frames) ∧ W.cell? ⟨X0,11,none⟩ = some (I tb.errors) ∧ W.cell? ⟨X0,12,none⟩ = some (I tb.calls) ∧ W.cell? ⟨X1,0,none⟩ = some (I tb.uses) ∧ W.cell? ⟨X1,1,none⟩ = some (I tb.modes) ∧ W.cell? ⟨X1,2,none⟩ = some (.slice vb.t.a vb.t.n vb.t.c) ∧ W.cell? ⟨X1,3,none⟩ = some (.slice vb.g.a vb.g.n vb.g.c) ∧ W.cell? ⟨X1,4,none⟩ = some (.slice vb.r.a vb.r.n vb.r.c) ∧ W.cell? ⟨X1,5,none⟩ = some (.slice vb.k.a vb.k.n vb.k.c) ∧ W.cell? ⟨X1,6,none⟩ = some (.slice vb.a.a vb.a.n vb.a.c) ∧ W.cell? ⟨X1,7,none⟩ = some (.slice vb.i.a vb.i.n vb.i.c) ∧ W.cell? ⟨X1,8,none⟩ = some (.slice vb.s.a vb.s.n vb.s.c) ∧ W.cell? ⟨X1,9,none⟩ = some (I tb.depth) ∧ W.cell? ⟨X1,10,none⟩ = some (I tb.frames) ∧ W.cell? ⟨X1,11,none⟩ = some (I tb.errors) ∧ W.cell? ⟨X1,12,none⟩ = some (I tb.calls)) (first | exact HY | exact HS.out _ (by repeat' (first | exact hbz | apply Below.drew | apply belA)) | (go_keep; done)) (first
  | (go_at_call 39; refine (hRA _ hbz).mono ?_; clear hRA; rintro e w2 ⟨⟨a1,n1,c1⟩,rfl,r1,b2⟩; dsimp only [slT]; have hbz := belT hbz b2; have HY := HS.out _ hbz; clear b2)
  | (go_at_call 39; refine (hRB _ hbz).mono ?_; clear hRB; rintro e w3 ⟨⟨a2,n2,c2⟩,rfl,r2,b3⟩; dsimp only [slT]; have hbz := belT hbz b3; have HY := HS.out _ hbz; have r1 := r1.below b3 (fun _ _ _ _ h => h); clear b3)
  | (go_at_call 38; refine (qee _ ⟨a1,n1,c1⟩ ⟨a2,n2,c2⟩ _ _ r1 r2).mono ?_; rintro e w4 ⟨rfl,b4⟩; have hbz := belT hbz b4; have HY := HS.out _ hbz; clear b4 r1 r2; rw [decide_eq_true rfl]))
 have HLN : Hid (va.t.n = vb.t.n ∧ va.g.n = vb.g.n ∧ va.r.n = vb.r.n ∧ va.k.n = vb.k.n ∧ va.a.n = vb.a.n ∧ va.i.n = vb.i.n ∧ va.s.n = vb.s.n) := by
  obtain ⟨p,q⟩ := HT.out _ hbz
  exact ⟨p.t.n.trans q.t.n.symm,p.g.n.trans q.g.n.symm,p.r.n.trans q.r.n.symm,p.k.n.trans q.k.n.symm,p.a.n.trans q.a.n.symm,p.i.n.trans q.i.n.symm,p.s.n.trans q.s.n.symm⟩
 have cA : w4.cell? ⟨X0,2,none⟩ = _ := (HS.out _ hbz).2.2.1
 go_wp2
 clear cA
 have HI0 : Hid (Below w1.heap.size w1 w4) := hbz
 go_loopw [5,6,7] (fun v5 _ _ wr0 => ∃ k : Nat,k ≤ va.t.n ∧ v5 = I k ∧ Hid (Below w1.heap.size w1 wr0)) (fun v5 _ _ _ => va.t.n - (intOf v5).toNat)
 case atStart => exact ⟨0,by omega,rfl,HI0.out⟩
 case round =>
  clear HI0
  obtain ⟨k,hk,rfl,HJ⟩ := hrel
  have cA : wr.cell? ⟨X0,2,none⟩ = some (.slice va.t.a va.t.n va.t.c) := (HS.out wr HJ.out).2.2.1
  have cB : wr.cell? ⟨X1,2,none⟩ = some (.slice vb.t.a vb.t.n vb.t.c) := (HS.out wr HJ.out).2.2.2.2.2.2.2.2.2.2.2.2.2.2.2.1
  by_cases hlt : k < va.t.n
  ·have hltI : (k : Int) < va.t.n := by omega
   have hltJ : (k : Int) < vb.t.n := by have := HLN.out.1; omega
   have hk1 : k < tb.tasks.length := by have : va.t.n = _ := (HT.out wr HJ.out).1.t.n; omega
   have hmx : va.t.n ≤ maxLen := Nat.le_trans (HT.out wr HJ.out).1.t.c (HT.out wr HJ.out).1.t.m
   unfold maxLen at hmx
   obtain ⟨x,hx⟩ : ∃ x,tb.tasks[k]? = some x := ⟨_,List.getElem?_eq_getElem hk1⟩
   obtain ⟨g1,o1,s1,e1,hg1,q0,q1,q2,q3,q4,q5,q6,q7,R1⟩ := qdl (HT.out wr HJ.out).1 hx
   obtain ⟨g2,o2,s2,e2,hg2,r0,r1,r2,r3,r4,r5,r6,r7,R2⟩ := qdl (HT.out wr HJ.out).2 hx
   rw [e1] at cA
   rw [e2] at cB
   have HSS : Hid (∀ W,Below wr.heap.size wr W → (fun W => W.cell? ⟨X0,2,none⟩ = some (.slice (some ⟨g1,o1,none⟩) va.t.n va.t.c) ∧ W.cell? ⟨X1,2,none⟩ = some (.slice (some ⟨g2,o2,none⟩) vb.t.n vb.t.c) ∧ W.cell? ⟨g1,o1 + k * 8,none⟩ = some (I x.prio) ∧ W.cell? ⟨g1,o1 + k * 8 + 1,none⟩ = some (I x.ring) ∧ W.cell? ⟨g1,o1 + k * 8 + 2,none⟩ = some (.bool x.full) ∧ W.cell? ⟨g1,o1 + k * 8 + 3,none⟩ = some (I x.limit) ∧ W.cell? ⟨g1,o1 + k * 8 + 4,none⟩ = some (.int .u32 (x.mask : Int)) ∧ W.cell? ⟨g1,o1 + k * 8 + 5,none⟩ = some (I x.inner) ∧ W.cell? ⟨g1,o1 + k * 8 + 6,none⟩ = some (.slice s1.a s1.n s1.c) ∧ W.cell? ⟨g1,o1 + k * 8 + 7,none⟩ = some (.int .u32 (x.auto : Int)) ∧ W.cell? ⟨g2,o2 + k * 8,none⟩ = some (I x.prio) ∧ W.cell? ⟨g2,o2 + k * 8 + 1,none⟩ = some (I x.ring) ∧ W.cell? ⟨g2,o2 + k * 8 + 2,none⟩ = some (.bool x.full) ∧ W.cell? ⟨g2,o2 + k * 8 + 3,none⟩ = some (I x.limit) ∧ W.cell? ⟨g2,o2 + k * 8 + 4,none⟩ = some (.int .u32 (x.mask : Int)) ∧ W.cell? ⟨g2,o2 + k * 8 + 5,none⟩ = some (I x.inner) ∧ W.cell? ⟨g2,o2 + k * 8 + 6,none⟩ = some (.slice s2.a s2.n s2.c) ∧ W.cell? ⟨g2,o2 + k * 8 + 7,none⟩ = some (.int .u32 (x.auto : Int))) W) := fun W hW => ⟨by rw [qa5 hW _ _ (World.block_lt_of_cell? _ _ cA)]; exact cA,by rw [qa5 hW _ _ (World.block_lt_of_cell? _ _ cB)]; exact cB,by rw [qa5 hW _ _ (World.block_lt_of_cell? _ _ q0)]; exact q0,by rw [qa5 hW _ _ (World.block_lt_of_cell? _ _ q1)]; exact q1,by rw [qa5 hW _ _ (World.block_lt_of_cell? _ _ q2)]; exact q2,by rw [qa5 hW _ _ (World.block_lt_of_cell? _ _ q3)]; exact q3,by rw [qa5 hW _ _ (World.block_lt_of_cell? _ _ q4)]; exact q4,by rw [qa5 hW _ _ (World.block_lt_of_cell? _ _ q5)]; exact q5,by rw [qa5 hW _ _ (World.block_lt_of_cell? _ _ q6)]; exact q6,by rw [qa5 hW _ _ (World.block_lt_of_cell? _ _ q7)]; exact q7,by rw [qa5 hW _ _ (World.block_lt_of_cell? _ _ r0)]; exact r0,by rw [qa5 hW _ _ (World.block_lt_of_cell? _ _ r1)]; exact r1,by rw [qa5 hW _ _ (World.block_lt_of_cell? _ _ r2)]; exact r2,by rw [qa5 hW _ _ (World.block_lt_of_cell? _ _ r3)]; exact r3,by rw [qa5 hW _ _ (World.block_lt_of_cell? _ _ r4)]; exact r4,by rw [qa5 hW _ _ (World.block_lt_of_cell? _ _ r5)]; exact r5,by rw [qa5 hW _ _ (World.block_lt_of_cell? _ _ r6)]; exact r6,by rw [qa5 hW _ _ (World.block_lt_of_cell? _ _ r7)]; exact r7⟩
   have HRR : Hid (RowsAt wr 1 intP s1 x.own ∧ RowsAt wr 1 intP s2 x.own ∧ Below w1.heap.size w1 wr) := ⟨R1,R2,HJ.out⟩
   clear R1 R2 hk1 hx e1 e2 hg1 hg2
   go_upto_region 6 with fail
   clear cA cB q0 q1 q2 q3 q4 q5 q6 q7 r0 r1 r2 r3 r4 r5 r6 r7 HJ
   have HC := HSS.out wr.drew (Below.refl wr.heap.size wr).drew
   refine wp_region_held_drew (S := (fun W => W.cell? ⟨X0,2,none⟩ = some (.slice (some ⟨g1,o1,none⟩) va.t.n va.t.c) ∧ W.cell? ⟨X1,2,none⟩ = some (.slice (some ⟨g2,o2,none⟩) vb.t.n vb.t.c) ∧ W.cell? ⟨g1,o1 + k * 8,none⟩ = some (I x.prio) ∧ W.cell? ⟨g1,o1 + k * 8 + 1,none⟩ = some (I x.ring) ∧ W.cell? ⟨g1,o1 + k * 8 + 2,none⟩ = some (.bool x.full) ∧ W.cell? ⟨g1,o1 + k * 8 + 3,none⟩ = some (I x.limit) ∧ W.cell? ⟨g1,o1 + k * 8 + 4,none⟩ = some (.int .u32 (x.mask : Int)) ∧ W.cell? ⟨g1,o1 + k * 8 + 5,none⟩ = some (I x.inner) ∧ W.cell? ⟨g1,o1 + k * 8 + 6,none⟩ = some (.slice s1.a s1.n s1.c) ∧ W.cell? ⟨g1,o1 + k * 8 + 7,none⟩ = some (.int .u32 (x.auto : Int)) ∧ W.cell? ⟨g2,o2 + k * 8,none⟩ = some (I x.prio) ∧ W.cell? ⟨g2,o2 + k * 8 + 1,none⟩ = some (I x.ring) ∧ W.cell? ⟨g2,o2 + k * 8 + 2,none⟩ = some (.bool x.full) ∧ W.cell? ⟨g2,o2 + k * 8 + 3,none⟩ = some (I x.limit) ∧ W.cell? ⟨g2,o2 + k * 8 + 4,none⟩ = some (.int .u32 (x.mask : Int)) ∧ W.cell? ⟨g2,o2 + k * 8 + 5,none⟩ = some (I x.inner) ∧ W.cell? ⟨g2,o2 + k * 8 + 6,none⟩ = some (.slice s2.a s2.n s2.c) ∧ W.cell? ⟨g2,o2 + k * 8 + 7,none⟩ = some (.int .u32 (x.auto : Int)))) (by kernel_rfl) HC (fun hHeld => ?_)
   clear HC
   change wpAnyH _ _ _ _ _ _ #[false,false,false,false,false,false,false,false,false,false,false,false,false,false] _ _
   try simp only [Act.put,q7a,q7b,q7c,q7d,q7e,q7f]
   refine wpAnyH_take (i := 0) (v := .pointer (some ⟨X0,2,none⟩)) rfl (by kernel_rfl) (by kernel_rfl) (by kernel_rfl) (fun _ _ _ h => h) (Or.inl ⟨by rfl, ?_⟩) hHeld ?_
   ·intro w' hSw
    try dsimp only at hSw
    clear hHeld
    go_simp
   try simp only [Act.put,q7a,q7b,q7c,q7d,q7e,q7f]
   refine wpAnyH_take (i := 1) (v := .slice (some ⟨g1,o1,none⟩) va.t.n va.t.c) rfl (by kernel_rfl) (by kernel_rfl) (by kernel_rfl) (fun _ _ _ h => h) (Or.inl ⟨by rfl, ?_⟩) hHeld ?_
   ·intro w' hSw
    try dsimp only at hSw
    clear hHeld
    go_simp
   try simp only [Act.put,q7a,q7b,q7c,q7d,q7e,q7f]
   refine wpAnyH_take (i := 2) (v := I k) rfl (by kernel_rfl) (by kernel_rfl) (by kernel_rfl) (fun _ _ _ h => h) (Or.inl ⟨by rfl, ?_⟩) hHeld ?_
   ·intro w' hSw
    try dsimp only at hSw
    clear hHeld
    go_simp
   try simp only [Act.put,q7a,q7b,q7c,q7d,q7e,q7f]
   refine wpAnyH_take (i := 3) (v := .pointer (some ⟨g1,o1 + k * 8,none⟩)) rfl (by kernel_rfl) (by kernel_rfl) (by kernel_rfl) (fun _ _ _ h => h) (Or.inl ⟨by rfl, ?_⟩) hHeld ?_
   ·intro w' hSw
    try dsimp only at hSw
    clear hHeld
    go_simp
   try simp only [Act.put,q7a,q7b,q7c,q7d,q7e,q7f]
   refine wpAnyH_take (i := 4) (v := .agg #[I x.prio,I x.ring, .bool x.full,I x.limit, .int .u32 (x.mask : Int),I x.inner, .slice s1.a s1.n s1.c, .int .u32 (x.auto : Int)]) rfl (by kernel_rfl) (by kernel_rfl) (by kernel_rfl) (fun _ _ _ h => h) (Or.inl ⟨by rfl, ?_⟩) hHeld ?_
   ·intro w' hSw
    try dsimp only at hSw
    clear hHeld
    go_simp
   try simp only [Act.put,q7a,q7b,q7c,q7d,q7e,q7f]
   refine wpAnyH_take (i := 5) (v := .pointer (some ⟨X1,2,none⟩)) rfl (by kernel_rfl) (by kernel_rfl) (by kernel_rfl) (fun _ _ _ h => h) (Or.inl ⟨by rfl, ?_⟩) hHeld ?_
   ·intro w' hSw
    try dsimp only at hSw
    clear hHeld
    go_simp
   try simp only [Act.put,q7a,q7b,q7c,q7d,q7e,q7f]
   refine wpAnyH_take (i := 6) (v := .slice (some ⟨g2,o2,none⟩) vb.t.n vb.t.c) rfl (by kernel_rfl) (by kernel_rfl) (by kernel_rfl) (fun _ _ _ h => h) (Or.inl ⟨by rfl, ?_⟩) hHeld ?_
   ·intro w' hSw
    try dsimp only at hSw
    clear hHeld
    go_simp
   try simp only [Act.put,q7a,q7b,q7c,q7d,q7e,q7f]
   refine wpAnyH_take (i := 7) (v := I k) rfl (by kernel_rfl) (by kernel_rfl) (by kernel_rfl) (fun _ _ _ h => h) (Or.inl ⟨by rfl, ?_⟩) hHeld ?_
   ·intro w' hSw
    try dsimp only at hSw
    clear hHeld
    go_simp
   try simp only [Act.put,q7a,q7b,q7c,q7d,q7e,q7f]
   refine wpAnyH_take (i := 8) (v := .pointer (some ⟨g2,o2 + k * 8,none⟩)) rfl (by kernel_rfl) (by kernel_rfl) (by kernel_rfl) (fun _ _ _ h => h) (Or.inl ⟨by rfl, ?_⟩) hHeld ?_
   ·intro w' hSw
    try dsimp only at hSw
    clear hHeld
    go_simp
   try simp only [Act.put,q7a,q7b,q7c,q7d,q7e,q7f]
   refine wpAnyH_take (i := 9) (v := .agg #[I x.prio,I x.ring, .bool x.full,I x.limit, .int .u32 (x.mask : Int),I x.inner, .slice s2.a s2.n s2.c, .int .u32 (x.auto : Int)]) rfl (by kernel_rfl) (by kernel_rfl) (by kernel_rfl) (fun _ _ _ h => h) (Or.inl ⟨by rfl, ?_⟩) hHeld ?_
   ·intro w' hSw
    try dsimp only at hSw
    clear hHeld
    go_simp
   try simp only [Act.put,q7a,q7b,q7c,q7d,q7e,q7f]
   clear hHeld
   refine qdg (fun A HA G HG => ?_)
   have K11 : Hid (∀ (W : World) (P Q : Nat),Below wr.heap.size wr W → W.heap[P]? = some (.cells #[I 0,I 0, .bool false,I 0, .int .u32 0,I 0, .slice none 0 0, .int .u32 0] 61) → W.heap[Q]? = some (.cells #[I 0,I 0, .bool false,I 0, .int .u32 0,I 0, .slice none 0 0, .int .u32 0] 61) → P ≠ Q → wr.heap.size ≤ P → wr.heap.size ≤ Q → G 2 #[true,true,true,true,true,true,true,true,true,true,true,true,false,false] ((A.setIfInBounds 6 (.pointer (some ⟨P,0,none⟩))).setIfInBounds 7 (.pointer (some ⟨Q,0,none⟩))) W) := fun W P Q hb hP hQ hne hP1 hQ1 => by
    have hA := HA.out
    subst hA
    rw [HG.out]
    try simp only [Act.put,q7a,q7b,q7c,q7d,q7e,q7f]
    refine wpAnyH_ready (rs := [12]) (by kernel_rfl) (by simp) ?_
    refine AllReadyH.cons rfl (fun K hK => ?_) AllReadyH.nil
    obtain ⟨⟨-,cp0,fp0⟩,⟨-,cp1,fp1⟩,⟨-,cp2,fp2⟩,⟨-,cp3,fp3⟩,⟨-,cp4,fp4⟩,⟨-,cp5,fp5⟩,⟨-,cp6,fp6⟩,⟨-,cp7,fp7⟩,kP⟩ := qmq (I x.prio) (I x.ring) (.bool x.full) (I x.limit) (.int .u32 (x.mask : Int)) (I x.inner) (.slice s1.a s1.n s1.c) (.int .u32 (x.auto : Int)) hP
    go_simp
    have hb5 : Below wr.heap.size wr (((((((((W).setCell ⟨P,0,none⟩ (I x.prio)).setCell ⟨P,1,none⟩ (I x.ring)).setCell ⟨P,2,none⟩ (.bool x.full)).setCell ⟨P,3,none⟩ (I x.limit)).setCell ⟨P,4,none⟩ (.int .u32 (x.mask : Int))).setCell ⟨P,5,none⟩ (I x.inner)).setCell ⟨P,6,none⟩ (.slice s1.a s1.n s1.c)).setCell ⟨P,7,none⟩ (.int .u32 (x.auto : Int))) := qae (qae (qae (qae (qae (qae (qae (qae (hb) hP1) hP1) hP1) hP1) hP1) hP1) hP1) hP1
    have hQ5 : (((((((((W).setCell ⟨P,0,none⟩ (I x.prio)).setCell ⟨P,1,none⟩ (I x.ring)).setCell ⟨P,2,none⟩ (.bool x.full)).setCell ⟨P,3,none⟩ (I x.limit)).setCell ⟨P,4,none⟩ (.int .u32 (x.mask : Int))).setCell ⟨P,5,none⟩ (I x.inner)).setCell ⟨P,6,none⟩ (.slice s1.a s1.n s1.c)).setCell ⟨P,7,none⟩ (.int .u32 (x.auto : Int))).heap[Q]? = some (.cells #[I 0,I 0, .bool false,I 0, .int .u32 0,I 0, .slice none 0 0, .int .u32 0] 61) := by
     repeat rw [heap_setCell_other _ _ Q _ (by show Q ≠ P; omega)]
     exact hQ
    refine hK.out _ _ (HSS.out _ hb5) (fun hSS => ?_)
    clear hSS hK K hb hP hQ cp0 cp1 cp2 cp3 cp4 cp5 cp6 cp7 fp0 fp1 fp2 fp3 fp4 fp5 fp6 fp7
    try simp only [Act.put,q7a,q7b,q7c,q7d,q7e,q7f]
    generalize ((((((((W).setCell ⟨P,0,none⟩ (I x.prio)).setCell ⟨P,1,none⟩ (I x.ring)).setCell ⟨P,2,none⟩ (.bool x.full)).setCell ⟨P,3,none⟩ (I x.limit)).setCell ⟨P,4,none⟩ (.int .u32 (x.mask : Int))).setCell ⟨P,5,none⟩ (I x.inner)).setCell ⟨P,6,none⟩ (.slice s1.a s1.n s1.c)).setCell ⟨P,7,none⟩ (.int .u32 (x.auto : Int)) = W5 at *
    refine wpAnyH_ready (rs := [13]) (by kernel_rfl) (by simp) ?_
    refine AllReadyH.cons rfl (fun K hK => ?_) AllReadyH.nil
    obtain ⟨⟨-,cp0,fp0⟩,⟨-,cp1,fp1⟩,⟨-,cp2,fp2⟩,⟨-,cp3,fp3⟩,⟨-,cp4,fp4⟩,⟨-,cp5,fp5⟩,⟨-,cp6,fp6⟩,⟨-,cp7,fp7⟩,kQ⟩ := qmq (I x.prio) (I x.ring) (.bool x.full) (I x.limit) (.int .u32 (x.mask : Int)) (I x.inner) (.slice s2.a s2.n s2.c) (.int .u32 (x.auto : Int)) hQ5
    go_simp
    have hb6 : Below wr.heap.size wr (((((((((W5).setCell ⟨Q,0,none⟩ (I x.prio)).setCell ⟨Q,1,none⟩ (I x.ring)).setCell ⟨Q,2,none⟩ (.bool x.full)).setCell ⟨Q,3,none⟩ (I x.limit)).setCell ⟨Q,4,none⟩ (.int .u32 (x.mask : Int))).setCell ⟨Q,5,none⟩ (I x.inner)).setCell ⟨Q,6,none⟩ (.slice s2.a s2.n s2.c)).setCell ⟨Q,7,none⟩ (.int .u32 (x.auto : Int))) := qae (qae (qae (qae (qae (qae (qae (qae (hb5) hQ1) hQ1) hQ1) hQ1) hQ1) hQ1) hQ1) hQ1
    have hP6 : (((((((((W5).setCell ⟨Q,0,none⟩ (I x.prio)).setCell ⟨Q,1,none⟩ (I x.ring)).setCell ⟨Q,2,none⟩ (.bool x.full)).setCell ⟨Q,3,none⟩ (I x.limit)).setCell ⟨Q,4,none⟩ (.int .u32 (x.mask : Int))).setCell ⟨Q,5,none⟩ (I x.inner)).setCell ⟨Q,6,none⟩ (.slice s2.a s2.n s2.c)).setCell ⟨Q,7,none⟩ (.int .u32 (x.auto : Int))).heap[P]? = some (.cells #[I x.prio,I x.ring, .bool x.full,I x.limit, .int .u32 (x.mask : Int),I x.inner, .slice s1.a s1.n s1.c, .int .u32 (x.auto : Int)] 61) := by
     repeat rw [heap_setCell_other _ _ P _ (by show P ≠ Q; omega)]
     exact kP
    refine hK.out _ _ (HSS.out _ hb6) (fun hSS => ?_)
    clear hSS hK K hb5 kP hQ5 cp0 cp1 cp2 cp3 cp4 cp5 cp6 cp7 fp0 fp1 fp2 fp3 fp4 fp5 fp6 fp7
    try simp only [Act.put,q7a,q7b,q7c,q7d,q7e,q7f]
    generalize ((((((((W5).setCell ⟨Q,0,none⟩ (I x.prio)).setCell ⟨Q,1,none⟩ (I x.ring)).setCell ⟨Q,2,none⟩ (.bool x.full)).setCell ⟨Q,3,none⟩ (I x.limit)).setCell ⟨Q,4,none⟩ (.int .u32 (x.mask : Int))).setCell ⟨Q,5,none⟩ (I x.inner)).setCell ⟨Q,6,none⟩ (.slice s2.a s2.n s2.c)).setCell ⟨Q,7,none⟩ (.int .u32 (x.auto : Int)) = W6 at *
    refine wpAnyH_done (by kernel_rfl) ?_ _
    have HJ2 : Hid (Below w1.heap.size w1 W6) := belT HRR.out.2.2 hb6
    have hI := qee W6 s1 s2 x.own x.own (HRR.out.1.below hb6 (fun _ _ _ _ h => h)) (HRR.out.2.1.below hb6 (fun _ _ _ _ h => h))
    rw [decide_eq_true rfl] at hI
    have a0 : ∀ W,Below W6.heap.size W6 W → W.cell? ⟨P,0,none⟩ = some (I x.prio) := fun W hW => by rw [qa5 hW _ _ (qa4 hP6),cell_of_row _ _ _ _ _ (0,0) hP6]; rfl
    have b0 : ∀ W,Below W6.heap.size W6 W → W.cell? ⟨Q,0,none⟩ = some (I x.prio) := fun W hW => by rw [qa5 hW _ _ (qa4 kQ),cell_of_row _ _ _ _ _ (0,0) kQ]; rfl
    have a1 : ∀ W,Below W6.heap.size W6 W → W.cell? ⟨P,1,none⟩ = some (I x.ring) := fun W hW => by rw [qa5 hW _ _ (qa4 hP6),cell_of_row _ _ _ _ _ (0,0) hP6]; rfl
    have b1 : ∀ W,Below W6.heap.size W6 W → W.cell? ⟨Q,1,none⟩ = some (I x.ring) := fun W hW => by rw [qa5 hW _ _ (qa4 kQ),cell_of_row _ _ _ _ _ (0,0) kQ]; rfl
    have a2 : ∀ W,Below W6.heap.size W6 W → W.cell? ⟨P,2,none⟩ = some (.bool x.full) := fun W hW => by rw [qa5 hW _ _ (qa4 hP6),cell_of_row _ _ _ _ _ (0,0) hP6]; rfl
    have b2 : ∀ W,Below W6.heap.size W6 W → W.cell? ⟨Q,2,none⟩ = some (.bool x.full) := fun W hW => by rw [qa5 hW _ _ (qa4 kQ),cell_of_row _ _ _ _ _ (0,0) kQ]; rfl
    have a3 : ∀ W,Below W6.heap.size W6 W → W.cell? ⟨P,3,none⟩ = some (I x.limit) := fun W hW => by rw [qa5 hW _ _ (qa4 hP6),cell_of_row _ _ _ _ _ (0,0) hP6]; rfl
    have b3 : ∀ W,Below W6.heap.size W6 W → W.cell? ⟨Q,3,none⟩ = some (I x.limit) := fun W hW => by rw [qa5 hW _ _ (qa4 kQ),cell_of_row _ _ _ _ _ (0,0) kQ]; rfl
    have a4 : ∀ W,Below W6.heap.size W6 W → W.cell? ⟨P,4,none⟩ = some (.int .u32 (x.mask : Int)) := fun W hW => by rw [qa5 hW _ _ (qa4 hP6),cell_of_row _ _ _ _ _ (0,0) hP6]; rfl
    have b4 : ∀ W,Below W6.heap.size W6 W → W.cell? ⟨Q,4,none⟩ = some (.int .u32 (x.mask : Int)) := fun W hW => by rw [qa5 hW _ _ (qa4 kQ),cell_of_row _ _ _ _ _ (0,0) kQ]; rfl
    have a5 : ∀ W,Below W6.heap.size W6 W → W.cell? ⟨P,5,none⟩ = some (I x.inner) := fun W hW => by rw [qa5 hW _ _ (qa4 hP6),cell_of_row _ _ _ _ _ (0,0) hP6]; rfl
    have b5 : ∀ W,Below W6.heap.size W6 W → W.cell? ⟨Q,5,none⟩ = some (I x.inner) := fun W hW => by rw [qa5 hW _ _ (qa4 kQ),cell_of_row _ _ _ _ _ (0,0) kQ]; rfl
    have a6 : ∀ W,Below W6.heap.size W6 W → W.cell? ⟨P,6,none⟩ = some (.slice s1.a s1.n s1.c) := fun W hW => by rw [qa5 hW _ _ (qa4 hP6),cell_of_row _ _ _ _ _ (0,0) hP6]; rfl
    have b6 : ∀ W,Below W6.heap.size W6 W → W.cell? ⟨Q,6,none⟩ = some (.slice s2.a s2.n s2.c) := fun W hW => by rw [qa5 hW _ _ (qa4 kQ),cell_of_row _ _ _ _ _ (0,0) kQ]; rfl
    have a7 : ∀ W,Below W6.heap.size W6 W → W.cell? ⟨P,7,none⟩ = some (.int .u32 (x.auto : Int)) := fun W hW => by rw [qa5 hW _ _ (qa4 hP6),cell_of_row _ _ _ _ _ (0,0) hP6]; rfl
    have b7 : ∀ W,Below W6.heap.size W6 W → W.cell? ⟨Q,7,none⟩ = some (.int .u32 (x.auto : Int)) := fun W hW => by rw [qa5 hW _ _ (qa4 kQ),cell_of_row _ _ _ _ _ (0,0) kQ]; rfl
    have HAB : Hid (∀ W,Below W6.heap.size W6 W → W.cell? ⟨P,0,none⟩ = some (I x.prio) ∧ W.cell? ⟨P,1,none⟩ = some (I x.ring) ∧ W.cell? ⟨P,2,none⟩ = some (.bool x.full) ∧ W.cell? ⟨P,3,none⟩ = some (I x.limit) ∧ W.cell? ⟨P,4,none⟩ = some (.int .u32 (x.mask : Int)) ∧ W.cell? ⟨P,5,none⟩ = some (I x.inner) ∧ W.cell? ⟨P,6,none⟩ = some (.slice s1.a s1.n s1.c) ∧ W.cell? ⟨P,7,none⟩ = some (.int .u32 (x.auto : Int)) ∧ W.cell? ⟨Q,0,none⟩ = some (I x.prio) ∧ W.cell? ⟨Q,1,none⟩ = some (I x.ring) ∧ W.cell? ⟨Q,2,none⟩ = some (.bool x.full) ∧ W.cell? ⟨Q,3,none⟩ = some (I x.limit) ∧ W.cell? ⟨Q,4,none⟩ = some (.int .u32 (x.mask : Int)) ∧ W.cell? ⟨Q,5,none⟩ = some (I x.inner) ∧ W.cell? ⟨Q,6,none⟩ = some (.slice s2.a s2.n s2.c) ∧ W.cell? ⟨Q,7,none⟩ = some (.int .u32 (x.auto : Int))) := fun W hW => ⟨a0 W hW,a1 W hW,a2 W hW,a3 W hW,a4 W hW,a5 W hW,a6 W hW,a7 W hW,b0 W hW,b1 W hW,b2 W hW,b3 W hW,b4 W hW,b5 W hW,b6 W hW,b7 W hW⟩
    clear a0 b0 a1 b1 a2 b2 a3 b3 a4 b4 a5 b5 a6 b6 a7 b7 hP6 kQ hb6 HSS HRR HG hne hP1 hQ1
    obtain ⟨a0,a1,a2,a3,a4,a5,a6,a7,b0,b1,b2,b3,b4,b5,b6,b7⟩ := HAB.out W6 (Below.refl _ _)
    go_wp2_with fail
    refine hI.mono ?_
    clear hI a0 a1 a2 a3 a4 a5 a6 a7 b0 b1 b2 b3 b4 b5 b6 b7
    rintro e W7 ⟨rfl,bB⟩
    obtain ⟨a0,a1,a2,a3,a4,a5,a6,a7,b0,b1,b2,b3,b4,b5,b6,b7⟩ := HAB.out W7 bB
    have HJ3 : Hid (Below w1.heap.size w1 W7) := belT HJ2.out bB
    clear bB
    go_wp2
    go_roundw
    case rel => exact ⟨k + 1,by omega,by go_num,HJ3.out⟩
    case measure => simp [intOf]; omega
   have K10 : Hid (∀ (W : World) (P : Nat),Below wr.heap.size wr W → W.heap[P]? = some (.cells #[I 0,I 0, .bool false,I 0, .int .u32 0,I 0, .slice none 0 0, .int .u32 0] 61) → wr.heap.size ≤ P → G 3 #[true,true,true,true,true,true,true,true,true,true,true,false,false,false] (A.setIfInBounds 6 (.pointer (some ⟨P,0,none⟩))) W) := fun W P hb hP hP1 => by
    have hA := HA.out
    subst hA
    rw [HG.out]
    try simp only [Act.put,q7a,q7b,q7c,q7d,q7e,q7f]
    refine wpAnyH_ready (rs := [11]) (by kernel_rfl) (by simp) ?_
    refine AllReadyH.cons rfl (fun K hK => ?_) ?_
    ·go_simp
     refine hK.out _ _ (HSS.out _ (belA hb)) (fun _ => ?_)
     try simp only [Act.put,q7a,q7b,q7c,q7d,q7e,q7f]
     have hq := K11.out (W.alloc (.cells #[I 0,I 0, .bool false,I 0, .int .u32 0,I 0, .slice none 0 0, .int .u32 0] 61)) P W.heap.size (belA hb) ((qa0 W _).block _ (qa4 hP) |>.trans hP) (heap_alloc_new _ _) (by have := qa4 hP; omega) hP1 hb.size
     simp only [List.setIfInBounds_toArray,List.set_cons_zero,List.set_cons_succ] at hq
     exact (HG.out _ _ _ _).mp hq
    exact AllReadyH.nil
   have K01 : Hid (∀ (W : World) (Q : Nat),Below wr.heap.size wr W → W.heap[Q]? = some (.cells #[I 0,I 0, .bool false,I 0, .int .u32 0,I 0, .slice none 0 0, .int .u32 0] 61) → wr.heap.size ≤ Q → G 3 #[true,true,true,true,true,true,true,true,true,true,false,true,false,false] (A.setIfInBounds 7 (.pointer (some ⟨Q,0,none⟩))) W) := fun W Q hb hQ hQ1 => by
    have hA := HA.out
    subst hA
    rw [HG.out]
    try simp only [Act.put,q7a,q7b,q7c,q7d,q7e,q7f]
    refine wpAnyH_ready (rs := [10]) (by kernel_rfl) (by simp) ?_
    refine AllReadyH.cons rfl (fun K hK => ?_) ?_
    ·go_simp
     refine hK.out _ _ (HSS.out _ (belA hb)) (fun _ => ?_)
     try simp only [Act.put,q7a,q7b,q7c,q7d,q7e,q7f]
     have hq := K11.out (W.alloc (.cells #[I 0,I 0, .bool false,I 0, .int .u32 0,I 0, .slice none 0 0, .int .u32 0] 61)) W.heap.size Q (belA hb) (heap_alloc_new _ _) ((qa0 W _).block _ (qa4 hQ) |>.trans hQ) (by have := qa4 hQ; omega) hb.size hQ1
     simp only [List.setIfInBounds_toArray,List.set_cons_zero,List.set_cons_succ] at hq
     exact (HG.out _ _ _ _).mp hq
    exact AllReadyH.nil
   have K00 : Hid (∀ (W : World),Below wr.heap.size wr W → G 4 #[true,true,true,true,true,true,true,true,true,true,false,false,false,false] A W) := fun W hb => by
    have hA := HA.out
    subst hA
    rw [HG.out]
    try simp only [Act.put,q7a,q7b,q7c,q7d,q7e,q7f]
    refine wpAnyH_ready (rs := [10,11]) (by kernel_rfl) (by simp) ?_
    refine AllReadyH.cons rfl (fun K hK => ?_) ?_
    ·go_simp
     refine hK.out _ _ (HSS.out _ (belA hb)) (fun _ => ?_)
     try simp only [Act.put,q7a,q7b,q7c,q7d,q7e,q7f]
     have hq := K10.out (W.alloc (.cells #[I 0,I 0, .bool false,I 0, .int .u32 0,I 0, .slice none 0 0, .int .u32 0] 61)) W.heap.size (belA hb) (heap_alloc_new _ _) hb.size
     simp only [List.setIfInBounds_toArray,List.set_cons_zero,List.set_cons_succ] at hq
     exact (HG.out _ _ _ _).mp hq
    refine AllReadyH.cons rfl (fun K hK => ?_) ?_
    ·go_simp
     refine hK.out _ _ (HSS.out _ (belA hb)) (fun _ => ?_)
     try simp only [Act.put,q7a,q7b,q7c,q7d,q7e,q7f]
     have hq := K01.out (W.alloc (.cells #[I 0,I 0, .bool false,I 0, .int .u32 0,I 0, .slice none 0 0, .int .u32 0] 61)) W.heap.size (belA hb) (heap_alloc_new _ _) hb.size
     simp only [List.setIfInBounds_toArray,List.set_cons_zero,List.set_cons_succ] at hq
     exact (HG.out _ _ _ _).mp hq
    exact AllReadyH.nil
   exact K00.out _ (Below.refl _ _).drew
  ·obtain rfl : k = va.t.n := by omega
   have hge : ¬ ((va.t.n : Int) < va.t.n) := by omega
   clear cB
   generalize wr = wz0 at *
   have HJ0 : Hid (Below w1.heap.size w1 wz0) := HJ.out
   clear HJ
   have cA : wz0.cell? ⟨X0,3,none⟩ = _ := (HS.out _ HJ0.out).2.2.2.1
   go_wp2
   clear cA
   have HI1 : Hid (Below w1.heap.size w1 wz0) := HJ0.out
   go_loopw [8] (fun v8 wr1 => ∃ k : Nat,k ≤ va.g.n ∧ v8 = I k ∧ Hid (Below w1.heap.size w1 wr1)) (fun v8 _ => va.g.n - (intOf v8).toNat)
   case atStart => exact ⟨0,by omega,rfl,HI1.out⟩
   case round =>
    clear HI1
    obtain ⟨k,hk,rfl,HJ⟩ := hrel
    have cA : wr.cell? ⟨X0,3,none⟩ = some (.slice va.g.a va.g.n va.g.c) := (HS.out wr HJ.out).2.2.2.1
    have cB : wr.cell? ⟨X1,3,none⟩ = some (.slice vb.g.a vb.g.n vb.g.c) := (HS.out wr HJ.out).2.2.2.2.2.2.2.2.2.2.2.2.2.2.2.2.1
    by_cases hlt : k < va.g.n
    ·have hltI : (k : Int) < va.g.n := by omega
     have hltJ : (k : Int) < vb.g.n := by have := HLN.out.2.1; omega
     have hk1 : k < tb.rings.length := by have : va.g.n = _ := (HT.out wr HJ.out).1.g.n; omega
     have hmx : va.g.n ≤ maxLen := Nat.le_trans (HT.out wr HJ.out).1.g.c (HT.out wr HJ.out).1.g.m
     unfold maxLen at hmx
     obtain ⟨g1,o1,e1,q0,q1⟩ := atRg (HT.out wr HJ.out).1.g hk1 (Below.refl wr.heap.size wr)
     obtain ⟨g2,o2,e2,r0,r1⟩ := atRg (HT.out wr HJ.out).2.g hk1 (Below.refl wr.heap.size wr)
     rw [e1] at cA
     rw [e2] at cB
     have hN := fun W => qmi W tb.rings[k] tb.rings[k]
     simp only [and_self,decide_true,Bool.not_true] at hN
     generalize tb.rings[k] = x at *
     clear hk1 e1 e2
     go_upto_region 12 with fail
     go_region_held_law (fun W => W.cell? ⟨X0,3,none⟩ = some (.slice (some ⟨g1,o1,none⟩) va.g.n va.g.c) ∧ W.cell? ⟨X1,3,none⟩ = some (.slice (some ⟨g2,o2,none⟩) vb.g.n vb.g.c) ∧ W.cell? ⟨g1,o1 + k * 2,none⟩ = some (I x.prio) ∧ W.cell? ⟨g1,o1 + k * 2 + 1,none⟩ = some (I x.cap) ∧ W.cell? ⟨g2,o2 + k * 2,none⟩ = some (I x.prio) ∧ W.cell? ⟨g2,o2 + k * 2 + 1,none⟩ = some (I x.cap)) (first | exact ⟨cA,cB,q0,q1,r0,r1⟩ | (go_keep; done)) (fail)
     have HJ2 : Hid (Below w1.heap.size w1 wr.drew) := HJ.out.drew
     clear HJ cA cB q0 q1 r0 r1
     go_wp2
     go_roundw
     case rel => exact ⟨k + 1,by omega,by go_num,HJ2.out⟩
     case measure => simp [intOf]; omega
    ·obtain rfl : k = va.g.n := by omega
     have hge : ¬ ((va.g.n : Int) < va.g.n) := by omega
     clear cB
     generalize wr = wz1 at *
     have HJ1 : Hid (Below w1.heap.size w1 wz1) := HJ.out
     clear HJ
     have cA : wz1.cell? ⟨X0,4,none⟩ = _ := (HS.out _ HJ1.out).2.2.2.2.1
     go_wp2
     clear cA
     have HI2 : Hid (Below w1.heap.size w1 wz1) := HJ1.out
     go_loopw [9] (fun v9 wr2 => ∃ k : Nat,k ≤ va.r.n ∧ v9 = I k ∧ Hid (Below w1.heap.size w1 wr2)) (fun v9 _ => va.r.n - (intOf v9).toNat)
     case atStart => exact ⟨0,by omega,rfl,HI2.out⟩
     case round =>
      clear HI2
      obtain ⟨k,hk,rfl,HJ⟩ := hrel
      have cA : wr.cell? ⟨X0,4,none⟩ = some (.slice va.r.a va.r.n va.r.c) := (HS.out wr HJ.out).2.2.2.2.1
      have cB : wr.cell? ⟨X1,4,none⟩ = some (.slice vb.r.a vb.r.n vb.r.c) := (HS.out wr HJ.out).2.2.2.2.2.2.2.2.2.2.2.2.2.2.2.2.2.1
      by_cases hlt : k < va.r.n
      ·have hltI : (k : Int) < va.r.n := by omega
       have hltJ : (k : Int) < vb.r.n := by have := HLN.out.2.2.1; omega
       have hk1 : k < tb.ress.length := by have : va.r.n = _ := (HT.out wr HJ.out).1.r.n; omega
       have hmx : va.r.n ≤ maxLen := Nat.le_trans (HT.out wr HJ.out).1.r.c (HT.out wr HJ.out).1.r.m
       unfold maxLen at hmx
       obtain ⟨g1,o1,e1,q0,q1⟩ := atRs (HT.out wr HJ.out).1.r hk1 (Below.refl wr.heap.size wr)
       obtain ⟨g2,o2,e2,r0,r1⟩ := atRs (HT.out wr HJ.out).2.r hk1 (Below.refl wr.heap.size wr)
       rw [e1] at cA
       rw [e2] at cB
       have hN := fun W => qmj W tb.ress[k] tb.ress[k]
       simp only [and_self,decide_true,Bool.not_true] at hN
       generalize tb.ress[k] = x at *
       clear hk1 e1 e2
       go_upto_region 17 with fail
       go_region_held_law (fun W => W.cell? ⟨X0,4,none⟩ = some (.slice (some ⟨g1,o1,none⟩) va.r.n va.r.c) ∧ W.cell? ⟨X1,4,none⟩ = some (.slice (some ⟨g2,o2,none⟩) vb.r.n vb.r.c) ∧ W.cell? ⟨g1,o1 + k * 2,none⟩ = some (.bool x.inner) ∧ W.cell? ⟨g1,o1 + k * 2 + 1,none⟩ = some (I x.ceil) ∧ W.cell? ⟨g2,o2 + k * 2,none⟩ = some (.bool x.inner) ∧ W.cell? ⟨g2,o2 + k * 2 + 1,none⟩ = some (I x.ceil)) (first | exact ⟨cA,cB,q0,q1,r0,r1⟩ | (go_keep; done)) (fail)
       have HJ2 : Hid (Below w1.heap.size w1 wr.drew) := HJ.out.drew
       clear HJ cA cB q0 q1 r0 r1
       go_wp2
       go_roundw
       case rel => exact ⟨k + 1,by omega,by go_num,HJ2.out⟩
       case measure => simp [intOf]; omega
      ·obtain rfl : k = va.r.n := by omega
       have hge : ¬ ((va.r.n : Int) < va.r.n) := by omega
       clear cB
       generalize wr = wz2 at *
       have HJ2 : Hid (Below w1.heap.size w1 wz2) := HJ.out
       clear HJ
       have cA : wz2.cell? ⟨X0,5,none⟩ = _ := (HS.out _ HJ2.out).2.2.2.2.2.1
       go_wp2
       clear cA
       have HI3 : Hid (Below w1.heap.size w1 wz2) := HJ2.out
       go_loopw [10] (fun v10 wr3 => ∃ k : Nat,k ≤ va.k.n ∧ v10 = I k ∧ Hid (Below w1.heap.size w1 wr3)) (fun v10 _ => va.k.n - (intOf v10).toNat)
       case atStart => exact ⟨0,by omega,rfl,HI3.out⟩
       case round =>
        clear HI3
        obtain ⟨k,hk,rfl,HJ⟩ := hrel
        have cA : wr.cell? ⟨X0,5,none⟩ = some (.slice va.k.a va.k.n va.k.c) := (HS.out wr HJ.out).2.2.2.2.2.1
        have cB : wr.cell? ⟨X1,5,none⟩ = some (.slice vb.k.a vb.k.n vb.k.c) := (HS.out wr HJ.out).2.2.2.2.2.2.2.2.2.2.2.2.2.2.2.2.2.2.1
        by_cases hlt : k < va.k.n
        ·have hltI : (k : Int) < va.k.n := by omega
         have hltJ : (k : Int) < vb.k.n := by have := HLN.out.2.2.2.1; omega
         have hk1 : k < tb.ctrs.length := by have : va.k.n = _ := (HT.out wr HJ.out).1.k.n; omega
         have hmx : va.k.n ≤ maxLen := Nat.le_trans (HT.out wr HJ.out).1.k.c (HT.out wr HJ.out).1.k.m
         unfold maxLen at hmx
         obtain ⟨g1,o1,e1,q0,q1,q2⟩ := atCt (HT.out wr HJ.out).1.k hk1 (Below.refl wr.heap.size wr)
         obtain ⟨g2,o2,e2,r0,r1,r2⟩ := atCt (HT.out wr HJ.out).2.k hk1 (Below.refl wr.heap.size wr)
         rw [e1] at cA
         rw [e2] at cB
         have hN := fun W => qmm W tb.ctrs[k] tb.ctrs[k]
         simp only [and_self,decide_true,Bool.not_true] at hN
         generalize tb.ctrs[k] = x at *
         clear hk1 e1 e2
         go_upto_region 22 with fail
         go_region_held_law (fun W => W.cell? ⟨X0,5,none⟩ = some (.slice (some ⟨g1,o1,none⟩) va.k.n va.k.c) ∧ W.cell? ⟨X1,5,none⟩ = some (.slice (some ⟨g2,o2,none⟩) vb.k.n vb.k.c) ∧ W.cell? ⟨g1,o1 + k * 3,none⟩ = some (.int .u32 (x.max : Int)) ∧ W.cell? ⟨g1,o1 + k * 3 + 1,none⟩ = some (.int .u32 (x.base : Int)) ∧ W.cell? ⟨g1,o1 + k * 3 + 2,none⟩ = some (.int .u32 (x.min : Int)) ∧ W.cell? ⟨g2,o2 + k * 3,none⟩ = some (.int .u32 (x.max : Int)) ∧ W.cell? ⟨g2,o2 + k * 3 + 1,none⟩ = some (.int .u32 (x.base : Int)) ∧ W.cell? ⟨g2,o2 + k * 3 + 2,none⟩ = some (.int .u32 (x.min : Int))) (first | exact ⟨cA,cB,q0,q1,q2,r0,r1,r2⟩ | (go_keep; done)) (fail)
         have HJ2 : Hid (Below w1.heap.size w1 wr.drew) := HJ.out.drew
         clear HJ cA cB q0 q1 q2 r0 r1 r2
         go_wp2
         go_roundw
         case rel => exact ⟨k + 1,by omega,by go_num,HJ2.out⟩
         case measure => simp [intOf]; omega
        ·obtain rfl : k = va.k.n := by omega
         have hge : ¬ ((va.k.n : Int) < va.k.n) := by omega
         clear cB
         generalize wr = wz3 at *
         have HJ3 : Hid (Below w1.heap.size w1 wz3) := HJ.out
         clear HJ
         have cA : wz3.cell? ⟨X0,6,none⟩ = _ := (HS.out _ HJ3.out).2.2.2.2.2.2.1
         go_wp2
         clear cA
         have HI4 : Hid (Below w1.heap.size w1 wz3) := HJ3.out
         go_loopw [11] (fun v11 wr4 => ∃ k : Nat,k ≤ va.a.n ∧ v11 = I k ∧ Hid (Below w1.heap.size w1 wr4)) (fun v11 _ => va.a.n - (intOf v11).toNat)
         case atStart => exact ⟨0,by omega,rfl,HI4.out⟩
         case round =>
          clear HI4
          obtain ⟨k,hk,rfl,HJ⟩ := hrel
          have cA : wr.cell? ⟨X0,6,none⟩ = some (.slice va.a.a va.a.n va.a.c) := (HS.out wr HJ.out).2.2.2.2.2.2.1
          have cB : wr.cell? ⟨X1,6,none⟩ = some (.slice vb.a.a vb.a.n vb.a.c) := (HS.out wr HJ.out).2.2.2.2.2.2.2.2.2.2.2.2.2.2.2.2.2.2.2.1
          by_cases hlt : k < va.a.n
          ·have hltI : (k : Int) < va.a.n := by omega
           have hltJ : (k : Int) < vb.a.n := by have := HLN.out.2.2.2.2.1; omega
           have hk1 : k < tb.als.length := by have : va.a.n = _ := (HT.out wr HJ.out).1.a.n; omega
           have hmx : va.a.n ≤ maxLen := Nat.le_trans (HT.out wr HJ.out).1.a.c (HT.out wr HJ.out).1.a.m
           unfold maxLen at hmx
           obtain ⟨g1,o1,e1,q0,q1,q2,q3,q4,q5,q6⟩ := atAl (HT.out wr HJ.out).1.a hk1 (Below.refl wr.heap.size wr)
           obtain ⟨g2,o2,e2,r0,r1,r2,r3,r4,r5,r6⟩ := atAl (HT.out wr HJ.out).2.a hk1 (Below.refl wr.heap.size wr)
           rw [e1] at cA
           rw [e2] at cB
           have hN := fun W => qmk W tb.als[k] tb.als[k]
           simp only [and_self,decide_true,Bool.not_true] at hN
           generalize tb.als[k] = x at *
           clear hk1 e1 e2
           go_upto_region 27 with fail
           go_region_held_law (fun W => W.cell? ⟨X0,6,none⟩ = some (.slice (some ⟨g1,o1,none⟩) va.a.n va.a.c) ∧ W.cell? ⟨X1,6,none⟩ = some (.slice (some ⟨g2,o2,none⟩) vb.a.n vb.a.c) ∧ W.cell? ⟨g1,o1 + k * 7,none⟩ = some (I x.ctr) ∧ W.cell? ⟨g1,o1 + k * 7 + 1,none⟩ = some (I x.ac.kind) ∧ W.cell? ⟨g1,o1 + k * 7 + 2,none⟩ = some (I x.ac.task) ∧ W.cell? ⟨g1,o1 + k * 7 + 3,none⟩ = some (.int .u32 (x.ac.mask : Int)) ∧ W.cell? ⟨g1,o1 + k * 7 + 4,none⟩ = some (.int .u32 (x.auto : Int)) ∧ W.cell? ⟨g1,o1 + k * 7 + 5,none⟩ = some (.int .u32 (x.time : Int)) ∧ W.cell? ⟨g1,o1 + k * 7 + 6,none⟩ = some (.int .u32 (x.cycle : Int)) ∧ W.cell? ⟨g2,o2 + k * 7,none⟩ = some (I x.ctr) ∧ W.cell? ⟨g2,o2 + k * 7 + 1,none⟩ = some (I x.ac.kind) ∧ W.cell? ⟨g2,o2 + k * 7 + 2,none⟩ = some (I x.ac.task) ∧ W.cell? ⟨g2,o2 + k * 7 + 3,none⟩ = some (.int .u32 (x.ac.mask : Int)) ∧ W.cell? ⟨g2,o2 + k * 7 + 4,none⟩ = some (.int .u32 (x.auto : Int)) ∧ W.cell? ⟨g2,o2 + k * 7 + 5,none⟩ = some (.int .u32 (x.time : Int)) ∧ W.cell? ⟨g2,o2 + k * 7 + 6,none⟩ = some (.int .u32 (x.cycle : Int))) (first | exact ⟨cA,cB,q0,q1,q2,q3,q4,q5,q6,r0,r1,r2,r3,r4,r5,r6⟩ | (go_keep; done)) (fail)
           have HJ2 : Hid (Below w1.heap.size w1 wr.drew) := HJ.out.drew
           clear HJ cA cB q0 q1 q2 q3 q4 q5 q6 r0 r1 r2 r3 r4 r5 r6
           go_wp2
           go_roundw
           case rel => exact ⟨k + 1,by omega,by go_num,HJ2.out⟩
           case measure => simp [intOf]; omega
          ·obtain rfl : k = va.a.n := by omega
           have hge : ¬ ((va.a.n : Int) < va.a.n) := by omega
           clear cB
           generalize wr = wz4 at *
           have HJ4 : Hid (Below w1.heap.size w1 wz4) := HJ.out
           clear HJ
           have cA : wz4.cell? ⟨X0,7,none⟩ = _ := (HS.out _ HJ4.out).2.2.2.2.2.2.2.1
           go_wp2
           clear cA
           have HI5 : Hid (Below w1.heap.size w1 wz4) := HJ4.out
           go_loopw [12,13,14] (fun v12 _ _ wr5 => ∃ k : Nat,k ≤ va.i.n ∧ v12 = I k ∧ Hid (Below w1.heap.size w1 wr5)) (fun v12 _ _ _ => va.i.n - (intOf v12).toNat)
           case atStart => exact ⟨0,by omega,rfl,HI5.out⟩
           case round =>
            clear HI5
            obtain ⟨k,hk,rfl,HJ⟩ := hrel
            have cA : wr.cell? ⟨X0,7,none⟩ = some (.slice va.i.a va.i.n va.i.c) := (HS.out wr HJ.out).2.2.2.2.2.2.2.1
            have cB : wr.cell? ⟨X1,7,none⟩ = some (.slice vb.i.a vb.i.n vb.i.c) := (HS.out wr HJ.out).2.2.2.2.2.2.2.2.2.2.2.2.2.2.2.2.2.2.2.2.1
            by_cases hlt : k < va.i.n
            ·have hltI : (k : Int) < va.i.n := by omega
             have hltJ : (k : Int) < vb.i.n := by have := HLN.out.2.2.2.2.2.1; omega
             have hk1 : k < tb.isrs.length := by have : va.i.n = _ := (HT.out wr HJ.out).1.i.n; omega
             have hmx : va.i.n ≤ maxLen := Nat.le_trans (HT.out wr HJ.out).1.i.c (HT.out wr HJ.out).1.i.m
             unfold maxLen at hmx
             obtain ⟨x,hx⟩ : ∃ x,tb.isrs[k]? = some x := ⟨_,List.getElem?_eq_getElem hk1⟩
             obtain ⟨g1,o1,s1,e1,hg1,q0,q1,q2,R1⟩ := qdm (HT.out wr HJ.out).1 hx
             obtain ⟨g2,o2,s2,e2,hg2,r0,r1,r2,R2⟩ := qdm (HT.out wr HJ.out).2 hx
             rw [e1] at cA
             rw [e2] at cB
             have HSS : Hid (∀ W,Below wr.heap.size wr W → (fun W => W.cell? ⟨X0,7,none⟩ = some (.slice (some ⟨g1,o1,none⟩) va.i.n va.i.c) ∧ W.cell? ⟨X1,7,none⟩ = some (.slice (some ⟨g2,o2,none⟩) vb.i.n vb.i.c) ∧ W.cell? ⟨g1,o1 + k * 3,none⟩ = some (I x.cat) ∧ W.cell? ⟨g1,o1 + k * 3 + 1,none⟩ = some (I x.prio) ∧ W.cell? ⟨g1,o1 + k * 3 + 2,none⟩ = some (.slice s1.a s1.n s1.c) ∧ W.cell? ⟨g2,o2 + k * 3,none⟩ = some (I x.cat) ∧ W.cell? ⟨g2,o2 + k * 3 + 1,none⟩ = some (I x.prio) ∧ W.cell? ⟨g2,o2 + k * 3 + 2,none⟩ = some (.slice s2.a s2.n s2.c)) W) := fun W hW => ⟨by rw [qa5 hW _ _ (World.block_lt_of_cell? _ _ cA)]; exact cA,by rw [qa5 hW _ _ (World.block_lt_of_cell? _ _ cB)]; exact cB,by rw [qa5 hW _ _ (World.block_lt_of_cell? _ _ q0)]; exact q0,by rw [qa5 hW _ _ (World.block_lt_of_cell? _ _ q1)]; exact q1,by rw [qa5 hW _ _ (World.block_lt_of_cell? _ _ q2)]; exact q2,by rw [qa5 hW _ _ (World.block_lt_of_cell? _ _ r0)]; exact r0,by rw [qa5 hW _ _ (World.block_lt_of_cell? _ _ r1)]; exact r1,by rw [qa5 hW _ _ (World.block_lt_of_cell? _ _ r2)]; exact r2⟩
             have HRR : Hid (RowsAt wr 1 intP s1 x.own ∧ RowsAt wr 1 intP s2 x.own ∧ Below w1.heap.size w1 wr) := ⟨R1,R2,HJ.out⟩
             clear R1 R2 hk1 hx e1 e2 hg1 hg2
             go_upto_region 32 with fail
             clear cA cB q0 q1 q2 r0 r1 r2 HJ
             have HC := HSS.out wr.drew (Below.refl wr.heap.size wr).drew
             refine wp_region_held_drew (S := (fun W => W.cell? ⟨X0,7,none⟩ = some (.slice (some ⟨g1,o1,none⟩) va.i.n va.i.c) ∧ W.cell? ⟨X1,7,none⟩ = some (.slice (some ⟨g2,o2,none⟩) vb.i.n vb.i.c) ∧ W.cell? ⟨g1,o1 + k * 3,none⟩ = some (I x.cat) ∧ W.cell? ⟨g1,o1 + k * 3 + 1,none⟩ = some (I x.prio) ∧ W.cell? ⟨g1,o1 + k * 3 + 2,none⟩ = some (.slice s1.a s1.n s1.c) ∧ W.cell? ⟨g2,o2 + k * 3,none⟩ = some (I x.cat) ∧ W.cell? ⟨g2,o2 + k * 3 + 1,none⟩ = some (I x.prio) ∧ W.cell? ⟨g2,o2 + k * 3 + 2,none⟩ = some (.slice s2.a s2.n s2.c))) (by kernel_rfl) HC (fun hHeld => ?_)
             clear HC
             change wpAnyH _ _ _ _ _ _ #[false,false,false,false,false,false,false,false,false,false,false,false,false,false] _ _
             try simp only [Act.put,q7a,q7b,q7c,q7d,q7e,q7f]
             refine wpAnyH_take (i := 0) (v := .pointer (some ⟨X0,7,none⟩)) rfl (by kernel_rfl) (by kernel_rfl) (by kernel_rfl) (fun _ _ _ h => h) (Or.inl ⟨by rfl, ?_⟩) hHeld ?_
             ·intro w' hSw
              try dsimp only at hSw
              clear hHeld
              go_simp
             try simp only [Act.put,q7a,q7b,q7c,q7d,q7e,q7f]
             refine wpAnyH_take (i := 1) (v := .slice (some ⟨g1,o1,none⟩) va.i.n va.i.c) rfl (by kernel_rfl) (by kernel_rfl) (by kernel_rfl) (fun _ _ _ h => h) (Or.inl ⟨by rfl, ?_⟩) hHeld ?_
             ·intro w' hSw
              try dsimp only at hSw
              clear hHeld
              go_simp
             try simp only [Act.put,q7a,q7b,q7c,q7d,q7e,q7f]
             refine wpAnyH_take (i := 2) (v := I k) rfl (by kernel_rfl) (by kernel_rfl) (by kernel_rfl) (fun _ _ _ h => h) (Or.inl ⟨by rfl, ?_⟩) hHeld ?_
             ·intro w' hSw
              try dsimp only at hSw
              clear hHeld
              go_simp
             try simp only [Act.put,q7a,q7b,q7c,q7d,q7e,q7f]
             refine wpAnyH_take (i := 3) (v := .pointer (some ⟨g1,o1 + k * 3,none⟩)) rfl (by kernel_rfl) (by kernel_rfl) (by kernel_rfl) (fun _ _ _ h => h) (Or.inl ⟨by rfl, ?_⟩) hHeld ?_
             ·intro w' hSw
              try dsimp only at hSw
              clear hHeld
              go_simp
             try simp only [Act.put,q7a,q7b,q7c,q7d,q7e,q7f]
             refine wpAnyH_take (i := 4) (v := .agg #[I x.cat,I x.prio, .slice s1.a s1.n s1.c]) rfl (by kernel_rfl) (by kernel_rfl) (by kernel_rfl) (fun _ _ _ h => h) (Or.inl ⟨by rfl, ?_⟩) hHeld ?_
             ·intro w' hSw
              try dsimp only at hSw
              clear hHeld
              go_simp
             try simp only [Act.put,q7a,q7b,q7c,q7d,q7e,q7f]
             refine wpAnyH_take (i := 5) (v := .pointer (some ⟨X1,7,none⟩)) rfl (by kernel_rfl) (by kernel_rfl) (by kernel_rfl) (fun _ _ _ h => h) (Or.inl ⟨by rfl, ?_⟩) hHeld ?_
             ·intro w' hSw
              try dsimp only at hSw
              clear hHeld
              go_simp
             try simp only [Act.put,q7a,q7b,q7c,q7d,q7e,q7f]
             refine wpAnyH_take (i := 6) (v := .slice (some ⟨g2,o2,none⟩) vb.i.n vb.i.c) rfl (by kernel_rfl) (by kernel_rfl) (by kernel_rfl) (fun _ _ _ h => h) (Or.inl ⟨by rfl, ?_⟩) hHeld ?_
             ·intro w' hSw
              try dsimp only at hSw
              clear hHeld
              go_simp
             try simp only [Act.put,q7a,q7b,q7c,q7d,q7e,q7f]
             refine wpAnyH_take (i := 7) (v := I k) rfl (by kernel_rfl) (by kernel_rfl) (by kernel_rfl) (fun _ _ _ h => h) (Or.inl ⟨by rfl, ?_⟩) hHeld ?_
             ·intro w' hSw
              try dsimp only at hSw
              clear hHeld
              go_simp
             try simp only [Act.put,q7a,q7b,q7c,q7d,q7e,q7f]
             refine wpAnyH_take (i := 8) (v := .pointer (some ⟨g2,o2 + k * 3,none⟩)) rfl (by kernel_rfl) (by kernel_rfl) (by kernel_rfl) (fun _ _ _ h => h) (Or.inl ⟨by rfl, ?_⟩) hHeld ?_
             ·intro w' hSw
              try dsimp only at hSw
              clear hHeld
              go_simp
             try simp only [Act.put,q7a,q7b,q7c,q7d,q7e,q7f]
             refine wpAnyH_take (i := 9) (v := .agg #[I x.cat,I x.prio, .slice s2.a s2.n s2.c]) rfl (by kernel_rfl) (by kernel_rfl) (by kernel_rfl) (fun _ _ _ h => h) (Or.inl ⟨by rfl, ?_⟩) hHeld ?_
             ·intro w' hSw
              try dsimp only at hSw
              clear hHeld
              go_simp
             try simp only [Act.put,q7a,q7b,q7c,q7d,q7e,q7f]
             clear hHeld
             refine qdg (fun A HA G HG => ?_)
             have K11 : Hid (∀ (W : World) (P Q : Nat),Below wr.heap.size wr W → W.heap[P]? = some (.cells #[I 0,I 0, .slice none 0 0] 87) → W.heap[Q]? = some (.cells #[I 0,I 0, .slice none 0 0] 87) → P ≠ Q → wr.heap.size ≤ P → wr.heap.size ≤ Q → G 2 #[true,true,true,true,true,true,true,true,true,true,true,true,false,false] ((A.setIfInBounds 13 (.pointer (some ⟨P,0,none⟩))).setIfInBounds 14 (.pointer (some ⟨Q,0,none⟩))) W) := fun W P Q hb hP hQ hne hP1 hQ1 => by
              have hA := HA.out
              subst hA
              rw [HG.out]
              try simp only [Act.put,q7a,q7b,q7c,q7d,q7e,q7f]
              refine wpAnyH_ready (rs := [12]) (by kernel_rfl) (by simp) ?_
              refine AllReadyH.cons rfl (fun K hK => ?_) AllReadyH.nil
              obtain ⟨⟨-,cp0,fp0⟩,⟨-,cp1,fp1⟩,⟨-,cp2,fp2⟩,kP⟩ := qmr (I x.cat) (I x.prio) (.slice s1.a s1.n s1.c) hP
              go_simp
              have hb5 : Below wr.heap.size wr ((((W).setCell ⟨P,0,none⟩ (I x.cat)).setCell ⟨P,1,none⟩ (I x.prio)).setCell ⟨P,2,none⟩ (.slice s1.a s1.n s1.c)) := qae (qae (qae (hb) hP1) hP1) hP1
              have hQ5 : ((((W).setCell ⟨P,0,none⟩ (I x.cat)).setCell ⟨P,1,none⟩ (I x.prio)).setCell ⟨P,2,none⟩ (.slice s1.a s1.n s1.c)).heap[Q]? = some (.cells #[I 0,I 0, .slice none 0 0] 87) := by
               repeat rw [heap_setCell_other _ _ Q _ (by show Q ≠ P; omega)]
               exact hQ
              refine hK.out _ _ (HSS.out _ hb5) (fun hSS => ?_)
              clear hSS hK K hb hP hQ cp0 cp1 cp2 fp0 fp1 fp2
              try simp only [Act.put,q7a,q7b,q7c,q7d,q7e,q7f]
              generalize (((W).setCell ⟨P,0,none⟩ (I x.cat)).setCell ⟨P,1,none⟩ (I x.prio)).setCell ⟨P,2,none⟩ (.slice s1.a s1.n s1.c) = W5 at *
              refine wpAnyH_ready (rs := [13]) (by kernel_rfl) (by simp) ?_
              refine AllReadyH.cons rfl (fun K hK => ?_) AllReadyH.nil
              obtain ⟨⟨-,cp0,fp0⟩,⟨-,cp1,fp1⟩,⟨-,cp2,fp2⟩,kQ⟩ := qmr (I x.cat) (I x.prio) (.slice s2.a s2.n s2.c) hQ5
              go_simp
              have hb6 : Below wr.heap.size wr ((((W5).setCell ⟨Q,0,none⟩ (I x.cat)).setCell ⟨Q,1,none⟩ (I x.prio)).setCell ⟨Q,2,none⟩ (.slice s2.a s2.n s2.c)) := qae (qae (qae (hb5) hQ1) hQ1) hQ1
              have hP6 : ((((W5).setCell ⟨Q,0,none⟩ (I x.cat)).setCell ⟨Q,1,none⟩ (I x.prio)).setCell ⟨Q,2,none⟩ (.slice s2.a s2.n s2.c)).heap[P]? = some (.cells #[I x.cat,I x.prio, .slice s1.a s1.n s1.c] 87) := by
               repeat rw [heap_setCell_other _ _ P _ (by show P ≠ Q; omega)]
               exact kP
              refine hK.out _ _ (HSS.out _ hb6) (fun hSS => ?_)
              clear hSS hK K hb5 kP hQ5 cp0 cp1 cp2 fp0 fp1 fp2
              try simp only [Act.put,q7a,q7b,q7c,q7d,q7e,q7f]
              generalize (((W5).setCell ⟨Q,0,none⟩ (I x.cat)).setCell ⟨Q,1,none⟩ (I x.prio)).setCell ⟨Q,2,none⟩ (.slice s2.a s2.n s2.c) = W6 at *
              refine wpAnyH_done (by kernel_rfl) ?_ _
              have HJ2 : Hid (Below w1.heap.size w1 W6) := belT HRR.out.2.2 hb6
              have hI := qee W6 s1 s2 x.own x.own (HRR.out.1.below hb6 (fun _ _ _ _ h => h)) (HRR.out.2.1.below hb6 (fun _ _ _ _ h => h))
              rw [decide_eq_true rfl] at hI
              have a0 : ∀ W,Below W6.heap.size W6 W → W.cell? ⟨P,0,none⟩ = some (I x.cat) := fun W hW => by rw [qa5 hW _ _ (qa4 hP6),cell_of_row _ _ _ _ _ (0,0) hP6]; rfl
              have b0 : ∀ W,Below W6.heap.size W6 W → W.cell? ⟨Q,0,none⟩ = some (I x.cat) := fun W hW => by rw [qa5 hW _ _ (qa4 kQ),cell_of_row _ _ _ _ _ (0,0) kQ]; rfl
              have a1 : ∀ W,Below W6.heap.size W6 W → W.cell? ⟨P,1,none⟩ = some (I x.prio) := fun W hW => by rw [qa5 hW _ _ (qa4 hP6),cell_of_row _ _ _ _ _ (0,0) hP6]; rfl
              have b1 : ∀ W,Below W6.heap.size W6 W → W.cell? ⟨Q,1,none⟩ = some (I x.prio) := fun W hW => by rw [qa5 hW _ _ (qa4 kQ),cell_of_row _ _ _ _ _ (0,0) kQ]; rfl
              have a2 : ∀ W,Below W6.heap.size W6 W → W.cell? ⟨P,2,none⟩ = some (.slice s1.a s1.n s1.c) := fun W hW => by rw [qa5 hW _ _ (qa4 hP6),cell_of_row _ _ _ _ _ (0,0) hP6]; rfl
              have b2 : ∀ W,Below W6.heap.size W6 W → W.cell? ⟨Q,2,none⟩ = some (.slice s2.a s2.n s2.c) := fun W hW => by rw [qa5 hW _ _ (qa4 kQ),cell_of_row _ _ _ _ _ (0,0) kQ]; rfl
              have HAB : Hid (∀ W,Below W6.heap.size W6 W → W.cell? ⟨P,0,none⟩ = some (I x.cat) ∧ W.cell? ⟨P,1,none⟩ = some (I x.prio) ∧ W.cell? ⟨P,2,none⟩ = some (.slice s1.a s1.n s1.c) ∧ W.cell? ⟨Q,0,none⟩ = some (I x.cat) ∧ W.cell? ⟨Q,1,none⟩ = some (I x.prio) ∧ W.cell? ⟨Q,2,none⟩ = some (.slice s2.a s2.n s2.c)) := fun W hW => ⟨a0 W hW,a1 W hW,a2 W hW,b0 W hW,b1 W hW,b2 W hW⟩
              clear a0 b0 a1 b1 a2 b2 hP6 kQ hb6 HSS HRR HG hne hP1 hQ1
              obtain ⟨a0,a1,a2,b0,b1,b2⟩ := HAB.out W6 (Below.refl _ _)
              go_wp2_with fail
              refine hI.mono ?_
              clear hI a0 a1 a2 b0 b1 b2
              rintro e W7 ⟨rfl,bB⟩
              obtain ⟨a0,a1,a2,b0,b1,b2⟩ := HAB.out W7 bB
              have HJ3 : Hid (Below w1.heap.size w1 W7) := belT HJ2.out bB
              clear bB
              go_wp2
              go_roundw
              case rel => exact ⟨k + 1,by omega,by go_num,HJ3.out⟩
              case measure => simp [intOf]; omega
             have K10 : Hid (∀ (W : World) (P : Nat),Below wr.heap.size wr W → W.heap[P]? = some (.cells #[I 0,I 0, .slice none 0 0] 87) → wr.heap.size ≤ P → G 3 #[true,true,true,true,true,true,true,true,true,true,true,false,false,false] (A.setIfInBounds 13 (.pointer (some ⟨P,0,none⟩))) W) := fun W P hb hP hP1 => by
              have hA := HA.out
              subst hA
              rw [HG.out]
              try simp only [Act.put,q7a,q7b,q7c,q7d,q7e,q7f]
              refine wpAnyH_ready (rs := [11]) (by kernel_rfl) (by simp) ?_
              refine AllReadyH.cons rfl (fun K hK => ?_) ?_
              ·go_simp
               refine hK.out _ _ (HSS.out _ (belA hb)) (fun _ => ?_)
               try simp only [Act.put,q7a,q7b,q7c,q7d,q7e,q7f]
               have hq := K11.out (W.alloc (.cells #[I 0,I 0, .slice none 0 0] 87)) P W.heap.size (belA hb) ((qa0 W _).block _ (qa4 hP) |>.trans hP) (heap_alloc_new _ _) (by have := qa4 hP; omega) hP1 hb.size
               simp only [List.setIfInBounds_toArray,List.set_cons_zero,List.set_cons_succ] at hq
               exact (HG.out _ _ _ _).mp hq
              exact AllReadyH.nil
             have K01 : Hid (∀ (W : World) (Q : Nat),Below wr.heap.size wr W → W.heap[Q]? = some (.cells #[I 0,I 0, .slice none 0 0] 87) → wr.heap.size ≤ Q → G 3 #[true,true,true,true,true,true,true,true,true,true,false,true,false,false] (A.setIfInBounds 14 (.pointer (some ⟨Q,0,none⟩))) W) := fun W Q hb hQ hQ1 => by
              have hA := HA.out
              subst hA
              rw [HG.out]
              try simp only [Act.put,q7a,q7b,q7c,q7d,q7e,q7f]
              refine wpAnyH_ready (rs := [10]) (by kernel_rfl) (by simp) ?_
              refine AllReadyH.cons rfl (fun K hK => ?_) ?_
              ·go_simp
               refine hK.out _ _ (HSS.out _ (belA hb)) (fun _ => ?_)
               try simp only [Act.put,q7a,q7b,q7c,q7d,q7e,q7f]
               have hq := K11.out (W.alloc (.cells #[I 0,I 0, .slice none 0 0] 87)) W.heap.size Q (belA hb) (heap_alloc_new _ _) ((qa0 W _).block _ (qa4 hQ) |>.trans hQ) (by have := qa4 hQ; omega) hb.size hQ1
               simp only [List.setIfInBounds_toArray,List.set_cons_zero,List.set_cons_succ] at hq
               exact (HG.out _ _ _ _).mp hq
              exact AllReadyH.nil
             have K00 : Hid (∀ (W : World),Below wr.heap.size wr W → G 4 #[true,true,true,true,true,true,true,true,true,true,false,false,false,false] A W) := fun W hb => by
              have hA := HA.out
              subst hA
              rw [HG.out]
              try simp only [Act.put,q7a,q7b,q7c,q7d,q7e,q7f]
              refine wpAnyH_ready (rs := [10,11]) (by kernel_rfl) (by simp) ?_
              refine AllReadyH.cons rfl (fun K hK => ?_) ?_
              ·go_simp
               refine hK.out _ _ (HSS.out _ (belA hb)) (fun _ => ?_)
               try simp only [Act.put,q7a,q7b,q7c,q7d,q7e,q7f]
               have hq := K10.out (W.alloc (.cells #[I 0,I 0, .slice none 0 0] 87)) W.heap.size (belA hb) (heap_alloc_new _ _) hb.size
               simp only [List.setIfInBounds_toArray,List.set_cons_zero,List.set_cons_succ] at hq
               exact (HG.out _ _ _ _).mp hq
              refine AllReadyH.cons rfl (fun K hK => ?_) ?_
              ·go_simp
               refine hK.out _ _ (HSS.out _ (belA hb)) (fun _ => ?_)
               try simp only [Act.put,q7a,q7b,q7c,q7d,q7e,q7f]
               have hq := K01.out (W.alloc (.cells #[I 0,I 0, .slice none 0 0] 87)) W.heap.size (belA hb) (heap_alloc_new _ _) hb.size
               simp only [List.setIfInBounds_toArray,List.set_cons_zero,List.set_cons_succ] at hq
               exact (HG.out _ _ _ _).mp hq
              exact AllReadyH.nil
             exact K00.out _ (Below.refl _ _).drew
            ·obtain rfl : k = va.i.n := by omega
             have hge : ¬ ((va.i.n : Int) < va.i.n) := by omega
             clear cB
             generalize wr = wz5 at *
             have HJ5 : Hid (Below w1.heap.size w1 wz5) := HJ.out
             clear HJ
             have cA : wz5.cell? ⟨X0,8,none⟩ = _ := (HS.out _ HJ5.out).2.2.2.2.2.2.2.2.1
             go_wp2
             clear cA
             have HI6 : Hid (Below w1.heap.size w1 wz5) := HJ5.out
             go_loopw [15] (fun v15 wr6 => ∃ k : Nat,k ≤ va.s.n ∧ v15 = I k ∧ Hid (Below w1.heap.size w1 wr6)) (fun v15 _ => va.s.n - (intOf v15).toNat)
             case atStart => exact ⟨0,by omega,rfl,HI6.out⟩
             case round =>
              clear HI6
              obtain ⟨k,hk,rfl,HJ⟩ := hrel
              have cA : wr.cell? ⟨X0,8,none⟩ = some (.slice va.s.a va.s.n va.s.c) := (HS.out wr HJ.out).2.2.2.2.2.2.2.2.1
              have cB : wr.cell? ⟨X1,8,none⟩ = some (.slice vb.s.a vb.s.n vb.s.c) := (HS.out wr HJ.out).2.2.2.2.2.2.2.2.2.2.2.2.2.2.2.2.2.2.2.2.2.1
              by_cases hlt : k < va.s.n
              ·have hltI : (k : Int) < va.s.n := by omega
               have hltJ : (k : Int) < vb.s.n := by have := HLN.out.2.2.2.2.2.2; omega
               have hk1 : k < tb.msgs.length := by have : va.s.n = _ := (HT.out wr HJ.out).1.s.n; omega
               have hmx : va.s.n ≤ maxLen := Nat.le_trans (HT.out wr HJ.out).1.s.c (HT.out wr HJ.out).1.s.m
               unfold maxLen at hmx
               obtain ⟨g1,o1,e1,q0,q1,q2,q3,q4,q5,q6,q7⟩ := atMs (HT.out wr HJ.out).1.s hk1 (Below.refl wr.heap.size wr)
               obtain ⟨g2,o2,e2,r0,r1,r2,r3,r4,r5,r6,r7⟩ := atMs (HT.out wr HJ.out).2.s hk1 (Below.refl wr.heap.size wr)
               rw [e1] at cA
               rw [e2] at cB
               have hN := fun W => qml W tb.msgs[k] tb.msgs[k]
               simp only [and_self,decide_true,Bool.not_true] at hN
               generalize tb.msgs[k] = x at *
               clear hk1 e1 e2
               go_upto_region 38 with fail
               go_region_held_law (fun W => W.cell? ⟨X0,8,none⟩ = some (.slice (some ⟨g1,o1,none⟩) va.s.n va.s.c) ∧ W.cell? ⟨X1,8,none⟩ = some (.slice (some ⟨g2,o2,none⟩) vb.s.n vb.s.c) ∧ W.cell? ⟨g1,o1 + k * 8,none⟩ = some (I x.kind) ∧ W.cell? ⟨g1,o1 + k * 8 + 1,none⟩ = some (I x.len) ∧ W.cell? ⟨g1,o1 + k * 8 + 2,none⟩ = some (I x.frm) ∧ W.cell? ⟨g1,o1 + k * 8 + 3,none⟩ = some (.int .u64 (x.init : Int)) ∧ W.cell? ⟨g1,o1 + k * 8 + 4,none⟩ = some (I x.queue) ∧ W.cell? ⟨g1,o1 + k * 8 + 5,none⟩ = some (I x.ac.kind) ∧ W.cell? ⟨g1,o1 + k * 8 + 6,none⟩ = some (I x.ac.task) ∧ W.cell? ⟨g1,o1 + k * 8 + 7,none⟩ = some (.int .u32 (x.ac.mask : Int)) ∧ W.cell? ⟨g2,o2 + k * 8,none⟩ = some (I x.kind) ∧ W.cell? ⟨g2,o2 + k * 8 + 1,none⟩ = some (I x.len) ∧ W.cell? ⟨g2,o2 + k * 8 + 2,none⟩ = some (I x.frm) ∧ W.cell? ⟨g2,o2 + k * 8 + 3,none⟩ = some (.int .u64 (x.init : Int)) ∧ W.cell? ⟨g2,o2 + k * 8 + 4,none⟩ = some (I x.queue) ∧ W.cell? ⟨g2,o2 + k * 8 + 5,none⟩ = some (I x.ac.kind) ∧ W.cell? ⟨g2,o2 + k * 8 + 6,none⟩ = some (I x.ac.task) ∧ W.cell? ⟨g2,o2 + k * 8 + 7,none⟩ = some (.int .u32 (x.ac.mask : Int))) (first | exact ⟨cA,cB,q0,q1,q2,q3,q4,q5,q6,q7,r0,r1,r2,r3,r4,r5,r6,r7⟩ | (go_keep; done)) (fail)
               have HJ2 : Hid (Below w1.heap.size w1 wr.drew) := HJ.out.drew
               clear HJ cA cB q0 q1 q2 q3 q4 q5 q6 q7 r0 r1 r2 r3 r4 r5 r6 r7
               go_wp2
               go_roundw
               case rel => exact ⟨k + 1,by omega,by go_num,HJ2.out⟩
               case measure => simp [intOf]; omega
              ·obtain rfl : k = va.s.n := by omega
               have hge : ¬ ((va.s.n : Int) < va.s.n) := by omega
               clear cB
               generalize wr = wz6 at *
               have HJ6 : Hid (Below w1.heap.size w1 wz6) := HJ.out
               clear HJ
               go_wp2
               go_ret
               have hB0 := HBB.out
               rw [← HX0.out] at hB0
               exact ⟨rfl,belT hB0 HJ6.out⟩
end Go.Proofs.YtijgopkhdjaolaaGreat
