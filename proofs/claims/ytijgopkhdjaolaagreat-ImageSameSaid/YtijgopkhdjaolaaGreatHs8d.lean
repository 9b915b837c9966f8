import Derived.Test.YtijgopkhdjaolaaGreatXHs10
import Derived.Test.YtijgopkhdjaolaaGreatHq
import Derived.Deep.RegionHeldLaw
import Derived.Deep.DrawnRows
namespace Go.Proofs.YtijgopkhdjaolaaGreat
open Go.RowKit Go.Shelf Go.Sort
set_option linter.unusedSimpArgs false
set_option linter.unusedVariables false
set_option maxHeartbeats 40000000
set_option maxRecDepth 100000
abbrev tQ (x0 x1 : Int) (v : Ts) (x9 x10 x11 x12 : Int) : Obj := .cells #[I x0,I x1, .slice v.t.a v.t.n v.t.c, .slice v.g.a v.g.n v.g.c, .slice v.r.a v.r.n v.r.c, .slice v.k.a v.k.n v.k.c, .slice v.a.a v.a.n v.a.c, .slice v.i.a v.i.n v.i.c, .slice v.s.a v.s.n v.s.c,I x9,I x10,I x11,I x12] 30
theorem qmi {p : Prop} (h : ¬ p) : Says (.returned (.bool false)) p := ⟨false,rfl,fun e => (nomatch e),fun e => absurd e h⟩
theorem qkz {p : Prop} (h : p) : Says (.returned (.bool true)) p := ⟨true,rfl,fun _ => h,fun _ => rfl⟩
theorem qli {W : World} {Z T : Nat} {z0 z1 z2 z3 z4 z5 z6 z7 : Value} (v0 v1 v2 v3 v4 v5 v6 v7 : Value) (h0 : W.heap[Z]? = some (.cells #[z0,z1,z2,z3,z4,z5,z6,z7] T)) : (W.heap[Z]? = some (.cells #[z0,z1,z2,z3,z4,z5,z6,z7] T) ∧ W.cell? ⟨Z,0,none⟩ = some z0 ∧ W.frozen? ⟨Z,0,none⟩ = false) ∧ ((W.setCell ⟨Z,0,none⟩ v0).heap[Z]? = some (.cells #[v0,z1,z2,z3,z4,z5,z6,z7] T) ∧ (W.setCell ⟨Z,0,none⟩ v0).cell? ⟨Z,1,none⟩ = some z1 ∧ (W.setCell ⟨Z,0,none⟩ v0).frozen? ⟨Z,1,none⟩ = false) ∧ (((W.setCell ⟨Z,0,none⟩ v0).setCell ⟨Z,1,none⟩ v1).heap[Z]? = some (.cells #[v0,v1,z2,z3,z4,z5,z6,z7] T) ∧ ((W.setCell ⟨Z,0,none⟩ v0).setCell ⟨Z,1,none⟩ v1).cell? ⟨Z,2,none⟩ = some z2 ∧ ((W.setCell ⟨Z,0,none⟩ v0).setCell ⟨Z,1,none⟩ v1).frozen? ⟨Z,2,none⟩ = false) ∧ ((((W.setCell ⟨Z,0,none⟩ v0).setCell ⟨Z,1,none⟩ v1).setCell ⟨Z,2,none⟩ v2).heap[Z]? = some (.cells #[v0,v1,v2,z3,z4,z5,z6,z7] T) ∧ (((W.setCell ⟨Z,0,none⟩ v0).setCell ⟨Z,1,none⟩ v1).setCell ⟨Z,2,none⟩ v2).cell? ⟨Z,3,none⟩ = some z3 ∧ (((W.setCell ⟨Z,0,none⟩ v0).setCell ⟨Z,1,none⟩ v1).setCell ⟨Z,2,none⟩ v2).frozen? ⟨Z,3,none⟩ = false) ∧ (((((W.setCell ⟨Z,0,none⟩ v0).setCell ⟨Z,1,none⟩ v1).setCell ⟨Z,2,none⟩ v2).setCell ⟨Z,3,none⟩ v3).heap[Z]? = some (.cells #[v0,v1,v2,v3,z4,z5,z6,z7] T) ∧ ((((W.setCell ⟨Z,0,none⟩ v0).setCell ⟨Z,1,none⟩ v1).setCell ⟨Z,2,none⟩ v2).setCell ⟨Z,3,none⟩ v3).cell? ⟨Z,4,none⟩ = some z4 ∧ ((((W.setCell ⟨Z,0,none⟩ v0).setCell ⟨Z,1,none⟩ v1).setCell ⟨Z,2,none⟩ v2).setCell ⟨Z,3,none⟩ v3).frozen? ⟨Z,4,none⟩ = false) ∧ ((((((W.setCell ⟨Z,0,none⟩ v0).setCell ⟨Z,1,none⟩ v1).setCell ⟨Z,2,none⟩ v2).setCell ⟨Z,3,none⟩ v3).setCell ⟨Z,4,none⟩ v4).heap[Z]? = some (.cells #[v0,v1,v2,v3,v4,z5,z6,z7] T) ∧ (((((W.setCell ⟨Z,0,none⟩ v0).setCell ⟨Z,1,none⟩ v1).setCell ⟨Z,2,none⟩ v2).setCell ⟨Z,3,none⟩ v3).setCell ⟨Z,4,none⟩ v4).cell? ⟨Z,5,none⟩ = some z5 ∧ (((((W.setCell ⟨Z,0,none⟩ v0).setCell ⟨Z,1,none⟩ v1).setCell ⟨Z,2,none⟩ v2).setCell ⟨Z,3,none⟩ v3).setCell ⟨Z,4,none⟩ v4).frozen? ⟨Z,5,none⟩ = false) ∧ (((((((W.setCell ⟨Z,0,none⟩ v0).setCell ⟨Z,1,none⟩ v1).setCell ⟨Z,2,none⟩ v2).setCell ⟨Z,3,none⟩ v3).setCell ⟨Z,4,none⟩ v4).setCell ⟨Z,5,none⟩ v5).heap[Z]? = some (.cells #[v0,v1,v2,v3,v4,v5,z6,z7] T) ∧ ((((((W.setCell ⟨Z,0,none⟩ v0).setCell ⟨Z,1,none⟩ v1).setCell ⟨Z,2,none⟩ v2).setCell ⟨Z,3,none⟩ v3).setCell ⟨Z,4,none⟩ v4).setCell ⟨Z,5,none⟩ v5).cell? ⟨Z,6,none⟩ = some z6 ∧ ((((((W.setCell ⟨Z,0,none⟩ v0).setCell ⟨Z,1,none⟩ v1).setCell ⟨Z,2,none⟩ v2).setCell ⟨Z,3,none⟩ v3).setCell ⟨Z,4,none⟩ v4).setCell ⟨Z,5,none⟩ v5).frozen? ⟨Z,6,none⟩ = false) ∧ ((((((((W.setCell ⟨Z,0,none⟩ v0).setCell ⟨Z,1,none⟩ v1).setCell ⟨Z,2,none⟩ v2).setCell ⟨Z,3,none⟩ v3).setCell ⟨Z,4,none⟩ v4).setCell ⟨Z,5,none⟩ v5).setCell ⟨Z,6,none⟩ v6).heap[Z]? = some (.cells #[v0,v1,v2,v3,v4,v5,v6,z7] T) ∧ (((((((W.setCell ⟨Z,0,none⟩ v0).setCell ⟨Z,1,none⟩ v1).setCell ⟨Z,2,none⟩ v2).setCell ⟨Z,3,none⟩ v3).setCell ⟨Z,4,none⟩ v4).setCell ⟨Z,5,none⟩ v5).setCell ⟨Z,6,none⟩ v6).cell? ⟨Z,7,none⟩ = some z7 ∧ (((((((W.setCell ⟨Z,0,none⟩ v0).setCell ⟨Z,1,none⟩ v1).setCell ⟨Z,2,none⟩ v2).setCell ⟨Z,3,none⟩ v3).setCell ⟨Z,4,none⟩ v4).setCell ⟨Z,5,none⟩ v5).setCell ⟨Z,6,none⟩ v6).frozen? ⟨Z,7,none⟩ = false) ∧ ((((((((W.setCell ⟨Z,0,none⟩ v0).setCell ⟨Z,1,none⟩ v1).setCell ⟨Z,2,none⟩ v2).setCell ⟨Z,3,none⟩ v3).setCell ⟨Z,4,none⟩ v4).setCell ⟨Z,5,none⟩ v5).setCell ⟨Z,6,none⟩ v6).setCell ⟨Z,7,none⟩ v7).heap[Z]? = some (.cells #[v0,v1,v2,v3,v4,v5,v6,v7] T) := by
 have c0 : W.cell? ⟨Z,0,none⟩ = some z0 := by rw [cell_of_row _ _ _ _ _ (0,0) h0]; rfl
 have f0 : W.frozen? ⟨Z,0,none⟩ = false := frozen_of_row _ _ _ _ _ h0
 have h1 : (W.setCell ⟨Z,0,none⟩ v0).heap[Z]? = some (.cells #[v0,z1,z2,z3,z4,z5,z6,z7] T) := heap_setCell_same W Z 0 _ _ v0 h0
 have c1 : (W.setCell ⟨Z,0,none⟩ v0).cell? ⟨Z,1,none⟩ = some z1 := by rw [cell_of_row _ _ _ _ _ (0,0) h1]; rfl
 have f1 : (W.setCell ⟨Z,0,none⟩ v0).frozen? ⟨Z,1,none⟩ = false := frozen_of_row _ _ _ _ _ h1
 have h2 : ((W.setCell ⟨Z,0,none⟩ v0).setCell ⟨Z,1,none⟩ v1).heap[Z]? = some (.cells #[v0,v1,z2,z3,z4,z5,z6,z7] T) := heap_setCell_same (W.setCell ⟨Z,0,none⟩ v0) Z 1 _ _ v1 h1
 have c2 : ((W.setCell ⟨Z,0,none⟩ v0).setCell ⟨Z,1,none⟩ v1).cell? ⟨Z,2,none⟩ = some z2 := by rw [cell_of_row _ _ _ _ _ (0,0) h2]; rfl
 have f2 : ((W.setCell ⟨Z,0,none⟩ v0).setCell ⟨Z,1,none⟩ v1).frozen? ⟨Z,2,none⟩ = false := frozen_of_row _ _ _ _ _ h2
 have h3 : (((W.setCell ⟨Z,0,none⟩ v0).setCell ⟨Z,1,none⟩ v1).setCell ⟨Z,2,none⟩ v2).heap[Z]? = some (.cells #[v0,v1,v2,z3,z4,z5,z6,z7] T) := heap_setCell_same ((W.setCell ⟨Z,0,none⟩ v0).setCell ⟨Z,1,none⟩ v1) Z 2 _ _ v2 h2
 have c3 : (((W.setCell ⟨Z,0,none⟩ v0).setCell ⟨Z,1,none⟩ v1).setCell ⟨Z,2,none⟩ v2).cell? ⟨Z,3,none⟩ = some z3 := by rw [cell_of_row _ _ _ _ _ (0,0) h3]; rfl
 have f3 : (((W.setCell ⟨Z,0,none⟩ v0).setCell ⟨Z,1,none⟩ v1).setCell ⟨Z,2,none⟩ v2).frozen? ⟨Z,3,none⟩ = false := frozen_of_row _ _ _ _ _ h3
 have h4 : ((((W.setCell ⟨Z,0,none⟩ v0).setCell ⟨Z,1,none⟩ v1).setCell ⟨Z,2,none⟩ v2).setCell ⟨Z,3,none⟩ v3).heap[Z]? = some (.cells #[v0,v1,v2,v3,z4,z5,z6,z7] T) := heap_setCell_same (((W.setCell ⟨Z,0,none⟩ v0).setCell ⟨Z,1,none⟩ v1).setCell ⟨Z,2,none⟩ v2) Z 3 _ _ v3 h3
 have c4 : ((((W.setCell ⟨Z,0,none⟩ v0).setCell ⟨Z,1,none⟩ v1).setCell ⟨Z,2,none⟩ v2).setCell ⟨Z,3,none⟩ v3).cell? ⟨Z,4,none⟩ = some z4 := by rw [cell_of_row _ _ _ _ _ (0,0) h4]; rfl
 have f4 : ((((W.setCell ⟨Z,0,none⟩ v0).setCell ⟨Z,1,none⟩ v1).setCell ⟨Z,2,none⟩ v2).setCell ⟨Z,3,none⟩ v3).frozen? ⟨Z,4,none⟩ = false := frozen_of_row _ _ _ _ _ h4
 have h5 : (((((W.setCell ⟨Z,0,none⟩ v0).setCell ⟨Z,1,none⟩ v1).setCell ⟨Z,2,none⟩ v2).setCell ⟨Z,3,none⟩ v3).setCell ⟨Z,4,none⟩ v4).heap[Z]? = some (.cells #[v0,v1,v2,v3,v4,z5,z6,z7] T) := heap_setCell_same ((((W.setCell ⟨Z,0,none⟩ v0).setCell ⟨Z,1,none⟩ v1).setCell ⟨Z,2,none⟩ v2).setCell ⟨Z,3,none⟩ v3) Z 4 _ _ v4 h4
 have c5 : (((((W.setCell ⟨Z,0,none⟩ v0).setCell ⟨Z,1,none⟩ v1).setCell ⟨Z,2,none⟩ v2).setCell ⟨Z,3,none⟩ v3).setCell ⟨Z,4,none⟩ v4).cell? ⟨Z,5,none⟩ = some z5 := by rw [cell_of_row _ _ _ _ _ (0,0) h5]; rfl
 have f5 : (((((W.setCell ⟨Z,0,none⟩ v0).setCell ⟨Z,1,none⟩ v1).setCell ⟨Z,2,none⟩ v2).setCell ⟨Z,3,none⟩ v3).setCell ⟨Z,4,none⟩ v4).frozen? ⟨Z,5,none⟩ = false := frozen_of_row _ _ _ _ _ h5
 have h6 : ((((((W.setCell ⟨Z,0,none⟩ v0).setCell ⟨Z,1,none⟩ v1).setCell ⟨Z,2,none⟩ v2).setCell ⟨Z,3,none⟩ v3).setCell ⟨Z,4,none⟩ v4).setCell ⟨Z,5,none⟩ v5).heap[Z]? = some (.cells #[v0,v1,v2,v3,v4,v5,z6,z7] T) := heap_setCell_same (((((W.setCell ⟨Z,0,none⟩ v0).setCell ⟨Z,1,none⟩ v1).setCell ⟨Z,2,none⟩ v2).setCell ⟨Z,3,none⟩ v3).setCell ⟨Z,4,none⟩ v4) Z 5 _ _ v5 h5
 have c6 : ((((((W.setCell ⟨Z,0,none⟩ v0).setCell ⟨Z,1,none⟩ v1).setCell ⟨Z,2,none⟩ v2).setCell ⟨Z,3,none⟩ v3).setCell ⟨Z,4,none⟩ v4).setCell ⟨Z,5,none⟩ v5).cell? ⟨Z,6,none⟩ = some z6 := by rw [cell_of_row _ _ _ _ _ (0,0) h6]; rfl
 have f6 : ((((((W.setCell ⟨Z,0,none⟩ v0).setCell ⟨Z,1,none⟩ v1).setCell ⟨Z,2,none⟩ v2).setCell ⟨Z,3,none⟩ v3).setCell ⟨Z,4,none⟩ v4).setCell ⟨Z,5,none⟩ v5).frozen? ⟨Z,6,none⟩ = false := frozen_of_row _ _ _ _ _ h6
 have h7 : (((((((W.setCell ⟨Z,0,none⟩ v0).setCell ⟨Z,1,none⟩ v1).setCell ⟨Z,2,none⟩ v2).setCell ⟨Z,3,none⟩ v3).setCell ⟨Z,4,none⟩ v4).setCell ⟨Z,5,none⟩ v5).setCell ⟨Z,6,none⟩ v6).heap[Z]? = some (.cells #[v0,v1,v2,v3,v4,v5,v6,z7] T) := heap_setCell_same ((((((W.setCell ⟨Z,0,none⟩ v0).setCell ⟨Z,1,none⟩ v1).setCell ⟨Z,2,none⟩ v2).setCell ⟨Z,3,none⟩ v3).setCell ⟨Z,4,none⟩ v4).setCell ⟨Z,5,none⟩ v5) Z 6 _ _ v6 h6
 have c7 : (((((((W.setCell ⟨Z,0,none⟩ v0).setCell ⟨Z,1,none⟩ v1).setCell ⟨Z,2,none⟩ v2).setCell ⟨Z,3,none⟩ v3).setCell ⟨Z,4,none⟩ v4).setCell ⟨Z,5,none⟩ v5).setCell ⟨Z,6,none⟩ v6).cell? ⟨Z,7,none⟩ = some z7 := by rw [cell_of_row _ _ _ _ _ (0,0) h7]; rfl
 have f7 : (((((((W.setCell ⟨Z,0,none⟩ v0).setCell ⟨Z,1,none⟩ v1).setCell ⟨Z,2,none⟩ v2).setCell ⟨Z,3,none⟩ v3).setCell ⟨Z,4,none⟩ v4).setCell ⟨Z,5,none⟩ v5).setCell ⟨Z,6,none⟩ v6).frozen? ⟨Z,7,none⟩ = false := frozen_of_row _ _ _ _ _ h7
 have h8 : ((((((((W.setCell ⟨Z,0,none⟩ v0).setCell ⟨Z,1,none⟩ v1).setCell ⟨Z,2,none⟩ v2).setCell ⟨Z,3,none⟩ v3).setCell ⟨Z,4,none⟩ v4).setCell ⟨Z,5,none⟩ v5).setCell ⟨Z,6,none⟩ v6).setCell ⟨Z,7,none⟩ v7).heap[Z]? = some (.cells #[v0,v1,v2,v3,v4,v5,v6,v7] T) := heap_setCell_same (((((((W.setCell ⟨Z,0,none⟩ v0).setCell ⟨Z,1,none⟩ v1).setCell ⟨Z,2,none⟩ v2).setCell ⟨Z,3,none⟩ v3).setCell ⟨Z,4,none⟩ v4).setCell ⟨Z,5,none⟩ v5).setCell ⟨Z,6,none⟩ v6) Z 7 _ _ v7 h7
 exact ⟨⟨h0,c0,f0⟩,⟨h1,c1,f1⟩,⟨h2,c2,f2⟩,⟨h3,c3,f3⟩,⟨h4,c4,f4⟩,⟨h5,c5,f5⟩,⟨h6,c6,f6⟩,⟨h7,c7,f7⟩,h8⟩
theorem qlj {W : World} {Z T : Nat} {z0 z1 z2 : Value} (v0 v1 v2 : Value) (h0 : W.heap[Z]? = some (.cells #[z0,z1,z2] T)) : (W.heap[Z]? = some (.cells #[z0,z1,z2] T) ∧ W.cell? ⟨Z,0,none⟩ = some z0 ∧ W.frozen? ⟨Z,0,none⟩ = false) ∧ ((W.setCell ⟨Z,0,none⟩ v0).heap[Z]? = some (.cells #[v0,z1,z2] T) ∧ (W.setCell ⟨Z,0,none⟩ v0).cell? ⟨Z,1,none⟩ = some z1 ∧ (W.setCell ⟨Z,0,none⟩ v0).frozen? ⟨Z,1,none⟩ = false) ∧ (((W.setCell ⟨Z,0,none⟩ v0).setCell ⟨Z,1,none⟩ v1).heap[Z]? = some (.cells #[v0,v1,z2] T) ∧ ((W.setCell ⟨Z,0,none⟩ v0).setCell ⟨Z,1,none⟩ v1).cell? ⟨Z,2,none⟩ = some z2 ∧ ((W.setCell ⟨Z,0,none⟩ v0).setCell ⟨Z,1,none⟩ v1).frozen? ⟨Z,2,none⟩ = false) ∧ (((W.setCell ⟨Z,0,none⟩ v0).setCell ⟨Z,1,none⟩ v1).setCell ⟨Z,2,none⟩ v2).heap[Z]? = some (.cells #[v0,v1,v2] T) := by
 have c0 : W.cell? ⟨Z,0,none⟩ = some z0 := by rw [cell_of_row _ _ _ _ _ (0,0) h0]; rfl
 have f0 : W.frozen? ⟨Z,0,none⟩ = false := frozen_of_row _ _ _ _ _ h0
 have h1 : (W.setCell ⟨Z,0,none⟩ v0).heap[Z]? = some (.cells #[v0,z1,z2] T) := heap_setCell_same W Z 0 _ _ v0 h0
 have c1 : (W.setCell ⟨Z,0,none⟩ v0).cell? ⟨Z,1,none⟩ = some z1 := by rw [cell_of_row _ _ _ _ _ (0,0) h1]; rfl
 have f1 : (W.setCell ⟨Z,0,none⟩ v0).frozen? ⟨Z,1,none⟩ = false := frozen_of_row _ _ _ _ _ h1
 have h2 : ((W.setCell ⟨Z,0,none⟩ v0).setCell ⟨Z,1,none⟩ v1).heap[Z]? = some (.cells #[v0,v1,z2] T) := heap_setCell_same (W.setCell ⟨Z,0,none⟩ v0) Z 1 _ _ v1 h1
 have c2 : ((W.setCell ⟨Z,0,none⟩ v0).setCell ⟨Z,1,none⟩ v1).cell? ⟨Z,2,none⟩ = some z2 := by rw [cell_of_row _ _ _ _ _ (0,0) h2]; rfl
 have f2 : ((W.setCell ⟨Z,0,none⟩ v0).setCell ⟨Z,1,none⟩ v1).frozen? ⟨Z,2,none⟩ = false := frozen_of_row _ _ _ _ _ h2
 have h3 : (((W.setCell ⟨Z,0,none⟩ v0).setCell ⟨Z,1,none⟩ v1).setCell ⟨Z,2,none⟩ v2).heap[Z]? = some (.cells #[v0,v1,v2] T) := heap_setCell_same ((W.setCell ⟨Z,0,none⟩ v0).setCell ⟨Z,1,none⟩ v1) Z 2 _ _ v2 h2
 exact ⟨⟨h0,c0,f0⟩,⟨h1,c1,f1⟩,⟨h2,c2,f2⟩,h3⟩
def tk (T : Array Value) (i : Nat) : Value := T.getD i undef
theorem qck (T : Array Value) (h : T.size = 263) : T = ((List.range 263).map (tk T)).toArray := by
 apply Array.ext
 ·simp [h]
 ·intro i h1 h2
  simp [tk,h1]
theorem rng : List.range 263 = [0,1,2,3,4,5,6,7,8,9,10,11,12,13,14,15,16,17,18,19,20,21,22,23,24,25,26,27,28,29,30,31,32,33,34,35,36,37,38,39,40,41,42,43,44,45,46,47,48,49,50,51,52,53,54,55,56,57,58,59,60,61,62,63,64,65,66,67,68,69,70,71,72,73,74,75,76,77,78,79,80,81,82,83,84,85,86,87,88,89,90,91,92,93,94,95,96,97,98,99,100,101,102,103,104,105,106,107,108,109,110,111,112,113,114,115,116,117,118,119,120,121,122,123,124,125,126,127,128,129,130,131,132,133,134,135,136,137,138,139,140,141,142,143,144,145,146,147,148,149,150,151,152,153,154,155,156,157,158,159,160,161,162,163,164,165,166,167,168,169,170,171,172,173,174,175,176,177,178,179,180,181,182,183,184,185,186,187,188,189,190,191,192,193,194,195,196,197,198,199,200,201,202,203,204,205,206,207,208,209,210,211,212,213,214,215,216,217,218,219,220,221,222,223,224,225,226,227,228,229,230,231,232,233,234,235,236,237,238,239,240,241,242,243,244,245,246,247,248,249,250,251,252,253,254,255,256,257,258,259,260,261,262] := by kernel_rfl
def drp : Nat → Code → Code
 | n + 1, .seq _ b => drp n b
 | _,c => c
def hdc : Code → Code
 | .seq a _ => a
 | c => c
def SQ (N R : Act → World → Prop) : Exit → Act → World → Prop
 | .normal,a,w => N a w
 | .ret,a,w => R a w
 | _,_,_ => False
theorem qch {P : Program} {c : Code} {K : Act → World → Prop} {Q : Exit → Act → World → Prop} {a : Act} {w : World} (h : c.wp P (SQ K (Q .ret)) a w) : c.wp P (Exit.then K Q) a w := Code.wp_mono (fun e a w q => by cases e <;> first | exact q | exact q.elim) h
def Seg (i : Nat) (X0 X1 : Nat) (w1 : World) (E : Prop) : Prop := ∀ (N R : Act → World → Prop) (T : Array Value) (vs : List Deferred) (w : World),T.size = 263 → T.getD 2 undef = .pointer (some ⟨X0,0,none⟩) → T.getD 3 undef = .pointer (some ⟨X1,0,none⟩) → Below w1.heap.size w1 w → (∀ T' w',T'.size = 263 → T'.getD 2 undef = .pointer (some ⟨X0,0,none⟩) → T'.getD 3 undef = .pointer (some ⟨X1,0,none⟩) → Below w1.heap.size w1 w' → E → N ⟨T',vs⟩ w') → (∀ T' w',T'.getD 4 undef = .bool false → Below w1.heap.size w1 w' → ¬ E → R ⟨T',vs⟩ w') → (hdc (drp i (Tryz.f16.body.getD .skip))).wp Tryz.prog (SQ N R) ⟨T,vs⟩ w
theorem sg_A {w1 : World} {X0 X1 : Nat} {ta tb : Tb} {va vb : Ts} (HS : Hid (∀ W,Below w1.heap.size w1 W → W.cell? ⟨X0,0,none⟩ = some (I ta.uses) ∧ W.cell? ⟨X0,1,none⟩ = some (I ta.modes) ∧ W.cell? ⟨X0,2,none⟩ = some (.slice va.t.a va.t.n va.t.c) ∧ W.cell? ⟨X0,3,none⟩ = some (.slice va.g.a va.g.n va.g.c) ∧ W.cell? ⟨X0,4,none⟩ = some (.slice va.r.a va.r.n va.r.c) ∧ W.cell? ⟨X0,5,none⟩ = some (.slice va.k.a va.k.n va.k.c) ∧ W.cell? ⟨X0,6,none⟩ = some (.slice va.a.a va.a.n va.a.c) ∧ W.cell? ⟨X0,7,none⟩ = some (.slice va.i.a va.i.n va.i.c) ∧ W.cell? ⟨X0,8,none⟩ = some (.slice va.s.a va.s.n va.s.c) ∧ W.cell? ⟨X0,9,none⟩ = some (I ta.depth) ∧ W.cell? ⟨X0,10,none⟩ = some (I ta.frames) ∧ W.cell? ⟨X0,11,none⟩ = some (I ta.errors) ∧ W.cell? ⟨X0,12,none⟩ = some (I ta.calls) ∧ W.cell? ⟨X1,0,none⟩ = some (I tb.uses) ∧ W.cell? ⟨X1,1,none⟩ = some (I tb.modes) ∧ W.cell? ⟨X1,2,none⟩ = some (.slice vb.t.a vb.t.n vb.t.c) ∧ W.cell? ⟨X1,3,none⟩ = some (.slice vb.g.a vb.g.n vb.g.c) ∧ W.cell? ⟨X1,4,none⟩ = some (.slice vb.r.a vb.r.n vb.r.c) ∧ W.cell? ⟨X1,5,none⟩ = some (.slice vb.k.a vb.k.n vb.k.c) ∧ W.cell? ⟨X1,6,none⟩ = some (.slice vb.a.a vb.a.n vb.a.c) ∧ W.cell? ⟨X1,7,none⟩ = some (.slice vb.i.a vb.i.n vb.i.c) ∧ W.cell? ⟨X1,8,none⟩ = some (.slice vb.s.a vb.s.n vb.s.c) ∧ W.cell? ⟨X1,9,none⟩ = some (I tb.depth) ∧ W.cell? ⟨X1,10,none⟩ = some (I tb.frames) ∧ W.cell? ⟨X1,11,none⟩ = some (I tb.errors) ∧ W.cell? ⟨X1,12,none⟩ = some (I tb.calls))) (HT : Hid (∀ W,Below w1.heap.size w1 W → TbAt W ta va ∧ TbAt W tb vb)) : Seg 1 X0 X1 w1 ((ta.uses = tb.uses ∧ ta.modes = tb.modes ∧ ta.depth = tb.depth ∧ ta.frames = tb.frames ∧ ta.errors = tb.errors ∧ ta.calls = tb.calls) ∧ lenL ta = lenL tb) := by
 intro N R T vs w hT h2 h3 hb hK hR
 have HK : Hid _ := hK
 have HR : Hid _ := hR
 clear hK hR
 rw [qck T hT]
 simp only [rng,List.map_cons,List.map_nil,show tk T 2 = _ from h2,show tk T 3 = _ from h3]
 clear h2 h3 hT
 generalize tk T = tt
 conv => arg 2; whnf
 refine wp_seq_k (fun K hK => ?_)
 have hRA : ∀ (W : World),Below w1.heap.size w1 W → Calls Tryz.prog 39 #[.agg #[I ta.uses,I ta.modes, .slice va.t.a va.t.n va.t.c, .slice va.g.a va.g.n va.g.c, .slice va.r.a va.r.n va.r.c, .slice va.k.a va.k.n va.k.c, .slice va.a.a va.a.n va.a.c, .slice va.i.a va.i.n va.i.c, .slice va.s.a va.s.n va.s.c,I ta.depth,I ta.frames,I ta.errors,I ta.calls]] W fun e w' => ∃ s,e = .returned (slT s) ∧ RowsAt w' 1 intP s (lenL ta) ∧ Below W.heap.size W w' := fun W hW => qfm W ta va (HT.out W hW).1
 have hRB : ∀ (W : World),Below w1.heap.size w1 W → Calls Tryz.prog 39 #[.agg #[I tb.uses,I tb.modes, .slice vb.t.a vb.t.n vb.t.c, .slice vb.g.a vb.g.n vb.g.c, .slice vb.r.a vb.r.n vb.r.c, .slice vb.k.a vb.k.n vb.k.c, .slice vb.a.a vb.a.n vb.a.c, .slice vb.i.a vb.i.n vb.i.c, .slice vb.s.a vb.s.n vb.s.c,I tb.depth,I tb.frames,I tb.errors,I tb.calls]] W fun e w' => ∃ s,e = .returned (slT s) ∧ RowsAt w' 1 intP s (lenL tb) ∧ Below W.heap.size W w' := fun W hW => qfm W tb vb (HT.out W hW).2
 obtain ⟨z0,z1,z2,z3,z4,z5,z6,z7,z8,z9,z10,z11,z12,z13,z14,z15,z16,z17,z18,z19,z20,z21,z22,z23,z24,z25⟩ := HS.out w hb
 by_cases E0 : ta.uses = tb.uses
 case neg =>
  have hn0 : (ta.uses != tb.uses) = true := by simp [bne]; omega
  have HF : Hid (¬ ta.uses = tb.uses) := E0
  clear E0
  go_quiet (fail)
  have hbq := below_drewN hb nq
  go_wp2
  (try simp only [Exit.inBlock,Exit.then])
  exact HR.out _ _ rfl hbq (fun p => HF.out p.1.1)
 have hn0 : (ta.uses != tb.uses) = false := by rw [E0]; simp
 have HE0 : Hid (ta.uses = tb.uses) := E0
 clear E0
 by_cases E1 : ta.modes = tb.modes
 case neg =>
  have hn1 : (ta.modes != tb.modes) = true := by simp [bne]; omega
  have HF : Hid (¬ ta.modes = tb.modes) := E1
  clear E1
  go_quiet (fail)
  have hbq := below_drewN hb nq
  go_wp2
  (try simp only [Exit.inBlock,Exit.then])
  exact HR.out _ _ rfl hbq (fun p => HF.out p.1.2.1)
 have hn1 : (ta.modes != tb.modes) = false := by rw [E1]; simp
 have HE1 : Hid (ta.modes = tb.modes) := E1
 clear E1
 by_cases E2 : ta.depth = tb.depth
 case neg =>
  have hn2 : (ta.depth != tb.depth) = true := by simp [bne]; omega
  have HF : Hid (¬ ta.depth = tb.depth) := E2
  clear E2
  go_quiet (fail)
  have hbq := below_drewN hb nq
  go_wp2
  (try simp only [Exit.inBlock,Exit.then])
  exact HR.out _ _ rfl hbq (fun p => HF.out p.1.2.2.1)
 have hn2 : (ta.depth != tb.depth) = false := by rw [E2]; simp
 have HE2 : Hid (ta.depth = tb.depth) := E2
 clear E2
 by_cases E3 : ta.frames = tb.frames
 case neg =>
  have hn3 : (ta.frames != tb.frames) = true := by simp [bne]; omega
  have HF : Hid (¬ ta.frames = tb.frames) := E3
  clear E3
  go_quiet (fail)
  have hbq := below_drewN hb nq
  go_wp2
  (try simp only [Exit.inBlock,Exit.then])
  exact HR.out _ _ rfl hbq (fun p => HF.out p.1.2.2.2.1)
 have hn3 : (ta.frames != tb.frames) = false := by rw [E3]; simp
 have HE3 : Hid (ta.frames = tb.frames) := E3
 clear E3
 by_cases E4 : ta.errors = tb.errors
 case neg =>
  have hn4 : (ta.errors != tb.errors) = true := by simp [bne]; omega
  have HF : Hid (¬ ta.errors = tb.errors) := E4
  clear E4
  go_quiet (fail)
  have hbq := below_drewN hb nq
  go_wp2
  (try simp only [Exit.inBlock,Exit.then])
  exact HR.out _ _ rfl hbq (fun p => HF.out p.1.2.2.2.2.1)
 have hn4 : (ta.errors != tb.errors) = false := by rw [E4]; simp
 have HE4 : Hid (ta.errors = tb.errors) := E4
 clear E4
 by_cases E5 : ta.calls = tb.calls
 case neg =>
  have hn5 : (ta.calls != tb.calls) = true := by simp [bne]; omega
  have HF : Hid (¬ ta.calls = tb.calls) := E5
  clear E5
  go_quiet (fail)
  have hbq := below_drewN hb nq
  go_wp2
  (try simp only [Exit.inBlock,Exit.then])
  exact HR.out _ _ rfl hbq (fun p => HF.out p.1.2.2.2.2.2)
 have hn5 : (ta.calls != tb.calls) = false := by rw [E5]; simp
 have HE5 : Hid (ta.calls = tb.calls) := E5
 clear E5
 clear z0 z1 z2 z3 z4 z5 z6 z7 z8 z9 z10 z11 z12 z13 z14 z15 z16 z17 z18 z19 z20 z21 z22 z23 z24 z25
 by_cases hEQ : lenL ta = lenL tb
 ·have hEL := decide_eq_true hEQ
  have HF : Hid (lenL ta = lenL tb) := hEQ
  clear hEQ
  have HY := HS.out w.drew hb.drew
  have hbz := hb.drew
  go_region_held_law (fun W => W.cell? ⟨X0,0,none⟩ = some (I ta.uses) ∧ W.cell? ⟨X0,1,none⟩ = some (I ta.modes) ∧ W.cell? ⟨X0,2,none⟩ = some (.slice va.t.a va.t.n va.t.c) ∧ W.cell? ⟨X0,3,none⟩ = some (.slice va.g.a va.g.n va.g.c) ∧ W.cell? ⟨X0,4,none⟩ = some (.slice va.r.a va.r.n va.r.c) ∧ W.cell? ⟨X0,5,none⟩ = some (.slice va.k.a va.k.n va.k.c) ∧ W.cell? ⟨X0,6,none⟩ = some (.slice va.a.a va.a.n va.a.c) ∧ W.cell? ⟨X0,7,none⟩ = some (.slice va.i.a va.i.n va.i.c) ∧ W.cell? ⟨X0,8,none⟩ = some (.slice va.s.a va.s.n va.s.c) ∧ W.cell? ⟨X0,9,none⟩ = some (I ta.depth) ∧ W.cell? ⟨X0,10,none⟩ = some (I ta.frames) ∧ W.cell? ⟨X0,11,none⟩ = some (I ta.errors) ∧ W.cell? ⟨X0,12,none⟩ = some (I ta.calls) ∧ W.cell? ⟨X1,0,none⟩ = some (I tb.uses) ∧ W.cell? ⟨X1,1,none⟩ = some (I tb.modes) ∧ W.cell? ⟨X1,2,none⟩ = some (.slice vb.t.a vb.t.n vb.t.c) ∧ W.cell? ⟨X1,3,none⟩ = some (.slice vb.g.a vb.g.n vb.g.c) ∧ W.cell? ⟨X1,4,none⟩ = some (.slice vb.r.a vb.r.n vb.r.c) ∧ W.cell? ⟨X1,5,none⟩ = some (.slice vb.k.a vb.k.n vb.k.c) ∧ W.cell? ⟨X1,6,none⟩ = some (.slice vb.a.a vb.a.n vb.a.c) ∧ W.cell? ⟨X1,7,none⟩ = some (.slice vb.i.a vb.i.n vb.i.c) ∧ W.cell? ⟨X1,8,none⟩ = some (.slice vb.s.a vb.s.n vb.s.c) ∧ W.cell? ⟨X1,9,none⟩ = some (I tb.depth) ∧ W.cell? ⟨X1,10,none⟩ = some (I tb.frames) ∧ W.cell? ⟨X1,11,none⟩ = some (I tb.errors) ∧ W.cell? ⟨X1,12,none⟩ = some (I tb.calls)) (first | exact HY | exact HS.out _ (by repeat' (first | exact hbz | apply Below.drew | apply belA)) | (go_keep; done)) (first
    | (go_at_call 39; refine (hRA _ hbz).mono ?_; clear hRA; rintro e w2 ⟨⟨p1,n1,c1⟩,rfl,r1,b2⟩; dsimp only [slT]; have hbz := belT hbz b2; have HY := HS.out _ hbz; clear b2)
    | (go_at_call 39; refine (hRB _ hbz).mono ?_; clear hRB; rintro e w3 ⟨⟨p2,n2,c2⟩,rfl,r2,b3⟩; dsimp only [slT]; have hbz := belT hbz b3; have HY := HS.out _ hbz; have r1 := r1.below b3 (fun _ _ _ _ h => h); clear b3)
    | (go_at_call 38; refine (qd6 _ ⟨p1,n1,c1⟩ ⟨p2,n2,c2⟩ _ _ r1 r2).mono ?_; rintro e w4 ⟨rfl,b4⟩; have hbz := belT hbz b4; have HY := HS.out _ hbz; clear b4 r1 r2; rw [hEL]))
  go_wp2
  (try simp only [Exit.inBlock,Exit.then])
  exact HK.out _ _ rfl rfl rfl hbz ⟨⟨HE0.out,HE1.out,HE2.out,HE3.out,HE4.out,HE5.out⟩,HF.out⟩
 ·have hEL := decide_eq_false hEQ
  have HF : Hid (¬ lenL ta = lenL tb) := hEQ
  clear hEQ
  have HY := HS.out w.drew hb.drew
  have hbz := hb.drew
  go_region_held_law (fun W => W.cell? ⟨X0,0,none⟩ = some (I ta.uses) ∧ W.cell? ⟨X0,1,none⟩ = some (I ta.modes) ∧ W.cell? ⟨X0,2,none⟩ = some (.slice va.t.a va.t.n va.t.c) ∧ W.cell? ⟨X0,3,none⟩ = some (.slice va.g.a va.g.n va.g.c) ∧ W.cell? ⟨X0,4,none⟩ = some (.slice va.r.a va.r.n va.r.c) ∧ W.cell? ⟨X0,5,none⟩ = some (.slice va.k.a va.k.n va.k.c) ∧ W.cell? ⟨X0,6,none⟩ = some (.slice va.a.a va.a.n va.a.c) ∧ W.cell? ⟨X0,7,none⟩ = some (.slice va.i.a va.i.n va.i.c) ∧ W.cell? ⟨X0,8,none⟩ = some (.slice va.s.a va.s.n va.s.c) ∧ W.cell? ⟨X0,9,none⟩ = some (I ta.depth) ∧ W.cell? ⟨X0,10,none⟩ = some (I ta.frames) ∧ W.cell? ⟨X0,11,none⟩ = some (I ta.errors) ∧ W.cell? ⟨X0,12,none⟩ = some (I ta.calls) ∧ W.cell? ⟨X1,0,none⟩ = some (I tb.uses) ∧ W.cell? ⟨X1,1,none⟩ = some (I tb.modes) ∧ W.cell? ⟨X1,2,none⟩ = some (.slice vb.t.a vb.t.n vb.t.c) ∧ W.cell? ⟨X1,3,none⟩ = some (.slice vb.g.a vb.g.n vb.g.c) ∧ W.cell? ⟨X1,4,none⟩ = some (.slice vb.r.a vb.r.n vb.r.c) ∧ W.cell? ⟨X1,5,none⟩ = some (.slice vb.k.a vb.k.n vb.k.c) ∧ W.cell? ⟨X1,6,none⟩ = some (.slice vb.a.a vb.a.n vb.a.c) ∧ W.cell? ⟨X1,7,none⟩ = some (.slice vb.i.a vb.i.n vb.i.c) ∧ W.cell? ⟨X1,8,none⟩ = some (.slice vb.s.a vb.s.n vb.s.c) ∧ W.cell? ⟨X1,9,none⟩ = some (I tb.depth) ∧ W.cell? ⟨X1,10,none⟩ = some (I tb.frames) ∧ W.cell? ⟨X1,11,none⟩ = some (I tb.errors) ∧ W.cell? ⟨X1,12,none⟩ = some (I tb.calls)) (first | exact HY | exact HS.out _ (by repeat' (first | exact hbz | apply Below.drew | apply belA)) | (go_keep; done)) (first
    | (go_at_call 39; refine (hRA _ hbz).mono ?_; clear hRA; rintro e w2 ⟨⟨p1,n1,c1⟩,rfl,r1,b2⟩; dsimp only [slT]; have hbz := belT hbz b2; have HY := HS.out _ hbz; clear b2)
    | (go_at_call 39; refine (hRB _ hbz).mono ?_; clear hRB; rintro e w3 ⟨⟨p2,n2,c2⟩,rfl,r2,b3⟩; dsimp only [slT]; have hbz := belT hbz b3; have HY := HS.out _ hbz; have r1 := r1.below b3 (fun _ _ _ _ h => h); clear b3)
    | (go_at_call 38; refine (qd6 _ ⟨p1,n1,c1⟩ ⟨p2,n2,c2⟩ _ _ r1 r2).mono ?_; rintro e w4 ⟨rfl,b4⟩; have hbz := belT hbz b4; have HY := HS.out _ hbz; clear b4 r1 r2; rw [hEL]))
  go_wp2
  (try simp only [Exit.inBlock,Exit.then])
  exact HR.out _ _ rfl hbz (fun p => HF.out p.2)
end Go.Proofs.YtijgopkhdjaolaaGreat
