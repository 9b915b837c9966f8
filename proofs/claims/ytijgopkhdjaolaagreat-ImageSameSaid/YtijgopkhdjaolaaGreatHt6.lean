import Derived.Test.YtijgopkhdjaolaaGreatXHt5
namespace Go.Proofs.YtijgopkhdjaolaaGreat
open Go.RowKit Go.Shelf Go.Sort
open Go.Proofs.YtijgopkhdjaolaaGreat.Ob (leB leV qac qam crc Rd RdAll qad)
set_option linter.unusedSimpArgs false
set_option linter.unusedVariables false
set_option maxHeartbeats 16000000
set_option maxRecDepth 100000
structure SzT (tb : Tb) : Prop where
 t : tb.tasks.length * 80 ≤ 140737488355328
 g : tb.rings.length * 16 ≤ 140737488355328
 r : tb.ress.length * 16 ≤ 140737488355328
 k : tb.ctrs.length * 12 ≤ 140737488355328
 a : tb.als.length * 48 ≤ 140737488355328
 i : tb.isrs.length * 40 ≤ 140737488355328
 s : tb.msgs.length * 64 ≤ 140737488355328
 ot : ∀ (j : Nat) (x : TkR),tb.tasks[j]? = some x → x.own.length * 8 ≤ 140737488355328
 oi : ∀ (j : Nat) (x : IsR),tb.isrs[j]? = some x → x.own.length * 8 ≤ 140737488355328
abbrev zO : Obj := .cells #[I 0,I 0, .slice none 0 0, .slice none 0 0, .slice none 0 0, .slice none 0 0, .slice none 0 0, .slice none 0 0, .slice none 0 0,I 0,I 0,I 0,I 0] 30
structure Cy0 (w W : World) (tb : Tb) (v vv : Ts) (X1 X2 X3 : Nat) : Prop where
 b : Below w.heap.size w W
 o : w.heap.size ≤ X1 ∧ X1 < X2 ∧ X2 < X3
 h1 : W.heap[X1]? = some (.cells (tbC tb v) 30)
 h2 : W.heap[X2]? = some zO
 h3 : W.heap[X3]? = some (.cells (tbC tb vv) 30)
section
variable {w W W' : World} {tb : Tb} {v vv vv' : Ts} {X1 X2 X3 : Nat}
theorem Cy0.below (h : Cy0 w W tb v vv X1 X2 X3) (hb : Below W.heap.size W W') : Cy0 w W' tb v vv X1 X2 X3 :=
 ⟨belT h.b hb,h.o,(hb.block _ (qa4 h.h1)).trans h.h1,(hb.block _ (qa4 h.h2)).trans h.h2,(hb.block _ (qa4 h.h3)).trans h.h3⟩
theorem Cy0.grown {b T k n : Nat} {u : Value} {xs : List Value} (h : Cy0 w W tb v vv X1 X2 X3) (ho : W.ownsRow b T k u n xs) (hT : T ≠ 30) (hbase : w.heap.size ≤ b) (hg : W.grownBy W' u.ownBlock) : Cy0 w W' tb v vv X1 X2 X3 := by
 have key : ∀ (X : Nat) (cs : Array Value),W.heap[X]? = some (Obj.cells cs 30) → W'.heap[X]? = some (Obj.cells cs 30) := fun X cs hX => by
  refine (hg.block X (qa4 hX) (fun e => ?_)).trans hX
  rcases ho.2 with ⟨q,_⟩ | ⟨g1,cap1,cur1,q,_,hh,_⟩
  ·rw [q] at e; cases e
  ·rw [q] at e
   have e3 : X = g1 := Option.some.inj e
   rw [← e3,hX] at hh
   injection hh with hh
   injection hh with _ e4
   exact hT e4.symm
 exact ⟨h.b.grown hg h.b.size (fun k e => Nat.le_trans hbase (ho.lt k e).1),h.o,key _ _ h.h1,key _ _ h.h2,key _ _ h.h3⟩
theorem Cy0.put (h : Cy0 w W tb v vv X1 X2 X3) (j : Nat) (u : Value) (e : (tbC tb vv).setIfInBounds j u = tbC tb vv') : Cy0 w (W.setCell ⟨X3,j,none⟩ u) tb v vv' X1 X2 X3 := by
 have o := h.o
 refine ⟨qae h.b (by omega),h.o, ?_, ?_, ?_⟩
 ·rw [heap_setCell_other _ _ _ _ (by show X1 ≠ X3; omega)]; exact h.h1
 ·rw [heap_setCell_other _ _ _ _ (by show X2 ≠ X3; omega)]; exact h.h2
 ·rw [← e]; exact heap_setCell_same _ _ j _ _ _ h.h3
end
theorem qp7 {W W' : World} {lo b2 k2 m : Nat} {xs : List TkR} {u v : Value} {ys : List Value} (h : VRTk lo W xs u) (h2 : W.ownsRow b2 87 k2 v m ys) (hg : W.grownBy W' v.ownBlock) : VRTk lo W' xs u := by
 obtain ⟨sa,sc,cs,rfl,o,x⟩ := h
 refine ⟨sa,sc,cs,rfl,qcc o h2 (by decide) hg,RwX.mono x (fun x i u h => ?_)⟩
 unfold tkO9 at h ⊢
 split at h <;> first | exact h | exact qc0 h h2 hg (by decide)
theorem qp8 {W W' : World} {lo b2 k2 m : Nat} {xs : List RgR} {u v : Value} {ys : List Value} (h : VRRg lo W xs u) (h2 : W.ownsRow b2 87 k2 v m ys) (hg : W.grownBy W' v.ownBlock) : VRRg lo W' xs u := by
 obtain ⟨sa,sc,cs,rfl,o,x⟩ := h
 exact ⟨sa,sc,cs,rfl,qcc o h2 (by decide) hg,x⟩
theorem qp9 {W W' : World} {lo b2 k2 m : Nat} {xs : List RsR} {u v : Value} {ys : List Value} (h : VRRs lo W xs u) (h2 : W.ownsRow b2 87 k2 v m ys) (hg : W.grownBy W' v.ownBlock) : VRRs lo W' xs u := by
 obtain ⟨sa,sc,cs,rfl,o,x⟩ := h
 exact ⟨sa,sc,cs,rfl,qcc o h2 (by decide) hg,x⟩
theorem qpa {W W' : World} {lo b2 k2 m : Nat} {xs : List CtR} {u v : Value} {ys : List Value} (h : VRCt lo W xs u) (h2 : W.ownsRow b2 87 k2 v m ys) (hg : W.grownBy W' v.ownBlock) : VRCt lo W' xs u := by
 obtain ⟨sa,sc,cs,rfl,o,x⟩ := h
 exact ⟨sa,sc,cs,rfl,qcc o h2 (by decide) hg,x⟩
theorem qpb {W W' : World} {lo b2 k2 m : Nat} {xs : List AlR} {u v : Value} {ys : List Value} (h : VRAl lo W xs u) (h2 : W.ownsRow b2 87 k2 v m ys) (hg : W.grownBy W' v.ownBlock) : VRAl lo W' xs u := by
 obtain ⟨sa,sc,cs,rfl,o,x⟩ := h
 exact ⟨sa,sc,cs,rfl,qcc o h2 (by decide) hg,x⟩
abbrev tkX (x : TkR) (s : Sl) : Obj := .cells #[I x.prio,I x.ring, .bool x.full,I x.limit, .int .u32 (x.mask : Int),I x.inner, .slice s.a s.n s.c, .int .u32 (x.auto : Int)] 61
abbrev isX (x : IsR) (s : Sl) : Obj := .cells #[I x.cat,I x.prio, .slice s.a s.n s.c] 87
end Go.Proofs.YtijgopkhdjaolaaGreat
