import Derived.Test.YtmidaeljeoifdaaGreatDoorTgy
import Derived.Test.YtmidaeljeoifdaaGreatDoorKat
namespace Go.Proofs.YtmidaeljeoifdaaGreatDoor
open Go.RowKit Go.Shelf Go.Sort Go.Maps
set_option linter.unusedVariables false
set_option linter.unusedSimpArgs false
theorem wpList_id99 {P : Program} {ops : Array Oper} {Q : Exit → Act → World → Prop} {l : List Oper} {a : Act} {w : World} (h : wpList P ops Q l a w) : wpList P ops Q l a w := h
theorem own_kept9 {W W' : World} {b1 b2 E1 E2 k1 k2 n m : Nat} {u v : Value} {xs ys : List Value} (h : W.ownsRow b1 E1 k1 u n xs) (h2 : W.ownsRow b2 E2 k2 v m ys) (hne : E1 ≠ E2) (hg : W.grownBy W' v.ownBlock) : W'.ownsRow b1 E1 k1 u n xs := by
 refine h.kept hg ?_
 rcases h.2 with ⟨h0, _⟩ | ⟨g, cap, cur, hv, _, hh, _⟩
 ·rw [h0]; exact .inl rfl
 ·right
  intro e
  rcases h2.2 with ⟨h0, _⟩ | ⟨g', cap', cur', hv', _, hh', _⟩
  ·rw [h0, hv] at e; cases e
  ·rw [hv, hv'] at e
   have e3 : g = g' := Option.some.inj e
   rw [e3, hh'] at hh
   injection hh with hh
   injection hh with _ e4
   exact hne e4.symm
def IntsO9 (w : World) (base : Nat) (l : List Int) (u : Value) : Prop := w.ownsRow base 3 1 u l.length (l.map fun x => I x)
theorem intsO_below9 {w w' : World} {base : Nat} {l : List Int} {u : Value} (h : IntsO9 w base l u) (hb : Below w.heap.size w w') : IntsO9 w' base l u := own_below h hb
theorem intsO_grown9 {w w' : World} {base b2 E2 k2 m : Nat} {l : List Int} {u v : Value} {ys : List Value} (h : IntsO9 w base l u) (h2 : w.ownsRow b2 E2 k2 v m ys) (hg : w.grownBy w' v.ownBlock) (hne : 3 ≠ E2) : IntsO9 w' base l u := own_kept9 h h2 hne hg
theorem intsO_v9 {w : World} {base : Nat} {l : List Int} {u : Value} (h : IntsO9 w base l u) : IntsV w l u := by
 obtain ⟨a, c, rfl⟩ := own_slk h
 exact ⟨⟨a, l.length, c⟩, rfl, rows_ints9 (s := ⟨a, l.length, c⟩) rfl h⟩
def tkO9 (w : World) (base : Nat) (x : TkR) (i : Nat) (u : Value) : Prop := match i with | 0 => u = I x.prio | 1 => u = I x.ring | 2 => u = .bool x.full | 3 => u = I x.limit | 4 => u = .int .u32 (x.mask : Int) | 5 => u = I x.inner | 6 => IntsO9 w base x.own u | _ => u = .int .u32 (x.auto : Int)
def isO9 (w : World) (base : Nat) (x : IsR) (i : Nat) (u : Value) : Prop := match i with | 0 => u = I x.cat | 1 => u = I x.prio | _ => IntsO9 w base x.own u
theorem tkO_below9 {w w' : World} {base : Nat} {x : TkR} {i : Nat} {u : Value} (h : tkO9 w base x i u) (hb : Below w.heap.size w w') : tkO9 w' base x i u := by
 unfold tkO9 at h ⊢
 split at h <;> first | exact h | exact intsO_below9 h hb
theorem isO_below9 {w w' : World} {base : Nat} {x : IsR} {i : Nat} {u : Value} (h : isO9 w base x i u) (hb : Below w.heap.size w w') : isO9 w' base x i u := by
 unfold isO9 at h ⊢
 split at h <;> first | exact h | exact intsO_below9 h hb
theorem tkO_grown9 {w w' : World} {base b2 k2 m : Nat} {x : TkR} {i : Nat} {u v : Value} {ys : List Value} (h : tkO9 w base x i u) (h2 : w.ownsRow b2 56 k2 v m ys) (hg : w.grownBy w' v.ownBlock) : tkO9 w' base x i u := by
 unfold tkO9 at h ⊢
 split at h <;> first | exact h | exact intsO_grown9 h h2 hg (by decide)
theorem isO_grown9 {w w' : World} {base b2 k2 m : Nat} {x : IsR} {i : Nat} {u v : Value} {ys : List Value} (h : isO9 w base x i u) (h2 : w.ownsRow b2 72 k2 v m ys) (hg : w.grownBy w' v.ownBlock) : isO9 w' base x i u := by
 unfold isO9 at h ⊢
 split at h <;> first | exact h | exact intsO_grown9 h h2 hg (by decide)
theorem tkO_P9 {w : World} {base : Nat} {x : TkR} {u : Value} : ∀ {i : Nat}, tkO9 w base x i u → tkrP w x i u
 | 0, h => h
 | 1, h => h
 | 2, h => h
 | 3, h => h
 | 4, h => h
 | 5, h => h
 | 6, h => intsO_v9 h
 | _ + 7, h => h
theorem isO_P9 {w : World} {base : Nat} {x : IsR} {u : Value} : ∀ {i : Nat}, isO9 w base x i u → isrP w x i u
 | 0, h => h
 | 1, h => h
 | _ + 2, h => intsO_v9 h
theorem tkP_below9 {w w' : World} {x : Tk} {i : Nat} {u : Value} (h : tkP w x i u) (hb : Below w.heap.size w w') : tkP w' x i u := by
 unfold tkP at h ⊢
 split at h <;> first | exact h | exact IntsV.below h hb
theorem alP_below9 {w w' : World} {x : Al} {i : Nat} {u : Value} (h : alP w x i u) (hb : Below w.heap.size w w') : alP w' x i u := by
 unfold alP at h ⊢
 split at h <;> first | exact h | exact IntsV.below h hb
theorem isP_below9 {w w' : World} {x : Is} {i : Nat} {u : Value} (h : isP w x i u) (hb : Below w.heap.size w w') : isP w' x i u := by
 unfold isP at h ⊢
 split at h <;> first | exact h | exact IntsV.below h hb
end Go.Proofs.YtmidaeljeoifdaaGreatDoor
