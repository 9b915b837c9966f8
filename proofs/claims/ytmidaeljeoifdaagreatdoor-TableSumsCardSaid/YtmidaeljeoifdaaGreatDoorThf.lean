import Derived.Test.YtmidaeljeoifdaaGreatDoorThe
import Derived.Test.YtmidaeljeoifdaaGreatDoorTr3
import Derived.Test.YtmidaeljeoifdaaGreatDoorTr4
import Derived.Test.YtmidaeljeoifdaaGreatDoorTr5
import Derived.Test.YtmidaeljeoifdaaGreatDoorTr6
import Derived.Test.YtmidaeljeoifdaaGreatDoorTr7
namespace Go.Proofs.YtmidaeljeoifdaaGreatDoor
open Go.RowKit Go.Shelf Go.Sort Go.Maps
set_option linter.unusedVariables false
set_option linter.unusedSimpArgs false
theorem own_mono9 {w : World} {B B' E k n : Nat} {u : Value} {xs : List Value} (h : w.ownsRow B' E k u n xs) (hB : B ≤ B') : w.ownsRow B E k u n xs := by
 obtain ⟨hl, h0 | ⟨g, cap, cur, hv, hb1, rr⟩⟩ := h
 ·exact ⟨hl, .inl h0⟩
 ·exact ⟨hl, .inr ⟨g, cap, cur, hv, Nat.le_trans hB hb1, rr⟩⟩
theorem intsO_mono9 {w : World} {B B' : Nat} {l : List Int} {u : Value} (h : IntsO9 w B' l u) (hB : B ≤ B') : IntsO9 w B l u := own_mono9 h hB
theorem tkO_mono9 {w : World} {B B' : Nat} {x : TkR} {u : Value} (hB : B ≤ B') : ∀ {i : Nat}, tkO9 w B' x i u → tkO9 w B x i u
 | 0, h => h
 | 1, h => h
 | 2, h => h
 | 3, h => h
 | 4, h => h
 | 5, h => h
 | 6, h => intsO_mono9 h hB
 | _ + 7, h => h
theorem isO_mono9 {w : World} {B B' : Nat} {x : IsR} {u : Value} (hB : B ≤ B') : ∀ {i : Nat}, isO9 w B' x i u → isO9 w B x i u
 | 0, h => h
 | 1, h => h
 | _ + 2, h => intsO_mono9 h hB
def RO {β : Type} (B E k : Nat) (PO : World → β → Nat → Value → Prop) (W : World) (l : List β) (u : Value) : Prop := ∃ xs, W.ownsRow B E k u l.length xs ∧ RwX k (PO W) l xs
theorem RO.below {β : Type} {B E k : Nat} {PO : World → β → Nat → Value → Prop} {W W' : World} {l : List β} {u : Value} (h : RO B E k PO W l u) (hP : ∀ x i u, PO W x i u → PO W' x i u) (hb : Below W.heap.size W W') : RO B E k PO W' l u := by
 obtain ⟨xs, h1, h2⟩ := h
 exact ⟨xs, own_below h1 hb, h2.mono hP⟩
theorem RO.store {β : Type} {B E k g : Nat} {PO : World → β → Nat → Value → Prop} {W W' : World} {l : List β} {u : Value} {cs : Array Value} {T : TypeId} {fr : Nat × Nat} (h : RO B E k PO W l u) (hP : ∀ x i u, PO W x i u → PO W' x i u) (hg : W.heap[g]? = some (.cells cs T fr)) (hT : E ≠ T) (hb : W.grownBy W' (some g)) : RO B E k PO W' l u := by
 obtain ⟨xs, h1, h2⟩ := h
 refine ⟨xs, h1.kept hb ?_, h2.mono hP⟩
 rcases h1.2 with ⟨h0, _⟩ | ⟨b, cap, cur, hv, _, hh, _⟩
 ·rw [h0]; exact .inl rfl
 ·right
  intro e
  rw [hv] at e
  have e3 : b = g := Option.some.inj e
  rw [e3, hg] at hh
  injection hh with hh
  injection hh with _ e4
  exact hT e4.symm
theorem RO.rows {β : Type} {B E k : Nat} {PO : World → β → Nat → Value → Prop} {P : β → Nat → Value → Prop} {W : World} {l : List β} {a : Option Addr} {c : Nat} (h : RO B E k PO W l (.slice a l.length c)) (hP : ∀ x i u, PO W x i u → P x i u) : RowsAt W k P ⟨a, l.length, c⟩ l := by
 obtain ⟨xs, h1, h2⟩ := h
 exact RwX.rows (s := ⟨a, l.length, c⟩) h1 (h2.mono hP)
abbrev RT (B : Nat) := RO B 56 8 (fun W => tkO9 W B)
abbrev RG (B : Nat) := RO B 52 2 (fun _ => rgrP)
abbrev RR (B : Nat) := RO B 60 2 (fun _ => rsrP)
abbrev RK (B : Nat) := RO B 91 3 (fun _ => ctrP)
abbrev RA (B : Nat) := RO B 95 7 (fun _ => alrP)
abbrev RI (B : Nat) := RO B 72 3 (fun W => isO9 W B)
abbrev RM (B : Nat) := RO B 99 8 (fun _ => msrP)
structure Six (B : Nat) (W : World) (ts : List TkR) (rs : List RsR) (ks : List CtR) (als : List AlR) (is : List IsR) (ms : List MsR) (ut ur uk ua ui um : Value) : Prop where
 t : RT B W ts ut
 r : RR B W rs ur
 k : RK B W ks uk
 a : RA B W als ua
 i : RI B W is ui
 m : RM B W ms um
section
variable {B : Nat} {W W' : World}
theorem RT.below {l : List TkR} {u : Value} (h : RT B W l u) (hb : Below W.heap.size W W') : RT B W' l u := RO.below h (fun _ _ _ h => tkO_below9 h hb) hb
theorem RR.below {l : List RsR} {u : Value} (h : RR B W l u) (hb : Below W.heap.size W W') : RR B W' l u := RO.below h (fun _ _ _ h => h) hb
theorem RK.below {l : List CtR} {u : Value} (h : RK B W l u) (hb : Below W.heap.size W W') : RK B W' l u := RO.below h (fun _ _ _ h => h) hb
theorem RA.below {l : List AlR} {u : Value} (h : RA B W l u) (hb : Below W.heap.size W W') : RA B W' l u := RO.below h (fun _ _ _ h => h) hb
theorem RI.below {l : List IsR} {u : Value} (h : RI B W l u) (hb : Below W.heap.size W W') : RI B W' l u := RO.below h (fun _ _ _ h => isO_below9 h hb) hb
theorem RM.below {l : List MsR} {u : Value} (h : RM B W l u) (hb : Below W.heap.size W W') : RM B W' l u := RO.below h (fun _ _ _ h => h) hb
theorem RG.below {l : List RgR} {u : Value} (h : RG B W l u) (hb : Below W.heap.size W W') : RG B W' l u := RO.below h (fun _ _ _ h => h) hb
variable {ts : List TkR} {rs : List RsR} {ks : List CtR} {als : List AlR} {is : List IsR} {ms : List MsR} {ut ur uk ua ui um : Value}
theorem Six.below (h : Six B W ts rs ks als is ms ut ur uk ua ui um) (hb : Below W.heap.size W W') : Six B W' ts rs ks als is ms ut ur uk ua ui um :=
 ⟨RT.below h.t hb, RR.below h.r hb, RK.below h.k hb, RA.below h.a hb, RI.below h.i hb, RM.below h.m hb⟩
theorem tkO_store9 {base g : Nat} {x : TkR} {u : Value} {cs : Array Value} {fr : Nat × Nat} (hg : W.heap[g]? = some (.cells cs 30 fr)) (hb : W.grownBy W' (some g)) : ∀ {i : Nat}, tkO9 W base x i u → tkO9 W' base x i u
 | 0, h => h
 | 1, h => h
 | 2, h => h
 | 3, h => h
 | 4, h => h
 | 5, h => h
 | 6, h => intsO_store9 h hg (by decide) hb
 | _ + 7, h => h
theorem isO_store9 {base g : Nat} {x : IsR} {u : Value} {cs : Array Value} {fr : Nat × Nat} (hg : W.heap[g]? = some (.cells cs 30 fr)) (hb : W.grownBy W' (some g)) : ∀ {i : Nat}, isO9 W base x i u → isO9 W' base x i u
 | 0, h => h
 | 1, h => h
 | _ + 2, h => intsO_store9 h hg (by decide) hb
theorem Six.store {g : Nat} {cs : Array Value} {fr : Nat × Nat} (h : Six B W ts rs ks als is ms ut ur uk ua ui um) (hg : W.heap[g]? = some (.cells cs 30 fr)) (hb : W.grownBy W' (some g)) : Six B W' ts rs ks als is ms ut ur uk ua ui um :=
 ⟨RO.store h.t (fun _ _ _ h => tkO_store9 hg hb h) hg (by decide) hb, RO.store h.r (fun _ _ _ h => h) hg (by decide) hb, RO.store h.k (fun _ _ _ h => h) hg (by decide) hb, RO.store h.a (fun _ _ _ h => h) hg (by decide) hb, RO.store h.i (fun _ _ _ h => isO_store9 hg hb h) hg (by decide) hb, RO.store h.m (fun _ _ _ h => h) hg (by decide) hb⟩
theorem RG.store {g : Nat} {cs : Array Value} {fr : Nat × Nat} {l : List RgR} {u : Value} (h : RG B W l u) (hg : W.heap[g]? = some (.cells cs 30 fr)) (hb : W.grownBy W' (some g)) : RG B W' l u := RO.store h (fun _ _ _ h => h) hg (by decide) hb
end
end Go.Proofs.YtmidaeljeoifdaaGreatDoor
