import Derived.Test.YtglnfifdjlgbcaaGreatDoorKba
import Derived.WalkKit
import Derived.WalkSpells
import Derived.WalkLawsBesides
import Derived.BigQuiet
import Derived.OwnWalk
import Derived.Deep.LoopGhost
import Derived.Deep.QuietTactic
import Derived.Lib.SliceRun
import Derived.Deep.RegionLaw
import Derived.Deep.RegionHeldLaw
import Derived.Laws.CopyOwn
import Derived.Defers
import Derived.Recover
import Derived.Tactics2
import Derived.Laws.Pointers
import Derived.Lib.QuietBelow
import Derived.Shelf.Abstract
namespace Go.Proofs.YtglnfifdjlgbcaaGreatDoor.St
open Go.RowKit
set_option linter.unusedVariables false
set_option linter.unusedSimpArgs false

/-! ### Memory -/
theorem ret_int {k : IntKind} {a b : Int} (h : a = b) : Ending.returned (.int k a) = .returned (.int k b) := by rw [h]
theorem ret_bool {a b : Bool} (h : a = b) : Ending.returned (.bool a) = .returned (.bool b) := by rw [h]
theorem heap_lt {w : World} {b : Nat} {o : Obj} (h : w.heap[b]? = some o) : b < w.heap.size := by
  rcases Nat.lt_or_ge b w.heap.size with h' | h'
  · exact h'
  · rw [Array.getElem?_eq_none h'] at h; cases h
theorem addr_add (g off j : Nat) : (⟨g, off, none⟩ : Addr).add j = ⟨g, off + j, none⟩ := by unfold Addr.add; split <;> simp_all
theorem grown_refl (w : World) (r : Option Nat) : w.grownBy w r := ⟨rfl, rfl, rfl, Nat.le_refl _, fun _ _ _ => rfl⟩
theorem grown_of_below {a b : World} {r : Option Nat} (h : Below a.heap.size a b) : a.grownBy b r := ⟨h.os, h.tape, h.output, h.size, fun i hi _ => h.block i hi⟩
theorem grown_set (w : World) (r k : Nat) (v : Value) : w.grownBy (w.setCell ⟨r, k, none⟩ v) (some r) :=
  ⟨rfl, rfl, rfl, by simp, fun j _ hj => heap_setCell_other w ⟨r, k, none⟩ j _ (fun e => hj (by simp [e]))⟩
theorem below_alloc (w : World) (o : Obj) : Below w.heap.size w (w.alloc o) := (Below.refl _ _).alloc (Nat.le_refl _) _
theorem heap_over (w : World) (o : Obj) {g : Nat} {x : Obj} (h : w.heap[g]? = some x) : (w.alloc o).heap[g]? = some x := by rw [heap_alloc_old w o (heap_lt h)]; exact h
theorem below_drewN {B : Nat} {a w : World} (n : Nat) (h : Below B a w) : Below B a (w.drewN n) := by
  induction n with
  | zero => exact h
  | succ n ih => exact ih.drew
theorem drewN_add (w : World) (a b : Nat) : (w.drewN a).drewN b = w.drewN (a + b) := by
  induction b with
  | zero => rfl
  | succ b ih => show ((w.drewN a).drewN b).drew = _; rw [ih]; rfl
theorem own_below {w w' : World} {base e size n : Nat} {v : Value} {xs : List Value} (h : w.ownsRow base e size v n xs) (hb : Below w.heap.size w w') : w'.ownsRow base e size v n xs := by
  obtain ⟨hl, h0 | ⟨g, cap, cur, hv, hb1, hh, rr⟩⟩ := h
  · exact ⟨hl, .inl h0⟩
  · exact ⟨hl, .inr ⟨g, cap, cur, hv, hb1, (hb.block g (heap_lt hh)).trans hh, rr⟩⟩

theorem cell_set_ne {w : World} {b g i k : Nat} {v : Value} (h : b ≠ g) : (w.setCell ⟨g, k, none⟩ v).cell? ⟨b, i, none⟩ = w.cell? ⟨b, i, none⟩ := World.cell?_of_block (heap_setCell_other w ⟨g, k, none⟩ b v h)
/-- Nothing but the blocks bs (and what is new) may have changed. -/
structure Fx (bs : List Nat) (w w' : World) : Prop where
  os : w'.os = w.os
  tape : w'.tape = w.tape
  output : w'.output = w.output
  size : w.heap.size ≤ w'.heap.size
  block : ∀ b, b < w.heap.size → b ∉ bs → w'.heap[b]? = w.heap[b]?
theorem Fx.refl (bs : List Nat) (w : World) : Fx bs w w := ⟨rfl, rfl, rfl, Nat.le_refl _, fun _ _ _ => rfl⟩
theorem Fx.trans {bs : List Nat} {a b c : World} (h : Fx bs a b) (k : Fx bs b c) : Fx bs a c :=
  ⟨k.os.trans h.os, k.tape.trans h.tape, k.output.trans h.output, Nat.le_trans h.size k.size, fun i hi hn => (k.block i (Nat.lt_of_lt_of_le hi h.size) hn).trans (h.block i hi hn)⟩
/-- What the second step turns is in bs or was made since. -/
theorem Fx.step {bs cs : List Nat} {a b c : World} (h : Fx bs a b) (k : Fx cs b c) (hc : ∀ x ∈ cs, x ∈ bs ∨ a.heap.size ≤ x) : Fx bs a c :=
  ⟨k.os.trans h.os, k.tape.trans h.tape, k.output.trans h.output, Nat.le_trans h.size k.size, fun i hi hn => (k.block i (Nat.lt_of_lt_of_le hi h.size) (fun e => (hc i e).elim hn (fun e2 => by omega))).trans (h.block i hi hn)⟩
theorem Fx.mono {bs cs : List Nat} {a b : World} (h : Fx bs a b) (hs : ∀ x ∈ bs, x ∈ cs) : Fx cs a b := ⟨h.os, h.tape, h.output, h.size, fun i hi hn => h.block i hi (fun e => hn (hs i e))⟩
theorem Fx.of_below {bs : List Nat} {a b : World} (h : Below a.heap.size a b) : Fx bs a b := ⟨h.os, h.tape, h.output, h.size, fun i hi _ => h.block i hi⟩
theorem Fx.below {bs : List Nat} {B : Nat} {a b : World} (h : Fx bs a b) (hB : B ≤ a.heap.size) (hs : ∀ x ∈ bs, B ≤ x) : Below B a b :=
  ⟨h.os, h.tape, h.output, h.size, fun i hi => h.block i (by omega) (fun e => by have := hs i e; omega)⟩
theorem Fx.set {bs : List Nat} {a w : World} (h : Fx bs a w) {b : Nat} (hb : b ∈ bs ∨ a.heap.size ≤ b) (k : Nat) (v : Value) : Fx bs a (w.setCell ⟨b, k, none⟩ v) :=
  h.step (cs := [b]) ⟨rfl, rfl, rfl, by simp, fun i _ hn => heap_setCell_other w ⟨b, k, none⟩ i _ (by simpa using hn)⟩ (by simpa using hb)
theorem Fx.alloc {bs : List Nat} {a w : World} (h : Fx bs a w) (o : Obj) : Fx bs a (w.alloc o) := h.trans (Fx.of_below (below_alloc w o))
theorem Fx.drewN {bs : List Nat} {a w : World} (h : Fx bs a w) (n : Nat) : Fx bs a (w.drewN n) := h.trans (Fx.of_below (below_drewN n (Below.refl _ _)))
theorem Fx.grown {bs : List Nat} {a w w' : World} {r : Option Nat} (h : Fx bs a w) (hg : w.grownBy w' r) (hr : ∀ g, r = some g → g ∈ bs ∨ a.heap.size ≤ g) : Fx bs a w' :=
  ⟨hg.os.trans h.os, hg.tape.trans h.tape, hg.output.trans h.output, Nat.le_trans h.size hg.size, fun i hi hn => (hg.block i (Nat.lt_of_lt_of_le hi h.size) (fun e => (hr i e.symm).elim hn (fun e2 => by omega))).trans (h.block i hi hn)⟩
theorem Fx.heap {bs : List Nat} {a b : World} (h : Fx bs a b) {g : Nat} {o : Obj} (hg : a.heap[g]? = some o) (hn : g ∉ bs) : b.heap[g]? = some o := (h.block g (heap_lt hg) hn).trans hg
theorem Fx.cell {bs : List Nat} {a b : World} (h : Fx bs a b) {g i : Nat} {v : Value} (hg : a.cell? ⟨g, i, none⟩ = some v) (hn : g ∉ bs) : b.cell? ⟨g, i, none⟩ = some v :=
  (World.cell?_of_block (h.block g (World.block_lt_of_cell? a _ hg) hn)).trans hg
theorem Fx.own {bs : List Nat} {a b : World} (h : Fx bs a b) {base e size n : Nat} {v : Value} {xs : List Value} (ho : a.ownsRow base e size v n xs) (hn : ∀ g, v.ownBlock = some g → g ∉ bs) : b.ownsRow base e size v n xs := by
  obtain ⟨hl, h0 | ⟨g, cap, cur, hv, hb1, hh, rr⟩⟩ := ho
  · exact ⟨hl, .inl h0⟩
  · exact ⟨hl, .inr ⟨g, cap, cur, hv, hb1, h.heap hh (hn g (by rw [hv]; rfl)), rr⟩⟩

/-- Nothing but the blocks of M (and what is new) may have changed. -/
structure Fz (M : Nat → Prop) (w w' : World) : Prop where
  os : w'.os = w.os
  tape : w'.tape = w.tape
  output : w'.output = w.output
  size : w.heap.size ≤ w'.heap.size
  block : ∀ b, b < w.heap.size → ¬ M b → w'.heap[b]? = w.heap[b]?
theorem Fz.refl (M : Nat → Prop) (w : World) : Fz M w w := ⟨rfl, rfl, rfl, Nat.le_refl _, fun _ _ _ => rfl⟩
theorem Fz.step {M N : Nat → Prop} {a b c : World} (h : Fz M a b) (k : Fz N b c) (hc : ∀ x, N x → M x ∨ a.heap.size ≤ x) : Fz M a c :=
  ⟨k.os.trans h.os, k.tape.trans h.tape, k.output.trans h.output, Nat.le_trans h.size k.size, fun i hi hn => (k.block i (Nat.lt_of_lt_of_le hi h.size) (fun e => (hc i e).elim hn (fun e2 => by omega))).trans (h.block i hi hn)⟩
theorem Fz.trans {M : Nat → Prop} {a b c : World} (h : Fz M a b) (k : Fz M b c) : Fz M a c := h.step k (fun _ e => .inl e)
theorem Fz.mono {M N : Nat → Prop} {a b : World} (h : Fz M a b) (hs : ∀ x, M x → N x) : Fz N a b := ⟨h.os, h.tape, h.output, h.size, fun i hi hn => h.block i hi (fun e => hn (hs i e))⟩
theorem Fz.of_fx {M : Nat → Prop} {bs : List Nat} {a b : World} (h : Fx bs a b) (hs : ∀ x ∈ bs, M x) : Fz M a b := ⟨h.os, h.tape, h.output, h.size, fun i hi hn => h.block i hi (fun e => hn (hs i e))⟩
theorem Fz.of_below {M : Nat → Prop} {a b : World} (h : Below a.heap.size a b) : Fz M a b := ⟨h.os, h.tape, h.output, h.size, fun i hi _ => h.block i hi⟩
theorem Fz.below {M : Nat → Prop} {B : Nat} {a b : World} (h : Fz M a b) (hB : B ≤ a.heap.size) (hs : ∀ x, M x → B ≤ x) : Below B a b :=
  ⟨h.os, h.tape, h.output, h.size, fun i hi => h.block i (by omega) (fun e => by have := hs i e; omega)⟩
theorem Fz.heap {M : Nat → Prop} {a b : World} (h : Fz M a b) {g : Nat} {o : Obj} (hg : a.heap[g]? = some o) (hn : ¬ M g) : b.heap[g]? = some o := (h.block g (heap_lt hg) hn).trans hg
theorem Fz.cell {M : Nat → Prop} {a b : World} (h : Fz M a b) {g i : Nat} {v : Value} (hg : a.cell? ⟨g, i, none⟩ = some v) (hn : ¬ M g) : b.cell? ⟨g, i, none⟩ = some v :=
  (World.cell?_of_block (h.block g (World.block_lt_of_cell? a _ hg) hn)).trans hg
theorem Fz.set {M : Nat → Prop} {a w : World} (h : Fz M a w) {b : Nat} (hb : M b ∨ a.heap.size ≤ b) (k : Nat) (v : Value) : Fz M a (w.setCell ⟨b, k, none⟩ v) :=
  h.step (N := fun x => x = b) ⟨rfl, rfl, rfl, by simp, fun i _ hn => heap_setCell_other w ⟨b, k, none⟩ i _ hn⟩ (by rintro x rfl; exact hb)
theorem Fz.alloc {M : Nat → Prop} {a w : World} (h : Fz M a w) (o : Obj) : Fz M a (w.alloc o) := h.trans (Fz.of_below (below_alloc w o))
theorem Fz.drewN {M : Nat → Prop} {a w : World} (h : Fz M a w) (n : Nat) : Fz M a (w.drewN n) := h.trans (Fz.of_below (below_drewN n (Below.refl _ _)))
theorem Fz.own {M : Nat → Prop} {a b : World} (h : Fz M a b) {base e size n : Nat} {v : Value} {xs : List Value} (ho : a.ownsRow base e size v n xs) (hn : ∀ g, v.ownBlock = some g → ¬ M g) : b.ownsRow base e size v n xs := by
  obtain ⟨hl, h0 | ⟨g, cap, cur, hv, hb1, hh, rr⟩⟩ := ho
  · exact ⟨hl, .inl h0⟩
  · exact ⟨hl, .inr ⟨g, cap, cur, hv, hb1, h.heap hh (hn g (by rw [hv]; rfl)), rr⟩⟩

/-- 'clear(s)' as one step of a region that draws its order. -/
theorem step_clear {P : Program} {ops : Array Oper} {o : Oper} {a : Act} {w : World} {K : Act → World → Prop} {Q : Exit → Act → World → Prop} {E : Prop}
    (hg : o.guard = none) (s : Operand) (t : TypeId) (hop : o.op = Op.call { callee := Callee.builtin Builtin.clear, args := #[s], argTypes := #[t] })
    (v : Value) (hs : a.eval s = v) (w' : World) (hrun : ∀ ty, (Builtin.clear_ #[t] ty #[v]).run P w = .ok (.tuple #[]) w') (hK : K (a.put o.dst (.tuple #[])) w') :
    if Region.wanted o (yielded ops a.tmps) = true then Oper.wp P o a w K Q else E := by
  have hw : Region.wanted o (yielded ops a.tmps) = true := by simp [Region.wanted, hg]
  rw [if_pos hw]
  have hr := hrun o.type
  unfold Oper.wp
  simp [execOp, hop, resolve, invoke, builtin, hs, hr, Result.andThen]
  exact hK
/-- A stack: its block B (of type T), its room g (of elements E, one cell each), its things l, the lowest first. -/
structure Sk (w : World) (T E : TypeId) (B g n hi : Nat) (R l : List Value) : Prop where
  o : w.heap[B]? = some (.cells #[.bool true, .slice (some ⟨g, 0, none⟩) n n, I l.length, I hi] T)
  q : w.heap[g]? = some (.cells R.toArray E)
  k : R.length = n
  m : n ≤ 1024
  r : R.take l.length = l
  y : l.length ≤ hi ∧ hi ≤ n
  ne : B ≠ g
  u : ∀ x ∈ R, x.oneCell' = true
section
variable {w : World} {T E : TypeId} {B g n hi : Nat} {R l : List Value}
theorem Sk.cells (h : Sk w T E B g n hi R l) : w.cell? ⟨B, 0, none⟩ = some (.bool true) ∧ w.cell? ⟨B, 1, none⟩ = some (.slice (some ⟨g, 0, none⟩) n n) ∧ w.cell? ⟨B, 2, none⟩ = some (I l.length) ∧ w.cell? ⟨B, 3, none⟩ = some (I hi) := by
  refine ⟨?_, ?_, ?_, ?_⟩ <;> (rw [cell_of_row w B _ _ _ (0, 0) h.o]; rfl)
theorem Sk.frz (h : Sk w T E B g n hi R l) (j : Nat) : w.frozen? ⟨B, j, none⟩ = false := frozen_of_row w B j _ _ h.o
theorem Sk.frzg (h : Sk w T E B g n hi R l) (j : Nat) : w.frozen? ⟨g, j, none⟩ = false := frozen_of_row w g j _ _ h.q
theorem Sk.atR (h : Sk w T E B g n hi R l) {j : Nat} {v : Value} (hj : R[j]? = some v) : w.cell? ⟨g, j, none⟩ = some v := by
  rw [cell_of_row w g j _ _ (0, 0) h.q]
  simpa using hj
theorem Sk.at (h : Sk w T E B g n hi R l) {j : Nat} {v : Value} (hj : l[j]? = some v) : w.cell? ⟨g, j, none⟩ = some v := by
  refine h.atR ?_
  have hl := (List.getElem?_eq_some_iff.1 hj).1
  rw [← h.r, List.getElem?_take_of_lt hl] at hj
  exact hj
theorem Sk.keptZ (h : Sk w T E B g n hi R l) {M : Nat → Prop} {w' : World} (hf : Fz M w w') (h1 : ¬ M B) (h2 : ¬ M g) : Sk w' T E B g n hi R l :=
  ⟨hf.heap h.o h1, hf.heap h.q h2, h.k, h.m, h.r, h.y, h.ne, h.u⟩
theorem Sk.kept (h : Sk w T E B g n hi R l) {bs : List Nat} {w' : World} (hf : Fx bs w w') (h1 : B ∉ bs) (h2 : g ∉ bs) : Sk w' T E B g n hi R l :=
  ⟨hf.heap h.o h1, hf.heap h.q h2, h.k, h.m, h.r, h.y, h.ne, h.u⟩
theorem Sk.below (h : Sk w T E B g n hi R l) {w' : World} (hf : Below w.heap.size w w') : Sk w' T E B g n hi R l := h.kept (bs := []) (Fx.of_below hf) (by simp) (by simp)
theorem Sk.drewN (h : Sk w T E B g n hi R l) (q : Nat) : Sk (w.drewN q) T E B g n hi R l := h.below (below_drewN q (Below.refl _ _))
theorem Sk.lts (h : Sk w T E B g n hi R l) : B < w.heap.size ∧ g < w.heap.size := ⟨heap_lt h.o, heap_lt h.q⟩
theorem Sk.lle (h : Sk w T E B g n hi R l) : l.length ≤ n := Nat.le_trans h.y.1 h.y.2
end
theorem take_set_push {α : Type} {R l : List α} (h : R.take l.length = l) (hc : l.length < R.length) (v : α) : (R.set l.length v).take (l ++ [v]).length = l ++ [v] := by
  rw [List.length_append, List.length_singleton, List.take_add_one, List.take_set_of_le (Nat.le_refl _), h, List.getElem?_set_self hc]
  rfl
/-- Where the first thing is of which p says so. -/
def fndO {α : Type} (p : α → Bool) (l : List α) : Nat × Bool := match l.findIdx? p with
  | some i => (i, true)
  | none => (0, false)
theorem fndO_some {α : Type} {p : α → Bool} {l : List α} {k : Nat} {y : α} (hk : l[k]? = some y) (hp : p y = true) (h : ∀ (j : Nat) (z : α), j < k → l[j]? = some z → p z = false) : fndO p l = (k, true) := by
  unfold fndO
  have : l.findIdx? p = some k := by
    rw [List.findIdx?_eq_some_iff_getElem]
    obtain ⟨h1, h2⟩ := List.getElem?_eq_some_iff.1 hk
    refine ⟨h1, by rw [h2]; exact hp, fun j hj => ?_⟩
    rw [h j _ hj (List.getElem?_eq_getElem (by omega))]
    simp
  rw [this]
theorem fndO_none {α : Type} {p : α → Bool} {l : List α} (h : ∀ (j : Nat) (z : α), l[j]? = some z → p z = false) : fndO p l = (0, false) := by
  unfold fndO
  have : l.findIdx? p = none := by
    rw [List.findIdx?_eq_none_iff]
    intro z hz
    obtain ⟨j, hj⟩ := List.getElem?_of_mem hz
    exact h j z hj
  rw [this]
/-- as bodyPostD, but that no way leads to a panic -/
def postD (P : Program) (fn : Func) (R : Ending → World → Prop) : Exit → Act → World → Prop
  | .panic _, _, _ => False
  | .outgrown, _, _ => False
  | .normal, a, w => bodyPostD P fn R .normal a w
  | .ret, a, w => bodyPostD P fn R .ret a w
  | .exit _, _, _ => False
  | .goto _, _, _ => False
theorem post_d {P : Program} {fn : Func} {R : Ending → World → Prop} : ∀ (e : Exit) (a : Act) (w : World), postD P fn R e a w → bodyPostD P fn R e a w
  | .panic _, _, _, h => h.elim
  | .outgrown, _, _, h => h.elim
  | .normal, _, _, h => h
  | .ret, _, _, h => h
  | .exit _, _, _, h => h.elim
  | .goto _, _, _, h => h.elim
end Go.Proofs.YtglnfifdjlgbcaaGreatDoor.St

namespace Go.Proofs.YtglnfifdjlgbcaaGreatDoor.St
open Go.RowKit
set_option linter.unusedVariables false
set_option linter.unusedSimpArgs false

/-! ### Stacks of int: none, Len, Depth, High, New, Push -/
abbrev iSk (w : World) (B g n hi : Nat) (R l : List Value) : Prop := Sk w 195 3 B g n hi R l
abbrev iP (B : Nat) : Value := .pointer (some ⟨B, 0, none⟩)
section
variable {w : World} {B g n hi : Nat} {R l : List Value}
theorem inone_any (h : iSk w B g n hi R l) : Calls Tryz.prog 130 #[iP B] w fun e w' => e = .returned (.bool false) ∧ w = w' := by
  obtain ⟨c0, -, -, -⟩ := h.cells
  go_enter Tryz.func130, Tryz.ntmps130
  go_wp2
  go_ret
  exact ⟨rfl, rfl⟩
theorem inone_nil (w : World) : Calls Tryz.prog 130 #[.pointer none] w fun e w' => e = .returned (.bool true) ∧ w = w' := by
  go_enter Tryz.func130, Tryz.ntmps130
  go_wp2
  go_ret
  exact ⟨rfl, rfl⟩
theorem inone_zero (w : World) (B : Nat) (c0 : w.cell? ⟨B, 0, none⟩ = some (.bool false)) : Calls Tryz.prog 130 #[iP B] w fun e w' => e = .returned (.bool true) ∧ w = w' := by
  go_enter Tryz.func130, Tryz.ntmps130
  go_wp2
  go_ret
  exact ⟨rfl, rfl⟩
theorem iLen_any (h : iSk w B g n hi R l) : Calls Tryz.prog 49 #[iP B] w fun e w' => e = .returned (I l.length) ∧ w = w' := by
  obtain ⟨-, c1, c3, -⟩ := h.cells
  go_enter Tryz.func49, Tryz.ntmps49
  go_wp2_with (go_at_call 130; refine (inone_any h).mono ?_; rintro e w1 ⟨rfl, rfl⟩)
  go_ret
  exact ⟨rfl, rfl⟩
end
/-- The deferred closure: how high it became. -/
theorem ipush1_any (w : World) (b B c hi : Nat) (sl : Value) (hc : c ≤ 65536) (hh : hi ≤ 65536) (cb : w.cell? ⟨b, 0, none⟩ = some (iP B)) (h : w.heap[B]? = some (.cells #[.bool true, sl, I c, I hi] 195)) (u : FrameMode) :
    CallsD Tryz.prog 267 #[.pointer (some ⟨b, 0, none⟩)] u w fun e u' w' => u' = u ∧ (e = .returned (.tuple #[]) ∧ w'.heap[B]? = some (.cells #[.bool true, sl, I c, I (max hi c : Nat)] 195) ∧ Fx [B] w w') := by
  have c3 : w.cell? ⟨B, 2, none⟩ = some (I c) := by rw [cell_of_row w B _ _ _ (0, 0) h]; rfl
  have c4 : w.cell? ⟨B, 3, none⟩ = some (I hi) := by rw [cell_of_row w B _ _ _ (0, 0) h]; rfl
  have fz : ∀ j, w.frozen? ⟨B, j, none⟩ = false := fun j => frozen_of_row w B j _ _ h
  have h9 : ∀ x : Int, (w.setCell ⟨B, 3, none⟩ (I x)).heap[B]? = some (.cells #[.bool true, sl, I c, I x] 195) := fun x => heap_setCell_same _ B 3 _ _ (I x) h
  have F9 : ∀ x : Int, Fx [B] w (w.setCell ⟨B, 3, none⟩ (I x)) := fun x => (Fx.refl _ _).set (.inl (by simp)) _ _
  by_cases hx : hi < c
  · have hM : Hid (((max hi c : Nat) : Int) = (c : Int)) := by show _ = _; omega
    have h1 : ¬ ((c : Int) ≤ hi) := by omega
    have h2 : (hi : Int) < (c : Int) := by omega
    go_enter_d Tryz.func267, Tryz.ntmps267
    go_wp2
    go_region
    all_goals
      go_wp2
      refine bodyPost_end (v := .tuple #[]) (by simp [results, Tryz.results267, go_sem]) rfl ?_
      rw [hM.out]
      exact ⟨rfl, h9 _, (F9 _).drewN 1⟩
  · have hM : Hid (((max hi c : Nat) : Int) = hi) := by show _ = _; omega
    have h1 : ((c : Int) ≤ hi) := by omega
    have h2 : ¬ (hi : Int) < (c : Int) := by omega
    go_enter_d Tryz.func267, Tryz.ntmps267
    go_wp2
    go_region
    all_goals
      go_wp2
      refine bodyPost_end (v := .tuple #[]) (by simp [results, Tryz.results267, go_sem]) rfl ?_
      rw [hM.out]
      exact ⟨rfl, h9 _, (F9 _).drewN 1⟩
end Go.Proofs.YtglnfifdjlgbcaaGreatDoor.St

namespace Go.Proofs.YtglnfifdjlgbcaaGreatDoor.St
open Go.RowKit
set_option linter.unusedVariables false
set_option linter.unusedSimpArgs false

/-! ### Stacks of int: New, Push -/
theorem iinfo : (Tryz.prog.info? 3).map (fun i => (i.zero, i.size, i.bytes)) = some (some (Value.int .i64 0), 1, 8) := by kernel_rfl
theorem imade (n : Nat) : madeCells #[(Value.int .i64 0)] (n * 1) = (List.replicate n (Value.int .i64 0)).toArray := by
  rw [Nat.mul_one, ← toList_madeCells_one]
theorem iNew_ok (w : World) (n : Nat) (hn : n ≤ 1024) : Calls Tryz.prog 33 #[I n] w fun e w' => e = .returned (.tuple #[iP (w.heap.size + 1), I 0]) ∧ iSk w' (w.heap.size + 1) w.heap.size n 0 (List.replicate n (Value.int .i64 0)) [] ∧ Below w.heap.size w w' := by
  obtain ⟨i0, hi, hz0, hz1, hz2⟩ := info_parts iinfo
  have hmk := run_make (P := Tryz.prog) w 31 3 i0 (Value.int .i64 0) Tryz.underlying31 hi hz0 .i64 .i64 (n : Int) (n : Int) (by omega) (Int.le_refl _) (by rw [hz2]; omega) (by omega)
  rw [hz1, Int.toNat_natCast, show (Value.cells (Value.int .i64 0)) = #[(Value.int .i64 0)] from rfl, imade] at hmk
  have h1 : ¬ (n : Int) < 0 := by omega
  have h2 : ¬ (1024 : Int) < n := by omega
  clear hi hz0 hz1 hz2
  go_enter Tryz.func33, Tryz.ntmps33
  go_wp2
  go_ret2
  have hg := heap_alloc_new w (.cells (List.replicate n (Value.int .i64 0)).toArray 3)
  refine ⟨rfl, ⟨?_, heap_over _ _ hg, by simp, hn, by simp, by simp, by omega, fun x hx => by rw [List.eq_of_mem_replicate hx]; rfl⟩, (below_alloc w _).alloc (by simp) _⟩
  have hb := heap_alloc_new (w.alloc (.cells (List.replicate n (Value.int .i64 0)).toArray 3)) (.cells #[.bool true, .slice (some ⟨w.heap.size, 0, none⟩) n n, I 0, I 0] 195)
  rw [World.size_alloc] at hb
  exact hb
theorem iNew_no (w : World) (n : Int) (hn : n < 0 ∨ 1024 < n) : Calls Tryz.prog 33 #[I n] w fun e w' => e = .returned (.tuple #[.pointer none, I 140]) ∧ w = w' := by
  rcases hn with hn | hn
  · go_enter Tryz.func33, Tryz.ntmps33
    go_wp2
    go_ret2
    exact ⟨rfl, rfl⟩
  · have h1 : ¬ n < 0 := by omega
    go_enter Tryz.func33, Tryz.ntmps33
    go_wp2
    go_ret2
    exact ⟨rfl, rfl⟩
section
variable {w : World} {B g n hi : Nat} {R l : List Value}
theorem iPush_full (h : iSk w B g n hi R l) (hc : l.length = n) (x : Int) : Calls Tryz.prog 226 #[iP B, (Value.int .i64 x)] w fun e w' => e = .returned (I 141) ∧ Below w.heap.size w w' := by
  have hb := below_alloc w (.cells #[iP B] 83)
  have h1 := h.below hb
  have hN := inone_any h1
  obtain ⟨-, c1, c2, -⟩ := h1.cells
  rw [hc] at c2
  have cb : (w.alloc (.cells #[iP B] 83)).cell? ⟨w.heap.size, 0, none⟩ = some (iP B) := by rw [cell_of_row _ _ _ _ _ (0, 0) (heap_alloc_new w _)]; rfl
  clear hc h h1
  go_enter_defers Tryz.func226, Tryz.ntmps226
  go_wp2_with (first | (go_at_call 130; refine hN.mono ?_; clear hN; rintro e w1 ⟨rfl, rfl⟩))
  go_quiet (fail)
  go_wp2
  exact ⟨_, results_tmp rfl _ _ _, rfl, below_drewN _ hb⟩
set_option maxHeartbeats 2000000 in
theorem iPush_ok (h : iSk w B g n hi R l) (hc : l.length < n) (x : Int) : Calls Tryz.prog 226 #[iP B, (Value.int .i64 x)] w fun e w' => e = .returned (I 0) ∧ iSk w' B g n (max hi (l.length + 1)) (R.set l.length (Value.int .i64 x)) (l ++ [(Value.int .i64 x)]) ∧ Fx [B, g] w w' := by
  have hmf : ∀ (fn : Fn) (first cap : Array Value) (w : World), (Instr.makeFunc fn first cap).run Tryz.prog w = .ok (.func fn first cap) w := fun _ _ _ _ => rfl
  have hb := below_alloc w (.cells #[iP B] 83)
  have h1 := h.below hb
  have hN := inone_any h1
  obtain ⟨-, c1, c2, -⟩ := h1.cells
  have cb : (w.alloc (.cells #[iP B] 83)).cell? ⟨w.heap.size, 0, none⟩ = some (iP B) := by rw [cell_of_row _ _ _ _ _ (0, 0) (heap_alloc_new w _)]; rfl
  have hne : ¬ ((l.length : Int) = n) := by omega
  have hlt := h.lts
  have hm := h.m
  clear h
  go_enter_defers Tryz.func226, Tryz.ntmps226
  refine wp_mono (Q := postD _ _ _) ?_ post_d
  go_wp2_with (first | (go_at_call 130; refine hN.mono ?_; clear hN; rintro e w1 ⟨rfl, rfl⟩))
  go_quiet (fail)
  have h2 := h1.drewN nq
  have b2 := below_drewN nq hb
  have cb2 : ((w.alloc (.cells #[iP B] 83)).drewN nq).cell? ⟨w.heap.size, 0, none⟩ = some (iP B) := ((below_drewN nq (Below.refl (w.alloc (.cells #[iP B] 83)).heap.size _)).cell (p := ⟨w.heap.size, 0, none⟩) (by simp)).trans cb
  clear c1 c2 cb h1 hb
  generalize (w.alloc (.cells #[iP B] 83)).drewN nq = W at *
  obtain ⟨-, c1, c2, -⟩ := h2.cells
  obtain ⟨old, hold⟩ : ∃ old, R[l.length]? = some old := ⟨_, List.getElem?_eq_getElem (by rw [h2.k]; exact hc)⟩
  have co := h2.atR hold
  have zo := h2.frzg l.length
  have hNE := h2.ne
  have hNb : w.heap.size ≠ g := by omega
  have hi0 : ¬ (l.length : Int) < 0 := by omega
  have hi1 : (l.length : Int) < n := by omega
  have HB3 : Hid ((W.setCell ⟨g, l.length, none⟩ (Value.int .i64 x)).drew.heap[B]? = some (.cells #[.bool true, .slice (some ⟨g, 0, none⟩) n n, I l.length, I hi] 195)) := (heap_setCell_other W ⟨g, l.length, none⟩ B _ hNE).trans h2.o
  have k1 : (W.setCell ⟨g, l.length, none⟩ (Value.int .i64 x)).cell? ⟨w.heap.size, 0, none⟩ = some (iP B) := (cell_set_ne hNb).trans cb2
  have k2 : (W.setCell ⟨g, l.length, none⟩ (Value.int .i64 x)).cell? ⟨B, 1, none⟩ = some (.slice (some ⟨g, 0, none⟩) n n) := (cell_set_ne hNE).trans c1
  have k3 : (W.setCell ⟨g, l.length, none⟩ (Value.int .i64 x)).cell? ⟨B, 2, none⟩ = some (I l.length) := (cell_set_ne hNE).trans c2
  have z3 : (W.setCell ⟨g, l.length, none⟩ (Value.int .i64 x)).drew.frozen? ⟨B, 2, none⟩ = false := frozen_of_row _ B 2 _ _ HB3.out
  have HH2 : Hid (iSk W B g n hi R l) := h2
  have HC : Hid (l.length < n) := hc
  clear hold h2 hc
  go_wp2
  go_region_held_law (fun w' => w'.cell? ⟨w.heap.size, 0, none⟩ = some (iP B) ∧ w'.cell? ⟨B, 1, none⟩ = some (.slice (some ⟨g, 0, none⟩) n n) ∧ w'.cell? ⟨B, 2, none⟩ = some (I l.length))
    (first | exact ⟨cb2, c1, c2⟩ | exact ⟨k1, k2, k3⟩ | (go_keep; done))
    (fail)
  go_wp2
  have hB4 := heap_setCell_same (W.setCell ⟨g, l.length, none⟩ (Value.int .i64 x)).drew B 2 _ _ (I ((l.length : Int) + 1)) HB3.out
  have e1 : (I ((l.length : Int) + 1)) = I ((l.length + 1 : Nat) : Int) := by simp
  have h2 := HH2.out
  have hc := HC.out
  have hy := h2.y
  refine leaves_cons (f := 267) (args := #[.pointer (some ⟨w.heap.size, 0, none⟩)]) (by simp) (by simp [go_sem]) ?_
  refine (ipush1_any _ w.heap.size B (l.length + 1) hi (.slice (some ⟨g, 0, none⟩) n n) (by omega) (by omega) ?_ ?_ .returning).mono ?_
  · have hnB : w.heap.size ≠ B := by omega
    exact (cell_set_ne (w := (W.setCell ⟨g, l.length, none⟩ (Value.int .i64 x)).drew) hnB).trans k1
  · rw [← e1]; exact hB4
  rintro e u' w'' ⟨rfl, rfl, h5, F5⟩
  have hG4 : (((W.setCell ⟨g, l.length, none⟩ (Value.int .i64 x)).setCell ⟨B, 2, none⟩ (I ((l.length : Int) + 1))).drew).heap[g]? = some (.cells (R.set l.length (Value.int .i64 x)).toArray 3) := by
    have e9 := heap_setCell_same W g l.length _ _ (Value.int .i64 x) h2.q
    have e8 := (heap_setCell_other (W.setCell ⟨g, l.length, none⟩ (Value.int .i64 x)) ⟨B, 2, none⟩ g (I ((l.length : Int) + 1)) (fun e => hNE e.symm)).trans e9
    refine Eq.trans ?_ (e8.trans ?_)
    · rfl
    · simp
  have ee : (l ++ [(Value.int .i64 x)]).length = l.length + 1 := by simp
  refine ⟨_, results_tmp rfl _ _ _, rfl, ⟨?_, F5.heap hG4 (by simpa using fun e => hNE e.symm), by simpa using h2.k, hm, take_set_push h2.r (by rw [h2.k]; exact hc) _, ?_, hNE, fun y hx => ?_⟩, ?_⟩
  · rw [ee]; exact h5
  · rw [ee]; omega
  · rcases List.mem_or_eq_of_mem_set hx with e | rfl
    · exact h2.u y e
    · rfl
  · have f1 : Fx [B, g] w (W.setCell ⟨g, l.length, none⟩ (Value.int .i64 x)) := (Fx.of_below b2).set (b := g) (.inl (by simp)) _ _
    have f2 := (f1.set (b := B) (.inl (by simp)) 2 (I ((l.length : Int) + 1))).drewN 1
    exact f2.trans (F5.mono (by simp))
end
end Go.Proofs.YtglnfifdjlgbcaaGreatDoor.St

namespace Go.Proofs.YtglnfifdjlgbcaaGreatDoor.St
open Go.RowKit
set_option linter.unusedVariables false
set_option linter.unusedSimpArgs false

/-! ### Stacks of int: keep, Pop, Top -/
theorem ielem_sz (w : World) : (sizeOf (Tryz.prog.elem 31)).run Tryz.prog w = .ok 1 w := by
  obtain ⟨i0, hi, hz0, hz1, hz2⟩ := info_parts iinfo
  have : Tryz.prog.elem 31 = 3 := by kernel_rfl
  rw [this]
  simp [sizeOf, typeInfo, hi, hz1]
theorem iundS : Tryz.prog.underlying 31 = some (.slice (Tryz.prog.elem 31)) := by kernel_rfl
theorem isl_mid (g n k c : Nat) (hk : k ≤ c) (hc : c ≤ n) : ∃ ad : Option Addr, (∀ wx : World, (Instr.slice 31 (.slice (some ⟨g, 0, none⟩) n n) (some (I k)) (some (I c)) none).run Tryz.prog wx = .ok (.slice ad (c - k) (n - k)) wx) ∧ (k < c → ad = some ⟨g, k, none⟩) := by
  refine ⟨if n = k then some ⟨g, 0, none⟩ else some ⟨g, k, none⟩, fun wx => ?_, fun h => if_neg (by omega)⟩
  rw [run_slice_lh wx 31 _ n n iundS .i64 .i64 (k : Int) (c : Int) (by omega) (by omega) (by omega), ielem_sz]
  have e1 : ((k : Int)).toNat = k := by omega
  have e2 : ((c : Int)).toNat = c := by omega
  simp only [Result.andThen, sliced, e1, e2, Option.map_some, Nat.mul_one, addr_add, Nat.zero_add]
theorem iclear_zero (w : World) (a : Option Addr) (c : Nat) (ty : TypeId) : (Builtin.clear_ #[31] ty #[.slice a 0 c]).run Tryz.prog w = .ok (.tuple #[]) w := by
  have ht := Tryz.underlying31
  cases a <;> simp [Builtin.clear_, run_underlying ht]
theorem iclear_run {w : World} {g : Nat} {R : List Value} (hq : w.heap[g]? = some (.cells R.toArray 3)) (k m c : Nat) (hm : 0 < m) (h : k + m ≤ R.length) (ty : TypeId) :
    (Builtin.clear_ #[31] ty #[.slice (some ⟨g, k, none⟩) m c]).run Tryz.prog w = .ok (.tuple #[]) (w.setCells g k (List.replicate m (Value.int .i64 0))) :=
  Lib.run_clear_slice w 31 3 ty (Value.int .i64 0) Tryz.underlying31 (fun w => by kernel_rfl) rfl rfl g k m c hm
    (fun j hj => by
      rw [cell_of_row w g _ _ _ (0, 0) hq]
      simp; omega)
    (fun j hj => frozen_of_row w g _ _ _ hq)
theorem isets_row (g E : Nat) : ∀ (vs : List Value) (k : Nat) (w : World) (R : List Value), (∀ v ∈ vs, v.oneCell' = true) → (∀ x ∈ R, x.oneCell' = true) → w.heap[g]? = some (.cells R.toArray E) → ∃ R' : List Value, (w.setCells g k vs).heap[g]? = some (.cells R'.toArray E) ∧ R'.length = R.length ∧ R'.take k = R.take k ∧ (∀ x ∈ R', x.oneCell' = true) ∧ Fx [g] w (w.setCells g k vs)
  | [], k, w, R, _, hR, h => ⟨R, h, rfl, rfl, hR, Fx.refl _ _⟩
  | v :: vs, k, w, R, hv, hR, h => by
    have h2 : (w.setCell ⟨g, k, none⟩ v).heap[g]? = some (.cells (R.set k v).toArray E) := by
      rw [heap_setCell_same w g k _ _ v h]; simp
    obtain ⟨R', h3, h4, h5, h7, h6⟩ := isets_row g E vs (k + 1) (w.setCell ⟨g, k, none⟩ v) _ (fun x hx => hv x (List.mem_cons_of_mem _ hx)) (fun x hx => by
      rcases List.mem_or_eq_of_mem_set hx with e | rfl
      · exact hR x e
      · exact hv x (List.mem_cons_self ..)) h2
    refine ⟨R', h3, by simpa using h4, ?_, h7, ((Fx.refl [g] w).set (.inl (by simp)) k v).trans h6⟩
    have := congrArg (List.take k) h5
    rw [List.take_take, List.take_take, Nat.min_eq_left (Nat.le_succ k), List.take_set_of_le (Nat.le_refl _)] at this
    exact this
/-- 'clear' of a stretch of the room. -/
theorem iclear_row {w : World} {g n : Nat} {R : List Value} (hq : w.heap[g]? = some (.cells R.toArray 3)) (hn : R.length = n) (hu : ∀ x ∈ R, x.oneCell' = true) (k c : Nat) (hk : k ≤ c) (hc : c ≤ n) {ad : Option Addr} (had : k < c → ad = some ⟨g, k, none⟩) : ∃ (w' : World) (R' : List Value), (∀ ty, (Builtin.clear_ #[31] ty #[.slice ad (c - k) (n - k)]).run Tryz.prog w = .ok (.tuple #[]) w') ∧ w'.heap[g]? = some (.cells R'.toArray 3) ∧ R'.length = R.length ∧ R'.take k = R.take k ∧ (∀ x ∈ R', x.oneCell' = true) ∧ Fx [g] w w' := by
  by_cases hm : k < c
  · obtain ⟨R', h1, h2, h3, h5, h4⟩ := isets_row g 3 (List.replicate (c - k) (Value.int .i64 0)) k w R (fun x hx => by rw [List.eq_of_mem_replicate hx]; rfl) hu hq
    rw [had hm]
    exact ⟨_, R', fun ty => iclear_run hq k (c - k) (n - k) (by omega) (by omega) ty, h1, h2, h3, h5, h4⟩
  · rw [show c - k = 0 by omega]
    exact ⟨w, R, fun ty => iclear_zero w _ _ ty, hq, rfl, rfl, hu, Fx.refl _ _⟩
section
variable {w : World} {B g n hi : Nat} {R l : List Value}
set_option maxHeartbeats 2000000 in
theorem ikeep_any (h : iSk w B g n hi R l) (m : Nat) (hm : m ≤ l.length) : Calls Tryz.prog 184 #[iP B, I m] w fun e w' => e = .returned (.tuple #[]) ∧ (∃ R', iSk w' B g n hi R' (l.take m)) ∧ Fx [B, g] w w' := by
  obtain ⟨-, c1, c2, -⟩ := h.cells
  have hle := h.lle
  have hNE := h.ne
  obtain ⟨ad, hs, had⟩ := isl_mid g n m l.length hm hle
  obtain ⟨w3, R', r1, r2, r3, r4, r6, r5⟩ := iclear_row (w := w.drew) (n := n) h.q h.k h.u m l.length hm hle had
  have hB3 : w3.heap[B]? = some (.cells #[.bool true, .slice (some ⟨g, 0, none⟩) n n, I l.length, I hi] 195) := r5.heap h.o (by simpa using hNE)
  have k1 : w3.cell? ⟨B, 1, none⟩ = some (.slice (some ⟨g, 0, none⟩) n n) := by rw [cell_of_row w3 B _ _ _ (0, 0) hB3]; rfl
  have k2 : w3.cell? ⟨B, 2, none⟩ = some (I l.length) := by rw [cell_of_row w3 B _ _ _ (0, 0) hB3]; rfl
  have z3 : ∀ j, w3.frozen? ⟨B, j, none⟩ = false := fun j => frozen_of_row w3 B j _ _ hB3
  have HH : Hid (iSk w B g n hi R l) := h
  have HB : Hid (w3.heap[B]? = some (.cells #[.bool true, .slice (some ⟨g, 0, none⟩) n n, I l.length, I hi] 195)) := hB3
  have HR : Hid (w3.heap[g]? = some (.cells R'.toArray 3) ∧ R'.length = R.length ∧ R'.take m = R.take m ∧ (∀ x ∈ R', x.oneCell' = true) ∧ Fx [g] w.drew w3) := ⟨r2, r3, r4, r6, r5⟩
  have HM : Hid (m ≤ l.length) := hm
  clear hB3 r2 r3 r4 r5 r6 had h hm hle
  go_enter Tryz.func184, Tryz.ntmps184
  go_wp2
  go_region_held_law (fun w' => w'.cell? ⟨B, 1, none⟩ = some (.slice (some ⟨g, 0, none⟩) n n) ∧ w'.cell? ⟨B, 2, none⟩ = some (I l.length))
    (first | exact ⟨c1, c2⟩ | exact ⟨k1, k2⟩ | (go_keep; done))
    (first | (refine step_clear rfl (.tmp 13) 31 rfl (.slice ad (l.length - m) (n - m)) (by simp [Act.eval, Act.put]) _ r1 ?_))
  go_wp2
  refine bodyPost_end (v := .tuple #[]) (by simp [results, Tryz.results184, go_sem]) rfl ?_
  have h := HH.out
  obtain ⟨r2, r3, r4, r6, r5⟩ := HR.out
  have hm := HM.out
  have hB5 := heap_setCell_same w3 B 2 _ _ (I m) HB.out
  have hl : (l.take m).length = m := by rw [List.length_take]; omega
  have hy := h.y
  refine ⟨rfl, ⟨R', ?_, (heap_setCell_other _ ⟨B, 2, none⟩ g _ (fun e => hNE e.symm)).trans r2, by rw [r3]; exact h.k, h.m, ?_, ?_, hNE, r6⟩, ?_⟩
  · rw [hl, hB5]; simp
  · rw [hl, r4]
    conv => rhs; rw [← h.r]
    rw [List.take_take, Nat.min_eq_left hm]
  · rw [hl]; omega
  · exact (((Fx.refl [B, g] w).drewN 1).trans (r5.mono (by simp))).set (b := B) (.inl (by simp)) _ _
theorem iPop_no (h : iSk w B g n hi R []) : Calls Tryz.prog 121 #[iP B] w fun e w' => e = .returned (.tuple #[(Value.int .i64 0), I 142]) ∧ w = w' := by
  obtain ⟨-, -, c3, -⟩ := h.cells
  go_enter Tryz.func121, Tryz.ntmps121
  go_wp2_with (first | (go_at_call 130; refine (inone_any h).mono ?_; rintro e w1 ⟨rfl, rfl⟩))
  go_ret2
  exact ⟨rfl, rfl⟩
set_option maxHeartbeats 2000000 in
theorem iPop_ok (x : Int) (h : iSk w B g n hi R (l ++ [(Value.int .i64 x)])) : Calls Tryz.prog 121 #[iP B] w fun e w' => e = .returned (.tuple #[(Value.int .i64 x), I 0]) ∧ (∃ R', iSk w' B g n hi R' l) ∧ Fx [B, g] w w' := by
  have ee : (l ++ [(Value.int .i64 x)]).length = l.length + 1 := by simp
  have hle := h.lle
  have hm := h.m
  have hK := fun q => (ikeep_any (h.drewN q) l.length (by simp)).mono (R' := fun e w' => e = .returned (.tuple #[]) ∧ (∃ R', iSk w' B g n hi R' l) ∧ Fx [B, g] w w') (fun e w' ⟨k, ⟨R', hR⟩, f⟩ => ⟨k, ⟨R', by rw [List.take_left] at hR; exact hR⟩, ((Fx.refl _ w).drewN q).trans f⟩)
  obtain ⟨-, c1, c3, -⟩ := h.cells
  have hc := h.at (j := l.length) (v := (Value.int .i64 x)) (by simp)
  have c39 := fun q => (h.drewN q).cells.2.2.1
  rw [ee] at c3 hle
  simp only [ee] at c39
  have e2 : ((l.length + 1 : Nat) : Int) = (l.length : Int) + 1 := by omega
  rw [e2] at c3
  simp only [e2] at c39
  have hN := inone_any h
  have hx2 : ¬ ((l.length : Int) + 1 = 0) := by omega
  have hx0 : ¬ ((l.length : Int) < 0) := by omega
  have hx1 : (l.length : Int) < n := by omega
  clear h ee e2
  go_enter Tryz.func121, Tryz.ntmps121
  go_wp2_with (first | (go_at_call 130; refine hN.mono ?_; rintro e w1 ⟨rfl, rfl⟩))
  go_quiet (fail)
  have c39 := c39 nq
  have hK := hK nq
  clear c3 c1 hc hN
  go_wp2_with (first | (go_at_call 184; refine hK.mono ?_; rintro e w2 ⟨rfl, R2, f2⟩))
  go_ret2
  exact ⟨rfl, R2, f2⟩
theorem iTop_no (h : iSk w B g n hi R []) : Calls Tryz.prog 119 #[iP B] w fun e w' => e = .returned (.tuple #[(Value.int .i64 0), .bool false]) ∧ w = w' := by
  have hL := iLen_any h
  go_enter Tryz.func119, Tryz.ntmps119
  go_wp2_with (first | (go_at_call 49; refine hL.mono ?_; rintro e w1 ⟨rfl, rfl⟩))
  go_ret2
  exact ⟨rfl, rfl⟩
theorem iTop_ok (x : Int) (h : iSk w B g n hi R (l ++ [(Value.int .i64 x)])) : Calls Tryz.prog 119 #[iP B] w fun e w' => e = .returned (.tuple #[(Value.int .i64 x), .bool true]) ∧ Below w.heap.size w w' := by
  have ee : (l ++ [(Value.int .i64 x)]).length = l.length + 1 := by simp
  have hle := h.lle
  have hm := h.m
  obtain ⟨-, c1, c3, -⟩ := h.cells
  have hc := h.at (j := l.length) (v := (Value.int .i64 x)) (by simp)
  have hL := iLen_any h
  rw [ee] at c3 hle hL
  have e2 : ((l.length + 1 : Nat) : Int) = (l.length : Int) + 1 := by omega
  rw [e2] at c3 hL
  have hx2 : ¬ ((l.length : Int) + 1 = 0) := by omega
  have hx0 : ¬ ((l.length : Int) < 0) := by omega
  have hx1 : (l.length : Int) < n := by omega
  clear h ee e2
  go_enter Tryz.func119, Tryz.ntmps119
  go_wp2_with (first | (go_at_call 49; refine hL.mono ?_; rintro e w1 ⟨rfl, rfl⟩))
  go_quiet (fail)
  go_wp2
  go_ret2
  exact ⟨rfl, below_drewN _ (Below.refl _ _)⟩
end
end Go.Proofs.YtglnfifdjlgbcaaGreatDoor.St

namespace Go.Proofs.YtglnfifdjlgbcaaGreatDoor.St
open Go.RowKit Go.Shelf Go.Sort
set_option linter.unusedVariables false
set_option linter.unusedSimpArgs false

/-! ### Stacks of int: equal, Find -/
section
variable {w : World} {B g n hi : Nat} {R : List Value}
def iV (xs : List Int) : List Value := xs.map fun x => (Value.int .i64 x)
theorem iV_len (xs : List Int) : (iV xs).length = xs.length := by simp [iV]
def iEq (x y : Int) : Bool := (x == y)
end
end Go.Proofs.YtglnfifdjlgbcaaGreatDoor.St

