import Derived.Test.YtglnfifdjlgbcaaGreatDoorProg
import Derived.WalkKit
import Derived.WalkSpells
import Derived.WalkLawsBesides
import Derived.BigQuiet
import Derived.OwnWalk
import Derived.Deep.LoopGhost
import Derived.Deep.QuietTactic
import Derived.Lib.SliceRun
import Derived.Deep.RegionLaw
import Derived.Deep.RegionHeldLaw
import Derived.Laws.CopyOwn
import Derived.Defers
import Derived.Recover
import Derived.Tactics2
import Derived.Laws.Pointers
import Derived.Lib.SliceRun
namespace Go.Proofs.YtglnfifdjlgbcaaGreatDoor.Tk
open Go.RowKit
set_option linter.unusedVariables false
set_option linter.unusedSimpArgs false

/-! ### Memory -/
abbrev I (i : Int) : Value := .int .i64 i
theorem ret_int {k : IntKind} {a b : Int} (h : a = b) : Ending.returned (.int k a) = .returned (.int k b) := by rw [h]
theorem ret_bool {a b : Bool} (h : a = b) : Ending.returned (.bool a) = .returned (.bool b) := by rw [h]
theorem heap_lt {w : World} {b : Nat} {o : Obj} (h : w.heap[b]? = some o) : b < w.heap.size := by
  rcases Nat.lt_or_ge b w.heap.size with h' | h'
  · exact h'
  · rw [Array.getElem?_eq_none h'] at h; cases h
theorem addr_add (g off j : Nat) : (⟨g, off, none⟩ : Addr).add j = ⟨g, off + j, none⟩ := by unfold Addr.add; split <;> simp_all
theorem grown_refl (w : World) (r : Option Nat) : w.grownBy w r := ⟨rfl, rfl, rfl, Nat.le_refl _, fun _ _ _ => rfl⟩
theorem grown_of_below {a b : World} {r : Option Nat} (h : Below a.heap.size a b) : a.grownBy b r := ⟨h.os, h.tape, h.output, h.size, fun i hi _ => h.block i hi⟩
theorem grown_set (w : World) (r k : Nat) (v : Value) : w.grownBy (w.setCell ⟨r, k, none⟩ v) (some r) :=
  ⟨rfl, rfl, rfl, by simp, fun j _ hj => heap_setCell_other w ⟨r, k, none⟩ j _ (fun e => hj (by simp [e]))⟩
theorem below_alloc (w : World) (o : Obj) : Below w.heap.size w (w.alloc o) := (Below.refl _ _).alloc (Nat.le_refl _) _
theorem heap_over (w : World) (o : Obj) {g : Nat} {x : Obj} (h : w.heap[g]? = some x) : (w.alloc o).heap[g]? = some x := by rw [heap_alloc_old w o (heap_lt h)]; exact h
theorem below_drewN {B : Nat} {a w : World} (n : Nat) (h : Below B a w) : Below B a (w.drewN n) := by
  induction n with
  | zero => exact h
  | succ n ih => exact ih.drew
theorem drewN_add (w : World) (a b : Nat) : (w.drewN a).drewN b = w.drewN (a + b) := by
  induction b with
  | zero => rfl
  | succ b ih => show ((w.drewN a).drewN b).drew = _; rw [ih]; rfl
theorem own_below {w w' : World} {base e size n : Nat} {v : Value} {xs : List Value} (h : w.ownsRow base e size v n xs) (hb : Below w.heap.size w w') : w'.ownsRow base e size v n xs := by
  obtain ⟨hl, h0 | ⟨g, cap, cur, hv, hb1, hh, rr⟩⟩ := h
  · exact ⟨hl, .inl h0⟩
  · exact ⟨hl, .inr ⟨g, cap, cur, hv, hb1, (hb.block g (heap_lt hh)).trans hh, rr⟩⟩

theorem cell_set_ne {w : World} {b g i k : Nat} {v : Value} (h : b ≠ g) : (w.setCell ⟨g, k, none⟩ v).cell? ⟨b, i, none⟩ = w.cell? ⟨b, i, none⟩ := World.cell?_of_block (heap_setCell_other w ⟨g, k, none⟩ b v h)
/-- Nothing but the blocks bs (and what is new) may have changed. -/
structure Fx (bs : List Nat) (w w' : World) : Prop where
  os : w'.os = w.os
  tape : w'.tape = w.tape
  output : w'.output = w.output
  size : w.heap.size ≤ w'.heap.size
  block : ∀ b, b < w.heap.size → b ∉ bs → w'.heap[b]? = w.heap[b]?
theorem Fx.refl (bs : List Nat) (w : World) : Fx bs w w := ⟨rfl, rfl, rfl, Nat.le_refl _, fun _ _ _ => rfl⟩
theorem Fx.trans {bs : List Nat} {a b c : World} (h : Fx bs a b) (k : Fx bs b c) : Fx bs a c :=
  ⟨k.os.trans h.os, k.tape.trans h.tape, k.output.trans h.output, Nat.le_trans h.size k.size, fun i hi hn => (k.block i (Nat.lt_of_lt_of_le hi h.size) hn).trans (h.block i hi hn)⟩
/-- What the second step turns is in bs or was made since. -/
theorem Fx.step {bs cs : List Nat} {a b c : World} (h : Fx bs a b) (k : Fx cs b c) (hc : ∀ x ∈ cs, x ∈ bs ∨ a.heap.size ≤ x) : Fx bs a c :=
  ⟨k.os.trans h.os, k.tape.trans h.tape, k.output.trans h.output, Nat.le_trans h.size k.size, fun i hi hn => (k.block i (Nat.lt_of_lt_of_le hi h.size) (fun e => (hc i e).elim hn (fun e2 => by omega))).trans (h.block i hi hn)⟩
theorem Fx.mono {bs cs : List Nat} {a b : World} (h : Fx bs a b) (hs : ∀ x ∈ bs, x ∈ cs) : Fx cs a b := ⟨h.os, h.tape, h.output, h.size, fun i hi hn => h.block i hi (fun e => hn (hs i e))⟩
theorem Fx.of_below {bs : List Nat} {a b : World} (h : Below a.heap.size a b) : Fx bs a b := ⟨h.os, h.tape, h.output, h.size, fun i hi _ => h.block i hi⟩
theorem Fx.below {bs : List Nat} {B : Nat} {a b : World} (h : Fx bs a b) (hB : B ≤ a.heap.size) (hs : ∀ x ∈ bs, B ≤ x) : Below B a b :=
  ⟨h.os, h.tape, h.output, h.size, fun i hi => h.block i (by omega) (fun e => by have := hs i e; omega)⟩
theorem Fx.set {bs : List Nat} {a w : World} (h : Fx bs a w) {b : Nat} (hb : b ∈ bs ∨ a.heap.size ≤ b) (k : Nat) (v : Value) : Fx bs a (w.setCell ⟨b, k, none⟩ v) :=
  h.step (cs := [b]) ⟨rfl, rfl, rfl, by simp, fun i _ hn => heap_setCell_other w ⟨b, k, none⟩ i _ (by simpa using hn)⟩ (by simpa using hb)
theorem Fx.alloc {bs : List Nat} {a w : World} (h : Fx bs a w) (o : Obj) : Fx bs a (w.alloc o) := h.trans (Fx.of_below (below_alloc w o))
theorem Fx.drewN {bs : List Nat} {a w : World} (h : Fx bs a w) (n : Nat) : Fx bs a (w.drewN n) := h.trans (Fx.of_below (below_drewN n (Below.refl _ _)))
theorem Fx.grown {bs : List Nat} {a w w' : World} {r : Option Nat} (h : Fx bs a w) (hg : w.grownBy w' r) (hr : ∀ g, r = some g → g ∈ bs ∨ a.heap.size ≤ g) : Fx bs a w' :=
  ⟨hg.os.trans h.os, hg.tape.trans h.tape, hg.output.trans h.output, Nat.le_trans h.size hg.size, fun i hi hn => (hg.block i (Nat.lt_of_lt_of_le hi h.size) (fun e => (hr i e.symm).elim hn (fun e2 => by omega))).trans (h.block i hi hn)⟩
theorem Fx.heap {bs : List Nat} {a b : World} (h : Fx bs a b) {g : Nat} {o : Obj} (hg : a.heap[g]? = some o) (hn : g ∉ bs) : b.heap[g]? = some o := (h.block g (heap_lt hg) hn).trans hg
theorem Fx.cell {bs : List Nat} {a b : World} (h : Fx bs a b) {g i : Nat} {v : Value} (hg : a.cell? ⟨g, i, none⟩ = some v) (hn : g ∉ bs) : b.cell? ⟨g, i, none⟩ = some v :=
  (World.cell?_of_block (h.block g (World.block_lt_of_cell? a _ hg) hn)).trans hg
theorem Fx.own {bs : List Nat} {a b : World} (h : Fx bs a b) {base e size n : Nat} {v : Value} {xs : List Value} (ho : a.ownsRow base e size v n xs) (hn : ∀ g, v.ownBlock = some g → g ∉ bs) : b.ownsRow base e size v n xs := by
  obtain ⟨hl, h0 | ⟨g, cap, cur, hv, hb1, hh, rr⟩⟩ := ho
  · exact ⟨hl, .inl h0⟩
  · exact ⟨hl, .inr ⟨g, cap, cur, hv, hb1, h.heap hh (hn g (by rw [hv]; rfl)), rr⟩⟩

/-- Nothing but the blocks of M (and what is new) may have changed. -/
structure Fz (M : Nat → Prop) (w w' : World) : Prop where
  os : w'.os = w.os
  tape : w'.tape = w.tape
  output : w'.output = w.output
  size : w.heap.size ≤ w'.heap.size
  block : ∀ b, b < w.heap.size → ¬ M b → w'.heap[b]? = w.heap[b]?
theorem Fz.refl (M : Nat → Prop) (w : World) : Fz M w w := ⟨rfl, rfl, rfl, Nat.le_refl _, fun _ _ _ => rfl⟩
theorem Fz.step {M N : Nat → Prop} {a b c : World} (h : Fz M a b) (k : Fz N b c) (hc : ∀ x, N x → M x ∨ a.heap.size ≤ x) : Fz M a c :=
  ⟨k.os.trans h.os, k.tape.trans h.tape, k.output.trans h.output, Nat.le_trans h.size k.size, fun i hi hn => (k.block i (Nat.lt_of_lt_of_le hi h.size) (fun e => (hc i e).elim hn (fun e2 => by omega))).trans (h.block i hi hn)⟩
theorem Fz.trans {M : Nat → Prop} {a b c : World} (h : Fz M a b) (k : Fz M b c) : Fz M a c := h.step k (fun _ e => .inl e)
theorem Fz.mono {M N : Nat → Prop} {a b : World} (h : Fz M a b) (hs : ∀ x, M x → N x) : Fz N a b := ⟨h.os, h.tape, h.output, h.size, fun i hi hn => h.block i hi (fun e => hn (hs i e))⟩
theorem Fz.of_fx {M : Nat → Prop} {bs : List Nat} {a b : World} (h : Fx bs a b) (hs : ∀ x ∈ bs, M x) : Fz M a b := ⟨h.os, h.tape, h.output, h.size, fun i hi hn => h.block i hi (fun e => hn (hs i e))⟩
theorem Fz.of_below {M : Nat → Prop} {a b : World} (h : Below a.heap.size a b) : Fz M a b := ⟨h.os, h.tape, h.output, h.size, fun i hi _ => h.block i hi⟩
theorem Fz.below {M : Nat → Prop} {B : Nat} {a b : World} (h : Fz M a b) (hB : B ≤ a.heap.size) (hs : ∀ x, M x → B ≤ x) : Below B a b :=
  ⟨h.os, h.tape, h.output, h.size, fun i hi => h.block i (by omega) (fun e => by have := hs i e; omega)⟩
theorem Fz.heap {M : Nat → Prop} {a b : World} (h : Fz M a b) {g : Nat} {o : Obj} (hg : a.heap[g]? = some o) (hn : ¬ M g) : b.heap[g]? = some o := (h.block g (heap_lt hg) hn).trans hg
theorem Fz.cell {M : Nat → Prop} {a b : World} (h : Fz M a b) {g i : Nat} {v : Value} (hg : a.cell? ⟨g, i, none⟩ = some v) (hn : ¬ M g) : b.cell? ⟨g, i, none⟩ = some v :=
  (World.cell?_of_block (h.block g (World.block_lt_of_cell? a _ hg) hn)).trans hg
theorem Fz.set {M : Nat → Prop} {a w : World} (h : Fz M a w) {b : Nat} (hb : M b ∨ a.heap.size ≤ b) (k : Nat) (v : Value) : Fz M a (w.setCell ⟨b, k, none⟩ v) :=
  h.step (N := fun x => x = b) ⟨rfl, rfl, rfl, by simp, fun i _ hn => heap_setCell_other w ⟨b, k, none⟩ i _ hn⟩ (by rintro x rfl; exact hb)
theorem Fz.alloc {M : Nat → Prop} {a w : World} (h : Fz M a w) (o : Obj) : Fz M a (w.alloc o) := h.trans (Fz.of_below (below_alloc w o))
theorem Fz.drewN {M : Nat → Prop} {a w : World} (h : Fz M a w) (n : Nat) : Fz M a (w.drewN n) := h.trans (Fz.of_below (below_drewN n (Below.refl _ _)))
theorem Fz.own {M : Nat → Prop} {a b : World} (h : Fz M a b) {base e size n : Nat} {v : Value} {xs : List Value} (ho : a.ownsRow base e size v n xs) (hn : ∀ g, v.ownBlock = some g → ¬ M g) : b.ownsRow base e size v n xs := by
  obtain ⟨hl, h0 | ⟨g, cap, cur, hv, hb1, hh, rr⟩⟩ := ho
  · exact ⟨hl, .inl h0⟩
  · exact ⟨hl, .inr ⟨g, cap, cur, hv, hb1, h.heap hh (hn g (by rw [hv]; rfl)), rr⟩⟩

/-- 'clear(s)' as one step of a region that draws its order. -/
theorem step_clear {P : Program} {ops : Array Oper} {o : Oper} {a : Act} {w : World} {K : Act → World → Prop} {Q : Exit → Act → World → Prop} {E : Prop}
    (hg : o.guard = none) (s : Operand) (t : TypeId) (hop : o.op = Op.call { callee := Callee.builtin Builtin.clear, args := #[s], argTypes := #[t] })
    (v : Value) (hs : a.eval s = v) (w' : World) (hrun : ∀ ty, (Builtin.clear_ #[t] ty #[v]).run P w = .ok (.tuple #[]) w') (hK : K (a.put o.dst (.tuple #[])) w') :
    if Region.wanted o (yielded ops a.tmps) = true then Oper.wp P o a w K Q else E := by
  have hw : Region.wanted o (yielded ops a.tmps) = true := by simp [Region.wanted, hg]
  rw [if_pos hw]
  have hr := hrun o.type
  unfold Oper.wp
  simp [execOp, hop, resolve, invoke, builtin, hs, hr, Result.andThen]
  exact hK
/-- as bodyPostD, but that no way leads to a panic -/
def postD (P : Program) (fn : Func) (R : Ending → World → Prop) : Exit → Act → World → Prop
  | .panic _, _, _ => False
  | .outgrown, _, _ => False
  | .normal, a, w => bodyPostD P fn R .normal a w
  | .ret, a, w => bodyPostD P fn R .ret a w
  | .exit _, _, _ => False
  | .goto _, _, _ => False
theorem post_d {P : Program} {fn : Func} {R : Ending → World → Prop} : ∀ (e : Exit) (a : Act) (w : World), postD P fn R e a w → bodyPostD P fn R e a w
  | .panic _, _, _, h => h.elim
  | .outgrown, _, _, h => h.elim
  | .normal, _, _, h => h
  | .ret, _, _, h => h
  | .exit _, _, _, h => h.elim
  | .goto _, _, _, h => h.elim
end Go.Proofs.YtglnfifdjlgbcaaGreatDoor.Tk
