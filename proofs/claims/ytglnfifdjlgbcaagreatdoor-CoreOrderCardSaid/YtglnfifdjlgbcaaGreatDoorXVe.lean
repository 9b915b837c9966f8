import Derived.Test.YtglnfifdjlgbcaaGreatDoorProg
import Derived.WalkKit
import Derived.WalkSpells
import Derived.WalkLawsBesides
import Derived.BigQuiet
import Derived.OwnWalk
import Derived.Deep.LoopGhost
import Derived.Deep.QuietTactic
import Derived.Lib.SliceRun
import Derived.Deep.RegionLaw
import Derived.Deep.RegionHeldLaw
import Derived.Laws.CopyOwn
import Derived.Defers
import Derived.Recover
import Derived.Tactics2
import Derived.Laws.Pointers
import Derived.Deep.MidRow
import Derived.Deep.WholeRow
import Derived.Deep.Cut
namespace Go.Proofs.YtglnfifdjlgbcaaGreatDoor.Ev
open Go.RowKit
set_option linter.unusedVariables false
set_option linter.unusedSimpArgs false

/-! ### Memory -/
abbrev I (i : Int) : Value := .int .i64 i
theorem ret_int {k : IntKind} {a b : Int} (h : a = b) : Ending.returned (.int k a) = .returned (.int k b) := by rw [h]
theorem ret_bool {a b : Bool} (h : a = b) : Ending.returned (.bool a) = .returned (.bool b) := by rw [h]
theorem heap_lt {w : World} {b : Nat} {o : Obj} (h : w.heap[b]? = some o) : b < w.heap.size := by
  rcases Nat.lt_or_ge b w.heap.size with h' | h'
  · exact h'
  · rw [Array.getElem?_eq_none h'] at h; cases h
theorem addr_add (g off j : Nat) : (⟨g, off, none⟩ : Addr).add j = ⟨g, off + j, none⟩ := by unfold Addr.add; split <;> simp_all
theorem grown_refl (w : World) (r : Option Nat) : w.grownBy w r := ⟨rfl, rfl, rfl, Nat.le_refl _, fun _ _ _ => rfl⟩
theorem grown_of_below {a b : World} {r : Option Nat} (h : Below a.heap.size a b) : a.grownBy b r := ⟨h.os, h.tape, h.output, h.size, fun i hi _ => h.block i hi⟩
theorem grown_set (w : World) (r k : Nat) (v : Value) : w.grownBy (w.setCell ⟨r, k, none⟩ v) (some r) :=
  ⟨rfl, rfl, rfl, by simp, fun j _ hj => heap_setCell_other w ⟨r, k, none⟩ j _ (fun e => hj (by simp [e]))⟩
theorem below_alloc (w : World) (o : Obj) : Below w.heap.size w (w.alloc o) := (Below.refl _ _).alloc (Nat.le_refl _) _
theorem heap_over (w : World) (o : Obj) {g : Nat} {x : Obj} (h : w.heap[g]? = some x) : (w.alloc o).heap[g]? = some x := by rw [heap_alloc_old w o (heap_lt h)]; exact h
theorem below_drewN {B : Nat} {a w : World} (n : Nat) (h : Below B a w) : Below B a (w.drewN n) := by
  induction n with
  | zero => exact h
  | succ n ih => exact ih.drew
theorem drewN_add (w : World) (a b : Nat) : (w.drewN a).drewN b = w.drewN (a + b) := by
  induction b with
  | zero => rfl
  | succ b ih => show ((w.drewN a).drewN b).drew = _; rw [ih]; rfl
theorem own_below {w w' : World} {base e size n : Nat} {v : Value} {xs : List Value} (h : w.ownsRow base e size v n xs) (hb : Below w.heap.size w w') : w'.ownsRow base e size v n xs := by
  obtain ⟨hl, h0 | ⟨g, cap, cur, hv, hb1, hh, rr⟩⟩ := h
  · exact ⟨hl, .inl h0⟩
  · exact ⟨hl, .inr ⟨g, cap, cur, hv, hb1, (hb.block g (heap_lt hh)).trans hh, rr⟩⟩

theorem cell_set_ne {w : World} {b g i k : Nat} {v : Value} (h : b ≠ g) : (w.setCell ⟨g, k, none⟩ v).cell? ⟨b, i, none⟩ = w.cell? ⟨b, i, none⟩ := World.cell?_of_block (heap_setCell_other w ⟨g, k, none⟩ b v h)
/-- Nothing but the blocks bs (and what is new) may have changed. -/
structure Fx (bs : List Nat) (w w' : World) : Prop where
  os : w'.os = w.os
  tape : w'.tape = w.tape
  output : w'.output = w.output
  size : w.heap.size ≤ w'.heap.size
  block : ∀ b, b < w.heap.size → b ∉ bs → w'.heap[b]? = w.heap[b]?
theorem Fx.refl (bs : List Nat) (w : World) : Fx bs w w := ⟨rfl, rfl, rfl, Nat.le_refl _, fun _ _ _ => rfl⟩
theorem Fx.trans {bs : List Nat} {a b c : World} (h : Fx bs a b) (k : Fx bs b c) : Fx bs a c :=
  ⟨k.os.trans h.os, k.tape.trans h.tape, k.output.trans h.output, Nat.le_trans h.size k.size, fun i hi hn => (k.block i (Nat.lt_of_lt_of_le hi h.size) hn).trans (h.block i hi hn)⟩
/-- What the second step turns is in bs or was made since. -/
theorem Fx.step {bs cs : List Nat} {a b c : World} (h : Fx bs a b) (k : Fx cs b c) (hc : ∀ x ∈ cs, x ∈ bs ∨ a.heap.size ≤ x) : Fx bs a c :=
  ⟨k.os.trans h.os, k.tape.trans h.tape, k.output.trans h.output, Nat.le_trans h.size k.size, fun i hi hn => (k.block i (Nat.lt_of_lt_of_le hi h.size) (fun e => (hc i e).elim hn (fun e2 => by omega))).trans (h.block i hi hn)⟩
theorem Fx.mono {bs cs : List Nat} {a b : World} (h : Fx bs a b) (hs : ∀ x ∈ bs, x ∈ cs) : Fx cs a b := ⟨h.os, h.tape, h.output, h.size, fun i hi hn => h.block i hi (fun e => hn (hs i e))⟩
theorem Fx.of_below {bs : List Nat} {a b : World} (h : Below a.heap.size a b) : Fx bs a b := ⟨h.os, h.tape, h.output, h.size, fun i hi _ => h.block i hi⟩
theorem Fx.below {bs : List Nat} {B : Nat} {a b : World} (h : Fx bs a b) (hB : B ≤ a.heap.size) (hs : ∀ x ∈ bs, B ≤ x) : Below B a b :=
  ⟨h.os, h.tape, h.output, h.size, fun i hi => h.block i (by omega) (fun e => by have := hs i e; omega)⟩
theorem Fx.set {bs : List Nat} {a w : World} (h : Fx bs a w) {b : Nat} (hb : b ∈ bs ∨ a.heap.size ≤ b) (k : Nat) (v : Value) : Fx bs a (w.setCell ⟨b, k, none⟩ v) :=
  h.step (cs := [b]) ⟨rfl, rfl, rfl, by simp, fun i _ hn => heap_setCell_other w ⟨b, k, none⟩ i _ (by simpa using hn)⟩ (by simpa using hb)
theorem Fx.alloc {bs : List Nat} {a w : World} (h : Fx bs a w) (o : Obj) : Fx bs a (w.alloc o) := h.trans (Fx.of_below (below_alloc w o))
theorem Fx.drewN {bs : List Nat} {a w : World} (h : Fx bs a w) (n : Nat) : Fx bs a (w.drewN n) := h.trans (Fx.of_below (below_drewN n (Below.refl _ _)))
theorem Fx.grown {bs : List Nat} {a w w' : World} {r : Option Nat} (h : Fx bs a w) (hg : w.grownBy w' r) (hr : ∀ g, r = some g → g ∈ bs ∨ a.heap.size ≤ g) : Fx bs a w' :=
  ⟨hg.os.trans h.os, hg.tape.trans h.tape, hg.output.trans h.output, Nat.le_trans h.size hg.size, fun i hi hn => (hg.block i (Nat.lt_of_lt_of_le hi h.size) (fun e => (hr i e.symm).elim hn (fun e2 => by omega))).trans (h.block i hi hn)⟩
theorem Fx.heap {bs : List Nat} {a b : World} (h : Fx bs a b) {g : Nat} {o : Obj} (hg : a.heap[g]? = some o) (hn : g ∉ bs) : b.heap[g]? = some o := (h.block g (heap_lt hg) hn).trans hg
theorem Fx.cell {bs : List Nat} {a b : World} (h : Fx bs a b) {g i : Nat} {v : Value} (hg : a.cell? ⟨g, i, none⟩ = some v) (hn : g ∉ bs) : b.cell? ⟨g, i, none⟩ = some v :=
  (World.cell?_of_block (h.block g (World.block_lt_of_cell? a _ hg) hn)).trans hg
theorem Fx.own {bs : List Nat} {a b : World} (h : Fx bs a b) {base e size n : Nat} {v : Value} {xs : List Value} (ho : a.ownsRow base e size v n xs) (hn : ∀ g, v.ownBlock = some g → g ∉ bs) : b.ownsRow base e size v n xs := by
  obtain ⟨hl, h0 | ⟨g, cap, cur, hv, hb1, hh, rr⟩⟩ := ho
  · exact ⟨hl, .inl h0⟩
  · exact ⟨hl, .inr ⟨g, cap, cur, hv, hb1, h.heap hh (hn g (by rw [hv]; rfl)), rr⟩⟩

/-- Nothing but the blocks of M (and what is new) may have changed. -/
structure Fz (M : Nat → Prop) (w w' : World) : Prop where
  os : w'.os = w.os
  tape : w'.tape = w.tape
  output : w'.output = w.output
  size : w.heap.size ≤ w'.heap.size
  block : ∀ b, b < w.heap.size → ¬ M b → w'.heap[b]? = w.heap[b]?
theorem Fz.refl (M : Nat → Prop) (w : World) : Fz M w w := ⟨rfl, rfl, rfl, Nat.le_refl _, fun _ _ _ => rfl⟩
theorem Fz.step {M N : Nat → Prop} {a b c : World} (h : Fz M a b) (k : Fz N b c) (hc : ∀ x, N x → M x ∨ a.heap.size ≤ x) : Fz M a c :=
  ⟨k.os.trans h.os, k.tape.trans h.tape, k.output.trans h.output, Nat.le_trans h.size k.size, fun i hi hn => (k.block i (Nat.lt_of_lt_of_le hi h.size) (fun e => (hc i e).elim hn (fun e2 => by omega))).trans (h.block i hi hn)⟩
theorem Fz.trans {M : Nat → Prop} {a b c : World} (h : Fz M a b) (k : Fz M b c) : Fz M a c := h.step k (fun _ e => .inl e)
theorem Fz.mono {M N : Nat → Prop} {a b : World} (h : Fz M a b) (hs : ∀ x, M x → N x) : Fz N a b := ⟨h.os, h.tape, h.output, h.size, fun i hi hn => h.block i hi (fun e => hn (hs i e))⟩
theorem Fz.of_fx {M : Nat → Prop} {bs : List Nat} {a b : World} (h : Fx bs a b) (hs : ∀ x ∈ bs, M x) : Fz M a b := ⟨h.os, h.tape, h.output, h.size, fun i hi hn => h.block i hi (fun e => hn (hs i e))⟩
theorem Fz.of_below {M : Nat → Prop} {a b : World} (h : Below a.heap.size a b) : Fz M a b := ⟨h.os, h.tape, h.output, h.size, fun i hi _ => h.block i hi⟩
theorem Fz.below {M : Nat → Prop} {B : Nat} {a b : World} (h : Fz M a b) (hB : B ≤ a.heap.size) (hs : ∀ x, M x → B ≤ x) : Below B a b :=
  ⟨h.os, h.tape, h.output, h.size, fun i hi => h.block i (by omega) (fun e => by have := hs i e; omega)⟩
theorem Fz.heap {M : Nat → Prop} {a b : World} (h : Fz M a b) {g : Nat} {o : Obj} (hg : a.heap[g]? = some o) (hn : ¬ M g) : b.heap[g]? = some o := (h.block g (heap_lt hg) hn).trans hg
theorem Fz.cell {M : Nat → Prop} {a b : World} (h : Fz M a b) {g i : Nat} {v : Value} (hg : a.cell? ⟨g, i, none⟩ = some v) (hn : ¬ M g) : b.cell? ⟨g, i, none⟩ = some v :=
  (World.cell?_of_block (h.block g (World.block_lt_of_cell? a _ hg) hn)).trans hg
theorem Fz.set {M : Nat → Prop} {a w : World} (h : Fz M a w) {b : Nat} (hb : M b ∨ a.heap.size ≤ b) (k : Nat) (v : Value) : Fz M a (w.setCell ⟨b, k, none⟩ v) :=
  h.step (N := fun x => x = b) ⟨rfl, rfl, rfl, by simp, fun i _ hn => heap_setCell_other w ⟨b, k, none⟩ i _ hn⟩ (by rintro x rfl; exact hb)
theorem Fz.alloc {M : Nat → Prop} {a w : World} (h : Fz M a w) (o : Obj) : Fz M a (w.alloc o) := h.trans (Fz.of_below (below_alloc w o))
theorem Fz.drewN {M : Nat → Prop} {a w : World} (h : Fz M a w) (n : Nat) : Fz M a (w.drewN n) := h.trans (Fz.of_below (below_drewN n (Below.refl _ _)))
theorem Fz.own {M : Nat → Prop} {a b : World} (h : Fz M a b) {base e size n : Nat} {v : Value} {xs : List Value} (ho : a.ownsRow base e size v n xs) (hn : ∀ g, v.ownBlock = some g → ¬ M g) : b.ownsRow base e size v n xs := by
  obtain ⟨hl, h0 | ⟨g, cap, cur, hv, hb1, hh, rr⟩⟩ := ho
  · exact ⟨hl, .inl h0⟩
  · exact ⟨hl, .inr ⟨g, cap, cur, hv, hb1, h.heap hh (hn g (by rw [hv]; rfl)), rr⟩⟩

/-- 'clear(s)' as one step of a region that draws its order. -/
theorem step_clear {P : Program} {ops : Array Oper} {o : Oper} {a : Act} {w : World} {K : Act → World → Prop} {Q : Exit → Act → World → Prop} {E : Prop}
    (hg : o.guard = none) (s : Operand) (t : TypeId) (hop : o.op = Op.call { callee := Callee.builtin Builtin.clear, args := #[s], argTypes := #[t] })
    (v : Value) (hs : a.eval s = v) (w' : World) (hrun : ∀ ty, (Builtin.clear_ #[t] ty #[v]).run P w = .ok (.tuple #[]) w') (hK : K (a.put o.dst (.tuple #[])) w') :
    if Region.wanted o (yielded ops a.tmps) = true then Oper.wp P o a w K Q else E := by
  have hw : Region.wanted o (yielded ops a.tmps) = true := by simp [Region.wanted, hg]
  rw [if_pos hw]
  have hr := hrun o.type
  unfold Oper.wp
  simp [execOp, hop, resolve, invoke, builtin, hs, hr, Result.andThen]
  exact hK
/-- as bodyPostD, but that no way leads to a panic -/
def postD (P : Program) (fn : Func) (R : Ending → World → Prop) : Exit → Act → World → Prop
  | .panic _, _, _ => False
  | .outgrown, _, _ => False
  | .normal, a, w => bodyPostD P fn R .normal a w
  | .ret, a, w => bodyPostD P fn R .ret a w
  | .exit _, _, _ => False
  | .goto _, _, _ => False
theorem post_d {P : Program} {fn : Func} {R : Ending → World → Prop} : ∀ (e : Exit) (a : Act) (w : World), postD P fn R e a w → bodyPostD P fn R e a w
  | .panic _, _, _, h => h.elim
  | .outgrown, _, _, h => h.elim
  | .normal, _, _, h => h
  | .ret, _, _, h => h
  | .exit _, _, _, h => h.elim
  | .goto _, _, _, h => h.elim
end Go.Proofs.YtglnfifdjlgbcaaGreatDoor.Ev

namespace Go.Proofs.YtglnfifdjlgbcaaGreatDoor.Ev
open Go.RowKit
set_option linter.unusedVariables false
set_option linter.unusedSimpArgs false

/-! ### A table of events -/
structure Et where
  x : Bool
  s : Bool
  on : Int
  wa : Int
abbrev U (i : Int) : Value := .int .u32 i
def et0 : Et := ⟨false, false, 0, 0⟩
def et1 : Et := ⟨true, false, 0, 0⟩
abbrev eP (B : Nat) : Value := .pointer (some ⟨B, 0, none⟩)
/-- A table: its block B, its tasks f, of which there are n. -/
structure Ev (w : World) (B n : Nat) (f : Nat → Et) : Prop where
  o : ∃ cs, w.heap[B]? = some (.cells cs 192) ∧ cs.size = 1026
  c0 : w.cell? ⟨B, 0, none⟩ = some (.bool true)
  c1 : w.cell? ⟨B, 1, none⟩ = some (I n)
  m : n ≤ 256
  e : ∀ i, i < 256 → w.cell? ⟨B, 2 + i * 4, none⟩ = some (.bool (f i).x) ∧ w.cell? ⟨B, 2 + i * 4 + 1, none⟩ = some (.bool (f i).s) ∧ w.cell? ⟨B, 2 + i * 4 + 2, none⟩ = some (U (f i).on) ∧ w.cell? ⟨B, 2 + i * 4 + 3, none⟩ = some (U (f i).wa)
  z : ∀ i, (f i).x = false → f i = et0
section
variable {w : World} {B n : Nat} {f : Nat → Et}
theorem Ev.lt (h : Ev w B n f) : B < w.heap.size := by obtain ⟨cs, h1, -⟩ := h.o; exact heap_lt h1
theorem Ev.frz (h : Ev w B n f) (j : Nat) : w.frozen? ⟨B, j, none⟩ = false := by obtain ⟨cs, h1, -⟩ := h.o; exact frozen_of_row w B j _ _ h1
theorem Ev.keptZ (h : Ev w B n f) {M : Nat → Prop} {w' : World} (hf : Fz M w w') (h1 : ¬ M B) : Ev w' B n f := by
  obtain ⟨cs, hc, hs⟩ := h.o
  refine ⟨⟨cs, hf.heap hc h1, hs⟩, hf.cell h.c0 h1, hf.cell h.c1 h1, h.m, fun i hi => ?_, h.z⟩
  obtain ⟨a, b, c, d⟩ := h.e i hi
  exact ⟨hf.cell a h1, hf.cell b h1, hf.cell c h1, hf.cell d h1⟩
theorem Ev.kept (h : Ev w B n f) {bs : List Nat} {w' : World} (hf : Fx bs w w') (h1 : B ∉ bs) : Ev w' B n f := h.keptZ (Fz.of_fx (M := fun x => x ∈ bs) hf (fun _ e => e)) h1
theorem Ev.below (h : Ev w B n f) {w' : World} (hf : Below w.heap.size w w') : Ev w' B n f := h.kept (bs := []) (Fx.of_below hf) (by simp)
theorem none_any (h : Ev w B n f) : Calls Tryz.prog 182 #[eP B] w fun e w' => e = .returned (.bool false) ∧ w = w' := by
  have c0 := h.c0
  go_enter Tryz.func182, Tryz.ntmps182
  go_wp2
  go_ret
  exact ⟨rfl, rfl⟩
theorem none_nil (w : World) : Calls Tryz.prog 182 #[.pointer none] w fun e w' => e = .returned (.bool true) ∧ w = w' := by
  go_enter Tryz.func182, Tryz.ntmps182
  go_wp2
  go_ret
  exact ⟨rfl, rfl⟩
theorem none_zero (w : World) (B : Nat) (c0 : w.cell? ⟨B, 0, none⟩ = some (.bool false)) : Calls Tryz.prog 182 #[eP B] w fun e w' => e = .returned (.bool true) ∧ w = w' := by
  go_enter Tryz.func182, Tryz.ntmps182
  go_wp2
  go_ret
  exact ⟨rfl, rfl⟩
theorem fresh_any (w : World) : Calls Tryz.prog 108 #[] w fun e w' => e = .returned (.agg #[.bool true, .bool false, U 0, U 0]) ∧ w' = w.alloc (.cells #[.bool true, .bool false, U 0, U 0] 189) := by
  go_enter Tryz.func108, Tryz.ntmps108
  go_wp2
  refine bodyPost_ret (v := .agg #[.bool true, .bool false, U 0, U 0]) ?_ rfl ⟨rfl, rfl⟩
  exact results_cell_row (P := Tryz.prog) Tryz.results108 _ _ w.heap.size 189 _ (0, 0) _ rfl (heap_alloc_new w _) Tryz.underlying189 rfl (by kernel_rfl)
theorem of_out (h : Ev w B n f) (t : Int) (ht : t < 0 ∨ (n : Int) ≤ t) : Calls Tryz.prog 116 #[eP B, I t] w fun e w' => e = .returned (.tuple #[.pointer none, I 3]) ∧ w = w' := by
  have c1 := h.c1
  have hN := none_any h
  by_cases h0 : t < 0
  · go_enter Tryz.func116, Tryz.ntmps116
    go_wp2_with (first | (go_at_call 182; refine hN.mono ?_; rintro e w1 ⟨rfl, rfl⟩))
    go_ret2
    exact ⟨rfl, rfl⟩
  · have h1 : (n : Int) ≤ t := by omega
    have h2 : ¬ t < (n : Int) := by omega
    go_enter Tryz.func116, Tryz.ntmps116
    go_wp2_with (first | (go_at_call 182; refine hN.mono ?_; rintro e w1 ⟨rfl, rfl⟩))
    go_ret2
    exact ⟨rfl, rfl⟩
set_option maxRecDepth 100000 in
theorem of_ok (h : Ev w B n f) (k : Nat) (hk : k < n) (hx : (f k).x = true) : Calls Tryz.prog 116 #[eP B, I k] w fun e w' => e = .returned (.tuple #[.pointer (some ⟨B, 2 + k * 4, none⟩), I 0]) ∧ w = w' := by
  have c1 := h.c1
  have hm := h.m
  have hN := none_any h
  obtain ⟨a, b, c, d⟩ := h.e k (by omega)
  rw [hx] at a
  have h0 : ¬ ((k : Int) < 0) := by omega
  have h1 : ¬ ((n : Int) ≤ k) := by omega
  have h2 : (k : Int) < n := by omega
  have h3 : (k : Int) < 256 := by omega
  have h4 : k < 256 := by omega
  go_enter Tryz.func116, Tryz.ntmps116
  go_wp2_with (first | (go_at_call 182; refine hN.mono ?_; rintro e w1 ⟨rfl, rfl⟩))
  go_ret2
  exact ⟨rfl, rfl⟩
set_option maxRecDepth 100000 in
theorem of_basic (h : Ev w B n f) (k : Nat) (hk : k < n) (hx : (f k).x = false) : Calls Tryz.prog 116 #[eP B, I k] w fun e w' => e = .returned (.tuple #[.pointer none, I 1]) ∧ w = w' := by
  have c1 := h.c1
  have hm := h.m
  have hN := none_any h
  obtain ⟨a, b, c, d⟩ := h.e k (by omega)
  rw [h.z k hx] at a b c d
  unfold et0 at a b c d
  simp only at a b c d
  have h0 : ¬ ((k : Int) < 0) := by omega
  have h1 : ¬ ((n : Int) ≤ k) := by omega
  have h2 : (k : Int) < n := by omega
  have h3 : (k : Int) < 256 := by omega
  have h4 : k < 256 := by omega
  go_enter Tryz.func116, Tryz.ntmps116
  go_wp2_with (first | (go_at_call 182; refine hN.mono ?_; rintro e w1 ⟨rfl, rfl⟩))
  go_ret2
  exact ⟨rfl, rfl⟩
/-- what of answers: a status, if there is one -/
def stE (n : Nat) (f : Nat → Et) (t : Int) : Int := if t < 0 ∨ (n : Int) ≤ t then 3 else if (f t.toNat).x then 0 else 1
theorem of_no (h : Ev w B n f) (t : Int) (ht : stE n f t ≠ 0) : Calls Tryz.prog 116 #[eP B, I t] w fun e w' => e = .returned (.tuple #[.pointer none, I (stE n f t)]) ∧ w = w' := by
  by_cases h1 : t < 0 ∨ (n : Int) ≤ t
  · rw [show stE n f t = 3 by unfold stE; rw [if_pos h1]]
    exact of_out h t h1
  · have e1 : stE n f t = if (f t.toNat).x then 0 else 1 := by unfold stE; rw [if_neg h1]
    obtain ⟨k, rfl⟩ := Int.eq_ofNat_of_zero_le (show 0 ≤ t by omega)
    rw [e1] at ht ⊢
    cases hx : (f k).x with
    | true => simp [hx] at ht
    | false =>
      simp only [Int.toNat_natCast, hx]
      exact of_basic h k (by omega) hx
theorem stE_zero {t : Int} (h : stE n f t = 0) : ∃ k : Nat, t = k ∧ k < n ∧ (f k).x = true := by
  unfold stE at h
  split at h
  · omega
  · refine ⟨t.toNat, by omega, by omega, ?_⟩
    split at h
    · assumption
    · omega
theorem stE_cases (n : Nat) (f : Nat → Et) (t : Int) : stE n f t = 3 ∨ stE n f t = 1 ∨ stE n f t = 0 := by
  unfold stE
  split
  · exact .inl rfl
  · split
    · exact .inr (.inr rfl)
    · exact .inr (.inl rfl)
end
def upf (f : Nat → Et) (k : Nat) (v : Et) : Nat → Et := fun i => if i = k then v else f i
theorem upf_same (f : Nat → Et) (k : Nat) (v : Et) : upf f k v k = v := by simp [upf]
theorem upf_upf (f : Nat → Et) (k : Nat) (a b : Et) : upf (upf f k a) k b = upf f k b := by funext i; simp only [upf]; split <;> rfl
section
variable {w : World} {B n : Nat} {f : Nat → Et}
theorem cell_set_off {w : World} {B i j : Nat} {v u : Value} (h : w.cell? ⟨B, i, none⟩ = some u) (hij : j ≠ i) : (w.setCell ⟨B, j, none⟩ v).cell? ⟨B, i, none⟩ = some u := by
  rw [World.cell?_setCell_other _ _ _ _ (by intro e; injection e with e1 e2 e3; exact hij e2)]
  exact h
theorem cell_set_on {w : World} {B i : Nat} {v u : Value} (h : w.cell? ⟨B, i, none⟩ = some u) : (w.setCell ⟨B, i, none⟩ v).cell? ⟨B, i, none⟩ = some v := World.cell?_setCell_same _ _ _ h
theorem Ev.setc (h : Ev w B n f) (j : Nat) (v : Value) : ∃ cs, (w.setCell ⟨B, j, none⟩ v).heap[B]? = some (.cells cs 192) ∧ cs.size = 1026 := by
  obtain ⟨cs, h1, h2⟩ := h.o
  exact ⟨_, heap_setCell_same w B j cs _ v h1, by simpa using h2⟩
theorem Ev.setOn (h : Ev w B n f) {k : Nat} (hk : k < 256) (hx : (f k).x = true) (v : Int) : Ev (w.setCell ⟨B, 2 + k * 4 + 2, none⟩ (U v)) B n (upf f k ⟨(f k).x, (f k).s, v, (f k).wa⟩) := by
  refine ⟨h.setc _ _, cell_set_off h.c0 (by omega), cell_set_off h.c1 (by omega), h.m, fun i hi => ?_, fun i => ?_⟩
  · obtain ⟨a, b, c, d⟩ := h.e i hi
    by_cases e : i = k
    · subst e
      rw [upf_same]
      exact ⟨cell_set_off a (by omega), cell_set_off b (by omega), cell_set_on c, cell_set_off d (by omega)⟩
    · rw [show upf f k ⟨(f k).x, (f k).s, v, (f k).wa⟩ i = f i by simp [upf, e]]
      exact ⟨cell_set_off a (by omega), cell_set_off b (by omega), cell_set_off c (by omega), cell_set_off d (by omega)⟩
  · by_cases e : i = k
    · subst e; rw [upf_same]; intro e2; rw [hx] at e2; cases e2
    · rw [show upf f k ⟨(f k).x, (f k).s, v, (f k).wa⟩ i = f i by simp [upf, e]]; exact h.z i
theorem Ev.setS (h : Ev w B n f) {k : Nat} (hk : k < 256) (hx : (f k).x = true) (v : Bool) : Ev (w.setCell ⟨B, 2 + k * 4 + 1, none⟩ (.bool v)) B n (upf f k ⟨(f k).x, v, (f k).on, (f k).wa⟩) := by
  refine ⟨h.setc _ _, cell_set_off h.c0 (by omega), cell_set_off h.c1 (by omega), h.m, fun i hi => ?_, fun i => ?_⟩
  · obtain ⟨a, b, c, d⟩ := h.e i hi
    by_cases e : i = k
    · subst e
      rw [upf_same]
      exact ⟨cell_set_off a (by omega), cell_set_on b, cell_set_off c (by omega), cell_set_off d (by omega)⟩
    · rw [show upf f k ⟨(f k).x, v, (f k).on, (f k).wa⟩ i = f i by simp [upf, e]]
      exact ⟨cell_set_off a (by omega), cell_set_off b (by omega), cell_set_off c (by omega), cell_set_off d (by omega)⟩
  · by_cases e : i = k
    · subst e; rw [upf_same]; intro e2; rw [hx] at e2; cases e2
    · rw [show upf f k ⟨(f k).x, v, (f k).on, (f k).wa⟩ i = f i by simp [upf, e]]; exact h.z i
theorem Ev.setWa (h : Ev w B n f) {k : Nat} (hk : k < 256) (hx : (f k).x = true) (v : Int) : Ev (w.setCell ⟨B, 2 + k * 4 + 3, none⟩ (U v)) B n (upf f k ⟨(f k).x, (f k).s, (f k).on, v⟩) := by
  refine ⟨h.setc _ _, cell_set_off h.c0 (by omega), cell_set_off h.c1 (by omega), h.m, fun i hi => ?_, fun i => ?_⟩
  · obtain ⟨a, b, c, d⟩ := h.e i hi
    by_cases e : i = k
    · subst e
      rw [upf_same]
      exact ⟨cell_set_off a (by omega), cell_set_off b (by omega), cell_set_off c (by omega), cell_set_on d⟩
    · rw [show upf f k ⟨(f k).x, (f k).s, (f k).on, v⟩ i = f i by simp [upf, e]]
      exact ⟨cell_set_off a (by omega), cell_set_off b (by omega), cell_set_off c (by omega), cell_set_off d (by omega)⟩
  · by_cases e : i = k
    · subst e; rw [upf_same]; intro e2; rw [hx] at e2; cases e2
    · rw [show upf f k ⟨(f k).x, (f k).s, (f k).on, v⟩ i = f i by simp [upf, e]]; exact h.z i
end
end Go.Proofs.YtglnfifdjlgbcaaGreatDoor.Ev

namespace Go.Proofs.YtglnfifdjlgbcaaGreatDoor.Ev
open Go.RowKit
set_option linter.unusedVariables false
set_option linter.unusedSimpArgs false

/-! ### Set, Clear, Get, Wait, Waits, Fresh -/
abbrev orU (a b : Int) : Int := bits .or .u32 a b
abbrev andU (a b : Int) : Int := bits .and .u32 a b
abbrev anU (a b : Int) : Int := bits .andNot .u32 a b
section
variable {w : World} {B n : Nat} {f : Nat → Et}
theorem Get_no (h : Ev w B n f) (t : Int) (ht : stE n f t ≠ 0) : Calls Tryz.prog 109 #[eP B, I t] w fun e w' => e = .returned (.tuple #[U 0, I (stE n f t)]) ∧ w = w' := by
  have hO := of_no h t ht
  generalize stE n f t = s at *
  go_enter Tryz.func109, Tryz.ntmps109
  go_wp2_with (first | (go_at_call 116; refine hO.mono ?_; rintro e w1 ⟨rfl, rfl⟩))
  go_ret2
  exact ⟨rfl, rfl⟩
theorem Get_ok (h : Ev w B n f) (k : Nat) (hk : k < n) (hx : (f k).x = true) : Calls Tryz.prog 109 #[eP B, I k] w fun e w' => e = .returned (.tuple #[U (f k).on, I 0]) ∧ w = w' := by
  have hO := of_ok h k hk hx
  have hm := h.m
  obtain ⟨a, b, c, d⟩ := h.e k (by omega)
  go_enter Tryz.func109, Tryz.ntmps109
  go_wp2_with (first | (go_at_call 116; refine hO.mono ?_; rintro e w1 ⟨rfl, rfl⟩))
  go_ret2
  exact ⟨rfl, rfl⟩
theorem Waits_no (h : Ev w B n f) (t : Int) (ht : stE n f t ≠ 0) : Calls Tryz.prog 237 #[eP B, I t] w fun e w' => e = .returned (U 0) ∧ w = w' := by
  have hO := of_no h t ht
  generalize stE n f t = s at *
  go_enter Tryz.func237, Tryz.ntmps237
  go_wp2_with (first | (go_at_call 116; refine hO.mono ?_; rintro e w1 ⟨rfl, rfl⟩))
  go_ret
  exact ⟨rfl, rfl⟩
theorem Waits_ok (h : Ev w B n f) (k : Nat) (hk : k < n) (hx : (f k).x = true) : Calls Tryz.prog 237 #[eP B, I k] w fun e w' => e = .returned (U (f k).wa) ∧ w = w' := by
  have hO := of_ok h k hk hx
  have hm := h.m
  obtain ⟨a, b, c, d⟩ := h.e k (by omega)
  go_enter Tryz.func237, Tryz.ntmps237
  go_wp2_with (first | (go_at_call 116; refine hO.mono ?_; rintro e w1 ⟨rfl, rfl⟩))
  go_ret
  exact ⟨rfl, rfl⟩
theorem Clear_no (h : Ev w B n f) (t m : Int) (ht : stE n f t ≠ 0) : Calls Tryz.prog 236 #[eP B, I t, U m] w fun e w' => e = .returned (I (stE n f t)) ∧ w = w' := by
  have hO := of_no h t ht
  generalize stE n f t = s at *
  go_enter Tryz.func236, Tryz.ntmps236
  go_wp2_with (first | (go_at_call 116; refine hO.mono ?_; rintro e w1 ⟨rfl, rfl⟩))
  go_ret
  exact ⟨rfl, rfl⟩
theorem Clear_ok (h : Ev w B n f) (k : Nat) (hk : k < n) (hx : (f k).x = true) (m : Int) : Calls Tryz.prog 236 #[eP B, I k, U m] w fun e w' => e = .returned (I 0) ∧ Ev w' B n (upf f k ⟨(f k).x, (f k).s, anU (f k).on m, (f k).wa⟩) ∧ Fx [B] w w' := by
  have hO := of_ok h k hk hx
  have hm := h.m
  have hE := h.setOn (k := k) (by omega) hx (anU (f k).on m)
  have hF : Fx [B] w (w.setCell ⟨B, 2 + k * 4 + 2, none⟩ (U (anU (f k).on m))) := (Fx.refl _ _).set (.inl (by simp)) _ _
  have fz := h.frz (2 + k * 4 + 2)
  obtain ⟨a, b, c, d⟩ := h.e k (by omega)
  go_enter Tryz.func236, Tryz.ntmps236
  go_wp2_with (first | (go_at_call 116; refine hO.mono ?_; rintro e w1 ⟨rfl, rfl⟩))
  go_ret
  exact ⟨rfl, hE, hF⟩
theorem Set_no (h : Ev w B n f) (t m : Int) (ht : stE n f t ≠ 0) : Calls Tryz.prog 112 #[eP B, I t, U m] w fun e w' => e = .returned (.tuple #[.bool false, I (stE n f t)]) ∧ w = w' := by
  have hO := of_no h t ht
  generalize stE n f t = s at *
  go_enter Tryz.func112, Tryz.ntmps112
  go_wp2_with (first | (go_at_call 116; refine hO.mono ?_; rintro e w1 ⟨rfl, rfl⟩))
  go_ret2
  exact ⟨rfl, rfl⟩
theorem Wait_no (h : Ev w B n f) (t m : Int) (ht : stE n f t ≠ 0) : Calls Tryz.prog 224 #[eP B, I t, U m] w fun e w' => e = .returned (.tuple #[.bool false, I (stE n f t)]) ∧ w = w' := by
  have hO := of_no h t ht
  generalize stE n f t = s at *
  go_enter Tryz.func224, Tryz.ntmps224
  go_wp2_with (first | (go_at_call 116; refine hO.mono ?_; rintro e w1 ⟨rfl, rfl⟩))
  go_ret2
  exact ⟨rfl, rfl⟩
theorem Fresh_no (h : Ev w B n f) (t : Int) (ht : stE n f t ≠ 0) : Calls Tryz.prog 40 #[eP B, I t] w fun e w' => e = .returned (I (stE n f t)) ∧ w = w' := by
  have hO := of_no h t ht
  generalize stE n f t = s at *
  go_enter Tryz.func40, Tryz.ntmps40
  go_wp2_with (first | (go_at_call 116; refine hO.mono ?_; rintro e w1 ⟨rfl, rfl⟩))
  go_ret
  exact ⟨rfl, rfl⟩
end
end Go.Proofs.YtglnfifdjlgbcaaGreatDoor.Ev

namespace Go.Proofs.YtglnfifdjlgbcaaGreatDoor.Ev
open Go.RowKit
set_option linter.unusedVariables false
set_option linter.unusedSimpArgs false

def dueE (e : Et) (m : Int) : Bool := e.s && decide (andU (orU e.on m) e.wa ≠ 0)
def setE (e : Et) (m : Int) : Et := if dueE e m then ⟨e.x, false, orU e.on m, 0⟩ else ⟨e.x, e.s, orU e.on m, e.wa⟩
section
variable {w : World} {B n : Nat} {f : Nat → Et}
set_option maxRecDepth 100000 in
theorem Set_f (h : Ev w B n f) (k : Nat) (hk : k < n) (hx : (f k).x = true) (m : Int) (hs : (f k).s = false) : Calls Tryz.prog 112 #[eP B, I k, U m] w fun e w' => e = .returned (.tuple #[.bool false, I 0]) ∧ Ev w' B n (upf f k ⟨true, false, orU (f k).on m, (f k).wa⟩) ∧ Fx [B] w w' := by
  have hO := of_ok h k hk hx
  have hm := h.m
  have hE := h.setOn (k := k) (by omega) hx (orU (f k).on m)
  have hF : Fx [B] w (w.setCell ⟨B, 2 + k * 4 + 2, none⟩ (U (orU (f k).on m))) := (Fx.refl _ _).set (.inl (by simp)) _ _
  have fz := h.frz (2 + k * 4 + 2)
  obtain ⟨-, -, c, -⟩ := h.e k (by omega)
  rw [hx, hs] at hE
  clear h hx hs
  simp only [orU, andU] at *
  go_enter Tryz.func112, Tryz.ntmps112
  go_upto_region 5 with (first | (go_at_call 116; refine hO.mono ?_; rintro e w1 ⟨rfl, rfl⟩))
  generalize (w.setCell ⟨B, 2 + k * 4 + 2, none⟩ (U (bits .or .u32 (f k).on m))) = w1 at *
  clear c fz hO
  obtain ⟨-, c1, c2, c3⟩ := hE.e k (by omega)
  rw [upf_same] at c1 c2 c3
  simp only at c1 c2 c3
  go_region
  all_goals
    have hE2 := hE.below ((Below.refl _ _).drew)
    have hF2 : Fx [B] w w1.drew := hF.drewN 1
    clear hE hF c1 c2 c3
    generalize w1.drew = w2 at *
    have E1 := hE2.setS (k := k) (by omega) (by rw [upf_same]) false
    have E2 := E1.setWa (k := k) (by omega) (by rw [upf_same, upf_same]) 0
    rw [upf_same, upf_upf, upf_same, upf_upf] at E2
    have F2 := (hF2.set (.inl (by simp : B ∈ [B])) (2 + k * 4 + 1) (.bool false)).set (.inl (by simp : B ∈ [B])) (2 + k * 4 + 3) (U 0)
    have fz := fun j => hE2.frz j
    obtain ⟨-, c1, c2, c3⟩ := hE2.e k (by omega)
    rw [upf_same] at c1 c2 c3
    have c4 : (w2.setCell ⟨B, 2 + k * 4 + 1, none⟩ (.bool false)).cell? ⟨B, 2 + k * 4 + 3, none⟩ = some (U (f k).wa) := cell_set_off c3 (by omega)
    simp only at E2 c1 c2 c3
    clear E1
    go_wp2
    go_ret2
    exact ⟨rfl, hE2, hF2⟩
set_option maxRecDepth 100000 in
theorem Set_t (h : Ev w B n f) (k : Nat) (hk : k < n) (hx : (f k).x = true) (m : Int) (hs : (f k).s = true) (hz : andU (orU (f k).on m) (f k).wa ≠ 0) : Calls Tryz.prog 112 #[eP B, I k, U m] w fun e w' => e = .returned (.tuple #[.bool true, I 0]) ∧ Ev w' B n (upf f k ⟨true, false, orU (f k).on m, 0⟩) ∧ Fx [B] w w' := by
  have hO := of_ok h k hk hx
  have hm := h.m
  have hE := h.setOn (k := k) (by omega) hx (orU (f k).on m)
  have hF : Fx [B] w (w.setCell ⟨B, 2 + k * 4 + 2, none⟩ (U (orU (f k).on m))) := (Fx.refl _ _).set (.inl (by simp)) _ _
  have fz := h.frz (2 + k * 4 + 2)
  obtain ⟨-, -, c, -⟩ := h.e k (by omega)
  rw [hx, hs] at hE
  clear h hx hs
  simp only [orU, andU] at *
  go_enter Tryz.func112, Tryz.ntmps112
  go_upto_region 5 with (first | (go_at_call 116; refine hO.mono ?_; rintro e w1 ⟨rfl, rfl⟩))
  generalize (w.setCell ⟨B, 2 + k * 4 + 2, none⟩ (U (bits .or .u32 (f k).on m))) = w1 at *
  clear c fz hO
  obtain ⟨-, c1, c2, c3⟩ := hE.e k (by omega)
  rw [upf_same] at c1 c2 c3
  simp only at c1 c2 c3
  go_region
  all_goals
    have hE2 := hE.below ((Below.refl _ _).drew)
    have hF2 : Fx [B] w w1.drew := hF.drewN 1
    clear hE hF c1 c2 c3
    generalize w1.drew = w2 at *
    have E1 := hE2.setS (k := k) (by omega) (by rw [upf_same]) false
    have E2 := E1.setWa (k := k) (by omega) (by rw [upf_same, upf_same]) 0
    rw [upf_same, upf_upf, upf_same, upf_upf] at E2
    have F2 := (hF2.set (.inl (by simp : B ∈ [B])) (2 + k * 4 + 1) (.bool false)).set (.inl (by simp : B ∈ [B])) (2 + k * 4 + 3) (U 0)
    have fz := fun j => hE2.frz j
    obtain ⟨-, c1, c2, c3⟩ := hE2.e k (by omega)
    rw [upf_same] at c1 c2 c3
    have c4 : (w2.setCell ⟨B, 2 + k * 4 + 1, none⟩ (.bool false)).cell? ⟨B, 2 + k * 4 + 3, none⟩ = some (U (f k).wa) := cell_set_off c3 (by omega)
    simp only at E2 c1 c2 c3
    clear E1
    go_wp2
    go_ret2
    refine ⟨?_, E2, F2⟩
    show Ending.returned (.tuple #[.bool (bits .and .u32 _ _ != 0), I 0]) = _
    rw [show (bits .and .u32 (bits .or .u32 (f k).on m) (f k).wa != 0) = true by simpa using hz]
set_option maxRecDepth 100000 in
theorem Set_u (h : Ev w B n f) (k : Nat) (hk : k < n) (hx : (f k).x = true) (m : Int) (hs : (f k).s = true) (hz : andU (orU (f k).on m) (f k).wa = 0) : Calls Tryz.prog 112 #[eP B, I k, U m] w fun e w' => e = .returned (.tuple #[.bool false, I 0]) ∧ Ev w' B n (upf f k ⟨true, true, orU (f k).on m, (f k).wa⟩) ∧ Fx [B] w w' := by
  have hO := of_ok h k hk hx
  have hm := h.m
  have hE := h.setOn (k := k) (by omega) hx (orU (f k).on m)
  have hF : Fx [B] w (w.setCell ⟨B, 2 + k * 4 + 2, none⟩ (U (orU (f k).on m))) := (Fx.refl _ _).set (.inl (by simp)) _ _
  have fz := h.frz (2 + k * 4 + 2)
  obtain ⟨-, -, c, -⟩ := h.e k (by omega)
  rw [hx, hs] at hE
  clear h hx hs
  simp only [orU, andU] at *
  go_enter Tryz.func112, Tryz.ntmps112
  go_upto_region 5 with (first | (go_at_call 116; refine hO.mono ?_; rintro e w1 ⟨rfl, rfl⟩))
  generalize (w.setCell ⟨B, 2 + k * 4 + 2, none⟩ (U (bits .or .u32 (f k).on m))) = w1 at *
  clear c fz hO
  obtain ⟨-, c1, c2, c3⟩ := hE.e k (by omega)
  rw [upf_same] at c1 c2 c3
  simp only at c1 c2 c3
  go_region
  all_goals
    have hE2 := hE.below ((Below.refl _ _).drew)
    have hF2 : Fx [B] w w1.drew := hF.drewN 1
    clear hE hF c1 c2 c3
    generalize w1.drew = w2 at *
    have E1 := hE2.setS (k := k) (by omega) (by rw [upf_same]) false
    have E2 := E1.setWa (k := k) (by omega) (by rw [upf_same, upf_same]) 0
    rw [upf_same, upf_upf, upf_same, upf_upf] at E2
    have F2 := (hF2.set (.inl (by simp : B ∈ [B])) (2 + k * 4 + 1) (.bool false)).set (.inl (by simp : B ∈ [B])) (2 + k * 4 + 3) (U 0)
    have fz := fun j => hE2.frz j
    obtain ⟨-, c1, c2, c3⟩ := hE2.e k (by omega)
    rw [upf_same] at c1 c2 c3
    have c4 : (w2.setCell ⟨B, 2 + k * 4 + 1, none⟩ (.bool false)).cell? ⟨B, 2 + k * 4 + 3, none⟩ = some (U (f k).wa) := cell_set_off c3 (by omega)
    simp only at E2 c1 c2 c3
    clear E1
    go_wp2
    go_ret2
    exact ⟨rfl, hE2, hF2⟩
theorem Set_ok (h : Ev w B n f) (k : Nat) (hk : k < n) (hx : (f k).x = true) (m : Int) : Calls Tryz.prog 112 #[eP B, I k, U m] w fun e w' => e = .returned (.tuple #[.bool (dueE (f k) m), I 0]) ∧ Ev w' B n (upf f k (setE (f k) m)) ∧ Fx [B] w w' := by
  cases hs : (f k).s with
  | false =>
    rw [show setE (f k) m = ⟨true, false, orU (f k).on m, (f k).wa⟩ by simp [setE, dueE, hs, hx], show dueE (f k) m = false by simp [dueE, hs]]
    exact Set_f h k hk hx m hs
  | true =>
    by_cases hz : andU (orU (f k).on m) (f k).wa = 0
    · rw [show setE (f k) m = ⟨true, true, orU (f k).on m, (f k).wa⟩ by simp [setE, dueE, hs, hx, hz], show dueE (f k) m = false by simp [dueE, hs, hz]]
      exact Set_u h k hk hx m hs hz
    · rw [show setE (f k) m = ⟨true, false, orU (f k).on m, 0⟩ by simp [setE, dueE, hs, hx, hz], show dueE (f k) m = true by simp [dueE, hs, hz]]
      exact Set_t h k hk hx m hs hz
end
end Go.Proofs.YtglnfifdjlgbcaaGreatDoor.Ev

namespace Go.Proofs.YtglnfifdjlgbcaaGreatDoor.Ev
open Go.RowKit
set_option linter.unusedVariables false
set_option linter.unusedSimpArgs false

section
variable {w : World} {B n : Nat} {f : Nat → Et}
theorem Wait_s (h : Ev w B n f) (k : Nat) (hk : k < n) (hx : (f k).x = true) (m : Int) (hs : (f k).s = true) : Calls Tryz.prog 224 #[eP B, I k, U m] w fun e w' => e = .returned (.tuple #[.bool false, I 7]) ∧ w = w' := by
  have hO := of_ok h k hk hx
  have hm := h.m
  obtain ⟨-, c1, c2, c3⟩ := h.e k (by omega)
  rw [hs] at c1
  go_enter Tryz.func224, Tryz.ntmps224
  go_wp2_with (first | (go_at_call 116; refine hO.mono ?_; rintro e w1 ⟨rfl, rfl⟩))
  go_ret2
  exact ⟨rfl, rfl⟩
theorem Wait_d (h : Ev w B n f) (k : Nat) (hk : k < n) (hx : (f k).x = true) (m : Int) (hs : (f k).s = false) (hz : andU (f k).on m ≠ 0) : Calls Tryz.prog 224 #[eP B, I k, U m] w fun e w' => e = .returned (.tuple #[.bool false, I 0]) ∧ w = w' := by
  have hO := of_ok h k hk hx
  have hm := h.m
  obtain ⟨-, c1, c2, c3⟩ := h.e k (by omega)
  rw [hs] at c1
  simp only [andU] at hz
  go_enter Tryz.func224, Tryz.ntmps224
  go_wp2_with (first | (go_at_call 116; refine hO.mono ?_; rintro e w1 ⟨rfl, rfl⟩))
  go_ret2
  exact ⟨rfl, rfl⟩
theorem Wait_w (h : Ev w B n f) (k : Nat) (hk : k < n) (hx : (f k).x = true) (m : Int) (hs : (f k).s = false) (hz : andU (f k).on m = 0) : Calls Tryz.prog 224 #[eP B, I k, U m] w fun e w' => e = .returned (.tuple #[.bool true, I 0]) ∧ Ev w' B n (upf f k ⟨true, true, (f k).on, m⟩) ∧ Fx [B] w w' := by
  have hO := of_ok h k hk hx
  have hm := h.m
  have E1 := h.setS (k := k) (by omega) hx true
  rw [hx] at E1
  have E2 := E1.setWa (k := k) (by omega) (by rw [upf_same]) m
  rw [upf_same, upf_upf] at E2
  have F2 := ((Fx.refl [B] w).set (.inl (by simp : B ∈ [B])) (2 + k * 4 + 1) (.bool true)).set (.inl (by simp : B ∈ [B])) (2 + k * 4 + 3) (U m)
  have fz := fun j => h.frz j
  obtain ⟨-, c1, c2, c3⟩ := h.e k (by omega)
  have c4 : (w.setCell ⟨B, 2 + k * 4 + 1, none⟩ (.bool true)).cell? ⟨B, 2 + k * 4 + 3, none⟩ = some (U (f k).wa) := cell_set_off c3 (by omega)
  clear E1
  rw [hs] at c1
  simp only [andU] at hz
  go_enter Tryz.func224, Tryz.ntmps224
  go_wp2_with (first | (go_at_call 116; refine hO.mono ?_; rintro e w1 ⟨rfl, rfl⟩))
  go_ret2
  exact ⟨rfl, E2, F2⟩
def waitE (e : Et) (m : Int) : Et := if e.s || decide (andU e.on m ≠ 0) then e else ⟨e.x, true, e.on, m⟩
def waitB (e : Et) (m : Int) : Bool := !e.s && decide (andU e.on m = 0)
def waitI (e : Et) : Int := if e.s then 7 else 0
theorem upf_self (f : Nat → Et) (k : Nat) : upf f k (f k) = f := by funext i; simp only [upf]; split <;> simp_all
theorem Wait_ok (h : Ev w B n f) (k : Nat) (hk : k < n) (hx : (f k).x = true) (m : Int) : Calls Tryz.prog 224 #[eP B, I k, U m] w fun e w' => e = .returned (.tuple #[.bool (waitB (f k) m), I (waitI (f k))]) ∧ Ev w' B n (upf f k (waitE (f k) m)) ∧ Fx [B] w w' := by
  cases hs : (f k).s with
  | true =>
    rw [show waitE (f k) m = f k by simp [waitE, hs], show waitB (f k) m = false by simp [waitB, hs], show waitI (f k) = 7 by simp [waitI, hs], upf_self]
    refine (Wait_s h k hk hx m hs).mono ?_
    rintro e w1 ⟨rfl, rfl⟩
    exact ⟨rfl, h, Fx.refl _ _⟩
  | false =>
    by_cases hz : andU (f k).on m = 0
    · rw [show waitE (f k) m = ⟨true, true, (f k).on, m⟩ by simp [waitE, hs, hz, hx], show waitB (f k) m = true by simp [waitB, hs, hz], show waitI (f k) = 0 by simp [waitI, hs]]
      exact Wait_w h k hk hx m hs hz
    · rw [show waitE (f k) m = f k by simp [waitE, hs, hz], show waitB (f k) m = false by simp [waitB, hs, hz], show waitI (f k) = 0 by simp [waitI, hs], upf_self]
      refine (Wait_d h k hk hx m hs hz).mono ?_
      rintro e w1 ⟨rfl, rfl⟩
      exact ⟨rfl, h, Fx.refl _ _⟩
theorem Ev.setX (h : Ev w B n f) {k : Nat} (hk : k < 256) : Ev (w.setCell ⟨B, 2 + k * 4, none⟩ (.bool true)) B n (upf f k ⟨true, (f k).s, (f k).on, (f k).wa⟩) := by
  refine ⟨h.setc _ _, cell_set_off h.c0 (by omega), cell_set_off h.c1 (by omega), h.m, fun i hi => ?_, fun i => ?_⟩
  · obtain ⟨a, b, c, d⟩ := h.e i hi
    by_cases e : i = k
    · subst e
      rw [upf_same]
      exact ⟨cell_set_on a, cell_set_off b (by omega), cell_set_off c (by omega), cell_set_off d (by omega)⟩
    · rw [show upf f k ⟨true, (f k).s, (f k).on, (f k).wa⟩ i = f i by simp [upf, e]]
      exact ⟨cell_set_off a (by omega), cell_set_off b (by omega), cell_set_off c (by omega), cell_set_off d (by omega)⟩
  · by_cases e : i = k
    · subst e; rw [upf_same]; intro e2; cases e2
    · rw [show upf f k ⟨true, (f k).s, (f k).on, (f k).wa⟩ i = f i by simp [upf, e]]; exact h.z i
/-- the world behind a store of fresh events at a task -/
def fr4 (w : World) (B k : Nat) : World := (((w.setCell ⟨B, 2 + k * 4, none⟩ (.bool true)).setCell ⟨B, 2 + k * 4 + 1, none⟩ (.bool false)).setCell ⟨B, 2 + k * 4 + 2, none⟩ (U 0)).setCell ⟨B, 2 + k * 4 + 3, none⟩ (U 0)
theorem Ev.fr4 (h : Ev w B n f) {k : Nat} (hk : k < 256) : Ev (fr4 w B k) B n (upf f k et1) := by
  have h1 := h.setX hk
  have h2 := h1.setS hk (by rw [upf_same]) false
  rw [upf_same, upf_upf] at h2
  have h3 := h2.setOn hk (by rw [upf_same]) 0
  rw [upf_same, upf_upf] at h3
  have h4 := h3.setWa hk (by rw [upf_same]) 0
  rw [upf_same, upf_upf] at h4
  exact h4
theorem fx_fr4 (w : World) (B k : Nat) : Fx [B] w (fr4 w B k) :=
  ((((Fx.refl [B] w).set (.inl (by simp)) _ _).set (.inl (by simp)) _ _).set (.inl (by simp)) _ _).set (.inl (by simp)) _ _
/-- what a store of fresh events at a task asks -/
theorem Ev.ask4 (h : Ev w B n f) {k : Nat} (hk : k < 256) : (∀ j, w.frozen? ⟨B, j, none⟩ = false) ∧ w.cell? ⟨B, 2 + k * 4, none⟩ = some (.bool (f k).x) ∧ (w.setCell ⟨B, 2 + k * 4, none⟩ (.bool true)).cell? ⟨B, 2 + k * 4 + 1, none⟩ = some (.bool (f k).s) ∧
    ((w.setCell ⟨B, 2 + k * 4, none⟩ (.bool true)).setCell ⟨B, 2 + k * 4 + 1, none⟩ (.bool false)).cell? ⟨B, 2 + k * 4 + 2, none⟩ = some (U (f k).on) ∧
    (((w.setCell ⟨B, 2 + k * 4, none⟩ (.bool true)).setCell ⟨B, 2 + k * 4 + 1, none⟩ (.bool false)).setCell ⟨B, 2 + k * 4 + 2, none⟩ (U 0)).cell? ⟨B, 2 + k * 4 + 3, none⟩ = some (U (f k).wa) := by
  obtain ⟨a, b, c, d⟩ := h.e k hk
  exact ⟨h.frz, a, cell_set_off b (by omega), cell_set_off (cell_set_off c (by omega)) (by omega), cell_set_off (cell_set_off (cell_set_off d (by omega)) (by omega)) (by omega)⟩
theorem fresh_bel (w : World) : Calls Tryz.prog 108 #[] w fun e w' => e = .returned (.agg #[.bool true, .bool false, U 0, U 0]) ∧ Below w.heap.size w w' := by
  refine (fresh_any w).mono ?_
  rintro e w1 ⟨rfl, rfl⟩
  exact ⟨rfl, below_alloc _ _⟩
set_option maxRecDepth 100000 in
theorem Fresh_ok (h : Ev w B n f) (k : Nat) (hk : k < n) (hx : (f k).x = true) : Calls Tryz.prog 40 #[eP B, I k] w fun e w' => e = .returned (I 0) ∧ Ev w' B n (upf f k et1) ∧ Fx [B] w w' := by
  have hO := of_ok h k hk hx
  have hm : k < 256 := by have := h.m; omega
  have hE : Hid (Ev w B n f) := h
  clear h
  go_enter Tryz.func40, Tryz.ntmps40
  go_wp2_with (first | (go_at_call 116; refine hO.mono ?_; clear hO; rintro e w1 ⟨rfl, rfl⟩) | (go_at_call 108; refine (fresh_bel _).mono ?_; rintro e w2 ⟨rfl, hb⟩; have hE2 := hE.out.below hb; have F2 : Fx [B] w w2 := Fx.of_below hb; clear hb hE; obtain ⟨fz, a0, a1, a2, a3⟩ := hE2.ask4 hm))
  go_ret
  exact ⟨rfl, hE2.fr4 hm, F2.trans (fx_fr4 w2 B k)⟩
end
end Go.Proofs.YtglnfifdjlgbcaaGreatDoor.Ev

