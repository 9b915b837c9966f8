import Derived.WalkKit
import Derived.Test.YtglnfifdjlgbcaaGreatDoorProg
import Derived.WalkSpells
import Derived.WalkLawsBesides
import Derived.BigQuiet
import Derived.OwnWalk
import Derived.Deep.LoopGhost
import Derived.Deep.QuietTactic
import Derived.Lib.SliceRun
import Derived.Deep.RegionLaw
import Derived.Deep.RegionHeldLaw
import Derived.Laws.CopyOwn
namespace Go.Proofs.YtglnfifdjlgbcaaGreatDoor.Re
set_option linter.unusedVariables false
set_option linter.unusedSimpArgs false

/-! ### A row in a room (lists) -/
theorem modn {n f i : Nat} (hf : f < n) (hi : i ≤ n) : (f + i) % n = if f + i < n then f + i else f + i - n := by
  split
  · rename_i h; exact Nat.mod_eq_of_lt h
  · rename_i h
    rw [Nat.mod_eq_sub_mod (by omega)]
    by_cases h2 : f + i - n < n
    · exact Nat.mod_eq_of_lt h2
    · omega
/-- The row l lies in the room R from f on; it may go on from the room's beginning. -/
structure Rw {α : Type} (R : List α) (f : Nat) (l : List α) : Prop where
  p : f = 0 ∨ f < R.length
  c : l.length ≤ R.length
  a : ∀ i, i < l.length → R[(f + i) % R.length]? = l[i]?
theorem Rw.new {α : Type} (R : List α) : Rw R 0 [] := ⟨.inl rfl, by simp, fun i hi => by simp at hi⟩
theorem Rw.lt {α : Type} {R : List α} {f : Nat} {l : List α} (h : Rw R f l) (hn : 0 < R.length) : f < R.length := by
  rcases h.p with e | e <;> omega
theorem Rw.place {α : Type} {R : List α} {f : Nat} {l : List α} (h : Rw R f l) (hn : 0 < R.length) (i : Nat) : (f + i) % R.length < R.length := Nat.mod_lt _ hn
theorem Rw.last {α : Type} {R : List α} {f : Nat} {l : List α} (h : Rw R f l) (hc : l.length < R.length) (v : α) : Rw (R.set ((f + l.length) % R.length) v) f (l ++ [v]) := by
  have hf := h.lt (by omega)
  refine ⟨.inr (by simpa using hf), by simp; omega, fun i hi => ?_⟩
  rw [List.length_set]
  simp only [List.length_append, List.length_cons, List.length_nil] at hi
  by_cases hl : i < l.length
  · rw [List.getElem?_set_ne ?_, List.getElem?_append_left hl]
    · exact h.a i hl
    · rw [modn hf (by omega), modn hf (by omega)]
      split <;> split <;> omega
  · obtain rfl : i = l.length := by omega
    rw [List.getElem?_set_self (Nat.mod_lt _ (by omega))]
    simp
theorem Rw.first {α : Type} {R : List α} {f : Nat} {l : List α} (h : Rw R f l) (hc : l.length < R.length) (v : α) : Rw (R.set ((f + (R.length - 1)) % R.length) v) ((f + (R.length - 1)) % R.length) (v :: l) := by
  have hf := h.lt (by omega)
  have hp : (f + (R.length - 1)) % R.length < R.length := Nat.mod_lt _ (by omega)
  refine ⟨.inr (by simpa using hp), by simp; omega, fun i hi => ?_⟩
  rw [List.length_set]
  simp only [List.length_cons] at hi
  by_cases hl : i = 0
  · subst hl
    rw [Nat.add_zero, Nat.mod_eq_of_lt hp, List.getElem?_set_self hp]
    simp
  · obtain ⟨j, rfl⟩ : ∃ j, i = j + 1 := ⟨i - 1, by omega⟩
    have e1 : ((f + (R.length - 1)) % R.length + (j + 1)) % R.length = (f + j) % R.length := by
      rw [modn hp (by omega), modn hf (by omega), modn hf (by omega)]
      split <;> split <;> (try split) <;> omega
    rw [e1, List.getElem?_set_ne ?_]
    · rw [h.a j (by omega)]; simp
    · rw [modn hf (by omega), modn hf (by omega)]
      split <;> split <;> omega
theorem Rw.hd {α : Type} {R : List α} {f : Nat} {v : α} {l : List α} (h : Rw R f (v :: l)) : R[f]? = some v := by
  have hc := h.c
  simp only [List.length_cons] at hc
  have hf := h.lt (by omega)
  have := h.a 0 (by simp)
  rw [Nat.add_zero, Nat.mod_eq_of_lt hf] at this
  simpa using this
theorem Rw.take {α : Type} {R : List α} {f : Nat} {v : α} {l : List α} (h : Rw R f (v :: l)) (z : α) : Rw (R.set f z) ((f + 1) % R.length) l := by
  have hc := h.c
  simp only [List.length_cons] at hc
  have hf := h.lt (by omega)
  have hp : (f + 1) % R.length < R.length := Nat.mod_lt _ (by omega)
  refine ⟨.inr (by simpa using hp), by simp; omega, fun i hi => ?_⟩
  rw [List.length_set]
  have e1 : ((f + 1) % R.length + i) % R.length = (f + (i + 1)) % R.length := by
    rw [modn hp (by omega), modn hf (by omega), modn hf (by omega)]
    split <;> split <;> (try split) <;> omega
  rw [e1, List.getElem?_set_ne ?_]
  · rw [h.a (i + 1) (by simp; omega)]; simp
  · rw [modn hf (by omega)]
    split <;> omega
theorem Rw.whole {α : Type} {R : List α} {f : Nat} {l : List α} (h : Rw R f l) (hle : f + l.length ≤ R.length) : (R.drop f).take l.length = l := by
  apply List.ext_getElem?
  intro i
  by_cases hi : i < l.length
  · rw [List.getElem?_take_of_lt hi, List.getElem?_drop, ← h.a i hi, Nat.mod_eq_of_lt (by omega)]
  · rw [List.getElem?_eq_none (by simp; omega), List.getElem?_eq_none (by omega)]
theorem Rw.two {α : Type} {R : List α} {f : Nat} {l : List α} (h : Rw R f l) (hlt : R.length < f + l.length) : R.drop f ++ R.take (f + l.length - R.length) = l := by
  have hc := h.c
  have hf : f < R.length := by rcases h.p with e | e <;> omega
  apply List.ext_getElem?
  intro i
  by_cases hi : i < l.length
  · rw [← h.a i hi, modn hf (by omega)]
    split
    · rw [List.getElem?_append_left (by simp; omega), List.getElem?_drop]
    · rw [List.getElem?_append_right (by simp; omega), List.getElem?_take_of_lt (by simp; omega)]
      simp only [List.length_drop]
      congr 1
      omega
  · rw [List.getElem?_eq_none (by simp; omega), List.getElem?_eq_none (by omega)]
theorem Rw.copy {α : Type} {R : List α} {l : List α} (hc : l.length ≤ R.length) (h : R.take l.length = l) : Rw R 0 l := by
  refine ⟨.inl rfl, hc, fun i hi => ?_⟩
  rw [Nat.zero_add, Nat.mod_eq_of_lt (by omega)]
  conv => rhs; rw [← h]
  rw [List.getElem?_take_of_lt hi]
end Go.Proofs.YtglnfifdjlgbcaaGreatDoor.Re

namespace Go.Proofs.YtglnfifdjlgbcaaGreatDoor.Re
open Go.RowKit
set_option linter.unusedVariables false
set_option linter.unusedSimpArgs false

/-! ### Memory -/
abbrev I (i : Int) : Value := .int .i64 i
theorem ret_int {k : IntKind} {a b : Int} (h : a = b) : Ending.returned (.int k a) = .returned (.int k b) := by rw [h]
theorem ret_bool {a b : Bool} (h : a = b) : Ending.returned (.bool a) = .returned (.bool b) := by rw [h]
theorem heap_lt {w : World} {b : Nat} {o : Obj} (h : w.heap[b]? = some o) : b < w.heap.size := by
  rcases Nat.lt_or_ge b w.heap.size with h' | h'
  · exact h'
  · rw [Array.getElem?_eq_none h'] at h; cases h
theorem addr_add (g off j : Nat) : (⟨g, off, none⟩ : Addr).add j = ⟨g, off + j, none⟩ := by unfold Addr.add; split <;> simp_all
theorem grown_refl (w : World) (r : Option Nat) : w.grownBy w r := ⟨rfl, rfl, rfl, Nat.le_refl _, fun _ _ _ => rfl⟩
theorem grown_of_below {a b : World} {r : Option Nat} (h : Below a.heap.size a b) : a.grownBy b r := ⟨h.os, h.tape, h.output, h.size, fun i hi _ => h.block i hi⟩
theorem grown_set (w : World) (r k : Nat) (v : Value) : w.grownBy (w.setCell ⟨r, k, none⟩ v) (some r) :=
  ⟨rfl, rfl, rfl, by simp, fun j _ hj => heap_setCell_other w ⟨r, k, none⟩ j _ (fun e => hj (by simp [e]))⟩
theorem below_alloc (w : World) (o : Obj) : Below w.heap.size w (w.alloc o) := (Below.refl _ _).alloc (Nat.le_refl _) _
theorem heap_over (w : World) (o : Obj) {g : Nat} {x : Obj} (h : w.heap[g]? = some x) : (w.alloc o).heap[g]? = some x := by rw [heap_alloc_old w o (heap_lt h)]; exact h
theorem below_drewN {B : Nat} {a w : World} (n : Nat) (h : Below B a w) : Below B a (w.drewN n) := by
  induction n with
  | zero => exact h
  | succ n ih => exact ih.drew
theorem drewN_add (w : World) (a b : Nat) : (w.drewN a).drewN b = w.drewN (a + b) := by
  induction b with
  | zero => rfl
  | succ b ih => show ((w.drewN a).drewN b).drew = _; rw [ih]; rfl
theorem own_below {w w' : World} {base e size n : Nat} {v : Value} {xs : List Value} (h : w.ownsRow base e size v n xs) (hb : Below w.heap.size w w') : w'.ownsRow base e size v n xs := by
  obtain ⟨hl, h0 | ⟨g, cap, cur, hv, hb1, hh, rr⟩⟩ := h
  · exact ⟨hl, .inl h0⟩
  · exact ⟨hl, .inr ⟨g, cap, cur, hv, hb1, (hb.block g (heap_lt hh)).trans hh, rr⟩⟩

theorem cell_set_ne {w : World} {b g i k : Nat} {v : Value} (h : b ≠ g) : (w.setCell ⟨g, k, none⟩ v).cell? ⟨b, i, none⟩ = w.cell? ⟨b, i, none⟩ := World.cell?_of_block (heap_setCell_other w ⟨g, k, none⟩ b v h)
/-- Nothing but the blocks bs (and what is new) may have changed. -/
structure Fx (bs : List Nat) (w w' : World) : Prop where
  os : w'.os = w.os
  tape : w'.tape = w.tape
  output : w'.output = w.output
  size : w.heap.size ≤ w'.heap.size
  block : ∀ b, b < w.heap.size → b ∉ bs → w'.heap[b]? = w.heap[b]?
theorem Fx.refl (bs : List Nat) (w : World) : Fx bs w w := ⟨rfl, rfl, rfl, Nat.le_refl _, fun _ _ _ => rfl⟩
theorem Fx.trans {bs : List Nat} {a b c : World} (h : Fx bs a b) (k : Fx bs b c) : Fx bs a c :=
  ⟨k.os.trans h.os, k.tape.trans h.tape, k.output.trans h.output, Nat.le_trans h.size k.size, fun i hi hn => (k.block i (Nat.lt_of_lt_of_le hi h.size) hn).trans (h.block i hi hn)⟩
/-- What the second step turns is in bs or was made since. -/
theorem Fx.step {bs cs : List Nat} {a b c : World} (h : Fx bs a b) (k : Fx cs b c) (hc : ∀ x ∈ cs, x ∈ bs ∨ a.heap.size ≤ x) : Fx bs a c :=
  ⟨k.os.trans h.os, k.tape.trans h.tape, k.output.trans h.output, Nat.le_trans h.size k.size, fun i hi hn => (k.block i (Nat.lt_of_lt_of_le hi h.size) (fun e => (hc i e).elim hn (fun e2 => by omega))).trans (h.block i hi hn)⟩
theorem Fx.mono {bs cs : List Nat} {a b : World} (h : Fx bs a b) (hs : ∀ x ∈ bs, x ∈ cs) : Fx cs a b := ⟨h.os, h.tape, h.output, h.size, fun i hi hn => h.block i hi (fun e => hn (hs i e))⟩
theorem Fx.of_below {bs : List Nat} {a b : World} (h : Below a.heap.size a b) : Fx bs a b := ⟨h.os, h.tape, h.output, h.size, fun i hi _ => h.block i hi⟩
theorem Fx.below {bs : List Nat} {B : Nat} {a b : World} (h : Fx bs a b) (hB : B ≤ a.heap.size) (hs : ∀ x ∈ bs, B ≤ x) : Below B a b :=
  ⟨h.os, h.tape, h.output, h.size, fun i hi => h.block i (by omega) (fun e => by have := hs i e; omega)⟩
theorem Fx.set {bs : List Nat} {a w : World} (h : Fx bs a w) {b : Nat} (hb : b ∈ bs ∨ a.heap.size ≤ b) (k : Nat) (v : Value) : Fx bs a (w.setCell ⟨b, k, none⟩ v) :=
  h.step (cs := [b]) ⟨rfl, rfl, rfl, by simp, fun i _ hn => heap_setCell_other w ⟨b, k, none⟩ i _ (by simpa using hn)⟩ (by simpa using hb)
theorem Fx.alloc {bs : List Nat} {a w : World} (h : Fx bs a w) (o : Obj) : Fx bs a (w.alloc o) := h.trans (Fx.of_below (below_alloc w o))
theorem Fx.drewN {bs : List Nat} {a w : World} (h : Fx bs a w) (n : Nat) : Fx bs a (w.drewN n) := h.trans (Fx.of_below (below_drewN n (Below.refl _ _)))
theorem Fx.grown {bs : List Nat} {a w w' : World} {r : Option Nat} (h : Fx bs a w) (hg : w.grownBy w' r) (hr : ∀ g, r = some g → g ∈ bs ∨ a.heap.size ≤ g) : Fx bs a w' :=
  ⟨hg.os.trans h.os, hg.tape.trans h.tape, hg.output.trans h.output, Nat.le_trans h.size hg.size, fun i hi hn => (hg.block i (Nat.lt_of_lt_of_le hi h.size) (fun e => (hr i e.symm).elim hn (fun e2 => by omega))).trans (h.block i hi hn)⟩
theorem Fx.heap {bs : List Nat} {a b : World} (h : Fx bs a b) {g : Nat} {o : Obj} (hg : a.heap[g]? = some o) (hn : g ∉ bs) : b.heap[g]? = some o := (h.block g (heap_lt hg) hn).trans hg
theorem Fx.cell {bs : List Nat} {a b : World} (h : Fx bs a b) {g i : Nat} {v : Value} (hg : a.cell? ⟨g, i, none⟩ = some v) (hn : g ∉ bs) : b.cell? ⟨g, i, none⟩ = some v :=
  (World.cell?_of_block (h.block g (World.block_lt_of_cell? a _ hg) hn)).trans hg
theorem Fx.own {bs : List Nat} {a b : World} (h : Fx bs a b) {base e size n : Nat} {v : Value} {xs : List Value} (ho : a.ownsRow base e size v n xs) (hn : ∀ g, v.ownBlock = some g → g ∉ bs) : b.ownsRow base e size v n xs := by
  obtain ⟨hl, h0 | ⟨g, cap, cur, hv, hb1, hh, rr⟩⟩ := ho
  · exact ⟨hl, .inl h0⟩
  · exact ⟨hl, .inr ⟨g, cap, cur, hv, hb1, h.heap hh (hn g (by rw [hv]; rfl)), rr⟩⟩

/-- A ring: its block B (of type T), its room g (of elements E, one cell each), its row l. -/
structure Rg (w : World) (T E : TypeId) (B g n f hi : Nat) (R l : List Value) : Prop where
  o : w.heap[B]? = some (.cells #[.bool true, .slice (some ⟨g, 0, none⟩) n n, I f, I l.length, I hi] T)
  q : w.heap[g]? = some (.cells R.toArray E)
  k : R.length = n
  m : n ≤ 65536
  r : Rw R f l
  y : l.length ≤ hi ∧ hi ≤ n
  ne : B ≠ g
section
variable {w : World} {T E : TypeId} {B g n f hi : Nat} {R l : List Value}
theorem Rg.cells (h : Rg w T E B g n f hi R l) : w.cell? ⟨B, 0, none⟩ = some (.bool true) ∧ w.cell? ⟨B, 1, none⟩ = some (.slice (some ⟨g, 0, none⟩) n n) ∧ w.cell? ⟨B, 2, none⟩ = some (I f) ∧ w.cell? ⟨B, 3, none⟩ = some (I l.length) ∧ w.cell? ⟨B, 4, none⟩ = some (I hi) := by
  refine ⟨?_, ?_, ?_, ?_, ?_⟩ <;> (rw [cell_of_row w B _ _ _ (0, 0) h.o]; rfl)
theorem Rg.frz (h : Rg w T E B g n f hi R l) (j : Nat) : w.frozen? ⟨B, j, none⟩ = false := frozen_of_row w B j _ _ h.o
theorem Rg.frzg (h : Rg w T E B g n f hi R l) (j : Nat) : w.frozen? ⟨g, j, none⟩ = false := frozen_of_row w g j _ _ h.q
theorem Rg.at (h : Rg w T E B g n f hi R l) {j : Nat} {v : Value} (hj : R[j]? = some v) : w.cell? ⟨g, j, none⟩ = some v := by
  rw [cell_of_row w g j _ _ (0, 0) h.q]
  simpa using hj
theorem Rg.kept (h : Rg w T E B g n f hi R l) {bs : List Nat} {w' : World} (hf : Fx bs w w') (h1 : B ∉ bs) (h2 : g ∉ bs) : Rg w' T E B g n f hi R l :=
  ⟨hf.heap h.o h1, hf.heap h.q h2, h.k, h.m, h.r, h.y, h.ne⟩
theorem Rg.below (h : Rg w T E B g n f hi R l) {w' : World} (hf : Below w.heap.size w w') : Rg w' T E B g n f hi R l := h.kept (bs := []) (Fx.of_below hf) (by simp) (by simp)
theorem Rg.drewN (h : Rg w T E B g n f hi R l) (q : Nat) : Rg (w.drewN q) T E B g n f hi R l := h.below (below_drewN q (Below.refl _ _))
theorem Rg.flt (h : Rg w T E B g n f hi R l) (hn : 0 < n) : f < n := by have := h.r.lt (by rw [h.k]; exact hn); rw [h.k] at this; exact this
theorem Rg.lts (h : Rg w T E B g n f hi R l) : B < w.heap.size ∧ g < w.heap.size := ⟨heap_lt h.o, heap_lt h.q⟩
theorem Rg.lle (h : Rg w T E B g n f hi R l) : l.length ≤ n := Nat.le_trans h.y.1 h.y.2
end
theorem Rg.mk2 {w2 w3 : World} {T E : TypeId} {B g n p f' hi' : Nat} {R l' : List Value} {V : Value} (hg : w2.heap[g]? = some (.cells R.toArray E)) (k : R.length = n) (m : n ≤ 65536) (ne : B ≠ g) (r : Rw (R.set p V) f' l') (y : l'.length ≤ hi' ∧ hi' ≤ n)
    (h3 : w3.heap[B]? = some (.cells #[.bool true, .slice (some ⟨g, 0, none⟩) n n, I f', I l'.length, I hi'] T)) (hF : Fx [B] (w2.setCell ⟨g, p, none⟩ V) w3) : Rg w3 T E B g n f' hi' (R.set p V) l' := by
  refine ⟨h3, ?_, by simpa using k, m, r, y, ne⟩
  have h4 := heap_setCell_same w2 g p _ _ V hg
  have h5 := hF.heap h4 (by simpa using fun e => ne e.symm)
  rw [h5]
  simp
/-- 'clear(s)' as one step of a region that draws its order. -/
theorem step_clear {P : Program} {ops : Array Oper} {o : Oper} {a : Act} {w : World} {K : Act → World → Prop} {Q : Exit → Act → World → Prop} {E : Prop}
    (hg : o.guard = none) (s : Operand) (t : TypeId) (hop : o.op = Op.call { callee := Callee.builtin Builtin.clear, args := #[s], argTypes := #[t] })
    (v : Value) (hs : a.eval s = v) (w' : World) (hrun : ∀ ty, (Builtin.clear_ #[t] ty #[v]).run P w = .ok (.tuple #[]) w') (hK : K (a.put o.dst (.tuple #[])) w') :
    if Region.wanted o (yielded ops a.tmps) = true then Oper.wp P o a w K Q else E := by
  have hw : Region.wanted o (yielded ops a.tmps) = true := by simp [Region.wanted, hg]
  rw [if_pos hw]
  have hr := hrun o.type
  unfold Oper.wp
  simp [execOp, hop, resolve, invoke, builtin, hs, hr, Result.andThen]
  exact hK
end Go.Proofs.YtglnfifdjlgbcaaGreatDoor.Re

namespace Go.Proofs.YtglnfifdjlgbcaaGreatDoor.Re
open Go.RowKit
set_option linter.unusedVariables false
set_option linter.unusedSimpArgs false

/-! ### Rings of int: what only reads -/
abbrev iRg (w : World) (B g n f hi : Nat) (R l : List Value) : Prop := Rg w 266 3 B g n f hi R l
abbrev iP (B : Nat) : Value := .pointer (some ⟨B, 0, none⟩)
section
variable {w : World} {B g n f hi : Nat} {R l : List Value}
theorem inone_any (h : iRg w B g n f hi R l) : Calls Tryz.prog 238 #[iP B] w fun e w' => e = .returned (.bool false) ∧ w = w' := by
  obtain ⟨c0, -, -, -, -⟩ := h.cells
  go_enter Tryz.func238, Tryz.ntmps238
  go_wp2
  go_ret
  exact ⟨rfl, rfl⟩
theorem inone_nil (w : World) : Calls Tryz.prog 238 #[.pointer none] w fun e w' => e = .returned (.bool true) ∧ w = w' := by
  go_enter Tryz.func238, Tryz.ntmps238
  go_wp2
  go_ret
  exact ⟨rfl, rfl⟩
theorem inone_zero (w : World) (B : Nat) (c0 : w.cell? ⟨B, 0, none⟩ = some (.bool false)) : Calls Tryz.prog 238 #[iP B] w fun e w' => e = .returned (.bool true) ∧ w = w' := by
  go_enter Tryz.func238, Tryz.ntmps238
  go_wp2
  go_ret
  exact ⟨rfl, rfl⟩
theorem iplace_raw (w : World) (B g n f i : Nat) (c1 : w.cell? ⟨B, 1, none⟩ = some (.slice (some ⟨g, 0, none⟩) n n)) (c2 : w.cell? ⟨B, 2, none⟩ = some (I f)) (hm : n ≤ 65536) (hf : f < n) (hi2 : i ≤ n) : Calls Tryz.prog 264 #[iP B, I i] w fun e w' => e = .returned (I ((f + i) % n : Nat)) ∧ ∃ q, w' = w.drewN q := by
  have h1 : ¬ ((n : Int) = 0) := by omega
  go_enter Tryz.func264, Tryz.ntmps264
  go_wp2
  go_quiet (fail)
  go_wp2
  go_ret
  exact ⟨ret_int (by norm_cast), nq, rfl⟩
theorem iplace_any (h : iRg w B g n f hi R l) (hn : 0 < n) (i : Nat) (hi2 : i ≤ n) : Calls Tryz.prog 264 #[iP B, I i] w fun e w' => e = .returned (I ((f + i) % n : Nat)) ∧ ∃ q, w' = w.drewN q :=
  iplace_raw w B g n f i h.cells.2.1 h.cells.2.2.1 h.m (h.flt hn) hi2
end
end Go.Proofs.YtglnfifdjlgbcaaGreatDoor.Re

namespace Go.Proofs.YtglnfifdjlgbcaaGreatDoor.Re
open Go.RowKit
set_option linter.unusedVariables false
set_option linter.unusedSimpArgs false

/-! ### Rings of int: New, Last, First, Take, At -/
section
variable {w : World} {B g n f hi : Nat} {R l : List Value}
theorem iFull_any (h : iRg w B g n f hi R l) : Calls Tryz.prog 262 #[iP B] w fun e w' => e = .returned (.bool (decide (l.length = n))) ∧ ∃ q, w' = w.drewN q := by
  obtain ⟨-, c1, -, c3, -⟩ := h.cells
  have hN := fun q => (inone_any (h.drewN q)).mono (R' := fun e w' => e = .returned (.bool false) ∧ w' = w.drewN q) (fun e w' k => ⟨k.1, k.2.symm⟩)
  have H : Hid (((l.length : Int) == (n : Int)) = decide (l.length = n)) := by
    show _ = _
    rw [Bool.eq_iff_iff]
    simp
    omega
  go_enter Tryz.func262, Tryz.ntmps262
  go_wp2
  go_quiet ((go_at_call 238; exact Calls.quiet_of_same (hN _)))
  go_wp2
  go_ret
  exact ⟨ret_bool (by simpa using H.out), nq, rfl⟩
theorem imayPut_ok (h : iRg w B g n f hi R l) (hc : l.length < n) : Calls Tryz.prog 263 #[iP B] w fun e w' => e = .returned (I 0) ∧ ∃ q, w' = w.drewN q := by
  have hF := (iFull_any h)
  rw [decide_eq_false (by omega)] at hF
  go_enter Tryz.func263, Tryz.ntmps263
  go_wp2_with (first | (go_at_call 238; refine (inone_any h).mono ?_; rintro e w1 ⟨rfl, rfl⟩) | (go_at_call 262; refine hF.mono ?_; rintro e w1 ⟨rfl, q, rfl⟩))
  go_ret
  exact ⟨rfl, q, rfl⟩
theorem imayPut_full (h : iRg w B g n f hi R l) (hc : l.length = n) : Calls Tryz.prog 263 #[iP B] w fun e w' => e = .returned (I 121) ∧ ∃ q, w' = w.drewN q := by
  have hF := (iFull_any h)
  rw [decide_eq_true hc] at hF
  clear hc
  go_enter Tryz.func263, Tryz.ntmps263
  go_wp2_with (first | (go_at_call 238; refine (inone_any h).mono ?_; rintro e w1 ⟨rfl, rfl⟩) | (go_at_call 262; refine hF.mono ?_; rintro e w1 ⟨rfl, q, rfl⟩))
  go_ret
  exact ⟨rfl, q, rfl⟩
theorem ioneMore_any (w : World) (B f c hi : Nat) (sl : Value) (hc : c ≤ 65536) (hh : hi ≤ 65536) (h : w.heap[B]? = some (.cells #[.bool true, sl, I f, I c, I hi] 266)) : Calls Tryz.prog 265 #[iP B] w fun e w' => e = .returned (.tuple #[]) ∧ w'.heap[B]? = some (.cells #[.bool true, sl, I f, I (c + 1 : Nat), I (max hi (c + 1) : Nat)] 266) ∧ Fx [B] w w' := by
  have c3 : w.cell? ⟨B, 3, none⟩ = some (I c) := by rw [cell_of_row w B _ _ _ (0, 0) h]; rfl
  have c4 : w.cell? ⟨B, 4, none⟩ = some (I hi) := by rw [cell_of_row w B _ _ _ (0, 0) h]; rfl
  have fz : ∀ j, w.frozen? ⟨B, j, none⟩ = false := fun j => frozen_of_row w B j _ _ h
  have h2 := heap_setCell_same w B 3 _ _ (I (c + 1 : Nat)) h
  have c34 : (w.setCell ⟨B, 3, none⟩ (I (c + 1 : Nat))).cell? ⟨B, 3, none⟩ = some (I (c + 1 : Nat)) := by rw [cell_of_row _ B _ _ _ (0, 0) h2]; rfl
  have c44 : (w.setCell ⟨B, 3, none⟩ (I (c + 1 : Nat))).cell? ⟨B, 4, none⟩ = some (I hi) := by rw [cell_of_row _ B _ _ _ (0, 0) h2]; rfl
  have fz4 : ∀ j, (w.setCell ⟨B, 3, none⟩ (I (c + 1 : Nat))).frozen? ⟨B, j, none⟩ = false := fun j => frozen_of_row _ B j _ _ h2
  have F2 : Fx [B] w (w.setCell ⟨B, 3, none⟩ (I (c + 1 : Nat))) := (Fx.refl _ _).set (.inl (by simp)) _ _
  have h9 : ∀ x : Int, ((w.setCell ⟨B, 3, none⟩ (I (c + 1 : Nat))).setCell ⟨B, 4, none⟩ (I x)).heap[B]? = some (.cells #[.bool true, sl, I f, I (c + 1 : Nat), I x] 266) := fun x => heap_setCell_same _ B 4 _ _ (I x) h2
  have F9 : ∀ x : Int, Fx [B] w ((w.setCell ⟨B, 3, none⟩ (I (c + 1 : Nat))).setCell ⟨B, 4, none⟩ (I x)) := fun x => F2.set (.inl (by simp)) _ _
  have ec : ((c : Int) + 1) = ((c + 1 : Nat) : Int) := by omega
  have HE : Hid (((c : Int) + 1) = ((c + 1 : Nat) : Int)) := ec
  rw [← ec] at c34 c44 fz4 h9 F9
  rw [← ec]
  clear h2 F2 h ec
  by_cases hx : hi ≤ c
  · have hM : Hid (((max hi (c + 1) : Nat) : Int) = (c : Int) + 1) := by show _ = _; omega
    have h1 : ¬ ((c : Int) + 1 ≤ hi) := by omega
    have h2 : (hi : Int) < (c : Int) + 1 := by omega
    go_enter Tryz.func265, Tryz.ntmps265
    go_wp2
    go_region
    all_goals
      go_wp2
      refine bodyPost_end (v := .tuple #[]) (by simp [results, Tryz.results265, go_sem]) rfl ?_
      rw [hM.out]
      exact ⟨rfl, h9 _, (F9 _).drewN 1⟩
  · have hM : Hid (((max hi (c + 1) : Nat) : Int) = hi) := by show _ = _; omega
    have h1 : ((c : Int) + 1 ≤ hi) := by omega
    have h2 : ¬ (hi : Int) < (c : Int) + 1 := by omega
    go_enter Tryz.func265, Tryz.ntmps265
    go_wp2
    go_region
    all_goals
      go_wp2
      refine bodyPost_end (v := .tuple #[]) (by simp [results, Tryz.results265, go_sem]) rfl ?_
      rw [hM.out]
      exact ⟨rfl, h9 _, (F9 _).drewN 1⟩
theorem iLen_any (h : iRg w B g n f hi R l) : Calls Tryz.prog 170 #[iP B] w fun e w' => e = .returned (I l.length) ∧ w = w' := by
  obtain ⟨-, c1, -, c3, -⟩ := h.cells
  go_enter Tryz.func170, Tryz.ntmps170
  go_wp2_with (go_at_call 238; refine (inone_any h).mono ?_; rintro e w1 ⟨rfl, rfl⟩)
  go_ret
  exact ⟨rfl, rfl⟩
end
end Go.Proofs.YtglnfifdjlgbcaaGreatDoor.Re

namespace Go.Proofs.YtglnfifdjlgbcaaGreatDoor.Re
open Go.RowKit
set_option linter.unusedVariables false
set_option linter.unusedSimpArgs false

/-! ### Rings of int: New, Last, First, Take, At -/
theorem iinfo : (Tryz.prog.info? 3).map (fun i => (i.zero, i.size, i.bytes)) = some (some (Value.int .i64 0), 1, 8) := by kernel_rfl
theorem imade (n : Nat) : madeCells #[(Value.int .i64 0)] (n * 1) = (List.replicate n (Value.int .i64 0)).toArray := by
  rw [Nat.mul_one, ← toList_madeCells_one]
theorem iNew_ok (w : World) (n : Nat) (hn : n ≤ 65536) : Calls Tryz.prog 107 #[I n] w fun e w' => e = .returned (.tuple #[iP (w.heap.size + 1), I 0]) ∧ iRg w' (w.heap.size + 1) w.heap.size n 0 0 (List.replicate n (Value.int .i64 0)) [] ∧ Below w.heap.size w w' := by
  obtain ⟨i0, hi, hz0, hz1, hz2⟩ := info_parts iinfo
  have hmk := run_make (P := Tryz.prog) w 31 3 i0 (Value.int .i64 0) Tryz.underlying31 hi hz0 .i64 .i64 (n : Int) (n : Int) (by omega) (Int.le_refl _) (by rw [hz2]; omega) (by omega)
  rw [hz1, Int.toNat_natCast, show (Value.cells (Value.int .i64 0)) = #[(Value.int .i64 0)] from rfl, imade] at hmk
  have h1 : ¬ (n : Int) < 0 := by omega
  have h2 : ¬ (65536 : Int) < n := by omega
  clear hi hz0 hz1 hz2
  go_enter Tryz.func107, Tryz.ntmps107
  go_wp2
  go_ret2
  have hg := heap_alloc_new w (.cells (List.replicate n (Value.int .i64 0)).toArray 3)
  refine ⟨rfl, ⟨?_, heap_over _ _ hg, by simp, hn, Rw.new _, by simp, by omega⟩, (below_alloc w _).alloc (by simp) _⟩
  have hb := heap_alloc_new (w.alloc (.cells (List.replicate n (Value.int .i64 0)).toArray 3)) (.cells #[.bool true, .slice (some ⟨w.heap.size, 0, none⟩) n n, I 0, I 0, I 0] 266)
  rw [World.size_alloc] at hb
  exact hb
theorem iNew_no (w : World) (n : Int) (hn : n < 0 ∨ 65536 < n) : Calls Tryz.prog 107 #[I n] w fun e w' => e = .returned (.tuple #[.pointer none, I 120]) ∧ w = w' := by
  rcases hn with hn | hn
  · go_enter Tryz.func107, Tryz.ntmps107
    go_wp2
    go_ret2
    exact ⟨rfl, rfl⟩
  · have h1 : ¬ n < 0 := by omega
    go_enter Tryz.func107, Tryz.ntmps107
    go_wp2
    go_ret2
    exact ⟨rfl, rfl⟩
section
variable {w : World} {B g n f hi : Nat} {R l : List Value}
theorem iLast_full (h : iRg w B g n f hi R l) (hc : l.length = n) (x : Int) : Calls Tryz.prog 217 #[iP B, (Value.int .i64 x)] w fun e w' => e = .returned (I 121) ∧ ∃ q, w' = w.drewN q := by
  have hF := (imayPut_full h hc)
  clear hc
  go_enter Tryz.func217, Tryz.ntmps217
  go_wp2_with (first | (go_at_call 263; refine hF.mono ?_; rintro e w1 ⟨rfl, q, rfl⟩))
  go_ret
  exact ⟨rfl, q, rfl⟩
theorem iLast_ok (h : iRg w B g n f hi R l) (hc : l.length < n) (x : Int) : Calls Tryz.prog 217 #[iP B, (Value.int .i64 x)] w fun e w' => e = .returned (I 0) ∧ iRg w' B g n f (max hi (l.length + 1)) (R.set ((f + l.length) % n) (Value.int .i64 x)) (l ++ [(Value.int .i64 x)]) ∧ Fx [B, g] w w' := by
  have hF := (imayPut_ok h hc)
  go_enter Tryz.func217, Tryz.ntmps217
  go_wp2_with (first | (go_at_call 263; refine hF.mono ?_; rintro e w0 ⟨rfl, q, rfl⟩))
  have h0 := h.drewN q
  have F0 : Fx [B, g] w (w.drewN q) := (Fx.refl _ _).drewN q
  clear hF h
  generalize w.drewN q = W at *
  have hpl : (f + l.length) % n < n := Nat.mod_lt _ (by omega)
  obtain ⟨old, hold⟩ : ∃ old, R[(f + l.length) % n]? = some old := ⟨_, List.getElem?_eq_getElem (by rw [h0.k]; exact hpl)⟩
  obtain ⟨-, b1, -, b3, -⟩ := h0.cells
  have hm := h0.m
  have HL : Hid (l.length < n) := hc
  have hd := h0.drewN 1
  have hp := (iplace_any (h0.drewN 1) (by omega) l.length (by omega)).mono (R' := fun e w' => e = .returned (I ((f + l.length) % n : Nat)) ∧ iRg w' B g n f hi R l ∧ Fx [B, g] w w' ∧ w'.cell? ⟨g, (f + l.length) % n, none⟩ = some old ∧ w'.frozen? ⟨g, (f + l.length) % n, none⟩ = false) (fun e w' ⟨k, q2, hq⟩ => by
    subst hq
    have h2 := (h0.drewN 1).drewN q2
    exact ⟨k, h2, (F0.drewN 1).drewN q2, h2.at hold, h2.frzg _⟩)
  generalize hpp : (f + l.length) % n = p at *
  have HP : Hid ((f + l.length) % n = p) := hpp
  have hx0 : ¬ ((p : Int) < 0) := by omega
  have hx1 : (p : Int) < n := by omega
  have hNE := h0.ne
  clear hpp hc hold
  go_region_held_law (fun w' => w'.cell? ⟨B, 1, none⟩ = some (.slice (some ⟨g, 0, none⟩) n n) ∧ w'.cell? ⟨B, 3, none⟩ = some (I l.length))
    (first | exact ⟨b1, b3⟩ | exact ⟨hd.cells.2.1, hd.cells.2.2.2.1⟩ | exact ⟨h2.cells.2.1, h2.cells.2.2.2.1⟩ | (rw [cell_set_ne hNE, cell_set_ne hNE]; exact ⟨h2.cells.2.1, h2.cells.2.2.2.1⟩) | (go_keep; done))
    (first | (go_at_call 264; refine hp.mono ?_; rintro e w2 ⟨rfl, h2, F2, x2, z2⟩))
  have hB4 : (w2.setCell ⟨g, p, none⟩ (Value.int .i64 x)).heap[B]? = some (.cells #[.bool true, .slice (some ⟨g, 0, none⟩) n n, I f, I l.length, I hi] 266) := (heap_setCell_other w2 ⟨g, p, none⟩ B _ hNE).trans h2.o
  have hO := ioneMore_any (w2.setCell ⟨g, p, none⟩ (Value.int .i64 x)) B f l.length hi _ (by have := h0.lle; omega) (by have := h0.y; omega) hB4
  have H2 : Hid (iRg w2 B g n f hi R l) := h2
  clear b1 b3 h0 hd h2 hp
  go_wp2_with (go_at_call 265; refine hO.mono ?_; rintro e w5 ⟨rfl, h5, F5⟩)
  go_ret
  have h2 := H2.out
  have hl := HL.out
  have ee : (l ++ [(Value.int .i64 x)]).length = l.length + 1 := by simp
  rw [HP.out]
  refine ⟨rfl, Rg.mk2 h2.q h2.k h2.m hNE ?_ ?_ ?_ F5, ((F2.set (b := g) (.inl (by simp)) p (Value.int .i64 x)).trans (F5.mono (by simp)))⟩
  · have := h2.r.last (by rw [h2.k]; exact hl) (Value.int .i64 x)
    rw [h2.k, HP.out] at this
    exact this
  · rw [ee]
    have := h2.y
    omega
  · rw [ee]
    exact h5
theorem iTake_no (h : iRg w B g n f hi R []) : Calls Tryz.prog 218 #[iP B] w fun e w' => e = .returned (.tuple #[(Value.int .i64 0), I 122]) ∧ w = w' := by
  obtain ⟨-, -, -, c3, -⟩ := h.cells
  go_enter Tryz.func218, Tryz.ntmps218
  go_wp2_with (first | (go_at_call 238; refine (inone_any h).mono ?_; rintro e w1 ⟨rfl, rfl⟩))
  go_ret2
  exact ⟨rfl, rfl⟩
end
end Go.Proofs.YtglnfifdjlgbcaaGreatDoor.Re

namespace Go.Proofs.YtglnfifdjlgbcaaGreatDoor.Re
open Go.RowKit
set_option linter.unusedVariables false
set_option linter.unusedSimpArgs false

/-! ### Rings of int: First, Take -/
section
variable {w : World} {B g n f hi : Nat} {R l : List Value}
end
end Go.Proofs.YtglnfifdjlgbcaaGreatDoor.Re

namespace Go.Proofs.YtglnfifdjlgbcaaGreatDoor.Re
open Go.RowKit
set_option linter.unusedVariables false
set_option linter.unusedSimpArgs false

/-! ### Rings of int: Take -/
theorem ielem_sz (w : World) : (sizeOf (Tryz.prog.elem 31)).run Tryz.prog w = .ok 1 w := by
  obtain ⟨i0, hi, hz0, hz1, hz2⟩ := info_parts iinfo
  have : Tryz.prog.elem 31 = 3 := by kernel_rfl
  rw [this]
  simp [sizeOf, typeInfo, hi, hz1]
theorem iundS : Tryz.prog.underlying 31 = some (.slice (Tryz.prog.elem 31)) := by kernel_rfl
theorem isl_mid (g n k m : Nat) (h : k + m ≤ n) (hk : k = 0 ∨ k < n) (z hi : Int) (ez : z = k) (ehi : hi = (k : Int) + m) (wx : World) :
    (Instr.slice 31 (.slice (some ⟨g, 0, none⟩) n n) (some (I z)) (some (I hi)) none).run Tryz.prog wx = .ok (.slice (some ⟨g, k, none⟩) m (n - k)) wx := by
  subst ez ehi
  rw [run_slice_lh wx 31 _ n n iundS .i64 .i64 (k : Int) ((k : Int) + m) (by omega) (by omega) (by omega), ielem_sz]
  have e1 : ((k : Int)).toNat = k := by omega
  have e2 : ((k : Int) + m).toNat = k + m := by omega
  simp only [Result.andThen, sliced, e1, e2, Option.map_some, Nat.mul_one, Nat.add_sub_cancel_left, addr_add, Nat.zero_add]
  split
  · obtain rfl : k = 0 := by omega
    rfl
  · rfl
theorem isl_from (g n k : Nat) (hk : k < n) (wx : World) :
    (Instr.slice 31 (.slice (some ⟨g, 0, none⟩) n n) (some (I k)) none none).run Tryz.prog wx = .ok (.slice (some ⟨g, k, none⟩) (n - k) (n - k)) wx := by
  rw [run_slice_l wx 31 _ n n iundS .i64 (k : Int) (by omega) (by omega), ielem_sz]
  have e1 : ((k : Int)).toNat = k := by omega
  have e3 : ¬ n = k := by omega
  simp only [Result.andThen, sliced, e1, Option.map_some, Nat.mul_one, if_neg e3, addr_add, Nat.zero_add]
theorem isl_to (g n m : Nat) (h : m ≤ n) (z : Int) (ez : z = m) (wx : World) :
    (Instr.slice 31 (.slice (some ⟨g, 0, none⟩) n n) none (some (I z)) none).run Tryz.prog wx = .ok (.slice (some ⟨g, 0, none⟩) m n) wx := by
  subst ez
  rw [run_slice_h wx 31 _ n n iundS .i64 (m : Int) (by omega) (by omega), ielem_sz]
  have e1 : ((m : Int)).toNat = m := by omega
  simp only [Result.andThen, sliced, e1, Option.map_some, Nat.mul_one, addr_add, Nat.zero_add]
  split <;> simp
theorem iclear_run {w : World} {g n : Nat} {R : List Value} (hq : w.heap[g]? = some (.cells R.toArray 3)) (k m c : Nat) (hm : 0 < m) (h : k + m ≤ R.length) (ty : TypeId) :
    (Builtin.clear_ #[31] ty #[.slice (some ⟨g, k, none⟩) m c]).run Tryz.prog w = .ok (.tuple #[]) (w.setCells g k (List.replicate m (Value.int .i64 0))) :=
  Lib.run_clear_slice w 31 3 ty (Value.int .i64 0) Tryz.underlying31 (fun w => by kernel_rfl) rfl rfl g k m c hm
    (fun j hj => by
      rw [cell_of_row w g _ _ _ (0, 0) hq]
      simp; omega)
    (fun j hj => frozen_of_row w g _ _ _ hq)
section
variable {w : World} {B g n f hi : Nat} {R l : List Value}
theorem iTake_ok (x : Int) (h : iRg w B g n f hi R ((Value.int .i64 x) :: l)) : Calls Tryz.prog 218 #[iP B] w fun e w' => e = .returned (.tuple #[(Value.int .i64 x), I 0]) ∧ iRg w' B g n ((f + 1) % n) hi (R.set f (Value.int .i64 0)) l ∧ Fx [B, g] w w' := by
  have hm := h.m
  have hle := h.lle
  simp only [List.length_cons] at hle
  have hf := h.flt (by omega)
  obtain ⟨-, c1, c2, c3, -⟩ := h.cells
  have ec : ((((Value.int .i64 x) :: l).length : Nat) : Int) = (l.length : Int) + 1 := by simp
  rw [ec] at c3
  have hc := h.at h.r.hd
  have hx0 : ¬ ((f : Int) < 0) := by omega
  have hx1 : (f : Int) < n := by omega
  have hx2 : ¬ ((l.length : Int) + 1 = 0) := by omega
  have hN := inone_any h
  have H : Hid (iRg w B g n f hi R ((Value.int .i64 x) :: l)) := h
  clear h ec
  go_enter Tryz.func218, Tryz.ntmps218
  go_wp2_with (first | (go_at_call 238; refine hN.mono ?_; rintro e w1 ⟨rfl, rfl⟩))
  go_quiet (fail)
  go_wp2
  have h2 := H.out.drewN nq
  have F2 : Fx [B, g] w (w.drewN nq) := (Fx.refl _ _).drewN nq
  clear c1 c2 c3 hc hN H
  generalize w.drewN nq = W at *
  obtain ⟨-, c1, c2, c3, -⟩ := h2.cells
  have hs := isl_mid g n f 1 (by omega) (.inr hf) (f : Int) ((f : Int) + 1) rfl (by omega)
  have hcl := iclear_run (w := W.drew) (n := n) h2.q f 1 (n - f) (by omega) (by rw [h2.k]; omega)
  have hNE := h2.ne
  have hwr : IntKind.i64.wrap ((f : Int) + 1) = (f : Int) + 1 := by rw [IntKind.wrap_i64]; omega
  go_region_held_law (fun w' => w'.cell? ⟨B, 1, none⟩ = some (.slice (some ⟨g, 0, none⟩) n n) ∧ w'.cell? ⟨B, 2, none⟩ = some (I f))
    (first | exact ⟨c1, c2⟩ | exact ⟨(cell_set_ne hNE).trans c1, (cell_set_ne hNE).trans c2⟩ | (go_keep; done))
    (first | (refine step_clear rfl (.tmp 37) 31 rfl (.slice (some ⟨g, f, none⟩) 1 (n - f)) (by simp [Act.eval, Act.put]) _ hcl ?_))
  have hG3 : ((W.drew.setCell ⟨g, f, none⟩ (Value.int .i64 0))).heap[g]? = some (.cells (R.set f (Value.int .i64 0)).toArray 3) := by
    have := heap_setCell_same W.drew g f _ _ (Value.int .i64 0) h2.q
    rw [this]; simp
  have hB3 : ((W.drew.setCell ⟨g, f, none⟩ (Value.int .i64 0))).heap[B]? = some (.cells #[.bool true, .slice (some ⟨g, 0, none⟩) n n, I f, I ((l.length : Int) + 1), I hi] 266) := by
    have := (heap_setCell_other W.drew ⟨g, f, none⟩ B (Value.int .i64 0) hNE).trans h2.o
    rw [this]; simp
  have F3 : Fx [B, g] w (W.drew.setCell ⟨g, f, none⟩ (Value.int .i64 0)) := (F2.drewN 1).set (b := g) (.inl (by simp)) f (Value.int .i64 0)
  have HK : Hid (Rw (R.set f (Value.int .i64 0)) ((f + 1) % n) l ∧ R.length = n ∧ (l.length + 1 ≤ hi ∧ hi ≤ n)) := by
    have r := h2.r.take (Value.int .i64 0)
    rw [h2.k] at r
    exact ⟨r, h2.k, by have := h2.y; simpa using this⟩
  have hset : W.drew.setCells g f (List.replicate 1 (Value.int .i64 0)) = W.drew.setCell ⟨g, f, none⟩ (Value.int .i64 0) := rfl
  try rw [hset]
  clear hset
  clear c1 c2 c3 hs hcl hwr h2 F2
  generalize (W.drew.setCell ⟨g, f, none⟩ (Value.int .i64 0)) = X at *
  have c1 : X.cell? ⟨B, 1, none⟩ = some (.slice (some ⟨g, 0, none⟩) n n) := by rw [cell_of_row X B _ _ _ (0, 0) hB3]; rfl
  have c2 : X.cell? ⟨B, 2, none⟩ = some (I f) := by rw [cell_of_row X B _ _ _ (0, 0) hB3]; rfl
  have hp := (iplace_raw X B g n f 1 c1 c2 hm hf (by omega)).mono (R' := fun e w' => e = .returned (I ((f + 1) % n : Nat)) ∧ w'.heap[B]? = some (.cells #[.bool true, .slice (some ⟨g, 0, none⟩) n n, I f, I ((l.length : Int) + 1), I hi] 266) ∧ w'.heap[g]? = some (.cells (R.set f (Value.int .i64 0)).toArray 3) ∧ Fx [B, g] w w' ∧ w'.cell? ⟨B, 2, none⟩ = some (I f) ∧ w'.cell? ⟨B, 3, none⟩ = some (I ((l.length : Int) + 1)) ∧ ∀ j, w'.frozen? ⟨B, j, none⟩ = false) (fun e w' ⟨k, q2, hq⟩ => by
    subst hq
    have F0 : Fx [B, g] X (X.drewN q2) := (Fx.refl _ _).drewN q2
    have b0 := (below_drewN q2 (Below.refl X.heap.size X)).block
    have hB := (b0 B (heap_lt hB3)).trans hB3
    have hG := (b0 g (heap_lt hG3)).trans hG3
    exact ⟨k, hB, hG, F3.trans F0, by rw [cell_of_row _ B _ _ _ (0, 0) hB]; rfl, by rw [cell_of_row _ B _ _ _ (0, 0) hB]; rfl, fun j => frozen_of_row _ B j _ _ hB⟩)
  clear c1 c2 hB3 hG3 F3
  generalize hpp : (f + 1) % n = p at *
  have HP : Hid ((f + 1) % n = p) := hpp
  clear hpp
  go_wp2_with (go_at_call 264; refine hp.mono ?_; rintro e w4 ⟨rfl, hB4, hG4, F4, x2, x3, z4⟩)
  go_ret2
  obtain ⟨r, hk, hy1, hy2⟩ := HK.out
  have hB5 := heap_setCell_same _ B 3 _ _ (I l.length) (heap_setCell_same w4 B 2 _ _ (I p) hB4)
  rw [HP.out]
  refine ⟨rfl, ⟨by rw [hB5]; simp, ?_, by simpa using hk, hm, r, ⟨by omega, hy2⟩, hNE⟩, (F4.set (b := B) (.inl (by simp)) _ _).set (b := B) (.inl (by simp)) _ _⟩
  rw [heap_setCell_other _ ⟨B, 3, none⟩ g _ (fun e => hNE e.symm), heap_setCell_other _ ⟨B, 2, none⟩ g _ (fun e => hNE e.symm)]
  exact hG4
end
end Go.Proofs.YtglnfifdjlgbcaaGreatDoor.Re

namespace Go.Proofs.YtglnfifdjlgbcaaGreatDoor.Re
open Go.RowKit
set_option linter.unusedVariables false
set_option linter.unusedSimpArgs false

/-! ### Rings of int: their face -/
def iQ (w : World) (B g n hi : Nat) (l : List Value) : Prop := ∃ f R, iRg w B g n f hi R l
section
variable {w : World} {B g n hi : Nat} {l : List Value}
theorem iQ.kept (h : iQ w B g n hi l) {bs : List Nat} {w' : World} (hf : Fx bs w w') (h1 : B ∉ bs) (h2 : g ∉ bs) : iQ w' B g n hi l := by
  obtain ⟨f, R, h⟩ := h
  exact ⟨f, R, h.kept hf h1 h2⟩
theorem iQ.below (h : iQ w B g n hi l) {w' : World} (hf : Below w.heap.size w w') : iQ w' B g n hi l := h.kept (bs := []) (Fx.of_below hf) (by simp) (by simp)
theorem iQ.drewN (h : iQ w B g n hi l) (q : Nat) : iQ (w.drewN q) B g n hi l := h.below (below_drewN q (Below.refl _ _))
theorem iQ.le (h : iQ w B g n hi l) : l.length ≤ n := by obtain ⟨f, R, h⟩ := h; exact h.lle
theorem iQ.hle (h : iQ w B g n hi l) : l.length ≤ hi ∧ hi ≤ n := by obtain ⟨f, R, h⟩ := h; exact h.y
theorem iQ.m (h : iQ w B g n hi l) : n ≤ 65536 := by obtain ⟨f, R, h⟩ := h; exact h.m
theorem iQ.lts (h : iQ w B g n hi l) : B < w.heap.size ∧ g < w.heap.size := by obtain ⟨f, R, h⟩ := h; exact h.lts
theorem iQ.ne (h : iQ w B g n hi l) : B ≠ g := by obtain ⟨f, R, h⟩ := h; exact h.ne
theorem iQ.ty (h : iQ w B g n hi l) : ∃ cs, w.heap[B]? = some (.cells cs 266) := by obtain ⟨f, R, h⟩ := h; exact ⟨_, h.o⟩
theorem iQ.tyg (h : iQ w B g n hi l) : ∃ cs, w.heap[g]? = some (.cells cs 3) := by obtain ⟨f, R, h⟩ := h; exact ⟨_, h.q⟩
theorem iNewQ (w : World) (n : Nat) (hn : n ≤ 65536) : Calls Tryz.prog 107 #[I n] w fun e w' => e = .returned (.tuple #[iP (w.heap.size + 1), I 0]) ∧ iQ w' (w.heap.size + 1) w.heap.size n 0 [] ∧ Below w.heap.size w w' :=
  (iNew_ok w n hn).mono (fun e w' k => ⟨k.1, ⟨_, _, k.2.1⟩, k.2.2⟩)
theorem iLastQ (h : iQ w B g n hi l) (hc : l.length < n) (x : Int) : Calls Tryz.prog 217 #[iP B, (Value.int .i64 x)] w fun e w' => e = .returned (I 0) ∧ iQ w' B g n (max hi (l.length + 1)) (l ++ [(Value.int .i64 x)]) ∧ Fx [B, g] w w' := by
  obtain ⟨f, R, h⟩ := h
  exact (iLast_ok h hc x).mono (fun e w' k => ⟨k.1, ⟨_, _, k.2.1⟩, k.2.2⟩)
theorem iLastF (h : iQ w B g n hi l) (hc : l.length = n) (x : Int) : Calls Tryz.prog 217 #[iP B, (Value.int .i64 x)] w fun e w' => e = .returned (I 121) ∧ iQ w' B g n hi l ∧ Below w.heap.size w w' := by
  have h0 := h
  obtain ⟨f, R, h⟩ := h
  exact (iLast_full h hc x).mono (fun e w' k => ⟨k.1, by obtain ⟨_, q, rfl⟩ := k; exact ⟨h0.drewN q, below_drewN q (Below.refl _ _)⟩⟩)
theorem iTakeQ (x : Int) (h : iQ w B g n hi ((Value.int .i64 x) :: l)) : Calls Tryz.prog 218 #[iP B] w fun e w' => e = .returned (.tuple #[(Value.int .i64 x), I 0]) ∧ iQ w' B g n hi l ∧ Fx [B, g] w w' := by
  obtain ⟨f, R, h⟩ := h
  exact (iTake_ok x h).mono (fun e w' k => ⟨k.1, ⟨_, _, k.2.1⟩, k.2.2⟩)
theorem iTakeN (h : iQ w B g n hi []) : Calls Tryz.prog 218 #[iP B] w fun e w' => e = .returned (.tuple #[(Value.int .i64 0), I 122]) ∧ w = w' := by
  obtain ⟨f, R, h⟩ := h
  exact iTake_no h
theorem iLenQ (h : iQ w B g n hi l) : Calls Tryz.prog 170 #[iP B] w fun e w' => e = .returned (I l.length) ∧ w = w' := by
  obtain ⟨f, R, h⟩ := h
  exact iLen_any h
theorem iFullQ (h : iQ w B g n hi l) : Calls Tryz.prog 262 #[iP B] w fun e w' => e = .returned (.bool (decide (l.length = n))) ∧ iQ w' B g n hi l ∧ Below w.heap.size w w' := by
  have h0 := h
  obtain ⟨f, R, h⟩ := h
  exact (iFull_any h).mono (fun e w' k => ⟨k.1, by obtain ⟨_, q, rfl⟩ := k; exact ⟨h0.drewN q, below_drewN q (Below.refl _ _)⟩⟩)
end
end Go.Proofs.YtglnfifdjlgbcaaGreatDoor.Re

