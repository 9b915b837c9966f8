import Derived.Test.YthhckhifaolmkaaGreatProg
import Derived.WalkKit
import Derived.WalkSpells
import Derived.WalkLawsBesides
import Derived.BigQuiet
import Derived.OwnWalk
import Derived.Deep.LoopGhost
import Derived.Deep.QuietTactic
import Derived.Lib.SliceRun
import Derived.Deep.RegionLaw
import Derived.Deep.RegionHeldLaw
import Derived.Laws.CopyOwn
import Derived.Defers
import Derived.Recover
import Derived.Tactics2
import Derived.Laws.Pointers
import Derived.Deep.Cut
namespace Go.Proofs.YthhckhifaolmkaaGreat.Cl
open Go.RowKit
set_option linter.unusedVariables false
set_option linter.unusedSimpArgs false

/-! ### Memory -/
abbrev I (i : Int) : Value := .int .i64 i
theorem ret_int {k : IntKind} {a b : Int} (h : a = b) : Ending.returned (.int k a) = .returned (.int k b) := by rw [h]
theorem ret_bool {a b : Bool} (h : a = b) : Ending.returned (.bool a) = .returned (.bool b) := by rw [h]
theorem heap_lt {w : World} {b : Nat} {o : Obj} (h : w.heap[b]? = some o) : b < w.heap.size := by
  rcases Nat.lt_or_ge b w.heap.size with h' | h'
  · exact h'
  · rw [Array.getElem?_eq_none h'] at h; cases h
theorem addr_add (g off j : Nat) : (⟨g, off, none⟩ : Addr).add j = ⟨g, off + j, none⟩ := by unfold Addr.add; split <;> simp_all
theorem grown_refl (w : World) (r : Option Nat) : w.grownBy w r := ⟨rfl, rfl, rfl, Nat.le_refl _, fun _ _ _ => rfl⟩
theorem grown_of_below {a b : World} {r : Option Nat} (h : Below a.heap.size a b) : a.grownBy b r := ⟨h.os, h.tape, h.output, h.size, fun i hi _ => h.block i hi⟩
theorem grown_set (w : World) (r k : Nat) (v : Value) : w.grownBy (w.setCell ⟨r, k, none⟩ v) (some r) :=
  ⟨rfl, rfl, rfl, by simp, fun j _ hj => heap_setCell_other w ⟨r, k, none⟩ j _ (fun e => hj (by simp [e]))⟩
theorem below_alloc (w : World) (o : Obj) : Below w.heap.size w (w.alloc o) := (Below.refl _ _).alloc (Nat.le_refl _) _
theorem heap_over (w : World) (o : Obj) {g : Nat} {x : Obj} (h : w.heap[g]? = some x) : (w.alloc o).heap[g]? = some x := by rw [heap_alloc_old w o (heap_lt h)]; exact h
theorem below_drewN {B : Nat} {a w : World} (n : Nat) (h : Below B a w) : Below B a (w.drewN n) := by
  induction n with
  | zero => exact h
  | succ n ih => exact ih.drew
theorem drewN_add (w : World) (a b : Nat) : (w.drewN a).drewN b = w.drewN (a + b) := by
  induction b with
  | zero => rfl
  | succ b ih => show ((w.drewN a).drewN b).drew = _; rw [ih]; rfl
theorem own_below {w w' : World} {base e size n : Nat} {v : Value} {xs : List Value} (h : w.ownsRow base e size v n xs) (hb : Below w.heap.size w w') : w'.ownsRow base e size v n xs := by
  obtain ⟨hl, h0 | ⟨g, cap, cur, hv, hb1, hh, rr⟩⟩ := h
  · exact ⟨hl, .inl h0⟩
  · exact ⟨hl, .inr ⟨g, cap, cur, hv, hb1, (hb.block g (heap_lt hh)).trans hh, rr⟩⟩

theorem cell_set_ne {w : World} {b g i k : Nat} {v : Value} (h : b ≠ g) : (w.setCell ⟨g, k, none⟩ v).cell? ⟨b, i, none⟩ = w.cell? ⟨b, i, none⟩ := World.cell?_of_block (heap_setCell_other w ⟨g, k, none⟩ b v h)
/-- Nothing but the blocks bs (and what is new) may have changed. -/
structure Fx (bs : List Nat) (w w' : World) : Prop where
  os : w'.os = w.os
  tape : w'.tape = w.tape
  output : w'.output = w.output
  size : w.heap.size ≤ w'.heap.size
  block : ∀ b, b < w.heap.size → b ∉ bs → w'.heap[b]? = w.heap[b]?
theorem Fx.refl (bs : List Nat) (w : World) : Fx bs w w := ⟨rfl, rfl, rfl, Nat.le_refl _, fun _ _ _ => rfl⟩
theorem Fx.trans {bs : List Nat} {a b c : World} (h : Fx bs a b) (k : Fx bs b c) : Fx bs a c :=
  ⟨k.os.trans h.os, k.tape.trans h.tape, k.output.trans h.output, Nat.le_trans h.size k.size, fun i hi hn => (k.block i (Nat.lt_of_lt_of_le hi h.size) hn).trans (h.block i hi hn)⟩
/-- What the second step turns is in bs or was made since. -/
theorem Fx.step {bs cs : List Nat} {a b c : World} (h : Fx bs a b) (k : Fx cs b c) (hc : ∀ x ∈ cs, x ∈ bs ∨ a.heap.size ≤ x) : Fx bs a c :=
  ⟨k.os.trans h.os, k.tape.trans h.tape, k.output.trans h.output, Nat.le_trans h.size k.size, fun i hi hn => (k.block i (Nat.lt_of_lt_of_le hi h.size) (fun e => (hc i e).elim hn (fun e2 => by omega))).trans (h.block i hi hn)⟩
theorem Fx.mono {bs cs : List Nat} {a b : World} (h : Fx bs a b) (hs : ∀ x ∈ bs, x ∈ cs) : Fx cs a b := ⟨h.os, h.tape, h.output, h.size, fun i hi hn => h.block i hi (fun e => hn (hs i e))⟩
theorem Fx.of_below {bs : List Nat} {a b : World} (h : Below a.heap.size a b) : Fx bs a b := ⟨h.os, h.tape, h.output, h.size, fun i hi _ => h.block i hi⟩
theorem Fx.below {bs : List Nat} {B : Nat} {a b : World} (h : Fx bs a b) (hB : B ≤ a.heap.size) (hs : ∀ x ∈ bs, B ≤ x) : Below B a b :=
  ⟨h.os, h.tape, h.output, h.size, fun i hi => h.block i (by omega) (fun e => by have := hs i e; omega)⟩
theorem Fx.set {bs : List Nat} {a w : World} (h : Fx bs a w) {b : Nat} (hb : b ∈ bs ∨ a.heap.size ≤ b) (k : Nat) (v : Value) : Fx bs a (w.setCell ⟨b, k, none⟩ v) :=
  h.step (cs := [b]) ⟨rfl, rfl, rfl, by simp, fun i _ hn => heap_setCell_other w ⟨b, k, none⟩ i _ (by simpa using hn)⟩ (by simpa using hb)
theorem Fx.alloc {bs : List Nat} {a w : World} (h : Fx bs a w) (o : Obj) : Fx bs a (w.alloc o) := h.trans (Fx.of_below (below_alloc w o))
theorem Fx.drewN {bs : List Nat} {a w : World} (h : Fx bs a w) (n : Nat) : Fx bs a (w.drewN n) := h.trans (Fx.of_below (below_drewN n (Below.refl _ _)))
theorem Fx.grown {bs : List Nat} {a w w' : World} {r : Option Nat} (h : Fx bs a w) (hg : w.grownBy w' r) (hr : ∀ g, r = some g → g ∈ bs ∨ a.heap.size ≤ g) : Fx bs a w' :=
  ⟨hg.os.trans h.os, hg.tape.trans h.tape, hg.output.trans h.output, Nat.le_trans h.size hg.size, fun i hi hn => (hg.block i (Nat.lt_of_lt_of_le hi h.size) (fun e => (hr i e.symm).elim hn (fun e2 => by omega))).trans (h.block i hi hn)⟩
theorem Fx.heap {bs : List Nat} {a b : World} (h : Fx bs a b) {g : Nat} {o : Obj} (hg : a.heap[g]? = some o) (hn : g ∉ bs) : b.heap[g]? = some o := (h.block g (heap_lt hg) hn).trans hg
theorem Fx.cell {bs : List Nat} {a b : World} (h : Fx bs a b) {g i : Nat} {v : Value} (hg : a.cell? ⟨g, i, none⟩ = some v) (hn : g ∉ bs) : b.cell? ⟨g, i, none⟩ = some v :=
  (World.cell?_of_block (h.block g (World.block_lt_of_cell? a _ hg) hn)).trans hg
theorem Fx.own {bs : List Nat} {a b : World} (h : Fx bs a b) {base e size n : Nat} {v : Value} {xs : List Value} (ho : a.ownsRow base e size v n xs) (hn : ∀ g, v.ownBlock = some g → g ∉ bs) : b.ownsRow base e size v n xs := by
  obtain ⟨hl, h0 | ⟨g, cap, cur, hv, hb1, hh, rr⟩⟩ := ho
  · exact ⟨hl, .inl h0⟩
  · exact ⟨hl, .inr ⟨g, cap, cur, hv, hb1, h.heap hh (hn g (by rw [hv]; rfl)), rr⟩⟩

/-- Nothing but the blocks of M (and what is new) may have changed. -/
structure Fz (M : Nat → Prop) (w w' : World) : Prop where
  os : w'.os = w.os
  tape : w'.tape = w.tape
  output : w'.output = w.output
  size : w.heap.size ≤ w'.heap.size
  block : ∀ b, b < w.heap.size → ¬ M b → w'.heap[b]? = w.heap[b]?
theorem Fz.refl (M : Nat → Prop) (w : World) : Fz M w w := ⟨rfl, rfl, rfl, Nat.le_refl _, fun _ _ _ => rfl⟩
theorem Fz.step {M N : Nat → Prop} {a b c : World} (h : Fz M a b) (k : Fz N b c) (hc : ∀ x, N x → M x ∨ a.heap.size ≤ x) : Fz M a c :=
  ⟨k.os.trans h.os, k.tape.trans h.tape, k.output.trans h.output, Nat.le_trans h.size k.size, fun i hi hn => (k.block i (Nat.lt_of_lt_of_le hi h.size) (fun e => (hc i e).elim hn (fun e2 => by omega))).trans (h.block i hi hn)⟩
theorem Fz.trans {M : Nat → Prop} {a b c : World} (h : Fz M a b) (k : Fz M b c) : Fz M a c := h.step k (fun _ e => .inl e)
theorem Fz.mono {M N : Nat → Prop} {a b : World} (h : Fz M a b) (hs : ∀ x, M x → N x) : Fz N a b := ⟨h.os, h.tape, h.output, h.size, fun i hi hn => h.block i hi (fun e => hn (hs i e))⟩
theorem Fz.of_fx {M : Nat → Prop} {bs : List Nat} {a b : World} (h : Fx bs a b) (hs : ∀ x ∈ bs, M x) : Fz M a b := ⟨h.os, h.tape, h.output, h.size, fun i hi hn => h.block i hi (fun e => hn (hs i e))⟩
theorem Fz.of_below {M : Nat → Prop} {a b : World} (h : Below a.heap.size a b) : Fz M a b := ⟨h.os, h.tape, h.output, h.size, fun i hi _ => h.block i hi⟩
theorem Fz.below {M : Nat → Prop} {B : Nat} {a b : World} (h : Fz M a b) (hB : B ≤ a.heap.size) (hs : ∀ x, M x → B ≤ x) : Below B a b :=
  ⟨h.os, h.tape, h.output, h.size, fun i hi => h.block i (by omega) (fun e => by have := hs i e; omega)⟩
theorem Fz.heap {M : Nat → Prop} {a b : World} (h : Fz M a b) {g : Nat} {o : Obj} (hg : a.heap[g]? = some o) (hn : ¬ M g) : b.heap[g]? = some o := (h.block g (heap_lt hg) hn).trans hg
theorem Fz.cell {M : Nat → Prop} {a b : World} (h : Fz M a b) {g i : Nat} {v : Value} (hg : a.cell? ⟨g, i, none⟩ = some v) (hn : ¬ M g) : b.cell? ⟨g, i, none⟩ = some v :=
  (World.cell?_of_block (h.block g (World.block_lt_of_cell? a _ hg) hn)).trans hg
theorem Fz.set {M : Nat → Prop} {a w : World} (h : Fz M a w) {b : Nat} (hb : M b ∨ a.heap.size ≤ b) (k : Nat) (v : Value) : Fz M a (w.setCell ⟨b, k, none⟩ v) :=
  h.step (N := fun x => x = b) ⟨rfl, rfl, rfl, by simp, fun i _ hn => heap_setCell_other w ⟨b, k, none⟩ i _ hn⟩ (by rintro x rfl; exact hb)
theorem Fz.alloc {M : Nat → Prop} {a w : World} (h : Fz M a w) (o : Obj) : Fz M a (w.alloc o) := h.trans (Fz.of_below (below_alloc w o))
theorem Fz.drewN {M : Nat → Prop} {a w : World} (h : Fz M a w) (n : Nat) : Fz M a (w.drewN n) := h.trans (Fz.of_below (below_drewN n (Below.refl _ _)))
theorem Fz.own {M : Nat → Prop} {a b : World} (h : Fz M a b) {base e size n : Nat} {v : Value} {xs : List Value} (ho : a.ownsRow base e size v n xs) (hn : ∀ g, v.ownBlock = some g → ¬ M g) : b.ownsRow base e size v n xs := by
  obtain ⟨hl, h0 | ⟨g, cap, cur, hv, hb1, hh, rr⟩⟩ := ho
  · exact ⟨hl, .inl h0⟩
  · exact ⟨hl, .inr ⟨g, cap, cur, hv, hb1, h.heap hh (hn g (by rw [hv]; rfl)), rr⟩⟩

/-- 'clear(s)' as one step of a region that draws its order. -/
theorem step_clear {P : Program} {ops : Array Oper} {o : Oper} {a : Act} {w : World} {K : Act → World → Prop} {Q : Exit → Act → World → Prop} {E : Prop}
    (hg : o.guard = none) (s : Operand) (t : TypeId) (hop : o.op = Op.call { callee := Callee.builtin Builtin.clear, args := #[s], argTypes := #[t] })
    (v : Value) (hs : a.eval s = v) (w' : World) (hrun : ∀ ty, (Builtin.clear_ #[t] ty #[v]).run P w = .ok (.tuple #[]) w') (hK : K (a.put o.dst (.tuple #[])) w') :
    if Region.wanted o (yielded ops a.tmps) = true then Oper.wp P o a w K Q else E := by
  have hw : Region.wanted o (yielded ops a.tmps) = true := by simp [Region.wanted, hg]
  rw [if_pos hw]
  have hr := hrun o.type
  unfold Oper.wp
  simp [execOp, hop, resolve, invoke, builtin, hs, hr, Result.andThen]
  exact hK
/-- as bodyPostD, but that no way leads to a panic -/
def postD (P : Program) (fn : Func) (R : Ending → World → Prop) : Exit → Act → World → Prop
  | .panic _, _, _ => False
  | .outgrown, _, _ => False
  | .normal, a, w => bodyPostD P fn R .normal a w
  | .ret, a, w => bodyPostD P fn R .ret a w
  | .exit _, _, _ => False
  | .goto _, _, _ => False
theorem post_d {P : Program} {fn : Func} {R : Ending → World → Prop} : ∀ (e : Exit) (a : Act) (w : World), postD P fn R e a w → bodyPostD P fn R e a w
  | .panic _, _, _, h => h.elim
  | .outgrown, _, _, h => h.elim
  | .normal, _, _, h => h
  | .ret, _, _, h => h
  | .exit _, _, _, h => h.elim
  | .goto _, _, _, h => h.elim
end Go.Proofs.YthhckhifaolmkaaGreat.Cl

namespace Go.Proofs.YthhckhifaolmkaaGreat.Cl
open Go.RowKit
set_option linter.unusedVariables false
set_option linter.unusedSimpArgs false

/-! ### Alarms on lists: how many ticks are left (0: not set), the cycle -/
abbrev Alm := Nat × Nat
def psA (t : Nat) (x : Alm) : Alm := if x.1 = 0 then x else if x.1 - t = 0 then (x.2, x.2) else (x.1 - t, x.2)
def dueA (t : Nat) (x : Alm) : Bool := decide (x.1 ≠ 0) && decide (x.1 - t = 0)
def dueF (t : Nat) : Nat → List Alm → List Nat
  | _, [] => []
  | o, x :: r => if dueA t x then o :: dueF t (o + 1) r else dueF t (o + 1) r
theorem dueF_snoc (t : Nat) (x : Alm) : ∀ (l : List Alm) (o : Nat), dueF t o (l ++ [x]) = dueF t o l ++ (if dueA t x then [o + l.length] else [])
  | [], o => by simp [dueF]
  | y :: r, o => by
    simp only [List.cons_append, dueF, dueF_snoc t x r (o + 1), List.length_cons]
    rw [show o + 1 + r.length = o + (r.length + 1) by omega]
    split <;> simp
theorem take_snoc {α : Type} {l : List α} {k : Nat} {x : α} (h : l[k]? = some x) : l.take (k + 1) = l.take k ++ [x] := by
  rw [List.take_add_one, h]; rfl
def mixL (t : Nat) (al : List Alm) (k : Nat) : List Alm := (al.take k).map (psA t) ++ al.drop k
theorem mixL_zero (t : Nat) (al : List Alm) : mixL t al 0 = al := by simp [mixL]
theorem mixL_all (t : Nat) (al : List Alm) : mixL t al al.length = al.map (psA t) := by simp [mixL]
theorem mixL_len (t : Nat) (al : List Alm) (k : Nat) : (mixL t al k).length = al.length := by simp [mixL]; omega
theorem mixL_at {t : Nat} {al : List Alm} {k : Nat} {x : Alm} (h : al[k]? = some x) : (mixL t al k)[k]? = some x := by
  have hk : k < al.length := (List.getElem?_eq_some_iff.1 h).1
  unfold mixL
  rw [List.getElem?_append_right (by simp; omega)]
  simp only [List.length_map, List.length_take, List.getElem?_drop]
  rw [show k + (k - min k al.length) = k by omega]
  exact h
theorem mixL_succ {t : Nat} {al : List Alm} {k : Nat} {x : Alm} (h : al[k]? = some x) : mixL t al (k + 1) = (mixL t al k).set k (psA t x) := by
  have hk : k < al.length := (List.getElem?_eq_some_iff.1 h).1
  have hx : al.drop k = x :: al.drop (k + 1) := by
    rw [List.drop_eq_getElem_cons hk]
    congr 1
    exact (List.getElem?_eq_some_iff.1 h).2
  unfold mixL
  rw [take_snoc h, List.map_append, hx, List.set_append_right _ _ (by simp; omega)]
  simp only [List.length_map, List.length_take]
  rw [show k - min k al.length = 0 by omega]
  simp
theorem set_self {α : Type} {l : List α} {k : Nat} {a : α} (h : l[k]? = some a) : l.set k a = l := by
  apply List.ext_getElem?
  intro i
  rw [List.getElem?_set]
  by_cases e : k = i
  · subst e
    have := (List.getElem?_eq_some_iff.1 h).1
    rw [if_pos rfl, if_pos this, h]
  · simp [e]
theorem mixL_skip {t : Nat} {al : List Alm} {k : Nat} {x : Alm} (h : al[k]? = some x) (hp : psA t x = x) : mixL t al (k + 1) = mixL t al k := by
  rw [mixL_succ h, hp]; exact set_self (mixL_at h)
/-! soonest -/
def nvr : Nat := 18446744073709551615
def soonA (m : Nat) (x : Alm) : Nat := if x.1 = 0 then m else min m x.1
def soonL (al : List Alm) : Nat := al.foldl soonA nvr
theorem soon_snoc (l : List Alm) (x : Alm) : soonL (l ++ [x]) = soonA (soonL l) x := by simp [soonL]
theorem soon_ge (l : List Alm) (m : Nat) : l.foldl soonA m ≤ m := by
  induction l generalizing m with
  | nil => exact Nat.le_refl _
  | cons x r ih =>
    refine Nat.le_trans (ih _) ?_
    unfold soonA
    split
    · exact Nat.le_refl _
    · exact Nat.min_le_left _ _
theorem soon_le' (l : List Alm) (m : Nat) : ∀ x ∈ l, x.1 ≠ 0 → l.foldl soonA m ≤ x.1 := by
  induction l generalizing m with
  | nil => intro x hx; simp at hx
  | cons y r ih =>
    intro x hx h0
    rcases List.mem_cons.1 hx with rfl | hx
    · refine Nat.le_trans (soon_ge r _) ?_
      unfold soonA
      rw [if_neg h0]
      exact Nat.min_le_right _ _
    · exact ih _ x hx h0
theorem soon_le {l : List Alm} : ∀ x ∈ l, x.1 ≠ 0 → soonL l ≤ x.1 := soon_le' l nvr
theorem soon_mem' (l : List Alm) (m : Nat) : l.foldl soonA m = m ∨ ∃ x ∈ l, x.1 ≠ 0 ∧ x.1 = l.foldl soonA m := by
  induction l generalizing m with
  | nil => exact .inl rfl
  | cons y r ih =>
    rcases ih (soonA m y) with h | ⟨x, hx, h0, h1⟩
    · simp only [List.foldl_cons]
      rw [h]
      unfold soonA
      split
      · exact .inl rfl
      · rename_i h0
        rcases Nat.le_total m y.1 with h2 | h2
        · exact .inl (Nat.min_eq_left h2)
        · exact .inr ⟨y, List.mem_cons_self .., h0, (Nat.min_eq_right h2).symm⟩
    · exact .inr ⟨x, List.mem_cons_of_mem _ hx, h0, h1⟩
theorem soon_mem {l : List Alm} (h : soonL l ≠ nvr) : ∃ x ∈ l, x.1 ≠ 0 ∧ x.1 = soonL l := by
  rcases soon_mem' l nvr with h1 | h1
  · exact absurd h1 h
  · exact h1
theorem soon_pos {l : List Alm} : 1 ≤ soonL l := by
  by_cases h : soonL l = nvr
  · rw [h]; decide
  · obtain ⟨x, _, h0, h1⟩ := soon_mem h
    omega
theorem dueF_pos {t : Nat} : ∀ (l : List Alm) (o : Nat), (∃ x ∈ l, x.1 ≠ 0 ∧ x.1 = t) → dueF t o l ≠ []
  | [], _, h => by obtain ⟨x, hx, _⟩ := h; simp at hx
  | y :: r, o, h => by
    obtain ⟨x, hx, h0, h1⟩ := h
    unfold dueF
    split
    · simp
    · rename_i hd
      rcases List.mem_cons.1 hx with rfl | hx
      · exfalso; apply hd; rw [show dueA t x = (decide (x.1 ≠ 0) && decide (x.1 - t = 0)) from rfl]; simp [h0]; omega
      · exact dueF_pos r (o + 1) ⟨x, hx, h0, h1⟩
theorem dueF_len {t : Nat} : ∀ (l : List Alm) (o : Nat), (dueF t o l).length ≤ l.length
  | [], _ => Nat.le_refl _
  | y :: r, o => by
    have := dueF_len (t := t) r (o + 1)
    unfold dueF
    split <;> simp <;> omega
/-- each that expires is at least o, below o + length, and they rise -/
theorem dueF_mem {t : Nat} : ∀ (l : List Alm) (o i : Nat), i ∈ dueF t o l ↔ o ≤ i ∧ ∃ x, l[i - o]? = some x ∧ dueA t x = true
  | [], o, i => by simp [dueF]
  | y :: r, o, i => by
    have ih := dueF_mem (t := t) r (o + 1) i
    unfold dueF
    by_cases e : i = o
    · subst e
      have hn : ¬ i ∈ dueF t (i + 1) r := fun h => by have := (ih.1 h).1; omega
      by_cases hd : dueA t y = true
      · simp [hd]
      · simp [hd, hn]
    · have h1 : o ≤ i ↔ o + 1 ≤ i := by omega
      have h2 : o ≤ i → (y :: r)[i - o]? = r[i - (o + 1)]? := fun h => by
        rw [show i - o = (i - (o + 1)) + 1 by omega]; rfl
      by_cases hd : dueA t y = true
      · rw [if_pos hd, List.mem_cons, ih]
        constructor
        · rintro (h | ⟨h, h3⟩)
          · exact absurd h e
          · exact ⟨h1.2 h, by rw [h2 (h1.2 h)]; exact h3⟩
        · rintro ⟨h, h3⟩
          exact .inr ⟨h1.1 h, by rw [← h2 h]; exact h3⟩
      · rw [if_neg hd, ih]
        constructor
        · rintro ⟨h, h3⟩
          exact ⟨h1.2 h, by rw [h2 (h1.2 h)]; exact h3⟩
        · rintro ⟨h, h3⟩
          exact ⟨h1.1 h, by rw [← h2 h]; exact h3⟩
theorem dueF_rise {t : Nat} : ∀ (l : List Alm) (o : Nat), (dueF t o l).Pairwise (· < ·)
  | [], _ => List.Pairwise.nil
  | y :: r, o => by
    have ih := dueF_rise (t := t) r (o + 1)
    unfold dueF
    split
    · refine List.Pairwise.cons (fun i hi => ?_) ih
      have := ((dueF_mem r (o + 1) i).1 hi).1
      omega
    · exact ih
/-! ### The next expirings, as the document finds them -/
abbrev Dal := Bool × Nat × Nat
def pickTo (D : List Dal) : Nat → Option Nat
  | 0 => none
  | i + 1 => match D[i]? with
    | some x => if x.1 then (match pickTo D i with | none => some i | some k => if x.2.1 < (D.getD k (false, 0, 0)).2.1 then some i else some k) else pickTo D i
    | none => pickTo D i
def pick (D : List Dal) : Option Nat := pickTo D D.length
theorem pickTo_some {D : List Dal} : ∀ {n k : Nat}, pickTo D n = some k → k < n ∧ ∃ x, D[k]? = some x ∧ x.1 = true
  | 0, k, h => by simp [pickTo] at h
  | i + 1, k, h => by
    unfold pickTo at h
    cases hx : D[i]? with
    | none =>
      rw [hx] at h
      have := pickTo_some (n := i) h
      exact ⟨by omega, this.2⟩
    | some x =>
      rw [hx] at h
      simp only at h
      by_cases h1 : x.1 = true
      · rw [if_pos h1] at h
        cases hp : pickTo D i with
        | none => rw [hp] at h; simp at h; subst h; exact ⟨by omega, x, hx, h1⟩
        | some k2 =>
          rw [hp] at h
          simp only at h
          split at h
          · simp at h; subst h; exact ⟨by omega, x, hx, h1⟩
          · simp at h; subst h
            have := pickTo_some (n := i) hp
            exact ⟨by omega, this.2⟩
      · rw [if_neg h1] at h
        have := pickTo_some (n := i) h
        exact ⟨by omega, this.2⟩
theorem pickTo_none {D : List Dal} : ∀ {n : Nat}, (∀ i x, i < n → D[i]? = some x → x.1 = false) → pickTo D n = none
  | 0, _ => rfl
  | i + 1, h => by
    have ih := pickTo_none (n := i) (fun j x hj hx => h j x (by omega) hx)
    unfold pickTo
    cases hx : D[i]? with
    | none => exact ih
    | some x => simp only [h i x (by omega) hx]; exact ih
theorem pickTo_get {D : List Dal} {j : Nat} {y : Dal} (hj : D[j]? = some y) (hy : y.1 = true) : ∀ {n : Nat},
    (∀ i x, i < n → i < j → D[i]? = some x → x.1 = true → y.2.1 < x.2.1) → (∀ i x, i < n → j < i → D[i]? = some x → x.1 = true → y.2.1 ≤ x.2.1) → j < n → pickTo D n = some j
  | 0, _, _, h => by omega
  | i + 1, h1, h2, hn => by
    unfold pickTo
    by_cases e : i = j
    · subst e
      rw [hj]
      simp only [hy, if_true]
      cases hp : pickTo D i with
      | none => rfl
      | some k =>
        obtain ⟨hk, x, hx, hx1⟩ := pickTo_some hp
        have := h1 k x (by omega) hk hx hx1
        simp only
        rw [List.getD_eq_getElem?_getD, hx, Option.getD_some, if_pos this]
    · have ih := pickTo_get hj hy (n := i) (fun i x hi => h1 i x (by omega)) (fun i x hi => h2 i x (by omega)) (by omega)
      cases hx : D[i]? with
      | none => exact ih
      | some x =>
        simp only [ih]
        by_cases hx1 : x.1 = true
        · rw [if_pos hx1, List.getD_eq_getElem?_getD, hj, Option.getD_some, if_neg]
          have := h2 i x (by omega) (by omega) hx hx1
          omega
        · rw [if_neg hx1]
def dstep (D : List Dal) (k : Nat) : List Dal := D.set k (decide (0 < (D.getD k (false, 0, 0)).2.2), (D.getD k (false, 0, 0)).2.1 + (D.getD k (false, 0, 0)).2.2, (D.getD k (false, 0, 0)).2.2)
def dseq : Nat → List Dal → List (Nat × Nat)
  | 0, _ => []
  | n + 1, D => match pick D with
    | none => []
    | some k => ((D.getD k (false, 0, 0)).2.1, k) :: dseq n (dstep D k)
theorem dseq_len : ∀ (n : Nat) (D : List Dal), (dseq n D).length ≤ n
  | 0, _ => Nat.le_refl _
  | n + 1, D => by
    unfold dseq
    split
    · simp
    · have := dseq_len n (dstep D ‹_›)
      simp only [List.length_cons]; omega
theorem dseq_take : ∀ (n m : Nat) (D : List Dal), n ≤ m → (dseq m D).take n = dseq n D
  | 0, _, _, _ => by simp [dseq]
  | n + 1, 0, _, h => by omega
  | n + 1, m + 1, D, h => by
    unfold dseq
    split
    · rfl
    · simp only [List.take_succ_cons]
      rw [dseq_take n m _ (by omega)]
/-- alarms at a time, and as the document reckons them -/
structure AtT (t : Nat) (al : List Alm) (D : List Dal) : Prop where
  l : D.length = al.length
  e : ∀ (i : Nat) (x : Alm), al[i]? = some x → ∃ y : Dal, D[i]? = some y ∧ y.1 = decide (x.1 ≠ 0) ∧ (x.1 ≠ 0 → y.2 = (t + x.1, x.2))
theorem AtT.start (al : List Alm) : AtT 0 al (al.map fun x => (decide (x.1 ≠ 0), x.1, x.2)) :=
  ⟨by simp, fun i x h => ⟨(decide (x.1 ≠ 0), x.1, x.2), by simp [h], rfl, fun _ => by simp⟩⟩
theorem AtT.nil {t : Nat} {al : List Alm} {D : List Dal} (h : AtT t al D) (ha : ∀ x ∈ al, x.1 = 0) (n : Nat) : dseq n D = [] := by
  cases n with
  | zero => rfl
  | succ n =>
    have hp : pick D = none := pickTo_none (fun i x hi hx => by
      have hi2 : i < al.length := by rw [← h.l]; exact hi
      obtain ⟨y, h1, h2, _⟩ := h.e i al[i] (List.getElem?_eq_getElem hi2)
      rw [hx] at h1
      cases h1
      rw [h2, ha _ (List.getElem_mem hi2)]
      rfl)
    unfold dseq
    rw [hp]
/-- those ahead of j have gone on, those from j on not yet -/
structure Mix (t s j : Nat) (al : List Alm) (D : List Dal) : Prop where
  l : D.length = al.length
  a : ∀ (i : Nat) (x : Alm), i < j → al[i]? = some x → ∃ y : Dal, D[i]? = some y ∧ y.1 = decide ((psA s x).1 ≠ 0) ∧ ((psA s x).1 ≠ 0 → y.2 = (t + s + (psA s x).1, (psA s x).2))
  b : ∀ (i : Nat) (x : Alm), j ≤ i → al[i]? = some x → ∃ y : Dal, D[i]? = some y ∧ y.1 = decide (x.1 ≠ 0) ∧ (x.1 ≠ 0 → y.2 = (t + x.1, x.2))
theorem mix_run {t s : Nat} {al : List Alm} (hs : 1 ≤ s) (hm : ∀ x ∈ al, x.1 ≠ 0 → s ≤ x.1) : ∀ (m j : Nat) (D : List Dal), j + m = al.length → Mix t s j al D →
    ∃ D', AtT (t + s) (al.map (psA s)) D' ∧ ∀ n, dseq n D = ((dueF s j (al.drop j)).map fun i => (t + s, i)).take n ++ dseq (n - (dueF s j (al.drop j)).length) D'
  | 0, j, D, hj, h => by
    refine ⟨D, ⟨by simp [h.l], fun i x hx => ?_⟩, fun n => ?_⟩
    · rw [List.getElem?_map] at hx
      obtain ⟨x0, h0, rfl⟩ := Option.map_eq_some_iff.1 hx
      have hi := (List.getElem?_eq_some_iff.1 h0).1
      exact h.a i x0 (by omega) h0
    · rw [List.drop_eq_nil_of_le (by omega)]
      simp [dueF]
  | m + 1, j, D, hj, h => by
    have hjl : j < al.length := by omega
    have hx : al[j]? = some al[j] := List.getElem?_eq_getElem hjl
    generalize al[j] = x at hx
    have hd : al.drop j = x :: al.drop (j + 1) := by
      rw [List.drop_eq_getElem_cons hjl]
      congr 1
      exact (List.getElem?_eq_some_iff.1 hx).2
    have hxm : x ∈ al := List.mem_of_getElem? hx
    rw [hd]
    unfold dueF
    obtain ⟨y, y1, y2, y3⟩ := h.b j x (Nat.le_refl _) hx
    by_cases hdue : dueA s x = true
    · rw [if_pos hdue]
      have hx0 : x.1 ≠ 0 := by simp [dueA] at hdue; exact hdue.1
      have hxs : x.1 = s := by
        have := hm x hxm hx0
        simp [dueA] at hdue
        omega
      have hyt : y.1 = true := by rw [y2]; simp [hx0]
      have hyv := y3 hx0
      have hps : psA s x = (x.2, x.2) := by unfold psA; rw [if_neg hx0, if_pos (by omega)]
      have hp : pick D = some j := by
        refine pickTo_get y1 hyt (fun i z hi hij hz hz1 => ?_) (fun i z hi hij hz hz1 => ?_) (by rw [h.l]; exact hjl)
        · obtain ⟨z', q1, q2, q3⟩ := h.a i al[i] hij (List.getElem?_eq_getElem (by omega))
          rw [hz] at q1
          cases q1
          have hne : (psA s al[i]).1 ≠ 0 := by rw [q2] at hz1; simpa using hz1
          rw [q3 hne, hyv]
          simp only
          omega
        · have hil : i < al.length := by rw [← h.l]; exact hi
          obtain ⟨z', q1, q2, q3⟩ := h.b i al[i] (by omega) (List.getElem?_eq_getElem hil)
          rw [hz] at q1
          cases q1
          have hne : al[i].1 ≠ 0 := by rw [q2] at hz1; simpa using hz1
          have := hm _ (List.getElem_mem hil) hne
          rw [q3 hne, hyv]
          simp only
          omega
      have hg : D.getD j (false, 0, 0) = y := by rw [List.getD_eq_getElem?_getD, y1]; rfl
      have hM : Mix t s (j + 1) al (dstep D j) := by
        unfold dstep
        rw [hg, hyv]
        refine ⟨by simp [h.l], fun i z hi hz => ?_, fun i z hi hz => ?_⟩
        · by_cases e : i = j
          · subst e
            rw [hx] at hz
            cases hz
            refine ⟨_, List.getElem?_set_self (by rw [h.l]; exact hjl), ?_, fun h9 => ?_⟩
            · rw [hps]; simp only; congr 1; simp only [eq_iff_iff]; omega
            · rw [hps]; simp only; rw [hxs]
          · obtain ⟨z', q1, q2⟩ := h.a i z (by omega) hz
            exact ⟨z', by rw [List.getElem?_set_ne (fun e2 => e e2.symm)]; exact q1, q2⟩
        · obtain ⟨z', q1, q2⟩ := h.b i z (by omega) hz
          exact ⟨z', by rw [List.getElem?_set_ne (by omega)]; exact q1, q2⟩
      obtain ⟨D', hA, hD⟩ := mix_run hs hm m (j + 1) (dstep D j) (by omega) hM
      refine ⟨D', hA, fun n => ?_⟩
      cases n with
      | zero => simp [dseq]
      | succ n =>
        have e1 : dseq (n + 1) D = ((D.getD j (false, 0, 0)).2.1, j) :: dseq n (dstep D j) := by
          rw [dseq, hp]
        rw [e1, hg, hyv, hD n]
        simp only [List.map_cons, List.take_succ_cons, List.length_cons, List.cons_append, hxs, Nat.add_sub_add_right]
    · rw [if_neg hdue]
      have hps : (psA s x).1 = (if x.1 = 0 then 0 else x.1 - s) ∧ (psA s x).2 = x.2 := by
        unfold psA
        by_cases h0 : x.1 = 0
        · simp [h0]
        · have : x.1 - s ≠ 0 := by
            intro e
            apply hdue
            simp [dueA, h0, e]
          simp [h0, this]
      have hM : Mix t s (j + 1) al D := by
        refine ⟨h.l, fun i z hi hz => ?_, fun i z hi hz => h.b i z (by omega) hz⟩
        by_cases e : i = j
        · subst e
          rw [hx] at hz
          cases hz
          refine ⟨y, y1, ?_, fun h9 => ?_⟩
          · rw [y2, hps.1]
            congr 1
            by_cases h0 : x.1 = 0
            · simp [h0]
            · have := hm x hxm h0
              have h5 : x.1 - s ≠ 0 := by
                intro e
                apply hdue
                simp [dueA, h0, e]
              simp [h0, h5]
          · have h0 : x.1 ≠ 0 := by
              intro e
              rw [hps.1, if_pos e] at h9
              exact h9 rfl
            rw [y3 h0, hps.1, hps.2, if_neg h0]
            have := hm x hxm h0
            rw [show t + s + (x.1 - s) = t + x.1 by omega]
        · exact h.a i z (by omega) hz
      exact mix_run hs hm m (j + 1) D (by omega) hM
theorem AtT.run {t s : Nat} {al : List Alm} {D : List Dal} (h : AtT t al D) (hs : 1 ≤ s) (hm : ∀ x ∈ al, x.1 ≠ 0 → s ≤ x.1) :
    ∃ D', AtT (t + s) (al.map (psA s)) D' ∧ ∀ n, dseq n D = ((dueF s 0 al).map fun i => (t + s, i)).take n ++ dseq (n - (dueF s 0 al).length) D' := by
  obtain ⟨D', h1, h2⟩ := mix_run hs hm al.length 0 D (by omega) ⟨h.l, fun i x hi => by omega, fun i x _ hx => h.e i x hx⟩
  rw [List.drop_zero] at h2
  exact ⟨D', h1, h2⟩
/-- what comes first comes later than now -/
theorem AtT.later {t : Nat} {al : List Alm} {D : List Dal} (h : AtT t al D) {n : Nat} {x : Nat × Nat} {r : List (Nat × Nat)} (he : dseq n D = x :: r) : t < x.1 := by
  cases n with
  | zero => simp [dseq] at he
  | succ n =>
    unfold dseq at he
    cases hp : pick D with
    | none => rw [hp] at he; simp at he
    | some k =>
      rw [hp] at he
      simp only [List.cons.injEq] at he
      obtain ⟨hk, y, hy, hy1⟩ := pickTo_some hp
      have hkl : k < al.length := by rw [← h.l]; exact hk
      obtain ⟨z, q1, q2, q3⟩ := h.e k al[k] (List.getElem?_eq_getElem hkl)
      rw [hy] at q1
      cases q1
      have hne : al[k].1 ≠ 0 := by rw [q2] at hy1; simpa using hy1
      rw [← he.1, List.getD_eq_getElem?_getD, hy, Option.getD_some, q3 hne]
      simp only
      omega
/-- where nothing comes no alarm is set -/
theorem AtT.unset {t : Nat} {al : List Alm} {D : List Dal} (h : AtT t al D) {n : Nat} (hn : 0 < n) (he : dseq n D = []) : ∀ x ∈ al, x.1 = 0 := by
  intro x hx
  obtain ⟨i, hi, rfl⟩ := List.getElem_of_mem hx
  by_cases h0 : al[i].1 = 0
  · exact h0
  · exfalso
    cases n with
    | zero => omega
    | succ n =>
      unfold dseq at he
      cases hp : pick D with
      | some k => rw [hp] at he; simp at he
      | none =>
        obtain ⟨y, q1, q2, q3⟩ := h.e i al[i] (List.getElem?_eq_getElem hi)
        have hy : y.1 = true := by rw [q2]; simp [h0]
        have key : ∀ m, i < m → pickTo D m ≠ none := by
          intro m
          induction m with
          | zero => intro h; omega
          | succ m ih =>
            intro hm
            unfold pickTo
            by_cases e : m = i
            · subst e
              rw [q1]
              simp only [hy, if_true]
              split
              · simp
              · split <;> simp
            · have := ih (by omega)
              split
              · split
                · split
                  · simp
                  · split <;> simp
                · exact this
              · exact this
        exact key D.length (by rw [h.l]; exact hi) hp
end Go.Proofs.YthhckhifaolmkaaGreat.Cl

namespace Go.Proofs.YthhckhifaolmkaaGreat.Cl
open Go.RowKit
set_option linter.unusedVariables false
set_option linter.unusedSimpArgs false

/-! ### Sums -/
abbrev U (i : Int) : Value := .int .u32 i
abbrev Q (i : Int) : Value := .int .u64 i
def mnN (a b : Nat) : Nat := min a b
theorem min_two (ats : Array TypeId) (ty : TypeId) (k : IntKind) (a b : Nat) : Builtin.min_ ats ty #[.int k (a : Int), .int k (b : Int)] = pure (.int k ((mnN a b : Nat) : Int)) := by
  show (do let s ← Builtin.min2 (.int k (a : Int)) (.int k (b : Int)); pure s : Sem Value) = _
  simp only [Builtin.min2]
  cases k <;> (show (pure _ : Sem Value) = _; congr 2; unfold mnN; split <;> omega)
theorem w64 {x : Int} (h0 : 0 ≤ x) (h1 : x < 18446744073709551616) : IntKind.u64.wrap x = x := by
  have : IntKind.u64.wrap x = x % 18446744073709551616 := by simp [IntKind.wrap, IntKind.bits, IntKind.signed]
  rw [this]; omega
theorem w32 {x : Int} (h0 : 0 ≤ x) (h1 : x < 4294967296) : IntKind.u32.wrap x = x := by
  have : IntKind.u32.wrap x = x % 4294967296 := by simp [IntKind.wrap, IntKind.bits, IntKind.signed]
  rw [this]; omega
attribute [local go_sem 5000] min_two
theorem round_any (w : World) (g : Nat) (hg : g < 4294967296) : Calls Tryz.prog 148 #[U g] w fun e w' => e = .returned (Q ((g : Int) + 1)) ∧ w = w' := by
  go_enter Tryz.func148, Tryz.ntmps148
  go_wp2
  go_ret
  exact ⟨rfl, rfl⟩
def aftN (g n t : Nat) : Nat := (min n g + t % (g + 1)) % (g + 1)
theorem aftN_le (g n t : Nat) : aftN g n t ≤ g := by unfold aftN; have := Nat.mod_lt (min n g + t % (g + 1)) (show 0 < g + 1 by omega); omega
theorem aft_eq {g m t : Nat} (hg : g < 4294967296) (hm : m ≤ g) : IntKind.u32.wrap ((IntKind.u64.wrap ((m : Int) + (t : Int) % ((g : Int) + 1))).tmod ((g : Int) + 1)) = (((m + t % (g + 1)) % (g + 1) : Nat) : Int) := by
  have h1 : (t : Int) % ((g : Int) + 1) = ((t % (g + 1) : Nat) : Int) := by rw [Int.natCast_emod]; rfl
  have h2 : t % (g + 1) < g + 1 := Nat.mod_lt _ (by omega)
  rw [h1, show (m : Int) + ((t % (g + 1) : Nat) : Int) = ((m + t % (g + 1) : Nat) : Int) by omega, w64 (by omega) (by omega), Int.tmod_eq_emod_of_nonneg (by omega), show ((g : Int) + 1) = ((g + 1 : Nat) : Int) by omega, ← Int.natCast_emod]
  have h3 : (m + t % (g + 1)) % (g + 1) < g + 1 := Nat.mod_lt _ (by omega)
  exact w32 (by omega) (by omega)
theorem aft_eq2 {g m t : Nat} (hg : g < 4294967296) (hm : m ≤ g) : IntKind.u32.wrap ((IntKind.u64.wrap ((m : Int) + (t : Int) % ((g : Int) + 1))) % ((g : Int) + 1)) = (((m + t % (g + 1)) % (g + 1) : Nat) : Int) := by
  rw [← aft_eq hg hm, Int.tmod_eq_emod_of_nonneg]
  have : IntKind.u64.wrap ((m : Int) + (t : Int) % ((g : Int) + 1)) = ((m : Int) + (t : Int) % ((g : Int) + 1)) % 18446744073709551616 := by simp [IntKind.wrap, IntKind.bits, IntKind.signed]
  rw [this]; omega
theorem After_any (w : World) (g n t : Nat) (hg : g < 4294967296) (hn : n < 4294967296) (ht : t < 18446744073709551616) : Calls Tryz.prog 146 #[U g, U n, Q t] w fun e w' => e = .returned (U (aftN g n t : Nat)) ∧ Below w.heap.size w w' := by
  have hr := fun W => round_any W g hg
  have hm : mnN n g ≤ g := by unfold mnN; omega
  have hm2 : mnN n g < 4294967296 := by omega
  go_enter Tryz.func146, Tryz.ntmps146
  go_wp2
  go_region_held_law (fun _ => True) (first | trivial) (first | (go_at_call 148; refine (hr _).mono ?_; rintro e w1 ⟨rfl, rfl⟩))
  all_goals
    go_wp2
    go_ret
    refine ⟨?_, (Below.refl _ _).drew⟩
    first | exact ret_int (aft_eq hg hm) | exact ret_int (aft_eq2 hg hm)
theorem Next_any (w : World) (g n : Nat) (hg : g < 4294967296) (hn : n < 4294967296) : Calls Tryz.prog 115 #[U g, U n] w fun e w' => e = .returned (U (aftN g n 1 : Nat)) ∧ Below w.heap.size w w' := by
  have hr := After_any w g n 1 hg hn (by omega)
  go_enter Tryz.func115, Tryz.ntmps115
  go_wp2_with (first | (go_at_call 146; refine hr.mono ?_; rintro e w1 ⟨rfl, b1⟩))
  go_ret
  exact ⟨rfl, b1⟩
def untN (g n v : Nat) : Nat := if min n g < min v g then min v g - min n g else g + 1 - (min n g - min v g)
theorem untN_pos (g n v : Nat) : 1 ≤ untN g n v ∧ untN g n v ≤ g + 1 := by unfold untN; split <;> omega
theorem Until_any (w : World) (g n v : Nat) (hg : g < 4294967296) (hn : n < 4294967296) (hv : v < 4294967296) : Calls Tryz.prog 119 #[U g, U n, U v] w fun e w' => e = .returned (Q (untN g n v : Nat)) ∧ w = w' := by
  have hr := round_any w g hg
  have e1 : mnN n g = min n g := rfl
  have e2 : mnN v g = min v g := rfl
  unfold untN
  rw [← e1, ← e2]
  have h1 : mnN n g ≤ g := by unfold mnN; omega
  have h2 : mnN v g ≤ g := by unfold mnN; omega
  clear e1 e2
  by_cases hlt : mnN n g < mnN v g
  · rw [if_pos hlt]
    have hltI : (mnN n g : Int) < mnN v g := by omega
    go_enter Tryz.func119, Tryz.ntmps119
    go_wp2
    go_ret
    exact ⟨ret_int (by omega), rfl⟩
  · rw [if_neg hlt]
    have hltI : ¬ (mnN n g : Int) < mnN v g := by omega
    go_enter Tryz.func119, Tryz.ntmps119
    go_wp2_with (first | (go_at_call 148; refine hr.mono ?_; rintro e w1 ⟨rfl, rfl⟩))
    go_ret
    exact ⟨ret_int (by omega), rfl⟩
/-! ### The document's -/
end Go.Proofs.YthhckhifaolmkaaGreat.Cl

