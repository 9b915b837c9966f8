import Derived.Shelf.Strconv.Itoa0
import Derived.Test.YtglnfifdjlgbcaaGreatDoorProg
import Derived.Test.YtglnfifdjlgbcaaGreatDoorXRcl12
import Derived.Test.YtglnfifdjlgbcaaGreatDoorRcp12
import Derived.Laws.Bits64b
import Derived.Lib.ItoaNum
/- A contract of the shelf at this dump, in plain words (by the shelf's own tool). -/
namespace Go.Proofs
open Go.Shelf
def Tryz.lays129_ren : Go.Shelf.Ren := ⟨fun | 129 => 230 | n => n, fun | 53 => 116 | 3 => 3 | 4 => 4 | 46 => 273 | 5 => 5 | 9 => 9 | n => n, fun | n => n⟩
theorem Tryz.lays129 : Go.Proofs.Lays.n129 Tryz.prog Tryz.lays129_ren := {
  mixed := by kernel_rfl
  f129 := Tryz.func230.trans (congrArg some (by kernel_rfl))
  t3 := Tryz.underlying3
  a3 := Tryz.isAgg3
  z3 := Tryz.sizeOf3
  v3 := Tryz.zeroValue3
  t4 := Tryz.underlying4
  a4 := Tryz.isAgg4
  z4 := Tryz.sizeOf4
  v4 := Tryz.zeroValue4
  t5 := Tryz.underlying5
  a5 := Tryz.isAgg5
  z5 := Tryz.sizeOf5
  v5 := Tryz.zeroValue5
  t9 := Tryz.underlying9
  a9 := Tryz.isAgg9
  z9 := Tryz.sizeOf9
  v9 := Tryz.zeroValue9
  t46 := Tryz.underlying273
  a46 := Tryz.isAgg273
  z46 := Tryz.sizeOf273
  v46 := Tryz.zeroValue273
  t53 := Tryz.underlying116
  a53 := Tryz.isAgg116
  z53 := Tryz.sizeOf116
  v53 := Tryz.zeroValue116 }
theorem Tryz.bits_Len64 (x : Int) (w : World) (h0 : 0 ≤ x) (h1 : x ≤ 18446744073709551615) :
    Calls Tryz.prog 230 #[.int .u64 x] w fun e w' => e = .returned (.int .i64 (Lib.bitLen x.toNat)) ∧ w' = w := Any.bits_Len64 Tryz.lays129 x w h0 h1
end Go.Proofs

namespace Go.Proofs.YtglnfifdjlgbcaaGreatDoor.Re
open Go.RowKit
set_option linter.unusedVariables false
set_option linter.unusedSimpArgs false

/-! ### Queues: memory -/
/-- Nothing but the blocks of M (and what is new) may have changed. -/
structure Fz (M : Nat → Prop) (w w' : World) : Prop where
  os : w'.os = w.os
  tape : w'.tape = w.tape
  output : w'.output = w.output
  size : w.heap.size ≤ w'.heap.size
  block : ∀ b, b < w.heap.size → ¬ M b → w'.heap[b]? = w.heap[b]?
theorem Fz.refl (M : Nat → Prop) (w : World) : Fz M w w := ⟨rfl, rfl, rfl, Nat.le_refl _, fun _ _ _ => rfl⟩
theorem Fz.step {M N : Nat → Prop} {a b c : World} (h : Fz M a b) (k : Fz N b c) (hc : ∀ x, N x → M x ∨ a.heap.size ≤ x) : Fz M a c :=
  ⟨k.os.trans h.os, k.tape.trans h.tape, k.output.trans h.output, Nat.le_trans h.size k.size, fun i hi hn => (k.block i (Nat.lt_of_lt_of_le hi h.size) (fun e => (hc i e).elim hn (fun e2 => by omega))).trans (h.block i hi hn)⟩
theorem Fz.trans {M : Nat → Prop} {a b c : World} (h : Fz M a b) (k : Fz M b c) : Fz M a c := h.step k (fun _ e => .inl e)
theorem Fz.mono {M N : Nat → Prop} {a b : World} (h : Fz M a b) (hs : ∀ x, M x → N x) : Fz N a b := ⟨h.os, h.tape, h.output, h.size, fun i hi hn => h.block i hi (fun e => hn (hs i e))⟩
theorem Fz.of_fx {M : Nat → Prop} {bs : List Nat} {a b : World} (h : Fx bs a b) (hs : ∀ x ∈ bs, M x) : Fz M a b := ⟨h.os, h.tape, h.output, h.size, fun i hi hn => h.block i hi (fun e => hn (hs i e))⟩
theorem Fz.of_below {M : Nat → Prop} {a b : World} (h : Below a.heap.size a b) : Fz M a b := ⟨h.os, h.tape, h.output, h.size, fun i hi _ => h.block i hi⟩
theorem Fz.below {M : Nat → Prop} {B : Nat} {a b : World} (h : Fz M a b) (hB : B ≤ a.heap.size) (hs : ∀ x, M x → B ≤ x) : Below B a b :=
  ⟨h.os, h.tape, h.output, h.size, fun i hi => h.block i (by omega) (fun e => by have := hs i e; omega)⟩
theorem Fz.heap {M : Nat → Prop} {a b : World} (h : Fz M a b) {g : Nat} {o : Obj} (hg : a.heap[g]? = some o) (hn : ¬ M g) : b.heap[g]? = some o := (h.block g (heap_lt hg) hn).trans hg
theorem Fz.cell {M : Nat → Prop} {a b : World} (h : Fz M a b) {g i : Nat} {v : Value} (hg : a.cell? ⟨g, i, none⟩ = some v) (hn : ¬ M g) : b.cell? ⟨g, i, none⟩ = some v :=
  (World.cell?_of_block (h.block g (World.block_lt_of_cell? a _ hg) hn)).trans hg
theorem Fz.set {M : Nat → Prop} {a w : World} (h : Fz M a w) {b : Nat} (hb : M b ∨ a.heap.size ≤ b) (k : Nat) (v : Value) : Fz M a (w.setCell ⟨b, k, none⟩ v) :=
  h.step (N := fun x => x = b) ⟨rfl, rfl, rfl, by simp, fun i _ hn => heap_setCell_other w ⟨b, k, none⟩ i _ hn⟩ (by rintro x rfl; exact hb)
theorem Fz.alloc {M : Nat → Prop} {a w : World} (h : Fz M a w) (o : Obj) : Fz M a (w.alloc o) := h.trans (Fz.of_below (below_alloc w o))
theorem Fz.drewN {M : Nat → Prop} {a w : World} (h : Fz M a w) (n : Nat) : Fz M a (w.drewN n) := h.trans (Fz.of_below (below_drewN n (Below.refl _ _)))
theorem Fz.own {M : Nat → Prop} {a b : World} (h : Fz M a b) {base e size n : Nat} {v : Value} {xs : List Value} (ho : a.ownsRow base e size v n xs) (hn : ∀ g, v.ownBlock = some g → ¬ M g) : b.ownsRow base e size v n xs := by
  obtain ⟨hl, h0 | ⟨g, cap, cur, hv, hb1, hh, rr⟩⟩ := ho
  · exact ⟨hl, .inl h0⟩
  · exact ⟨hl, .inr ⟨g, cap, cur, hv, hb1, h.heap hh (hn g (by rw [hv]; rfl)), rr⟩⟩

/-- A ring of a queue: its block, its room, its capacity, its mark, its row. -/
structure Ri where
  B : Nat
  g : Nat
  c : Nat
  h : Nat
  l : List Int
abbrev RS := Nat → Option Ri
def ptrOf : Option Ri → Value
  | some x => iP x.B
  | none => .pointer none
def upd (f : RS) (p : Nat) (x : Ri) : RS := fun q => if q = p then some x else f q
theorem upd_same (f : RS) (p : Nat) (x : Ri) : upd f p x p = some x := by simp [upd]
theorem upd_other (f : RS) {p q : Nat} (x : Ri) (h : q ≠ p) : upd f p x q = f q := by simp [upd, h]
/-- A queue's memory: its block Q, what 'filled' says, its rings. -/
structure Qm (w : World) (Q F : Nat) (f : RS) : Prop where
  o : ∃ cs : Array Value, w.heap[Q]? = some (.cells cs 185) ∧ cs.size = 66 ∧ cs[0]? = some (.bool true) ∧ cs[1]? = some (.int .u64 F) ∧ ∀ p, p < 64 → cs[2 + p]? = some (ptrOf (f p))
  r : ∀ p x, f p = some x → p < 64 ∧ 1 ≤ x.c ∧ iQ w x.B x.g x.c x.h (intsV x.l)
  a : ∀ p q x y, f p = some x → f q = some y → p ≠ q → x.B ≠ y.B ∧ x.g ≠ y.g
def Bt (F : Nat) (f : RS) : Prop := F < 18446744073709551616 ∧ ∀ p, F.testBit p = true ↔ ∃ x, f p = some x ∧ x.l ≠ []
structure Qu (w : World) (Q F : Nat) (f : RS) : Prop where
  m : Qm w Q F f
  b : Bt F f
def Qb (Q : Nat) (f : RS) (b : Nat) : Prop := b = Q ∨ ∃ p x, f p = some x ∧ (b = x.B ∨ b = x.g)
abbrev qP (Q : Nat) : Value := .pointer (some ⟨Q, 0, none⟩)
section
variable {w : World} {Q F : Nat} {f : RS}
theorem Qm.c0 (h : Qm w Q F f) : w.cell? ⟨Q, 0, none⟩ = some (.bool true) := by
  obtain ⟨cs, ho, hs, h0, h1, hp⟩ := h.o
  rw [cell_of_row w Q _ _ _ (0, 0) ho]; exact h0
theorem Qm.c1 (h : Qm w Q F f) : w.cell? ⟨Q, 1, none⟩ = some (.int .u64 F) := by
  obtain ⟨cs, ho, hs, h0, h1, hp⟩ := h.o
  rw [cell_of_row w Q _ _ _ (0, 0) ho]; exact h1
theorem Qm.cp (h : Qm w Q F f) {p : Nat} (hlt : p < 64) : w.cell? ⟨Q, 2 + p, none⟩ = some (ptrOf (f p)) := by
  obtain ⟨cs, ho, hs, h0, h1, hp⟩ := h.o
  rw [cell_of_row w Q _ _ _ (0, 0) ho]; exact hp p hlt
theorem Qm.frz (h : Qm w Q F f) (j : Nat) : w.frozen? ⟨Q, j, none⟩ = false := by
  obtain ⟨cs, ho, _⟩ := h.o
  exact frozen_of_row w Q j _ _ ho
theorem Qm.lt (h : Qm w Q F f) : Q < w.heap.size := by
  obtain ⟨cs, ho, _⟩ := h.o
  exact heap_lt ho
theorem Qm.ne (h : Qm w Q F f) {p : Nat} {x : Ri} (hx : f p = some x) : Q ≠ x.B ∧ Q ≠ x.g := by
  obtain ⟨cs, ho, _⟩ := h.o
  obtain ⟨_, _, hq⟩ := h.r p x hx
  obtain ⟨c1, h1⟩ := hq.ty
  obtain ⟨c2, h2⟩ := hq.tyg
  refine ⟨fun e => ?_, fun e => ?_⟩
  · rw [e, h1] at ho; simp only [Option.some.injEq, Obj.cells.injEq] at ho; exact absurd ho.2.1 (by decide)
  · rw [e, h2] at ho; simp only [Option.some.injEq, Obj.cells.injEq] at ho; exact absurd ho.2.1 (by decide)
theorem Qm.bg (h : Qm w Q F f) {p q : Nat} {x y : Ri} (hx : f p = some x) (hy : f q = some y) : x.B ≠ y.g := fun e => by
  obtain ⟨c1, h1⟩ := (h.r p x hx).2.2.ty
  obtain ⟨c2, h2⟩ := (h.r q y hy).2.2.tyg
  rw [e, h2] at h1; simp only [Option.some.injEq, Obj.cells.injEq] at h1; exact absurd h1.2.1 (by decide)
theorem Qm.kept (h : Qm w Q F f) {M : Nat → Prop} {w' : World} (hf : Fz M w w') (hM : ∀ b, Qb Q f b → ¬ M b) : Qm w' Q F f := by
  obtain ⟨cs, ho, hr⟩ := h.o
  refine ⟨⟨cs, hf.heap ho (hM Q (.inl rfl)), hr⟩, fun p x hx => ?_, h.a⟩
  obtain ⟨h1, h2, fz, R, h3⟩ := h.r p x hx
  exact ⟨h1, h2, fz, R, ⟨hf.heap h3.o (hM _ (.inr ⟨p, x, hx, .inl rfl⟩)), hf.heap h3.q (hM _ (.inr ⟨p, x, hx, .inr rfl⟩)), h3.k, h3.m, h3.r, h3.y, h3.ne⟩⟩
theorem Qm.below (h : Qm w Q F f) {w' : World} (hf : Below w.heap.size w w') : Qm w' Q F f := h.kept (M := fun _ => False) (Fz.of_below hf) (fun _ _ e => e)
theorem Qu.kept (h : Qu w Q F f) {M : Nat → Prop} {w' : World} (hf : Fz M w w') (hM : ∀ b, Qb Q f b → ¬ M b) : Qu w' Q F f := ⟨h.m.kept hf hM, h.b⟩
theorem Qu.below (h : Qu w Q F f) {w' : World} (hf : Below w.heap.size w w') : Qu w' Q F f := ⟨h.m.below hf, h.b⟩
theorem Qu.drewN (h : Qu w Q F f) (n : Nat) : Qu (w.drewN n) Q F f := h.below (below_drewN n (Below.refl _ _))
theorem Qb.lt (h : Qm w Q F f) {b : Nat} (hb : Qb Q f b) : b < w.heap.size := by
  rcases hb with rfl | ⟨p, x, hx, e⟩
  · exact h.lt
  · have := (h.r p x hx).2.2.lts
    rcases e with rfl | rfl
    · exact this.1
    · exact this.2
theorem Qb.upd {p : Nat} {x : Ri} (hx : f p = some x) (h' : Nat) (l' : List Int) (b : Nat) : Qb Q (upd f p ⟨x.B, x.g, x.c, h', l'⟩) b ↔ Qb Q f b := by
  constructor
  · rintro (e | ⟨q, y, hy, e⟩)
    · exact .inl e
    · by_cases hq : q = p
      · subst hq
        rw [upd_same] at hy
        cases hy
        exact .inr ⟨q, x, hx, e⟩
      · rw [upd_other f _ hq] at hy
        exact .inr ⟨q, y, hy, e⟩
  · rintro (e | ⟨q, y, hy, e⟩)
    · exact .inl e
    · by_cases hq : q = p
      · subst hq
        rw [hx] at hy
        cases hy
        exact .inr ⟨q, _, upd_same f q _, e⟩
      · exact .inr ⟨q, y, by rw [upd_other f _ hq]; exact hy, e⟩
/-- Behind a call of one of the rings. -/
theorem Qm.ring (h : Qm w Q F f) {p : Nat} {x : Ri} (hx : f p = some x) {w' : World} (hf : Fx [x.B, x.g] w w') {h' : Nat} {l' : List Int} (hq : iQ w' x.B x.g x.c h' (intsV l')) : Qm w' Q F (upd f p ⟨x.B, x.g, x.c, h', l'⟩) ∧ Fz (Qb Q f) w w' := by
  obtain ⟨cs, ho, hs, h0, h1, hp⟩ := h.o
  have hne := h.ne hx
  refine ⟨⟨⟨cs, hf.heap ho (by simp; exact hne), hs, h0, h1, fun q hq2 => ?_⟩, fun q y hy => ?_, fun q r y z hy hz hqr => ?_⟩, Fz.of_fx hf (by
    intro b hb
    simp at hb
    exact .inr ⟨p, x, hx, hb⟩)⟩
  · rw [hp q hq2]
    by_cases e : q = p
    · subst e; rw [upd_same, hx]; rfl
    · rw [upd_other f _ e]
  · by_cases e : q = p
    · subst e
      rw [upd_same] at hy
      cases hy
      exact ⟨(h.r q x hx).1, (h.r q x hx).2.1, hq⟩
    · rw [upd_other f _ e] at hy
      obtain ⟨k1, k2, k3⟩ := h.r q y hy
      have := h.a q p y x hy hx e
      refine ⟨k1, k2, k3.kept hf ?_ ?_⟩
      · simp; exact ⟨this.1, h.bg hy hx⟩
      · simp; exact ⟨fun e2 => h.bg hx hy e2.symm, this.2⟩
  · by_cases e : q = p
    · subst e
      rw [upd_same] at hy
      cases hy
      rw [upd_other f _ (fun e2 => hqr e2.symm)] at hz
      exact h.a q r x z hx hz hqr
    · rw [upd_other f _ e] at hy
      by_cases e2 : r = p
      · subst e2
        rw [upd_same] at hz
        cases hz
        exact h.a q r y x hy hx hqr
      · rw [upd_other f _ e2] at hz
        exact h.a q r y z hy hz hqr
/-- 'filled' written. -/
theorem Qm.fill (h : Qm w Q F f) (F' : Nat) : Qm (w.setCell ⟨Q, 1, none⟩ (.int .u64 F')) Q F' f ∧ Fz (Qb Q f) w (w.setCell ⟨Q, 1, none⟩ (.int .u64 F')) := by
  obtain ⟨cs, ho, hs, h0, h1, hp⟩ := h.o
  have hF : Fz (fun b => b = Q) w (w.setCell ⟨Q, 1, none⟩ (.int .u64 F')) := (Fz.refl (fun b => b = Q) w).set (b := Q) (.inl rfl) 1 _
  refine ⟨⟨⟨_, heap_setCell_same w Q 1 _ _ (.int .u64 F') ho, by simpa using hs, ?_, ?_, fun p hp2 => ?_⟩, fun p x hx => ?_, h.a⟩, hF.mono (fun b e => .inl e)⟩
  · rw [Array.getElem?_setIfInBounds_ne (by decide)]; exact h0
  · rw [Array.getElem?_setIfInBounds_self_of_lt (by omega)]
  · rw [Array.getElem?_setIfInBounds_ne (by omega)]; exact hp p hp2
  · obtain ⟨k1, k2, k3⟩ := h.r p x hx
    have hne := h.ne hx
    exact ⟨k1, k2, k3.kept (bs := [Q]) ((Fx.refl _ w).set (.inl (by simp)) 1 _) (by simp; exact fun e => hne.1 e.symm) (by simp; exact fun e => hne.2 e.symm)⟩
end

/-! ### Bits -/
theorem Bt.put {F : Nat} {f : RS} (h : Bt F f) {p : Nat} {x : Ri} (hx : f p = some x) (hp : p < 64) (h' : Nat) {l' : List Int} (hl : l' ≠ []) : Bt (F ||| 2 ^ p) (upd f p ⟨x.B, x.g, x.c, h', l'⟩) := by
  refine ⟨Nat.or_lt_two_pow (n := 64) h.1 (Nat.pow_lt_pow_right (by decide) hp), fun q => ?_⟩
  rw [Nat.testBit_or, Nat.testBit_two_pow]
  by_cases e : q = p
  · subst e
    rw [upd_same]
    simp [hl]
  · rw [upd_other f _ e, ← h.2 q]
    simp [Ne.symm e]
theorem Bt.same {F : Nat} {f : RS} (h : Bt F f) {p : Nat} {x : Ri} (hx : f p = some x) (h' : Nat) {l' : List Int} (hl : l' ≠ [] ↔ x.l ≠ []) : Bt F (upd f p ⟨x.B, x.g, x.c, h', l'⟩) := by
  refine ⟨h.1, fun q => ?_⟩
  by_cases e : q = p
  · subst e
    rw [upd_same, h.2 q, hx]
    simp only [Option.some.injEq, exists_eq_left']
    exact hl.symm
  · rw [upd_other f _ e, ← h.2 q]
def clrN (F p : Nat) : Nat := (BitVec.ofInt 64 (F : Int) &&& ~~~ (BitVec.ofInt 64 ((2 ^ p : Nat) : Int))).toNat
theorem clrN_bit {F p q : Nat} (hF : F < 18446744073709551616) (hp : p < 64) : (clrN F p).testBit q = (F.testBit q && decide (q ≠ p)) := by
  unfold clrN
  rw [BitVec.testBit_toNat, BitVec.getLsbD_and, BitVec.getLsbD_not, ← BitVec.testBit_toNat, ← BitVec.testBit_toNat, BitVec.ofInt_natCast, BitVec.ofInt_natCast, BitVec.toNat_ofNat, BitVec.toNat_ofNat, Nat.mod_eq_of_lt (by omega), Nat.mod_eq_of_lt (Nat.pow_lt_pow_right (by decide) hp), Nat.testBit_two_pow]
  by_cases hq : q < 64
  · simp [hq, eq_comm]
  · have : F.testBit q = false := Nat.testBit_lt_two_pow (Nat.lt_of_lt_of_le hF (Nat.pow_le_pow_right (n := 2) (by decide) (by omega : 64 ≤ q)))
    simp [hq, this]
theorem clrN_lt (F p : Nat) : clrN F p < 18446744073709551616 := (BitVec.ofInt 64 (F : Int) &&& ~~~ (BitVec.ofInt 64 ((2 ^ p : Nat) : Int))).isLt
theorem Bt.clr {F : Nat} {f : RS} (h : Bt F f) {p : Nat} {x : Ri} (hx : f p = some x) (hp : p < 64) (h' : Nat) : Bt (clrN F p) (upd f p ⟨x.B, x.g, x.c, h', []⟩) := by
  refine ⟨clrN_lt _ _, fun q => ?_⟩
  rw [clrN_bit h.1 hp]
  by_cases e : q = p
  · subst e
    rw [upd_same]
    simp
  · rw [upd_other f _ e, ← h.2 q]
    simp [e]
theorem shl_one {p : Nat} (hp : p < 64) : IntKind.u64.wrap (1 * 2 ^ ((p : Nat) : Int).toNat) = ((2 ^ p : Nat) : Int) := by
  have h2 : (2 ^ p : Nat) < 2 ^ 64 := Nat.pow_lt_pow_right (by decide) hp
  rw [IntKind.wrap_u64, Int.toNat_natCast, Int.one_mul]
  have : (2 : Int) ^ p = ((2 ^ p : Nat) : Int) := by norm_cast
  rw [this]
  generalize 2 ^ p = y at *
  omega
theorem or_one {F p : Nat} (hF : F < 18446744073709551616) (hp : p < 64) : bits .or .u64 (F : Int) ((2 ^ p : Nat) : Int) = ((F ||| 2 ^ p : Nat) : Int) :=
  bits_or_u64_nat F (2 ^ p) hF (show 2 ^ p < 2 ^ 64 from Nat.pow_lt_pow_right (by decide) hp)
theorem clr_one {F p : Nat} : bits .andNot .u64 (F : Int) ((2 ^ p : Nat) : Int) = (clrN F p : Int) := by
  have h1 := clrN_lt F p
  show IntKind.u64.wrap ((clrN F p : Nat) : Int) = _
  rw [IntKind.wrap_u64]
  omega
theorem Bt.zero {f : RS} (h : ∀ p x, f p = some x → x.l = []) : Bt 0 f := ⟨by decide, fun p => by
  constructor
  · intro e; simp at e
  · rintro ⟨x, hx, hl⟩; exact absurd (h p x hx) hl⟩
theorem Bt.eq {F G : Nat} {f : RS} (h : Bt F f) (k : Bt G f) : F = G := Nat.eq_of_testBit_eq fun i => by
  rw [Bool.eq_iff_iff, h.2 i, k.2 i]
theorem Bt.none {F : Nat} {f : RS} (h : Bt F f) (h0 : F = 0) : ∀ p x, f p = some x → x.l = [] := fun p x hx => by
  subst h0
  by_cases e : x.l = []
  · exact e
  · have := (h.2 p).2 ⟨x, hx, e⟩
    simp at this
/-- The greatest bit. -/
theorem Bt.top {F : Nat} {f : RS} (h : Bt F f) (h0 : F ≠ 0) : ∃ p x, Lib.bitLen F = p + 1 ∧ f p = some x ∧ x.l ≠ [] ∧ ∀ q y, p < q → f q = some y → y.l = [] := by
  obtain ⟨h1, h2, h9⟩ := Lib.bitLenAux_bounds 64 F h.1 h0
  have hs : F < 2 ^ Lib.bitLen F ∧ True := ⟨h9, trivial⟩
  clear h9
  change 1 ≤ Lib.bitLen F at h1
  change 2 ^ (Lib.bitLen F - 1) ≤ F at h2
  obtain ⟨p, hp⟩ : ∃ p, Lib.bitLen F = p + 1 := ⟨Lib.bitLen F - 1, by omega⟩
  rw [hp, Nat.add_sub_cancel] at h2
  have h3 := hs.1
  rw [hp, Nat.pow_succ] at h3
  have hb : F.testBit p = true := by
    rw [Nat.testBit_eq_decide_div_mod_eq]
    have : F / 2 ^ p = 1 := by
      apply Nat.div_eq_of_lt_le <;> omega
    rw [this]; rfl
  obtain ⟨x, hx, hl⟩ := (h.2 p).1 hb
  refine ⟨p, x, hp, hx, hl, fun q y hq hy => ?_⟩
  by_cases e : y.l = []
  · exact e
  · have h4 := (h.2 q).2 ⟨y, hy, e⟩
    have : F.testBit q = false := Nat.testBit_lt_two_pow (Nat.lt_of_lt_of_le hs.1 (by rw [hp]; exact Nat.pow_le_pow_right (by decide) (by omega)))
    rw [this] at h4
    cases h4
end Go.Proofs.YtglnfifdjlgbcaaGreatDoor.Re

namespace Go.Proofs.YtglnfifdjlgbcaaGreatDoor.Re
open Go.RowKit
set_option linter.unusedVariables false
set_option linter.unusedSimpArgs false

/-! ### Queues: what is asked first -/
theorem isPrio_any (p : Int) (w : World) : Calls Tryz.prog 214 #[I p] w fun e w' => e = .returned (.bool (decide (0 ≤ p ∧ p ≤ 63))) ∧ w = w' := by
  by_cases h1 : 0 ≤ p
  · by_cases h2 : p ≤ 63
    · rw [decide_eq_true ⟨h1, h2⟩]
      go_enter Tryz.func214, Tryz.ntmps214
      go_wp2
      go_ret
      exact ⟨rfl, rfl⟩
    · rw [decide_eq_false (fun e => h2 e.2)]
      go_enter Tryz.func214, Tryz.ntmps214
      go_wp2
      go_ret
      exact ⟨rfl, rfl⟩
  · rw [decide_eq_false (fun e => h1 e.1)]
    go_enter Tryz.func214, Tryz.ntmps214
    go_wp2
    go_ret
    exact ⟨rfl, rfl⟩
theorem qnone_nil (w : World) : Calls Tryz.prog 129 #[.pointer none] w fun e w' => e = .returned (.bool true) ∧ w = w' := by
  go_enter Tryz.func129, Tryz.ntmps129
  go_wp2
  go_ret
  exact ⟨rfl, rfl⟩
theorem qnone_zero (w : World) (B : Nat) (c0 : w.cell? ⟨B, 0, none⟩ = some (.bool false)) : Calls Tryz.prog 129 #[qP B] w fun e w' => e = .returned (.bool true) ∧ w = w' := by
  go_enter Tryz.func129, Tryz.ntmps129
  go_wp2
  go_ret
  exact ⟨rfl, rfl⟩
theorem qnone_made (w : World) (B : Nat) (c0 : w.cell? ⟨B, 0, none⟩ = some (.bool true)) : Calls Tryz.prog 129 #[qP B] w fun e w' => e = .returned (.bool false) ∧ w = w' := by
  go_enter Tryz.func129, Tryz.ntmps129
  go_wp2
  go_ret
  exact ⟨rfl, rfl⟩
def ringAt (f : RS) (p : Int) : Option Ri := if 0 ≤ p ∧ p ≤ 63 then f p.toNat else none
theorem ringAt_nat (f : RS) {n : Nat} (h : n < 64) : ringAt f (n : Int) = f n := by
  unfold ringAt
  rw [if_pos (by omega), Int.toNat_natCast]
theorem ringAt_no (f : RS) {p : Int} (h : ¬ (0 ≤ p ∧ p ≤ 63)) : ringAt f p = none := if_neg h
theorem ringAt_some {f : RS} {p : Int} {x : Ri} (h : ringAt f p = some x) : f p.toNat = some x := by
  unfold ringAt at h
  split at h
  · exact h
  · cases h
theorem Any.bitLen_le64' (F : Nat) (h : F < 18446744073709551616) : Lib.bitLen F ≤ 64 := Lib.bitLen_le F 64 (by omega) h
theorem iLen_nil (w : World) : Calls Tryz.prog 170 #[.pointer none] w fun e w' => e = .returned (I 0) ∧ w = w' := by
  go_enter Tryz.func170, Tryz.ntmps170
  go_wp2_with (go_at_call 238; refine (inone_nil w).mono ?_; rintro e w1 ⟨rfl, rfl⟩)
  go_ret
  exact ⟨rfl, rfl⟩
theorem iClear_nil (w : World) : Calls Tryz.prog 183 #[.pointer none] w fun e w' => e = .returned (I 0) ∧ w = w' := by
  go_enter Tryz.func183, Tryz.ntmps183
  go_wp2_with (go_at_call 238; refine (inone_nil w).mono ?_; rintro e w1 ⟨rfl, rfl⟩)
  go_ret
  exact ⟨rfl, rfl⟩
theorem iCopy_nil (w : World) : Calls Tryz.prog 181 #[.pointer none] w fun e w' => e = .returned (.pointer none) ∧ w = w' := by
  go_enter Tryz.func181, Tryz.ntmps181
  go_wp2_with (go_at_call 238; refine (inone_nil w).mono ?_; rintro e w1 ⟨rfl, rfl⟩)
  go_ret
  exact ⟨rfl, rfl⟩
section
variable {w : World} {Q F : Nat} {f : RS}
theorem qnone_any (h : Qm w Q F f) : Calls Tryz.prog 129 #[qP Q] w fun e w' => e = .returned (.bool false) ∧ w = w' := qnone_made w Q h.c0
theorem qringOf_any (h : Qm w Q F f) (p : Int) : Calls Tryz.prog 169 #[qP Q, I p] w fun e w' => e = .returned (ptrOf (ringAt f p)) ∧ w = w' := by
  have hN := qnone_any h
  have hP := isPrio_any p w
  by_cases hp : 0 ≤ p ∧ p ≤ 63
  · rw [decide_eq_true hp] at hP
    obtain ⟨n, rfl⟩ : ∃ n : Nat, p = n := ⟨p.toNat, by omega⟩
    have hn : n < 64 := by omega
    have hc := h.cp hn
    rw [ringAt_nat f hn]
    generalize ptrOf (f n) = V at *
    have h1 : (n : Int) < 64 := by omega
    have h2 : ¬ (n : Int) < 0 := by omega
    clear hp h
    go_enter Tryz.func169, Tryz.ntmps169
    go_wp2_with (first | (go_at_call 129; refine hN.mono ?_; rintro e w1 ⟨rfl, rfl⟩) | (go_at_call 214; refine hP.mono ?_; rintro e w1 ⟨rfl, rfl⟩))
    go_ret
    exact ⟨rfl, rfl⟩
  · rw [decide_eq_false hp] at hP
    rw [ringAt_no f hp]
    clear hp h
    go_enter Tryz.func169, Tryz.ntmps169
    go_wp2_with (first | (go_at_call 129; refine hN.mono ?_; rintro e w1 ⟨rfl, rfl⟩) | (go_at_call 214; refine hP.mono ?_; rintro e w1 ⟨rfl, rfl⟩))
    go_ret
    exact ⟨rfl, rfl⟩
theorem qringOf_none {v : Value} (hN : Calls Tryz.prog 129 #[v] w fun e w' => e = .returned (.bool true) ∧ w = w') (p : Int) : Calls Tryz.prog 169 #[v, I p] w fun e w' => e = .returned (.pointer none) ∧ w = w' := by
  go_enter Tryz.func169, Tryz.ntmps169
  go_wp2_with (first | (go_at_call 129; refine hN.mono ?_; rintro e w1 ⟨rfl, rfl⟩))
  go_ret
  exact ⟨rfl, rfl⟩
theorem mayPutQ_ok (h : Qm w Q F f) {p : Int} {x : Ri} (hx : ringAt f p = some x) (hq : iQ w x.B x.g x.c x.h (intsV x.l)) (hl : x.l.length < x.c) : Calls Tryz.prog 216 #[qP Q, I p] w fun e w' => e = .returned (I 0) ∧ Below w.heap.size w w' := by
  have hN := qnone_any h
  have hR := qringOf_any h p
  have hF := iFullQ hq
  rw [hx] at hR
  rw [decide_eq_false (by simp [intsV]; omega)] at hF
  change Calls Tryz.prog 169 #[qP Q, I p] w fun e w' => e = .returned (iP x.B) ∧ w = w' at hR
  clear hl hx h hq
  go_enter Tryz.func216, Tryz.ntmps216
  go_wp2_with (first | (go_at_call 129; refine hN.mono ?_; rintro e w1 ⟨rfl, rfl⟩) | (go_at_call 169; refine hR.mono ?_; rintro e w1 ⟨rfl, rfl⟩) | (go_at_call 262; refine hF.mono ?_; rintro e w1 ⟨rfl, hq1, b1⟩))
  go_ret
  exact ⟨rfl, b1⟩
theorem mayPutQ_full (h : Qm w Q F f) {p : Int} {x : Ri} (hx : ringAt f p = some x) (hq : iQ w x.B x.g x.c x.h (intsV x.l)) (hl : x.l.length = x.c) : Calls Tryz.prog 216 #[qP Q, I p] w fun e w' => e = .returned (I 131) ∧ Below w.heap.size w w' := by
  have hN := qnone_any h
  have hR := qringOf_any h p
  have hF := iFullQ hq
  rw [hx] at hR
  rw [decide_eq_true (by simp [intsV]; omega)] at hF
  change Calls Tryz.prog 169 #[qP Q, I p] w fun e w' => e = .returned (iP x.B) ∧ w = w' at hR
  clear hl hx h hq
  go_enter Tryz.func216, Tryz.ntmps216
  go_wp2_with (first | (go_at_call 129; refine hN.mono ?_; rintro e w1 ⟨rfl, rfl⟩) | (go_at_call 169; refine hR.mono ?_; rintro e w1 ⟨rfl, rfl⟩) | (go_at_call 262; refine hF.mono ?_; rintro e w1 ⟨rfl, hq1, b1⟩))
  go_ret
  exact ⟨rfl, b1⟩
theorem mayPutQ_no (h : Qm w Q F f) {p : Int} (hx : ringAt f p = none) : Calls Tryz.prog 216 #[qP Q, I p] w fun e w' => e = .returned (I 130) ∧ w = w' := by
  have hN := qnone_any h
  have hR := qringOf_any h p
  rw [hx] at hR
  change Calls Tryz.prog 169 #[qP Q, I p] w fun e w' => e = .returned (.pointer none) ∧ w = w' at hR
  clear hx h
  go_enter Tryz.func216, Tryz.ntmps216
  go_wp2_with (first | (go_at_call 129; refine hN.mono ?_; rintro e w1 ⟨rfl, rfl⟩) | (go_at_call 169; refine hR.mono ?_; rintro e w1 ⟨rfl, rfl⟩))
  go_ret
  exact ⟨rfl, rfl⟩
theorem mayPutQ_none {v : Value} (hN : Calls Tryz.prog 129 #[v] w fun e w' => e = .returned (.bool true) ∧ w = w') (p : Int) : Calls Tryz.prog 216 #[v, I p] w fun e w' => e = .returned (I 1) ∧ w = w' := by
  go_enter Tryz.func216, Tryz.ntmps216
  go_wp2_with (first | (go_at_call 129; refine hN.mono ?_; rintro e w1 ⟨rfl, rfl⟩))
  go_ret
  exact ⟨rfl, rfl⟩
theorem qBits_any (h : Qm w Q F f) : Calls Tryz.prog 48 #[qP Q] w fun e w' => e = .returned (.int .u64 F) ∧ w = w' := by
  have hN := qnone_any h
  have hc := h.c1
  clear h
  go_enter Tryz.func48, Tryz.ntmps48
  go_wp2_with (first | (go_at_call 129; refine hN.mono ?_; rintro e w1 ⟨rfl, rfl⟩))
  go_ret
  exact ⟨rfl, rfl⟩
theorem qBits_none {v : Value} (hN : Calls Tryz.prog 129 #[v] w fun e w' => e = .returned (.bool true) ∧ w = w') : Calls Tryz.prog 48 #[v] w fun e w' => e = .returned (.int .u64 0) ∧ w = w' := by
  go_enter Tryz.func48, Tryz.ntmps48
  go_wp2_with (first | (go_at_call 129; refine hN.mono ?_; rintro e w1 ⟨rfl, rfl⟩))
  go_ret
  exact ⟨rfl, rfl⟩
theorem qHighest_no (h : Qu w Q F f) (h0 : F = 0) : Calls Tryz.prog 136 #[qP Q] w fun e w' => e = .returned (.tuple #[I 0, .bool false]) ∧ w = w' := by
  subst h0
  have hN := qnone_any h.m
  have hc := h.m.c1
  clear h
  go_enter Tryz.func136, Tryz.ntmps136
  go_wp2_with (first | (go_at_call 129; refine hN.mono ?_; rintro e w1 ⟨rfl, rfl⟩))
  go_ret2
  exact ⟨rfl, rfl⟩
theorem qHighest_none {v : Value} (hN : Calls Tryz.prog 129 #[v] w fun e w' => e = .returned (.bool true) ∧ w = w') : Calls Tryz.prog 136 #[v] w fun e w' => e = .returned (.tuple #[I 0, .bool false]) ∧ w = w' := by
  go_enter Tryz.func136, Tryz.ntmps136
  go_wp2_with (first | (go_at_call 129; refine hN.mono ?_; rintro e w1 ⟨rfl, rfl⟩))
  go_ret2
  exact ⟨rfl, rfl⟩
theorem qHighest_ok (h : Qu w Q F f) {p : Nat} (hp : Lib.bitLen F = p + 1) (h0 : F ≠ 0) : Calls Tryz.prog 136 #[qP Q] w fun e w' => e = .returned (.tuple #[I p, .bool true]) ∧ w = w' := by
  have hN := qnone_any h.m
  have hc := h.m.c1
  have hF := h.b.1
  have hle := Any.bitLen_le64' F hF
  have hL := Tryz.bits_Len64 (F : Int) w (by omega) (by omega)
  rw [Int.toNat_natCast, hp] at hL
  have h1 : ¬ ((F : Int) = 0) := by omega
  have h2 : p < 64 := by omega
  clear h h0 hp hle
  go_enter Tryz.func136, Tryz.ntmps136
  go_wp2_with (first | (go_at_call 129; refine hN.mono ?_; rintro e w1 ⟨rfl, rfl⟩) | (go_at_call 230; refine hL.mono ?_; rintro e w1 ⟨rfl, rfl⟩))
  go_ret2
  refine ⟨?_, rfl⟩
  simp
end
end Go.Proofs.YtglnfifdjlgbcaaGreatDoor.Re

namespace Go.Proofs.YtglnfifdjlgbcaaGreatDoor.Re
open Go.RowKit
set_option linter.unusedVariables false
set_option linter.unusedSimpArgs false

/-! ### Queues: Tail, Head, Take -/
theorem intsV_len (l : List Int) : (intsV l).length = l.length := by simp [intsV]
theorem intsV_snoc (l : List Int) (x : Int) : intsV l ++ [I x] = intsV (l ++ [x]) := by simp [intsV]
theorem intsV_cons (l : List Int) (x : Int) : I x :: intsV l = intsV (x :: l) := by simp [intsV]
theorem shl_two {p : Nat} (hp : p < 64) : IntKind.u64.wrap ((2 : Int) ^ p) = ((2 ^ p : Nat) : Int) := by
  have := shl_one hp
  rwa [Int.toNat_natCast, Int.one_mul] at this
theorem qinfo : (Tryz.prog.info? 213).map (fun i => (i.zero, i.size, i.bytes)) = some (some (.agg #[.int .i64 0, .int .i64 0]), 2, 16) := by kernel_rfl
abbrev qV (p x : Int) : Value := .agg #[I p, I x]
section
variable {w w0 : World} {Q F : Nat} {f : RS}
theorem qTail_no (h : Qm w Q F f) {p : Int} (hx : ringAt f p = none) (v : Int) : Calls Tryz.prog 117 #[qP Q, I p, I v] w fun e w' => e = .returned (I 130) ∧ w = w' := by
  have hM := mayPutQ_no h hx
  go_enter Tryz.func117, Tryz.ntmps117
  go_wp2_with (first | (go_at_call 216; refine hM.mono ?_; rintro e w1 ⟨rfl, rfl⟩))
  go_ret
  exact ⟨rfl, rfl⟩
theorem qTail_none {u : Value} (hN : Calls Tryz.prog 129 #[u] w fun e w' => e = .returned (.bool true) ∧ w = w') (p v : Int) : Calls Tryz.prog 117 #[u, I p, I v] w fun e w' => e = .returned (I 1) ∧ w = w' := by
  have hM := mayPutQ_none hN p
  go_enter Tryz.func117, Tryz.ntmps117
  go_wp2_with (first | (go_at_call 216; refine hM.mono ?_; rintro e w1 ⟨rfl, rfl⟩))
  go_ret
  exact ⟨rfl, rfl⟩
theorem qTail_full (h : Qm w Q F f) {p : Int} {x : Ri} (hx : ringAt f p = some x) (hl : x.l.length = x.c) (v : Int) : Calls Tryz.prog 117 #[qP Q, I p, I v] w fun e w' => e = .returned (I 131) ∧ Below w.heap.size w w' := by
  have hM := mayPutQ_full h hx (h.r _ x (ringAt_some hx)).2.2 hl
  clear hl hx h
  go_enter Tryz.func117, Tryz.ntmps117
  go_wp2_with (first | (go_at_call 216; refine hM.mono ?_; rintro e w1 ⟨rfl, b1⟩))
  go_ret
  exact ⟨rfl, b1⟩
set_option maxHeartbeats 4000000 in
theorem qTail_ok (h : Qu w Q F f) {p : Nat} {x : Ri} (hx : f p = some x) (hl : x.l.length < x.c) (v : Int) : Calls Tryz.prog 117 #[qP Q, I p, I v] w fun e w' => e = .returned (I 0) ∧ Qu w' Q (F ||| 2 ^ p) (upd f p ⟨x.B, x.g, x.c, max x.h (x.l.length + 1), x.l ++ [v]⟩) ∧ Fz (Qb Q f) w w' := by
  obtain ⟨hp, hc1, hq⟩ := h.m.r p x hx
  have hxr : ringAt f (p : Int) = some x := (ringAt_nat f hp).trans hx
  have hM := (mayPutQ_ok h.m hxr hq hl).mono (R' := fun e w' => e = .returned (I 0) ∧ w'.cell? ⟨Q, 2 + p, none⟩ = some (iP x.B) ∧ Hid (Qu w' Q F f ∧ Fz (Qb Q f) w w')) (fun e w' ⟨k, b⟩ => by
    have h1 := h.below b
    refine ⟨k, ?_, h1, Fz.of_below b⟩
    have := h1.m.cp hp
    rw [hx] at this
    exact this)
  have h1 : (p : Int) < 64 := by omega
  have h2 : ¬ (p : Int) < 0 := by omega
  have hx2 : Hid (f p = some x) := hx
  have hF : Hid (Bt F f ∧ p < 64) := ⟨h.b, hp⟩
  have HL : Hid (x.l.length < x.c) := hl
  clear hxr hq hl hx hp hc1 h
  go_enter Tryz.func117, Tryz.ntmps117
  go_wp2_with (first
    | (go_at_call 216; refine hM.mono ?_; rintro e w1 ⟨rfl, hc, HQ⟩; clear hM)
    | (go_at_call 217; refine ((iLastQ (HQ.out.1.m.r p x hx2.out).2.2 (by rw [intsV_len]; exact HL.out) v).mono (R' := fun e w' => e = .returned (I 0) ∧ w'.cell? ⟨Q, 1, none⟩ = some (.int .u64 F) ∧ w'.frozen? ⟨Q, 1, none⟩ = false ∧ Hid (Qm w' Q F (upd f p ⟨x.B, x.g, x.c, max x.h (x.l.length + 1), x.l ++ [v]⟩) ∧ Fz (Qb Q f) w1 w')) (fun e w' ⟨k, q, fx⟩ => by
        rw [intsV_snoc, intsV_len] at q
        obtain ⟨r1, r2⟩ := HQ.out.1.m.ring hx2.out fx q
        exact ⟨k, r1.c1, r1.frz 1, r1, r2⟩)).mono ?_; rintro e w2 ⟨rfl, hc1, hz1, HR⟩; clear hc))
  go_region
  all_goals
    go_wp2
    go_ret
    obtain ⟨r1, r2⟩ := HR.out
    obtain ⟨q1, q2⟩ := HQ.out
    obtain ⟨s1, s2⟩ := r1.fill (F ||| 2 ^ p)
    have e2 := or_one hF.out.1.1 hF.out.2
    rw [shl_two hF.out.2, e2]
    refine ⟨rfl, Qu.drewN (n := 1) ⟨s1, hF.out.1.put hx2.out hF.out.2 _ (by simp)⟩, ((q2.trans r2).trans (s2.mono (fun b e => (Qb.upd hx2.out _ _ b).1 e))).drewN 1⟩
theorem qTake_none {u : Value} (hN : ∀ w, Below w0.heap.size w0 w → Calls Tryz.prog 129 #[u] w fun e w' => e = .returned (.bool true) ∧ w = w') : Calls Tryz.prog 122 #[u] w0 fun e w' => e = .returned (.tuple #[qV 0 0, I 1]) ∧ Below w0.heap.size w0 w' := by
  have b1 := below_alloc w0 (.cells #[.int .i64 0, .int .i64 0] 213)
  have hN1 := hN _ b1
  clear hN
  go_enter Tryz.func122, Tryz.ntmps122
  go_wp2_with (first | (go_at_call 129; refine hN1.mono ?_; rintro e w1 ⟨rfl, rfl⟩))
  refine bodyPost_ret (v := .tuple #[qV 0 0, I 1]) (by simp [results, Tryz.results122, go_sem]) rfl ⟨rfl, b1⟩
theorem qTake_no (h : Qu w Q F f) (h0 : F = 0) : Calls Tryz.prog 122 #[qP Q] w fun e w' => e = .returned (.tuple #[qV 0 0, I 132]) ∧ Below w.heap.size w w' := by
  have b1 := below_alloc w (.cells #[.int .i64 0, .int .i64 0] 213)
  have hN := qnone_any (h.below b1).m
  have hH := qHighest_no (h.below b1) h0
  clear h h0
  go_enter Tryz.func122, Tryz.ntmps122
  go_wp2_with (first | (go_at_call 129; refine hN.mono ?_; rintro e w1 ⟨rfl, rfl⟩) | (go_at_call 136; refine hH.mono ?_; rintro e w1 ⟨rfl, rfl⟩))
  refine bodyPost_ret (v := .tuple #[qV 0 0, I 132]) (by simp [results, Tryz.results122, go_sem]) rfl ⟨rfl, b1⟩
theorem qTake_ring (hq : Qm w Q F f) {p : Nat} {x : Ri} {v : Int} {t : List Int} (hx : f p = some x) (hl : x.l = v :: t) {R0 : Nat} (hR : w.heap[R0]? = some (.cells #[.int .i64 0, .int .i64 0] 213)) : Calls Tryz.prog 218 #[iP x.B] w fun e w' => e = .returned (.tuple #[I v, I 0]) ∧ iQ w' x.B x.g x.c x.h (intsV t) ∧ w'.cell? ⟨Q, 1, none⟩ = some (.int .u64 F) ∧ w'.frozen? ⟨Q, 1, none⟩ = false ∧ w'.heap[R0]? = some (.cells #[.int .i64 0, .int .i64 0] 213) ∧ Hid (Qm w' Q F (upd f p ⟨x.B, x.g, x.c, x.h, t⟩) ∧ Fz (Qb Q f) w w') := by
  have hi := (hq.r p x hx).2.2
  rw [hl, ← intsV_cons] at hi
  refine (iTakeQ v hi).mono ?_
  rintro e w' ⟨rfl, q, fx⟩
  obtain ⟨r1, r2⟩ := hq.ring hx fx q
  obtain ⟨c1, h1⟩ := hi.ty
  obtain ⟨c2, h2⟩ := hi.tyg
  refine ⟨rfl, q, r1.c1, r1.frz 1, fx.heap hR ?_, r1, r2⟩
  simp only [List.mem_cons, List.not_mem_nil, or_false, not_or]
  refine ⟨fun e => ?_, fun e => ?_⟩
  · rw [e, h1] at hR; simp only [Option.some.injEq, Obj.cells.injEq] at hR; exact absurd hR.2.1 (by decide)
  · rw [e, h2] at hR; simp only [Option.some.injEq, Obj.cells.injEq] at hR; exact absurd hR.2.1 (by decide)
/-- The result's variable is written. -/
theorem qTake_end {W0 W : World} {R0 : Nat} (hR : W.heap[R0]? = some (.cells #[.int .i64 0, .int .i64 0] 213)) (hq : Qu W Q F f) (p v : Int) : (∀ hs : W0.heap.size ≤ R0, Fz (Qb Q f) W0 W → Fz (Qb Q f) W0 ((W.setCell ⟨R0, 0, none⟩ (I p)).setCell ⟨R0, 1, none⟩ (I v))) ∧ Qu ((W.setCell ⟨R0, 0, none⟩ (I p)).setCell ⟨R0, 1, none⟩ (I v)) Q F f ∧ ((W.setCell ⟨R0, 0, none⟩ (I p)).setCell ⟨R0, 1, none⟩ (I v)).cell? ⟨R0, 0, none⟩ = some (I p) ∧ ((W.setCell ⟨R0, 0, none⟩ (I p)).setCell ⟨R0, 1, none⟩ (I v)).cell? ⟨R0, 1, none⟩ = some (I v) := by
  have hF : Fz (fun b => b = R0) W ((W.setCell ⟨R0, 0, none⟩ (I p)).setCell ⟨R0, 1, none⟩ (I v)) := ((Fz.refl (fun b => b = R0) W).set (b := R0) (.inl rfl) 0 _).set (b := R0) (.inl rfl) 1 _
  have h3 := heap_setCell_same _ R0 1 _ _ (I v) (heap_setCell_same W R0 0 _ _ (I p) hR)
  refine ⟨fun hs hf => hf.step hF (fun x e => .inr (by omega)), hq.kept hF ?_, ?_, ?_⟩
  · rintro b hb rfl
    rcases hb with e | ⟨q, x, hx, e⟩
    · obtain ⟨cs, ho, _⟩ := hq.m.o
      rw [← e, hR] at ho; simp only [Option.some.injEq, Obj.cells.injEq] at ho; exact absurd ho.2.1 (by decide)
    · have hi := (hq.m.r q x hx).2.2
      rcases e with e | e
      · obtain ⟨c1, h1⟩ := hi.ty
        rw [← e, hR] at h1; simp only [Option.some.injEq, Obj.cells.injEq] at h1; exact absurd h1.2.1 (by decide)
      · obtain ⟨c1, h1⟩ := hi.tyg
        rw [← e, hR] at h1; simp only [Option.some.injEq, Obj.cells.injEq] at h1; exact absurd h1.2.1 (by decide)
  · rw [cell_of_row _ R0 _ _ _ (0, 0) h3]; rfl
  · rw [cell_of_row _ R0 _ _ _ (0, 0) h3]; rfl
set_option maxHeartbeats 4000000 in
theorem qTake_ok (h : Qu w Q F f) {p : Nat} {x : Ri} {v : Int} {t : List Int} (hp : Lib.bitLen F = p + 1) (h0 : F ≠ 0) (hx : f p = some x) (hl : x.l = v :: t) : Calls Tryz.prog 122 #[qP Q] w fun e w' => e = .returned (.tuple #[qV p v, I 0]) ∧ (∃ F', Qu w' Q F' (upd f p ⟨x.B, x.g, x.c, x.h, t⟩)) ∧ Fz (Qb Q f) w w' := by
  have b1 := below_alloc w (.cells #[.int .i64 0, .int .i64 0] 213)
  have hR := heap_alloc_new w (.cells #[.int .i64 0, .int .i64 0] 213)
  have hq := h.below b1
  have F1 : Fz (Qb Q f) w (w.alloc (.cells #[.int .i64 0, .int .i64 0] 213)) := Fz.of_below b1
  have hN := qnone_any hq.m
  have hH := qHighest_ok hq hp h0
  have hp64 := (h.m.r p x hx).1
  have hc := hq.m.cp hp64
  rw [hx] at hc
  change (w.alloc (.cells #[.int .i64 0, .int .i64 0] 213)).cell? ⟨Q, 2 + p, none⟩ = some (iP x.B) at hc
  have hT := qTake_ring hq.m hx hl hR
  have h1 : (p : Int) < 64 := by omega
  have h2 : ¬ (p : Int) < 0 := by omega
  have HB : Hid (Bt F f ∧ p < 64 ∧ f p = some x ∧ x.l = v :: t) := ⟨h.b, hp64, hx, hl⟩
  clear hp h0 hx hl hR hq h b1 hp64
  by_cases ht : t = []
  · subst ht
    go_enter Tryz.func122, Tryz.ntmps122
    go_wp2_with (first
      | (go_at_call 129; refine hN.mono ?_; rintro e w1 ⟨rfl, rfl⟩)
      | (go_at_call 136; refine hH.mono ?_; rintro e w1 ⟨rfl, rfl⟩; clear hN hH)
      | (go_at_call 218; refine hT.mono ?_; rintro e w2 ⟨rfl, q2, c2, z2, hR2, HR⟩; clear hT hc)
      | (go_at_call 170; refine (iLenQ q2).mono ?_; rintro e w3 ⟨rfl, rfl⟩))
    go_region
    all_goals
      obtain ⟨r1, r2⟩ := HR.out
      obtain ⟨hb, hp64, hx, hl⟩ := HB.out
      obtain ⟨s1, s2⟩ := r1.fill (clrN F p)
      rw [shl_two hp64, clr_one]
      have hR3 : ((w2.setCell ⟨Q, 1, none⟩ (.int .u64 (clrN F p))).drew).heap[w.heap.size]? = some (.cells #[.int .i64 0, .int .i64 0] 213) := (heap_setCell_other w2 ⟨Q, 1, none⟩ w.heap.size _ (fun e => by
        obtain ⟨cs, ho, _⟩ := r1.o
        have e2 : w.heap.size = Q := e
        rw [← e2, hR2] at ho; simp only [Option.some.injEq, Obj.cells.injEq] at ho; exact absurd ho.2.1 (by decide))).trans hR2
      have q3 : Qu (w2.setCell ⟨Q, 1, none⟩ (.int .u64 (clrN F p))).drew Q (clrN F p) (upd f p ⟨x.B, x.g, x.c, x.h, []⟩) := Qu.drewN (n := 1) ⟨s1, hb.clr hx hp64 _⟩
      have F3 : Fz (Qb Q f) w (w2.setCell ⟨Q, 1, none⟩ (.int .u64 (clrN F p))).drew := ((F1.trans r2).trans (s2.mono (fun b e => (Qb.upd hx _ _ b).1 e))).drewN 1
      clear r1 r2 hb hp64 hx s1 s2 q2 c2 z2 hR2 HR F1
      generalize (w2.setCell ⟨Q, 1, none⟩ (.int .u64 (clrN F p))).drew = W3 at *
      have z0 : W3.frozen? ⟨w.heap.size, 0, none⟩ = false := frozen_of_row _ _ 0 _ _ hR3
      have z1 : W3.frozen? ⟨w.heap.size, 1, none⟩ = false := frozen_of_row _ _ 1 _ _ hR3
      have y0 : W3.cell? ⟨w.heap.size, 0, none⟩ = some (.int .i64 0) := by rw [cell_of_row _ _ _ _ _ (0, 0) hR3]; rfl
      have y1 : W3.cell? ⟨w.heap.size, 1, none⟩ = some (.int .i64 0) := by rw [cell_of_row _ _ _ _ _ (0, 0) hR3]; rfl
      obtain ⟨e3, e4, e5, e6⟩ := qTake_end (W0 := w) hR3 q3 p v
      clear hR3 q3
      go_wp2
      refine bodyPost_ret (v := .tuple #[qV p v, I 0]) (by simp [results, Tryz.results122, go_sem, e5, e6]) rfl ⟨rfl, ⟨_, e4⟩, ?_⟩
      exact (e3 (Nat.le_refl _) (F3.mono (fun b e => (Qb.upd HB.out.2.2.1 _ _ b).2 e))).mono (fun b e => (Qb.upd HB.out.2.2.1 _ _ b).1 e)
  · have h3 : ¬ ((intsV t).length : Int) = 0 := by rw [intsV_len]; have := List.length_pos_iff.2 ht; omega
    have HT : Hid (t ≠ []) := ht
    clear ht
    go_enter Tryz.func122, Tryz.ntmps122
    go_wp2_with (first
      | (go_at_call 129; refine hN.mono ?_; rintro e w1 ⟨rfl, rfl⟩)
      | (go_at_call 136; refine hH.mono ?_; rintro e w1 ⟨rfl, rfl⟩; clear hN hH)
      | (go_at_call 218; refine hT.mono ?_; rintro e w2 ⟨rfl, q2, c2, z2, hR2, HR⟩; clear hT hc; have z0 : w2.frozen? ⟨w.heap.size, 0, none⟩ = false := frozen_of_row _ _ 0 _ _ hR2; have z1 : w2.frozen? ⟨w.heap.size, 1, none⟩ = false := frozen_of_row _ _ 1 _ _ hR2; have y0 : w2.cell? ⟨w.heap.size, 0, none⟩ = some (.int .i64 0) := (by rw [cell_of_row _ _ _ _ _ (0, 0) hR2]; rfl); have y1 : w2.cell? ⟨w.heap.size, 1, none⟩ = some (.int .i64 0) := (by rw [cell_of_row _ _ _ _ _ (0, 0) hR2]; rfl))
      | (go_at_call 170; refine (iLenQ q2).mono ?_; rintro e w3 ⟨rfl, rfl⟩))
    obtain ⟨r1, r2⟩ := HR.out
    obtain ⟨hb, hp64, hx, hl⟩ := HB.out
    have q3 : Qu w2 Q F (upd f p ⟨x.B, x.g, x.c, x.h, t⟩) := ⟨r1, hb.same hx _ (by rw [hl]; simp [HT.out])⟩
    obtain ⟨e3, e4, e5, e6⟩ := qTake_end (W0 := w) hR2 q3 p v
    refine bodyPost_ret (v := .tuple #[qV p v, I 0]) (by simp [results, Tryz.results122, go_sem, e5, e6]) rfl ⟨rfl, ⟨_, e4⟩, ?_⟩
    exact (e3 (Nat.le_refl _) ((F1.trans r2).mono (fun b e => (Qb.upd hx _ _ b).2 e))).mono (fun b e => (Qb.upd hx _ _ b).1 e)
end
end Go.Proofs.YtglnfifdjlgbcaaGreatDoor.Re

