import Derived.Test.YticgikbnlpgnkaaRit
import Derived.Test.YticgikbnlpgnkaaRcp12
import Derived.Test.YticgikbnlpgnkaaYsh
import Derived.Laws.Bits64b
import Derived.Lib.ItoaNum
namespace Go.Proofs.Yticgikbnlpgnkaa
open Go.RowKit
set_option linter.unusedVariables false
set_option linter.unusedSimpArgs false

/-! ### Queues: memory -/
/-- Nothing but the blocks of M (and what is new) may have changed. -/
structure Fz (M : Nat → Prop) (w w' : World) : Prop where
  os : w'.os = w.os
  tape : w'.tape = w.tape
  output : w'.output = w.output
  size : w.heap.size ≤ w'.heap.size
  block : ∀ b, b < w.heap.size → ¬ M b → w'.heap[b]? = w.heap[b]?
theorem Fz.refl (M : Nat → Prop) (w : World) : Fz M w w := ⟨rfl, rfl, rfl, Nat.le_refl _, fun _ _ _ => rfl⟩
theorem Fz.step {M N : Nat → Prop} {a b c : World} (h : Fz M a b) (k : Fz N b c) (hc : ∀ x, N x → M x ∨ a.heap.size ≤ x) : Fz M a c :=
  ⟨k.os.trans h.os, k.tape.trans h.tape, k.output.trans h.output, Nat.le_trans h.size k.size, fun i hi hn => (k.block i (Nat.lt_of_lt_of_le hi h.size) (fun e => (hc i e).elim hn (fun e2 => by omega))).trans (h.block i hi hn)⟩
theorem Fz.trans {M : Nat → Prop} {a b c : World} (h : Fz M a b) (k : Fz M b c) : Fz M a c := h.step k (fun _ e => .inl e)
theorem Fz.mono {M N : Nat → Prop} {a b : World} (h : Fz M a b) (hs : ∀ x, M x → N x) : Fz N a b := ⟨h.os, h.tape, h.output, h.size, fun i hi hn => h.block i hi (fun e => hn (hs i e))⟩
theorem Fz.of_fx {M : Nat → Prop} {bs : List Nat} {a b : World} (h : Fx bs a b) (hs : ∀ x ∈ bs, M x) : Fz M a b := ⟨h.os, h.tape, h.output, h.size, fun i hi hn => h.block i hi (fun e => hn (hs i e))⟩
theorem Fz.of_below {M : Nat → Prop} {a b : World} (h : Below a.heap.size a b) : Fz M a b := ⟨h.os, h.tape, h.output, h.size, fun i hi _ => h.block i hi⟩
theorem Fz.below {M : Nat → Prop} {B : Nat} {a b : World} (h : Fz M a b) (hB : B ≤ a.heap.size) (hs : ∀ x, M x → B ≤ x) : Below B a b :=
  ⟨h.os, h.tape, h.output, h.size, fun i hi => h.block i (by omega) (fun e => by have := hs i e; omega)⟩
theorem Fz.heap {M : Nat → Prop} {a b : World} (h : Fz M a b) {g : Nat} {o : Obj} (hg : a.heap[g]? = some o) (hn : ¬ M g) : b.heap[g]? = some o := (h.block g (heap_lt hg) hn).trans hg
theorem Fz.cell {M : Nat → Prop} {a b : World} (h : Fz M a b) {g i : Nat} {v : Value} (hg : a.cell? ⟨g, i, none⟩ = some v) (hn : ¬ M g) : b.cell? ⟨g, i, none⟩ = some v :=
  (World.cell?_of_block (h.block g (World.block_lt_of_cell? a _ hg) hn)).trans hg
theorem Fz.set {M : Nat → Prop} {a w : World} (h : Fz M a w) {b : Nat} (hb : M b ∨ a.heap.size ≤ b) (k : Nat) (v : Value) : Fz M a (w.setCell ⟨b, k, none⟩ v) :=
  h.step (N := fun x => x = b) ⟨rfl, rfl, rfl, by simp, fun i _ hn => heap_setCell_other w ⟨b, k, none⟩ i _ hn⟩ (by rintro x rfl; exact hb)
theorem Fz.alloc {M : Nat → Prop} {a w : World} (h : Fz M a w) (o : Obj) : Fz M a (w.alloc o) := h.trans (Fz.of_below (below_alloc w o))
theorem Fz.drewN {M : Nat → Prop} {a w : World} (h : Fz M a w) (n : Nat) : Fz M a (w.drewN n) := h.trans (Fz.of_below (below_drewN n (Below.refl _ _)))
theorem Fz.own {M : Nat → Prop} {a b : World} (h : Fz M a b) {base e size n : Nat} {v : Value} {xs : List Value} (ho : a.ownsRow base e size v n xs) (hn : ∀ g, v.ownBlock = some g → ¬ M g) : b.ownsRow base e size v n xs := by
  obtain ⟨hl, h0 | ⟨g, cap, cur, hv, hb1, hh, rr⟩⟩ := ho
  · exact ⟨hl, .inl h0⟩
  · exact ⟨hl, .inr ⟨g, cap, cur, hv, hb1, h.heap hh (hn g (by rw [hv]; rfl)), rr⟩⟩

/-- A ring of a queue: its block, its room, its capacity, its mark, its row. -/
structure Ri where
  B : Nat
  g : Nat
  c : Nat
  h : Nat
  l : List Int
abbrev RS := Nat → Option Ri
def ptrOf : Option Ri → Value
  | some x => iP x.B
  | none => .pointer none
def upd (f : RS) (p : Nat) (x : Ri) : RS := fun q => if q = p then some x else f q
theorem upd_same (f : RS) (p : Nat) (x : Ri) : upd f p x p = some x := by simp [upd]
theorem upd_other (f : RS) {p q : Nat} (x : Ri) (h : q ≠ p) : upd f p x q = f q := by simp [upd, h]
/-- A queue's memory: its block Q, what 'filled' says, its rings. -/
structure Qm (w : World) (Q F : Nat) (f : RS) : Prop where
  o : ∃ cs : Array Value, w.heap[Q]? = some (.cells cs 56) ∧ cs.size = 66 ∧ cs[0]? = some (.bool true) ∧ cs[1]? = some (.int .u64 F) ∧ ∀ p, p < 64 → cs[2 + p]? = some (ptrOf (f p))
  r : ∀ p x, f p = some x → p < 64 ∧ 1 ≤ x.c ∧ iQ w x.B x.g x.c x.h (intsV x.l)
  a : ∀ p q x y, f p = some x → f q = some y → p ≠ q → x.B ≠ y.B ∧ x.g ≠ y.g
def Bt (F : Nat) (f : RS) : Prop := F < 18446744073709551616 ∧ ∀ p, F.testBit p = true ↔ ∃ x, f p = some x ∧ x.l ≠ []
structure Qu (w : World) (Q F : Nat) (f : RS) : Prop where
  m : Qm w Q F f
  b : Bt F f
def Qb (Q : Nat) (f : RS) (b : Nat) : Prop := b = Q ∨ ∃ p x, f p = some x ∧ (b = x.B ∨ b = x.g)
abbrev qP (Q : Nat) : Value := .pointer (some ⟨Q, 0, none⟩)
section
variable {w : World} {Q F : Nat} {f : RS}
theorem Qm.c0 (h : Qm w Q F f) : w.cell? ⟨Q, 0, none⟩ = some (.bool true) := by
  obtain ⟨cs, ho, hs, h0, h1, hp⟩ := h.o
  rw [cell_of_row w Q _ _ _ (0, 0) ho]; exact h0
theorem Qm.c1 (h : Qm w Q F f) : w.cell? ⟨Q, 1, none⟩ = some (.int .u64 F) := by
  obtain ⟨cs, ho, hs, h0, h1, hp⟩ := h.o
  rw [cell_of_row w Q _ _ _ (0, 0) ho]; exact h1
theorem Qm.cp (h : Qm w Q F f) {p : Nat} (hlt : p < 64) : w.cell? ⟨Q, 2 + p, none⟩ = some (ptrOf (f p)) := by
  obtain ⟨cs, ho, hs, h0, h1, hp⟩ := h.o
  rw [cell_of_row w Q _ _ _ (0, 0) ho]; exact hp p hlt
theorem Qm.frz (h : Qm w Q F f) (j : Nat) : w.frozen? ⟨Q, j, none⟩ = false := by
  obtain ⟨cs, ho, _⟩ := h.o
  exact frozen_of_row w Q j _ _ ho
theorem Qm.lt (h : Qm w Q F f) : Q < w.heap.size := by
  obtain ⟨cs, ho, _⟩ := h.o
  exact heap_lt ho
theorem Qm.ne (h : Qm w Q F f) {p : Nat} {x : Ri} (hx : f p = some x) : Q ≠ x.B ∧ Q ≠ x.g := by
  obtain ⟨cs, ho, _⟩ := h.o
  obtain ⟨_, _, hq⟩ := h.r p x hx
  obtain ⟨c1, h1⟩ := hq.ty
  obtain ⟨c2, h2⟩ := hq.tyg
  refine ⟨fun e => ?_, fun e => ?_⟩
  · rw [e, h1] at ho; simp only [Option.some.injEq, Obj.cells.injEq] at ho; exact absurd ho.2.1 (by decide)
  · rw [e, h2] at ho; simp only [Option.some.injEq, Obj.cells.injEq] at ho; exact absurd ho.2.1 (by decide)
theorem Qm.bg (h : Qm w Q F f) {p q : Nat} {x y : Ri} (hx : f p = some x) (hy : f q = some y) : x.B ≠ y.g := fun e => by
  obtain ⟨c1, h1⟩ := (h.r p x hx).2.2.ty
  obtain ⟨c2, h2⟩ := (h.r q y hy).2.2.tyg
  rw [e, h2] at h1; simp only [Option.some.injEq, Obj.cells.injEq] at h1; exact absurd h1.2.1 (by decide)
theorem Qm.kept (h : Qm w Q F f) {M : Nat → Prop} {w' : World} (hf : Fz M w w') (hM : ∀ b, Qb Q f b → ¬ M b) : Qm w' Q F f := by
  obtain ⟨cs, ho, hr⟩ := h.o
  refine ⟨⟨cs, hf.heap ho (hM Q (.inl rfl)), hr⟩, fun p x hx => ?_, h.a⟩
  obtain ⟨h1, h2, fz, R, h3⟩ := h.r p x hx
  exact ⟨h1, h2, fz, R, ⟨hf.heap h3.o (hM _ (.inr ⟨p, x, hx, .inl rfl⟩)), hf.heap h3.q (hM _ (.inr ⟨p, x, hx, .inr rfl⟩)), h3.k, h3.m, h3.r, h3.y, h3.ne⟩⟩
theorem Qm.below (h : Qm w Q F f) {w' : World} (hf : Below w.heap.size w w') : Qm w' Q F f := h.kept (M := fun _ => False) (Fz.of_below hf) (fun _ _ e => e)
theorem Qu.kept (h : Qu w Q F f) {M : Nat → Prop} {w' : World} (hf : Fz M w w') (hM : ∀ b, Qb Q f b → ¬ M b) : Qu w' Q F f := ⟨h.m.kept hf hM, h.b⟩
theorem Qu.below (h : Qu w Q F f) {w' : World} (hf : Below w.heap.size w w') : Qu w' Q F f := ⟨h.m.below hf, h.b⟩
theorem Qu.drewN (h : Qu w Q F f) (n : Nat) : Qu (w.drewN n) Q F f := h.below (below_drewN n (Below.refl _ _))
theorem Qb.lt (h : Qm w Q F f) {b : Nat} (hb : Qb Q f b) : b < w.heap.size := by
  rcases hb with rfl | ⟨p, x, hx, e⟩
  · exact h.lt
  · have := (h.r p x hx).2.2.lts
    rcases e with rfl | rfl
    · exact this.1
    · exact this.2
theorem Qb.upd {p : Nat} {x : Ri} (hx : f p = some x) (h' : Nat) (l' : List Int) (b : Nat) : Qb Q (upd f p ⟨x.B, x.g, x.c, h', l'⟩) b ↔ Qb Q f b := by
  constructor
  · rintro (e | ⟨q, y, hy, e⟩)
    · exact .inl e
    · by_cases hq : q = p
      · subst hq
        rw [upd_same] at hy
        cases hy
        exact .inr ⟨q, x, hx, e⟩
      · rw [upd_other f _ hq] at hy
        exact .inr ⟨q, y, hy, e⟩
  · rintro (e | ⟨q, y, hy, e⟩)
    · exact .inl e
    · by_cases hq : q = p
      · subst hq
        rw [hx] at hy
        cases hy
        exact .inr ⟨q, _, upd_same f q _, e⟩
      · exact .inr ⟨q, y, by rw [upd_other f _ hq]; exact hy, e⟩
/-- Behind a call of one of the rings. -/
theorem Qm.ring (h : Qm w Q F f) {p : Nat} {x : Ri} (hx : f p = some x) {w' : World} (hf : Fx [x.B, x.g] w w') {h' : Nat} {l' : List Int} (hq : iQ w' x.B x.g x.c h' (intsV l')) : Qm w' Q F (upd f p ⟨x.B, x.g, x.c, h', l'⟩) ∧ Fz (Qb Q f) w w' := by
  obtain ⟨cs, ho, hs, h0, h1, hp⟩ := h.o
  have hne := h.ne hx
  refine ⟨⟨⟨cs, hf.heap ho (by simp; exact hne), hs, h0, h1, fun q hq2 => ?_⟩, fun q y hy => ?_, fun q r y z hy hz hqr => ?_⟩, Fz.of_fx hf (by
    intro b hb
    simp at hb
    exact .inr ⟨p, x, hx, hb⟩)⟩
  · rw [hp q hq2]
    by_cases e : q = p
    · subst e; rw [upd_same, hx]; rfl
    · rw [upd_other f _ e]
  · by_cases e : q = p
    · subst e
      rw [upd_same] at hy
      cases hy
      exact ⟨(h.r q x hx).1, (h.r q x hx).2.1, hq⟩
    · rw [upd_other f _ e] at hy
      obtain ⟨k1, k2, k3⟩ := h.r q y hy
      have := h.a q p y x hy hx e
      refine ⟨k1, k2, k3.kept hf ?_ ?_⟩
      · simp; exact ⟨this.1, h.bg hy hx⟩
      · simp; exact ⟨fun e2 => h.bg hx hy e2.symm, this.2⟩
  · by_cases e : q = p
    · subst e
      rw [upd_same] at hy
      cases hy
      rw [upd_other f _ (fun e2 => hqr e2.symm)] at hz
      exact h.a q r x z hx hz hqr
    · rw [upd_other f _ e] at hy
      by_cases e2 : r = p
      · subst e2
        rw [upd_same] at hz
        cases hz
        exact h.a q r y x hy hx hqr
      · rw [upd_other f _ e2] at hz
        exact h.a q r y z hy hz hqr
/-- 'filled' written. -/
theorem Qm.fill (h : Qm w Q F f) (F' : Nat) : Qm (w.setCell ⟨Q, 1, none⟩ (.int .u64 F')) Q F' f ∧ Fz (Qb Q f) w (w.setCell ⟨Q, 1, none⟩ (.int .u64 F')) := by
  obtain ⟨cs, ho, hs, h0, h1, hp⟩ := h.o
  have hF : Fz (fun b => b = Q) w (w.setCell ⟨Q, 1, none⟩ (.int .u64 F')) := (Fz.refl (fun b => b = Q) w).set (b := Q) (.inl rfl) 1 _
  refine ⟨⟨⟨_, heap_setCell_same w Q 1 _ _ (.int .u64 F') ho, by simpa using hs, ?_, ?_, fun p hp2 => ?_⟩, fun p x hx => ?_, h.a⟩, hF.mono (fun b e => .inl e)⟩
  · rw [Array.getElem?_setIfInBounds_ne (by decide)]; exact h0
  · rw [Array.getElem?_setIfInBounds_self_of_lt (by omega)]
  · rw [Array.getElem?_setIfInBounds_ne (by omega)]; exact hp p hp2
  · obtain ⟨k1, k2, k3⟩ := h.r p x hx
    have hne := h.ne hx
    exact ⟨k1, k2, k3.kept (bs := [Q]) ((Fx.refl _ w).set (.inl (by simp)) 1 _) (by simp; exact fun e => hne.1 e.symm) (by simp; exact fun e => hne.2 e.symm)⟩
end

/-! ### Bits -/
theorem Bt.put {F : Nat} {f : RS} (h : Bt F f) {p : Nat} {x : Ri} (hx : f p = some x) (hp : p < 64) (h' : Nat) {l' : List Int} (hl : l' ≠ []) : Bt (F ||| 2 ^ p) (upd f p ⟨x.B, x.g, x.c, h', l'⟩) := by
  refine ⟨Nat.or_lt_two_pow (n := 64) h.1 (Nat.pow_lt_pow_right (by decide) hp), fun q => ?_⟩
  rw [Nat.testBit_or, Nat.testBit_two_pow]
  by_cases e : q = p
  · subst e
    rw [upd_same]
    simp [hl]
  · rw [upd_other f _ e, ← h.2 q]
    simp [Ne.symm e]
theorem Bt.same {F : Nat} {f : RS} (h : Bt F f) {p : Nat} {x : Ri} (hx : f p = some x) (h' : Nat) {l' : List Int} (hl : l' ≠ [] ↔ x.l ≠ []) : Bt F (upd f p ⟨x.B, x.g, x.c, h', l'⟩) := by
  refine ⟨h.1, fun q => ?_⟩
  by_cases e : q = p
  · subst e
    rw [upd_same, h.2 q, hx]
    simp only [Option.some.injEq, exists_eq_left']
    exact hl.symm
  · rw [upd_other f _ e, ← h.2 q]
def clrN (F p : Nat) : Nat := (BitVec.ofInt 64 (F : Int) &&& ~~~ (BitVec.ofInt 64 ((2 ^ p : Nat) : Int))).toNat
theorem clrN_bit {F p q : Nat} (hF : F < 18446744073709551616) (hp : p < 64) : (clrN F p).testBit q = (F.testBit q && decide (q ≠ p)) := by
  unfold clrN
  rw [BitVec.testBit_toNat, BitVec.getLsbD_and, BitVec.getLsbD_not, ← BitVec.testBit_toNat, ← BitVec.testBit_toNat, BitVec.ofInt_natCast, BitVec.ofInt_natCast, BitVec.toNat_ofNat, BitVec.toNat_ofNat, Nat.mod_eq_of_lt (by omega), Nat.mod_eq_of_lt (Nat.pow_lt_pow_right (by decide) hp), Nat.testBit_two_pow]
  by_cases hq : q < 64
  · simp [hq, eq_comm]
  · have : F.testBit q = false := Nat.testBit_lt_two_pow (Nat.lt_of_lt_of_le hF (Nat.pow_le_pow_right (n := 2) (by decide) (by omega : 64 ≤ q)))
    simp [hq, this]
theorem clrN_lt (F p : Nat) : clrN F p < 18446744073709551616 := (BitVec.ofInt 64 (F : Int) &&& ~~~ (BitVec.ofInt 64 ((2 ^ p : Nat) : Int))).isLt
theorem Bt.clr {F : Nat} {f : RS} (h : Bt F f) {p : Nat} {x : Ri} (hx : f p = some x) (hp : p < 64) (h' : Nat) : Bt (clrN F p) (upd f p ⟨x.B, x.g, x.c, h', []⟩) := by
  refine ⟨clrN_lt _ _, fun q => ?_⟩
  rw [clrN_bit h.1 hp]
  by_cases e : q = p
  · subst e
    rw [upd_same]
    simp
  · rw [upd_other f _ e, ← h.2 q]
    simp [e]
theorem shl_one {p : Nat} (hp : p < 64) : IntKind.u64.wrap (1 * 2 ^ ((p : Nat) : Int).toNat) = ((2 ^ p : Nat) : Int) := by
  have h2 : (2 ^ p : Nat) < 2 ^ 64 := Nat.pow_lt_pow_right (by decide) hp
  rw [IntKind.wrap_u64, Int.toNat_natCast, Int.one_mul]
  have : (2 : Int) ^ p = ((2 ^ p : Nat) : Int) := by norm_cast
  rw [this]
  generalize 2 ^ p = y at *
  omega
theorem or_one {F p : Nat} (hF : F < 18446744073709551616) (hp : p < 64) : bits .or .u64 (F : Int) ((2 ^ p : Nat) : Int) = ((F ||| 2 ^ p : Nat) : Int) :=
  bits_or_u64_nat F (2 ^ p) hF (show 2 ^ p < 2 ^ 64 from Nat.pow_lt_pow_right (by decide) hp)
theorem clr_one {F p : Nat} : bits .andNot .u64 (F : Int) ((2 ^ p : Nat) : Int) = (clrN F p : Int) := by
  have h1 := clrN_lt F p
  show IntKind.u64.wrap ((clrN F p : Nat) : Int) = _
  rw [IntKind.wrap_u64]
  omega
theorem Bt.zero {f : RS} (h : ∀ p x, f p = some x → x.l = []) : Bt 0 f := ⟨by decide, fun p => by
  constructor
  · intro e; simp at e
  · rintro ⟨x, hx, hl⟩; exact absurd (h p x hx) hl⟩
theorem Bt.eq {F G : Nat} {f : RS} (h : Bt F f) (k : Bt G f) : F = G := Nat.eq_of_testBit_eq fun i => by
  rw [Bool.eq_iff_iff, h.2 i, k.2 i]
theorem Bt.none {F : Nat} {f : RS} (h : Bt F f) (h0 : F = 0) : ∀ p x, f p = some x → x.l = [] := fun p x hx => by
  subst h0
  by_cases e : x.l = []
  · exact e
  · have := (h.2 p).2 ⟨x, hx, e⟩
    simp at this
/-- The greatest bit. -/
theorem Bt.top {F : Nat} {f : RS} (h : Bt F f) (h0 : F ≠ 0) : ∃ p x, Lib.bitLen F = p + 1 ∧ f p = some x ∧ x.l ≠ [] ∧ ∀ q y, p < q → f q = some y → y.l = [] := by
  obtain ⟨h1, h2, h9⟩ := Lib.bitLenAux_bounds 64 F h.1 h0
  have hs : F < 2 ^ Lib.bitLen F ∧ True := ⟨h9, trivial⟩
  clear h9
  change 1 ≤ Lib.bitLen F at h1
  change 2 ^ (Lib.bitLen F - 1) ≤ F at h2
  obtain ⟨p, hp⟩ : ∃ p, Lib.bitLen F = p + 1 := ⟨Lib.bitLen F - 1, by omega⟩
  rw [hp, Nat.add_sub_cancel] at h2
  have h3 := hs.1
  rw [hp, Nat.pow_succ] at h3
  have hb : F.testBit p = true := by
    rw [Nat.testBit_eq_decide_div_mod_eq]
    have : F / 2 ^ p = 1 := by
      apply Nat.div_eq_of_lt_le <;> omega
    rw [this]; rfl
  obtain ⟨x, hx, hl⟩ := (h.2 p).1 hb
  refine ⟨p, x, hp, hx, hl, fun q y hq hy => ?_⟩
  by_cases e : y.l = []
  · exact e
  · have h4 := (h.2 q).2 ⟨y, hy, e⟩
    have : F.testBit q = false := Nat.testBit_lt_two_pow (Nat.lt_of_lt_of_le hs.1 (by rw [hp]; exact Nat.pow_le_pow_right (by decide) (by omega)))
    rw [this] at h4
    cases h4
end Go.Proofs.Yticgikbnlpgnkaa
