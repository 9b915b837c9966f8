import Derived.Test.YticgikbnlpgnkaaYlp
import Derived.Test.YticgikbnlpgnkaaYfa
import Derived.Deep.RegionWith
import Derived.Stop.RegionWithIn
namespace Go.Proofs.Yticgikbnlpgnkaa
open Go.RowKit Go.Shelf
set_option linter.unusedVariables false
set_option linter.unusedSimpArgs false

/-! ### ReadyRanges: means -/
theorem Fx.turn {w w' : World} {row : Option Nat} (hg : w.grownBy w' row) : Fx row.toList w w' :=
  ⟨hg.os, hg.tape, hg.output, hg.size, fun b hb hn => hg.block b hb (fun e => hn (by rw [← e]; simp))⟩
/-- no cells among cs -/
def NoC (cs : List Nat) (w : World) : Prop := ∀ (b : Nat) (c : Array Value) (ty : TypeId), w.heap[b]? = some (.cells c ty) → b ∉ cs
theorem noC_turn {w : World} {row : Option Nat} (hr : ∀ r, row = some r → ∃ o : Obj, w.heap[r]? = some o ∧ o.isCells = false) : NoC row.toList w := fun b c ty hb e => by
  obtain ⟨o, h1, h2⟩ := hr b (by simpa using e)
  rw [hb] at h1
  cases h1
  cases h2
/-- An operation in a round, by its plain walk. -/
theorem oper_in {P : Program} {o : Oper} {a : Act} {w : World} {next : Act → World → Prop} {Q : Exit → Act → World → Prop} (l n : Nat) (hd : ∀ c, o.op ≠ .defer c) (h : o.wp P a w next Q) : o.wpIn (Fence.wide.inRound l) n P a w next Q := by
  refine ⟨fun _ _ => trivial, ?_⟩
  unfold Oper.wp at h
  rw [Oper.semAt_plain _ _ _ hd]
  revert h
  generalize (execOp a.eval o).run P w = r
  intro h
  match r, h with
  | .ok (.value v) w', h => exact h
  | .ok .skip w', h => exact h
  | .ok (.defer d) w', h => exact h
  | .ok (.enter f args) w', h => exact ⟨fun hh => (by cases hh), CallsIn.inRound l (callsIn_wide.2 h)⟩
  | .ok (.row row args) w', h => exact ⟨fun hh => (by cases hh), fun c cs _ => let ⟨v, w'', r, s⟩ := h c cs; ⟨v, w'', r, stepsIn_wide.2 s⟩⟩
  | .halt (.panic v) w', h => exact h
/-- Whatever order is picked in a round, by the plain walk. -/
theorem anyIn_of_any {P : Program} {md : Region.Mode} {ops : Array Oper} {Q : Exit → Act → World → Prop} (l n : Nat) (hd : ∀ (j : Nat) (o : Oper) (c : Call), ops[j]? = some o → o.op ≠ .defer c) (hL : ¬ LetsOut Q) :
    ∀ (fuel : Nat) (listed : Array Bool) (a : Act) (w : World), wpAny P md ops Q fuel listed a w → wpAnyIn (Fence.wide.inRound l) n P md ops Q fuel listed a w
  | 0, _, _, _, h => h
  | fuel + 1, listed, a, w, h => ⟨h.1, fun i hi => by
      have h1 := wpOp_mono (fun a' w' h' => anyIn_of_any l n hd hL fuel _ a' w' h') (h.2 i hi)
      unfold wpOpIn
      unfold wpOp at h1
      split
      · rename_i hn; simpa [hn] using h1
      · rename_i o ho
        simp only [ho] at h1
        split
        · rename_i hw
          simp only [hw, if_true] at h1
          exact oper_in l n (fun c => hd i o c ho) (h1.resolve_right (fun h2 => hL h2.2))
        · rename_i hw
          simp only [hw] at h1
          exact ⟨fun _ _ => trivial, h1⟩⟩
/-- A region that draws, in a round: S is shown of the world behind the draw and held. -/
theorem region_round {P : Program} {ops : Array Oper} {Q : Exit → Act → World → Prop} {S : World → Prop} {id l n : Nat} {a : Act} {w : World} (hm : P.follows .mixedOrders = true) (hd : (ops.all fun o => match o.op with | .defer _ => false | _ => true) = true) (hL : ¬ LetsOut Q) (hS : S w.drew)
    (h : S w.drew → wpAnyH P .any ops Q S ops.size (Array.replicate ops.size false) a w.drew) : (Code.region id ops true).wpIn (Fence.wide.inRound l) n P Q a w := by
  refine wpIn_region_any hm (anyIn_of_any l n (fun j o c hj hc => ?_) hL _ _ _ _ (wpAny_of_held _ _ _ _ (h hS)))
  rw [Array.all_eq_true_iff_forall_mem] at hd
  have := hd o (Array.mem_of_getElem? hj)
  rw [hc] at this
  cases this
/-- Only the way on. -/
def onlyN (K : Act → World → Prop) : Exit → Act → World → Prop
  | .normal, a, w => K a w
  | _, _, _ => False
theorem not_lets_onlyN (K : Act → World → Prop) : ¬ LetsOut (onlyN K) := fun ⟨_, _, h⟩ => h
theorem onlyN_panic {K : Act → World → Prop} {v : Value} {d : Option Tmp} : ∀ (c : List PanicEntry) (a : Act) (w : World), onlyN K (.panic c) (a.put d v) w → onlyN K (.panic c) a w := fun _ _ _ h => False.elim h
theorem only_normal {F : Fence} {n : Nat} {P : Program} {c : Code} {Q : Exit → Act → World → Prop} {a : Act} {w : World} (h : ∀ K : Act → World → Prop, Shut (∀ a w, Q .normal a w → K a w) → c.wpIn F n P (onlyN K) a w) : c.wpIn F n P Q a w :=
  wpIn_mono (h (Q .normal) (fun _ _ h => h)) (fun e a' w' hh => by cases e <;> first | exact hh | exact hh.elim)
/-- The take, its slot named. -/
theorem takeD {P : Program} {ops : Array Oper} {md : Region.Mode} {S : World → Prop} {K : Act → World → Prop} (i d : Nat) {oi : Oper} (v : Value) {fuel : Nat} {listed : Array Bool} {a : Act} {w : World} (hS : S w) (hi : ops[i]? = some oi) (hdst : oi.dst = some d)
    (hs : Region.noSelect ops = true) (hf : Region.free md ops listed i = true) (hr : (Region.ready md ops listed).contains i = true) (hy : YieldsIf P ops S oi v a)
    (h : wpAnyH P md ops (onlyN K) S fuel (listed.setIfInBounds i true) (a.put (some d) v) w) : wpAnyH P md ops (onlyN K) S (fuel + 1) listed a w :=
  wpAnyH_take hi hs hf hr onlyN_panic hy hS (by rw [hdst]; exact h)
/-- as the law's post, but that no way leads to a panic -/
def seenPost (P : Program) (fn : Func) (R : Ending → World → Prop) : Exit → Act → World → Prop
  | .panic _, _, _ => False
  | .outgrown, _, _ => False
  | .normal, a, w => bodyPostM Fence.wide 3 P fn R .normal a w
  | .ret, a, w => bodyPostM Fence.wide 3 P fn R .ret a w
  | .exit _, _, _ => False
  | .goto _, _, _ => False
theorem seen_post {P : Program} {fn : Func} {R : Ending → World → Prop} : ∀ (e : Exit) (a : Act) (w : World), seenPost P fn R e a w → bodyPostM Fence.wide 3 P fn R e a w
  | .panic _, _, _, h => h.elim
  | .outgrown, _, _, h => h.elim
  | .normal, _, _, h => h
  | .ret, _, _, h => h
  | .exit _, _, _, h => h.elim
  | .goto _, _, _, h => h.elim

theorem boxed_fx {w w' : World} {cs : List Nat} {A : Nat} {t : TypeId} {v : Value} (hf : Fx cs w w') (h : Boxed w A t v) (hn : A ∉ cs) : Boxed w' A t v := hf.heap h hn
theorem Fz.turn {w w' : World} {row : Option Nat} (hg : w.grownBy w' row) : Fz (fun b => row = some b) w w' :=
  ⟨hg.os, hg.tape, hg.output, hg.size, fun b hb hn => hg.block b hb (fun e => hn e.symm)⟩
theorem not_turn {w : World} {row : Option Nat} (hr : ∀ r, row = some r → ∃ o : Obj, w.heap[r]? = some o ∧ o.isCells = false) {b : Nat} {cs : Array Value} {ty : TypeId} (hb : w.heap[b]? = some (.cells cs ty)) : ¬ row = some b := fun e => by
  obtain ⟨o, h1, h2⟩ := hr b e
  rw [hb] at h1
  cases h1
  cases h2
theorem Fz.boxed {M : Nat → Prop} {a b : World} (h : Fz M a b) {A : Nat} {t : TypeId} {v : Value} (hA : Boxed a A t v) (hn : ¬ M A) : Boxed b A t v := h.heap hA hn
/-- Both queues, the program's blocks of X0, the document's apart from X. -/
structure Tw (w : World) (Q D : Nat) (X0 X Y : Nat → Prop) (rs : List Rr) : Prop where
  q : QR w Q X0 rs
  d : DQ w D X Y rs
  x : ∀ b, X b → b < w.heap.size
  s : ∀ b, X0 b → X b
  n : rs.length ≤ 64
section
variable {w w' : World} {Q D : Nat} {X0 X Y : Nat → Prop} {rs : List Rr}
theorem Tw.below (h : Tw w Q D X0 X Y rs) (hb : Below w.heap.size w w') : Tw w' Q D X0 X Y rs := ⟨h.q.below hb, h.d.below hb, fun b e => Nat.lt_of_lt_of_le (h.x b e) hb.size, h.s, h.n⟩
theorem Tw.turn (h : Tw w Q D X0 X Y rs) {B : Nat} (hB : ∀ b, X b ∨ Y b → b < B) {row : Option Nat} (hg : w.grownBy w' row) (hr : ∀ r, row = some r → B ≤ r ∧ ∃ o : Obj, w.heap[r]? = some o ∧ o.isCells = false) : Tw w' Q D X0 X Y rs := by
  obtain ⟨vr, vl, vh, ls, hd⟩ := h.d
  have hr2 := fun r e => (hr r e).2
  refine ⟨h.q.kept (Fz.turn hg) (fun b hb e => ?_), ⟨vr, vl, vh, ls, hd.kept (Fz.turn hg) (not_turn hr2 hd.o) (fun g e => ?_) (fun g hy e => ?_) (fun i s g off hs e => ?_)⟩, fun b e => Nat.lt_of_lt_of_le (h.x b e) hg.size, h.s, h.n⟩
  · have h1 := hB b (.inl (h.s b hb)); have h2 := (hr b e).1; omega
  · obtain ⟨cs, hc⟩ := own_blk hd.r e; exact not_turn hr2 hc
  · have h1 := hB g (.inr hy); have h2 := (hr g e).1; omega
  · obtain ⟨x, hx⟩ := hd.ls_of hs
    obtain ⟨_, _, cs, hc⟩ := (hd.s i x s hx hs).2 g off e
    exact not_turn hr2 hc
theorem Tw.box (h : Tw w Q D X0 X Y rs) {A : Nat} (hA : X A) (hn : ¬ X0 A) (v : Value) : Tw (w.setCell ⟨A, 0, none⟩ v) Q D X0 X Y rs := by
  have hf : Fz (fun b => b = A) w (w.setCell ⟨A, 0, none⟩ v) := Fz.set (M := fun b => b = A) (Fz.refl (fun b => b = A) w) (b := A) (Or.inl rfl) _ _
  exact ⟨h.q.kept hf (fun b hb e => hn (e ▸ hb)), h.d.prog (hf.mono (fun b e => by subst e; exact hA)), fun b e => Nat.lt_of_lt_of_le (h.x b e) hf.size, h.s, h.n⟩
theorem Cp.tw (h : Cp w Q D X0 Y rs) (hb : Below w.heap.size w w') (hN : ∀ b, X b → X0 b ∨ (w.heap.size ≤ b ∧ b < w'.heap.size)) (hs : ∀ b, X0 b → X b) : Tw w' Q D X0 X Y rs := by
  obtain ⟨vr, vl, vh, ls, hd⟩ := h.d
  have hd2 := hd.below hb
  have key : ∀ g, g < w.heap.size → ¬ X0 g → ¬ X g := fun g hg hn e => by
    rcases hN g e with e | e
    · exact hn e
    · omega
  refine ⟨h.q.below hb, ⟨vr, vl, vh, ls, hd2.o, hd2.r, hd2.l, hd2.h, hd2.n, fun i x s hx hs => ⟨(hd2.s i x s hx hs).1, fun g off e => ?_⟩, hd2.y, fun g e => ⟨(hd2.yn g e).1, key g (hd.yn g e).1 (hd.yn g e).2⟩, key D (heap_lt hd.o) hd.f.1, fun g e => ?_⟩, fun b e => ?_, hs, h.n⟩
  · obtain ⟨k1, k2, cs, k3⟩ := (hd.s i x s hx hs).2 g off e
    exact ⟨key g (heap_lt k3) k1, ((hd2.s i x s hx hs).2 g off e).2⟩
  · obtain ⟨cs, hc⟩ := own_blk hd.r e
    exact key g (heap_lt hc) (hd.f.2 g e)
  · rcases hN b e with e | e
    · exact Nat.lt_of_lt_of_le (h.x b e) hb.size
    · exact e.2
theorem twTake (h : Tw w Q D X0 X Y rs) : ∃ rs', Calls Try.prog 12 #[qP Q] w fun e w1 => (∃ v, e = .returned v) ∧ Fz X0 w w1 ∧ Calls Try.prog 20 #[dQ D] w1 fun e w2 => (∃ v, e = .returned v) ∧ Tw w2 Q D X0 X Y rs' ∧ Fz Y w1 w2 := by
  have hlt : ∀ w1, Fz X0 w w1 → ∀ b, X b → b < w1.heap.size := fun w1 f b e => Nat.lt_of_lt_of_le (h.x b e) f.size
  rcases first_row rs with h0 | ⟨i, r, hi, hl, hj⟩
  · refine ⟨rs, (rTake_no h.q h0).mono ?_⟩
    rintro e w1 ⟨rfl, q1, f1⟩
    refine ⟨⟨_, rfl⟩, f1, (eTake_no (h.d.prog (f1.mono h.s)) h0 h.n).mono ?_⟩
    rintro e w2 ⟨rfl, b2⟩
    exact ⟨⟨_, rfl⟩, ⟨q1.below b2, (h.d.prog (f1.mono h.s)).below b2, fun b e => Nat.lt_of_lt_of_le (hlt w1 f1 b e) b2.size, h.s, h.n⟩, Fz.of_below b2⟩
  · obtain ⟨v, t, ht⟩ := List.exists_cons_of_ne_nil hl
    refine ⟨rs.set i ⟨r.p, r.c, r.h, t⟩, (rTake_ok h.q hi ht hj).mono ?_⟩
    rintro e w1 ⟨rfl, q1, f1⟩
    have d1 := h.d.prog (f1.mono h.s)
    refine ⟨⟨_, rfl⟩, f1, (eTake_ok d1 hi ht hj h.q.fall h.n).mono ?_⟩
    rintro e w2 ⟨rfl, d2, f2⟩
    exact ⟨⟨_, rfl⟩, ⟨q1.kept f2 (fun b hx hy => (d1.yx b hy).2 (h.s b hx)), d2, fun b e => Nat.lt_of_lt_of_le (hlt w1 f1 b e) f2.size, h.s, by rw [List.length_set]; exact h.n⟩, f2⟩
end
/-- Ahead of the rangings. -/
structure RG (W Z : World) (A5 A6 A7 A8 : Nat) (lv : Int) (Q D : Nat) (X Y : Nat → Prop) (rs : List Rr) : Prop where
  c : Cp Z Q D X Y rs
  b : Below W.heap.size W Z
  k : ∀ b, X b ∨ Y b → W.heap.size ≤ b
  x5 : Boxed Z A5 3 (I lv)
  x6 : Boxed Z A6 4 (.bool false)
  x7 : Boxed Z A7 24 (qP Q)
  x8 : Boxed Z A8 25 (dQ D)
  n5 : ¬ X A5 ∧ ¬ Y A5
  n6 : ¬ X A6 ∧ ¬ Y A6
  n7 : ¬ X A7 ∧ ¬ Y A7
  n8 : ¬ X A8 ∧ ¬ Y A8
  o : W.heap.size ≤ A5 ∧ W.heap.size ≤ A6 ∧ W.heap.size ≤ A7 ∧ W.heap.size ≤ A8
section
variable {W Z Z' : World} {A5 A6 A7 A8 : Nat} {lv : Int} {Q D : Nat} {X Y : Nat → Prop} {rs rs' : List Rr}
theorem RG.pair (h : RG W Z A5 A6 A7 A8 lv Q D X Y rs) {Z1 : World} (hc : Cp Z' Q D X Y rs') (hf : Fz X Z Z1) (hg : Fz Y Z1 Z') : RG W Z' A5 A6 A7 A8 lv Q D X Y rs' :=
  ⟨hc, (h.b.trans (hf.below h.b.size (fun b e => h.k b (.inl e)))).trans (hg.below (Nat.le_trans h.b.size hf.size) (fun b e => h.k b (.inr e))), h.k, hg.boxed (hf.boxed h.x5 h.n5.1) h.n5.2, hg.boxed (hf.boxed h.x6 h.n6.1) h.n6.2, hg.boxed (hf.boxed h.x7 h.n7.1) h.n7.2, hg.boxed (hf.boxed h.x8 h.n8.1) h.n8.2, h.n5, h.n6, h.n7, h.n8, h.o⟩
theorem RG.below (h : RG W Z A5 A6 A7 A8 lv Q D X Y rs) (hb : Below Z.heap.size Z Z') : RG W Z' A5 A6 A7 A8 lv Q D X Y rs :=
  h.pair (h.c.below hb) (Fz.of_below hb) (Fz.refl _ _)
end
/-- Between two rounds of the first ranging. -/
structure RI (W7 Z : World) (Q D : Nat) (X0 X Y : Nat → Prop) (A k : Nat) : Prop where
  c : ∃ rs, Tw Z Q D X0 X Y rs
  f : Fz (fun b => X0 b ∨ b = A ∨ Y b) W7 Z
  n : Boxed Z A 3 (I k)
section
variable {W7 Z Z' : World} {Q D : Nat} {X0 X Y : Nat → Prop} {A k : Nat}
theorem RI.turn (h : RI W7 Z Q D X0 X Y A k) (hB : ∀ b, X b ∨ Y b → b < W7.heap.size) {row : Option Nat} (hg : Z.grownBy Z' row) (hr : ∀ r, row = some r → W7.heap.size ≤ r ∧ ∃ o : Obj, Z.heap[r]? = some o ∧ o.isCells = false) : RI W7 Z' Q D X0 X Y A k := by
  obtain ⟨rs, hc⟩ := h.c
  exact ⟨⟨rs, hc.turn hB hg hr⟩, h.f.step (Fz.turn hg) (fun x e => .inr (hr x e).1), (Fz.turn hg).boxed h.n (not_turn (fun r e => (hr r e).2) h.n)⟩
theorem RI.below (h : RI W7 Z Q D X0 X Y A k) (hb : Below Z.heap.size Z Z') : RI W7 Z' Q D X0 X Y A k := by
  obtain ⟨rs, hc⟩ := h.c
  exact ⟨⟨rs, hc.below hb⟩, h.f.trans (Fz.of_below hb), (Fz.of_below (M := fun _ => False) hb).boxed h.n id⟩
theorem RI.box (h : RI W7 Z Q D X0 X Y A k) (hA : X A) (hn : ¬ X0 A) (m : Nat) : RI W7 (Z.setCell ⟨A, 0, none⟩ (I m)) Q D X0 X Y A m := by
  obtain ⟨rs, hc⟩ := h.c
  exact ⟨⟨rs, hc.box hA hn _⟩, h.f.set (b := A) (.inl (.inr (.inl rfl))) _ _, h.n.set _⟩
theorem Fz.keepsFrom {M : Nat → Prop} {B : Nat} (h : Fz M Z Z') (hB : ∀ b, M b → b < B) : KeepsFrom B Z Z' := ⟨h.size, fun b o hb hk _ => h.heap hk (fun e => by have := hB b e; omega)⟩
theorem Fz.kq {M : Nat → Prop} (h : Fz M Z Z') : Kq (fun _ b => M b) Z Z' := ⟨h.size, fun b cs ty hm hb => ⟨h.heap hb hm, hm⟩⟩
end
theorem own_mono0 {w : World} {b E k n : Nat} {v : Value} {xs : List Value} (h : w.ownsRow b E k v n xs) : w.ownsRow 0 E k v n xs := by
  obtain ⟨hl, h0 | ⟨g, cap, cur, h1, hb, hh, rr⟩⟩ := h
  · exact ⟨hl, .inl h0⟩
  · exact ⟨hl, .inr ⟨g, cap, cur, h1, Nat.zero_le _, hh, rr⟩⟩
/-- What stands when a ranging begins. -/
structure G7 (W W7 : World) (A5 A6 A7 A8 A11 A13 AS : Nat) (lv : Int) (Q D : Nat) (X X' Y : Nat → Prop) (rs : List Rr) (aL : Option Addr) (cL : Nat) : Prop where
  b : Below W.heap.size W W7
  k : ∀ b, X' b ∨ Y b → W.heap.size ≤ b ∧ b < W7.heap.size
  t : Tw W7 Q D X X' Y rs
  x5 : Boxed W7 A5 3 (I lv)
  x6 : Boxed W7 A6 4 (.bool false)
  x7 : Boxed W7 A7 24 (qP Q)
  x8 : Boxed W7 A8 25 (dQ D)
  x11 : Boxed W7 A11 29 (.slice aL (allR rs).length cL)
  x13 : Boxed W7 A13 3 (I (0 : Nat))
  xs : Boxed W7 AS 24 (qP Q)
  r : W7.ownsRow 0 35 2 (.slice aL (allR rs).length cL) (allR rs).length (pairsC (allR rs))
  n : ∀ A, A = A5 ∨ A = A6 ∨ A = A7 ∨ A = A8 ∨ A = A11 ∨ A = AS → ¬ (X A ∨ A = A13 ∨ Y A)
  nr : ∀ g, (Value.slice aL (allR rs).length cL).ownBlock = some g → ¬ (X g ∨ g = A13 ∨ Y g)
  a : X' A13 ∧ ¬ X A13 ∧ ¬ Y A13
  a11 : X' A11 ∧ A11 ≠ A5 ∧ A11 ≠ A6 ∧ A11 ≠ A7 ∧ A11 ≠ A8 ∧ A11 ≠ AS
  o : W.heap.size ≤ A6 ∧ W.heap.size ≤ A11 ∧ W.heap.size ≤ A13
section
variable {W W7 Z Z' : World} {A5 A6 A7 A8 A11 A13 AS : Nat} {lv : Int} {Q D : Nat} {X X' Y : Nat → Prop} {rs : List Rr} {aL : Option Addr} {cL k : Nat}
theorem G7.m (h : G7 W W7 A5 A6 A7 A8 A11 A13 AS lv Q D X X' Y rs aL cL) : ∀ b, X b ∨ b = A13 ∨ Y b → W.heap.size ≤ b ∧ b < W7.heap.size := fun b e => by
  rcases e with e | rfl | e
  · exact h.k b (.inl (h.t.s b e))
  · exact h.k _ (.inl h.a.1)
  · exact h.k b (.inr e)
theorem G7.row (h : G7 W W7 A5 A6 A7 A8 A11 A13 AS lv Q D X X' Y rs aL cL) (hf : Fz (fun b => X b ∨ b = A13 ∨ Y b) W7 Z) {p x : Int} {j : Nat} (hj : (allR rs)[j]? = some (p, x)) : ∃ g, aL = some ⟨g, 0, none⟩ ∧ Z.cell? ⟨g, j * 2, none⟩ = some (I p) ∧ Z.cell? ⟨g, j * 2 + 1, none⟩ = some (I x) := by
  have hlt := (List.getElem?_eq_some_iff.1 hj).1
  obtain ⟨g, d, cur, e, _, k1, r1⟩ := own_pairs (hf.own h.r h.nr) (by omega)
  cases e
  refine ⟨g, rfl, ?_, ?_⟩
  · rw [cell_of_row Z g _ _ _ (0, 0) k1]; exact (r1 j p x hj).1
  · rw [cell_of_row Z g _ _ _ (0, 0) k1]; exact (r1 j p x hj).2
theorem G7.i0 (h : G7 W W7 A5 A6 A7 A8 A11 A13 AS lv Q D X X' Y rs aL cL) : RI W7 W7 Q D X X' Y A13 0 := ⟨⟨rs, h.t⟩, Fz.refl _ _, h.x13⟩
theorem RI.took (h : RI W7 Z Q D X X' Y A13 k) (ha : ¬ X A13 ∧ ¬ Y A13) {w1 : World} (f1 : Fz X Z w1) {rs' : List Rr} (t2 : Tw Z' Q D X X' Y rs') (f2 : Fz Y w1 Z') : RI W7 Z' Q D X X' Y A13 k :=
  ⟨⟨rs', t2⟩, (h.f.trans (f1.mono (fun _ e => .inl e))).trans (f2.mono (fun _ e => .inr (.inr e))), f2.boxed (f1.boxed h.n ha.1) ha.2⟩
/-- A ranging is over, the row is asked anew. -/
theorem G7.next (h : G7 W W7 A5 A6 A7 A8 A11 A13 AS lv Q D X X' Y rs aL cL) (hi : RI W7 Z Q D X X' Y A13 k) {rs' : List Rr} (ht : Tw Z Q D X X' Y rs') {a' : Option Addr} {c' : Nat} (hb : Below Z.heap.size Z Z') (ho : Z'.ownsRow Z.heap.size 35 2 (.slice a' (allR rs').length c') (allR rs').length (pairsC (allR rs'))) :
    G7 W ((Z'.setCell ⟨A11, 0, none⟩ (.slice a' (allR rs').length c')).setCell ⟨A13, 0, none⟩ (I (0 : Nat))) A5 A6 A7 A8 A11 A13 AS lv Q D X X' Y rs' a' c' := by
  have f1 : Fz (fun b => b = A11) Z' (Z'.setCell ⟨A11, 0, none⟩ (.slice a' (allR rs').length c')) := Fz.set (M := fun b => b = A11) (Fz.refl (fun b => b = A11) Z') (b := A11) (Or.inl rfl) _ _
  have f2 : Fz (fun b => b = A13) (Z'.setCell ⟨A11, 0, none⟩ (.slice a' (allR rs').length c')) ((Z'.setCell ⟨A11, 0, none⟩ (.slice a' (allR rs').length c')).setCell ⟨A13, 0, none⟩ (I (0 : Nat))) := Fz.set (M := fun b => b = A13) (Fz.refl (fun b => b = A13) _) (b := A13) (Or.inl rfl) _ _
  have f0 := hi.f.trans (Fz.of_below hb)
  have hn11 : A11 ≠ A13 := fun e => h.n A11 (by simp) (.inr (.inl e))
  have h13 : A13 < W7.heap.size := h.x13.lt
  have h11 : A11 < W7.heap.size := h.x11.lt
  have hZ := hi.f.size
  have hZ' := hb.size
  have key : ∀ {A : Nat} {t : TypeId} {v : Value}, Boxed W7 A t v → ¬ (X A ∨ A = A13 ∨ Y A) → A11 ≠ A → Boxed ((Z'.setCell ⟨A11, 0, none⟩ (.slice a' (allR rs').length c')).setCell ⟨A13, 0, none⟩ (I (0 : Nat))) A t v := fun hA hn h1 => f2.boxed (f1.boxed (f0.boxed hA hn) (fun e => h1 e.symm)) (fun e => hn (.inr (.inl e)))
  have hbZ : Below W.heap.size W Z := h.b.trans (hi.f.below h.b.size (fun b e => (h.m b e).1))
  have hbZ' : Below W.heap.size W Z' := hbZ.trans (hb.mono hbZ.size)
  have hb1 := hbZ'.trans (f1.below hbZ'.size (fun b e => by subst e; exact h.o.2.1))
  have hb2 := hb1.trans (f2.below hb1.size (fun b e => by subst e; exact h.o.2.2))
  have hX11 : ¬ X A11 := fun e => h.n A11 (by simp) (.inl e)
  have b11 : Boxed Z' A11 29 (.slice aL (allR rs).length cL) := f0.boxed h.x11 (h.n A11 (by simp))
  have b13 : Boxed Z' A13 3 (I k) := (Fz.of_below (M := fun _ => False) hb).boxed hi.n id
  have hlb : ∀ g, (Value.slice a' (allR rs').length c').ownBlock = some g → W7.heap.size ≤ g := fun g e => Nat.le_trans hZ (ho.lt g e).1
  have ho0 : Z'.ownsRow 0 35 2 (.slice a' (allR rs').length c') (allR rs').length (pairsC (allR rs')) := own_mono0 ho
  refine ⟨hb2, fun b e => ⟨(h.k b e).1, ?_⟩, ((ht.below hb).box h.a11.1 hX11 _).box h.a.1 h.a.2.1 _, key h.x5 (h.n _ (by simp)) h.a11.2.1, key h.x6 (h.n _ (by simp)) h.a11.2.2.1, key h.x7 (h.n _ (by simp)) h.a11.2.2.2.1, key h.x8 (h.n _ (by simp)) h.a11.2.2.2.2.1, f2.boxed (b11.set _) hn11, ?_, key h.xs (h.n _ (by simp)) h.a11.2.2.2.2.2, f2.own (f1.own ho0 (fun g e e2 => ?_)) (fun g e e2 => ?_), h.n, fun g e e2 => ?_, h.a, h.a11, h.o⟩
  · have := (h.k b e).2; have := f1.size; have := f2.size; omega
  · exact (f1.boxed b13 (fun e => hn11 e.symm)).set _
  · have := hlb g e; omega
  · have := hlb g e; omega
  · have h1 := hlb g e; have h2 := (h.m g e2).2; omega
end
theorem pre_next {l pre : List (Int × Int)} {x : Int × Int} (h : pre <+: l) (hx : l[pre.length]? = some x) : pre ++ [x] <+: l := by
  obtain ⟨t, rfl⟩ := h
  rw [List.getElem?_append_right (Nat.le_refl _), Nat.sub_self] at hx
  cases t with
  | nil => simp at hx
  | cons z t => simp at hx; subst hx; exact ⟨t, by simp⟩
theorem pre_not {l pre : List (Int × Int)} {x y : Int × Int} (hx : l[pre.length]? = some y) (hn : x ≠ y) : ¬ pre ++ [x] <+: l := by
  rintro ⟨t, e⟩
  rw [← e, List.append_assoc, List.getElem?_append_right (Nat.le_refl _), Nat.sub_self] at hx
  simp at hx
  exact hn hx
theorem leave0 {fn : Func} {tmps : Array Value} {p A : Nat} {W w : World} (hr : fn.results = #[.cell p 4]) (hp : tmps.getD p undef = .pointer (some ⟨A, 0, none⟩)) (hA : Boxed w A 4 (.bool true)) (hb : Below W.heap.size W w) :
    LeavesInM Fence.wide 3 Try.prog fn tmps (fun e w' => e = .returned (.bool true) ∧ Below W.heap.size W w') [] .returning w := by
  have hc := hA.cell
  have hp' : tmps[p]?.getD undef = .pointer (some ⟨A, 0, none⟩) := by simpa using hp
  refine ⟨.bool true, ?_, rfl, hb⟩
  simp only [results, hr]
  go_simp
theorem leave2 {fn : Func} {tmps : Array Value} {p A D1 D2 : Nat} {W w : World} (hr : fn.results = #[.cell p 4]) (hp : tmps.getD p undef = .pointer (some ⟨A, 0, none⟩)) (hA : Boxed w A 4 (.bool true)) (h2 : w.heap[D2]? = some (.deferred (some []))) (h1 : w.heap[D1]? = some (.deferred (some []))) (hne : D1 ≠ D2) (hb : Below W.heap.size W w) (k1 : W.heap.size ≤ D1) (k2 : W.heap.size ≤ D2) :
    LeavesInM Fence.wide 3 Try.prog fn tmps (fun e w' => e = .returned (.bool true) ∧ Below W.heap.size W w') [{ target := .collected D2, args := #[] }, { target := .collected D1, args := #[] }] .returning w := by
  have g2 := grownBy_putObj' w D2 (.deferred none)
  have h1' : (w.putObj D2 (.deferred none)).heap[D1]? = some (.deferred (some [])) := (g2.block D1 (heap_lt h1) (fun e => hne (by simpa using e))).trans h1
  have g1 := grownBy_putObj' (w.putObj D2 (.deferred none)) D1 (.deferred none)
  have f2 := Fx.turn g2
  have f1 := Fx.turn g1
  have hA2 : Boxed (w.putObj D2 (.deferred none)) A 4 (.bool true) := boxed_fx f2 hA (noC_turn (row := some D2) (fun r e => by cases e; exact ⟨_, h2, rfl⟩) _ _ _ hA)
  have hA1 : Boxed ((w.putObj D2 (.deferred none)).putObj D1 (.deferred none)) A 4 (.bool true) := boxed_fx f1 hA2 (noC_turn (row := some D1) (fun r e => by cases e; exact ⟨_, h1', rfl⟩) _ _ _ hA2)
  have hc := hA1.cell
  refine ⟨by simp, .inl ⟨D2, _, rfl, run_takeDeferred h2, ⟨by simp, .inl ⟨D1, _, rfl, run_takeDeferred h1', ?_⟩⟩⟩⟩
  have hp' : tmps[p]?.getD undef = .pointer (some ⟨A, 0, none⟩) := by simpa using hp
  refine ⟨.bool true, ?_, rfl, (hb.trans (belowK_b (w := W) (Nat.le_refl _) w D2 _ _ k2 h2 rfl rfl)).trans (belowK_b (w := W) (Nat.le_refl _) _ D1 _ _ k1 h1' rfl rfl)⟩
  simp only [results, hr]
  go_simp
end Go.Proofs.Yticgikbnlpgnkaa
