import Derived.Test.YtlbkbnhnklaebaaRlp
import Derived.Test.YtlbkbnhnklaebaaRit
import Derived.Deep.RegionWith
namespace Go.Proofs.Ytlbkbnhnklaebaa
open Go.RowKit Go.Shelf
set_option linter.unusedVariables false
set_option linter.unusedSimpArgs false

/-! ### RingSeen -/
theorem Fx.turn {w w' : World} {row : Option Nat} (hg : w.grownBy w' row) : Fx row.toList w w' :=
  ⟨hg.os, hg.tape, hg.output, hg.size, fun b hb hn => hg.block b hb (fun e => hn (by rw [← e]; simp))⟩
/-- no cells among cs -/
def NoC (cs : List Nat) (w : World) : Prop := ∀ (b : Nat) (c : Array Value) (ty : TypeId), w.heap[b]? = some (.cells c ty) → b ∉ cs
theorem noC_turn {w : World} {row : Option Nat} (hr : ∀ r, row = some r → ∃ o : Obj, w.heap[r]? = some o ∧ o.isCells = false) : NoC row.toList w := fun b c ty hb e => by
  obtain ⟨o, h1, h2⟩ := hr b (by simpa using e)
  rw [hb] at h1
  cases h1
  cases h2
theorem own_noC {w w' : World} {cs : List Nat} (hf : Fx cs w w') (hc : NoC cs w) {base e k n : Nat} {v : Value} {xs : List Value} (h : w.ownsRow base e k v n xs) : w'.ownsRow base e k v n xs := by
  refine hf.own h (fun g hg => ?_)
  rcases h.2 with ⟨h1, _⟩ | ⟨g', cap, cur, h1, _, hh, _⟩
  · rw [h1] at hg; cases hg
  · rw [h1] at hg
    obtain rfl : g' = g := by simpa [Value.ownBlock] using hg
    exact hc _ _ _ hh
theorem Pr.noC {X : Nat → Prop} {w w' : World} {B g D n hi : Nat} {l : List Int} {cs : List Nat} (h : Pr X w B g D n hi l) (hf : Fx cs w w') (hc : NoC cs w) : Pr X w' B g D n hi l := by
  obtain ⟨v, hd, hk⟩ := h.d
  obtain ⟨c1, h1⟩ := h.q.ty
  obtain ⟨c2, h2⟩ := h.q.tyg
  exact ⟨h.q.kept hf (hc _ _ _ h1) (hc _ _ _ h2), ⟨v, ⟨hf.heap hd.o (hc _ _ _ hd.o), own_noC hf hc hd.p, hd.m, hd.y⟩, hk⟩, fun k e => Nat.lt_of_lt_of_le (h.x k e) hf.size⟩
theorem Dg.notO' {w : World} {D n hi : Nat} {v : Value} {l : List Int} (h : Dg w D n hi v l) {b k : Nat} {u : Value} {xs : List Value} (hp : w.ownsRow b 3 1 u k xs) : u.ownBlock ≠ some D := fun e => by
  rcases hp.2 with ⟨h2, _⟩ | ⟨g', cap, cur, h2, _, hh, _⟩
  · rw [h2] at e; cases e
  · rw [h2] at e
    obtain rfl : g' = D := by simpa [Value.ownBlock] using e
    rw [h.o] at hh
    simp only [Option.some.injEq, Obj.cells.injEq] at hh
    exact absurd hh.2.1 (by decide)
/-- The ring, the document's, and the law's own variables. -/
structure SnI (X : Nat → Prop) (W wr : World) (A6 A7 A8 A9 A11 B g D n : Nat) (u6 : Value) (lv : Int) (hi : Nat) (l : List Int) : Prop where
  p : Pr X wr B g D n hi l
  b : Below W.heap.size W wr
  kk : W.heap.size ≤ B ∧ W.heap.size ≤ g ∧ W.heap.size ≤ D
  x6 : Boxed wr A6 37 u6
  x7 : Boxed wr A7 3 (I lv)
  x8 : Boxed wr A8 4 (.bool false)
  x9 : Boxed wr A9 24 (iP B)
  x11 : Boxed wr A11 43 (dP D)
  k : W.heap.size ≤ A6 ∧ W.heap.size ≤ A7 ∧ W.heap.size ≤ A8 ∧ W.heap.size ≤ A9 ∧ W.heap.size ≤ A11
  n : A6 ∉ [B, g, D] ∧ A7 ∉ [B, g, D] ∧ A8 ∉ [B, g, D] ∧ A9 ∉ [B, g, D] ∧ A11 ∉ [B, g, D]
theorem boxed_fx {w w' : World} {cs : List Nat} {A : Nat} {t : TypeId} {v : Value} (hf : Fx cs w w') (h : Boxed w A t v) (hn : A ∉ cs) : Boxed w' A t v := hf.heap h hn
section
variable {X : Nat → Prop} {W wr w' : World} {A6 A7 A8 A9 A11 B g D n : Nat} {u6 : Value} {lv : Int} {hi : Nat} {l : List Int}
theorem SnI.play (h : SnI X W wr A6 A7 A8 A9 A11 B g D n u6 lv hi l) (hp : PlayP X wr B g D n w') : ∃ hi' l', SnI X W w' A6 A7 A8 A9 A11 B g D n u6 lv hi' l' := by
  obtain ⟨⟨hi', l', h1⟩, hf⟩ := hp
  exact ⟨hi', l', h1, h.b.trans (hf.below h.b.size (by have := h.kk; simp; omega)), h.kk, boxed_fx hf h.x6 h.n.1, boxed_fx hf h.x7 h.n.2.1, boxed_fx hf h.x8 h.n.2.2.1, boxed_fx hf h.x9 h.n.2.2.2.1, boxed_fx hf h.x11 h.n.2.2.2.2, h.k, h.n⟩
theorem SnI.below (h : SnI X W wr A6 A7 A8 A9 A11 B g D n u6 lv hi l) (hb : Below wr.heap.size wr w') : SnI X W w' A6 A7 A8 A9 A11 B g D n u6 lv hi l := by
  have hf : Fx [] wr w' := Fx.of_below hb
  exact ⟨h.p.below hb, h.b.trans (hb.mono h.b.size), h.kk, boxed_fx hf h.x6 (by simp), boxed_fx hf h.x7 (by simp), boxed_fx hf h.x8 (by simp), boxed_fx hf h.x9 (by simp), boxed_fx hf h.x11 (by simp), h.k, h.n⟩
theorem SnI.noC {cs : List Nat} (h : SnI X W wr A6 A7 A8 A9 A11 B g D n u6 lv hi l) (hf : Fx cs wr w') (hc : NoC cs wr) (hW : ∀ x ∈ cs, W.heap.size ≤ x) : SnI X W w' A6 A7 A8 A9 A11 B g D n u6 lv hi l :=
  ⟨h.p.noC hf hc, h.b.trans (hf.below h.b.size hW), h.kk, boxed_fx hf h.x6 (hc _ _ _ h.x6), boxed_fx hf h.x7 (hc _ _ _ h.x7), boxed_fx hf h.x8 (hc _ _ _ h.x8), boxed_fx hf h.x9 (hc _ _ _ h.x9), boxed_fx hf h.x11 (hc _ _ _ h.x11), h.k, h.n⟩
/-- a block that is none of theirs was written -/
theorem SnI.out {c : Nat} (h : SnI X W wr A6 A7 A8 A9 A11 B g D n u6 lv hi l) (hf : Fx [c] wr w') (hX : X c) (hW : W.heap.size ≤ c) (hn : c ∉ [B, g, D, A6, A7, A8, A9, A11]) : SnI X W w' A6 A7 A8 A9 A11 B g D n u6 lv hi l := by
  obtain ⟨v, hd, hk⟩ := h.p.d
  simp only [List.mem_cons, List.not_mem_nil, or_false, not_or] at hn
  obtain ⟨n1, n2, n3, n4, n5, n6, n7, n8⟩ := hn
  have t : ∀ {a : Nat}, ¬ c = a → a ∉ [c] := fun h e => h (by simp at e; exact e.symm)
  refine ⟨⟨h.p.q.kept hf (t n1) (t n2), ⟨v, ⟨hf.heap hd.o (t n3), hf.own hd.p (fun k e => ?_), hd.m, hd.y⟩, hk⟩, fun k e => Nat.lt_of_lt_of_le (h.p.x k e) hf.size⟩, h.b.trans (hf.below h.b.size (by simpa using hW)), h.kk, boxed_fx hf h.x6 (t n4), boxed_fx hf h.x7 (t n5), boxed_fx hf h.x8 (t n6), boxed_fx hf h.x9 (t n7), boxed_fx hf h.x11 (t n8), h.k, h.n⟩
  intro e2
  simp at e2
  exact (hk k e).2 (e2 ▸ hX)
/-- a block laid since is forbidden too -/
theorem SnI.newX {Y : Nat → Prop} (h : SnI X W wr A6 A7 A8 A9 A11 B g D n u6 lv hi l) (hb : Below wr.heap.size wr w') (hY : ∀ k, Y k → wr.heap.size ≤ k ∧ k < w'.heap.size) : SnI Y W w' A6 A7 A8 A9 A11 B g D n u6 lv hi l := by
  have h2 := h.below hb
  obtain ⟨v, hd, hk⟩ := h.p.d
  refine ⟨⟨h2.p.q, ⟨v, hd.below hb, fun k e => ⟨(hk k e).1, fun e2 => ?_⟩⟩, fun k e => (hY k e).2⟩, h2.b, h2.kk, h2.x6, h2.x7, h2.x8, h2.x9, h2.x11, h2.k, h2.n⟩
  have := (hd.p.lt k e).2
  have := (hY k e2).1
  omega
end
/-- An operation in a round, by its plain walk. -/
theorem oper_in {P : Program} {o : Oper} {a : Act} {w : World} {next : Act → World → Prop} {Q : Exit → Act → World → Prop} (l n : Nat) (hd : ∀ c, o.op ≠ .defer c) (h : o.wp P a w next Q) : o.wpIn (Fence.wide.inRound l) n P a w next Q := by
  refine ⟨fun _ _ => trivial, ?_⟩
  unfold Oper.wp at h
  rw [Oper.semAt_plain _ _ _ hd]
  revert h
  generalize (execOp a.eval o).run P w = r
  intro h
  match r, h with
  | .ok (.value v) w', h => exact h
  | .ok .skip w', h => exact h
  | .ok (.defer d) w', h => exact h
  | .ok (.enter f args) w', h => exact ⟨fun hh => (by cases hh), CallsIn.inRound l (callsIn_wide.2 h)⟩
  | .ok (.row row args) w', h => exact ⟨fun hh => (by cases hh), fun c cs _ => let ⟨v, w'', r, s⟩ := h c cs; ⟨v, w'', r, stepsIn_wide.2 s⟩⟩
  | .halt (.panic v) w', h => exact h
/-- Whatever order is picked in a round, by the plain walk. -/
theorem anyIn_of_any {P : Program} {md : Region.Mode} {ops : Array Oper} {Q : Exit → Act → World → Prop} (l n : Nat) (hd : ∀ (j : Nat) (o : Oper) (c : Call), ops[j]? = some o → o.op ≠ .defer c) (hL : ¬ LetsOut Q) :
    ∀ (fuel : Nat) (listed : Array Bool) (a : Act) (w : World), wpAny P md ops Q fuel listed a w → wpAnyIn (Fence.wide.inRound l) n P md ops Q fuel listed a w
  | 0, _, _, _, h => h
  | fuel + 1, listed, a, w, h => ⟨h.1, fun i hi => by
      have h1 := wpOp_mono (fun a' w' h' => anyIn_of_any l n hd hL fuel _ a' w' h') (h.2 i hi)
      unfold wpOpIn
      unfold wpOp at h1
      split
      · rename_i hn; simpa [hn] using h1
      · rename_i o ho
        simp only [ho] at h1
        split
        · rename_i hw
          simp only [hw, if_true] at h1
          exact oper_in l n (fun c => hd i o c ho) (h1.resolve_right (fun h2 => hL h2.2))
        · rename_i hw
          simp only [hw] at h1
          exact ⟨fun _ _ => trivial, h1⟩⟩
/-- A region that draws, in a round: S is shown of the world behind the draw and held. -/
theorem region_round {P : Program} {ops : Array Oper} {Q : Exit → Act → World → Prop} {S : World → Prop} {id l n : Nat} {a : Act} {w : World} (hm : P.follows .mixedOrders = true) (hd : (ops.all fun o => match o.op with | .defer _ => false | _ => true) = true) (hL : ¬ LetsOut Q) (hS : S w.drew)
    (h : S w.drew → wpAnyH P .any ops Q S ops.size (Array.replicate ops.size false) a w.drew) : (Code.region id ops true).wpIn (Fence.wide.inRound l) n P Q a w := by
  refine wpIn_region_any hm (anyIn_of_any l n (fun j o c hj hc => ?_) hL _ _ _ _ (wpAny_of_held _ _ _ _ (h hS)))
  rw [Array.all_eq_true_iff_forall_mem] at hd
  have := hd o (Array.mem_of_getElem? hj)
  rw [hc] at this
  cases this
/-- Only the way on. -/
def onlyN (K : Act → World → Prop) : Exit → Act → World → Prop
  | .normal, a, w => K a w
  | _, _, _ => False
theorem not_lets_onlyN (K : Act → World → Prop) : ¬ LetsOut (onlyN K) := fun ⟨_, _, h⟩ => h
theorem onlyN_panic {K : Act → World → Prop} {v : Value} {d : Option Tmp} : ∀ (c : List PanicEntry) (a : Act) (w : World), onlyN K (.panic c) (a.put d v) w → onlyN K (.panic c) a w := fun _ _ _ h => False.elim h
theorem only_normal {F : Fence} {n : Nat} {P : Program} {c : Code} {Q : Exit → Act → World → Prop} {a : Act} {w : World} (h : ∀ K : Act → World → Prop, Shut (∀ a w, Q .normal a w → K a w) → c.wpIn F n P (onlyN K) a w) : c.wpIn F n P Q a w :=
  wpIn_mono (h (Q .normal) (fun _ _ h => h)) (fun e a' w' hh => by cases e <;> first | exact hh | exact hh.elim)
/-- The take, its slot named. -/
theorem takeD {P : Program} {ops : Array Oper} {md : Region.Mode} {S : World → Prop} {K : Act → World → Prop} (i d : Nat) {oi : Oper} (v : Value) {fuel : Nat} {listed : Array Bool} {a : Act} {w : World} (hS : S w) (hi : ops[i]? = some oi) (hdst : oi.dst = some d)
    (hs : Region.noSelect ops = true) (hf : Region.free md ops listed i = true) (hr : (Region.ready md ops listed).contains i = true) (hy : YieldsIf P ops S oi v a)
    (h : wpAnyH P md ops (onlyN K) S fuel (listed.setIfInBounds i true) (a.put (some d) v) w) : wpAnyH P md ops (onlyN K) S (fuel + 1) listed a w :=
  wpAnyH_take hi hs hf hr onlyN_panic hy hS (by rw [hdst]; exact h)
/-- One round's region, met again. -/
theorem cut_in {F : Fence} {n : Nat} {P : Program} {c : Code} {Q : Exit → Act → World → Prop} {a : Act} {w : World} (A : Act) (S : World → Prop) (h : c.wpIn F n P (fun e a' w' => e = .normal ∧ a' = A ∧ S w') a w) (hk : ∀ w', S w' → Q .normal A w') : c.wpIn F n P Q a w :=
  wpIn_mono h (fun e a' w' ⟨h1, h2, h3⟩ => by subst h1 h2; exact hk w' h3)
/-- Between two rounds of the first ranging. -/
structure R1 (W Z : World) (A6 A7 A8 A9 A11 B g D n : Nat) (u6 : Value) (lv : Int) (A15 A16 AS : Nat) (vL : Value) (l : List Int) (k : Nat) : Prop where
  s : ∃ hi2 l2, SnI (fun b => b = A16) W Z A6 A7 A8 A9 A11 B g D n u6 lv hi2 l2
  w : Boxed Z A15 22 vL
  r : Z.ownsRow 0 3 1 vL l.length (intsV l)
  c : Boxed Z A16 3 (I k)
  q : Boxed Z AS 24 (iP B)
  kw : W.heap.size ≤ A15 ∧ W.heap.size ≤ A16 ∧ W.heap.size ≤ AS
  n1 : A15 ∉ [B, g, D] ∧ A16 ∉ [B, g, D] ∧ AS ∉ [B, g, D]
  n2 : A16 ∉ [B, g, D, A6, A7, A8, A9, A11] ∧ A15 ≠ A16 ∧ AS ≠ A16
  v : ∀ b, vL.ownBlock = some b → b ≠ g ∧ b ≠ A16
section
variable {W Z Z' : World} {A6 A7 A8 A9 A11 B g D n : Nat} {u6 : Value} {lv : Int} {A15 A16 AS : Nat} {vL : Value} {l : List Int} {k : Nat}
theorem R1.play {hi2 : Nat} {l2 : List Int} (h : R1 W Z A6 A7 A8 A9 A11 B g D n u6 lv A15 A16 AS vL l k) (hs : SnI (fun b => b = A16) W Z A6 A7 A8 A9 A11 B g D n u6 lv hi2 l2) (hp : PlayP (fun b => b = A16) Z B g D n Z') : R1 W Z' A6 A7 A8 A9 A11 B g D n u6 lv A15 A16 AS vL l k := by
  have hf := hp.2
  obtain ⟨v1, hd1, _⟩ := hs.p.d
  refine ⟨hs.play hp, boxed_fx hf h.w h.n1.1, hf.own h.r (fun b e => ?_), boxed_fx hf h.c h.n1.2.1, boxed_fx hf h.q h.n1.2.2, h.kw, h.n1, h.n2, h.v⟩
  have a1 : b ≠ B := fun e2 => Pr.vB hs.p.q h.r (e2 ▸ e)
  have a2 : b ≠ g := (h.v b e).1
  have a3 : b ≠ D := fun e2 => hd1.notO' h.r (e2 ▸ e)
  simp; exact ⟨a1, a2, a3⟩
theorem R1.below (h : R1 W Z A6 A7 A8 A9 A11 B g D n u6 lv A15 A16 AS vL l k) (hb : Below Z.heap.size Z Z') : R1 W Z' A6 A7 A8 A9 A11 B g D n u6 lv A15 A16 AS vL l k := by
  obtain ⟨hi2, l2, hs⟩ := h.s
  have hf : Fx [] Z Z' := Fx.of_below hb
  exact ⟨⟨hi2, l2, hs.below hb⟩, boxed_fx hf h.w (by simp), own_below h.r hb, boxed_fx hf h.c (by simp), boxed_fx hf h.q (by simp), h.kw, h.n1, h.n2, h.v⟩
theorem R1.noC {cs : List Nat} (h : R1 W Z A6 A7 A8 A9 A11 B g D n u6 lv A15 A16 AS vL l k) (hf : Fx cs Z Z') (hc : NoC cs Z) (hW : ∀ x ∈ cs, W.heap.size ≤ x) : R1 W Z' A6 A7 A8 A9 A11 B g D n u6 lv A15 A16 AS vL l k := by
  obtain ⟨hi2, l2, hs⟩ := h.s
  exact ⟨⟨hi2, l2, hs.noC hf hc hW⟩, boxed_fx hf h.w (hc _ _ _ h.w), own_noC hf hc h.r, boxed_fx hf h.c (hc _ _ _ h.c), boxed_fx hf h.q (hc _ _ _ h.q), h.kw, h.n1, h.n2, h.v⟩
theorem R1.bump (h : R1 W Z A6 A7 A8 A9 A11 B g D n u6 lv A15 A16 AS vL l k) (m : Nat) : R1 W (Z.setCell ⟨A16, 0, none⟩ (I m)) A6 A7 A8 A9 A11 B g D n u6 lv A15 A16 AS vL l m := by
  obtain ⟨hi2, l2, hs⟩ := h.s
  have hf : Fx [A16] Z (Z.setCell ⟨A16, 0, none⟩ (I m)) := (Fx.refl _ _).set (b := A16) (.inl (by simp)) _ _
  refine ⟨⟨hi2, l2, hs.out hf rfl h.kw.2.1 h.n2.1⟩, boxed_fx hf h.w (by simpa using h.n2.2.1), hf.own h.r (fun b e => by simpa using (h.v b e).2), h.c.set _, boxed_fx hf h.q (by simpa using h.n2.2.2), h.kw, h.n1, h.n2, h.v⟩
theorem R1.round {Z5 : World} (h : R1 W Z A6 A7 A8 A9 A11 B g D n u6 lv A15 A16 AS vL l k) (h5 : R1 W Z5 A6 A7 A8 A9 A11 B g D n u6 lv A15 A16 AS vL l k) (hf : Fx [B, g, D] Z Z5) (m : Nat) : KeepsOthers Z (Z5.setCell ⟨A16, 0, none⟩ (I m)) ∧ Kq (fun _ b => b ∈ [B, g, D, A16]) Z (Z5.setCell ⟨A16, 0, none⟩ (I m)) ∧ R1 W (Z5.setCell ⟨A16, 0, none⟩ (I m)) A6 A7 A8 A9 A11 B g D n u6 lv A15 A16 AS vL l m := by
  have hf2 : Fx [B, g, D, A16] Z (Z5.setCell ⟨A16, 0, none⟩ (I m)) := (hf.mono (by simp)).set (b := A16) (.inl (by simp)) _ _
  obtain ⟨hi2, l2, hs⟩ := h.s
  obtain ⟨c1, t1⟩ := hs.p.q.ty
  obtain ⟨c2, t2⟩ := hs.p.q.tyg
  obtain ⟨v, hd, _⟩ := hs.p.d
  refine ⟨⟨hf2.size, fun j o hj ho => (hf2.block j (heap_lt hj) (fun e => ?_)).trans hj⟩, ⟨hf2.size, fun b cs ty hm hb => ⟨hf2.heap hb hm, hm⟩⟩, h5.bump m⟩
  simp only [List.mem_cons, List.not_mem_nil, or_false] at e
  rcases e with rfl | rfl | rfl | rfl
  · rw [t1] at hj; cases hj; cases ho
  · rw [t2] at hj; cases hj; cases ho
  · rw [hd.o] at hj; cases hj; cases ho
  · have := h.c; unfold Boxed at this; rw [this] at hj; cases hj; cases ho
end
/-- Between two rounds of the second ranging. -/
structure R2 (W Z : World) (A6 A7 A8 A9 A11 B g D n : Nat) (u6 : Value) (lv : Int) (A18 D1 hi : Nat) (l : List Int) (k : Nat) : Prop where
  s : SnI (fun b => b = A18) W Z A6 A7 A8 A9 A11 B g D n u6 lv hi l
  c : Boxed Z A18 3 (I k)
  d : Z.heap[D1]? = some (.deferred (some []))
  kw : W.heap.size ≤ A18
  n1 : A18 ∉ [B, g, D, A6, A7, A8, A9, A11]
section
variable {W Z Z' : World} {A6 A7 A8 A9 A11 B g D n : Nat} {u6 : Value} {lv : Int} {A18 D1 hi : Nat} {l : List Int} {k : Nat}
theorem R2.noC {cs : List Nat} (h : R2 W Z A6 A7 A8 A9 A11 B g D n u6 lv A18 D1 hi l k) (hf : Fx cs Z Z') (hc : NoC cs Z) (hW : ∀ x ∈ cs, W.heap.size ≤ x) (hD : D1 ∉ cs) : R2 W Z' A6 A7 A8 A9 A11 B g D n u6 lv A18 D1 hi l k :=
  ⟨h.s.noC hf hc hW, boxed_fx hf h.c (hc _ _ _ h.c), (hf.block _ (heap_lt h.d) hD).trans h.d, h.kw, h.n1⟩
theorem R2.below (h : R2 W Z A6 A7 A8 A9 A11 B g D n u6 lv A18 D1 hi l k) (hb : Below Z.heap.size Z Z') : R2 W Z' A6 A7 A8 A9 A11 B g D n u6 lv A18 D1 hi l k :=
  h.noC (cs := []) (Fx.of_below hb) (fun _ _ _ _ => by simp) (by simp) (by simp)
theorem R2.round (h : R2 W Z A6 A7 A8 A9 A11 B g D n u6 lv A18 D1 hi l k) (m : Nat) : KeepsOthers Z (Z.drew.setCell ⟨A18, 0, none⟩ (I m)) ∧ Kq (fun _ b => b ∈ [A18]) Z (Z.drew.setCell ⟨A18, 0, none⟩ (I m)) ∧ R2 W (Z.drew.setCell ⟨A18, 0, none⟩ (I m)) A6 A7 A8 A9 A11 B g D n u6 lv A18 D1 hi l m := by
  have h5 := h.below (Below.refl _ _).drew
  have hf5 : Fx [A18] Z.drew (Z.drew.setCell ⟨A18, 0, none⟩ (I m)) := (Fx.refl _ _).set (b := A18) (.inl (by simp)) _ _
  have hf : Fx [A18] Z (Z.drew.setCell ⟨A18, 0, none⟩ (I m)) := (Fx.of_below (Below.refl _ _).drew).trans hf5
  have hDn : D1 ∉ [A18] := fun e => by
    have hc := h.c
    have hd := h.d
    simp only [List.mem_cons, List.not_mem_nil, or_false] at e
    unfold Boxed at hc
    rw [e, hc] at hd
    cases hd
  refine ⟨(KeepsOthers.drew Z).trans (KeepsOthers.setCell _ _ _), ⟨hf.size, fun b cs ty hm hb => ⟨hf.heap hb hm, hm⟩⟩, h5.s.out hf5 rfl h.kw h.n1, h5.c.set _, (hf.block _ (heap_lt h.d) hDn).trans h.d, h.kw, h.n1⟩
/-- from the first ranging to the second -/
theorem R1.second {A15 A16 AS : Nat} {vL : Value} (h : R1 W Z A6 A7 A8 A9 A11 B g D n u6 lv A15 A16 AS vL l k) (hd : Z.heap[D1]? = some (.deferred (some []))) : ∃ hi2 l2, R2 W (Z.alloc (.cells #[.int .i64 0] 3)) A6 A7 A8 A9 A11 B g D n u6 lv Z.heap.size D1 hi2 l2 0 ∧ Boxed (Z.alloc (.cells #[.int .i64 0] 3)) AS 24 (iP B) := by
  obtain ⟨hi2, l2, hs⟩ := h.s
  have b8 : Below Z.heap.size Z (Z.alloc (.cells #[.int .i64 0] 3)) := below_alloc _ _
  have hf : Fx [] Z (Z.alloc (.cells #[.int .i64 0] 3)) := Fx.of_below b8
  obtain ⟨v, hdg, _⟩ := hs.p.d
  have q := hs.p.q.lts
  have lD := heap_lt hdg.o
  have l6 := hs.x6.lt
  have l7 := hs.x7.lt
  have l8 := hs.x8.lt
  have l9 := hs.x9.lt
  have l11 := hs.x11.lt
  refine ⟨hi2, l2, ⟨hs.newX b8 (fun k e => by subst e; simp), Boxed.new Z 3 (.int .i64 0), (hf.block _ (heap_lt hd) (by simp)).trans hd, hs.b.size, by simp; omega⟩, boxed_fx hf h.q (by simp)⟩
end
theorem leave2 {fn : Func} {tmps : Array Value} {p A D1 D2 : Nat} {W w : World} (hr : fn.results = #[.cell p 4]) (hp : tmps.getD p undef = .pointer (some ⟨A, 0, none⟩)) (hA : Boxed w A 4 (.bool true)) (h2 : w.heap[D2]? = some (.deferred (some []))) (h1 : w.heap[D1]? = some (.deferred (some []))) (hne : D1 ≠ D2) (hb : Below W.heap.size W w) (k1 : W.heap.size ≤ D1) (k2 : W.heap.size ≤ D2) :
    LeavesInM Fence.wide 3 Try.prog fn tmps (fun e w' => e = .returned (.bool true) ∧ Below W.heap.size W w') [{ target := .collected D2, args := #[] }, { target := .collected D1, args := #[] }] .returning w := by
  have g2 := grownBy_putObj' w D2 (.deferred none)
  have h1' : (w.putObj D2 (.deferred none)).heap[D1]? = some (.deferred (some [])) := (g2.block D1 (heap_lt h1) (fun e => hne (by simpa using e))).trans h1
  have g1 := grownBy_putObj' (w.putObj D2 (.deferred none)) D1 (.deferred none)
  have f2 := Fx.turn g2
  have f1 := Fx.turn g1
  have hA2 : Boxed (w.putObj D2 (.deferred none)) A 4 (.bool true) := boxed_fx f2 hA (noC_turn (row := some D2) (fun r e => by cases e; exact ⟨_, h2, rfl⟩) _ _ _ hA)
  have hA1 : Boxed ((w.putObj D2 (.deferred none)).putObj D1 (.deferred none)) A 4 (.bool true) := boxed_fx f1 hA2 (noC_turn (row := some D1) (fun r e => by cases e; exact ⟨_, h1', rfl⟩) _ _ _ hA2)
  have hc := hA1.cell
  refine ⟨by simp, .inl ⟨D2, _, rfl, run_takeDeferred h2, ⟨by simp, .inl ⟨D1, _, rfl, run_takeDeferred h1', ?_⟩⟩⟩⟩
  have hp' : tmps[p]?.getD undef = .pointer (some ⟨A, 0, none⟩) := by simpa using hp
  refine ⟨.bool true, ?_, rfl, (hb.trans (belowK_b (w := W) (Nat.le_refl _) w D2 _ _ k2 h2 rfl rfl)).trans (belowK_b (w := W) (Nat.le_refl _) _ D1 _ _ k1 h1' rfl rfl)⟩
  simp only [results, hr]
  go_simp
end Go.Proofs.Ytlbkbnhnklaebaa
