import Derived.Test.YtckmdkdhnhkdhaaZlq
import Derived.Test.YtckmdkdhnhkdhaaZit
import Derived.Deep.RegionWith
namespace Go.Proofs.Ytckmdkdhnhkdhaa
open Go.RowKit Go.Shelf
set_option linter.unusedVariables false
set_option linter.unusedSimpArgs false

/-! ### StackSeen -/
theorem Fx.turn {w w' : World} {row : Option Nat} (hg : w.grownBy w' row) : Fx row.toList w w' :=
  ⟨hg.os, hg.tape, hg.output, hg.size, fun b hb hn => hg.block b hb (fun e => hn (by rw [← e]; simp))⟩
/-- no cells among cs -/
def NoC (cs : List Nat) (w : World) : Prop := ∀ (b : Nat) (c : Array Value) (ty : TypeId), w.heap[b]? = some (.cells c ty) → b ∉ cs
theorem noC_turn {w : World} {row : Option Nat} (hr : ∀ r, row = some r → ∃ o : Obj, w.heap[r]? = some o ∧ o.isCells = false) : NoC row.toList w := fun b c ty hb e => by
  obtain ⟨o, h1, h2⟩ := hr b (by simpa using e)
  rw [hb] at h1
  cases h1
  cases h2
theorem boxed_fx {w w' : World} {cs : List Nat} {A : Nat} {t : TypeId} {v : Value} (hf : Fx cs w w') (h : Boxed w A t v) (hn : A ∉ cs) : Boxed w' A t v := hf.heap h hn
theorem Pr.cells {w : World} {B g D n hi : Nat} {v : Value} {l : List Int} (h : Pr w B g D n hi v l) : ∀ b, Pb B g D v b → ∃ c ty, w.heap[b]? = some (.cells c ty) := fun b hb => by
  rcases hb with (rfl | rfl) | rfl | e
  · obtain ⟨c, k⟩ := h.q.ty; exact ⟨c, _, k⟩
  · obtain ⟨c, k⟩ := h.q.tyg; exact ⟨c, _, k⟩
  · exact ⟨_, _, h.d.o⟩
  · rcases h.d.p.2 with ⟨h1, _⟩ | ⟨g', cap, cur, h1, _, hh, _⟩
    · rw [h1] at e; cases e
    · rw [h1] at e
      obtain rfl : g' = b := by simpa [Value.ownBlock] using e
      exact ⟨_, _, hh⟩
/-- The stack, the document's, and the law's own variables. -/
structure SnI (W wr : World) (A6 A7 A8 A9 A11 B g D n : Nat) (u6 : Value) (lv : Int) (hi : Nat) (v : Value) (l : List Int) : Prop where
  p : Pr wr B g D n hi v l
  b : Below W.heap.size W wr
  kk : ∀ x, Pb B g D v x → W.heap.size ≤ x
  x6 : Boxed wr A6 37 u6
  x7 : Boxed wr A7 3 (I lv)
  x8 : Boxed wr A8 4 (.bool false)
  x9 : Boxed wr A9 23 (iP B)
  x11 : Boxed wr A11 43 (dP D)
  k : W.heap.size ≤ A6 ∧ W.heap.size ≤ A7 ∧ W.heap.size ≤ A8 ∧ W.heap.size ≤ A9 ∧ W.heap.size ≤ A11
  n : ∀ x, x ∈ [A6, A7, A8, A9, A11] → ¬ Pb B g D v x
section
variable {W wr w' : World} {A6 A7 A8 A9 A11 B g D n : Nat} {u6 : Value} {lv : Int} {hi : Nat} {v : Value} {l : List Int}
theorem boxed_fz {w w' : World} {M : Nat → Prop} {A : Nat} {t : TypeId} {v : Value} (hf : Fz M w w') (h : Boxed w A t v) (hn : ¬ M A) : Boxed w' A t v := hf.heap h hn
theorem SnI.keptZ {M : Nat → Prop} (h : SnI W wr A6 A7 A8 A9 A11 B g D n u6 lv hi v l) (hf : Fz M wr w') (hM : ∀ x, Pb B g D v x ∨ x ∈ [A6, A7, A8, A9, A11] → ¬ M x) (hW : ∀ x, M x → W.heap.size ≤ x) : SnI W w' A6 A7 A8 A9 A11 B g D n u6 lv hi v l :=
  ⟨h.p.keptZ hf (fun b hb => hM b (.inl hb)), h.b.trans (hf.below h.b.size hW), h.kk, boxed_fz hf h.x6 (hM _ (.inr (by simp))), boxed_fz hf h.x7 (hM _ (.inr (by simp))), boxed_fz hf h.x8 (hM _ (.inr (by simp))), boxed_fz hf h.x9 (hM _ (.inr (by simp))), boxed_fz hf h.x11 (hM _ (.inr (by simp))), h.k, h.n⟩
theorem SnI.below (h : SnI W wr A6 A7 A8 A9 A11 B g D n u6 lv hi v l) (hb : Below wr.heap.size wr w') : SnI W w' A6 A7 A8 A9 A11 B g D n u6 lv hi v l := h.keptZ (M := fun _ => False) (Fz.of_below hb) (fun _ _ e => e) (fun _ e => e.elim)
theorem SnI.cells (h : SnI W wr A6 A7 A8 A9 A11 B g D n u6 lv hi v l) : ∀ x, Pb B g D v x ∨ x ∈ [A6, A7, A8, A9, A11] → ∃ c ty, wr.heap[x]? = some (.cells c ty) := fun x hx => by
  rcases hx with hx | hx
  · exact h.p.cells x hx
  · simp only [List.mem_cons, List.not_mem_nil, or_false] at hx
    rcases hx with rfl | rfl | rfl | rfl | rfl
    · exact ⟨_, _, h.x6⟩
    · exact ⟨_, _, h.x7⟩
    · exact ⟨_, _, h.x8⟩
    · exact ⟨_, _, h.x9⟩
    · exact ⟨_, _, h.x11⟩
theorem SnI.noC {cs : List Nat} (h : SnI W wr A6 A7 A8 A9 A11 B g D n u6 lv hi v l) (hf : Fx cs wr w') (hc : NoC cs wr) (hW : ∀ x ∈ cs, W.heap.size ≤ x) : SnI W w' A6 A7 A8 A9 A11 B g D n u6 lv hi v l :=
  h.keptZ (M := fun x => x ∈ cs) (Fz.of_fx hf (fun x hx => hx)) (fun x hx e => by obtain ⟨c, ty, k⟩ := h.cells x hx; exact hc _ _ _ k e) hW
/-- a block that is none of theirs was written -/
theorem SnI.out {c : Nat} (h : SnI W wr A6 A7 A8 A9 A11 B g D n u6 lv hi v l) (hf : Fx [c] wr w') (hW : W.heap.size ≤ c) (hp : ¬ Pb B g D v c) (hn : c ∉ [A6, A7, A8, A9, A11]) : SnI W w' A6 A7 A8 A9 A11 B g D n u6 lv hi v l :=
  h.keptZ (M := fun x => x = c) (Fz.of_fx hf (fun x hx => by simpa using hx)) (fun x hx e => by subst e; rcases hx with hx | hx; exact hp hx; exact hn hx) (fun x e => by subst e; exact hW)
theorem SnI.play (h : SnI W wr A6 A7 A8 A9 A11 B g D n u6 lv hi v l) {hi' : Nat} {v' : Value} {l' : List Int} (h1 : Pr w' B g D n hi' v' l') (h2 : Vn wr v v') (h3 : Fz (Pb B g D v) wr w') : SnI W w' A6 A7 A8 A9 A11 B g D n u6 lv hi' v' l' := by
  have hs := h.b.size
  have hb : ∀ x, x ∈ [A6, A7, A8, A9, A11] → Pb B g D v x → False := fun x hx e => h.n x hx e
  refine ⟨h1, h.b.trans (h3.below h.b.size h.kk), fun x hx => ?_, boxed_fz h3 h.x6 (hb _ (by simp)), boxed_fz h3 h.x7 (hb _ (by simp)), boxed_fz h3 h.x8 (hb _ (by simp)), boxed_fz h3 h.x9 (hb _ (by simp)), boxed_fz h3 h.x11 (hb _ (by simp)), h.k, fun x hx e => ?_⟩
  · rcases Pb.vn hx h2 with e | e
    · exact h.kk x e
    · omega
  · rcases Pb.vn e h2 with e1 | e1
    · exact hb x hx e1
    · obtain ⟨c, ty, k⟩ := h.cells x (.inr hx)
      have := heap_lt k
      omega
end
/-- What the rounds of the first ranging may change. -/
def Mv (B g D A : Nat) (W : World) (b : Nat) : Prop := b ∈ [B, g, D, A] ∨ ∃ v, W.cell? ⟨D, 2, none⟩ = some v ∧ v.ownBlock = some b
theorem Mv.of {B g D A n hi : Nat} {W : World} {v : Value} {l : List Int} (hd : Ds W D n hi v l) {b : Nat} : Mv B g D A W b ↔ Pb B g D v b ∨ b = A := by
  have hc := hd.cells.2.2.1
  constructor
  · rintro (e | ⟨u, hu, e⟩)
    · simp only [List.mem_cons, List.not_mem_nil, or_false] at e
      rcases e with e | e | e | e
      · exact .inl (.inl (.inl e))
      · exact .inl (.inl (.inr e))
      · exact .inl (.inr (.inl e))
      · exact .inr e
    · rw [hc] at hu
      cases hu
      exact .inl (.inr (.inr e))
  · rintro (((e | e) | e | e) | e)
    · exact .inl (by simp [e])
    · exact .inl (by simp [e])
    · exact .inl (by simp [e])
    · exact .inr ⟨v, hc, e⟩
    · exact .inl (by simp [e])
theorem kq_play {W W' : World} {B g D A n hi hi' : Nat} {v v' : Value} {l l' : List Int} (h : Pr W B g D n hi v l) (h1 : Pr W' B g D n hi' v' l') (h2 : Vn W v v') (h3 : Fz (fun b => Pb B g D v b ∨ b = A) W W') : Kq (Mv B g D A) W W' := by
  refine ⟨h3.size, fun b cs ty hm hb => ⟨h3.heap hb (fun e => hm ((Mv.of h.d).2 e)), fun e => ?_⟩⟩
  rcases (Mv.of h1.d).1 e with e1 | e1
  · rcases Pb.vn e1 h2 with e2 | e2
    · exact hm ((Mv.of h.d).2 (.inl e2))
    · have := heap_lt hb; omega
  · exact hm ((Mv.of h.d).2 (.inr e1))
theorem keeps_play {W W' : World} {B g D A n hi : Nat} {v : Value} {l : List Int} {t : TypeId} {u : Value} (h : Pr W B g D n hi v l) (hA : Boxed W A t u) (h3 : Fz (fun b => Pb B g D v b ∨ b = A) W W') : KeepsOthers W W' := by
  refine ⟨h3.size, fun j o hj ho => (h3.block j (heap_lt hj) (fun e => ?_)).trans hj⟩
  rcases e with e | rfl
  · obtain ⟨c, ty, k⟩ := h.cells j e
    rw [k] at hj; cases hj; cases ho
  · unfold Boxed at hA; rw [hA] at hj; cases hj; cases ho
/-- An operation in a round, by its plain walk. -/
theorem oper_in {P : Program} {o : Oper} {a : Act} {w : World} {next : Act → World → Prop} {Q : Exit → Act → World → Prop} (l n : Nat) (hd : ∀ c, o.op ≠ .defer c) (h : o.wp P a w next Q) : o.wpIn (Fence.wide.inRound l) n P a w next Q := by
  refine ⟨fun _ _ => trivial, ?_⟩
  unfold Oper.wp at h
  rw [Oper.semAt_plain _ _ _ hd]
  revert h
  generalize (execOp a.eval o).run P w = r
  intro h
  match r, h with
  | .ok (.value v) w', h => exact h
  | .ok .skip w', h => exact h
  | .ok (.defer d) w', h => exact h
  | .ok (.enter f args) w', h => exact ⟨fun hh => (by cases hh), CallsIn.inRound l (callsIn_wide.2 h)⟩
  | .ok (.row row args) w', h => exact ⟨fun hh => (by cases hh), fun c cs _ => let ⟨v, w'', r, s⟩ := h c cs; ⟨v, w'', r, stepsIn_wide.2 s⟩⟩
  | .halt (.panic v) w', h => exact h
/-- Whatever order is picked in a round, by the plain walk. -/
theorem anyIn_of_any {P : Program} {md : Region.Mode} {ops : Array Oper} {Q : Exit → Act → World → Prop} (l n : Nat) (hd : ∀ (j : Nat) (o : Oper) (c : Call), ops[j]? = some o → o.op ≠ .defer c) (hL : ¬ LetsOut Q) :
    ∀ (fuel : Nat) (listed : Array Bool) (a : Act) (w : World), wpAny P md ops Q fuel listed a w → wpAnyIn (Fence.wide.inRound l) n P md ops Q fuel listed a w
  | 0, _, _, _, h => h
  | fuel + 1, listed, a, w, h => ⟨h.1, fun i hi => by
      have h1 := wpOp_mono (fun a' w' h' => anyIn_of_any l n hd hL fuel _ a' w' h') (h.2 i hi)
      unfold wpOpIn
      unfold wpOp at h1
      split
      · rename_i hn; simpa [hn] using h1
      · rename_i o ho
        simp only [ho] at h1
        split
        · rename_i hw
          simp only [hw, if_true] at h1
          exact oper_in l n (fun c => hd i o c ho) (h1.resolve_right (fun h2 => hL h2.2))
        · rename_i hw
          simp only [hw] at h1
          exact ⟨fun _ _ => trivial, h1⟩⟩
/-- A region that draws, in a round: S is shown of the world behind the draw and held. -/
theorem region_round {P : Program} {ops : Array Oper} {Q : Exit → Act → World → Prop} {S : World → Prop} {id l n : Nat} {a : Act} {w : World} (hm : P.follows .mixedOrders = true) (hd : (ops.all fun o => match o.op with | .defer _ => false | _ => true) = true) (hL : ¬ LetsOut Q) (hS : S w.drew)
    (h : S w.drew → wpAnyH P .any ops Q S ops.size (Array.replicate ops.size false) a w.drew) : (Code.region id ops true).wpIn (Fence.wide.inRound l) n P Q a w := by
  refine wpIn_region_any hm (anyIn_of_any l n (fun j o c hj hc => ?_) hL _ _ _ _ (wpAny_of_held _ _ _ _ (h hS)))
  rw [Array.all_eq_true_iff_forall_mem] at hd
  have := hd o (Array.mem_of_getElem? hj)
  rw [hc] at this
  cases this
/-- Only the way on. -/
def onlyN (K : Act → World → Prop) : Exit → Act → World → Prop
  | .normal, a, w => K a w
  | _, _, _ => False
theorem not_lets_onlyN (K : Act → World → Prop) : ¬ LetsOut (onlyN K) := fun ⟨_, _, h⟩ => h
theorem onlyN_panic {K : Act → World → Prop} {v : Value} {d : Option Tmp} : ∀ (c : List PanicEntry) (a : Act) (w : World), onlyN K (.panic c) (a.put d v) w → onlyN K (.panic c) a w := fun _ _ _ h => False.elim h
theorem only_normal {F : Fence} {n : Nat} {P : Program} {c : Code} {Q : Exit → Act → World → Prop} {a : Act} {w : World} (h : ∀ K : Act → World → Prop, Shut (∀ a w, Q .normal a w → K a w) → c.wpIn F n P (onlyN K) a w) : c.wpIn F n P Q a w :=
  wpIn_mono (h (Q .normal) (fun _ _ h => h)) (fun e a' w' hh => by cases e <;> first | exact hh | exact hh.elim)
/-- The take, its slot named. -/
theorem takeD {P : Program} {ops : Array Oper} {md : Region.Mode} {S : World → Prop} {K : Act → World → Prop} (i d : Nat) {oi : Oper} (v : Value) {fuel : Nat} {listed : Array Bool} {a : Act} {w : World} (hS : S w) (hi : ops[i]? = some oi) (hdst : oi.dst = some d)
    (hs : Region.noSelect ops = true) (hf : Region.free md ops listed i = true) (hr : (Region.ready md ops listed).contains i = true) (hy : YieldsIf P ops S oi v a)
    (h : wpAnyH P md ops (onlyN K) S fuel (listed.setIfInBounds i true) (a.put (some d) v) w) : wpAnyH P md ops (onlyN K) S (fuel + 1) listed a w :=
  wpAnyH_take hi hs hf hr onlyN_panic hy hS (by rw [hdst]; exact h)
/-- One round's region, met again. -/
theorem cut_in {F : Fence} {n : Nat} {P : Program} {c : Code} {Q : Exit → Act → World → Prop} {a : Act} {w : World} (A : Act) (S : World → Prop) (h : c.wpIn F n P (fun e a' w' => e = .normal ∧ a' = A ∧ S w') a w) (hk : ∀ w', S w' → Q .normal A w') : c.wpIn F n P Q a w :=
  wpIn_mono h (fun e a' w' ⟨h1, h2, h3⟩ => by subst h1 h2; exact hk w' h3)
/-- Between two rounds of the first ranging. -/
structure R1 (W Z : World) (A6 A7 A8 A9 A11 B g D n : Nat) (u6 : Value) (lv : Int) (A15 A16 AS : Nat) (vL : Value) (l : List Int) (k hi2 : Nat) (v2 : Value) (l2 : List Int) : Prop where
  s : SnI W Z A6 A7 A8 A9 A11 B g D n u6 lv hi2 v2 l2
  w : Boxed Z A15 22 vL
  r : Z.ownsRow 0 3 1 vL l.length (iV l)
  c : Boxed Z A16 3 (I k)
  q : Boxed Z AS 23 (iP B)
  kw : W.heap.size ≤ A15 ∧ W.heap.size ≤ A16 ∧ W.heap.size ≤ AS
  n1 : ∀ x, (x ∈ [A15, A16, AS] ∨ vL.ownBlock = some x) → ¬ Pb B g D v2 x
  n2 : A16 ∉ [A6, A7, A8, A9, A11] ∧ A15 ≠ A16 ∧ AS ≠ A16 ∧ vL.ownBlock ≠ some A16
section
variable {W Z Z' : World} {A6 A7 A8 A9 A11 B g D n : Nat} {u6 : Value} {lv : Int} {A15 A16 AS : Nat} {vL : Value} {l : List Int} {k hi2 : Nat} {v2 : Value} {l2 : List Int}
theorem R1.lts (h : R1 W Z A6 A7 A8 A9 A11 B g D n u6 lv A15 A16 AS vL l k hi2 v2 l2) : ∀ x, (x ∈ [A15, A16, AS] ∨ vL.ownBlock = some x) → x < Z.heap.size := fun x hx => by
  rcases hx with hx | hx
  · simp only [List.mem_cons, List.not_mem_nil, or_false] at hx
    rcases hx with rfl | rfl | rfl
    · exact h.w.lt
    · exact h.c.lt
    · exact h.q.lt
  · exact (h.r.lt x hx).2
theorem R1.play (h : R1 W Z A6 A7 A8 A9 A11 B g D n u6 lv A15 A16 AS vL l k hi2 v2 l2) {hi' : Nat} {v' : Value} {l' : List Int} (h1 : Pr Z' B g D n hi' v' l') (h2 : Vn Z v2 v') (h3 : Fz (Pb B g D v2) Z Z') : R1 W Z' A6 A7 A8 A9 A11 B g D n u6 lv A15 A16 AS vL l k hi' v' l' := by
  have hn : ∀ x, (x ∈ [A15, A16, AS] ∨ vL.ownBlock = some x) → Pb B g D v2 x → False := fun x hx e => h.n1 x hx e
  refine ⟨h.s.play h1 h2 h3, boxed_fz h3 h.w (hn _ (.inl (by simp))), h3.own h.r (fun b e => hn b (.inr e)), boxed_fz h3 h.c (hn _ (.inl (by simp))), boxed_fz h3 h.q (hn _ (.inl (by simp))), h.kw, fun x hx e => ?_, h.n2⟩
  rcases Pb.vn e h2 with e1 | e1
  · exact hn x hx e1
  · have := h.lts x hx; omega
theorem R1.keptZ {M : Nat → Prop} (h : R1 W Z A6 A7 A8 A9 A11 B g D n u6 lv A15 A16 AS vL l k hi2 v2 l2) (hf : Fz M Z Z') (hM : ∀ x, (∃ c ty, Z.heap[x]? = some (.cells c ty)) → ¬ M x) (hW : ∀ x, M x → W.heap.size ≤ x) : R1 W Z' A6 A7 A8 A9 A11 B g D n u6 lv A15 A16 AS vL l k hi2 v2 l2 := by
  refine ⟨h.s.keptZ hf (fun x hx => hM x (h.s.cells x hx)) hW, boxed_fz hf h.w (hM _ ⟨_, _, h.w⟩), hf.own h.r (fun b e => hM b ?_), boxed_fz hf h.c (hM _ ⟨_, _, h.c⟩), boxed_fz hf h.q (hM _ ⟨_, _, h.q⟩), h.kw, h.n1, h.n2⟩
  rcases h.r.2 with ⟨h1, _⟩ | ⟨g', cap, cur, h1, _, hh, _⟩
  · rw [h1] at e; cases e
  · rw [h1] at e
    obtain rfl : g' = b := by simpa [Value.ownBlock] using e
    exact ⟨_, _, hh⟩
theorem R1.below (h : R1 W Z A6 A7 A8 A9 A11 B g D n u6 lv A15 A16 AS vL l k hi2 v2 l2) (hb : Below Z.heap.size Z Z') : R1 W Z' A6 A7 A8 A9 A11 B g D n u6 lv A15 A16 AS vL l k hi2 v2 l2 := h.keptZ (M := fun _ => False) (Fz.of_below hb) (fun _ _ e => e) (fun _ e => e.elim)
theorem R1.noC {cs : List Nat} (h : R1 W Z A6 A7 A8 A9 A11 B g D n u6 lv A15 A16 AS vL l k hi2 v2 l2) (hf : Fx cs Z Z') (hc : NoC cs Z) (hW : ∀ x ∈ cs, W.heap.size ≤ x) : R1 W Z' A6 A7 A8 A9 A11 B g D n u6 lv A15 A16 AS vL l k hi2 v2 l2 :=
  h.keptZ (M := fun x => x ∈ cs) (Fz.of_fx hf (fun x hx => hx)) (fun x ⟨c, ty, k⟩ e => hc _ _ _ k e) hW
theorem R1.bump (h : R1 W Z A6 A7 A8 A9 A11 B g D n u6 lv A15 A16 AS vL l k hi2 v2 l2) (m : Nat) : R1 W (Z.setCell ⟨A16, 0, none⟩ (I m)) A6 A7 A8 A9 A11 B g D n u6 lv A15 A16 AS vL l m hi2 v2 l2 := by
  have hf : Fx [A16] Z (Z.setCell ⟨A16, 0, none⟩ (I m)) := (Fx.refl _ _).set (b := A16) (.inl (by simp)) _ _
  obtain ⟨m1, m2, m3, m4⟩ := h.n2
  exact ⟨h.s.out hf h.kw.2.1 (h.n1 _ (.inl (by simp))) m1, boxed_fx hf h.w (by simpa using m2), hf.own h.r (fun b e => by simp; exact fun e2 => m4 (e2 ▸ e)), h.c.set _, boxed_fx hf h.q (by simpa using m3), h.kw, h.n1, h.n2⟩
/-- a round: what was played, and the counter -/
theorem R1.round {Z5 : World} {hi5 : Nat} {v5 : Value} {l5 : List Int} (h : R1 W Z A6 A7 A8 A9 A11 B g D n u6 lv A15 A16 AS vL l k hi2 v2 l2) (h5 : R1 W Z5 A6 A7 A8 A9 A11 B g D n u6 lv A15 A16 AS vL l k hi5 v5 l5) (hv : Vn Z v2 v5) (hf : Fz (Pb B g D v2) Z Z5) (m : Nat) : KeepsOthers Z (Z5.setCell ⟨A16, 0, none⟩ (I m)) ∧ Kq (Mv B g D A16) Z (Z5.setCell ⟨A16, 0, none⟩ (I m)) ∧ R1 W (Z5.setCell ⟨A16, 0, none⟩ (I m)) A6 A7 A8 A9 A11 B g D n u6 lv A15 A16 AS vL l m hi5 v5 l5 := by
  have h6 := h5.bump m
  have hf2 : Fz (fun b => Pb B g D v2 b ∨ b = A16) Z (Z5.setCell ⟨A16, 0, none⟩ (I m)) := (hf.mono (fun b e => .inl e)).set (b := A16) (.inl (.inr rfl)) _ _
  exact ⟨keeps_play h.s.p h.c hf2, kq_play h.s.p h6.s.p hv hf2, h6⟩
end
/-- Between two rounds of the second ranging. -/
structure R2 (W Z : World) (A6 A7 A8 A9 A11 B g D n : Nat) (u6 : Value) (lv : Int) (A18 A19 D1 hi : Nat) (v : Value) (l : List Int) (vF : Value) (k : Nat) : Prop where
  s : SnI W Z A6 A7 A8 A9 A11 B g D n u6 lv hi v l.reverse
  c : Boxed Z A18 3 (I k)
  f : Boxed Z A19 22 vF
  r : Z.ownsRow 0 3 1 vF l.length (iV l)
  d : Z.heap[D1]? = some (.deferred (some []))
  kw : W.heap.size ≤ A18
  n1 : A18 ∉ [A6, A7, A8, A9, A11] ∧ A19 ≠ A18 ∧ ¬ Pb B g D v A18 ∧ vF.ownBlock ≠ some A18
section
variable {W Z Z' : World} {A6 A7 A8 A9 A11 B g D n : Nat} {u6 : Value} {lv : Int} {A18 A19 D1 hi : Nat} {v : Value} {l : List Int} {vF : Value} {k : Nat}
theorem R2.noC {cs : List Nat} (h : R2 W Z A6 A7 A8 A9 A11 B g D n u6 lv A18 A19 D1 hi v l vF k) (hf : Fx cs Z Z') (hc : NoC cs Z) (hW : ∀ x ∈ cs, W.heap.size ≤ x) (hD : D1 ∉ cs) : R2 W Z' A6 A7 A8 A9 A11 B g D n u6 lv A18 A19 D1 hi v l vF k := by
  refine ⟨h.s.noC hf hc hW, boxed_fx hf h.c (hc _ _ _ h.c), boxed_fx hf h.f (hc _ _ _ h.f), hf.own h.r (fun b e => ?_), (hf.block _ (heap_lt h.d) hD).trans h.d, h.kw, h.n1⟩
  rcases h.r.2 with ⟨h1, _⟩ | ⟨g', cap, cur, h1, _, hh, _⟩
  · rw [h1] at e; cases e
  · rw [h1] at e
    obtain rfl : g' = b := by simpa [Value.ownBlock] using e
    exact hc _ _ _ hh
theorem R2.below (h : R2 W Z A6 A7 A8 A9 A11 B g D n u6 lv A18 A19 D1 hi v l vF k) (hb : Below Z.heap.size Z Z') : R2 W Z' A6 A7 A8 A9 A11 B g D n u6 lv A18 A19 D1 hi v l vF k :=
  h.noC (cs := []) (Fx.of_below hb) (fun _ _ _ _ => by simp) (by simp) (by simp)
theorem R2.round (h : R2 W Z A6 A7 A8 A9 A11 B g D n u6 lv A18 A19 D1 hi v l vF k) (m : Nat) : KeepsOthers Z (Z.setCell ⟨A18, 0, none⟩ (I m)) ∧ Kq (fun _ b => b = A18) Z (Z.setCell ⟨A18, 0, none⟩ (I m)) ∧ R2 W (Z.setCell ⟨A18, 0, none⟩ (I m)) A6 A7 A8 A9 A11 B g D n u6 lv A18 A19 D1 hi v l vF m := by
  have hf : Fx [A18] Z (Z.setCell ⟨A18, 0, none⟩ (I m)) := (Fx.refl _ _).set (b := A18) (.inl (by simp)) _ _
  obtain ⟨m1, m2, m3, m4⟩ := h.n1
  have hDn : D1 ∉ [A18] := fun e => by
    have hc := h.c
    have hd := h.d
    simp only [List.mem_cons, List.not_mem_nil, or_false] at e
    unfold Boxed at hc
    rw [e, hc] at hd
    cases hd
  exact ⟨KeepsOthers.setCell _ _ _, ⟨hf.size, fun b cs ty hm hb => ⟨hf.heap hb (by simpa using hm), hm⟩⟩, h.s.out hf h.kw m3 m1, h.c.set _, boxed_fx hf h.f (by simpa using m2), hf.own h.r (fun b e => by simp; exact fun e2 => m4 (e2 ▸ e)), (hf.block _ (heap_lt h.d) hDn).trans h.d, h.kw, h.n1⟩
end
theorem leave2 {fn : Func} {tmps : Array Value} {p A D1 D2 : Nat} {W w : World} (hr : fn.results = #[.cell p 4]) (hp : tmps.getD p undef = .pointer (some ⟨A, 0, none⟩)) (hA : Boxed w A 4 (.bool true)) (h2 : w.heap[D2]? = some (.deferred (some []))) (h1 : w.heap[D1]? = some (.deferred (some []))) (hne : D1 ≠ D2) (hb : Below W.heap.size W w) (k1 : W.heap.size ≤ D1) (k2 : W.heap.size ≤ D2) :
    LeavesInM Fence.wide 3 Try.prog fn tmps (fun e w' => e = .returned (.bool true) ∧ Below W.heap.size W w') [{ target := .collected D2, args := #[] }, { target := .collected D1, args := #[] }] .returning w := by
  have g2 := grownBy_putObj' w D2 (.deferred none)
  have h1' : (w.putObj D2 (.deferred none)).heap[D1]? = some (.deferred (some [])) := (g2.block D1 (heap_lt h1) (fun e => hne (by simpa using e))).trans h1
  have g1 := grownBy_putObj' (w.putObj D2 (.deferred none)) D1 (.deferred none)
  have f2 := Fx.turn g2
  have f1 := Fx.turn g1
  have hA2 : Boxed (w.putObj D2 (.deferred none)) A 4 (.bool true) := boxed_fx f2 hA (noC_turn (row := some D2) (fun r e => by cases e; exact ⟨_, h2, rfl⟩) _ _ _ hA)
  have hA1 : Boxed ((w.putObj D2 (.deferred none)).putObj D1 (.deferred none)) A 4 (.bool true) := boxed_fx f1 hA2 (noC_turn (row := some D1) (fun r e => by cases e; exact ⟨_, h1', rfl⟩) _ _ _ hA2)
  have hc := hA1.cell
  refine ⟨by simp, .inl ⟨D2, _, rfl, run_takeDeferred h2, ⟨by simp, .inl ⟨D1, _, rfl, run_takeDeferred h1', ?_⟩⟩⟩⟩
  have hp' : tmps[p]?.getD undef = .pointer (some ⟨A, 0, none⟩) := by simpa using hp
  refine ⟨.bool true, ?_, rfl, (hb.trans (belowK_b (w := W) (Nat.le_refl _) w D2 _ _ k2 h2 rfl rfl)).trans (belowK_b (w := W) (Nat.le_refl _) _ D1 _ _ k1 h1' rfl rfl)⟩
  simp only [results, hr]
  go_simp
end Go.Proofs.Ytckmdkdhnhkdhaa
