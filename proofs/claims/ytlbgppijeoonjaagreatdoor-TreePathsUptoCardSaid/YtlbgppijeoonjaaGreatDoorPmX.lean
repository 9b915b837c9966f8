import Derived.Test.YtlbgppijeoonjaaGreatDoorPgX
import Derived.Deep.RegionHeldLaw
import Derived.Deep.Cut
import Derived.Sort.CutIn
import Derived.Test.YtlbgppijeoonjaaGreatDoorPrw
namespace Go.Proofs.YtlbgppijeoonjaaGreatDoor
open Go.RowKit Go.Shelf
set_option linter.unusedVariables false
set_option linter.unusedSimpArgs false
attribute [local go_sem] Oper.semAt_some

/-! ### A region that draws, in a round; the return past two marks -/
theorem oper_in {P : Program} {o : Oper} {a : Act} {w : World} {next : Act → World → Prop} {Q : Exit → Act → World → Prop} (l n : Nat) (hd : ∀ c, o.op ≠ .defer c) (h : o.wp P a w next Q) : o.wpIn (Fence.wide.inRound l) n P a w next Q := by
  refine ⟨fun _ _ => trivial, ?_⟩
  unfold Oper.wp at h
  rw [Oper.semAt_plain _ _ _ hd]
  revert h
  generalize (execOp a.eval o).run P w = r
  intro h
  match r, h with
  | .ok (.value v) w', h => exact h
  | .ok .skip w', h => exact h
  | .ok (.defer d) w', h => exact h
  | .ok (.enter f args) w', h => exact ⟨fun hh => (by cases hh), CallsIn.inRound l (callsIn_wide.2 h)⟩
  | .ok (.row row args) w', h => exact ⟨fun hh => (by cases hh), fun c cs _ => let ⟨v, w'', r, s⟩ := h c cs; ⟨v, w'', r, stepsIn_wide.2 s⟩⟩
  | .halt (.panic v) w', h => exact h
/-- Whatever order is picked in a round, by the plain walk. -/
theorem anyIn_of_any {P : Program} {md : Region.Mode} {ops : Array Oper} {Q : Exit → Act → World → Prop} (l n : Nat) (hd : ∀ (j : Nat) (o : Oper) (c : Call), ops[j]? = some o → o.op ≠ .defer c) (hL : ¬ LetsOut Q) :
    ∀ (fuel : Nat) (listed : Array Bool) (a : Act) (w : World), wpAny P md ops Q fuel listed a w → wpAnyIn (Fence.wide.inRound l) n P md ops Q fuel listed a w
  | 0, _, _, _, h => h
  | fuel + 1, listed, a, w, h => ⟨h.1, fun i hi => by
      have h1 := wpOp_mono (fun a' w' h' => anyIn_of_any l n hd hL fuel _ a' w' h') (h.2 i hi)
      unfold wpOpIn
      unfold wpOp at h1
      split
      · rename_i hn; simpa [hn] using h1
      · rename_i o ho
        simp only [ho] at h1
        split
        · rename_i hw
          simp only [hw, if_true] at h1
          exact oper_in l n (fun c => hd i o c ho) (h1.resolve_right (fun h2 => hL h2.2))
        · rename_i hw
          simp only [hw] at h1
          exact ⟨fun _ _ => trivial, h1⟩⟩
/-- A region that draws, in a round: S is shown of the world behind the draw and held. -/
theorem region_round {P : Program} {ops : Array Oper} {Q : Exit → Act → World → Prop} {S : World → Prop} {id l n : Nat} {a : Act} {w : World} (hm : P.follows .mixedOrders = true) (hd : (ops.all fun o => match o.op with | .defer _ => false | _ => true) = true) (hL : ¬ LetsOut Q) (hS : S w.drew)
    (h : S w.drew → wpAnyH P .any ops Q S ops.size (Array.replicate ops.size false) a w.drew) : (Code.region id ops true).wpIn (Fence.wide.inRound l) n P Q a w := by
  refine wpIn_region_any hm (anyIn_of_any l n (fun j o c hj hc => ?_) hL _ _ _ _ (wpAny_of_held _ _ _ _ (h hS)))
  rw [Array.all_eq_true_iff_forall_mem] at hd
  have := hd o (Array.mem_of_getElem? hj)
  rw [hc] at this
  cases this
/-- Only the way on. -/
def onlyN (K : Act → World → Prop) : Exit → Act → World → Prop
  | .normal, a, w => K a w
  | _, _, _ => False
theorem not_lets_onlyN (K : Act → World → Prop) : ¬ LetsOut (onlyN K) := fun ⟨_, _, h⟩ => h
theorem onlyN_panic {K : Act → World → Prop} {v : Value} {d : Option Tmp} : ∀ (c : List PanicEntry) (a : Act) (w : World), onlyN K (.panic c) (a.put d v) w → onlyN K (.panic c) a w := fun _ _ _ h => False.elim h
theorem only_normal {F : Fence} {n : Nat} {P : Program} {c : Code} {Q : Exit → Act → World → Prop} {a : Act} {w : World} (h : ∀ K : Act → World → Prop, Shut (∀ a w, Q .normal a w → K a w) → c.wpIn F n P (onlyN K) a w) : c.wpIn F n P Q a w :=
  wpIn_mono (h (Q .normal) (fun _ _ h => h)) (fun e a' w' hh => by cases e <;> first | exact hh | exact hh.elim)
/-- The take, its slot named. -/
theorem takeD {P : Program} {ops : Array Oper} {md : Region.Mode} {S : World → Prop} {K : Act → World → Prop} (i d : Nat) {oi : Oper} (v : Value) {fuel : Nat} {listed : Array Bool} {a : Act} {w : World} (hS : S w) (hi : ops[i]? = some oi) (hdst : oi.dst = some d)
    (hs : Region.noSelect ops = true) (hf : Region.free md ops listed i = true) (hr : (Region.ready md ops listed).contains i = true) (hy : YieldsIf P ops S oi v a)
    (h : wpAnyH P md ops (onlyN K) S fuel (listed.setIfInBounds i true) (a.put (some d) v) w) : wpAnyH P md ops (onlyN K) S (fuel + 1) listed a w :=
  wpAnyH_take hi hs hf hr onlyN_panic hy hS (by rw [hdst]; exact h)
/-- One round's region, met again. -/
theorem cut_in {F : Fence} {n : Nat} {P : Program} {c : Code} {Q : Exit → Act → World → Prop} {a : Act} {w : World} (A : Act) (S : World → Prop) (h : c.wpIn F n P (fun e a' w' => e = .normal ∧ a' = A ∧ S w') a w) (hk : ∀ w', S w' → Q .normal A w') : c.wpIn F n P Q a w :=
  wpIn_mono h (fun e a' w' ⟨h1, h2, h3⟩ => by subst h1 h2; exact hk w' h3)

theorem leave2 {fn : Func} {tmps : Array Value} {p A D1 D2 : Nat} {W w : World} (hr : fn.results = #[.cell p 4]) (hp : tmps.getD p undef = .pointer (some ⟨A, 0, none⟩)) (hA : Boxed w A 4 (.bool true)) (h2 : w.heap[D2]? = some (.deferred (some []))) (h1 : w.heap[D1]? = some (.deferred (some []))) (hne : D1 ≠ D2) (hb : Below W.heap.size W w) (k1 : W.heap.size ≤ D1) (k2 : W.heap.size ≤ D2) :
    LeavesInM Fence.wide 3 Tryz.prog fn tmps (fun e w' => e = .returned (.bool true) ∧ Below W.heap.size W w') [{ target := .collected D2, args := #[] }, { target := .collected D1, args := #[] }] .returning w := by
  have g2 := grownBy_putObj' w D2 (.deferred none)
  have h1' : (w.putObj D2 (.deferred none)).heap[D1]? = some (.deferred (some [])) := (g2.block D1 (heap_lt h1) (fun e => hne (by simpa using e))).trans h1
  have g1 := grownBy_putObj' (w.putObj D2 (.deferred none)) D1 (.deferred none)
  have n2 : A ≠ D2 := fun e => by rw [← e] at h2; have := h2.symm.trans hA; cases this
  have n1 : A ≠ D1 := fun e => by rw [← e] at h1; have := h1.symm.trans hA; cases this
  have hA2 : Boxed (w.putObj D2 (.deferred none)) A 4 (.bool true) := (World.putObj_heap_other n2).trans hA
  have hA1 : Boxed ((w.putObj D2 (.deferred none)).putObj D1 (.deferred none)) A 4 (.bool true) := (World.putObj_heap_other n1).trans hA2
  have hc := hA1.cell
  refine ⟨by simp, .inl ⟨D2, _, rfl, run_takeDeferred h2, ⟨by simp, .inl ⟨D1, _, rfl, run_takeDeferred h1', ?_⟩⟩⟩⟩
  have hp' : tmps[p]?.getD undef = .pointer (some ⟨A, 0, none⟩) := by simpa using hp
  refine ⟨.bool true, ?_, rfl, (hb.trans (belowK_b (w := W) (Nat.le_refl _) w D2 _ _ k2 h2 rfl rfl)).trans (belowK_b (w := W) (Nat.le_refl _) _ D1 _ _ k1 h1' rfl rfl)⟩
  simp only [results, hr]
  go_simp
end Go.Proofs.YtlbgppijeoonjaaGreatDoor

namespace Go.Proofs.YtlbgppijeoonjaaGreatDoor
open Go.RowKit
set_option linter.unusedVariables false

/-! ### Both Attr at a path that Paths gives -/
set_option maxRecDepth 100000 in
theorem attr_in (w : World) (t : Tr) (pv : Value) (hO : ObjsAt w (fun _ => True) pv t.objs) (nb : Nat) (hnb : nb ≤ 1099511627776) (hLB : ∀ o, o ∈ t.objs → LenB nb o.attrs) (p : List Int) (hp : p ∈ pathsO 0 t.objs) :
    ∃ (a : At), (∀ W v, Below w.heap.size w W → PathAt W v p → Calls Tryz.prog 9 #[.agg (trC t pv), v] W fun e w' => AttrRes w.heap.size a 0 W e w') ∧
      (∀ W v, Below w.heap.size w W → PathAt W v p → Calls Tryz.prog 10 #[.agg (trC t pv), v] W fun e w' => AttrRes w.heap.size a 0 W e w') := by
  obtain ⟨tv, tc, tobs, tnd, tnt⟩ := t
  dsimp only at hO hLB hp
  obtain ⟨i0, q, o, a, rfl, ho, hw⟩ := mem_pathsO_walk hp
  have hq1 := walkP_pos hw
  generalize hql : q.length = mq at hq1
  have hrow : ∀ W v, PathAt W v ((i0 : Int) :: q.map (fun (k : Nat) => (k : Int))) → ∃ g off cap, v = .slice (some ⟨g, off, none⟩) (mq + 1) cap ∧ g < W.heap.size ∧ W.cell? ⟨g, off, none⟩ = some (.int .i64 (i0 : Int)) ∧ (∀ (k i : Nat), q[k]? = some i → W.cell? ⟨g, off + 1 + k, none⟩ = some (.int .i64 (i : Int))) ∧ mq < cap ∧ cap ≤ maxLen := fun W v hp => by
    generalize hr : (i0 : Int) :: q.map (fun (k : Nat) => (k : Int)) = r at hp
    cases hp with
    | nil => cases hr
    | @row g off cap r a b c d =>
      subst hr
      refine ⟨g, off, cap, by simp [hql], a, by have := b 0 (i0 : Int) rfl; simpa using this, fun k i hk => ?_, by simp [hql] at c; omega, d⟩
      rw [show off + 1 + k = off + (k + 1) by omega]
      exact b (k + 1) (i : Int) (by simp [hk])
  cases hO with
  | nil => simp at ho
  | @row g off cap qs hF hg hc hcap hA =>
    obtain ⟨⟨ob, pv0⟩, hq0, hoe⟩ : ∃ x, qs[i0]? = some x ∧ x.1 = o := by
      rw [List.getElem?_map] at ho
      cases e : qs[i0]? with
      | none => rw [e] at ho; cases ho
      | some x => rw [e] at ho; cases ho; exact ⟨x, rfl, rfl⟩
    dsimp only at hoe
    subst hoe
    have hob : LenB nb ob.attrs := hLB ob (List.mem_map.2 ⟨(ob, pv0), List.mem_of_getElem? hq0, rfl⟩)
    have hN := Nat.le_trans hcap.1 hcap.2
    have hA' : ∀ W, Below w.heap.size w W → ∀ q, q ∈ qs → AttrsAt W (fun _ => True) q.2 q.1.attrs := fun W hW q hq => attrsAt_below hW (hA q hq)
    have hc' : ∀ W, Below w.heap.size w W → ∀ j u, (rowsO qs)[j]? = some u → W.cell? ⟨g, off + j, none⟩ = some u := fun W hW j u hj => by rw [cell_below hW _ _ hg]; exact hc j u hj
    refine ⟨a, fun W v hW hp => ?_, fun W v hW hp => ?_⟩
    · obtain ⟨gp, op, capp, rfl, h1, h3, h4, h5, h6⟩ := hrow W v hp
      refine (attr_ok W (fun _ => True) tv tc tnd tnt g off cap qs qs.length rfl hN (Nat.lt_of_lt_of_le hg hW.size) (hc' W hW) (hA' W hW) gp op mq capp i0 q hql hq1 h5 h6 h1 h3 h4 ob pv0 hq0 a hw (copied_any hnb (walk_len hw hob))).mono ?_
      rintro e w' ⟨pv', e1, e2, e3⟩
      exact ⟨pv', e1, attrsAt_mono (fun _ h => .inr h) e2, e3⟩
    · obtain ⟨gp, op, capp, rfl, h1, h3, h4, h5, h6⟩ := hrow W v hp
      refine (rattr_ok W (fun g => g < w.heap.size) tv tc tnd tnt g off cap qs qs.length rfl hN (Nat.lt_of_lt_of_le hg hW.size) (hc' W hW) (fun q hq => attrsAt_move hW.size (fun g _ hl => ⟨hW.block g hl, hl⟩) (hA q hq)) gp op mq capp i0 q hql hq1 h5 h6 h1 h3 h4 ob pv0 hq0 a hw).mono ?_
      rintro e w' ⟨pv', e1, e2, e3⟩
      exact ⟨pv', e1, attrsAt_mono (fun _ h => .inl h) e2, e3⟩
end Go.Proofs.YtlbgppijeoonjaaGreatDoor

