import Derived.Test.YtckmdkdhnhkdhaaZit
import Derived.Test.YtckmdkdhnhkdhaaZal
namespace Go.Proofs.Ytckmdkdhnhkdhaa
open Go.RowKit
set_option linter.unusedVariables false
set_option linter.unusedSimpArgs false

/-! ### Both stacks -/
set_option maxRecDepth 100000 in
set_option maxHeartbeats 4000000 in
theorem same_any (w : World) (b1 b2 : Nat) (v u : Value) (l : List Int) (hl : l.length ≤ 65536) (h1 : w.ownsRow b1 3 1 v l.length (iV l)) (h2 : w.ownsRow b2 3 1 u l.length (iV l)) : Calls Try.prog 52 #[v, u] w fun e w' => e = .returned (.bool true) ∧ Below w.heap.size w w' := by
  by_cases h0 : l.length = 0
  · obtain ⟨a1, c1, rfl⟩ := own_sl h1
    obtain ⟨a2, c2, rfl⟩ := own_sl h2
    rw [h0]
    clear h1 h2 h0
    go_enter Try.func52, Try.ntmps52
    go_wp2
    go_loopw [5] (fun i wr => i = .int .i64 0 ∧ wr = w) (fun _ _ => 0)
    case atStart => exact ⟨rfl, rfl⟩
    case round =>
      obtain ⟨rfl, rfl⟩ := hrel
      go_wp2
      go_ret
      exact ⟨rfl, Below.refl _ _⟩
  · obtain ⟨g1, c1, rfl, hg1, hc1⟩ := own_cell h1 (by omega)
    obtain ⟨g2, c2, rfl, hg2, hc2⟩ := own_cell h2 (by omega)
    clear h1 h2 h0
    have H1 : Hid (∀ (j : Nat) (x : Int), l[j]? = some x → w.cell? ⟨g1, j, none⟩ = some (I x)) := hc1
    have H2 : Hid (∀ (j : Nat) (x : Int), l[j]? = some x → w.cell? ⟨g2, j, none⟩ = some (I x)) := hc2
    clear hc1 hc2
    go_enter Try.func52, Try.ntmps52
    go_wp2
    go_loopw [5] (fun i wr => ∃ k : Nat, k ≤ l.length ∧ i = .int .i64 k ∧ Hid (Below w.heap.size w wr)) (fun i _ => l.length - (intOf i).toNat)
    case atStart => exact ⟨0, by omega, rfl, Below.refl _ _⟩
    case round =>
      obtain ⟨k, hk, rfl, HB⟩ := hrel
      by_cases hlt : k < l.length
      · obtain ⟨x, hx⟩ : ∃ x, l[k]? = some x := ⟨_, List.getElem?_eq_getElem hlt⟩
        have hltI : (k : Int) < l.length := by omega
        have k0 : ¬ (k : Int) < 0 := by omega
        have x1 : wr.cell? ⟨g1, k, none⟩ = some (I x) := (HB.out.cell (p := ⟨g1, k, none⟩) hg1).trans (H1.out k x hx)
        have x2 : wr.cell? ⟨g2, k, none⟩ = some (I x) := (HB.out.cell (p := ⟨g2, k, none⟩) hg2).trans (H2.out k x hx)
        clear hx
        go_wp2
        go_quiet (fail)
        have H9 : Hid (Below w.heap.size w (wr.drewN nq)) := below_drewN nq HB.out
        clear HB x1 x2
        generalize wr.drewN nq = W9 at *
        go_wp2
        go_roundw
        case rel => exact ⟨k + 1, by omega, by go_num, H9.out⟩
        case measure => simp [intOf]; omega
      · obtain rfl : k = l.length := by omega
        have hge : ¬ ((l.length : Int) < l.length) := by omega
        go_wp2
        go_ret
        exact ⟨rfl, HB.out⟩
theorem same_len (w : World) (b1 b2 n : Nat) (v u : Value) (l : List Int) (hn : l.length = n) (hl : n ≤ 65536) (h1 : w.ownsRow b1 3 1 v n (iV l)) (h2 : w.ownsRow b2 3 1 u n (iV l)) : Calls Try.prog 52 #[v, u] w fun e w' => e = .returned (.bool true) ∧ Below w.heap.size w w' := by
  subst hn
  exact same_any w b1 b2 v u l hl h1 h2
theorem snoc_cases {α : Type} (l : List α) : l = [] ∨ ∃ t x, l = t ++ [x] := by
  rcases h : l.reverse with _ | ⟨x, t⟩
  · exact .inl (by simpa using h)
  · exact .inr ⟨t.reverse, x, by have := congrArg List.reverse h; simpa using this⟩
theorem ty_ne {w : World} {a b : Nat} {c d : Array Value} {S T : TypeId} (ha : w.heap[a]? = some (.cells c S)) (hb : w.heap[b]? = some (.cells d T)) (h : S ≠ T) : a ≠ b := fun e => by
  subst e
  rw [ha] at hb
  simp only [Option.some.injEq, Obj.cells.injEq] at hb
  exact h hb.2.1
/-- A stack and the document's, alike. -/
structure Pr (w : World) (B g D n hi : Nat) (v : Value) (l : List Int) : Prop where
  q : iQ w B g n hi l
  d : Ds w D n hi v l
  ap : ∀ b, Db D v b → b ≠ B ∧ b ≠ g
/-- Between the stack's call and the document's. -/
structure Md (w : World) (B g D n hi hi' : Nat) (v : Value) (l l' : List Int) : Prop where
  q : iQ w B g n hi' l'
  d : Ds w D n hi v l
  ap : ∀ b, Db D v b → b ≠ B ∧ b ≠ g
def Pb (B g D : Nat) (v : Value) (b : Nat) : Prop := (b = B ∨ b = g) ∨ Db D v b
section
variable {w w' W : World} {B g D n hi hi' : Nat} {v v' : Value} {l l' : List Int}
theorem Pr.keptZ {M : Nat → Prop} (h : Pr w B g D n hi v l) (hf : Fz M w w') (hM : ∀ b, Pb B g D v b → ¬ M b) : Pr w' B g D n hi v l :=
  ⟨h.q.keptZ hf (hM B (.inl (.inl rfl))) (hM g (.inl (.inr rfl))), h.d.keptZ hf (fun b hb => hM b (.inr hb)), h.ap⟩
theorem Pr.below (h : Pr w B g D n hi v l) (hb : Below w.heap.size w w') : Pr w' B g D n hi v l := h.keptZ (M := fun _ => False) (Fz.of_below hb) (fun _ _ e => e)
theorem Pr.lt (h : Pr w B g D n hi v l) : ∀ b, Pb B g D v b → b < w.heap.size := fun b hb => by
  rcases hb with (rfl | rfl) | e
  · exact h.q.lts.1
  · exact h.q.lts.2
  · exact h.d.lt b e
theorem Md.below (h : Md w B g D n hi hi' v l l') (hb : Below w.heap.size w w') : Md w' B g D n hi hi' v l l' := ⟨h.q.below hb, h.d.below hb, h.ap⟩
theorem Pr.md (h : Pr w B g D n hi v l) (hf : Fx [B, g] w w') (hq : iQ w' B g n hi' l') : Md w' B g D n hi hi' v l l' :=
  ⟨hq, h.d.keptZ (M := fun b => b = B ∨ b = g) (Fz.of_fx hf (fun x hx => by simpa using hx)) (fun b hb e => by have := h.ap b hb; rcases e with e | e; exact this.1 e; exact this.2 e), h.ap⟩
theorem Md.pr (h : Md w B g D n hi hi' v l l') (hd : Ds w' D n hi' v' l') (hv : Vn w v v') (hf : Fz (Db D v) w w') : Pr w' B g D n hi' v' l' := by
  refine ⟨h.q.keptZ hf (fun e => (h.ap B e).1 rfl) (fun e => (h.ap g e).2 rfl), hd, fun b hb => ?_⟩
  rcases hb with rfl | e
  · exact h.ap b (.inl rfl)
  · rcases hv b e with e1 | e1
    · exact h.ap b (.inr e1)
    · have := h.q.lts
      omega
theorem Pr.new (hq : iQ w B g n hi l) (hd : Ds w D n hi v l) (hv : ∀ b, v.ownBlock = some b → b ≠ g) : Pr w B g D n hi v l := by
  obtain ⟨c1, h1⟩ := hq.ty
  obtain ⟨c2, h2⟩ := hq.tyg
  refine ⟨hq, hd, fun b hb => ?_⟩
  rcases hb with rfl | e
  · exact ⟨ty_ne hd.o h1 (by decide), ty_ne hd.o h2 (by decide)⟩
  · refine ⟨?_, hv b e⟩
    rcases hd.p.2 with ⟨h3, _⟩ | ⟨g', cap, cur, h3, _, hh, _⟩
    · rw [h3] at e; cases e
    · rw [h3] at e
      obtain rfl : g' = b := by simpa [Value.ownBlock] using e
      exact ty_ne hh h1 (by decide)
/-- What play leaves. -/
def PlayP (w : World) (B g D n : Nat) (v : Value) (w' : World) : Prop := ∃ hi' v' l', Pr w' B g D n hi' v' l' ∧ Vn w v v' ∧ Fz (Pb B g D v) w w'
theorem bothPush (h : Pr w B g D n hi v l) (x : Int) : ∃ (c : Int) (hi' : Nat) (l' : List Int), (-100000 ≤ c ∧ c ≤ 100000) ∧ (∀ W, Below w.heap.size w W → Calls Try.prog 10 #[iP B, I x] W fun e w' => e = .returned (I c) ∧ Md w' B g D n hi hi' v l l' ∧ Fx [B, g] W w') ∧ (∀ W, Md W B g D n hi hi' v l l' → Calls Try.prog 21 #[dP D, I x] W fun e w' => e = .returned (I c) ∧ ∃ v', Pr w' B g D n hi' v' l' ∧ Vn W v v' ∧ Fz (Db D v) W w') := by
  by_cases hc : l.length < n
  · refine ⟨0, max hi (l.length + 1), l ++ [x], by decide, fun W hb => (iPushQ (h.below hb).q hc x).mono ?_, fun W hm => (dPush_ok hm.d hc x).mono ?_⟩
    · rintro e w' ⟨rfl, q1, f1⟩
      exact ⟨rfl, (h.below hb).md f1 q1, f1⟩
    · rintro e w' ⟨rfl, v', d1, n1, f1⟩
      exact ⟨rfl, v', hm.pr d1 n1 f1, n1, f1⟩
  · have hc2 : l.length = n := by have := h.q.le; omega
    refine ⟨141, hi, l, by decide, fun W hb => (iPushF (h.below hb).q hc2 x).mono ?_, fun W hm => (dPush_full hm.d hc2 x).mono ?_⟩
    · rintro e w' ⟨rfl, b1⟩
      exact ⟨rfl, ⟨((h.below hb).below b1).q, ((h.below hb).below b1).d, h.ap⟩, Fx.of_below b1⟩
    · rintro e w' ⟨rfl, b1⟩
      exact ⟨rfl, v, ⟨(hm.below b1).q, (hm.below b1).d, hm.ap⟩, Vn.refl _ _, Fz.of_below b1⟩
theorem bothPop (h : Pr w B g D n hi v l) : ∃ (c x : Int) (l' : List Int), (-100000 ≤ c ∧ c ≤ 100000) ∧ (∀ W, Below w.heap.size w W → Calls Try.prog 14 #[iP B] W fun e w' => e = .returned (.tuple #[I x, I c]) ∧ Md w' B g D n hi hi v l l' ∧ Fx [B, g] W w') ∧ (∀ W, Md W B g D n hi hi v l l' → Calls Try.prog 23 #[dP D] W fun e w' => e = .returned (.tuple #[I x, I c]) ∧ ∃ v', Pr w' B g D n hi v' l' ∧ Vn W v v' ∧ Fz (Db D v) W w') ∧ ((l = [] ∧ c = 142 ∧ x = 0 ∧ l' = []) ∨ (c = 0 ∧ l = l' ++ [x])) := by
  rcases snoc_cases l with rfl | ⟨t, x, rfl⟩
  · refine ⟨142, 0, [], by decide, fun W hb => (iPopN (h.below hb).q).mono ?_, fun W hm => (dPop_no hm.d).mono ?_, .inl ⟨rfl, rfl, rfl, rfl⟩⟩
    · rintro e w' ⟨rfl, rfl⟩
      exact ⟨rfl, ⟨(h.below hb).q, (h.below hb).d, h.ap⟩, Fx.refl _ _⟩
    · rintro e w' ⟨rfl, rfl⟩
      exact ⟨rfl, v, ⟨hm.q, hm.d, hm.ap⟩, Vn.refl _ _, Fz.refl _ _⟩
  · refine ⟨0, x, t, by decide, fun W hb => (iPopQ x (h.below hb).q).mono ?_, fun W hm => (dPop_ok x hm.d).mono ?_, .inr ⟨rfl, rfl⟩⟩
    · rintro e w' ⟨rfl, q1, f1⟩
      exact ⟨rfl, (h.below hb).md f1 q1, f1⟩
    · rintro e w' ⟨rfl, v', d1, n1, f1⟩
      exact ⟨rfl, v', hm.pr d1 n1 f1, n1, f1⟩
end
end Go.Proofs.Ytckmdkdhnhkdhaa
