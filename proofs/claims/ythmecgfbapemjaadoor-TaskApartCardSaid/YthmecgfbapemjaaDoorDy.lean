import Derived.Test.YthmecgfbapemjaaDoorDt
import Derived.Test.YthmecgfbapemjaaDoorDu
import Derived.Test.YthmecgfbapemjaaDoorDv
import Derived.Test.YthmecgfbapemjaaDoorDop
namespace Go.Proofs.YthmecgfbapemjaaDoor
open Go.RowKit Go.Shelf Go.Sort
set_option linter.unusedVariables false
set_option linter.unusedSimpArgs false

/-! ### The program's table and the document's -/
def Pb (B : Nat) (v u : Value) (D : Nat) (a b c : Value) (x : Nat) : Prop := Cb B v u x ∨ Db D a b c x
structure Pd (W w : World) (B : Nat) (v u : Value) (D : Nat) (a b c : Value) (rs : List Rw) (ss s2 : List Sd) : Prop where
  t : Tb W w B v u rs ss
  d : Dk w D true a b c rs s2
  k : OKs rs s2
  o : ∀ x, Cb B v u x → ¬ Db D a b c x
  p : ∀ x, Db D a b c x → W.heap.size ≤ x
section
variable {W w w' : World} {B D : Nat} {v u a b c : Value} {rs : List Rw} {ss s2 s3 : List Sd}
theorem Pd.lt (h : Pd W w B v u D a b c rs ss s2) {x : Nat} (hb : Pb B v u D a b c x) : x < w.heap.size := by
  rcases hb with hb | hb
  · exact h.t.c.lt hb
  · exact h.d.lt hb
theorem Pd.ge (h : Pd W w B v u D a b c rs ss s2) {x : Nat} (hb : Pb B v u D a b c x) : W.heap.size ≤ x := by
  rcases hb with hb | hb
  · exact h.t.o x hb
  · exact h.p x hb
theorem Pd.below (h : Pd W w B v u D a b c rs ss s2) (hb : Below w.heap.size w w') : Pd W w' B v u D a b c rs ss s2 := ⟨h.t.below hb, h.d.below hb, h.k, h.o, h.p⟩
theorem Pd.keep (h : Pd W w B v u D a b c rs ss s2) {M : Nat → Prop} (hf : Fz M w w') (hM : ∀ x, Pb B v u D a b c x → ¬ M x) (hW : ∀ x, M x → W.heap.size ≤ x) : Pd W w' B v u D a b c rs ss s2 :=
  ⟨h.t.keep hf (fun x hx => hM x (.inl hx)) hW, h.d.keptZ hf (fun x hx => hM x (.inr hx)), h.k, h.o, h.p⟩
theorem Pd.cst (h : Pd W w B v u D a b c rs ss s2) (k : Tb W w' B v u rs s3) (f : Fz (Cb B v u) w w') : Pd W w' B v u D a b c rs s3 s2 ∧ Fz (Pb B v u D a b c) w w' :=
  ⟨⟨k, h.d.keptZ f (fun x hx e => h.o x e hx), h.k, h.o, h.p⟩, f.mono (fun _ e => .inl e)⟩
theorem Pd.dst (h : Pd W w B v u D a b c rs ss s2) (k : Dk w' D true a b c rs s3) (ok : OKs rs s3) (f : Fz (Db D a b c) w w') : Pd W w' B v u D a b c rs ss s3 ∧ Fz (Pb B v u D a b c) w w' :=
  ⟨⟨h.t.keep f (fun x hx e => h.o x hx e) h.p, k, ok, h.o, h.p⟩, f.mono (fun _ e => .inr e)⟩
abbrev Pj (W : World) (B : Nat) (v u : Value) (D : Nat) (a b c : Value) (rs : List Rw) (Z : World) : Prop := ∃ ss, Pd W Z B v u D a b c rs ss ss
theorem pair_both (W : World) (B : Nat) (v u : Value) (D : Nat) (a b c : Value) (rs : List Rw) : Both (Pb B v u D a b c) (Pj W B v u D a b c rs) (cP B) (cP D) := by
  refine ⟨?_, ?_, ?_, ?_, ?_, ?_, ?_, ?_, ?_, ?_⟩
  · rintro Z Z' ⟨ss, h⟩ hb
    exact ⟨ss, h.below hb⟩
  · rintro Z x ⟨ss, h⟩ e
    exact h.lt e
  · rintro Z i ⟨ss, h⟩
    refine (tActivate h.t i).mono ?_
    rintro e w' ⟨rfl, k1, f1⟩
    obtain ⟨h1, g1⟩ := h.cst k1 f1
    refine ⟨g1, _, _, rfl, (dActivate_any h1.d (fun k x hx => (h1.k.le hx).2) i).mono ?_⟩
    rintro e w2 ⟨rfl, k2, f2⟩
    obtain ⟨h2, g2⟩ := h1.dst k2 (h.k.act i) f2
    exact ⟨rfl, ⟨_, h2⟩, g2⟩
  · rintro Z i ⟨ss, h⟩
    refine (dStart_any h.d i).mono ?_
    rintro e w' ⟨⟨z, rfl⟩, k1, f1⟩
    obtain ⟨h1, g1⟩ := h.dst k1 (h.k.sta i) f1
    refine ⟨g1, _, _, rfl, (tStart h1.t i).mono ?_⟩
    rintro e w2 ⟨rfl, k2, f2⟩
    obtain ⟨h2, g2⟩ := h1.cst k2 f2
    exact ⟨rfl, ⟨_, h2⟩, g2⟩
  · rintro Z ⟨ss, h⟩
    refine (tPreempt h.t).mono ?_
    rintro e w' ⟨rfl, k1, f1⟩
    obtain ⟨h1, g1⟩ := h.cst k1 f1
    refine ⟨g1, _, _, rfl, (dLeave_any h1.d (-1) 2 (by omega)).mono ?_⟩
    rintro e w2 ⟨rfl, k2, f2⟩
    obtain ⟨h2, g2⟩ := h1.dst k2 (h.k.lea 2 (by omega)) f2
    exact ⟨rfl, ⟨_, h2⟩, g2⟩
  · rintro Z ⟨ss, h⟩
    refine (tWait h.t).mono ?_
    rintro e w' ⟨rfl, k1, f1⟩
    obtain ⟨h1, g1⟩ := h.cst k1 f1
    refine ⟨g1, _, _, rfl, (dLeave_any h1.d (-1) 1 (by omega)).mono ?_⟩
    rintro e w2 ⟨rfl, k2, f2⟩
    obtain ⟨h2, g2⟩ := h1.dst k2 (h.k.lea 1 (by omega)) f2
    exact ⟨rfl, ⟨_, h2⟩, g2⟩
  · rintro Z i ⟨ss, h⟩
    refine (dRelease_any h.d i).mono ?_
    rintro e w' ⟨⟨z, rfl⟩, k1, f1⟩
    obtain ⟨h1, g1⟩ := h.dst k1 (h.k.rel i) f1
    refine ⟨g1, _, _, rfl, (tRelease h1.t i).mono ?_⟩
    rintro e w2 ⟨rfl, k2, f2⟩
    obtain ⟨h2, g2⟩ := h1.cst k2 f2
    exact ⟨rfl, ⟨_, h2⟩, g2⟩
  · rintro Z ⟨ss, h⟩
    refine (tEnd h.t).mono ?_
    rintro e w' ⟨rfl, k1, f1⟩
    obtain ⟨h1, g1⟩ := h.cst k1 f1
    refine ⟨g1, _, _, _, rfl, (dEnd_any h1.d h1.k).mono ?_⟩
    rintro e w2 ⟨rfl, k2, f2⟩
    obtain ⟨h2, g2⟩ := h1.dst k2 h.k.fin f2
    exact ⟨rfl, ⟨_, h2⟩, g2⟩
  · rintro Z ⟨ss, h⟩
    refine (tAgain h.t).mono ?_
    rintro e w' ⟨rfl, k1, f1⟩
    obtain ⟨h1, g1⟩ := h.cst k1 f1
    refine ⟨g1, _, _, rfl, (dLeave_any h1.d (-1) 2 (by omega)).mono ?_⟩
    rintro e w2 ⟨rfl, k2, f2⟩
    obtain ⟨h2, g2⟩ := h1.dst k2 (h.k.lea 2 (by omega)) f2
    exact ⟨rfl, ⟨_, h2⟩, g2⟩
  · rintro Z ⟨ss, h⟩
    refine (tReset h.t).mono ?_
    rintro e w' ⟨rfl, k1, f1⟩
    obtain ⟨h1, g1⟩ := h.cst k1 f1
    refine ⟨g1, rfl, (dReset_any h1.d).mono ?_⟩
    rintro e w2 ⟨rfl, k2, f2⟩
    obtain ⟨h2, g2⟩ := h1.dst k2 (OKs.rst h.k.may) f2
    exact ⟨rfl, ⟨_, h2⟩, g2⟩
theorem pair_tells (h : Pd W w B v u D a b c rs ss ss) : ∃ a1 c1, Tells w (cP B) D rs.length a1 c1 (runI ss) (staS rs.length ss) (eidS rs.length) (actN rs.length ss) (fun s => thF s 0 ss) := by
  obtain ⟨a1, c1, e1⟩ := own_sl h.d.p
  refine ⟨a1, c1, fun Z hb => ?_, fun Z hb => Running_any (h.below hb).t.c, fun Z hb => dRunning_any (h.below hb).d, fun Z i hb => State_any (h.below hb).t.c i, fun Z i hb => dGet_any (h.below hb).d i, fun Z i hb => Active_any (h.below hb).t.c i, fun Z i hb => dActive_any (h.below hb).d i, fun Z s hb => Those_any (h.below hb).t.c s, fun Z s hb => dThose_any (h.below hb).d s, ⟨h.k.m, fun s => ?_⟩⟩
  · rw [((h.below hb).d.cells).2.1, e1]
  · have := thF_len s ss 0
    have := h.k.n
    have := h.k.m
    omega
theorem pair_told (h : Pd W w B v u D a b c rs ss ss) : Calls Tryd.prog 23 #[cP B, cP D] w fun e w' => e = .returned (.bool true) ∧ Pd W w' B v u D a b c rs ss ss ∧ Below w.heap.size w w' := by
  obtain ⟨a1, c1, ht⟩ := pair_tells h
  refine (told_gen ht).mono ?_
  rintro e w' ⟨rfl, hb⟩
  exact ⟨rfl, h.below hb, hb⟩
theorem pair_play (h : Pd W w B v u D a b c rs ss ss) (kd tk : Int) : Calls Tryd.prog 22 #[cP B, cP D, .agg #[I kd, I tk]] w fun e w' => e = .returned (.bool true) ∧ (∃ s', Pd W w' B v u D a b c rs s' s') ∧ Fz (Pb B v u D a b c) w w' := play_gen (pair_both W B v u D a b c rs) w ⟨ss, h⟩ kd tk
/-- both are made of the same rows -/
theorem Pd.mk0 {w1 w2 : World} {rs : List Rw} (t : Tb W w1 B v u rs (rstL rs.length)) (b2 : Below w1.heap.size w1 w2) (d : Dk w2 D true a b c rs (rstL rs.length)) (o2 : ∀ x, Db D a b c x → w1.heap.size ≤ x) : Pd W w2 B v u D a b c rs (rstL rs.length) (rstL rs.length) :=
  ⟨t.below b2, d, t.k, fun x hx e => by have := o2 x e; have := t.c.lt hx; omega, fun x hx => by have := o2 x hx; have := t.b.size; omega⟩
/-! ### Copies -/
structure Tri (W w : World) (B : Nat) (v u : Value) (D : Nat) (a b c : Value) (rs : List Rw) (ss s2 : List Sd) (B2 : Nat) (v2 u2 : Value) : Prop where
  p : Pd W w B v u D a b c rs ss s2
  t : Tb W w B2 v2 u2 rs s2
  o : ∀ x, Cb B2 v2 u2 x → ¬ Pb B v u D a b c x
variable {B2 : Nat} {v2 u2 : Value}
theorem tCopy (h : Pd W w B v u D a b c rs ss ss) : Calls Tryd.prog 24 #[cP B] w fun e w' => ∃ B2 v2 u2, e = .returned (cP B2) ∧ Tri W w' B v u D a b c rs ss ss B2 v2 u2 := by
  refine (Copy_any h.t.c h.t.env).mono ?_
  rintro e w' ⟨B2, v2, u2, rfl, k, o, hb⟩
  have hW := h.t.b.size
  exact ⟨B2, v2, u2, rfl, h.below hb, ⟨k, h.k, h.t.b.trans (hb.mono hW), fun x hx => by have := o x hx; omega, h.t.e⟩, fun x hx e => by have := o x hx; have := h.lt e; omega⟩
theorem Tri.step (h : Tri W w B v u D a b c rs ss s2 B2 v2 u2) (k : Tb W w' B v u rs s3) (f : Fz (Cb B v u) w w') : Tri W w' B v u D a b c rs s3 s2 B2 v2 u2 :=
  ⟨(h.p.cst k f).1, h.t.keep f (fun x hx e => h.o x hx (.inl e)) h.p.t.o, h.o⟩
theorem Tri.doc (h : Tri W w B v u D a b c rs ss s2 B2 v2 u2) : Calls Tryd.prog 27 #[cP D] w fun e w' => ∃ D2 a2 b2 c2, e = .returned (cP D2) ∧ Pd W w' B2 v2 u2 D2 a2 b2 c2 rs s2 s2 ∧ Pd W w' B v u D a b c rs ss s2 ∧ ∀ x, Pb B2 v2 u2 D2 a2 b2 c2 x → ¬ Pb B v u D a b c x := by
  refine (dCopy_any h.p.d).mono ?_
  rintro e w' ⟨D2, a2, b2, c2, rfl, k, o, hb⟩
  have hW := h.p.t.b.size
  refine ⟨D2, a2, b2, c2, rfl, ⟨h.t.below hb, k, h.p.k, fun x hx e => by have := o x e; have := h.t.c.lt hx; omega, fun x hx => by have := o x hx; omega⟩, h.p.below hb, ?_⟩
  rintro x (hx | hx) e
  · exact h.o x hx e
  · have := o x hx; have := h.p.lt e; omega
end
end Go.Proofs.YthmecgfbapemjaaDoor
