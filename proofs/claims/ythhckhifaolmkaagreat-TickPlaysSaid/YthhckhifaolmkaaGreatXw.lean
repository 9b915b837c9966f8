import Derived.Test.YthhckhifaolmkaaGreatXThnl
import Derived.Test.YthhckhifaolmkaaGreatXXl
namespace Go.Proofs.YthhckhifaolmkaaGreat
open Go.RowKit Go.ChangeShapes Go.WideShapes
set_option linter.unusedVariables false

/-! ### Calls that came in, opened -/
structure Ca where
  kind : Int
  n : Int
  a : Nat
  b : Nat
  g : Gt
def caV (x : Ca) (i : Nat) (u : Value) : Prop := match i with | 0 => u = I x.kind | 1 => u = I x.n | 2 => u = .int .u32 (x.a : Int) | 3 => u = .int .u32 (x.b : Int) | 4 => u = .bool x.g.shut | 5 => u = I x.g.all | _ => u = I x.g.os
def caP (x : Ca) (i : Nat) (u : Value) : Prop := caV x i u ∧ x.a < 4294967296 ∧ x.b < 4294967296
theorem p_gate : Tryz.prog.cellsOf 46 = 3 := by kernel_rfl
theorem p_call : Tryz.prog.cellsOf 48 = 7 := by kernel_rfl
theorem list7X {α : Type} : ∀ {l : List α}, l.length = 7 → ∃ a b c d e f g, l = [a, b, c, d, e, f, g]
  | [a, b, c, d, e, f, g], _ => ⟨a, b, c, d, e, f, g, rfl⟩
theorem list3X {α : Type} : ∀ {l : List α}, l.length = 3 → ∃ a b c, l = [a, b, c]
  | [a, b, c], _ => ⟨a, b, c, rfl⟩
theorem nat_u32X {a : Int} (h : (Lit.int .u32 a).wf = true) : ∃ n : Nat, a = n ∧ n < 4294967296 := by
  have := bounds_u32 h
  obtain ⟨n, rfl⟩ := Int.eq_ofNat_of_zero_le this.1
  exact ⟨n, rfl, by omega⟩
set_option maxRecDepth 100000 in
theorem gate_open {H : Type} {enc : TypeId × Value → H} {w : World} {spare : Nat → Bool} {held : Bool} {r : Reach} {b0 : Nat} {v : Value} {d : DataW H} {p : List MemPlace}
    (hv : Value.okWide Tryz.prog w r b0 46 v) (h : DataW.Trod enc Tryz.prog w 0 spare held 46 v d p) : ∃ (x : Bool) (a b : Int), v = .agg #[.bool x, I a, I b] := by
  obtain ⟨cs, rfl, hsz⟩ := okWide_struct Tryz.underlying46 hv
  rw [p_gate] at hsz
  obtain ⟨l⟩ := cs
  obtain ⟨c0, c1, c2, rfl⟩ := list3X (l := l) (by simpa using hsz)
  obtain ⟨fuel, hf⟩ := h
  obtain ⟨xs, n, hn, hx, hl, hlen, hfs⟩ := DataW.trod_struct Tryz.underlying46 hf
  match xs, hlen with
  | [y0, y1, y2], _ =>
    have h0 := hfs 0 _ rfl
    have h1 := hfs 1 _ rfl
    have h2 := hfs 2 _ rfl
    simp [p9_bool, p9_int, Value.cells] at h0 h1 h2
    obtain ⟨v0, e0, _⟩ := DataW.trod_bool Tryz.underlying4 h0
    obtain ⟨v1, e1, _, b1⟩ := DataW.trod_int Tryz.underlying3 h1
    obtain ⟨v2, e2, _, b2⟩ := DataW.trod_int Tryz.underlying3 h2
    simp at e0 e1 e2
    subst e0 e1 e2
    exact ⟨v0, v1, v2, rfl⟩
set_option maxRecDepth 100000 in
theorem one_call {H : Type} {enc : TypeId × Value → H} {w : World} {spare : Nat → Bool} {held : Bool} (n : Nat) (cs : List Value) (z : DataW H × List MemPlace) (hl : cs.length = 7) (h : DataW.trod enc Tryz.prog w 0 spare held n 48 cs = some z) : ∃ x : Ca, ∀ i, i < 7 → ∃ u, cs[i]? = some u ∧ caP x i u := by
  obtain ⟨c0, c1, c2, c3, c4, c5, c6, rfl⟩ := list7X hl
  obtain ⟨xs, n, hn, hx, hl, hlen, hfs⟩ := DataW.trod_struct Tryz.underlying48 h
  match xs, hlen with
  | [y0, y1, y2, y3, y4], _ =>
    have h0 := hfs 0 _ rfl
    have h1 := hfs 1 _ rfl
    have h2 := hfs 2 _ rfl
    have h3 := hfs 3 _ rfl
    have h4 := hfs 4 _ rfl
    simp [p_gate, p9_int, p9_uint32] at h0 h1 h2 h3 h4
    obtain ⟨v0, e0, _, b0⟩ := DataW.trod_int Tryz.underlying3 h0
    obtain ⟨v1, e1, _, b1⟩ := DataW.trod_int Tryz.underlying3 h1
    obtain ⟨v2, e2, _, b2⟩ := DataW.trod_int Tryz.underlying22 h2
    obtain ⟨v3, e3, _, b3⟩ := DataW.trod_int Tryz.underlying22 h3
    obtain ⟨zs, m2, _, _, _, zlen, zfs⟩ := DataW.trod_struct Tryz.underlying46 h4
    match zs, zlen with
    | [z2, z3, z4], _ =>
      have g2 := zfs 0 _ rfl
      have g3 := zfs 1 _ rfl
      have g4 := zfs 2 _ rfl
      simp [p9_int, p9_bool] at g2 g3 g4
      obtain ⟨v5, e5, _⟩ := DataW.trod_bool Tryz.underlying4 g2
      obtain ⟨v6, e6, _, b6⟩ := DataW.trod_int Tryz.underlying3 g3
      obtain ⟨v7, e7, _, b7⟩ := DataW.trod_int Tryz.underlying3 g4
      simp at e0 e1 e2 e3 e5 e6 e7
      subst e0 e1 e2 e3 e5 e6 e7
      obtain ⟨n2, rfl, q2⟩ := nat_u32X b2
      obtain ⟨n3, rfl, q3⟩ := nat_u32X b3
      refine ⟨⟨v0, v1, n2, n3, ⟨v5, v6, v7⟩⟩, fun i hi => ?_⟩
      match i, hi with
      | 0, _ => exact ⟨_, rfl, rfl, q2, q3⟩
      | 1, _ => exact ⟨_, rfl, rfl, q2, q3⟩
      | 2, _ => exact ⟨_, rfl, rfl, q2, q3⟩
      | 3, _ => exact ⟨_, rfl, rfl, q2, q3⟩
      | 4, _ => exact ⟨_, rfl, rfl, q2, q3⟩
      | 5, _ => exact ⟨_, rfl, rfl, q2, q3⟩
      | 6, _ => exact ⟨_, rfl, rfl, q2, q3⟩
end Go.Proofs.YthhckhifaolmkaaGreat
