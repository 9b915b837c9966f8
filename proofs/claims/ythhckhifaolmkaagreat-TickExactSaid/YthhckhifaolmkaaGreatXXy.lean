import Derived.Test.YthhckhifaolmkaaGreatXXk
import Derived.Test.YthhckhifaolmkaaGreatXXr
import Derived.Test.YthhckhifaolmkaaGreatXThnl
import Derived.Deep.CutBlock
namespace Go.Proofs.YthhckhifaolmkaaGreat
open Go.RowKit Go.Shelf Go.Sort
open Go.Proofs.YthhckhifaolmkaaGreat.Cl (Fx Fz Ck Cb Alm psA dueA dueF U Q cP own_sl own_some own_below own_base inL ret_bool ret_int heap_lt iinfo cell_one_new take_snoc aftN)
set_option linter.unusedVariables false
set_option linter.unusedSimpArgs false

/-! ### heads -/
abbrev g0G : Gt := ⟨false, 0, 0⟩
def hs1 : Bs := setT (oneT 9) newT 0 (Cl.relB (ctA (oneT 9) 0).min (ctA (oneT 9) 0).max 2 0) (2, 0)
def hs2 : Bs := setT (oneT 9) hs1 1 (Cl.absB (ctA (oneT 9) 1).min (ctA (oneT 9) 1).max 2 3) (Cl.untN (ctA (oneT 9) 1).max (hs1.v (ctrN (oneT 9) (1 : Int).toNat)) 2, 3)
def hs3 : Bs := tckA (oneT 9) hs2 0
def hs4 : Bs := tckA (oneT 9) hs3 0
def hs5 : Bs := reqT (oneT 9) hs4 0
section
variable {w w' : World} {zn : Nat → Nat} {B : Nat} {p : Pl}
theorem hd1 (h : Bo w zn (oneT 9) B p newT) : Calls Tryz.prog 11 #[bP B, I 0, U 2, U 0] w fun e w' => e = .returned (I 0) ∧ Bo w' zn (oneT 9) B p hs1 ∧ Fz (Wr zn) w w' := by
  have := bRel h 0 2 0 (by decide)
  rw [show setB (oneT 9) newT 0 (Cl.relB (ctA (oneT 9) 0).min (ctA (oneT 9) 0).max 2 0) = 0 by kernel_rfl] at this
  exact this
theorem hd2 (h : Bo w zn (oneT 9) B p hs1) : Calls Tryz.prog 10 #[bP B, I 1, U 2, U 3] w fun e w' => e = .returned (I 0) ∧ Bo w' zn (oneT 9) B p hs2 ∧ Fz (Wr zn) w w' := by
  have := bAbs h 1 2 3 (by decide)
  rw [show setB (oneT 9) hs1 1 (Cl.absB (ctA (oneT 9) 1).min (ctA (oneT 9) 1).max 2 3) = 0 by kernel_rfl] at this
  exact this
theorem hd3 (h : Bo w zn (oneT 9) B p hs2) : Calls Tryz.prog 9 #[bP B, I 0] w fun e w' => ∃ u, e = .returned (.tuple #[u, I 0]) ∧ w'.ownsRow w.heap.size 3 1 u 0 [] ∧ Bo w' zn (oneT 9) B p hs3 ∧ Fz (Wr zn) w w' := by
  have := bTick h 0
  rw [show tckS (oneT 9) 0 = 0 by kernel_rfl, show tckL (oneT 9) hs2 0 = [] by kernel_rfl] at this
  exact this
theorem hd4 (h : Bo w zn (oneT 9) B p hs3) : Calls Tryz.prog 9 #[bP B, I 0] w fun e w' => ∃ u, e = .returned (.tuple #[u, I 0]) ∧ w'.ownsRow w.heap.size 3 1 u 2 [I 0, I 1] ∧ Bo w' zn (oneT 9) B p hs4 ∧ Fz (Wr zn) w w' := by
  have := bTick h 0
  rw [show tckS (oneT 9) 0 = 0 by kernel_rfl, show tckL (oneT 9) hs3 0 = [0, 1] by kernel_rfl] at this
  exact this
theorem hd5 (h : Bo w zn (oneT 9) B p hs4) : Calls Tryz.prog 13 #[bP B, I 0] w fun e w' => e = .returned (I 0) ∧ Bo w' zn (oneT 9) B p hs5 ∧ Fz (Wr zn) w w' := by
  have := bRequest h 0
  rw [show reqS (oneT 9) 0 = 0 by kernel_rfl] at this
  exact this
theorem hd6 (h : Bo w zn (oneT 9) B p hs5) : Calls Tryz.prog 23 #[bP B, I 69, gtV g0G] w fun e w' => e = .returned (.tuple #[I 0, .bool true]) ∧ Below w.heap.size w w' := by
  have := bNext h 69 g0G
  rw [show (nxL (oneT 9) hs5.q g0G 69 (oneT 9).isrs.length).1 = 0 by kernel_rfl] at this
  exact this
theorem hd7 (h : Bo w zn (oneT 9) B p hs5) : Calls Tryz.prog 23 #[bP B, I 70, gtV g0G] w fun e w' => e = .returned (.tuple #[I (-1), .bool false]) ∧ Below w.heap.size w w' := by
  have := bNext h 70 g0G
  rw [show (nxL (oneT 9) hs5.q g0G 70 (oneT 9).isrs.length).1 = -1 by kernel_rfl] at this
  exact this
theorem hd8 (h : Bo w zn (oneT 9) B p hs5) : Calls Tryz.prog 24 #[bP B] w fun e w' => ∃ u, e = .returned u ∧ w'.ownsRow w.heap.size 22 1 u 1 [U 2] ∧ Below w.heap.size w w' := by
  have := bCounters h
  rw [show flat (valF hs5) (oneT 9).ctrs.length = [U 2] by kernel_rfl, show (oneT 9).ctrs.length = 1 from rfl] at this
  exact this
end
set_option maxRecDepth 100000 in
set_option maxHeartbeats 16000000 in
theorem heads21 (w : World) : Calls Tryz.prog 6 #[] w fun e w' => e = .returned (.bool true) ∧ Below w.heap.size w w' := by
  have hO := One_any w 9
  go_enter Tryz.func6, Tryz.ntmps6
  go_upto_region 2 with (first
    | (go_at_call 8; refine hO.mono ?_; clear hO; rintro e w1 ⟨v, rfl, ht, b1⟩; have hN := bNew_ok ht (one_wf (by decide)) one_chk9)
    | (go_at_call 7; refine hN.mono ?_; clear hN; rintro e w2 ⟨B, rfl, p, zn, h2, z2, b2⟩))
  have K2 : Hid (Bo w2 zn (oneT 9) B p newT ∧ Below w.heap.size w w2 ∧ ∀ b, zn b ≠ 0 → w.heap.size ≤ b) := ⟨h2, b1.trans (b2.mono b1.size), fun b e => Nat.le_trans b1.size (z2 b e)⟩
  clear ht b1 h2 b2 z2
  have HS : Hid (∀ {W W' : World}, Below w.heap.size w W → Fz (Wr zn) W W' → Below w.heap.size w W') := fun h hf => h.trans (hf.below h.size (fun b hb => K2.out.2.2 b (by rcases hb with e | e <;> omega)))
  have hc := hd1 K2.out.1
  go_upto_region 5 with (first | (go_at_call 11; refine hc.mono ?_; clear hc; rintro e w3 ⟨rfl, kk, ff⟩))
  have K3 : Hid (Bo w3 zn (oneT 9) B p hs1 ∧ Below w.heap.size w w3) := ⟨kk, HS.out K2.out.2.1 ff⟩
  clear kk ff
  have hc := hd2 K3.out.1
  go_upto_region 6 with (first | (go_at_call 10; refine hc.mono ?_; clear hc; rintro e w4 ⟨rfl, kk, ff⟩))
  have K4 : Hid (Bo w4 zn (oneT 9) B p hs2 ∧ Below w.heap.size w w4) := ⟨kk, HS.out K3.out.2 ff⟩
  clear kk ff
  have hc := hd3 K4.out.1
  go_upto_region 7 with (first | (go_at_call 9; refine hc.mono ?_; clear hc; rintro e w5 ⟨u5, rfl, oo, kk, ff⟩; obtain ⟨xa, xc, rfl⟩ := own_sl oo))
  have K5 : Hid (Bo w5 zn (oneT 9) B p hs3 ∧ Below w.heap.size w w5) := ⟨kk, HS.out K4.out.2 ff⟩
  clear kk ff oo
  have hc := hd4 K5.out.1
  go_upto_region 8 with (first | (go_at_call 9; refine hc.mono ?_; clear hc; rintro e w6 ⟨u6, rfl, oo, kk, ff⟩; obtain ⟨yg, yc, rfl⟩ := own_some oo (by omega)))
  have NY : Hid (¬ Wr zn yg) := fun e => by have := K5.out.1.zs yg (by rcases e with e | e <;> omega); have := (oo.lt yg rfl).1; omega
  have K6 : Hid (Bo w6 zn (oneT 9) B p hs4 ∧ Below w.heap.size w w6 ∧ w6.ownsRow w5.heap.size 3 1 (.slice (some ⟨yg, 0, none⟩) 2 yc) 2 [I 0, I 1]) := ⟨kk, HS.out K5.out.2 ff, oo⟩
  clear kk ff oo
  have hc := hd5 K6.out.1
  go_upto_region 9 with (first | (go_at_call 13; refine hc.mono ?_; clear hc; rintro e w7 ⟨rfl, kk, ff⟩))
  have K7 : Hid (Bo w7 zn (oneT 9) B p hs5 ∧ Below w.heap.size w w7 ∧ w7.ownsRow w5.heap.size 3 1 (.slice (some ⟨yg, 0, none⟩) 2 yc) 2 [I 0, I 1]) := ⟨kk, HS.out K6.out.2.1 ff, ff.own K6.out.2.2 (fun g e => by cases e; exact NY.out)⟩
  clear kk ff
  have hc := hd6 K7.out.1
  go_upto_region 10 with (first | (go_at_call 23; refine hc.mono ?_; clear hc; rintro e w8 ⟨rfl, bb⟩))
  have K8 : Hid (Bo w8 zn (oneT 9) B p hs5 ∧ Below w.heap.size w w8 ∧ w8.ownsRow w5.heap.size 3 1 (.slice (some ⟨yg, 0, none⟩) 2 yc) 2 [I 0, I 1]) := ⟨K7.out.1.below bb, K7.out.2.1.trans (bb.mono K7.out.2.1.size), own_below K7.out.2.2 bb⟩
  clear bb
  have hc := hd7 K8.out.1
  go_upto_region 11 with (first | (go_at_call 23; refine hc.mono ?_; clear hc; rintro e w9 ⟨rfl, bb⟩))
  have K9 : Hid (Bo w9 zn (oneT 9) B p hs5 ∧ Below w.heap.size w w9 ∧ w9.ownsRow w5.heap.size 3 1 (.slice (some ⟨yg, 0, none⟩) 2 yc) 2 [I 0, I 1]) := ⟨K8.out.1.below bb, K8.out.2.1.trans (bb.mono K8.out.2.1.size), own_below K8.out.2.2 bb⟩
  clear bb
  have hc := hd8 K9.out.1
  go_upto_region 12 with (first | (go_at_call 24; refine hc.mono ?_; clear hc; rintro e w10 ⟨u10, rfl, oo, bb⟩; obtain ⟨vg, vc, rfl⟩ := own_some oo (by omega)))
  have oy := own_below K9.out.2.2 bb
  have y1 : w10.cell? ⟨yg, 1, none⟩ = some (I 1) := by rw [oy.cellAt _ (by omega)]; rfl
  have v0 : w10.cell? ⟨vg, 0, none⟩ = some (U 2) := by rw [oo.cellAt _ (by omega)]; rfl
  have BE : Hid (Below w.heap.size w w10) := K9.out.2.1.trans (bb.mono K9.out.2.1.size)
  clear oo bb oy K2 K3 K4 K5 K6 K7 K8 K9 NY HS
  go_wp2
  go_ret
  exact ⟨rfl, BE.out⟩
end Go.Proofs.YthhckhifaolmkaaGreat

namespace Go.Proofs.YthhckhifaolmkaaGreat
open Go.RowKit Go.ChangeShapes Go.WideShapes
set_option linter.unusedVariables false

/-! ### Calls that came in, opened -/
structure Ca where
  kind : Int
  n : Int
  a : Nat
  b : Nat
  g : Gt
def caV (x : Ca) (i : Nat) (u : Value) : Prop := match i with | 0 => u = I x.kind | 1 => u = I x.n | 2 => u = .int .u32 (x.a : Int) | 3 => u = .int .u32 (x.b : Int) | 4 => u = .bool x.g.shut | 5 => u = I x.g.all | _ => u = I x.g.os
def caP (x : Ca) (i : Nat) (u : Value) : Prop := caV x i u ∧ x.a < 4294967296 ∧ x.b < 4294967296
theorem p_gate : Tryz.prog.cellsOf 46 = 3 := by kernel_rfl
theorem p_call : Tryz.prog.cellsOf 48 = 7 := by kernel_rfl
theorem list7X {α : Type} : ∀ {l : List α}, l.length = 7 → ∃ a b c d e f g, l = [a, b, c, d, e, f, g]
  | [a, b, c, d, e, f, g], _ => ⟨a, b, c, d, e, f, g, rfl⟩
theorem list3X {α : Type} : ∀ {l : List α}, l.length = 3 → ∃ a b c, l = [a, b, c]
  | [a, b, c], _ => ⟨a, b, c, rfl⟩
theorem nat_u32X {a : Int} (h : (Lit.int .u32 a).wf = true) : ∃ n : Nat, a = n ∧ n < 4294967296 := by
  have := bounds_u32 h
  obtain ⟨n, rfl⟩ := Int.eq_ofNat_of_zero_le this.1
  exact ⟨n, rfl, by omega⟩
set_option maxRecDepth 100000 in
theorem gate_open {H : Type} {enc : TypeId × Value → H} {w : World} {spare : Nat → Bool} {held : Bool} {r : Reach} {b0 : Nat} {v : Value} {d : DataW H} {p : List MemPlace}
    (hv : Value.okWide Tryz.prog w r b0 46 v) (h : DataW.Trod enc Tryz.prog w 0 spare held 46 v d p) : ∃ (x : Bool) (a b : Int), v = .agg #[.bool x, I a, I b] := by
  obtain ⟨cs, rfl, hsz⟩ := okWide_struct Tryz.underlying46 hv
  rw [p_gate] at hsz
  obtain ⟨l⟩ := cs
  obtain ⟨c0, c1, c2, rfl⟩ := list3X (l := l) (by simpa using hsz)
  obtain ⟨fuel, hf⟩ := h
  obtain ⟨xs, n, hn, hx, hl, hlen, hfs⟩ := DataW.trod_struct Tryz.underlying46 hf
  match xs, hlen with
  | [y0, y1, y2], _ =>
    have h0 := hfs 0 _ rfl
    have h1 := hfs 1 _ rfl
    have h2 := hfs 2 _ rfl
    simp [p9_bool, p9_int, Value.cells] at h0 h1 h2
    obtain ⟨v0, e0, _⟩ := DataW.trod_bool Tryz.underlying4 h0
    obtain ⟨v1, e1, _, b1⟩ := DataW.trod_int Tryz.underlying3 h1
    obtain ⟨v2, e2, _, b2⟩ := DataW.trod_int Tryz.underlying3 h2
    simp at e0 e1 e2
    subst e0 e1 e2
    exact ⟨v0, v1, v2, rfl⟩
set_option maxRecDepth 100000 in
theorem one_call {H : Type} {enc : TypeId × Value → H} {w : World} {spare : Nat → Bool} {held : Bool} (n : Nat) (cs : List Value) (z : DataW H × List MemPlace) (hl : cs.length = 7) (h : DataW.trod enc Tryz.prog w 0 spare held n 48 cs = some z) : ∃ x : Ca, ∀ i, i < 7 → ∃ u, cs[i]? = some u ∧ caP x i u := by
  obtain ⟨c0, c1, c2, c3, c4, c5, c6, rfl⟩ := list7X hl
  obtain ⟨xs, n, hn, hx, hl, hlen, hfs⟩ := DataW.trod_struct Tryz.underlying48 h
  match xs, hlen with
  | [y0, y1, y2, y3, y4], _ =>
    have h0 := hfs 0 _ rfl
    have h1 := hfs 1 _ rfl
    have h2 := hfs 2 _ rfl
    have h3 := hfs 3 _ rfl
    have h4 := hfs 4 _ rfl
    simp [p_gate, p9_int, p9_uint32] at h0 h1 h2 h3 h4
    obtain ⟨v0, e0, _, b0⟩ := DataW.trod_int Tryz.underlying3 h0
    obtain ⟨v1, e1, _, b1⟩ := DataW.trod_int Tryz.underlying3 h1
    obtain ⟨v2, e2, _, b2⟩ := DataW.trod_int Tryz.underlying22 h2
    obtain ⟨v3, e3, _, b3⟩ := DataW.trod_int Tryz.underlying22 h3
    obtain ⟨zs, m2, _, _, _, zlen, zfs⟩ := DataW.trod_struct Tryz.underlying46 h4
    match zs, zlen with
    | [z2, z3, z4], _ =>
      have g2 := zfs 0 _ rfl
      have g3 := zfs 1 _ rfl
      have g4 := zfs 2 _ rfl
      simp [p9_int, p9_bool] at g2 g3 g4
      obtain ⟨v5, e5, _⟩ := DataW.trod_bool Tryz.underlying4 g2
      obtain ⟨v6, e6, _, b6⟩ := DataW.trod_int Tryz.underlying3 g3
      obtain ⟨v7, e7, _, b7⟩ := DataW.trod_int Tryz.underlying3 g4
      simp at e0 e1 e2 e3 e5 e6 e7
      subst e0 e1 e2 e3 e5 e6 e7
      obtain ⟨n2, rfl, q2⟩ := nat_u32X b2
      obtain ⟨n3, rfl, q3⟩ := nat_u32X b3
      refine ⟨⟨v0, v1, n2, n3, ⟨v5, v6, v7⟩⟩, fun i hi => ?_⟩
      match i, hi with
      | 0, _ => exact ⟨_, rfl, rfl, q2, q3⟩
      | 1, _ => exact ⟨_, rfl, rfl, q2, q3⟩
      | 2, _ => exact ⟨_, rfl, rfl, q2, q3⟩
      | 3, _ => exact ⟨_, rfl, rfl, q2, q3⟩
      | 4, _ => exact ⟨_, rfl, rfl, q2, q3⟩
      | 5, _ => exact ⟨_, rfl, rfl, q2, q3⟩
      | 6, _ => exact ⟨_, rfl, rfl, q2, q3⟩
end Go.Proofs.YthhckhifaolmkaaGreat

namespace Go.Proofs.YthhckhifaolmkaaGreat
open Go.RowKit Go.Shelf Go.Sort
open Go.Proofs.YthhckhifaolmkaaGreat.Cl (Fx Fz Ck Cb Alm psA dueA dueF U Q cP own_sl own_some own_below own_base inL ret_bool ret_int heap_lt iinfo cell_one_new take_snoc aftN)
set_option linter.unusedVariables false
set_option linter.unusedSimpArgs false

/-! ### TickExact: what stands between two calls -/
def ExS (cy T D : Nat) (s : Bs) : Prop := D = (if (s.a 0).1 = 0 then 0 else T + (s.a 0).1) ∧ ((s.a 0).1 ≠ 0 → (s.a 0).2 = cy) ∧ ((s.a 0).1 = 0 → (s.a 0).2 = 0)
def ExI (W0 w : World) (zn : Nat → Nat) (mx B : Nat) (p : Pl) (cy T D : Nat) : Prop := ∃ s, Bo w zn (oneT mx) B p s ∧ Below W0.heap.size W0 w ∧ ExS cy T D s ∧ ∀ b, zn b ≠ 0 → W0.heap.size ≤ b
section
variable {W0 w w' : World} {zn : Nat → Nat} {mx B : Nat} {p : Pl} {cy T D : Nat}
theorem ExI.below (h : ExI W0 w zn mx B p cy T D) (hb : Below w.heap.size w w') : ExI W0 w' zn mx B p cy T D := by
  obtain ⟨s, k, b, e, z⟩ := h
  exact ⟨s, k.below hb, b.trans (hb.mono b.size), e, z⟩
theorem ExI.step {s' : Bs} (k' : Bo w' zn (oneT mx) B p s') (b : Below W0.heap.size W0 w) (f : Fz (Wr zn) w w') (z : ∀ b, zn b ≠ 0 → W0.heap.size ≤ b) (e : ExS cy T D s') : ExI W0 w' zn mx B p cy T D :=
  ⟨s', k', b.trans (f.below b.size (fun x hx => z x (by rcases hx with h | h <;> omega))), e, z⟩
theorem eRel (h : ExI W0 w zn mx B p cy T D) (f c : Nat) (hf : f < 4294967296) : Calls Tryz.prog 11 #[bP B, I 1, U f, U c] w fun e w' => (∃ r, e = .returned (I r)) ∧ ExI W0 w' zn mx B p cy T D := by
  obtain ⟨s, k, b, e, z⟩ := h
  refine (bRel k 1 f c hf).mono ?_
  rintro e' w' ⟨rfl, k', f'⟩
  refine ⟨⟨_, rfl⟩, ExI.step k' b f' z ?_⟩
  unfold setT
  split
  · exact e
  · exact e
theorem eAbs (h : ExI W0 w zn mx B p cy T D) (f c : Nat) (hf : f < 4294967296) : Calls Tryz.prog 10 #[bP B, I 1, U f, U c] w fun e w' => (∃ r, e = .returned (I r)) ∧ ExI W0 w' zn mx B p cy T D := by
  obtain ⟨s, k, b, e, z⟩ := h
  refine (bAbs k 1 f c hf).mono ?_
  rintro e' w' ⟨rfl, k', f'⟩
  refine ⟨⟨_, rfl⟩, ExI.step k' b f' z ?_⟩
  unfold setT
  split
  · exact e
  · exact e
theorem eCancel (h : ExI W0 w zn mx B p cy T D) : Calls Tryz.prog 12 #[bP B, I 1] w fun e w' => (∃ r, e = .returned (I r)) ∧ ExI W0 w' zn mx B p cy T D := by
  obtain ⟨s, k, b, e, z⟩ := h
  refine (bCancel k 1).mono ?_
  rintro e' w' ⟨rfl, k', f'⟩
  refine ⟨⟨_, rfl⟩, ExI.step k' b f' z ?_⟩
  unfold canT
  split
  · exact e
  · exact e
theorem eReq (h : ExI W0 w zn mx B p cy T D) (n : Int) : Calls Tryz.prog 13 #[bP B, I n] w fun e w' => (∃ r, e = .returned (I r)) ∧ ExI W0 w' zn mx B p cy T D := by
  obtain ⟨s, k, b, e, z⟩ := h
  refine (bRequest k n).mono ?_
  rintro e' w' ⟨rfl, k', f'⟩
  refine ⟨⟨_, rfl⟩, ExI.step k' b f' z ?_⟩
  unfold reqT
  split
  · exact e
  · exact e
theorem eSer (h : ExI W0 w zn mx B p cy T D) (n : Int) : Calls Tryz.prog 14 #[bP B, I n] w fun e w' => (∃ r, e = .returned (I r)) ∧ ExI W0 w' zn mx B p cy T D := by
  obtain ⟨s, k, b, e, z⟩ := h
  refine (bServe k n).mono ?_
  rintro e' w' ⟨rfl, k', f'⟩
  refine ⟨⟨_, rfl⟩, ExI.step k' b f' z ?_⟩
  unfold serT
  split
  · exact e
  · exact e
theorem eLeft (h : ExI W0 w zn mx B p cy T D) : Calls Tryz.prog 15 #[bP B, I 0] w fun e w' => ∃ lf : Nat, e = .returned (.tuple #[U lf, I (if D = 0 then 5 else 0)]) ∧ lf ≤ 2147483648 ∧ (D ≠ 0 → D = T + lf) ∧ ExI W0 w' zn mx B p cy T D := by
  obtain ⟨s, k, b, e, z⟩ := h
  have hl := k.lim (j := 0) (by show 0 < 2; omega)
  refine (bLeft k 0).mono ?_
  rintro e' w' ⟨rfl, b'⟩
  have e1 : lftB (oneT mx) s 0 = (s.a 0).1 := rfl
  have e2 : getB (oneT mx) s 0 = if (s.a 0).1 = 0 then 5 else 0 := rfl
  have hD := e.1
  refine ⟨(s.a 0).1, ?_, hl.1, fun hne => ?_, ⟨s, k.below b', b.trans (b'.mono b.size), e, z⟩⟩
  · rw [e1, e2]
    by_cases h0 : (s.a 0).1 = 0
    · rw [if_pos h0] at hD ⊢
      rw [if_pos hD]
    · rw [if_neg h0] at hD ⊢
      rw [if_neg (by omega)]
  · by_cases h0 : (s.a 0).1 = 0
    · rw [if_pos h0] at hD; exact absurd hD hne
    · rw [if_neg h0] at hD; exact hD
/-- what is due behind a tick -/
def dueN (cy T D : Nat) : Nat := if D ≠ 0 ∧ T + 1 = D then (if cy = 0 then 0 else T + 1 + cy) else D
theorem exp_one (a : Nat → Alm) : expL (oneT mx) a 0 = (if dueA 1 (a 0) then [0] else []) ++ (if dueA 1 (a 1) then [1] else []) := by
  have : idxA (oneT mx) 0 = [0, 1] := rfl
  unfold expL
  rw [this]
  cases h0 : dueA 1 (a 0) <;> cases h1 : dueA 1 (a 1) <;> simp [h0, h1]
theorem eTick (h : ExI W0 w zn mx B p cy T D) : Calls Tryz.prog 9 #[bP B, I 0] w fun e w' => ∃ a n c, e = .returned (.tuple #[.slice a n c, I 0]) ∧ ((D ≠ 0 ∧ T + 1 = D) → ∃ g, a = some ⟨g, 0, none⟩ ∧ 0 < n ∧ w'.cell? ⟨g, 0, none⟩ = some (I 0)) ∧ (¬ (D ≠ 0 ∧ T + 1 = D) → n = 0 ∨ ∃ g, a = some ⟨g, 0, none⟩ ∧ 0 < n ∧ w'.cell? ⟨g, 0, none⟩ = some (I 1)) ∧ ExI W0 w' zn mx B p cy (T + 1) (dueN cy T D) := by
  obtain ⟨s, k, b, e, z⟩ := h
  refine (bTick k 0).mono ?_
  rintro e' w' ⟨u, rfl, o, k', f'⟩
  obtain ⟨hD, hc, hz⟩ := e
  have el : tckL (oneT mx) s 0 = (if dueA 1 (s.a 0) then [0] else []) ++ (if dueA 1 (s.a 1) then [1] else []) := exp_one s.a
  have hdu : dueA 1 (s.a 0) = decide (D ≠ 0 ∧ T + 1 = D) := by
    unfold dueA
    rw [Bool.eq_iff_iff]
    simp only [Bool.and_eq_true, decide_eq_true_eq]
    by_cases h0 : (s.a 0).1 = 0
    · rw [if_pos h0] at hD; constructor <;> intro hh <;> omega
    · rw [if_neg h0] at hD; constructor <;> intro hh <;> omega
  rw [el] at o
  obtain ⟨ua, uc, rfl⟩ := own_sl o
  refine ⟨ua, _, uc, rfl, fun hd => ?_, fun hd => ?_, ExI.step k' b f' z ?_⟩
  · rw [show dueA 1 (s.a 0) = true by rw [hdu]; simpa using hd] at o ⊢
    obtain ⟨g, c, eg⟩ := own_some o (by simp)
    cases eg
    exact ⟨g, rfl, by simp, by rw [o.cellAt 0 (by simp)]; rfl⟩
  · rw [show dueA 1 (s.a 0) = false by rw [hdu]; simpa using hd] at o ⊢
    cases h1 : dueA 1 (s.a 1) with
    | false => exact .inl rfl
    | true =>
      rw [h1] at o
      obtain ⟨g, c, eg⟩ := own_some o (by simp)
      cases eg
      exact .inr ⟨g, rfl, by simp, by rw [o.cellAt 0 (by simp)]; rfl⟩
  · have ea : (tckA (oneT mx) s 0).a 0 = psA 1 (s.a 0) := rfl
    unfold ExS
    rw [ea]
    unfold psA dueN
    by_cases h0 : (s.a 0).1 = 0
    · rw [if_pos h0] at hD ⊢
      rw [if_neg (by omega), if_pos h0]
      exact ⟨hD, fun hh => absurd h0 hh, hz⟩
    · rw [if_neg h0] at hD ⊢
      have hcy := hc h0
      by_cases h1 : (s.a 0).1 - 1 = 0
      · rw [if_pos h1, if_pos (by omega), hcy]
        exact ⟨rfl, fun _ => rfl, fun hh => hh⟩
      · rw [if_neg h1, if_neg (by omega), if_neg (by show ¬ (s.a 0).1 - 1 = 0; exact h1)]
        refine ⟨?_, fun _ => hcy, fun hh => absurd hh h1⟩
        show D = T + 1 + ((s.a 0).1 - 1)
        omega
end
/-! ### ahead -/
def AhI (W0 w : World) (zn : Nat → Nat) (mx B : Nat) (p : Pl) (k : Nat) : Prop := ∃ s, Bo w zn (oneT mx) B p s ∧ Below W0.heap.size W0 w ∧ s.v 0 = k % (mx + 1) ∧ s.a 0 = (0, 0) ∧ ∀ b, zn b ≠ 0 → W0.heap.size ≤ b
section
variable {W0 w w' : World} {zn : Nat → Nat} {mx B : Nat} {p : Pl} {k : Nat}
theorem aTick (h : AhI W0 w zn mx B p k) (hm : 1 ≤ mx) : Calls Tryz.prog 9 #[bP B, I 0] w fun e w' => (∃ u, e = .returned (.tuple #[u, I 0])) ∧ AhI W0 w' zn mx B p (k + 1) := by
  obtain ⟨s, bo, b, hv, ha, z⟩ := h
  refine (bTick bo 0).mono ?_
  rintro e' w' ⟨u, rfl, o, k', f'⟩
  refine ⟨⟨u, rfl⟩, _, k', b.trans (f'.below b.size (fun x hx => z x (by rcases hx with h | h <;> omega))), ?_, ?_, z⟩
  · show Cl.aftN mx (s.v 0) 1 = _
    unfold Cl.aftN
    have h1 := Nat.mod_lt k (show 0 < mx + 1 by omega)
    rw [hv, Nat.min_eq_left (by omega), Nat.mod_eq_of_lt (show 1 < mx + 1 by omega), Nat.mod_add_mod]
  · show psA 1 (s.a 0) = _
    rw [ha]
    rfl
theorem aRel (h : AhI W0 w zn mx B p k) (d cy : Nat) (hd : d < 4294967296) : Calls Tryz.prog 11 #[bP B, I 0, U d, U cy] w fun e w' => e = .returned (I (if 1 ≤ d ∧ d ≤ mx ∧ cy ≤ mx then 0 else 8)) ∧ Below W0.heap.size W0 w' ∧ ((1 ≤ d ∧ d ≤ mx ∧ cy ≤ mx) → ExI W0 w' zn mx B p cy 0 d) := by
  obtain ⟨s, bo, b, hv, ha, z⟩ := h
  refine (bRel bo 0 d cy hd).mono ?_
  rintro e' w' ⟨rfl, k', f'⟩
  have bb := b.trans (f'.below b.size (fun x hx => z x (by rcases hx with h | h <;> omega)))
  have em : Cl.relB (ctA (oneT mx) 0).min (ctA (oneT mx) 0).max d cy = decide (1 ≤ d ∧ d ≤ mx ∧ cy ≤ mx) := by
    show Cl.relB 1 mx d cy = _
    unfold Cl.relB Cl.mcB
    rw [Bool.eq_iff_iff]
    simp
    omega
  have es : ∀ m, setB (oneT mx) s 0 m = if m then 0 else 8 := fun m => by
    show (if (s.a 0).1 ≠ 0 then (7 : Int) else if m then 0 else 8) = _
    rw [ha]
    rfl
  rw [em] at k' ⊢
  rw [es]
  refine ⟨by simp, bb, fun hc => ⟨_, k', bb, ?_, z⟩⟩
  have e2 : setT (oneT mx) s 0 (decide (1 ≤ d ∧ d ≤ mx ∧ cy ≤ mx)) (d, cy) = ⟨s.v, upN s.a 0 (d, cy), s.q⟩ := by
    unfold setT
    rw [es, if_pos (by simp [hc])]
    rfl
  rw [e2]
  unfold ExS
  simp only [upN_same]
  exact ⟨by rw [if_neg (by omega)]; omega, fun _ => by first | rfl | trivial, fun hh => by omega⟩
theorem aAbs (h : AhI W0 w zn mx B p k) (hm : 1 ≤ mx) (d cy : Nat) (hd : d < 4294967296) : Calls Tryz.prog 10 #[bP B, I 0, U d, U cy] w fun e w' => e = .returned (I (if d ≤ mx ∧ cy ≤ mx then 0 else 8)) ∧ Below W0.heap.size W0 w' ∧ ((d ≤ mx ∧ cy ≤ mx) → ExI W0 w' zn mx B p cy 0 ((d + mx - k % (mx + 1)) % (mx + 1) + 1)) := by
  obtain ⟨s, bo, b, hv, ha, z⟩ := h
  refine (bAbs bo 0 d cy hd).mono ?_
  rintro e' w' ⟨rfl, k', f'⟩
  have bb := b.trans (f'.below b.size (fun x hx => z x (by rcases hx with h | h <;> omega)))
  have em : Cl.absB (ctA (oneT mx) 0).min (ctA (oneT mx) 0).max d cy = decide (d ≤ mx ∧ cy ≤ mx) := by
    show Cl.absB 1 mx d cy = _
    unfold Cl.absB Cl.mcB
    rw [Bool.eq_iff_iff]
    simp
    omega
  have es : ∀ m, setB (oneT mx) s 0 m = if m then 0 else 8 := fun m => by
    show (if (s.a 0).1 ≠ 0 then (7 : Int) else if m then 0 else 8) = _
    rw [ha]
    rfl
  rw [em] at k' ⊢
  rw [es]
  refine ⟨by simp, bb, fun hc => ⟨_, k', bb, ?_, z⟩⟩
  have e2 : ∀ y, setT (oneT mx) s 0 (decide (d ≤ mx ∧ cy ≤ mx)) y = ⟨s.v, upN s.a 0 y, s.q⟩ := fun y => by
    unfold setT
    rw [es, if_pos (by simp [hc])]
    rfl
  rw [e2]
  unfold ExS
  simp only [upN_same]
  have e3 : Cl.untN (ctA (oneT mx) 0).max (s.v (ctrN (oneT mx) (0 : Int).toNat)) d = (d + mx - k % (mx + 1)) % (mx + 1) + 1 := by
    show Cl.untN mx (s.v 0) d = _
    have h1 := Nat.mod_lt k (show 0 < mx + 1 by omega)
    rw [hv]
    generalize k % (mx + 1) = nw at *
    unfold Cl.untN
    rw [Nat.min_eq_left (by omega), Nat.min_eq_left (by omega)]
    by_cases hlt : nw < d
    · rw [if_pos hlt]
      have : d + mx - nw = (d - nw - 1) + (mx + 1) := by omega
      rw [this, Nat.add_mod_right, Nat.mod_eq_of_lt (by omega)]
      omega
    · rw [if_neg hlt, Nat.mod_eq_of_lt (by omega)]
      omega
  rw [e3]
  exact ⟨by rw [if_neg (by omega)]; omega, fun _ => by first | rfl | trivial, fun hh => by omega⟩
end
end Go.Proofs.YthhckhifaolmkaaGreat

namespace Go.Proofs.YthhckhifaolmkaaGreat
open Go.RowKit Go.Shelf Go.Sort
open Go.Proofs.YthhckhifaolmkaaGreat.Cl (Fx Fz Ck Cb Alm psA dueA dueF U Q cP own_sl own_some own_below own_base inL ret_bool ret_int heap_lt iinfo cell_one_new take_snoc aftN)
set_option linter.unusedVariables false
set_option linter.unusedSimpArgs false
theorem ah50 (ah : Int) : ∃ N : Nat, N < 50 ∧ wrap64 ((IntKind.u64.wrap ah).tmod 50) = (N : Int) := by
  have h0 : IntKind.u64.wrap ah = ah % 18446744073709551616 := by simp [IntKind.wrap, IntKind.bits, IntKind.signed]
  have h1 : 0 ≤ ah % 18446744073709551616 := by omega
  rw [h0, Int.tmod_eq_emod_of_nonneg h1]
  refine ⟨((ah % 18446744073709551616) % 50).toNat, by omega, ?_⟩
  have : wrap64 ((ah % 18446744073709551616) % 50) = (ah % 18446744073709551616) % 50 := by
    unfold wrap64
    omega
  rw [this]
  omega
theorem due64 {d mx nw : Nat} (hd : d ≤ mx) (hm : mx ≤ 2147483647) (hn : nw ≤ mx) : IntKind.u64.wrap (((d : Int) + mx - nw) % ((mx : Int) + 1) + 1) = (((d + mx - nw) % (mx + 1) + 1 : Nat) : Int) := by
  have e1 : (d : Int) + mx - nw = ((d + mx - nw : Nat) : Int) := by omega
  have e2 : ((d + mx - nw : Nat) : Int) % ((mx : Int) + 1) = (((d + mx - nw) % (mx + 1) : Nat) : Int) := by norm_cast
  have := Nat.mod_lt (d + mx - nw) (show 0 < mx + 1 by omega)
  rw [e1, e2, Cl.w64 (by omega) (by omega)]
  omega
theorem calls_cell {w : World} {sc : Sl} {l : List Ca} (h : RowsAt w 7 caP sc l) {k : Nat} {x : Ca} (hx : l[k]? = some x) : ∃ g off, sc.a = some ⟨g, off, none⟩ ∧ x.a < 4294967296 ∧ x.b < 4294967296 ∧ ∀ W, Below w.heap.size w W → W.cell? ⟨g, off + k * 7, none⟩ = some (I x.kind) ∧ W.cell? ⟨g, off + k * 7 + 1, none⟩ = some (I x.n) ∧ W.cell? ⟨g, off + k * 7 + 2, none⟩ = some (U x.a) ∧ W.cell? ⟨g, off + k * 7 + 3, none⟩ = some (U x.b) ∧ W.cell? ⟨g, off + k * 7 + 4, none⟩ = some (.bool x.g.shut) ∧ W.cell? ⟨g, off + k * 7 + 5, none⟩ = some (I x.g.all) ∧ W.cell? ⟨g, off + k * 7 + 6, none⟩ = some (I x.g.os) := by
  obtain ⟨g, off, e, hg, hr⟩ := h.row k x hx
  obtain ⟨u0, c0, p0, q1, q2⟩ := hr 0 (by omega)
  obtain ⟨u1, c1, p1, -⟩ := hr 1 (by omega)
  obtain ⟨u2, c2, p2, -⟩ := hr 2 (by omega)
  obtain ⟨u3, c3, p3, -⟩ := hr 3 (by omega)
  obtain ⟨u4, c4, p4, -⟩ := hr 4 (by omega)
  obtain ⟨u5, c5, p5, -⟩ := hr 5 (by omega)
  obtain ⟨u6, c6, p6, -⟩ := hr 6 (by omega)
  have e0 : u0 = I x.kind := p0
  have e1 : u1 = I x.n := p1
  have e2 : u2 = U x.a := p2
  have e3 : u3 = U x.b := p3
  have e4 : u4 = .bool x.g.shut := p4
  have e5 : u5 = I x.g.all := p5
  have e6 : u6 = I x.g.os := p6
  subst e0 e1 e2 e3 e4 e5 e6
  refine ⟨g, off, e, q1, q2, fun W hb => ?_⟩
  have hk : ∀ j v, w.cell? ⟨g, j, none⟩ = some v → W.cell? ⟨g, j, none⟩ = some v := fun j v hv => (World.cell?_of_block (hb.block g hg)).trans hv
  exact ⟨hk _ _ c0, hk _ _ c1, hk _ _ c2, hk _ _ c3, hk _ _ c4, hk _ _ c5, hk _ _ c6⟩
theorem now32 (k mx : Nat) (h : mx ≤ 2147483647) : (k : Int) % ((mx : Int) + 1) % 4294967296 = ((k % (mx + 1) : Nat) : Int) := by
  have e : (k : Int) % ((mx : Int) + 1) = ((k % (mx + 1) : Nat) : Int) := by norm_cast
  have := Nat.mod_lt k (show 0 < mx + 1 by omega)
  rw [e]
  omega
set_option maxRecDepth 100000 in
set_option maxHeartbeats 16000000 in
theorem exact_no (w : World) (mx : Nat) (hmx : mx < 4294967296) (ah : Int) (d cy : Nat) (by' : Bool) (sc : Sl) (hn : ¬ (1 ≤ mx ∧ mx ≤ 2147483647)) : Calls Tryz.prog 3 #[U mx, I ah, U d, U cy, .bool by', slT sc] w fun e w' => e = .returned (.bool true) ∧ Below w.heap.size w w' := by
  have hH := heads21 w
  have hc : chkP (oneT mx) = false := by rw [one_chk]; by_cases h1 : 1 ≤ mx <;> simp [h1]; omega
  by_cases h1 : mx < 1
  · have i1 : (mx : Int) < 1 := by omega
    go_enter Tryz.func3, Tryz.ntmps3
    go_wp2_with (first
      | (go_at_call 6; refine hH.mono ?_; clear hH; rintro e w1 ⟨rfl, b1⟩; have hO := One_any w1 mx)
      | (go_at_call 8; refine hO.mono ?_; clear hO; rintro e w2 ⟨v, rfl, ht, b2⟩; have hN := bNew_no ht (one_wf hmx) hc)
      | (go_at_call 7; refine hN.mono ?_; clear hN; rintro e w3 ⟨rfl, b3⟩))
    go_ret
    exact ⟨rfl, b1.trans ((b2.trans (b3.mono b2.size)).mono b1.size)⟩
  · have i1 : ¬ ((mx : Int) < 1) := by omega
    have i2 : (2147483647 : Int) < mx := by omega
    go_enter Tryz.func3, Tryz.ntmps3
    go_wp2_with (first
      | (go_at_call 6; refine hH.mono ?_; clear hH; rintro e w1 ⟨rfl, b1⟩; have hO := One_any w1 mx)
      | (go_at_call 8; refine hO.mono ?_; clear hO; rintro e w2 ⟨v, rfl, ht, b2⟩; have hN := bNew_no ht (one_wf hmx) hc)
      | (go_at_call 7; refine hN.mono ?_; clear hN; rintro e w3 ⟨rfl, b3⟩))
    go_ret
    exact ⟨rfl, b1.trans ((b2.trans (b3.mono b2.size)).mono b1.size)⟩
set_option maxRecDepth 100000 in
set_option maxHeartbeats 16000000 in
theorem exact_ok (w : World) (mx : Nat) (hmx : mx < 4294967296) (ah : Int) (d : Nat) (hd : d < 4294967296) (cy : Nat) (hcy : cy < 4294967296) (by' : Bool) (sc : Sl) (l : List Ca) (hl : RowsAt w 7 caP sc l) (hlen : l.length ≤ 281474976710656) (h1 : 1 ≤ mx) (h2 : mx ≤ 2147483647) : Calls Tryz.prog 3 #[U mx, I ah, U d, U cy, .bool by', slT sc] w fun e w' => e = .returned (.bool true) ∧ Below w.heap.size w w' := by
  have hH := heads21 w
  have i1 : ¬ ((mx : Int) < 1) := by omega
  have i2 : ¬ ((2147483647 : Int) < mx) := by omega
  obtain ⟨N, hN50, hNe⟩ := ah50 ah
  go_enter Tryz.func3, Tryz.ntmps3
  go_upto_region 10 with (first
    | (go_at_call 6; refine hH.mono ?_; clear hH; rintro e w1 ⟨rfl, b1⟩; have hO := One_any w1 mx)
    | (go_at_call 8; refine hO.mono ?_; clear hO; rintro e w2 ⟨v, rfl, ht, b2⟩; have hNw := bNew_ok ht (one_wf hmx) (by rw [one_chk]; simp; omega))
    | (go_at_call 7; refine hNw.mono ?_; clear hNw; rintro e w3 ⟨B, rfl, p, zn, h3, z3, b3⟩))
  have B2 := b1.trans (b2.mono b1.size)
  have H3 : Hid (AhI w w3 zn mx B p 0) := ⟨newT, h3, B2.trans (b3.mono B2.size), (Nat.zero_mod _).symm, rfl, fun b e => Nat.le_trans B2.size (z3 b e)⟩
  have HL : Hid (RowsAt w 7 caP sc l ∧ l.length ≤ 281474976710656) := ⟨hl, hlen⟩
  clear ht b1 b2 b3 z3 h3 B2 hl hlen
  rw [hNe]
  clear hNe
  go_wp2
  go_loopw [18] (fun v18 wr => ∃ k : Nat, k ≤ N ∧ v18 = I k ∧ Hid (AhI w wr zn mx B p k)) (fun v18 _ => N - (intOf v18).toNat)
  case atStart => exact ⟨0, by omega, rfl, H3.out⟩
  case round =>
    clear H3
    obtain ⟨k, hk, rfl, HJ⟩ := hrel
    by_cases hlt : k < N
    · have hltI : (k : Int) < N := by omega
      have hT := aTick HJ.out h1
      go_wp2_with (first | (go_at_call 9; refine hT.mono ?_; clear hT; rintro e w4 ⟨⟨u4, rfl⟩, A4⟩; have H4 : Hid (AhI w w4 zn mx B p (k + 1)) := A4; clear A4))
      go_roundw
      case rel => exact ⟨k + 1, by omega, by go_num, H4.out⟩
      case measure => simp [intOf]; omega
    · obtain rfl : k = N := by omega
      have hge : ¬ ((k : Int) < k) := by omega
      go_upto_region 16 with fail
      rw [now32 k mx h2]
      have HJ2 : Hid (AhI w wr zn mx B p k) := HJ.out
      clear HJ
      have hnw : k % (mx + 1) ≤ mx := by have := Nat.mod_lt k (show 0 < mx + 1 by omega); omega
      generalize hnwe : k % (mx + 1) = nw at *
      have HNW : Hid (k % (mx + 1) = nw) := hnwe
      clear hnwe hge
      go_upto_if 80 with fail
      go_cut [20, 21, 22] from 81 to 130 (fun s20 _ _ wx => ∃ D : Nat, D ≤ 4294967296 ∧ s20 = Q D ∧ Hid (ExI w wx zn mx B p cy 0 D))
      case first =>
        cases by' with
        | true =>
          have hA := aAbs HJ2.out h1 d cy hd
          rw [HNW.out] at hA
          by_cases hc : d ≤ mx ∧ cy ≤ mx
          · rw [if_pos hc] at hA
            have j1 : ¬ ((mx : Int) < d) := by omega
            have j2 : ¬ ((mx : Int) < cy) := by omega
            go_wp2_with (first | (go_at_call 10; refine hA.mono ?_; clear hA; rintro e w4 ⟨rfl, b4, E4⟩; have H4 : Hid (ExI w w4 zn mx B p cy 0 ((d + mx - nw) % (mx + 1) + 1)) := E4 hc; clear b4 E4))
            go_meet
            case rel => exact ⟨(d + mx - nw) % (mx + 1) + 1, by have := Nat.mod_lt (d + mx - nw) (show 0 < mx + 1 by omega); omega, by rw [due64 hc.1 h2 hnw], H4.out⟩
          · rw [if_neg hc] at hA
            by_cases j1 : (mx : Int) < d
            · go_wp2_with (first | (go_at_call 10; refine hA.mono ?_; clear hA; rintro e w4 ⟨rfl, b4, E4⟩))
              go_ret
              exact ⟨rfl, b4⟩
            · have j2 : (mx : Int) < cy := by omega
              go_wp2_with (first | (go_at_call 10; refine hA.mono ?_; clear hA; rintro e w4 ⟨rfl, b4, E4⟩))
              go_ret
              exact ⟨rfl, b4⟩
        | false =>
          have hA := aRel HJ2.out d cy hd
          by_cases hc : 1 ≤ d ∧ d ≤ mx ∧ cy ≤ mx
          · rw [if_pos hc] at hA
            have j0 : ¬ ((d : Int) < 1) := by omega
            have j1 : ¬ ((mx : Int) < d) := by omega
            have j2 : ¬ ((mx : Int) < cy) := by omega
            go_wp2_with (first | (go_at_call 11; refine hA.mono ?_; clear hA; rintro e w4 ⟨rfl, b4, E4⟩; have H4 : Hid (ExI w w4 zn mx B p cy 0 d) := E4 hc; clear b4 E4))
            go_meet
            case rel => exact ⟨d, by omega, rfl, H4.out⟩
          · rw [if_neg hc] at hA
            by_cases j0 : (d : Int) < 1
            · go_wp2_with (first | (go_at_call 11; refine hA.mono ?_; clear hA; rintro e w4 ⟨rfl, b4, E4⟩))
              go_ret
              exact ⟨rfl, b4⟩
            · by_cases j1 : (mx : Int) < d
              · go_wp2_with (first | (go_at_call 11; refine hA.mono ?_; clear hA; rintro e w4 ⟨rfl, b4, E4⟩))
                go_ret
                exact ⟨rfl, b4⟩
              · have j2 : (mx : Int) < cy := by omega
                go_wp2_with (first | (go_at_call 11; refine hA.mono ?_; clear hA; rintro e w4 ⟨rfl, b4, E4⟩))
                go_ret
                exact ⟨rfl, b4⟩
      obtain ⟨D0, hD0, rfl, HD0⟩ := hcut
      clear HJ2 HNW hnw
      obtain ⟨sa, sn, scc⟩ := sc
      obtain ⟨hl, hlen⟩ := HL.out
      have hsn : sn = l.length := hl.n
      have HSN : Hid (sn = l.length) := hsn
      have hs48 : sn ≤ 281474976710656 := by omega
      clear hl hlen hsn
      rw [show slT ⟨sa, sn, scc⟩ = .slice sa sn scc from rfl]
      go_wp2
      go_loopw [20, 23, 24, 25, 26, 27, 28, 29, 30, 31] (fun v20 v23 v24 _ _ _ _ _ _ _ wr => ∃ i T D : Nat, i ≤ sn ∧ T ≤ i ∧ D ≤ i + 4294967296 ∧ v24 = I i ∧ v23 = Q T ∧ v20 = Q D ∧ Hid (ExI w wr zn mx B p cy T D)) (fun _ _ v24 _ _ _ _ _ _ _ _ => sn - (intOf v24).toNat)
      case atStart => exact ⟨0, 0, D0, by omega, by omega, by omega, rfl, rfl, rfl, HD0.out⟩
      case round =>
        clear HD0
        obtain ⟨i, T, D, hi, hT, hD, rfl, rfl, rfl, HJ⟩ := hrel
        by_cases hlt : i < sn
        · have hltI : (i : Int) < sn := by omega
          obtain ⟨x, hx⟩ : ∃ x, l[i]? = some x := ⟨_, List.getElem?_eq_getElem (by rw [← HSN.out]; exact hlt)⟩
          obtain ⟨g, off, ea, xa, xb, hc⟩ := calls_cell HL.out.1 hx
          obtain ⟨x0, x1, x2, x3, x4, x5, x6⟩ := hc wr (by obtain ⟨s0, -, bb, -⟩ := HJ.out; exact bb)
          have ea' : sa = some ⟨g, off, none⟩ := ea
          clear hc hx ea
          subst ea'
          go_upto_block 4 with fail
          have HJ1 : Hid (ExI w (wr.alloc (.cells #[I x.kind, I x.n, U x.a, U x.b, .bool x.g.shut, I x.g.all, I x.g.os] 48)) zn mx B p cy T D) := HJ.out.below (below_alloc _ _)
          have hv := heap_alloc_new wr (.cells #[I x.kind, I x.n, U x.a, U x.b, .bool x.g.shut, I x.g.all, I x.g.os] 48)
          clear x0 x1 x2 x3 x4 x5 x6 HJ
          generalize wr.alloc (.cells #[I x.kind, I x.n, U x.a, U x.b, .bool x.g.shut, I x.g.all, I x.g.os] 48) = wx at *
          generalize wr.heap.size = X at *
          have y1 : wx.cell? ⟨X, 1, none⟩ = some (I x.n) := by rw [cell_of_row _ _ _ _ _ (0, 0) hv]; rfl
          have y2 : wx.cell? ⟨X, 2, none⟩ = some (U x.a) := by rw [cell_of_row _ _ _ _ _ (0, 0) hv]; rfl
          have y3 : wx.cell? ⟨X, 3, none⟩ = some (U x.b) := by rw [cell_of_row _ _ _ _ _ (0, 0) hv]; rfl
          clear hv
          go_cut [20, 23, 26, 27, 28, 29] from 142 to 213 (fun s20 s23 _ _ _ _ wq => ∃ T D : Nat, T ≤ i + 1 ∧ D ≤ i + 1 + 4294967296 ∧ s23 = Q T ∧ s20 = Q D ∧ Hid (ExI w wq zn mx B p cy T D))
          case first =>
            generalize hkd : x.kind = kd at *
            clear hkd
            have HT0 : Hid (T ≤ i ∧ D ≤ i + 4294967296 ∧ i < sn) := ⟨hT, hD, hlt⟩
            have hT48 : T ≤ 281474976710656 := by omega
            have hD50 : D ≤ 1125899906842624 := by omega
            by_cases k1 : kd = 1
            · subst k1
              have hTk := eTick HJ1.out
              by_cases hw : D ≠ 0 ∧ T + 1 = D
              · have hT1 : T + 1 = D := hw.2
                have e2 : dueN cy T D = if cy = 0 then 0 else T + 1 + cy := by unfold dueN; rw [if_pos hw]
                rw [e2] at hTk
                clear e2
                subst hT1
                have j0 : ((T : Int) + 1 != 0) = true := by have : ¬ ((T : Int) + 1 = 0) := by omega
                                                            simpa using this
                have j3 : ¬ ((T : Int) + 1 = 0) := by omega
                by_cases hcz : cy = 0
                · subst hcz
                  rw [if_pos rfl] at hTk
                  go_wp2_with (first | (go_at_call 9; refine hTk.mono ?_; clear hTk; rintro e w5 ⟨a5, n5, c5, rfl, h5, -, E5⟩; obtain ⟨g5, rfl, hn5, q5⟩ := h5 hw; have H5 : Hid (ExI w w5 zn mx B p 0 (T + 1) 0) := E5; have hn5I : (0 : Int) < n5 := (by omega); clear E5 h5 hw))
                  go_meet
                  case rel => exact ⟨T + 1, 0, by have := HT0.out; omega, by omega, by go_num, by first | rfl | go_num, H5.out⟩
                · rw [if_neg hcz] at hTk
                  have hcp : (0 : Int) < cy := by omega
                  go_wp2_with (first | (go_at_call 9; refine hTk.mono ?_; clear hTk; rintro e w5 ⟨a5, n5, c5, rfl, h5, -, E5⟩; obtain ⟨g5, rfl, hn5, q5⟩ := h5 hw; have H5 : Hid (ExI w w5 zn mx B p cy (T + 1) (T + 1 + cy)) := E5; have hn5I : (0 : Int) < n5 := (by omega); clear E5 h5 hw))
                  go_meet
                  case rel => exact ⟨T + 1, T + 1 + cy, by have := HT0.out; omega, by have := HT0.out; omega, by go_num, by go_num, H5.out⟩
              · have e2 : dueN cy T D = D := by unfold dueN; rw [if_neg hw]
                rw [e2] at hTk
                clear e2
                by_cases hz : D = 0
                · subst hz
                  go_wp2_with (first | (go_at_call 9; refine hTk.mono ?_; clear hTk; rintro e w5 ⟨a5, n5, c5, rfl, -, h5, E5⟩; have H5 : Hid (ExI w w5 zn mx B p cy (T + 1) 0) := E5; have H6 := h5 hw; clear E5 h5 hw; rcases H6 with rfl | ⟨g5, rfl, hn5, q5⟩))
                  · go_meet
                    case rel => exact ⟨T + 1, 0, by have := HT0.out; omega, by omega, by go_num, by first | rfl | go_num, H5.out⟩
                  · have hn5I : (0 : Int) < n5 := by omega
                    go_wp2
                    go_meet
                    case rel => exact ⟨T + 1, 0, by have := HT0.out; omega, by omega, by go_num, by first | rfl | go_num, H5.out⟩
                · have hzI : ¬ ((D : Int) = 0) := by omega
                  have hne : ¬ ((T : Int) + 1 = D) := by omega
                  have hneN : ¬ (T + 1 = D) := by omega
                  have hzB : ((D : Int) != 0) = true := by simpa using hzI
                  have hneB : ((T : Int) + 1 == D) = false := by simpa using hne
                  go_wp2_with (first | (go_at_call 9; refine hTk.mono ?_; clear hTk; rintro e w5 ⟨a5, n5, c5, rfl, -, h5, E5⟩; have H5 : Hid (ExI w w5 zn mx B p cy (T + 1) D) := E5; have H6 := h5 hw; clear E5 h5 hw; rcases H6 with rfl | ⟨g5, rfl, hn5, q5⟩))
                  · go_meet
                    case rel => exact ⟨T + 1, D, by have := HT0.out; omega, by have := HT0.out; omega, by go_num, rfl, H5.out⟩
                  · have hn5I : (0 : Int) < n5 := by omega
                    go_wp2
                    go_meet
                    case rel => exact ⟨T + 1, D, by have := HT0.out; omega, by have := HT0.out; omega, by go_num, rfl, H5.out⟩
            · by_cases k4 : kd = 4
              · subst k4
                have r1 := eRel HJ1.out x.a x.b xa
                go_wp2_with (first | (go_at_call 11; refine r1.mono ?_; clear r1; rintro e w4 ⟨⟨s4, rfl⟩, E4⟩; have H4 : Hid (ExI w w4 zn mx B p cy T D) := E4; clear E4))
                go_meet
                case rel => exact ⟨T, D, by omega, by omega, rfl, rfl, H4.out⟩
              · by_cases k5 : kd = 5
                · subst k5
                  have r1 := eAbs HJ1.out x.a x.b xa
                  go_wp2_with (first | (go_at_call 10; refine r1.mono ?_; clear r1; rintro e w4 ⟨⟨s4, rfl⟩, E4⟩; have H4 : Hid (ExI w w4 zn mx B p cy T D) := E4; clear E4))
                  go_meet
                  case rel => exact ⟨T, D, by omega, by omega, rfl, rfl, H4.out⟩
                · by_cases k6 : kd = 6
                  · subst k6
                    have r1 := eCancel HJ1.out
                    go_wp2_with (first | (go_at_call 12; refine r1.mono ?_; clear r1; rintro e w4 ⟨⟨s4, rfl⟩, E4⟩; have H4 : Hid (ExI w w4 zn mx B p cy T D) := E4; clear E4))
                    go_meet
                    case rel => exact ⟨T, D, by omega, by omega, rfl, rfl, H4.out⟩
                  · by_cases k8 : kd = 8
                    · subst k8
                      have r1 := eReq HJ1.out x.n
                      go_wp2_with (first | (go_at_call 13; refine r1.mono ?_; clear r1; rintro e w4 ⟨⟨s4, rfl⟩, E4⟩; have H4 : Hid (ExI w w4 zn mx B p cy T D) := E4; clear E4))
                      go_meet
                      case rel => exact ⟨T, D, by omega, by omega, rfl, rfl, H4.out⟩
                    · by_cases k10 : kd = 10
                      · subst k10
                        have r1 := eSer HJ1.out x.n
                        go_wp2_with (first | (go_at_call 14; refine r1.mono ?_; clear r1; rintro e w4 ⟨⟨s4, rfl⟩, E4⟩; have H4 : Hid (ExI w w4 zn mx B p cy T D) := E4; clear E4))
                        go_meet
                        case rel => exact ⟨T, D, by omega, by omega, rfl, rfl, H4.out⟩
                      · go_wp2
                        go_meet
                        case rel => exact ⟨T, D, by omega, by omega, rfl, rfl, HJ1.out⟩
          obtain ⟨T2, D2, hT2, hD2, rfl, rfl, HK⟩ := hcut
          clear HJ1 y1 y2 y3
          have hLf := eLeft HK.out
          have hT48 : T2 ≤ 281474976710657 := by omega
          have hD50 : D2 ≤ 1125899906842624 := by omega
          by_cases hz : D2 = 0
          · subst hz
            rw [if_pos rfl] at hLf
            go_wp2_with (first | (go_at_call 15; refine hLf.mono ?_; clear hLf; rintro e w6 ⟨lf, rfl, hlf, -, E6⟩; have H6 : Hid (ExI w w6 zn mx B p cy T2 0) := E6; clear E6))
            go_roundw
            case rel => exact ⟨i + 1, T2, 0, by omega, by omega, by omega, by go_num, rfl, rfl, H6.out⟩
            case measure => simp [intOf]; omega
          · rw [if_neg hz] at hLf
            have hz0 : ¬ ((D2 : Int) = 0) := by omega
            go_wp2_with (first | (go_at_call 15; refine hLf.mono ?_; clear hLf; rintro e w6 ⟨lf, rfl, hlf, hDl, E6⟩; have H6 : Hid (ExI w w6 zn mx B p cy T2 D2) := E6; have hDl2 := hDl hz; have hdf : IntKind.u64.wrap ((D2 : Int) - T2) = (lf : Int) := (by rw [Cl.w64 (by omega) (by omega)]; omega); have HDl : Hid (D2 = T2 + lf) := hDl2; clear E6 hDl hDl2))
            go_roundw
            case rel => exact ⟨i + 1, T2, D2, by omega, by omega, by omega, by go_num, rfl, rfl, H6.out⟩
            case measure => simp [intOf]; omega
        · obtain rfl : i = sn := by omega
          have hge : ¬ ((i : Int) < i) := by omega
          go_wp2
          go_ret
          obtain ⟨s0, -, bb, -⟩ := HJ.out
          exact ⟨rfl, bb⟩
theorem tickExact_any (w : World) (mx : Nat) (hmx : mx < 4294967296) (ah : Int) (d : Nat) (hd : d < 4294967296) (cy : Nat) (hcy : cy < 4294967296) (by' : Bool) (sc : Sl) (l : List Ca) (hl : RowsAt w 7 caP sc l) (hlen : l.length ≤ 281474976710656) : Calls Tryz.prog 3 #[U mx, I ah, U d, U cy, .bool by', slT sc] w fun e w' => e = .returned (.bool true) ∧ Below w.heap.size w w' := by
  by_cases h : 1 ≤ mx ∧ mx ≤ 2147483647
  · exact exact_ok w mx hmx ah d hd cy hcy by' sc l hl hlen h.1 h.2
  · exact exact_no w mx hmx ah d cy by' sc h
end Go.Proofs.YthhckhifaolmkaaGreat

