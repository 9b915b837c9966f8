import Derived.Test.YthhckhifaolmkaaGreatXXk
import Derived.Test.YthhckhifaolmkaaGreatXXr
import Derived.Test.YthhckhifaolmkaaGreatXThnl
import Derived.Test.YthhckhifaolmkaaGreatRows
import Derived.ProofKit
import Derived.OpenShut
import Derived.ShutString
import Derived.ChangeOld
import Derived.SizedLaws
namespace Go.Proofs.YthhckhifaolmkaaGreat
open Go.RowKit Go.Shelf Go.Sort
open Go.Proofs.YthhckhifaolmkaaGreat.Cl (Fx Fz Ck Cb Alm psA dueA dueF U Q cP own_sl own_some own_below own_base inL ret_bool ret_int heap_lt iinfo cell_one_new take_snoc aftN)
set_option linter.unusedVariables false
set_option linter.unusedSimpArgs false

/-! ### heads -/
abbrev g0G : Gt := ⟨false, 0, 0⟩
def hs1 : Bs := setT (oneT 9) newT 0 (Cl.relB (ctA (oneT 9) 0).min (ctA (oneT 9) 0).max 2 0) (2, 0)
def hs2 : Bs := setT (oneT 9) hs1 1 (Cl.absB (ctA (oneT 9) 1).min (ctA (oneT 9) 1).max 2 3) (Cl.untN (ctA (oneT 9) 1).max (hs1.v (ctrN (oneT 9) (1 : Int).toNat)) 2, 3)
def hs3 : Bs := tckA (oneT 9) hs2 0
def hs4 : Bs := tckA (oneT 9) hs3 0
def hs5 : Bs := reqT (oneT 9) hs4 0
section
variable {w w' : World} {zn : Nat → Nat} {B : Nat} {p : Pl}
theorem hd1 (h : Bo w zn (oneT 9) B p newT) : Calls Tryz.prog 11 #[bP B, I 0, U 2, U 0] w fun e w' => e = .returned (I 0) ∧ Bo w' zn (oneT 9) B p hs1 ∧ Fz (Wr zn) w w' := by
  have := bRel h 0 2 0 (by decide)
  rw [show setB (oneT 9) newT 0 (Cl.relB (ctA (oneT 9) 0).min (ctA (oneT 9) 0).max 2 0) = 0 by kernel_rfl] at this
  exact this
theorem hd2 (h : Bo w zn (oneT 9) B p hs1) : Calls Tryz.prog 10 #[bP B, I 1, U 2, U 3] w fun e w' => e = .returned (I 0) ∧ Bo w' zn (oneT 9) B p hs2 ∧ Fz (Wr zn) w w' := by
  have := bAbs h 1 2 3 (by decide)
  rw [show setB (oneT 9) hs1 1 (Cl.absB (ctA (oneT 9) 1).min (ctA (oneT 9) 1).max 2 3) = 0 by kernel_rfl] at this
  exact this
theorem hd3 (h : Bo w zn (oneT 9) B p hs2) : Calls Tryz.prog 9 #[bP B, I 0] w fun e w' => ∃ u, e = .returned (.tuple #[u, I 0]) ∧ w'.ownsRow w.heap.size 3 1 u 0 [] ∧ Bo w' zn (oneT 9) B p hs3 ∧ Fz (Wr zn) w w' := by
  have := bTick h 0
  rw [show tckS (oneT 9) 0 = 0 by kernel_rfl, show tckL (oneT 9) hs2 0 = [] by kernel_rfl] at this
  exact this
theorem hd4 (h : Bo w zn (oneT 9) B p hs3) : Calls Tryz.prog 9 #[bP B, I 0] w fun e w' => ∃ u, e = .returned (.tuple #[u, I 0]) ∧ w'.ownsRow w.heap.size 3 1 u 2 [I 0, I 1] ∧ Bo w' zn (oneT 9) B p hs4 ∧ Fz (Wr zn) w w' := by
  have := bTick h 0
  rw [show tckS (oneT 9) 0 = 0 by kernel_rfl, show tckL (oneT 9) hs3 0 = [0, 1] by kernel_rfl] at this
  exact this
theorem hd5 (h : Bo w zn (oneT 9) B p hs4) : Calls Tryz.prog 13 #[bP B, I 0] w fun e w' => e = .returned (I 0) ∧ Bo w' zn (oneT 9) B p hs5 ∧ Fz (Wr zn) w w' := by
  have := bRequest h 0
  rw [show reqS (oneT 9) 0 = 0 by kernel_rfl] at this
  exact this
theorem hd6 (h : Bo w zn (oneT 9) B p hs5) : Calls Tryz.prog 23 #[bP B, I 69, gtV g0G] w fun e w' => e = .returned (.tuple #[I 0, .bool true]) ∧ Below w.heap.size w w' := by
  have := bNext h 69 g0G
  rw [show (nxL (oneT 9) hs5.q g0G 69 (oneT 9).isrs.length).1 = 0 by kernel_rfl] at this
  exact this
theorem hd7 (h : Bo w zn (oneT 9) B p hs5) : Calls Tryz.prog 23 #[bP B, I 70, gtV g0G] w fun e w' => e = .returned (.tuple #[I (-1), .bool false]) ∧ Below w.heap.size w w' := by
  have := bNext h 70 g0G
  rw [show (nxL (oneT 9) hs5.q g0G 70 (oneT 9).isrs.length).1 = -1 by kernel_rfl] at this
  exact this
theorem hd8 (h : Bo w zn (oneT 9) B p hs5) : Calls Tryz.prog 24 #[bP B] w fun e w' => ∃ u, e = .returned u ∧ w'.ownsRow w.heap.size 22 1 u 1 [U 2] ∧ Below w.heap.size w w' := by
  have := bCounters h
  rw [show flat (valF hs5) (oneT 9).ctrs.length = [U 2] by kernel_rfl, show (oneT 9).ctrs.length = 1 from rfl] at this
  exact this
end
set_option maxRecDepth 100000 in
set_option maxHeartbeats 16000000 in
theorem heads21 (w : World) : Calls Tryz.prog 6 #[] w fun e w' => e = .returned (.bool true) ∧ Below w.heap.size w w' := by
  have hO := One_any w 9
  go_enter Tryz.func6, Tryz.ntmps6
  go_upto_region 2 with (first
    | (go_at_call 8; refine hO.mono ?_; clear hO; rintro e w1 ⟨v, rfl, ht, b1⟩; have hN := bNew_ok ht (one_wf (by decide)) one_chk9)
    | (go_at_call 7; refine hN.mono ?_; clear hN; rintro e w2 ⟨B, rfl, p, zn, h2, z2, b2⟩))
  have K2 : Hid (Bo w2 zn (oneT 9) B p newT ∧ Below w.heap.size w w2 ∧ ∀ b, zn b ≠ 0 → w.heap.size ≤ b) := ⟨h2, b1.trans (b2.mono b1.size), fun b e => Nat.le_trans b1.size (z2 b e)⟩
  clear ht b1 h2 b2 z2
  have HS : Hid (∀ {W W' : World}, Below w.heap.size w W → Fz (Wr zn) W W' → Below w.heap.size w W') := fun h hf => h.trans (hf.below h.size (fun b hb => K2.out.2.2 b (by rcases hb with e | e <;> omega)))
  have hc := hd1 K2.out.1
  go_upto_region 5 with (first | (go_at_call 11; refine hc.mono ?_; clear hc; rintro e w3 ⟨rfl, kk, ff⟩))
  have K3 : Hid (Bo w3 zn (oneT 9) B p hs1 ∧ Below w.heap.size w w3) := ⟨kk, HS.out K2.out.2.1 ff⟩
  clear kk ff
  have hc := hd2 K3.out.1
  go_upto_region 6 with (first | (go_at_call 10; refine hc.mono ?_; clear hc; rintro e w4 ⟨rfl, kk, ff⟩))
  have K4 : Hid (Bo w4 zn (oneT 9) B p hs2 ∧ Below w.heap.size w w4) := ⟨kk, HS.out K3.out.2 ff⟩
  clear kk ff
  have hc := hd3 K4.out.1
  go_upto_region 7 with (first | (go_at_call 9; refine hc.mono ?_; clear hc; rintro e w5 ⟨u5, rfl, oo, kk, ff⟩; obtain ⟨xa, xc, rfl⟩ := own_sl oo))
  have K5 : Hid (Bo w5 zn (oneT 9) B p hs3 ∧ Below w.heap.size w w5) := ⟨kk, HS.out K4.out.2 ff⟩
  clear kk ff oo
  have hc := hd4 K5.out.1
  go_upto_region 8 with (first | (go_at_call 9; refine hc.mono ?_; clear hc; rintro e w6 ⟨u6, rfl, oo, kk, ff⟩; obtain ⟨yg, yc, rfl⟩ := own_some oo (by omega)))
  have NY : Hid (¬ Wr zn yg) := fun e => by have := K5.out.1.zs yg (by rcases e with e | e <;> omega); have := (oo.lt yg rfl).1; omega
  have K6 : Hid (Bo w6 zn (oneT 9) B p hs4 ∧ Below w.heap.size w w6 ∧ w6.ownsRow w5.heap.size 3 1 (.slice (some ⟨yg, 0, none⟩) 2 yc) 2 [I 0, I 1]) := ⟨kk, HS.out K5.out.2 ff, oo⟩
  clear kk ff oo
  have hc := hd5 K6.out.1
  go_upto_region 9 with (first | (go_at_call 13; refine hc.mono ?_; clear hc; rintro e w7 ⟨rfl, kk, ff⟩))
  have K7 : Hid (Bo w7 zn (oneT 9) B p hs5 ∧ Below w.heap.size w w7 ∧ w7.ownsRow w5.heap.size 3 1 (.slice (some ⟨yg, 0, none⟩) 2 yc) 2 [I 0, I 1]) := ⟨kk, HS.out K6.out.2.1 ff, ff.own K6.out.2.2 (fun g e => by cases e; exact NY.out)⟩
  clear kk ff
  have hc := hd6 K7.out.1
  go_upto_region 10 with (first | (go_at_call 23; refine hc.mono ?_; clear hc; rintro e w8 ⟨rfl, bb⟩))
  have K8 : Hid (Bo w8 zn (oneT 9) B p hs5 ∧ Below w.heap.size w w8 ∧ w8.ownsRow w5.heap.size 3 1 (.slice (some ⟨yg, 0, none⟩) 2 yc) 2 [I 0, I 1]) := ⟨K7.out.1.below bb, K7.out.2.1.trans (bb.mono K7.out.2.1.size), own_below K7.out.2.2 bb⟩
  clear bb
  have hc := hd7 K8.out.1
  go_upto_region 11 with (first | (go_at_call 23; refine hc.mono ?_; clear hc; rintro e w9 ⟨rfl, bb⟩))
  have K9 : Hid (Bo w9 zn (oneT 9) B p hs5 ∧ Below w.heap.size w w9 ∧ w9.ownsRow w5.heap.size 3 1 (.slice (some ⟨yg, 0, none⟩) 2 yc) 2 [I 0, I 1]) := ⟨K8.out.1.below bb, K8.out.2.1.trans (bb.mono K8.out.2.1.size), own_below K8.out.2.2 bb⟩
  clear bb
  have hc := hd8 K9.out.1
  go_upto_region 12 with (first | (go_at_call 24; refine hc.mono ?_; clear hc; rintro e w10 ⟨u10, rfl, oo, bb⟩; obtain ⟨vg, vc, rfl⟩ := own_some oo (by omega)))
  have oy := own_below K9.out.2.2 bb
  have y1 : w10.cell? ⟨yg, 1, none⟩ = some (I 1) := by rw [oy.cellAt _ (by omega)]; rfl
  have v0 : w10.cell? ⟨vg, 0, none⟩ = some (U 2) := by rw [oo.cellAt _ (by omega)]; rfl
  have BE : Hid (Below w.heap.size w w10) := K9.out.2.1.trans (bb.mono K9.out.2.1.size)
  clear oo bb oy K2 K3 K4 K5 K6 K7 K8 K9 NY HS
  go_wp2
  go_ret
  exact ⟨rfl, BE.out⟩
end Go.Proofs.YthhckhifaolmkaaGreat

namespace Go.Proofs.YthhckhifaolmkaaGreat
open Go.RowKit Go.Shelf Go.Sort
open Go.Proofs.YthhckhifaolmkaaGreat.Cl (Fx Fz Ck Cb Alm psA dueA dueF U Q cP own_sl own_some own_below own_base inL ret_bool ret_int heap_lt iinfo cell_one_new take_snoc aftN)
set_option linter.unusedVariables false
set_option linter.unusedSimpArgs false

set_option maxRecDepth 100000 in
set_option maxHeartbeats 16000000 in
theorem nobody_any {w : World} {v : Value} (h : NoB w v) (n : Int) (a : Nat) (g : Gt) : Calls Tryz.prog 16 #[v, I n, U a, gtV g] w fun e w' => e = .returned (.bool true) ∧ Below w.heap.size w w' := by
  have hb0 := below_alloc w (.cells #[.bool g.shut, I g.all, I g.os] 46)
  have HG : Hid ((w.alloc (.cells #[.bool g.shut, I g.all, I g.os] 46)).heap[w.heap.size]? = some (.cells #[.bool g.shut, I g.all, I g.os] 46)) := heap_alloc_new w _
  have HN : Hid (NoB (w.alloc (.cells #[.bool g.shut, I g.all, I g.os] 46)) v) := h.below hb0
  have HB : Hid (∀ W, Below (w.alloc (.cells #[.bool g.shut, I g.all, I g.os] 46)).heap.size (w.alloc (.cells #[.bool g.shut, I g.all, I g.os] 46)) W → Below w.heap.size w W) := fun W hW => hb0.trans (hW.mono hb0.size)
  have heq : ∀ W, (Op.equalIn 10000 83 (.agg #[U 0, U 0, U 0]) (.agg #[.int .u32 0, .int .u32 0, .int .u32 0])).run Tryz.prog W = .ok true W := fun W => by kernel_rfl
  clear h hb0
  go_enter Tryz.func16, Tryz.ntmps16
  go_upto_region 1 with fail
  generalize w.alloc (.cells #[.bool g.shut, I g.all, I g.os] 46) = w0 at *
  have B0 : Hid (Below w0.heap.size w0 w0) := Below.refl _ _
  go_wp2_with (first
    | (go_at_call 9; refine (nTick (HN.out.below B0.out) n).mono ?_; rintro e w1 ⟨rfl, b1⟩; have B1 : Hid (Below w0.heap.size w0 w1) := B0.out.trans (b1.mono B0.out.size); clear b1)
    | (go_at_call 39; refine (nBase (HN.out.below B1.out) n).mono ?_; rintro e w2 ⟨rfl, b2⟩; have B2 : Hid (Below w0.heap.size w0 w2) := B1.out.trans (b2.mono B1.out.size); clear b2; have B2a : Hid (Below w0.heap.size w0 (w2.alloc z3)) := B2.out.trans ((below_alloc w2 z3).mono B2.out.size); have V2 : Hid ((w2.alloc z3).heap[w2.heap.size]? = some z3) := heap_alloc_new w2 z3; have hsz2 : w2.heap.size < (w2.alloc z3).heap.size := (by simp))
    | (go_at_call 15; refine (nLeft (HN.out.below B2a.out) n).mono ?_; rintro e w3 ⟨rfl, b3⟩; have B3 : Hid (Below w0.heap.size w0 w3) := B2a.out.trans (b3.mono B2a.out.size); have V3 : Hid (w3.heap[w2.heap.size]? = some z3) := (b3.block _ hsz2).trans V2.out; clear b3)
    | (go_at_call 40; refine (nAuto (HN.out.below B3.out) n).mono ?_; rintro e w4 ⟨rfl, b4⟩; have B4 : Hid (Below w0.heap.size w0 w4) := B3.out.trans (b4.mono B3.out.size); have V4 : Hid (w4.heap[w2.heap.size]? = some z3) := (b4.block _ (heap_lt V3.out)).trans V3.out; clear b4; have hg4 := (B4.out.block _ (heap_lt HG.out)).trans HG.out; have g0 : w4.cell? ⟨w.heap.size, 0, none⟩ = some (.bool g.shut) := (by rw [cell_of_row _ _ _ _ _ (0, 0) hg4]; rfl); have g1 : w4.cell? ⟨w.heap.size, 1, none⟩ = some (I g.all) := (by rw [cell_of_row _ _ _ _ _ (0, 0) hg4]; rfl); have g2 : w4.cell? ⟨w.heap.size, 2, none⟩ = some (I g.os) := (by rw [cell_of_row _ _ _ _ _ (0, 0) hg4]; rfl); clear hg4)
    | (go_at_call 23; refine (nNext (HN.out.below B4.out) n g).mono ?_; rintro e w5 ⟨rfl, b5⟩; have B5 : Hid (Below w0.heap.size w0 w5) := B4.out.trans (b5.mono B4.out.size); have v5 := (b5.block _ (heap_lt V4.out)).trans V4.out; have y0 : w5.cell? ⟨w2.heap.size, 0, none⟩ = some (U 0) := (by rw [cell_of_row _ _ _ _ _ (0, 0) v5]; rfl); have y1 : w5.cell? ⟨w2.heap.size, 1, none⟩ = some (U 0) := (by rw [cell_of_row _ _ _ _ _ (0, 0) v5]; rfl); have y2 : w5.cell? ⟨w2.heap.size, 2, none⟩ = some (U 0) := (by rw [cell_of_row _ _ _ _ _ (0, 0) v5]; rfl); clear b5 v5 g0 g1 g2)
    | (go_at_call 11; refine (nRel (HN.out.below B5.out) n a a).mono ?_; rintro e w6 ⟨rfl, b6⟩; have B6 : Hid (Below w0.heap.size w0 w6) := B5.out.trans (b6.mono B5.out.size); clear b6)
    | (go_at_call 10; refine (nAbs (HN.out.below B6.out) n a a).mono ?_; rintro e w7 ⟨rfl, b7⟩; have B7 : Hid (Below w0.heap.size w0 w7) := B6.out.trans (b7.mono B6.out.size); clear b7)
    | (go_at_call 12; refine (nCancel (HN.out.below B7.out) n).mono ?_; rintro e w8 ⟨rfl, b8⟩; have B8 : Hid (Below w0.heap.size w0 w8) := B7.out.trans (b8.mono B7.out.size); clear b8)
    | (go_at_call 24; refine (nCounters (HN.out.below B8.out) ).mono ?_; rintro e w9 ⟨rfl, b9⟩; have B9 : Hid (Below w0.heap.size w0 w9) := B8.out.trans (b9.mono B8.out.size); clear b9)
    | (go_at_call 41; refine (nAlarms (HN.out.below B9.out) ).mono ?_; rintro e w10 ⟨rfl, b10⟩; have B10 : Hid (Below w0.heap.size w0 w10) := B9.out.trans (b10.mono B9.out.size); clear b10)
    | (go_at_call 13; refine (nRequest (HN.out.below B10.out) n).mono ?_; rintro e w11 ⟨rfl, b11⟩; have B11 : Hid (Below w0.heap.size w0 w11) := B10.out.trans (b11.mono B10.out.size); clear b11)
    | (go_at_call 42; refine (nRequested (HN.out.below B11.out) ).mono ?_; rintro e w12 ⟨rfl, b12⟩; have B12 : Hid (Below w0.heap.size w0 w12) := B11.out.trans (b12.mono B11.out.size); clear b12)
    | (go_at_call 14; refine (nServe (HN.out.below B12.out) n).mono ?_; rintro e w13 ⟨rfl, b13⟩; have B13 : Hid (Below w0.heap.size w0 w13) := B12.out.trans (b13.mono B12.out.size); clear b13)
    | (go_at_call 20; refine (nCalm (HN.out.below B13.out) ).mono ?_; rintro e w14 ⟨rfl, b14⟩; have B14 : Hid (Below w0.heap.size w0 w14) := B13.out.trans (b14.mono B13.out.size); clear b14)
    | (go_at_call 18; refine (nCopy (HN.out.below B14.out) ).mono ?_; rintro e w15 ⟨rfl, b15⟩; have B15 : Hid (Below w0.heap.size w0 w15) := B14.out.trans (b15.mono B14.out.size); clear b15))
  go_ret
  exact ⟨rfl, HB.out _ B15.out⟩
end Go.Proofs.YthhckhifaolmkaaGreat

namespace Go.Proofs.YthhckhifaolmkaaGreat
open Go.RowKit Go.Shelf Go.Sort
open Go.Proofs.YthhckhifaolmkaaGreat.Cl (Fx Fz Ck Cb Alm psA dueA dueF U Q cP own_sl own_some own_below own_base inL ret_bool ret_int heap_lt iinfo cell_one_new take_snoc aftN)
set_option linter.unusedVariables false
set_option linter.unusedSimpArgs false
set_option maxRecDepth 100000 in
theorem tickNobody_any (w : World) (n : Int) (a : Nat) (ha : a < 4294967296) (gs : Bool) (ga go : Int) : Calls Tryz.prog 4 #[I n, U a, .agg #[.bool gs, I ga, I go]] w fun e w' => e = .returned (.bool true) ∧ Below w.heap.size w w' := by
  have hb0 := below_alloc w (.cells #[.bool gs, I ga, I go] 46)
  have HG : Hid ((w.alloc (.cells #[.bool gs, I ga, I go] 46)).heap[w.heap.size]? = some (.cells #[.bool gs, I ga, I go] 46)) := heap_alloc_new w _
  have HB : Hid (∀ W, Below (w.alloc (.cells #[.bool gs, I ga, I go] 46)).heap.size (w.alloc (.cells #[.bool gs, I ga, I go] 46)) W → Below w.heap.size w W) := fun W hW => hb0.trans (hW.mono hb0.size)
  have c0 : (w.alloc (.cells #[.bool gs, I ga, I go] 46)).cell? ⟨w.heap.size, 0, none⟩ = some (.bool gs) := by rw [cell_of_row _ _ _ _ _ (0, 0) HG.out]; rfl
  have c1 : (w.alloc (.cells #[.bool gs, I ga, I go] 46)).cell? ⟨w.heap.size, 1, none⟩ = some (I ga) := by rw [cell_of_row _ _ _ _ _ (0, 0) HG.out]; rfl
  have c2 : (w.alloc (.cells #[.bool gs, I ga, I go] 46)).cell? ⟨w.heap.size, 2, none⟩ = some (I go) := by rw [cell_of_row _ _ _ _ _ (0, 0) HG.out]; rfl
  clear hb0
  go_enter Tryz.func4, Tryz.ntmps4
  go_upto_region 1 with fail
  generalize w.alloc (.cells #[.bool gs, I ga, I go] 46) = w0 at *
  have h1 := nobody_any (w := w0) (v := .pointer none) (.inl rfl) n a ⟨gs, ga, go⟩
  go_wp2_with (first
    | (go_at_call 16; refine h1.mono ?_; clear h1; rintro e w1 ⟨rfl, b1⟩; have B1 : Hid (Below w0.heap.size w0 (w1.alloc (.cells #[I 0, .slice none 0 0, .slice none 0 0, .slice none 0 0, .int .u8 0, .int .u8 0, .int .u8 0, .int .u8 0] 61))) := b1.trans ((below_alloc w1 _).mono b1.size); have hv1 := heap_alloc_new w1 (.cells #[I 0, .slice none 0 0, .slice none 0 0, .slice none 0 0, .int .u8 0, .int .u8 0, .int .u8 0, .int .u8 0] 61); have hg := (B1.out.block _ (heap_lt HG.out)).trans HG.out; have d0 := (cell_of_row _ _ 0 _ _ (0, 0) hg); have d1 := (cell_of_row _ _ 1 _ _ (0, 0) hg); have d2 := (cell_of_row _ _ 2 _ _ (0, 0) hg); have h2 := nobody_any (w := w1.alloc (.cells #[I 0, .slice none 0 0, .slice none 0 0, .slice none 0 0, .int .u8 0, .int .u8 0, .int .u8 0, .int .u8 0] 61)) (v := bP w1.heap.size) (.inr ⟨_, rfl, (by rw [cell_of_row _ _ _ _ _ (0, 0) hv1]; rfl)⟩) n a ⟨gs, ga, go⟩; clear b1 hv1 hg c0 c1 c2; simp at d0 d1 d2)
    | (go_at_call 16; refine h2.mono ?_; clear h2; rintro e w2 ⟨rfl, b2⟩; have B2 : Hid (Below w0.heap.size w0 w2) := B1.out.trans (b2.mono B1.out.size); have h3 := heads21 w2; clear b2)
    | (go_at_call 6; refine h3.mono ?_; clear h3; rintro e w3 ⟨rfl, b3⟩; have B3 : Hid (Below w0.heap.size w0 w3) := B2.out.trans (b3.mono B2.out.size); clear b3))
  go_ret
  exact ⟨rfl, HB.out _ B3.out⟩
end Go.Proofs.YthhckhifaolmkaaGreat

namespace Go.Proofs.YthhckhifaolmkaaGreat
open Go.RowKit Go.ChangeShapes Go.WideShapes
set_option linter.unusedVariables false

/-! ### Calls that came in, opened -/
structure Ca where
  kind : Int
  n : Int
  a : Nat
  b : Nat
  g : Gt
def caV (x : Ca) (i : Nat) (u : Value) : Prop := match i with | 0 => u = I x.kind | 1 => u = I x.n | 2 => u = .int .u32 (x.a : Int) | 3 => u = .int .u32 (x.b : Int) | 4 => u = .bool x.g.shut | 5 => u = I x.g.all | _ => u = I x.g.os
def caP (x : Ca) (i : Nat) (u : Value) : Prop := caV x i u ∧ x.a < 4294967296 ∧ x.b < 4294967296
theorem p_gate : Tryz.prog.cellsOf 46 = 3 := by kernel_rfl
theorem p_call : Tryz.prog.cellsOf 48 = 7 := by kernel_rfl
theorem list7X {α : Type} : ∀ {l : List α}, l.length = 7 → ∃ a b c d e f g, l = [a, b, c, d, e, f, g]
  | [a, b, c, d, e, f, g], _ => ⟨a, b, c, d, e, f, g, rfl⟩
theorem list3X {α : Type} : ∀ {l : List α}, l.length = 3 → ∃ a b c, l = [a, b, c]
  | [a, b, c], _ => ⟨a, b, c, rfl⟩
theorem nat_u32X {a : Int} (h : (Lit.int .u32 a).wf = true) : ∃ n : Nat, a = n ∧ n < 4294967296 := by
  have := bounds_u32 h
  obtain ⟨n, rfl⟩ := Int.eq_ofNat_of_zero_le this.1
  exact ⟨n, rfl, by omega⟩
set_option maxRecDepth 100000 in
theorem gate_open {H : Type} {enc : TypeId × Value → H} {w : World} {spare : Nat → Bool} {held : Bool} {r : Reach} {b0 : Nat} {v : Value} {d : DataW H} {p : List MemPlace}
    (hv : Value.okWide Tryz.prog w r b0 46 v) (h : DataW.Trod enc Tryz.prog w 0 spare held 46 v d p) : ∃ (x : Bool) (a b : Int), v = .agg #[.bool x, I a, I b] := by
  obtain ⟨cs, rfl, hsz⟩ := okWide_struct Tryz.underlying46 hv
  rw [p_gate] at hsz
  obtain ⟨l⟩ := cs
  obtain ⟨c0, c1, c2, rfl⟩ := list3X (l := l) (by simpa using hsz)
  obtain ⟨fuel, hf⟩ := h
  obtain ⟨xs, n, hn, hx, hl, hlen, hfs⟩ := DataW.trod_struct Tryz.underlying46 hf
  match xs, hlen with
  | [y0, y1, y2], _ =>
    have h0 := hfs 0 _ rfl
    have h1 := hfs 1 _ rfl
    have h2 := hfs 2 _ rfl
    simp [p9_bool, p9_int, Value.cells] at h0 h1 h2
    obtain ⟨v0, e0, _⟩ := DataW.trod_bool Tryz.underlying4 h0
    obtain ⟨v1, e1, _, b1⟩ := DataW.trod_int Tryz.underlying3 h1
    obtain ⟨v2, e2, _, b2⟩ := DataW.trod_int Tryz.underlying3 h2
    simp at e0 e1 e2
    subst e0 e1 e2
    exact ⟨v0, v1, v2, rfl⟩
set_option maxRecDepth 100000 in
theorem one_call {H : Type} {enc : TypeId × Value → H} {w : World} {spare : Nat → Bool} {held : Bool} (n : Nat) (cs : List Value) (z : DataW H × List MemPlace) (hl : cs.length = 7) (h : DataW.trod enc Tryz.prog w 0 spare held n 48 cs = some z) : ∃ x : Ca, ∀ i, i < 7 → ∃ u, cs[i]? = some u ∧ caP x i u := by
  obtain ⟨c0, c1, c2, c3, c4, c5, c6, rfl⟩ := list7X hl
  obtain ⟨xs, n, hn, hx, hl, hlen, hfs⟩ := DataW.trod_struct Tryz.underlying48 h
  match xs, hlen with
  | [y0, y1, y2, y3, y4], _ =>
    have h0 := hfs 0 _ rfl
    have h1 := hfs 1 _ rfl
    have h2 := hfs 2 _ rfl
    have h3 := hfs 3 _ rfl
    have h4 := hfs 4 _ rfl
    simp [p_gate, p9_int, p9_uint32] at h0 h1 h2 h3 h4
    obtain ⟨v0, e0, _, b0⟩ := DataW.trod_int Tryz.underlying3 h0
    obtain ⟨v1, e1, _, b1⟩ := DataW.trod_int Tryz.underlying3 h1
    obtain ⟨v2, e2, _, b2⟩ := DataW.trod_int Tryz.underlying22 h2
    obtain ⟨v3, e3, _, b3⟩ := DataW.trod_int Tryz.underlying22 h3
    obtain ⟨zs, m2, _, _, _, zlen, zfs⟩ := DataW.trod_struct Tryz.underlying46 h4
    match zs, zlen with
    | [z2, z3, z4], _ =>
      have g2 := zfs 0 _ rfl
      have g3 := zfs 1 _ rfl
      have g4 := zfs 2 _ rfl
      simp [p9_int, p9_bool] at g2 g3 g4
      obtain ⟨v5, e5, _⟩ := DataW.trod_bool Tryz.underlying4 g2
      obtain ⟨v6, e6, _, b6⟩ := DataW.trod_int Tryz.underlying3 g3
      obtain ⟨v7, e7, _, b7⟩ := DataW.trod_int Tryz.underlying3 g4
      simp at e0 e1 e2 e3 e5 e6 e7
      subst e0 e1 e2 e3 e5 e6 e7
      obtain ⟨n2, rfl, q2⟩ := nat_u32X b2
      obtain ⟨n3, rfl, q3⟩ := nat_u32X b3
      refine ⟨⟨v0, v1, n2, n3, ⟨v5, v6, v7⟩⟩, fun i hi => ?_⟩
      match i, hi with
      | 0, _ => exact ⟨_, rfl, rfl, q2, q3⟩
      | 1, _ => exact ⟨_, rfl, rfl, q2, q3⟩
      | 2, _ => exact ⟨_, rfl, rfl, q2, q3⟩
      | 3, _ => exact ⟨_, rfl, rfl, q2, q3⟩
      | 4, _ => exact ⟨_, rfl, rfl, q2, q3⟩
      | 5, _ => exact ⟨_, rfl, rfl, q2, q3⟩
      | 6, _ => exact ⟨_, rfl, rfl, q2, q3⟩
end Go.Proofs.YthhckhifaolmkaaGreat

namespace Go.Proofs.YthhckhifaolmkaaGreat
open Go.ChangeShapes Go.WideShapes Go.ChangeAt Go.RowKit
set_option linter.unusedVariables false

theorem ownXrn : ownKnob Tryz.prog.godebug = none := by kernel_rfl
theorem laidOutXrn : laidOutB Tryz.prog = true := by kernel_rfl
set_option maxRecDepth 100000 in
theorem tickNobody_lifted (os : Os) (started : os.Started) (H : Type) (enc : TypeId × Value → H) :
    ReturnsInHanded {} Tryz.checked os 4 .any (Rows.tickNobodySpec.pre6 enc Tryz.prog Tryz.f4 Rows.tickNobodyRow.domain false) (Rows.tickNobodySpec.post enc Tryz.prog Tryz.f4 false true false false) := by
  refine returnsInHanded_of_change_sized (C := Tryz.checked) ownXrn started (by kernel_rfl) Tryz.func4
    (ChangeSpec.witness6 (enc := enc) (C := Tryz.checked) false ⟨#[], #[.int .i64 0, .int .u32 0, .agg #[.bool false, .int .i64 0, .int .i64 0]], []⟩ 8 (by kernel_rfl) (by kernel_rfl) (by kernel_rfl) (by kernel_rfl)) ?_
  intro W base args ds gs before hval0 hW hcnd hsz0 _
  have hval : ∀ (j : Nat) t v, Tryz.f4.params[j]? = some t → args[j]? = some v → Value.okWide Tryz.prog W .any base t v := hval0
  have hsz : (DataW.weightsEach Tryz.prog (Tryz.f4.params.toList ++ Rows.tickNobodySpec.plain.varTypes Tryz.prog) (ds ++ gs)).all (· ≤ reachBytes) = true := hsz0
  have hW' := hW
  obtain ⟨p, q, hA0, hV, rfl, hfz, hnd⟩ := hW
  have hA : DataW.TrodAll enc Tryz.prog W 0 (fun _ => true) true Tryz.f4.params.toList args.toList ds p := hA0
  rw [Tryz.params4] at hA hval hsz
  obtain ⟨v0, vs0, d0, ds0, p0, q0, hargs, rfl, rfl, h0, r0⟩ := trodAll_cons hA
  obtain ⟨v1, vs1, d1, ds1, p1, q1, rfl, rfl, rfl, h1, r1⟩ := trodAll_cons r0
  obtain ⟨v2, vs2, d2, ds2, p2, q2, rfl, rfl, rfl, h2, r2⟩ := trodAll_cons r1
  obtain ⟨rfl, rfl, rfl⟩ := trodAll_nil r2
  obtain rfl : args = #[v0, v1, v2] := by cases args; simp_all
  obtain ⟨rfl, rfl⟩ := trodVars_none hV
  obtain ⟨a0, rfl, rfl, rfl, w0⟩ := open_int Tryz.underlying3 (hval 0 3 v0 rfl rfl) h0
  obtain ⟨a1, rfl, rfl, rfl, w1⟩ := open_int Tryz.underlying22 (hval 1 22 v1 rfl rfl) h1
  have wb1 := w1
  obtain ⟨m1, rfl⟩ := Int.eq_ofNat_of_zero_le (bounds_u32 wb1).1
  have hb1 : m1 < 4294967296 := by have := (bounds_u32 wb1).2; omega
  have k2 := h2
  have lt2 : ∀ x ∈ p2, x.block < W.heap.size := by obtain ⟨m, hm⟩ := k2; exact DataW.trod_lt m _ _ _ hm
  obtain ⟨gs2, ga2, go2, rfl⟩ := gate_open (hval 2 46 v2 rfl rfl) h2
  clear hA0 hval0
  refine (tickNobody_any W a0 m1 hb1 gs2 ga2 go2).mono fun e W' ⟨he, bel⟩ => ?_
  subst he
  exact ⟨_, rfl, _, _, _, [], _, [], hW', trodAll_mk1 (shut_bool Tryz.underlying4 _), (trodAll_cons_mk (shut_int Tryz.underlying3 w0) (trodAll_cons_mk (shut_int Tryz.underlying22 w1) (trodAll_cons_mk (Below.trod laidOutXrn (by kernel_rfl) (of_decide_eq_true (by kernel_rfl)) k2 bel lt2) trodAll_mk0))), rfl, bel.frame _, fun h => by cases h⟩
theorem tickNobody_over : Rows.tickNobodyRow.holds Tryz.pinned (OpenSpec.ofChange Rows.tickNobodySpec) :=
  OpenClaim.holds_of_wide 4 Tryz.f4 rfl rfl rfl rfl rfl rfl rfl ⟨rfl, rfl, rfl, rfl, rfl⟩ rfl rfl rfl rfl rfl (by kernel_rfl) Tryz.func4 (by kernel_rfl)
    (of_decide_eq_true (by kernel_rfl)) (by unfold Func.isWrapper; first | (rw [if_pos (by decide +kernel)]; kernel_rfl) | (rw [if_neg (by decide +kernel)]; exact ⟨rfl, rfl⟩))
    (fun os started H enc _ => tickNobody_lifted os started H enc)
theorem tickNobody_holds : Rows.TickNobodySaid := tickNobody_over
#print axioms tickNobody_holds
end Go.Proofs.YthhckhifaolmkaaGreat

