import Derived.Test.YthhckhifaolmkaaGreatXXzn
import Derived.Test.YthhckhifaolmkaaGreatXzo
import Derived.Test.YthhckhifaolmkaaGreatXXu
import Derived.Deep.CutRange
import Derived.Test.YthhckhifaolmkaaGreatRows
import Derived.ProofKit
import Derived.OpenShut
import Derived.ShutString
import Derived.ChangeOld
import Derived.SizedLaws
import Derived.Test.YthhckhifaolmkaaGreatXw
namespace Go.Proofs.YthhckhifaolmkaaGreat
open Go.RowKit Go.Maps Go.Shelf Go.Sort
open Go.Proofs.YthhckhifaolmkaaGreat.Cl (Fx Fz Ck Cb Alm psA dueA dueF U Q cP own_sl own_some own_below own_base inL ret_bool ret_int heap_lt iinfo cell_one_new take_snoc aftN)
set_option linter.unusedVariables false
set_option linter.unusedSimpArgs false
set_option maxRecDepth 100000
set_option maxHeartbeats 16000000
theorem calls_cell21 {w : World} {sc : Sl} {l : List Ca} (h : RowsAt w 7 caP sc l) {k : Nat} {x : Ca} (hx : l[k]? = some x) : ∃ g off, sc.a = some ⟨g, off, none⟩ ∧ x.a < 4294967296 ∧ x.b < 4294967296 ∧ ∀ W, Below w.heap.size w W → W.cell? ⟨g, off + k * 7, none⟩ = some (I x.kind) ∧ W.cell? ⟨g, off + k * 7 + 1, none⟩ = some (I x.n) ∧ W.cell? ⟨g, off + k * 7 + 2, none⟩ = some (U x.a) ∧ W.cell? ⟨g, off + k * 7 + 3, none⟩ = some (U x.b) ∧ W.cell? ⟨g, off + k * 7 + 4, none⟩ = some (.bool x.g.shut) ∧ W.cell? ⟨g, off + k * 7 + 5, none⟩ = some (I x.g.all) ∧ W.cell? ⟨g, off + k * 7 + 6, none⟩ = some (I x.g.os) := by
  obtain ⟨g, off, e, hg, hr⟩ := h.row k x hx
  obtain ⟨u0, c0, p0, q1, q2⟩ := hr 0 (by omega)
  obtain ⟨u1, c1, p1, -⟩ := hr 1 (by omega)
  obtain ⟨u2, c2, p2, -⟩ := hr 2 (by omega)
  obtain ⟨u3, c3, p3, -⟩ := hr 3 (by omega)
  obtain ⟨u4, c4, p4, -⟩ := hr 4 (by omega)
  obtain ⟨u5, c5, p5, -⟩ := hr 5 (by omega)
  obtain ⟨u6, c6, p6, -⟩ := hr 6 (by omega)
  have e0 : u0 = I x.kind := p0
  have e1 : u1 = I x.n := p1
  have e2 : u2 = U x.a := p2
  have e3 : u3 = U x.b := p3
  have e4 : u4 = .bool x.g.shut := p4
  have e5 : u5 = I x.g.all := p5
  have e6 : u6 = I x.g.os := p6
  subst e0 e1 e2 e3 e4 e5 e6
  refine ⟨g, off, e, q1, q2, fun W hb => ?_⟩
  have hk : ∀ j v, w.cell? ⟨g, j, none⟩ = some v → W.cell? ⟨g, j, none⟩ = some v := fun j v hv => (World.cell?_of_block (hb.block g hg)).trans hv
  exact ⟨hk _ _ c0, hk _ _ c1, hk _ _ c2, hk _ _ c3, hk _ _ c4, hk _ _ c5, hk _ _ c6⟩
/-- behind a copy: the old board goes its way -/
structure Oc (w W : World) (tb : Tb) (v : Ts) (zn : Nat → Nat) (B : Nat) (p : Pl) (X : Nat) (o : Obj) (B2 P2 : Nat) : Prop where
  old : ∃ s, Bo W zn tb B p s
  new : ∃ p2 zn2 vv va vr s, Bt w W tb v B2 P2 p2 zn2 vv va vr s s ∧ (∀ b, zn2 b ≠ 0 → ¬ Wr zn b) ∧ (∀ x, Dm P2 vv va vr x → ¬ Wr zn x)
  lo : ∀ x, Wr zn x → w.heap.size ≤ x
  xb : W.heap[X]? = some o
  xz : ¬ Wr zn X
theorem Oc.step {w W W' : World} {tb : Tb} {v : Ts} {zn : Nat → Nat} {B : Nat} {p : Pl} {X : Nat} {o : Obj} {B2 P2 : Nat} {s : Bs} (h : Oc w W tb v zn B p X o B2 P2) (hb : Bo W' zn tb B p s) (hf : Fz (Wr zn) W W') : Oc w W' tb v zn B p X o B2 P2 := by
  obtain ⟨p2, zn2, vv, va, vr, s2, k, n1, n2⟩ := h.new
  exact ⟨⟨s, hb⟩, ⟨p2, zn2, vv, va, vr, s2, ⟨k.b.keep hf n1, k.d.keep hf n2 h.lo, k.ap, k.lo⟩, n1, n2⟩, h.lo, hf.heap h.xb h.xz, h.xz⟩
theorem plays_bar (w : World) (tb : Tb) (v : Ts) (ht : TbAt w tb v) (hw : WfT tb) (sc : Sl) (hc : chkP tb = false) : Calls Tryz.prog 5 #[.agg (tbC tb v), .slice sc.a sc.n sc.c] w fun e w' => e = .returned (.bool true) ∧ Below w.heap.size w w' := by
  have hb0 := below_alloc w (.cells (tbC tb v) 37)
  have hV := heap_alloc_new w (.cells (tbC tb v) 37)
  obtain ⟨c0, c1, c2, c3, c4, c5, c6, c7, c8, c9, c10, c11, c12⟩ := var13 hV
  have hd : chkD tb = false := by rw [← chk_same (fun x hx => (hw.s x hx).1)]; exact hc
  have hN := bNew_no (ht.below hb0) hw hc
  have HV : Hid (TbAt w tb v ∧ chkD tb = false ∧ Below w.heap.size w (w.alloc (.cells (tbC tb v) 37)) ∧ (w.alloc (.cells (tbC tb v) 37)).heap[w.heap.size]? = some (.cells (tbC tb v) 37)) := ⟨ht, hd, hb0, hV⟩
  clear hV hb0 ht hd
  unfold tbC at *
  go_enter Tryz.func5, Tryz.ntmps5
  go_upto_region 1 with fail
  generalize w.alloc (tbO tb v) = w0 at *
  go_wp2_with (first
    | (go_at_call 7; refine hN.mono ?_; clear hN; rintro e w1 ⟨rfl, b1⟩; have B1 : Hid (Below w.heap.size w w1) := HV.out.2.2.1.trans (b1.mono HV.out.2.2.1.size); have hV1 := (b1.block _ (heap_lt HV.out.2.2.2)).trans HV.out.2.2.2; clear c0 c1 c2 c3 c4 c5 c6 c7 c8 c9 c10 c11 c12; obtain ⟨c0, c1, c2, c3, c4, c5, c6, c7, c8, c9, c10, c11, c12⟩ := var13 (tb := tb) (v := v) hV1; have hD := dNew_no w1 tb v (HV.out.1.below B1.out) HV.out.2.1; unfold tbC at hD; clear b1 hV1)
    | (go_at_call 17; refine hD.mono ?_; clear hD; rintro e w2 ⟨rfl, b2⟩; have B2 : Hid (Below w.heap.size w w2) := B1.out.trans (b2.mono B1.out.size); have hH := heads21 w2; clear b2)
    | (go_at_call 6; refine hH.mono ?_; clear hH; rintro e w3 ⟨rfl, b3⟩; have B3 : Hid (Below w.heap.size w w3) := B2.out.trans (b3.mono B2.out.size); clear b3))
  go_ret
  exact ⟨rfl, B3.out⟩
theorem plays_ok (w : World) (tb : Tb) (v : Ts) (ht : TbAt w tb v) (hw : WfT tb) (sc : Sl) (l : List Ca) (hl : RowsAt w 7 caP sc l) (hc : chkP tb = true) : Calls Tryz.prog 5 #[.agg (tbC tb v), .slice sc.a sc.n sc.c] w fun e w' => e = .returned (.bool true) ∧ Below w.heap.size w w' := by
  have hb0 := below_alloc w (.cells (tbC tb v) 37)
  have hV := heap_alloc_new w (.cells (tbC tb v) 37)
  obtain ⟨c0, c1, c2, c3, c4, c5, c6, c7, c8, c9, c10, c11, c12⟩ := var13 hV
  have hd : chkD tb = true := by rw [← chk_same (fun x hx => (hw.s x hx).1)]; exact hc
  have hN := bNew_ok (ht.below hb0) hw hc
  have HV : Hid (TbAt w tb v ∧ chkD tb = true ∧ Below w.heap.size w (w.alloc (.cells (tbC tb v) 37)) ∧ (w.alloc (.cells (tbC tb v) 37)).heap[w.heap.size]? = some (.cells (tbC tb v) 37) ∧ OKb tb) := ⟨ht, hd, hb0, hV, okb_of hc hw⟩
  have HL : Hid (RowsAt w 7 caP sc l) := hl
  clear hV hb0 ht hd hl
  unfold tbC at *
  go_enter Tryz.func5, Tryz.ntmps5
  go_upto_region 1 with fail
  generalize w.alloc (tbO tb v) = w0 at *
  go_upto_region 5 with (first
    | (go_at_call 7; refine hN.mono ?_; clear hN; rintro e w1 ⟨B, rfl, p, zn, k1, z1, b1⟩; have B1 : Hid (Below w.heap.size w w1 ∧ Bo w1 zn tb B p newT ∧ (∀ b, zn b ≠ 0 → w.heap.size ≤ b)) := ⟨HV.out.2.2.1.trans (b1.mono HV.out.2.2.1.size), k1, fun b e => Nat.le_trans HV.out.2.2.1.size (z1 b e)⟩; have hV1 := (b1.block _ (heap_lt HV.out.2.2.2.1)).trans HV.out.2.2.2.1; clear c0 c1 c2 c3 c4 c5 c6 c7 c8 c9 c10 c11 c12; obtain ⟨c0, c1, c2, c3, c4, c5, c6, c7, c8, c9, c10, c11, c12⟩ := var13 (tb := tb) (v := v) hV1; have hD := dNew_ok w1 tb v (HV.out.1.below B1.out.1) HV.out.2.1 HV.out.2.2.2.2 HV.out.1 B1.out.1; unfold tbC at hD; clear b1 hV1 k1 z1)
    | (go_at_call 17; refine hD.mono ?_; clear hD; rintro e w2 ⟨P, u0, u1, u2, rfl, d2, l2, b2⟩; have B2 : Hid (Bt w w2 tb v B P p zn u0 u1 u2 newT newT) := ⟨B1.out.2.1.below b2, d2, fun x e => by { by_cases e3 : zn x = 0; exact e3; have q1 := B1.out.2.1.zs x e3; have q2 := l2 x e; omega }, fun x e => B1.out.2.2 x (by unfold Wr at e; omega)⟩; have hH := heads21 w2; clear b2 d2 l2)
    | (go_at_call 6; refine hH.mono ?_; clear hH; rintro e w3 ⟨rfl, b3⟩; have B3 : Hid (∃ p zn vv va vr s, Bt w w3 tb v B P p zn vv va vr s s) := ⟨_, _, _, _, _, _, B2.out.below b3⟩; clear b3))
  clear c0 c1 c2 c3 c4 c5 c6 c7 c8 c9 c10 c11 c12 B1 B2
  obtain ⟨sa, sn, scc⟩ := sc
  have hsn : sn = l.length := HL.out.n
  have HSN : Hid (sn = l.length) := hsn
  have hs48 : sn ≤ maxLen := Nat.le_trans HL.out.c HL.out.m
  unfold maxLen at hs48
  clear hsn
  dsimp only
  go_wp2
  go_loopw [5, 7, 9, 10, 11, 12, 13] (fun v5 v7 v9 _ _ _ _ wr => ∃ i B P : Nat, i ≤ sn ∧ v5 = bP B ∧ v7 = bP P ∧ v9 = I i ∧ Hid (∃ p zn vv va vr s, Bt w wr tb v B P p zn vv va vr s s)) (fun _ _ v9 _ _ _ _ _ => sn - (intOf v9).toNat)
  case atStart => exact ⟨0, B, P, by omega, rfl, rfl, rfl, B3.out⟩
  case round =>
    clear B3
    obtain ⟨i, B, P, hi, rfl, rfl, rfl, HJ⟩ := hrel
    by_cases hlt : i < sn
    · have hltI : (i : Int) < sn := by omega
      obtain ⟨x, hx⟩ : ∃ x, l[i]? = some x := ⟨_, List.getElem?_eq_getElem (by rw [← HSN.out]; exact hlt)⟩
      obtain ⟨g, off, ea, xa, xb, hcl⟩ := calls_cell21 HL.out hx
      obtain ⟨p, zn, vv, va, vr, s, k⟩ := HJ.out
      obtain ⟨x0, x1, x2, x3, x4, x5, x6⟩ := hcl wr k.d.b
      have ea' : sa = some ⟨g, off, none⟩ := ea
      have hb1 := below_alloc wr (.cells #[I x.kind, I x.n, U x.a, U x.b, .bool x.g.shut, I x.g.all, I x.g.os] 48)
      have HK : Hid (Bt w (wr.alloc (.cells #[I x.kind, I x.n, U x.a, U x.b, .bool x.g.shut, I x.g.all, I x.g.os] 48)) tb v B P p zn vv va vr s s ∧ (wr.alloc (.cells #[I x.kind, I x.n, U x.a, U x.b, .bool x.g.shut, I x.g.all, I x.g.os] 48)).heap[wr.heap.size]? = some (.cells #[I x.kind, I x.n, U x.a, U x.b, .bool x.g.shut, I x.g.all, I x.g.os] 48) ∧ ¬ Wr zn wr.heap.size) := ⟨k.below hb1, heap_alloc_new wr _, fun e => by have := k.lt (.inl e); omega⟩
      clear hcl hx ea HJ k hb1
      subst ea'
      go_upto_region 11 with fail
      clear x0 x1 x2 x3 x4 x5 x6
      generalize wr.alloc (.cells #[I x.kind, I x.n, U x.a, U x.b, .bool x.g.shut, I x.g.all, I x.g.os] 48) = wx at *
      generalize wr.heap.size = X at *
      have y0 : wx.cell? ⟨X, 0, none⟩ = some (I x.kind) := by rw [cell_of_row _ _ _ _ _ (0, 0) HK.out.2.1]; rfl
      go_upto_if 52 with fail
      go_cut [5, 7, 11] from 46 to 69 (fun v5 v7 _ wq => ∃ B' P' : Nat, v5 = bP B' ∧ v7 = bP P' ∧ Hid ((∃ p zn vv va vr s, Bt w wq tb v B' P' p zn vv va vr s s) ∧ wq.heap[X]? = some (.cells #[I x.kind, I x.n, U x.a, U x.b, .bool x.g.shut, I x.g.all, I x.g.os] 48)))
      case first =>
        by_cases hk : x.kind = 12
        · have hkB : (x.kind == 12) = true := by simp [hk]
          have hC := bCopy HK.out.1.b
          go_wp2_with (first
            | (go_at_call 18; refine hC.mono ?_; clear hC; rintro e w1 ⟨B2, rfl, p2, zn2, k2, l2, n2, b2⟩; have K1 : Hid (Bt w w1 tb v B P p zn vv va vr s s ∧ Bo w1 zn2 tb B2 p2 s ∧ (∀ b, Wr zn2 b → w.heap.size ≤ b) ∧ (∀ b, zn2 b ≠ 0 → ¬ Wr zn b) ∧ w1.heap[X]? = some (.cells #[I x.kind, I x.n, U x.a, U x.b, .bool x.g.shut, I x.g.all, I x.g.os] 48)) := ⟨HK.out.1.below b2, k2, fun b e => Nat.le_trans HK.out.1.d.b.size (l2 b e), n2, (b2.block _ (heap_lt HK.out.2.1)).trans HK.out.2.1⟩; have hD := dCopy K1.out.1.d; clear b2 k2 l2 n2)
            | (go_at_call 19; refine hD.mono ?_; clear hD; rintro e w2 ⟨C, u0, u1, u2, rfl, d2, l2, b2⟩; have hX2 := (b2.block _ (heap_lt K1.out.2.2.2.2)).trans K1.out.2.2.2.2; have K2 : Hid (Oc w w2 tb v zn B p X (.cells #[I x.kind, I x.n, U x.a, U x.b, .bool x.g.shut, I x.g.all, I x.g.os] 48) B2 C) := ⟨⟨s, K1.out.1.b.below b2⟩, ⟨p2, zn2, u0, u1, u2, s, ⟨K1.out.2.1.below b2, d2, fun z e => by { by_cases e3 : zn2 z = 0; exact e3; have q1 := K1.out.2.1.zs z e3; have q2 := l2 z e; omega }, K1.out.2.2.1⟩, K1.out.2.2.2.1, fun z e e2 => by { have q1 := K1.out.1.b.zs z (by unfold Wr at e2; omega); have q2 := l2 z e; omega }⟩, HK.out.1.lo, hX2, HK.out.2.2⟩; have z1 : w2.cell? ⟨X, 1, none⟩ = some (I x.n) := (by rw [cell_of_row _ _ _ _ _ (0, 0) hX2]; rfl); have hT := bTick (K1.out.1.b.below b2) x.n; clear b2 d2 l2 hX2)
            | (go_at_call 9; refine hT.mono ?_; clear hT; rintro e w3 ⟨u3, rfl, -, b3, f3⟩; have K3 : Hid (Oc w w3 tb v zn B p X (.cells #[I x.kind, I x.n, U x.a, U x.b, .bool x.g.shut, I x.g.all, I x.g.os] 48) B2 C) := K2.out.step b3 f3; have z1 : w3.cell? ⟨X, 1, none⟩ = some (I x.n) := (by rw [cell_of_row _ _ _ _ _ (0, 0) K3.out.xb]; rfl); have hR := bRequest b3 x.n; clear b3 f3)
            | (go_at_call 13; refine hR.mono ?_; clear hR; rintro e w4 ⟨rfl, b4, f4⟩; have K4 : Hid (Oc w w4 tb v zn B p X (.cells #[I x.kind, I x.n, U x.a, U x.b, .bool x.g.shut, I x.g.all, I x.g.os] 48) B2 C) := K3.out.step b4 f4; have hM := bCalm b4; clear b4 f4)
            | (go_at_call 20; refine hM.mono ?_; clear hM; rintro e w5 ⟨rfl, b5, f5⟩; have K5 : Hid (Oc w w5 tb v zn B p X (.cells #[I x.kind, I x.n, U x.a, U x.b, .bool x.g.shut, I x.g.all, I x.g.os] 48) B2 C) := K4.out.step b5 f5; clear b5 f5))
          go_meet
          case rel =>
            obtain ⟨p3, zn3, v3, v4, v5, s3, k3, -, -⟩ := K5.out.new
            exact ⟨B2, C, rfl, rfl, ⟨p3, zn3, v3, v4, v5, s3, k3⟩, K5.out.xb⟩
        · have hkB : (x.kind == 12) = false := by simpa using hk
          go_wp2
          go_meet
          case rel => exact ⟨B, P, rfl, rfl, ⟨p, zn, vv, va, vr, s, HK.out.1⟩, HK.out.2.1⟩
      obtain ⟨B', P', rfl, rfl, HQ⟩ := hcut
      clear HK y0
      obtain ⟨⟨p', zn', vv', va', vr', s', k'⟩, hX⟩ := HQ.out
      have hD := does_any k' x xa xb
      have cc := fun j => cell_of_row _ _ j _ _ (0, 0) hX
      have y0 : wc.cell? ⟨X, 0, none⟩ = some (I x.kind) := cc 0
      have y1 : wc.cell? ⟨X, 1, none⟩ = some (I x.n) := cc 1
      have y2 : wc.cell? ⟨X, 2, none⟩ = some (U x.a) := cc 2
      have y3 : wc.cell? ⟨X, 3, none⟩ = some (U x.b) := cc 3
      have y4 : wc.cell? ⟨X, 4, none⟩ = some (.bool x.g.shut) := cc 4
      have y5 : wc.cell? ⟨X, 5, none⟩ = some (I x.g.all) := cc 5
      have y6 : wc.cell? ⟨X, 6, none⟩ = some (I x.g.os) := cc 6
      clear cc hX k' HQ
      unfold DzQ at hD
      go_wp2_with (first
        | (go_at_call 21; refine hD.mono ?_; clear hD; rintro e w6 ⟨rfl, vv2, va2, vr2, s2, k6⟩; have hT := tells_any k6; have K6 : Hid (Bt w w6 tb v B' P' p' zn' vv2 va2 vr2 s2 s2) := k6; clear k6 y0 y1 y2 y3 y4 y5 y6)
        | (go_at_call 22; refine hT.mono ?_; clear hT; rintro e w7 ⟨rfl, b7⟩; have K7 : Hid (Bt w w7 tb v B' P' p' zn' vv2 va2 vr2 s2 s2) := K6.out.below b7; clear b7))
      go_roundw
      case rel => exact ⟨i + 1, B', P', by omega, rfl, rfl, by go_num, ⟨_, _, _, _, _, _, K7.out⟩⟩
      case measure => simp [intOf]; omega
    · obtain rfl : i = sn := by omega
      have hge : ¬ ((i : Int) < i) := by omega
      obtain ⟨p, zn, vv, va, vr, s, k⟩ := HJ.out
      have HB : Hid (Below w.heap.size w wr) := k.d.b
      clear k HJ
      go_wp2
      go_ret
      exact ⟨rfl, HB.out⟩
theorem tickPlays_any (w : World) (tb : Tb) (v : Ts) (ht : TbAt w tb v) (hw : WfT tb) (sc : Sl) (l : List Ca) (hl : RowsAt w 7 caP sc l) : Calls Tryz.prog 5 #[.agg (tbC tb v), .slice sc.a sc.n sc.c] w fun e w' => e = .returned (.bool true) ∧ Below w.heap.size w w' := by
  cases hc : chkP tb with
  | false => exact plays_bar w tb v ht hw sc hc
  | true => exact plays_ok w tb v ht hw sc l hl hc
end Go.Proofs.YthhckhifaolmkaaGreat

namespace Go.Proofs.YthhckhifaolmkaaGreat
open Go.ChangeShapes Go.WideShapes Go.ChangeAt Go.RowKit
set_option linter.unusedVariables false

theorem ownXrp : ownKnob Tryz.prog.godebug = none := by kernel_rfl
theorem laidOutXrp : laidOutB Tryz.prog = true := by kernel_rfl
set_option maxRecDepth 100000 in
theorem tickPlays_lifted (os : Os) (started : os.Started) (H : Type) (enc : TypeId × Value → H) :
    ReturnsInHanded {} Tryz.checked os 5 .any (Rows.tickPlaysSpec.pre6 enc Tryz.prog Tryz.f5 Rows.tickPlaysRow.domain false) (Rows.tickPlaysSpec.post enc Tryz.prog Tryz.f5 false true false false) := by
  refine returnsInHanded_of_change_sized (C := Tryz.checked) ownXrp started (by kernel_rfl) Tryz.func5
    (ChangeSpec.witness6 (enc := enc) (C := Tryz.checked) false ⟨#[], #[.agg #[.int .i64 0, .int .i64 0, .slice none 0 0, .slice none 0 0, .slice none 0 0, .slice none 0 0, .slice none 0 0, .slice none 0 0, .slice none 0 0, .int .i64 0, .int .i64 0, .int .i64 0, .int .i64 0], .slice none 0 0], []⟩ 8 (by kernel_rfl) (by kernel_rfl) (by kernel_rfl) (by kernel_rfl)) ?_
  intro W base args ds gs before hval0 hW hcnd hsz0 _
  have hval : ∀ (j : Nat) t v, Tryz.f5.params[j]? = some t → args[j]? = some v → Value.okWide Tryz.prog W .any base t v := hval0
  have hsz : (DataW.weightsEach Tryz.prog (Tryz.f5.params.toList ++ Rows.tickPlaysSpec.plain.varTypes Tryz.prog) (ds ++ gs)).all (· ≤ reachBytes) = true := hsz0
  have hW' := hW
  obtain ⟨p, q, hA0, hV, rfl, hfz, hnd⟩ := hW
  have hA : DataW.TrodAll enc Tryz.prog W 0 (fun _ => true) true Tryz.f5.params.toList args.toList ds p := hA0
  rw [Tryz.params5] at hA hval hsz
  obtain ⟨v0, vs0, d0, ds0, p0, q0, hargs, rfl, rfl, h0, r0⟩ := trodAll_cons hA
  obtain ⟨v1, vs1, d1, ds1, p1, q1, rfl, rfl, rfl, h1, r1⟩ := trodAll_cons r0
  obtain ⟨rfl, rfl, rfl⟩ := trodAll_nil r1
  obtain rfl : args = #[v0, v1] := by cases args; simp_all
  obtain ⟨rfl, rfl⟩ := trodVars_none hV
  have k0 := h0
  have lt0 : ∀ x ∈ p0, x.block < W.heap.size := by obtain ⟨m, hm⟩ := k0; exact DataW.trod_lt m _ _ _ hm
  obtain ⟨tb0, tv0, rfl, ht0, hw0⟩ := tables_open (hval 0 37 v0 rfl rfl) h0
  have k1 := h1
  have lt1 : ∀ x ∈ p1, x.block < W.heap.size := by obtain ⟨m, hm⟩ := k1; exact DataW.trod_lt m _ _ _ hm
  have z1 : Sized (d1.weights Tryz.prog 23) := fun n hn => sized_of_all hsz n (DataW.weights_mem_each (j := 1) rfl rfl n hn)
  obtain ⟨aa1, nn1, cc1, rfl⟩ := okWide_slice Tryz.underlying23 (hval 1 23 v1 rfl rfl)
  obtain ⟨fu1, hfu1⟩ := h1
  obtain ⟨⟨sa1, sn1, sc1⟩, l1, e1, hr1, hz1⟩ := rows_open ⟨⟨0, 0, 0, 0, ⟨false, 0, 0⟩⟩⟩ (by omega) Tryz.underlying23 p_call hfu1 one_call
  cases e1
  have hzz1 := hz1 z1
  rw [show Tryz.prog.bytesOf 48 = 48 by kernel_rfl] at hzz1
  unfold reachBytes at hzz1
  clear hA0 hval0
  refine (tickPlays_any W tb0 tv0 ht0 hw0 ⟨sa1, sn1, sc1⟩ l1 hr1).mono fun e W' ⟨he, bel⟩ => ?_
  subst he
  exact ⟨_, rfl, _, _, _, [], _, [], hW', trodAll_mk1 (shut_bool Tryz.underlying4 _), (trodAll_cons_mk (Below.trod laidOutXrp (by kernel_rfl) (of_decide_eq_true (by kernel_rfl)) k0 bel lt0) (trodAll_cons_mk (Below.trod laidOutXrp (by kernel_rfl) (of_decide_eq_true (by kernel_rfl)) k1 bel lt1) trodAll_mk0)), rfl, bel.frame _, fun h => by cases h⟩
theorem tickPlays_over : Rows.tickPlaysRow.holds Tryz.pinned (OpenSpec.ofChange Rows.tickPlaysSpec) :=
  OpenClaim.holds_of_wide 5 Tryz.f5 rfl rfl rfl rfl rfl rfl rfl ⟨rfl, rfl, rfl, rfl, rfl⟩ rfl rfl rfl rfl rfl (by kernel_rfl) Tryz.func5 (by kernel_rfl)
    (of_decide_eq_true (by kernel_rfl)) (by unfold Func.isWrapper; first | (rw [if_pos (by decide +kernel)]; kernel_rfl) | (rw [if_neg (by decide +kernel)]; exact ⟨rfl, rfl⟩))
    (fun os started H enc _ => tickPlays_lifted os started H enc)
theorem tickPlays_holds : Rows.TickPlaysSaid := tickPlays_over
#print axioms tickPlays_holds
end Go.Proofs.YthhckhifaolmkaaGreat

