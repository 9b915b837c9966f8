import Derived.Test.YtmllocfeflhjoaaXQlb
import Derived.Test.YtmllocfeflhjoaaRows
import Derived.ProofKit
import Derived.OpenShut
import Derived.ShutString
import Derived.ChangeOld
import Derived.SizedLaws
namespace Go.Proofs.Ytmllocfeflhjoaa
open Go.RowKit Go.Maps Go.Shelf Go.Sort
open Go.Proofs.Ytmllocfeflhjoaa.St (Fx Fz iQ iP iV)
set_option linter.unusedVariables false
set_option linter.unusedSimpArgs false
set_option maxRecDepth 100000
set_option maxHeartbeats 16000000

/-! ### LockOne -/
theorem one_bar (w : World) (tb : Tb) (v : Ts) (ht : TbAt w tb v) (hw : WfT tb) (u : Value) (hc : chkP tb = false) : Calls Try.prog 3 #[.agg (tbC tb v), u] w fun e w' => e = .returned (.bool true) ∧ Below w.heap.size w w' := by
  have hb0 := below_alloc w (.cells (tbC tb v) 30)
  have hV := heap_alloc_new w (.cells (tbC tb v) 30)
  have hN := New_no _ tb v (ht.below hb0) hw hc
  have hH := heads_any
  obtain ⟨c0, c1, c2, c3, c4, c5, c6, c7, c8, c9, c10, c11, c12⟩ := var13 hV
  have HB : Hid (∀ w', Below (w.alloc (.cells (tbC tb v) 30)).heap.size (w.alloc (.cells (tbC tb v) 30)) w' → Below w.heap.size w w') := fun w' hb => hb0.trans (hb.mono hb0.size)
  clear ht hb0 hV hw hc
  unfold tbC at *
  go_enter Try.func3, Try.ntmps3
  go_upto_region 1 with fail
  generalize w.alloc (.cells #[I tb.uses, I tb.modes, .slice v.t.a v.t.n v.t.c, .slice v.g.a v.g.n v.g.c, .slice v.r.a v.r.n v.r.c, .slice v.k.a v.k.n v.k.c, .slice v.a.a v.a.n v.a.c, .slice v.i.a v.i.n v.i.c, .slice v.s.a v.s.n v.s.c, I tb.depth, I tb.frames, I tb.errors, I tb.calls] 30) = w1 at *
  go_wp2_with (first | (go_at_call 4; refine hN.mono ?_; clear hN; rintro e w2 ⟨rfl, hb2⟩) | (go_at_call 5; refine (hH _).mono ?_; rintro e w3 ⟨rfl, hb3⟩))
  go_ret
  exact ⟨rfl, HB.out _ (hb2.trans (hb3.mono hb2.size))⟩
theorem one_law (w : World) (tb : Tb) (v : Ts) (ht : TbAt w tb v) (hw : WfT tb) (sc : Sl) (l : List Cl) (hl : RowsAt w 8 clP sc l) : Calls Try.prog 3 #[.agg (tbC tb v), .slice sc.a sc.n sc.c] w fun e w' => e = .returned (.bool true) ∧ Below w.heap.size w w' := by
  cases hc : chkP tb with
  | false => exact one_bar w tb v ht hw _ hc
  | true =>
  obtain ⟨ii, hii, hi0, hi1, hi2⟩ := info_parts iinfo9
  have hb0 := below_alloc w (.cells (tbC tb v) 30)
  have hV := heap_alloc_new w (.cells (tbC tb v) 30)
  have hN := New_ok _ tb v (ht.below hb0) hw hc
  have hH := heads_any
  have ok := okt_of hc
  obtain ⟨c0, c1, c2, c3, c4, c5, c6, c7, c8, c9, c10, c11, c12⟩ := var13 hV
  have HT : Hid (∀ w', Below (w.alloc (.cells (tbC tb v) 30)).heap.size (w.alloc (.cells (tbC tb v) 30)) w' → Below w.heap.size w w' ∧ TbAt w' tb v ∧ RowsAt w' 8 clP sc l ∧ w'.cell? ⟨w.heap.size, 2, none⟩ = some (.slice v.t.a v.t.n v.t.c) ∧ w'.cell? ⟨w.heap.size, 4, none⟩ = some (.slice v.r.a v.r.n v.r.c) ∧ w'.cell? ⟨w.heap.size, 7, none⟩ = some (.slice v.i.a v.i.n v.i.c)) := fun w' hb => by
    have hlt := heap_lt hV
    exact ⟨hb0.trans (hb.mono hb0.size), (ht.below hb0).below hb, (hl.below hb0 (fun _ _ _ _ h => h)).below hb (fun _ _ _ _ h => h), (cell_below hb _ 2 hlt).trans c2, (cell_below hb _ 4 hlt).trans c4, (cell_below hb _ 7 hlt).trans c7⟩
  have HOK : Hid (OKt tb) := ok
  have HNN : Hid (v.t.n = tb.tasks.length ∧ v.r.n = tb.ress.length ∧ v.i.n = tb.isrs.length ∧ sc.n = l.length ∧ sc.n ≤ sc.c) := ⟨ht.t.n, ht.r.n, ht.i.n, hl.n, hl.c⟩
  have hsc : sc.c ≤ maxLen := hl.m
  have hrc : v.r.n ≤ v.r.c ∧ v.r.c ≤ 9223372036854775807 := ⟨ht.r.c, ht.r.m⟩
  have htc : v.t.n ≤ v.t.c ∧ v.t.c ≤ 9223372036854775807 := ⟨ht.t.c, ht.t.m⟩
  have hic : v.i.n ≤ v.i.c ∧ v.i.c ≤ 9223372036854775807 := ⟨ht.i.c, ht.i.m⟩
  have hn1 : v.t.n ≤ 256 := by rw [ht.t.n]; exact ok.tasks
  have hn2 : v.r.n ≤ 65 := by rw [ht.r.n]; exact ok.ress
  have hn3 : v.i.n ≤ 32 := by rw [ht.i.n]; exact ok.isrs
  have hsn : sc.n ≤ 9223372036854775807 := by have := hl.c; unfold maxLen at hsc; omega
  clear ht hb0 hV hw hc hl ok
  unfold tbC at *
  go_enter Try.func3, Try.ntmps3
  go_upto_region 1 with fail
  generalize w.alloc (.cells #[I tb.uses, I tb.modes, .slice v.t.a v.t.n v.t.c, .slice v.g.a v.g.n v.g.c, .slice v.r.a v.r.n v.r.c, .slice v.k.a v.k.n v.k.c, .slice v.a.a v.a.n v.a.c, .slice v.i.a v.i.n v.i.c, .slice v.s.a v.s.n v.s.c, I tb.depth, I tb.frames, I tb.errors, I tb.calls] 30) = w1 at *
  go_upto_region 6 with (first | (go_at_call 4; refine hN.mono ?_; clear hN; rintro e w2 ⟨B, Z, y, rfl, hl2, hb2, hM, hZ⟩) | (go_at_call 5; refine (hH _).mono ?_; rintro e w3 ⟨rfl, hb3⟩))
  have HI : Hid (One w1 w3 w1.heap.size tb Z y B zeroL) := ⟨hl2.below hb3, hb2.trans (hb3.mono hb2.size), Nat.le_refl _, hM, fun b hb => Nat.lt_of_lt_of_le (hZ b hb).2 hb3.size⟩
  clear c0 c1 c2 c3 c4 c5 c6 c7 c8 c9 c10 c11 c12 hl2 hb2 hM hZ hb3 hH
  go_wp2
  go_loopw [7, 8, 9, 10, 11, 12, 13, 14, 15, 16, 17, 18] (fun v7 _ _ _ _ _ _ _ _ _ _ _ wr => ∃ k : Nat, k ≤ sc.n ∧ v7 = I k ∧ Hid (∃ s, One w1 wr w1.heap.size tb Z y B s)) (fun v7 _ _ _ _ _ _ _ _ _ _ _ _ => sc.n - (intOf v7).toNat)
  case atStart => exact ⟨0, by omega, rfl, _, HI.out⟩
  case round =>
    clear HI
    obtain ⟨k, hk, rfl, HJ⟩ := hrel
    by_cases hlt : k < sc.n
    · have hltI : (k : Int) < sc.n := by omega
      obtain ⟨s, hJ⟩ := HJ.out
      obtain ⟨x, hx⟩ : ∃ x, l[k]? = some x := ⟨_, List.getElem?_eq_getElem (by rw [← HNN.out.2.2.2.1]; exact hlt)⟩
      obtain ⟨-, -, hrow, -, -, -⟩ := HT.out wr hJ.b
      obtain ⟨g, off, f1, f2, q0, q1, q2, q3, q4, q5, q6, q7, hwo, hwn⟩ := call_at hrow hx
      rw [f1]
      have hV2 := heap_alloc_new wr (.cells (clA x) 42)
      have HJ2 : Hid (One w1 (wr.alloc (.cells (clA x) 42)) w1.heap.size tb Z y B s ∧ (wr.alloc (.cells (clA x) 42)).heap[wr.heap.size]? = some (.cells (clA x) 42) ∧ (∀ b, y.M B b → b < wr.heap.size)) := ⟨hJ.below (below_alloc _ _), hV2, fun b => hJ.l.lts⟩
      have HW : Hid (x.o.wf ∧ (Lit.int .i64 x.n).wf = true) := ⟨hwo, hwn⟩
      clear HJ hJ hrow hx hV2 hwo hwn f1
      go_upto_region 10 with fail
      clear q0 q1 q2 q3 q4 q5 q6 q7
      unfold clA at HJ2
      generalize (wr.alloc (.cells #[I x.kind, .bool x.o.isr, I x.o.id, I x.n, .bool x.all, .bool x.g.shut, I x.g.all, I x.g.os] 42)) = w4 at *
      generalize wr.heap.size = Q at *
      obtain ⟨p0, p1, p2, p3, p4, p5, p6, p7⟩ := call_box (x := x) HJ2.out.2.1
      go_upto_block 2 with fail
      go_cut [9] from 42 to 87 (fun _ wz => ∃ s, Hid (One w1 wz w1.heap.size tb Z y B s))
      case first =>
        by_cases k2 : x.kind = 2
        · have hR := Release_some HJ2.out.1.l x.o HW.out.1 x.n
          have kb : (x.kind == 2) = true := beq_iff_eq.2 k2
          clear k2
          go_wp2_with (first | (go_at_call 6; refine hR.mono ?_; clear hR; rintro e w5 ⟨⟨vv, rfl⟩, ⟨s', h5⟩, hf5⟩; have HK : Hid (One w1 w5 w1.heap.size tb Z y B s') := HJ2.out.1.step h5 hf5; clear h5 hf5))
          go_meet
          case rel => exact ⟨_, HK.out⟩
        · have k2b : (x.kind == 2) = false := beq_eq_false_iff_ne.2 k2
          by_cases k4 : x.kind = 4
          · have hR := Enter_some HJ2.out.1.l x.n HW.out.2
            have kb : (x.kind == 4) = true := beq_iff_eq.2 k4
            clear k2 k4
            go_wp2_with (first | (go_at_call 7; refine hR.mono ?_; clear hR; rintro e w5 ⟨⟨vv, rfl⟩, ⟨s', h5⟩, hf5⟩; have HK : Hid (One w1 w5 w1.heap.size tb Z y B s') := HJ2.out.1.step h5 hf5; clear h5 hf5))
            go_meet
            case rel => exact ⟨_, HK.out⟩
          · have k4b : (x.kind == 4) = false := beq_eq_false_iff_ne.2 k4
            by_cases k1 : x.kind = 1
            · have hP := Priority_any HJ2.out.1.l x.o HW.out.1
              have kb : (x.kind == 1) = true := beq_iff_eq.2 k1
              clear k2 k4 k1
              go_upto_region 17 with (first | (go_at_call 8; refine hP.mono ?_; clear hP; rintro e w5 ⟨rfl, hb5⟩))
              have HK : Hid (One w1 w5 w1.heap.size tb Z y B s ∧ w5.heap[Q]? = some (.cells (clA x) 42)) := ⟨HJ2.out.1.below hb5, (hb5.block _ (heap_lt HJ2.out.2.1)).trans HJ2.out.2.1⟩
              clear p0 p1 p2 p3 p4 p5 p6 p7 hb5
              obtain ⟨p0, p1, p2, p3, p4, p5, p6, p7⟩ := call_box (x := x) HK.out.2
              have hG := Get_some HK.out.1.l x.o HW.out.1 x.n HW.out.2
              clear p0
              go_wp2_with (first | (go_at_call 9; refine hG.mono ?_; clear hG))
              rintro e w6 ⟨hor, hf6⟩
              have hQ6 := hf6.heap HK.out.2 (fun e => by have := HJ2.out.2.2 Q e; omega)
              clear p1 p2 p3 p4 p5 p6 p7
              obtain ⟨p0, p1, p2, p3, p4, p5, p6, p7⟩ := call_box (x := x) hQ6
              rcases hor with ⟨vv, rfl, hv0, h6⟩ | ⟨rfl, ha6, hn6, h6⟩
              · have hvb : (vv == 0) = false := beq_eq_false_iff_ne.2 hv0
                have HK6 : Hid (One w1 w6 w1.heap.size tb Z y B s) := HK.out.1.step h6 hf6
                clear h6 hf6 hQ6 hv0 p0
                go_wp2
                go_meet
                case rel => exact ⟨_, HK6.out⟩
              · have HK6 : Hid (One w1 w6 w1.heap.size tb Z y B ⟨s.L ++ [(x.o, x.n)], s.i, s.g⟩) := HK.out.1.step h6 hf6
                have HA6 : Hid (asks tb x.o x.n = true ∧ hdr s.L x.n = none ∧ Lk w6 tb Z y B ⟨s.L ++ [(x.o, x.n)], s.i, s.g⟩ ∧ w6.heap[Q]? = some (.cells (clA x) 42)) := ⟨ha6, hn6, h6, hQ6⟩
                clear h6 hf6 hQ6 p0 ha6 hn6
                rcases Bool.eq_false_or_eq_true x.all with ha | ha
                · have hB6 := Back_ok HA6.out.2.2.1 HW.out.1 HA6.out.1 HA6.out.2.1
                  rw [ha] at p4
                  clear ha
                  go_wp2_with (first
                    | (go_at_call 6; refine hB6.mono ?_; clear hB6; rintro e w7 ⟨rfl, h7, hf7⟩; have HK7 : Hid (One w1 w7 w1.heap.size tb Z y B s) := HK6.out.step h7 hf7; have hQ7 := hf7.heap HA6.out.2.2.2 (fun e => by have := HJ2.out.2.2 Q e; omega); have hP7 := Priority_any h7 x.o HW.out.1; clear p1 p2 p3 p4 p5 p6 p7 h7 hf7; obtain ⟨-, p1, p2, p3, p4, p5, p6, p7⟩ := call_box (x := x) hQ7; clear hQ7)
                    | (go_at_call 8; refine hP7.mono ?_; clear hP7; rintro e w8 ⟨rfl, hb8⟩; have HK8 : Hid (One w1 w8 w1.heap.size tb Z y B s) := HK7.out.below hb8; clear hb8))
                  go_meet
                  case rel => exact ⟨_, HK8.out⟩
                · rw [ha] at p4
                  clear ha
                  go_wp2
                  go_meet
                  case rel => exact ⟨_, HK6.out⟩
            · have k1b : (x.kind == 1) = false := beq_eq_false_iff_ne.2 k1
              clear k1 k2 k4
              go_wp2
              go_meet
              case rel => exact ⟨_, HJ2.out.1⟩
      case rest =>
        obtain ⟨s5, HK⟩ := hcut
        clear p0 p1 p2 p3 p4 p5 p6 p7 HJ2 HW
        obtain ⟨-, -, -, t2, t4, t7⟩ := HT.out wc HK.out.b
        obtain ⟨w6, hmk, ho6, hg6⟩ := run_make_full (P := Try.prog) wc wc.heap.size 47 3 ii _ 1 Try.underlying47 hii hi0 hi1 .i64 .i64 v.r.n (by rw [hi2]; omega) (by unfold maxLen; omega) (Nat.le_refl _)
        have b6 : Below wc.heap.size wc w6 := ⟨hg6.os, hg6.tape, hg6.output, hg6.size, fun i hi => hg6.block i hi (by simp)⟩
        have HC : Hid (One w1 w6 w1.heap.size tb Z y B s5 ∧ w6.ownsRow wc.heap.size 3 1 (.slice (some ⟨wc.heap.size, 0, none⟩) v.r.n v.r.n) v.r.n (rowC (seenK tb s5.L 0) v.r.n)) := ⟨HK.out.below b6, by rw [show seenK tb s5.L 0 = [] from rfl, rowC_zero]; exact ho6⟩
        have HCC : Hid (w1.heap.size ≤ wc.heap.size ∧ (∀ b, y.M B b → b < wc.heap.size) ∧ ∀ b, Z b → b < wc.heap.size) := ⟨HK.out.sz, fun b hb => HK.out.l.lts hb, HK.out.z⟩
        clear ho6 hg6 b6 HK
        generalize wc.heap.size = C at *
        go_upto_region 21 with fail
        clear t2 t4 t7 hmk
        go_wp2
        go_loopw [11, 12, 13, 14, 15, 16, 17, 18] (fun v11 _ _ _ _ _ _ _ wr => ∃ k2 : Nat, k2 ≤ v.t.n + v.i.n ∧ v11 = I k2 ∧ Hid (One w1 wr w1.heap.size tb Z y B s5 ∧ wr.ownsRow C 3 1 (.slice (some ⟨C, 0, none⟩) v.r.n v.r.n) v.r.n (rowC (seenK tb s5.L k2) v.r.n))) (fun v11 _ _ _ _ _ _ _ _ => v.t.n + v.i.n - (intOf v11).toNat)
        case atStart => exact ⟨0, by omega, rfl, HC.out⟩
        case round =>
          clear HC
          obtain ⟨k2, hk2, rfl, HL⟩ := hrel
          obtain ⟨-, htt, -, t2, t4, t7⟩ := HT.out wr HL.out.1.b
          by_cases hlt2 : k2 < v.t.n + v.i.n
          · have hlt2I : (k2 : Int) < (v.t.n : Int) + v.i.n := by omega
            have hV3 := heap_alloc_new wr (.cells #[.bool false, I k2] 38)
            have HM : Hid (One w1 (wr.alloc (.cells #[.bool false, I k2] 38)) w1.heap.size tb Z y B s5 ∧ (wr.alloc (.cells #[.bool false, I k2] 38)).ownsRow C 3 1 (.slice (some ⟨C, 0, none⟩) v.r.n v.r.n) v.r.n (rowC (seenK tb s5.L k2) v.r.n) ∧ (wr.alloc (.cells #[.bool false, I k2] 38)).heap[wr.heap.size]? = some (.cells #[.bool false, I k2] 38)) := ⟨HL.out.1.below (below_alloc _ _), own_below HL.out.2 (below_alloc _ _), hV3⟩
            have HO : Hid (C < wr.heap.size ∧ (∀ b, y.M B b → b < wr.heap.size) ∧ (∀ b, Z b → b < wr.heap.size) ∧ w1.heap.size ≤ wr.heap.size) := ⟨(HL.out.2.lt C rfl).2, fun b hb => HL.out.1.l.lts hb, HL.out.1.z, HL.out.1.sz⟩
            clear hV3 HL htt
            go_upto_region 25 with fail
            clear t2 t4 t7
            generalize wr.alloc (.cells #[.bool false, I k2] 38) = w7 at *
            generalize wr.heap.size = O at *
            obtain ⟨-, htt, -, t2, t4, t7⟩ := HT.out w7 HM.out.1.b
            go_upto_if 109 with fail
            go_cut [] from 105 to 115 (fun wx => Hid (One w1 wx w1.heap.size tb Z y B s5 ∧ wx.ownsRow C 3 1 (.slice (some ⟨C, 0, none⟩) v.r.n v.r.n) v.r.n (rowC (seenK tb s5.L k2) v.r.n) ∧ wx.heap[O]? = some (.cells #[.bool (ownK tb k2).isr, I (ownK tb k2).id] 38)))
            case first =>
              by_cases hT : k2 < v.t.n
              · have hge : ¬ ((v.t.n : Int) ≤ k2) := by omega
                have HOK2 : Hid (ownK tb k2 = ⟨false, (k2 : Int)⟩) := by show _ = _; unfold ownK; rw [if_pos (by rw [← HNN.out.1]; exact hT)]
                clear htt hT
                go_wp2
                go_meet
                case rel => rw [HOK2.out]; exact HM.out
              · have hge : (v.t.n : Int) ≤ k2 := by omega
                have HOK2 : Hid (ownK tb k2 = ⟨true, (k2 : Int) - v.t.n⟩) := by show _ = _; unfold ownK; rw [if_neg (by rw [← HNN.out.1]; exact hT), HNN.out.1]
                have o0 : w7.cell? ⟨O, 0, none⟩ = some (.bool false) := by rw [cell_of_row _ _ _ _ _ (0, 0) HM.out.2.2]; rfl
                have o1 : w7.cell? ⟨O, 1, none⟩ = some (I k2) := by rw [cell_of_row _ _ _ _ _ (0, 0) HM.out.2.2]; rfl
                have o2 : ∀ j, w7.frozen? ⟨O, j, none⟩ = false := fun j => frozen_of_row _ _ j _ _ HM.out.2.2
                have hF : Fz (fun b => b = O) w7 ((w7.setCell ⟨O, 0, none⟩ (.bool true)).setCell ⟨O, 1, none⟩ (I ((k2 : Int) - v.t.n))) := ((Fz.refl (fun b => b = O) w7).set (.inl rfl) _ _).set (.inl rfl) _ _
                have HM2 : Hid (One w1 ((w7.setCell ⟨O, 0, none⟩ (.bool true)).setCell ⟨O, 1, none⟩ (I ((k2 : Int) - v.t.n))) w1.heap.size tb Z y B s5 ∧ ((w7.setCell ⟨O, 0, none⟩ (.bool true)).setCell ⟨O, 1, none⟩ (I ((k2 : Int) - v.t.n))).ownsRow C 3 1 (.slice (some ⟨C, 0, none⟩) v.r.n v.r.n) v.r.n (rowC (seenK tb s5.L k2) v.r.n) ∧ ((w7.setCell ⟨O, 0, none⟩ (.bool true)).setCell ⟨O, 1, none⟩ (I ((k2 : Int) - v.t.n))).heap[O]? = some (.cells #[.bool true, I ((k2 : Int) - v.t.n)] 38)) := ⟨HM.out.1.kept hF (fun b e => by rw [e]; exact HO.out.2.2.2) (fun b hb e => by have := HO.out.2.1 b hb; omega) (fun b hb e => by have := HO.out.2.2.1 b hb; omega), hF.own HM.out.2.1 (fun g e e2 => by have := HO.out.1; simp [Value.ownBlock] at e; omega), heap_setCell_same _ _ 1 _ _ _ (heap_setCell_same _ _ 0 _ _ _ HM.out.2.2)⟩
                clear htt hT hF
                go_wp2
                go_meet
                case rel => rw [HOK2.out]; exact HM2.out
            case rest =>
              have HX := hcut
              clear hcut HM t2 t4 t7 htt
              obtain ⟨bo, hbo⟩ := ownK_obs (tb := tb) (k := k2) (by have := HNN.out; omega)
              have hwo := (HX.out.1.l.ps _ bo hbo).1
              have HPR : Hid (bo.prio ≤ prioO tb s5 (ownK tb k2) ∧ ∀ r ∈ hld s5.L (ownK tb k2), ceilOf tb r ≤ prioO tb s5 (ownK tb k2)) := prio_ge hbo
              have HBO : Hid (obs tb (ownK tb k2) = some bo ∧ (ownK tb k2).wf) := ⟨hbo, hwo⟩
              have b0 : wc.cell? ⟨O, 0, none⟩ = some (.bool (ownK tb k2).isr) := by rw [cell_of_row _ _ _ _ _ (0, 0) HX.out.2.2]; rfl
              have b1 : wc.cell? ⟨O, 1, none⟩ = some (I (ownK tb k2).id) := by rw [cell_of_row _ _ _ _ _ (0, 0) HX.out.2.2]; rfl
              have hP := Priority_any HX.out.1.l (ownK tb k2) hwo
              clear hbo hwo
              go_upto_region 28 with (first | (go_at_call 8; refine hP.mono ?_; clear hP; rintro e w8 ⟨rfl, hb8⟩))
              have HX8 : Hid (One w1 w8 w1.heap.size tb Z y B s5 ∧ w8.ownsRow C 3 1 (.slice (some ⟨C, 0, none⟩) v.r.n v.r.n) v.r.n (rowC (seenK tb s5.L k2) v.r.n) ∧ w8.heap[O]? = some (.cells #[.bool (ownK tb k2).isr, I (ownK tb k2).id] 38)) := ⟨HX.out.1.below hb8, own_below HX.out.2.1 hb8, (hb8.block _ (heap_lt HX.out.2.2)).trans HX.out.2.2⟩
              clear HX b0 b1 hb8
              have b0 : w8.cell? ⟨O, 0, none⟩ = some (.bool (ownK tb k2).isr) := by rw [cell_of_row _ _ _ _ _ (0, 0) HX8.out.2.2]; rfl
              have b1 : w8.cell? ⟨O, 1, none⟩ = some (I (ownK tb k2).id) := by rw [cell_of_row _ _ _ _ _ (0, 0) HX8.out.2.2]; rfl
              have hP := Held_any HX8.out.1.l (ownK tb k2) HBO.out.2
              go_upto_region 29 with (first | (go_at_call 10; refine hP.mono ?_; clear hP; rintro e w9 ⟨hv, rfl, hO9, hb9⟩; obtain ⟨ha, hcap, rfl⟩ := own_slk19 hO9))
              obtain ⟨N5, hN5⟩ : ∃ N5, N5 = (hld s5.L (ownK tb k2)).length := ⟨_, rfl⟩
              rw [← hN5] at hO9 ⊢
              have HN5 : Hid (N5 = (hld s5.L (ownK tb k2)).length) := hN5
              have hN65 : N5 ≤ 1024 := by
                obtain ⟨_, _, _, hB5, _⟩ := HX8.out.1.l.ps _ bo HBO.out.1
                obtain ⟨hi5, hk5⟩ := hB5.k
                have h1 := hk5.le
                have h2 := hk5.m
                omega
              have HX9 : Hid (One w1 w9 w1.heap.size tb Z y B s5 ∧ w9.ownsRow C 3 1 (.slice (some ⟨C, 0, none⟩) v.r.n v.r.n) v.r.n (rowC (seenK tb s5.L k2 ++ (hld s5.L (ownK tb k2)).take 0) v.r.n) ∧ w9.heap[O]? = some (.cells #[.bool (ownK tb k2).isr, I (ownK tb k2).id] 38) ∧ w9.ownsRow w8.heap.size 3 1 (.slice ha N5 hcap) N5 (iV (hld s5.L (ownK tb k2)))) := ⟨HX8.out.1.below hb9, by rw [List.take_zero, List.append_nil]; exact own_below HX8.out.2.1 hb9, (hb9.block _ (heap_lt HX8.out.2.2)).trans HX8.out.2.2, hO9⟩
              have HLT : Hid (C < w8.heap.size ∧ O < w8.heap.size ∧ C < O) := ⟨(HX8.out.2.1.lt C rfl).2, heap_lt HX8.out.2.2, HO.out.1⟩
              clear HX8 b0 b1 hb9 hO9 hN5
              generalize w8.heap.size = S8 at *
              go_wp2
              go_loopw [15, 16, 17, 18] (fun v15 _ _ _ wr => ∃ j : Nat, j ≤ N5 ∧ v15 = I j ∧ Hid (One w1 wr w1.heap.size tb Z y B s5 ∧ wr.ownsRow C 3 1 (.slice (some ⟨C, 0, none⟩) v.r.n v.r.n) v.r.n (rowC (seenK tb s5.L k2 ++ (hld s5.L (ownK tb k2)).take j) v.r.n) ∧ wr.heap[O]? = some (.cells #[.bool (ownK tb k2).isr, I (ownK tb k2).id] 38) ∧ wr.ownsRow S8 3 1 (.slice ha N5 hcap) N5 (iV (hld s5.L (ownK tb k2))))) (fun v15 _ _ _ _ => N5 - (intOf v15).toNat)
              case atStart => exact ⟨0, by omega, rfl, HX9.out⟩
              case round =>
                clear HX9
                obtain ⟨j, hj, rfl, HY⟩ := hrel
                by_cases hj2 : j < N5
                · have hj2I : (j : Int) < N5 := by omega
                  obtain ⟨r, hr⟩ : ∃ r, (hld s5.L (ownK tb k2))[j]? = some r := ⟨_, List.getElem?_eq_getElem (by rw [← HN5.out]; exact hj2)⟩
                  have hrm := List.mem_of_getElem? hr
                  obtain ⟨b', hb', hro⟩ := HY.out.1.l.ok.own _ r (mem_hld.1 hrm)
                  obtain ⟨hr0, x5, hx5, -, -⟩ := (HOK.out.own _ b' hb').2 r hro
                  obtain ⟨rn, rfl⟩ := Int.eq_ofNat_of_zero_le hr0
                  rw [Int.toNat_natCast] at hx5
                  have hrn : rn < v.r.n := by rw [HNN.out.2.1]; exact (List.getElem?_eq_some_iff.1 hx5).1
                  have hce : ¬ (prioO tb s5 (ownK tb k2) < x5.ceil) := by
                    have := HPR.out.2 _ hrm
                    unfold ceilOf at this
                    rw [Int.toNat_natCast, hx5] at this
                    have h2 : x5.ceil ≤ prioO tb s5 (ownK tb k2) := this
                    omega
                  have hnew := seen_new HY.out.1.l.ok.nd hr
                  obtain ⟨-, htt, -, t2, t4, t7⟩ := HT.out wr HY.out.1.b
                  obtain ⟨g6, off6, e6, -, z0, z1⟩ := rsr_at htt hx5
                  rw [e6] at t4
                  obtain ⟨g5, c5, e5⟩ : ∃ g c, Value.slice ha N5 hcap = .slice (some ⟨g, 0, none⟩) N5 c := by
                    rcases HY.out.2.2.2.2 with ⟨h1, h2⟩ | ⟨g, cap, cur, h1, _⟩
                    · omega
                    · exact ⟨g, cap, h1⟩
                  cases e5
                  have y5 : wr.cell? ⟨g5, j, none⟩ = some (I (rn : Int)) := by rw [HY.out.2.2.2.cellAt j (by omega)]; simp [iV, hr]
                  have hg5 := HY.out.2.2.2.lt g5 rfl
                  have yC : wr.cell? ⟨C, rn, none⟩ = some (I 0) := by
                    rw [HY.out.2.1.cellAt rn (by simp [rowC]; exact hrn), rowC_at _ hrn]
                    simp only [cntK, if_neg hnew]
                  have yF := HY.out.2.1.frozenAt rn
                  have HFz : Hid (Fz (fun b => b = C) wr (wr.setCell ⟨C, rn, none⟩ (I 1))) := (Fz.refl (fun b => b = C) wr).set (.inl rfl) _ _
                  have HY2 : Hid (One w1 (wr.setCell ⟨C, rn, none⟩ (I 1)) w1.heap.size tb Z y B s5 ∧ (wr.setCell ⟨C, rn, none⟩ (I 1)).ownsRow C 3 1 (.slice (some ⟨C, 0, none⟩) v.r.n v.r.n) v.r.n (rowC (seenK tb s5.L k2 ++ (hld s5.L (ownK tb k2)).take (j + 1)) v.r.n) ∧ (wr.setCell ⟨C, rn, none⟩ (I 1)).heap[O]? = some (.cells #[.bool (ownK tb k2).isr, I (ownK tb k2).id] 38) ∧ (wr.setCell ⟨C, rn, none⟩ (I 1)).ownsRow S8 3 1 (.slice (some ⟨g5, 0, none⟩) N5 hcap) N5 (iV (hld s5.L (ownK tb k2))) ∧ (wr.setCell ⟨C, rn, none⟩ (I 1)).cell? ⟨C, rn, none⟩ = some (I 1)) := by
                    have hs1 := (HY.out.2.1.stored rn (I 1)).1
                    have hset := rowC_set (seenK tb s5.L k2 ++ (hld s5.L (ownK tb k2)).take j) hrn hnew
                    have hc0 : cntK (seenK tb s5.L k2 ++ (hld s5.L (ownK tb k2)).take j) rn = 0 := by unfold cntK; rw [if_neg hnew]
                    rw [hc0] at hset
                    have hset2 : (rowC (seenK tb s5.L k2 ++ (hld s5.L (ownK tb k2)).take j) v.r.n).set rn (I 1) = rowC (seenK tb s5.L k2 ++ (hld s5.L (ownK tb k2)).take (j + 1)) v.r.n := by
                      rw [List.take_add_one, hr, Option.toList_some, ← List.append_assoc]
                      exact hset
                    rw [hset2] at hs1
                    refine ⟨HY.out.1.kept HFz.out (fun b e => by rw [e]; exact HCC.out.1) (fun b hb e => by have := HCC.out.2.1 b hb; omega) (fun b hb e => by have := HCC.out.2.2 b hb; omega), hs1, HFz.out.heap HY.out.2.2.1 (fun e => by have := HLT.out.2.2; omega), HFz.out.own HY.out.2.2.2 (fun g e e2 => by have h1 := (HY.out.2.2.2.lt g e).1; have h2 := HLT.out.1; omega), ?_⟩
                    rw [hs1.cellAt rn (by simp [rowC]; exact hrn), rowC_at _ hrn]
                    have : ((rn : Nat) : Int) ∈ seenK tb s5.L k2 ++ (hld s5.L (ownK tb k2)).take (j + 1) := by
                      rw [List.take_add_one, hr, Option.toList_some]
                      simp
                    unfold cntK
                    rw [if_pos this]
                  have HHd : Hid (hdr s5.L (rn : Int) = some (ownK tb k2)) := hdr_mem HY.out.1.l.ok.nd (mem_hld.1 hrm)
                  have hrnI : (rn : Int) < v.r.n := by omega
                  have hrnN : ¬ ((rn : Int) < 0) := by omega
                  have hrnG : ¬ ((v.r.n : Int) ≤ rn) := by omega
                  have hwr : (Lit.int .i64 (rn : Int)).wf = true := WalkArith.wf_i64 (by omega)
                  have hHo := Holder_any HY2.out.1.l (rn : Int) hwr
                  rw [HHd.out] at hHo
                  simp only [ozV, ov, Option.isSome_some] at hHo
                  clear hr hrm hb' hro hr0 hx5 hnew htt t2 t7 e6 HY HHd hwr hg5
                  go_upto_region 36 with fail
                  clear z0 z1 t4 y5 yC yF
                  have hY5 := HY2.out
                  have HY5 : Hid _ := hY5
                  clear HY2 HFz hY5
                  generalize wr.setCell ⟨C, rn, none⟩ (I 1) = w10 at *
                  go_upto_region 37 with (first | (go_at_call 11; refine hHo.mono ?_; clear hHo; rintro e w11 ⟨rfl, hb11⟩))
                  have hb12 := below_alloc w11 (.cells #[.bool (ownK tb k2).isr, I (ownK tb k2).id] 38)
                  have hb13 : Below w10.heap.size w10 (w11.alloc (.cells #[.bool (ownK tb k2).isr, I (ownK tb k2).id] 38)) := hb11.trans (hb12.mono hb11.size)
                  have HY6 : Hid (One w1 (w11.alloc (.cells #[.bool (ownK tb k2).isr, I (ownK tb k2).id] 38)) w1.heap.size tb Z y B s5 ∧ (w11.alloc (.cells #[.bool (ownK tb k2).isr, I (ownK tb k2).id] 38)).ownsRow C 3 1 (.slice (some ⟨C, 0, none⟩) v.r.n v.r.n) v.r.n (rowC (seenK tb s5.L k2 ++ (hld s5.L (ownK tb k2)).take (j + 1)) v.r.n) ∧ (w11.alloc (.cells #[.bool (ownK tb k2).isr, I (ownK tb k2).id] 38)).heap[O]? = some (.cells #[.bool (ownK tb k2).isr, I (ownK tb k2).id] 38) ∧ (w11.alloc (.cells #[.bool (ownK tb k2).isr, I (ownK tb k2).id] 38)).ownsRow S8 3 1 (.slice (some ⟨g5, 0, none⟩) N5 hcap) N5 (iV (hld s5.L (ownK tb k2)))) := ⟨HY5.out.1.below hb13, own_below HY5.out.2.1 hb13, (hb13.block _ (heap_lt HY5.out.2.2.1)).trans HY5.out.2.2.1, own_below HY5.out.2.2.2.1 hb13⟩
                  have yC : (w11.alloc (.cells #[.bool (ownK tb k2).isr, I (ownK tb k2).id] 38)).cell? ⟨C, rn, none⟩ = some (I 1) := (cell_below hb13 _ _ (World.block_lt_of_cell? _ _ HY5.out.2.2.2.2)).trans HY5.out.2.2.2.2
                  obtain ⟨m0, m1⟩ := box_own w11 (ownK tb k2)
                  have b0 : (w11.alloc (.cells #[.bool (ownK tb k2).isr, I (ownK tb k2).id] 38)).cell? ⟨O, 0, none⟩ = some (.bool (ownK tb k2).isr) := by rw [cell_of_row _ _ _ _ _ (0, 0) HY6.out.2.2.1]; rfl
                  have b1 : (w11.alloc (.cells #[.bool (ownK tb k2).isr, I (ownK tb k2).id] 38)).cell? ⟨O, 1, none⟩ = some (I (ownK tb k2).id) := by rw [cell_of_row _ _ _ _ _ (0, 0) HY6.out.2.2.1]; rfl
                  clear hb11 hb12 hb13 HY5
                  generalize w11.alloc (.cells #[.bool (ownK tb k2).isr, I (ownK tb k2).id] 38) = w12 at *
                  generalize w11.heap.size = Hx at *
                  go_wp2
                  go_roundw
                  case rel => exact ⟨j + 1, by omega, by go_num, HY6.out⟩
                  case measure => simp [intOf]; omega
                · obtain rfl : j = N5 := by omega
                  have hge5 : ¬ ((j : Int) < j) := by omega
                  have HZ : Hid (One w1 wr w1.heap.size tb Z y B s5 ∧ wr.ownsRow C 3 1 (.slice (some ⟨C, 0, none⟩) v.r.n v.r.n) v.r.n (rowC (seenK tb s5.L (k2 + 1)) v.r.n)) := ⟨HY.out.1, by rw [seen_succ, ← List.take_of_length_le (l := hld s5.L (ownK tb k2)) (i := j) (by rw [HN5.out]; exact Nat.le_refl _)]; exact HY.out.2.1⟩
                  have o0 : wr.cell? ⟨O, 0, none⟩ = some (.bool (ownK tb k2).isr) := by rw [cell_of_row _ _ _ _ _ (0, 0) HY.out.2.2.1]; rfl
                  have o1 : wr.cell? ⟨O, 1, none⟩ = some (I (ownK tb k2).id) := by rw [cell_of_row _ _ _ _ _ (0, 0) HY.out.2.2.1]; rfl
                  obtain ⟨-, htt, -, t2, t4, t7⟩ := HT.out wr HY.out.1.b
                  by_cases hT : k2 < v.t.n
                  · have hO2 : ownK tb k2 = ⟨false, (k2 : Int)⟩ := by unfold ownK; rw [if_pos (by rw [← HNN.out.1]; exact hT)]
                    rw [hO2] at o0 o1
                    obtain ⟨x6, hx6⟩ : ∃ x, tb.tasks[k2]? = some x := ⟨_, List.getElem?_eq_getElem (by rw [← HNN.out.1]; exact hT)⟩
                    have hpp : ¬ (prioO tb s5 (ownK tb k2) < x6.prio) := by
                      have h1 := HPR.out.1
                      have h2 := HBO.out.1
                      rw [hO2, obs_task hx6] at h2
                      cases h2
                      have h3 : x6.prio ≤ prioO tb s5 (ownK tb k2) := h1
                      omega
                    obtain ⟨g7, off7, s7, e7, -, z0, -, -, -, -, -, -, -, -⟩ := tkr_at htt hx6
                    rw [e7] at t2
                    have hTI : (k2 : Int) < v.t.n := by omega
                    clear hO2 hx6 htt e7 HY hT t4 t7
                    go_wp2
                    go_roundw
                    case rel => exact ⟨k2 + 1, by omega, by go_num, HZ.out⟩
                    case measure => simp [intOf]; omega
                  · obtain ⟨m, hm⟩ : ∃ m : Nat, m = k2 - v.t.n := ⟨_, rfl⟩
                    have hO2 : ownK tb k2 = ⟨true, (m : Int)⟩ := by unfold ownK; rw [if_neg (by rw [← HNN.out.1]; exact hT)]; congr 1; have := HNN.out.1; omega
                    rw [hO2] at o0 o1
                    have hmi : m < v.i.n := by omega
                    obtain ⟨x6, hx6⟩ : ∃ x, tb.isrs[m]? = some x := ⟨_, List.getElem?_eq_getElem (by rw [← HNN.out.2.2.1]; exact hmi)⟩
                    have hpp : ¬ (prioO tb s5 (ownK tb k2) < x6.prio) := by
                      have h1 := HPR.out.1
                      have h2 := HBO.out.1
                      rw [hO2, obs_isr hx6] at h2
                      cases h2
                      have h3 : x6.prio ≤ prioO tb s5 (ownK tb k2) := h1
                      omega
                    obtain ⟨g7, off7, s7, e7, -, -, z0, -, -⟩ := isr_at htt hx6
                    rw [e7] at t7
                    have hTI : (m : Int) < v.i.n := by omega
                    clear hO2 hx6 htt e7 HY hT t4 t2 hm
                    go_wp2
                    go_roundw
                    case rel => exact ⟨k2 + 1, by omega, by go_num, HZ.out⟩
                    case measure => simp [intOf]; omega
          · obtain rfl : k2 = v.t.n + v.i.n := by omega
            have hge2 : ¬ (((v.t.n + v.i.n : Nat) : Int) < (v.t.n : Int) + v.i.n) := by omega
            have HZ : Hid (One w1 wr w1.heap.size tb Z y B s5) := HL.out.1
            clear htt t4 HL
            go_wp2
            go_roundw
            case rel => exact ⟨k + 1, by omega, by go_num, _, HZ.out⟩
            case measure => simp [intOf]; omega
    · obtain rfl : k = sc.n := by omega
      have hge : ¬ ((sc.n : Int) < sc.n) := by omega
      obtain ⟨s, hJ⟩ := HJ.out
      have HZ : Hid (Below w.heap.size w wr) := (HT.out wr hJ.b).1
      clear HJ hJ
      go_wp2
      go_ret
      exact ⟨rfl, HZ.out⟩
end Go.Proofs.Ytmllocfeflhjoaa

namespace Go.Proofs.Ytmllocfeflhjoaa
open Go.ChangeShapes Go.WideShapes Go.ChangeAt Go.RowKit
set_option linter.unusedVariables false

theorem ownQro : ownKnob Try.prog.godebug = none := by kernel_rfl
theorem laidOutQro : laidOutB Try.prog = true := by kernel_rfl
set_option maxRecDepth 100000 in
theorem lockOne_lifted (os : Os) (started : os.Started) (H : Type) (enc : TypeId × Value → H) :
    ReturnsInHanded {} Try.checked os 3 .any (Rows.lockOneSpec.pre6 enc Try.prog Try.f3 Rows.lockOneRow.domain false) (Rows.lockOneSpec.post enc Try.prog Try.f3 false true false false) := by
  refine returnsInHanded_of_change_sized (C := Try.checked) ownQro started (by kernel_rfl) Try.func3
    (ChangeSpec.witness6 (enc := enc) (C := Try.checked) false ⟨#[], #[.agg #[.int .i64 0, .int .i64 0, .slice none 0 0, .slice none 0 0, .slice none 0 0, .slice none 0 0, .slice none 0 0, .slice none 0 0, .slice none 0 0, .int .i64 0, .int .i64 0, .int .i64 0, .int .i64 0], .slice none 0 0], []⟩ 8 (by kernel_rfl) (by kernel_rfl) (by kernel_rfl) (by kernel_rfl)) ?_
  intro W base args ds gs before hval0 hW hcnd hsz0 _
  have hval : ∀ (j : Nat) t v, Try.f3.params[j]? = some t → args[j]? = some v → Value.okWide Try.prog W .any base t v := hval0
  have hsz : (DataW.weightsEach Try.prog (Try.f3.params.toList ++ Rows.lockOneSpec.plain.varTypes Try.prog) (ds ++ gs)).all (· ≤ reachBytes) = true := hsz0
  have hW' := hW
  obtain ⟨p, q, hA0, hV, rfl, hfz, hnd⟩ := hW
  have hA : DataW.TrodAll enc Try.prog W 0 (fun _ => true) true Try.f3.params.toList args.toList ds p := hA0
  rw [Try.params3] at hA hval hsz
  obtain ⟨v0, vs0, d0, ds0, p0, q0, hargs, rfl, rfl, h0, r0⟩ := trodAll_cons hA
  obtain ⟨v1, vs1, d1, ds1, p1, q1, rfl, rfl, rfl, h1, r1⟩ := trodAll_cons r0
  obtain ⟨rfl, rfl, rfl⟩ := trodAll_nil r1
  obtain rfl : args = #[v0, v1] := by cases args; simp_all
  obtain ⟨rfl, rfl⟩ := trodVars_none hV
  have k0 := h0
  have lt0 : ∀ x ∈ p0, x.block < W.heap.size := by obtain ⟨m, hm⟩ := k0; exact DataW.trod_lt m _ _ _ hm
  obtain ⟨tb0, tv0, rfl, ht0, hw0⟩ := tables_open (hval 0 30 v0 rfl rfl) h0
  have k1 := h1
  have lt1 : ∀ x ∈ p1, x.block < W.heap.size := by obtain ⟨m, hm⟩ := k1; exact DataW.trod_lt m _ _ _ hm
  have z1 : Sized (d1.weights Try.prog 31) := fun n hn => sized_of_all hsz n (DataW.weights_mem_each (j := 1) rfl rfl n hn)
  obtain ⟨aa1, nn1, cc1, rfl⟩ := okWide_slice Try.underlying31 (hval 1 31 v1 rfl rfl)
  obtain ⟨fu1, hfu1⟩ := h1
  obtain ⟨⟨sa1, sn1, sc1⟩, l1, e1, hr1, hz1⟩ := rows_open ⟨⟨0, ⟨false, 0⟩, 0, false, ⟨false, 0, 0⟩⟩⟩ (by omega) Try.underlying31 p_call hfu1 one_call
  cases e1
  have hzz1 := hz1 z1
  rw [show Try.prog.bytesOf 42 = 64 by kernel_rfl] at hzz1
  unfold reachBytes at hzz1
  clear hA0 hval0
  refine (one_law W tb0 tv0 ht0 hw0 ⟨sa1, sn1, sc1⟩ l1 hr1).mono fun e W' ⟨he, bel⟩ => ?_
  subst he
  exact ⟨_, rfl, _, _, _, [], _, [], hW', trodAll_mk1 (shut_bool Try.underlying4 _), (trodAll_cons_mk (Below.trod laidOutQro (by kernel_rfl) (of_decide_eq_true (by kernel_rfl)) k0 bel lt0) (trodAll_cons_mk (Below.trod laidOutQro (by kernel_rfl) (of_decide_eq_true (by kernel_rfl)) k1 bel lt1) trodAll_mk0)), rfl, bel.frame _, fun h => by cases h⟩
theorem lockOne_over : Rows.lockOneRow.holds Try.pinned (OpenSpec.ofChange Rows.lockOneSpec) :=
  OpenClaim.holds_of_wide 3 Try.f3 rfl rfl rfl rfl rfl rfl rfl ⟨rfl, rfl, rfl, rfl, rfl⟩ rfl rfl rfl rfl rfl (by kernel_rfl) Try.func3 (by kernel_rfl)
    (of_decide_eq_true (by kernel_rfl)) (by unfold Func.isWrapper; first | (rw [if_pos (by decide +kernel)]; kernel_rfl) | (rw [if_neg (by decide +kernel)]; exact ⟨rfl, rfl⟩))
    (fun os started H enc _ => lockOne_lifted os started H enc)
theorem lockOne_holds : Rows.LockOneSaid := lockOne_over
#print axioms lockOne_holds
end Go.Proofs.Ytmllocfeflhjoaa

