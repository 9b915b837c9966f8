import Derived.Test.YtlbgppijeoonjaaGreatDoorGoo
import Derived.Test.YtlbgppijeoonjaaGreatDoorGoX
import Derived.Test.YtlbgppijeoonjaaGreatDoorFltX
import Derived.Test.YtlbgppijeoonjaaGreatDoorListX
namespace Go.Proofs.YtlbgppijeoonjaaGreatDoor
open Go.RowKit
set_option linter.unusedVariables false

theorem res_rscan {fn : Func} (hf : fn.results = #[.tmp 2, .cell 3 60]) (tmps : Array Value) (b : Nat) (e : Value) (w : World) (v0 v1 v2 v3 v4 : Value)
    (h2 : tmps[2]? = some e) (h3 : tmps[3]? = some (.pointer (some ⟨b, 0, none⟩))) (hk : w.heap[b]? = some (.cells #[v0, v1, v2, v3, v4] 60 (0, 0))) :
    (results fn tmps).run Tryz.prog w = .ok (.tuple #[e, .agg #[v0, v1, v2, v3, v4]]) w := by
  have a1 := fun i => cell_of_row w b i _ _ (0, 0) hk
  have z0 := a1 0; have z1 := a1 1; have z2 := a1 2; have z3 := a1 3; have z4 := a1 4
  simp at z0 z1 z2 z3 z4
  simp [results, hf, go_sem, h2, h3, z0, z1, z2, z3, z4]
set_option maxHeartbeats 8000000 in
set_option maxRecDepth 100000 in
theorem rScan_any (s : ByteArray) (w : World) (hs : s.size < 4611686018427387904) :
    Calls Tryz.prog 23 #[.string s] w fun e w' => SPost w s.data.toList (scanA s.data.toList) e w' := by
  obtain ⟨x, hx⟩ : ∃ x, x = scanA s.data.toList := ⟨_, rfl⟩
  rw [← hx]
  obtain ⟨i0, hi, hz0, hz1, hz2⟩ := info_parts Tryz.info57
  by_cases hbig : 262144 < s.size
  · have hbig' : (262144 : Int) < s.size := by omega
    have HX : Hid (x = .inr (24, 0)) := by show x = _; rw [hx]; unfold scanA; rw [if_pos (by rw [len_all]; exact hbig)]
    clear hx
    go_enter Tryz.func23, Tryz.ntmps23
    go_wp2
    rw [HX.out]
    exact bodyPost_ret (res_rscan Tryz.results23 _ w.heap.size _ _ _ _ _ _ _ rfl rfl (heap_alloc_new w _)) rfl ⟨rfl, (Below.refl _ _).alloc (Nat.le_refl _) _⟩
  · have hbig' : ¬ (262144 : Int) < s.size := by omega
    have hs' : s.size < 4294967281 := by omega
    have HX : Hid (x = scanF s.data.toList (s.size + 1) 0) := by show x = _; rw [hx]; unfold scanA; rw [if_neg (by rw [len_all]; exact hbig), len_all]
    clear hx
    go_enter Tryz.func23, Tryz.ntmps23
    go_wp2
    go_loopw [4, 5] (fun v iv wr => ∃ (off p : Nat) (ts : List (Tk × Nat)), off ≤ s.size ∧ p ≤ off ∧ ts.length ≤ off ∧ iv = .int .i64 (off : Int) ∧ Sp3 wr (w.heap.size + 1) p (lineN s.data.toList p) (colN s.data.toList p) ∧ wr.heap[w.heap.size]? = some (.cells zero5 60 (0, 0)) ∧ wr.ownsRow (w.heap.size + 2) 57 7 v ts.length (tksL s.data.toList ts) ∧ Below w.heap.size w wr ∧ w.heap.size + 2 ≤ wr.heap.size ∧ Hid (x = preS ts (scanF s.data.toList (s.size + 1 - ts.length) off)))
      (fun _ iv _ => s.size - (intOf iv).toNat)
    case atStart => exact ⟨0, 0, [], by omega, by omega, by simp, rfl, ⟨heap2_1' _ _ _⟩, heap2_0' _ _ _, World.ownsRow_nil _ _ _ _, ((Below.refl _ _).alloc (Nat.le_refl _) _).alloc (by simp) _, by simp, (by show x = _; rw [HX.out]; cases scanF s.data.toList (s.size + 1 - ([] : List (Tk × Nat)).length) 0 <;> rfl)⟩
    case round =>
      obtain ⟨off, p, ts, hoff, hpo, hts, rfl, hS, hv, hO, hb, hsz, hh⟩ := hrel
      clear HX
      obtain ⟨f, hf⟩ : ∃ f, s.size + 1 - ts.length = f + 1 := ⟨s.size - ts.length, by omega⟩
      have hh2 := hh.out
      rw [hf] at hh2
      have hsk := skip_le (s.data.toList.drop off)
      rw [List.length_drop, len_all] at hsk
      have cg := fun w => rgone_any s off w hs hoff
      obtain ⟨av, cv, rfl⟩ := own_shape7 hO
      have hf' : f = s.size - ts.length := by omega
      have hnx : nxT (s.data.toList.drop off) = if (skipL (s.data.toList.drop off)).2 = true then tokL (s.data.toList.drop (off + (skipL (s.data.toList.drop off)).1)) else .bad 23 0 := by unfold nxT; rw [List.drop_drop]
      have HBd : Hid (∀ c a, nxT (s.data.toList.drop off) = .bad c a → x = .inr (c, off + (skipL (s.data.toList.drop off)).1 + a) ∧ 20 ≤ c ∧ off + (skipL (s.data.toList.drop off)).1 + a ≤ s.size) := fun c a e => by
        have e2 := scan_bad (t := s.data.toList) (f := f) e
        have e3 := scan_fault s.data.toList (f + 1) off (by rw [len_all]; omega) (by rw [len_all]; exact hoff) c _ e2
        rw [len_all] at e3
        exact ⟨by rw [hh2, e2]; rfl, e3.1, e3.2.2.2⟩
      have HE0 : Hid (∀ k len, nxT (s.data.toList.drop off) = .ok k len → k.kind = 0 → x = .inl (ts ++ [(k, off + (skipL (s.data.toList.drop off)).1)])) := fun k len e hk => by rw [hh2, scan_end e hk]; rfl
      have HE1 : Hid (∀ k len, nxT (s.data.toList.drop off) = .ok k len → ¬ k.kind = 0 → x = preS (ts ++ [(k, off + (skipL (s.data.toList.drop off)).1)]) (scanF s.data.toList (s.size + 1 - (ts ++ [(k, off + (skipL (s.data.toList.drop off)).1)]).length) (off + (skipL (s.data.toList.drop off)).1 + len))) := fun k len e hk => by
        rw [hh2, scan_more e hk, preS_pre]
        rw [show s.size + 1 - (ts ++ [(k, off + (skipL (s.data.toList.drop off)).1)]).length = f by rw [List.length_append]; simp; omega]
      unfold goV at cg
      generalize nxT (s.data.toList.drop off) = y at *
      generalize (skipL (s.data.toList.drop off)).2 = b at *
      generalize (skipL (s.data.toList.drop off)).1 = sk at *
      obtain ⟨o, ho⟩ : ∃ o, off + sk = o := ⟨_, rfl⟩
      rw [ho] at cg HBd HE0 HE1 hnx
      have hoo : off ≤ o := by omega
      have hos : o ≤ s.size := by omega
      clear hsk ho hh hh2 hf hf'
      cases b with
      | false =>
        rw [if_neg (by decide)] at hnx
        have HB := HBd.out 23 0 hnx
        have HB1 : Hid (x = .inr (23, o + 0)) := HB.1
        simp only [Bool.false_eq_true, if_false] at cg
        have c23 := fun w => rfault_any s 23 o w hs hos
        unfold fltV at c23
        have hge : (0 : Int) ≤ (o : Int) := by omega
        clear HBd HE0 HE1 hnx HB
        go_wp2_with (go_at_call 49; refine (cg _).mono ?_; rintro e w' ⟨rfl, rfl⟩)
        refine (c23 _).mono ?_
        rintro e w3 ⟨rfl, hb3⟩
        have hv3 := (hb3.block _ (heap_lt hv)).trans hv
        have hbw := hb.trans (hb3.mono hb.size)
        have a1 := fun i => cell_of_row w3 w.heap.size i _ _ (0, 0) hv3
        have y0 := a1 0; have y1 := a1 1; have y2 := a1 2; have y3 := a1 3; have y4 := a1 4
        have fz : ∀ i, w3.frozen? ⟨w.heap.size, i, none⟩ = false := fun i => frozen_of_row w3 w.heap.size i _ _ hv3
        simp [zero5] at y0 y1 y2 y3 y4
        clear a1 hv hb hb3 hS hO cg c23
        go_wp2
        rw [HB1.out]
        refine bodyPost_ret (res_rscan Tryz.results23 _ w.heap.size _ _ _ _ _ _ _ rfl rfl (set5r_at _ _ _ _ _ _ _ _ _ _ _ _ _ hv3)) rfl ⟨rfl, ?_⟩
        exact (((((hbw.set3 _ _ _ (Nat.le_refl _)).set3 _ _ _ (Nat.le_refl _)).set3 _ _ _ (Nat.le_refl _)).set3 _ _ _ (Nat.le_refl _)).set3 _ _ _ (Nat.le_refl _))
      | true =>
        rw [if_pos rfl] at hnx
        simp only [if_true] at cg
        have cf := fun w => rfurther_any s p o w hs' (Nat.le_trans hpo hoo) hos
        have hln := (lineN_le s.data.toList o).1
        have hcl : colN s.data.toList o ≤ o + 1 := by unfold colN; omega
        unfold spV at cf
        have q0 := hS.c0
        have q1 := hS.c1
        have q2 := hS.c2
        go_wp2_with (go_at_call 49; refine (cg _).mono ?_; rintro e w' ⟨rfl, rfl⟩)
        refine (cf _).mono ?_
        rintro e w3 ⟨rfl, hb3⟩
        have hv3 := (hb3.block _ (heap_lt hv)).trans hv
        have hat3 := (hb3.block _ (heap_lt hS.hheap)).trans hS.hheap
        have hbw := hb.trans (hb3.mono hb.size)
        have hO3 := own_below hO hb3
        have hsz3 := Nat.le_trans hsz hb3.size
        have hat4 := set3_at w3 (w.heap.size + 1) _ _ _ _ (.int .i64 (o : Int)) (.int .i64 (lineN s.data.toList o : Int)) (.int .i64 (colN s.data.toList o : Int)) hat3
        have hv4 : (((w3.setCell ⟨w.heap.size + 1, 0, none⟩ (.int .i64 (o : Int))).setCell ⟨w.heap.size + 1, 1, none⟩ (.int .i64 (lineN s.data.toList o : Int))).setCell ⟨w.heap.size + 1, 2, none⟩ (.int .i64 (colN s.data.toList o : Int))).heap[w.heap.size]? = some (.cells zero5 60 (0, 0)) := by
          rw [heap_set_ne _ _ _ _ _ (by omega), heap_set_ne _ _ _ _ _ (by omega), heap_set_ne _ _ _ _ _ (by omega)]; exact hv3
        have hg4 : w3.grownBy (((w3.setCell ⟨w.heap.size + 1, 0, none⟩ (.int .i64 (o : Int))).setCell ⟨w.heap.size + 1, 1, none⟩ (.int .i64 (lineN s.data.toList o : Int))).setCell ⟨w.heap.size + 1, 2, none⟩ (.int .i64 (colN s.data.toList o : Int))) (some (w.heap.size + 1)) :=
          grown_trans (grown_set _ _ _ _) (grown_trans (grown_set _ _ _ _) (grown_set _ _ _ _))
        have hb4 := hbw.trans (below_of_grown hg4 (Nat.le_succ _) hbw.size)
        have hO4 := own_grown hO3 hg4 (Nat.lt_succ_self _)
        have hsz4 := Nat.le_trans hsz3 hg4.size
        have a1 := fun i => cell_of_row w3 (w.heap.size + 1) i _ _ (0, 0) hat3
        have y0 := a1 0; have y1 := a1 1; have y2 := a1 2
        have fz : ∀ i, w3.frozen? ⟨w.heap.size + 1, i, none⟩ = false := fun i => frozen_of_row w3 (w.heap.size + 1) i _ _ hat3
        simp at y0 y1 y2
        clear a1 hv hb hb3 hS hO cg cf hv3 hat3 hbw hO3 hsz hsz3 hg4
        generalize hw4 : (((w3.setCell ⟨w.heap.size + 1, 0, none⟩ (.int .i64 (o : Int))).setCell ⟨w.heap.size + 1, 1, none⟩ (.int .i64 (lineN s.data.toList o : Int))).setCell ⟨w.heap.size + 1, 2, none⟩ (.int .i64 (colN s.data.toList o : Int))) = w4 at hat4 hv4 hb4 hO4 hsz4
        by_cases hend : o = s.size
        · subst hend
          have hnx' : y = .ok ⟨0, [], 0, false⟩ 0 := by rw [hnx, List.drop_eq_nil_of_le (by rw [len_all]; exact Nat.le_refl _)]; rfl
          have HX : Hid (x = .inl (ts ++ [((⟨0, [], 0, false⟩ : Tk), s.size)])) := HE0.out _ _ hnx' rfl
          have a1 := fun i => cell_of_row w4 (w.heap.size + 1) i _ _ (0, 0) hat4
          have z0 := a1 0; have z1 := a1 1; have z2 := a1 2
          simp at z0 z1 z2
          have hlen : ts.length ≤ 262144 := by omega
          have hnew := cell_new7 w4 #[.int .i64 0, .int .i64 (s.size : Int), .int .i64 (lineN s.data.toList s.size : Int), .int .i64 (colN s.data.toList s.size : Int), .string ⟨#[]⟩, .int .u32 0, .bool false] 57
          clear a1 hnx hnx' HBd HE0 HE1 hat4
          go_wp2_with (at_builtin; refine wpList_append_own _ rfl (.tmp 38) (.tmp 41) 51 rfl (w.heap.size + 2) 57 i0 (.agg zero7) 7 56 Tryz.underlying51 hi hz0 hz1 hz2 rfl (by decide) _ _ _ rfl (hO4.alloc _) ⟨w4.heap.size, 0, none⟩ 1 1 [.int .i64 0, .int .i64 (s.size : Int), .int .i64 (lineN s.data.toList s.size : Int), .int .i64 (colN s.data.toList s.size : Int), .string ⟨#[]⟩, .int .u32 0, .bool false] rfl rfl hnew (one7 0 _ _ _ 0 _ _) (by unfold maxLen; omega) (by omega) (by simp; omega) ?_)
          intro v6 w6 ho6 hg6 _
          have hg7 := grown_alloc hg6
          have hb6 : Below w.heap.size w w6 := hb4.grown hg7 hb4.size (fun k e => by have := (hO4.lt k e).1; omega)
          have hv6 : w6.heap[w.heap.size]? = some (.cells zero5 60 (0, 0)) := (hg7.block _ (heap_lt hv4) (fun e => by have := (hO4.lt _ e.symm).1; omega)).trans hv4
          have ho7 : w6.ownsRow (w.heap.size + 2) 57 7 v6 (ts ++ [((⟨0, [], 0, false⟩ : Tk), s.size)]).length (tksL s.data.toList (ts ++ [((⟨0, [], 0, false⟩ : Tk), s.size)])) := by
            rw [tksL_snoc, List.length_append]; exact ho6
          obtain ⟨av6, cv6, rfl⟩ := own_shape7 ho7
          have a1 := fun i => cell_of_row w6 w.heap.size i _ _ (0, 0) hv6
          have x0 := a1 0; have x1 := a1 1; have x2 := a1 2; have x3 := a1 3; have x4 := a1 4
          have fx : ∀ i, w6.frozen? ⟨w.heap.size, i, none⟩ = false := fun i => frozen_of_row w6 w.heap.size i _ _ hv6
          simp [zero5] at x0 x1 x2 x3 x4
          clear a1 ho6 hg6 hg7 hO4 hb4 hv4 hnew z0 z1 z2 hw4 y0 y1 y2 fz hsz4
          go_wp2
          rw [HX.out]
          refine bodyPost_ret (res_rscan Tryz.results23 _ w.heap.size _ _ _ _ _ _ _ rfl rfl (set5r_at _ _ _ _ _ _ _ _ _ _ _ _ _ hv6)) rfl ⟨_, rfl, ?_, ?_⟩
          · exact own_base (own_grown ho7 (grown_trans (grown_set _ _ _ _) (grown_trans (grown_set _ _ _ _) (grown_trans (grown_set _ _ _ _) (grown_trans (grown_set _ _ _ _) (grown_set _ _ _ _))))) (by omega)) (by omega)
          · exact (((((hb6.set3 _ _ _ (Nat.le_refl _)).set3 _ _ _ (Nat.le_refl _)).set3 _ _ _ (Nat.le_refl _)).set3 _ _ _ (Nat.le_refl _)).set3 _ _ _ (Nat.le_refl _))
        · have hend' : ((o : Int) == (s.size : Int)) = false := by rw [beq_eq_false_iff_ne]; omega
          have co := fun w => rone_any s o w hs' (by omega)
          rw [← hnx] at co
          go_wp2_with fail
          refine (co w4).mono ?_
          rintro e w5 ⟨rfl, hb5⟩
          have hv5 := (hb5.block _ (heap_lt hv4)).trans hv4
          have hat5 := (hb5.block _ (heap_lt hat4)).trans hat4
          have hbw := hb4.trans (hb5.mono hb4.size)
          have hO5 := own_below hO4 hb5
          have hsz5 := Nat.le_trans hsz4 hb5.size
          clear hb4 hb5 hO4 hsz4 hat4 hv4 y0 y1 y2 fz co
          cases y with
          | bad c a =>
            have HB := HBd.out c a rfl
            have HB1 : Hid (x = .inr (c, o + a)) := HB.1
            have hc0 : ((c : Int) == 0) = false := by rw [beq_eq_false_iff_ne]; omega
            have hc1 : ((c : Int) != 0) = true := by unfold bne; rw [hc0]; rfl
            have cc := fun w => rfault_any s c (o + a) w hs HB.2.2
            unfold fltV at cc
            unfold oneV zero7
            clear HBd HE0 HE1 hnx HB hat5 hO5
            simp only [Int.natCast_add] at cc
            go_wp2_with fail
            have hbz := (Below.refl w5.heap.size w5).alloc (Nat.le_refl _) (.cells #[.int .i64 0, .int .i64 0, .int .i64 0, .int .i64 0, .string ⟨#[]⟩, .int .u32 0, .bool false] 57)
            refine (cc _).mono ?_
            rintro e w7 ⟨rfl, hb7⟩
            have hb8 := hbz.trans (hb7.mono hbz.size)
            have hv7 := (hb8.block _ (heap_lt hv5)).trans hv5
            have hb9 := hbw.trans (hb8.mono hbw.size)
            have a1 := fun i => cell_of_row w7 w.heap.size i _ _ (0, 0) hv7
            have x0 := a1 0; have x1 := a1 1; have x2 := a1 2; have x3 := a1 3; have x4 := a1 4
            have fx : ∀ i, w7.frozen? ⟨w.heap.size, i, none⟩ = false := fun i => frozen_of_row w7 w.heap.size i _ _ hv7
            simp [zero5] at x0 x1 x2 x3 x4
            clear a1 hbz hb7 hb8 hbw hv5 cc hw4
            go_wp2
            rw [HB1.out]
            refine bodyPost_ret (res_rscan Tryz.results23 _ w.heap.size _ _ _ _ _ _ _ rfl rfl (set5r_at _ _ _ _ _ _ _ _ _ _ _ _ _ hv7)) rfl ⟨rfl, ?_⟩
            exact (((((hb9.set3 _ _ _ (Nat.le_refl _)).set3 _ _ _ (Nat.le_refl _)).set3 _ _ _ (Nat.le_refl _)).set3 _ _ _ (Nat.le_refl _)).set3 _ _ _ (Nat.le_refl _))
          | ok k len =>
            have hol : o < s.size := by omega
            obtain ⟨c, hc, _⟩ := at_some hol
            rw [drop_cons1 hc] at hnx
            obtain ⟨hk0, hl1, hl2⟩ := tok_len hnx.symm
            have hl3 : o + len ≤ s.size := by
              rw [List.length_drop, len_all] at hl2; omega
            have HX : Hid (x = _) := HE1.out k len rfl hk0
            have hlen : ts.length ≤ 262144 := by omega
            have q0 : ∀ ob, (w5.alloc ob).cell? ⟨w.heap.size + 1, 0, none⟩ = some (.int .i64 (o : Int)) := fun ob => by
              rw [cell_below ((Below.refl w5.heap.size w5).alloc (Nat.le_refl _) ob) _ _ (heap_lt hat5)]; exact cell_of_row w5 (w.heap.size + 1) 0 _ _ (0, 0) hat5
            have q1 : ∀ ob, (w5.alloc ob).cell? ⟨w.heap.size + 1, 1, none⟩ = some (.int .i64 (lineN s.data.toList o : Int)) := fun ob => by
              rw [cell_below ((Below.refl w5.heap.size w5).alloc (Nat.le_refl _) ob) _ _ (heap_lt hat5)]; exact cell_of_row w5 (w.heap.size + 1) 1 _ _ (0, 0) hat5
            have q2 : ∀ ob, (w5.alloc ob).cell? ⟨w.heap.size + 1, 2, none⟩ = some (.int .i64 (colN s.data.toList o : Int)) := fun ob => by
              rw [cell_below ((Below.refl w5.heap.size w5).alloc (Nat.le_refl _) ob) _ _ (heap_lt hat5)]; exact cell_of_row w5 (w.heap.size + 1) 2 _ _ (0, 0) hat5
            obtain ⟨kk, kt, kv, kh⟩ := k
            unfold oneV tkC
            simp only [Int.natCast_add]
            clear HBd HE0 HE1 hnx hk0 hc hw4 hl2
            go_wp2_with (at_builtin; refine wpList_append_own _ rfl (.tmp 60) (.tmp 62) 51 rfl (w.heap.size + 2) 57 i0 (.agg zero7) 7 56 Tryz.underlying51 hi hz0 hz1 hz2 rfl (by decide) _ _ _ rfl ((hO5.alloc _).alloc _) ⟨w5.heap.size + 1, 0, none⟩ 1 1 [.int .i64 (kk : Int), .int .i64 (o : Int), .int .i64 (lineN s.data.toList o : Int), .int .i64 (colN s.data.toList o : Int), .string ⟨kt.toArray⟩, .int .u32 (kv : Int), .bool kh] rfl rfl (cell_new7' w5 _ #[.int .i64 (kk : Int), .int .i64 (o : Int), .int .i64 (lineN s.data.toList o : Int), .int .i64 (colN s.data.toList o : Int), .string ⟨kt.toArray⟩, .int .u32 (kv : Int), .bool kh] _) (one7 _ _ _ _ _ _ _) (by unfold maxLen; omega) (by omega) (by simp; omega) ?_)
            intro v6 w6 ho6 hg6 _
            have hg7 := grown_alloc (grown_alloc hg6)
            have hb6 : Below w.heap.size w w6 := hbw.grown hg7 hbw.size (fun k e => by have := (hO5.lt k e).1; omega)
            have hv6 : w6.heap[w.heap.size]? = some (.cells zero5 60 (0, 0)) := (hg7.block _ (heap_lt hv5) (fun e => by have := (hO5.lt _ e.symm).1; omega)).trans hv5
            have hat6 := (hg7.block _ (heap_lt hat5) (fun e => by have := (hO5.lt _ e.symm).1; omega)).trans hat5
            have ho7 : w6.ownsRow (w.heap.size + 2) 57 7 v6 (ts ++ [((⟨kk, kt, kv, kh⟩ : Tk), o)]).length (tksL s.data.toList (ts ++ [((⟨kk, kt, kv, kh⟩ : Tk), o)])) := by
              rw [tksL_snoc, List.length_append]; exact ho6
            have hsz6 := Nat.le_trans hsz5 hg7.size
            obtain ⟨av6, cv6, rfl⟩ := own_shape7 ho7
            clear ho6 hg6 hg7 hO5 hbw hv5 hat5 q0 q1 q2
            go_wp2
            go_roundw
            case rel => exact ⟨o + len, o, ts ++ [((⟨kk, kt, kv, kh⟩ : Tk), o)], hl3, by omega, by simp; omega, (by first | rfl | go_num), ⟨hat6⟩, hv6, ho7, hb6, hsz6, HX⟩
            case measure => simp [intOf]; omega
end Go.Proofs.YtlbgppijeoonjaaGreatDoor
