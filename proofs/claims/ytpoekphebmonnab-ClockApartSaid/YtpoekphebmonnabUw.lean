import Derived.Test.YtpoekphebmonnabUv
namespace Go.Proofs.Ytpoekphebmonnab
open Go.RowKit Go.Shelf Go.Sort
set_option linter.unusedVariables false
set_option linter.unusedSimpArgs false

/-! ### The document's Coming -/
def pkI : Option Nat → Int
  | none => -1
  | some k => k
structure DcI (w wr : World) (n N : Nat) (D0 : List Dal) (v5 v6 : Value) (l : List (Nat × Nat)) (Dd : List Dal) : Prop where
  t : wr.ownsRow w.heap.size 63 2 v6 l.length (flE l)
  a : wr.ownsRow w.heap.size 65 3 v5 n (flD Dd)
  n : n = Dd.length
  b : Below w.heap.size w wr
  d : dseq N D0 = l ++ dseq (N - l.length) Dd
  ll : l.length ≤ N
  q : ∀ x, v6.ownBlock = some x → v5.ownBlock ≠ some x
  x : ∀ y ∈ Dd, y.2.1 ≤ (l.length + 2) * 4294967296 ∧ y.2.2 < 4294967296
theorem DcI.below {w wr wz : World} {n N : Nat} {D0 : List Dal} {v5 v6 : Value} {l : List (Nat × Nat)} {Dd : List Dal} (h : DcI w wr n N D0 v5 v6 l Dd) (hb : Below wr.heap.size wr wz) : DcI w wz n N D0 v5 v6 l Dd :=
  ⟨own_below h.t hb, own_below h.a hb, h.n, h.b.trans (hb.mono h.b.size), h.d, h.ll, h.q, h.x⟩
theorem pick_off {D : List Dal} {i : Nat} {x : Dal} (hx : D[i]? = some x) (h1 : x.1 = false) : pickTo D (i + 1) = pickTo D i := by
  rw [pickTo, hx]; simp [h1]
theorem pick_new {D : List Dal} {i : Nat} {x : Dal} (hx : D[i]? = some x) (h1 : x.1 = true) (h2 : pickTo D i = none) : pickTo D (i + 1) = some i := by
  rw [pickTo, hx, h2]; simp [h1]
theorem pick_less {D : List Dal} {i k : Nat} {x y : Dal} (hx : D[i]? = some x) (h1 : x.1 = true) (h2 : pickTo D i = some k) (hy : D[k]? = some y) (h3 : x.2.1 < y.2.1) : pickTo D (i + 1) = some i := by
  rw [pickTo, hx, h2]; simp [h1, List.getD_eq_getElem?_getD, hy, h3]
theorem pick_more {D : List Dal} {i k : Nat} {x y : Dal} (hx : D[i]? = some x) (h1 : x.1 = true) (h2 : pickTo D i = some k) (hy : D[k]? = some y) (h3 : ¬ x.2.1 < y.2.1) : pickTo D (i + 1) = some k := by
  rw [pickTo, hx, h2]; simp [h1, List.getD_eq_getElem?_getD, hy, h3]
theorem drow_two {w : World} {b g n c k : Nat} {D : List Dal} {x : Dal} (h : w.ownsRow b 65 3 (.slice (some ⟨g, 0, none⟩) n c) n (flD D)) (hx : D[k]? = some x) (p : Bool) (l : Nat) : ((w.setCell ⟨g, k * 3, none⟩ (.bool p)).setCell ⟨g, k * 3 + 1, none⟩ (Q l)).ownsRow b 65 3 (.slice (some ⟨g, 0, none⟩) n c) n (flD (D.set k (p, l, x.2.2))) := by
  have h1 := ((h.stored (k * 3) (.bool p)).1.stored (k * 3 + 1) (Q l)).1
  rw [flD_set, set_self (l := ((flD D).set (k * 3) (.bool p)).set (k * 3 + 1) (Q l)) (a := U x.2.2)]
  · exact h1
  · rw [List.getElem?_set_ne (by omega), List.getElem?_set_ne (by omega)]
    exact (flD_at hx).2.2
set_option maxHeartbeats 16000000 in
set_option maxRecDepth 100000 in
theorem dComing_any {w : World} {D G bs L V : Nat} {v : Value} {s : ByteArray} {al : List Alm} (h : Dk w D v s G bs L V al) (most : Int) : Calls Try.prog 28 #[cP D, I most] w fun e w' => ∃ a c, e = .returned (.slice a (comL al most).length c) ∧ w'.ownsRow w.heap.size 63 2 (.slice a (comL al most).length c) (comL al most).length (flE (comL al most)) ∧ Below w.heap.size w w' := by
  obtain ⟨i0, hi0, hz0, hz1, hz2⟩ := info_parts einfo
  obtain ⟨j0, hj0, hy0, hy1, hy2⟩ := info_parts dinfo
  obtain ⟨c0, c1, c2, c3, c4⟩ := h.cells
  have hl64 := h.n
  have hP := h.p
  have HX : Hid (∀ y ∈ d0L al, y.2.1 ≤ (0 + 2) * 4294967296 ∧ y.2.2 < 4294967296) := fun y hy => by
    unfold d0L at hy
    obtain ⟨x, hx, rfl⟩ := List.mem_map.1 hy
    have := h.x x hx
    have hb := h.b
    simp only
    omega
  have HN : Hid (al.length = (d0L al).length) := (d0L_len al).symm
  obtain ⟨N, hNe⟩ : ∃ N, N = mnN (posN most) 65536 := ⟨_, rfl⟩
  have hN65 : N ≤ 65536 := by rw [hNe]; unfold mnN; omega
  have HC : Hid (comL al most = dseq N (d0L al)) := by show _ = _; unfold comL; rw [hNe]
  have HNM : Hid (∀ k : Nat, ((k : Int) < (if 65536 < most then 65536 else most)) ↔ k < N) := fun k => by rw [hNe]; unfold mnN posN; split <;> omega
  clear h hNe
  generalize hD0 : d0L al = D0 at *
  generalize hn : al.length = n at *
  clear hn hD0
  obtain ⟨av, cv, rfl⟩ := own_sl hP
  generalize hM : (if 65536 < most then (65536 : Int) else most) = M at *
  have HM : Hid ((if 65536 < most then (65536 : Int) else most) = M) := hM
  clear hM
  go_enter Try.func28, Try.ntmps28
  go_upto_if 10 with (first | fail)
  go_cut [1] from 9 (fun s1 wx => s1 = I M ∧ wx = w)
  case first =>
    by_cases hm : 65536 < most
    · go_wp2
      go_meet
      case rel => exact ⟨by rw [← HM.out, if_pos (by omega)], rfl⟩
    · go_wp2
      go_meet
      case rel => exact ⟨by rw [← HM.out, if_neg (by omega)], rfl⟩
  obtain ⟨rfl, hwc⟩ := hcut
  subst hwc
  clear HM
  go_wp2_with (first
    | (at_builtin; refine wpList_append_row _ rfl (.const (.slice none 0 0)) (.tmp 14) 45 rfl wc.heap.size 0 65 j0 (.agg #[.bool false, .int .u64 0, .int .u32 0]) 3 24 Try.underlying45 hj0 hy0 hy1 hy2 rfl (by decide) (.slice none 0 0) (.slice av n cv) 0 n [] (flD D0) rfl rfl (World.ownsRow_nil _ _ _ _) hP (flD_one _) (by unfold maxLen; omega) (by omega) (Nat.le_refl _) ?_))
  intro v5 w5 o5 g5
  have HI : Hid (DcI wc w5 n N D0 v5 (.slice none 0 0) [] D0) := ⟨World.ownsRow_nil _ _ _ _, o5, HN.out, ⟨g5.os, g5.tape, g5.output, g5.size, fun i hi => g5.block i hi (by simp [Value.ownBlock])⟩, by simp, Nat.zero_le _, fun x e => by simp [Value.ownBlock] at e, HX.out⟩
  clear o5 g5 hP HX HN c0 c1 c2 c3 c4
  go_wp2
  go_loopw [6, 7, 8] (fun v6 _ _ wr => ∃ (a6 : Option Addr) (c6 : Nat) (l : List (Nat × Nat)) (Dd : List Dal), v6 = .slice a6 l.length c6 ∧ Hid (DcI wc wr n N D0 v5 (.slice a6 l.length c6) l Dd)) (fun v6 _ _ _ => N - slN v6)
  case atStart => exact ⟨none, 0, [], D0, rfl, HI.out⟩
  case round =>
    clear HI
    obtain ⟨a6, c6, l, Dd, rfl, HJ⟩ := hrel
    by_cases hlt : l.length < N
    · have hltI : (l.length : Int) < M := (HNM.out l.length).2 hlt
      obtain ⟨a5, c5, hv5⟩ := own_sl HJ.out.a
      subst hv5
      have HJ1 : Hid (0 ≤ n ∧ DcI wc wr n N D0 (.slice a5 n c5) (.slice a6 l.length c6) l Dd) := ⟨Nat.zero_le _, HJ.out⟩
      clear HJ
      go_wp2
      go_loopw [7, 8] (fun v7 v8 wr => ∃ i : Nat, i ≤ n ∧ v8 = I i ∧ v7 = I (pkI (pickTo Dd i)) ∧ Hid (True ∧ DcI wc wr n N D0 (.slice a5 n c5) (.slice a6 l.length c6) l Dd)) (fun _ v8 _ => n - (intOf v8).toNat)
      case atStart => exact ⟨0, by omega, rfl, rfl, trivial, HJ1.out.2⟩
      case round =>
        clear HJ1
        obtain ⟨i, hi, rfl, rfl, HJ⟩ := hrel
        by_cases hin : i < n
        · have hinI : (i : Int) < n := by omega
          obtain ⟨x, hx⟩ : ∃ x, Dd[i]? = some x := ⟨_, List.getElem?_eq_getElem (by rw [← HJ.out.2.n]; exact hin)⟩
          obtain ⟨g, cg, e⟩ := own_some HJ.out.2.a (by omega)
          cases e
          obtain ⟨q1, q2, q3, q4⟩ := drow_at HJ.out.2.a HJ.out.2.n hx
          obtain ⟨xs, xl, xc⟩ := x
          simp only at q1 q2 q3
          have z1 := cell_regrown q1
          have z2 := cell_regrown q2
          cases xs with
          | false =>
            have HP : Hid (pickTo Dd (i + 1) = pickTo Dd i) := pick_off hx rfl
            clear hx q1 q2 q3 q4
            generalize hpk : pickTo Dd i = pk at *
            clear hpk
            generalize hpki : pkI pk = pki at *
            have HPK : Hid (pkI pk = pki) := hpki
            clear hpki
            go_wp2
            refine wp_region_quiet_below (by kernel_rfl) (by kernel_rfl) ?_
            repeat (go_big_quiet_step (first | fail))
            refine wpQuiet_nil ?_
            rintro _ ⟨⟨dq, osq⟩, rfl⟩
            dsimp only
            have H7 : Hid (DcI wc (grow (redrawn wr dq) osq) n N D0 (.slice (some ⟨g, 0, none⟩) n c5) (.slice a6 l.length c6) l Dd) := HJ.out.2.below (below_regrown wr dq osq)
            clear HJ z1 z2
            generalize grow (redrawn wr dq) osq = w7 at *
            go_wp2
            go_roundw
            case rel => exact ⟨i + 1, by omega, by go_num, by rw [HP.out, HPK.out], trivial, H7.out⟩
            case measure => simp [intOf]; omega
          | true =>
            cases hpk : pickTo Dd i with
            | none =>
              have HP : Hid (pickTo Dd (i + 1) = some i) := pick_new hx rfl hpk
              clear hx q1 q2 q3 q4 hpk
              rw [show pkI none = -1 from rfl]
              go_wp2
              refine wp_region_quiet_below (by kernel_rfl) (by kernel_rfl) ?_
              repeat (go_big_quiet_step (first | fail))
              refine wpQuiet_nil ?_
              rintro _ ⟨⟨dq, osq⟩, rfl⟩
              dsimp only
              have H7 : Hid (DcI wc (grow (redrawn wr dq) osq) n N D0 (.slice (some ⟨g, 0, none⟩) n c5) (.slice a6 l.length c6) l Dd) := HJ.out.2.below (below_regrown wr dq osq)
              clear HJ z1 z2
              generalize grow (redrawn wr dq) osq = w7 at *
              go_wp2
              go_roundw
              case rel => exact ⟨i + 1, by omega, by go_num, by rw [HP.out]; rfl, trivial, H7.out⟩
              case measure => simp [intOf]; omega
            | some kk =>
              obtain ⟨hki, ⟨ys, yl, yc⟩, hy, -⟩ := pickTo_some hpk
              obtain ⟨p1, p2, p3, p4⟩ := drow_at HJ.out.2.a HJ.out.2.n hy
              simp only at p1 p2 p3
              have z3 := cell_regrown p2
              have hkI : (kk : Int) < n := by omega
              have f1 : decide ((kk : Int) < 0) = false := by simp
              rw [show pkI (some kk) = (kk : Int) from rfl]
              by_cases hxy : xl < yl
              · have f2 : decide ((xl : Int) < yl) = true := by simp; omega
                have f2n : decide (xl < yl) = true := by simp; omega
                have HP : Hid (pickTo Dd (i + 1) = some i) := pick_less hx rfl hpk hy hxy
                clear hx q1 q2 q3 q4 hpk hy p1 p2 p3 p4 hxy
                go_wp2
                refine wp_region_quiet_below (by kernel_rfl) (by kernel_rfl) ?_
                repeat (go_big_quiet_step (first | fail))
                refine wpQuiet_nil ?_
                rintro _ ⟨⟨dq, osq⟩, rfl⟩
                dsimp only
                have H7 : Hid (DcI wc (grow (redrawn wr dq) osq) n N D0 (.slice (some ⟨g, 0, none⟩) n c5) (.slice a6 l.length c6) l Dd) := HJ.out.2.below (below_regrown wr dq osq)
                clear HJ z1 z2 z3
                generalize grow (redrawn wr dq) osq = w7 at *
                go_wp2
                go_roundw
                case rel => exact ⟨i + 1, by omega, by go_num, by rw [HP.out]; rfl, trivial, H7.out⟩
                case measure => simp [intOf]; omega
              · have f2 : decide ((xl : Int) < yl) = false := by simp; omega
                have f2n : decide (xl < yl) = false := by simp; omega
                have HP : Hid (pickTo Dd (i + 1) = some kk) := pick_more hx rfl hpk hy hxy
                clear hx q1 q2 q3 q4 hpk hy p1 p2 p3 p4 hxy
                go_wp2
                refine wp_region_quiet_below (by kernel_rfl) (by kernel_rfl) ?_
                repeat (go_big_quiet_step (first | fail))
                refine wpQuiet_nil ?_
                rintro _ ⟨⟨dq, osq⟩, rfl⟩
                dsimp only
                have H7 : Hid (DcI wc (grow (redrawn wr dq) osq) n N D0 (.slice (some ⟨g, 0, none⟩) n c5) (.slice a6 l.length c6) l Dd) := HJ.out.2.below (below_regrown wr dq osq)
                clear HJ z1 z2 z3
                generalize grow (redrawn wr dq) osq = w7 at *
                go_wp2
                go_roundw
                case rel => exact ⟨i + 1, by omega, by go_num, by rw [HP.out]; rfl, trivial, H7.out⟩
                case measure => simp [intOf]; omega
        · obtain rfl : i = n := by omega
          have hge : ¬ ((i : Int) < i) := by omega
          cases hpk : pickTo Dd i with
          | none =>
            rw [show pkI none = -1 from rfl]
            have HE : Hid (l = comL al most) := by
              show _ = _
              rw [HC.out, HJ.out.2.d, show N - l.length = (N - l.length - 1) + 1 by omega, dseq, show pick Dd = none by unfold pick; rw [← HJ.out.2.n]; exact hpk]
              simp
            clear hpk
            go_wp2
            go_ret
            rw [← HE.out]
            exact ⟨a6, c6, rfl, HJ.out.2.t, HJ.out.2.b⟩
          | some kk =>
            rw [show pkI (some kk) = (kk : Int) from rfl]
            obtain ⟨hki, ⟨ys, yl, yc⟩, hy, -⟩ := pickTo_some hpk
            obtain ⟨g, cg, e⟩ := own_some HJ.out.2.a (by omega)
            cases e
            obtain ⟨p1, p2, p3, p4⟩ := drow_at HJ.out.2.a HJ.out.2.n hy
            simp only at p1 p2 p3
            have hkI : (kk : Int) < i := by omega
            have f1 : ¬ ((kk : Int) < 0) := by omega
            have HY : Hid (Dd[kk]? = some (ys, yl, yc)) := hy
            have HPK : Hid (pick Dd = some kk) := by show _ = _; unfold pick; rw [← HJ.out.2.n]; exact hpk
            have HJX : Hid (DcI wc wr i N D0 (.slice (some ⟨g, 0, none⟩) i c5) (.slice a6 l.length c6) l Dd) := HJ.out.2
            obtain ⟨b1, b2⟩ := HJX.out.x _ (List.mem_of_getElem? hy)
            simp only at b1 b2
            have hO2 := HJX.out.t.alloc (.cells #[Q yl, I kk] 63)
            have hb9 : wc.heap.size ≤ wr.heap.size := HJX.out.b.size
            have b3 : yl ≤ 65664 * 4294967296 := Nat.le_trans b1 (Nat.mul_le_mul_right _ (by omega))
            clear HJ hpk hy p1 p3 p4
            go_wp2_with (first
              | (at_builtin; refine wpList_append_own_at _ rfl (.tmp 52) (.tmp 60) 60 rfl wc.heap.size 63 i0 (.agg #[.int .u64 0, .int .i64 0]) 2 16 Try.underlying60 hi0 hz0 hz1 hz2 rfl (by decide) _ _ _ rfl hO2 ⟨wr.heap.size, 0, none⟩ 1 1 [Q yl, I kk] rfl rfl (cell_two_new _ _ _ _) (by intro u hu; simp at hu; rcases hu with rfl | rfl <;> rfl) (by unfold maxLen; omega) (by omega) (by simp; omega) ?_))
            intro v7 w6 ho6 hg6 _ hat
            obtain ⟨a7, c7, rfl⟩ := own_sl ho6
            have H6 : Hid (w6.ownsRow wc.heap.size 63 2 (.slice a7 (l.length + 1) c7) (l ++ [(yl, kk)]).length (flE (l ++ [(yl, kk)])) ∧ w6.ownsRow wc.heap.size 65 3 (.slice (some ⟨g, 0, none⟩) i c5) i (flD Dd) ∧ Below wc.heap.size wc w6 ∧ ∀ x, (Value.slice a7 (l.length + 1) c7).ownBlock = some x → (Value.slice (some ⟨g, 0, none⟩) i c5).ownBlock ≠ some x) := by
              have hb := HJX.out.b.trans ((below_alloc wr (.cells #[Q yl, I kk] 63)).mono hb9)
              refine ⟨?_, (HJX.out.a.alloc _).kept hg6 (.inr (fun e => HJX.out.q g e.symm rfl)), hb.grown hg6 (by simp; omega) (fun x e => (HJX.out.t.lt x e).1), fun x e1 e2 => ?_⟩
              · rw [List.length_append, flE_app]
                exact ho6
              · rcases hat with e3 | e3
                · exact HJX.out.q x (by rw [← e3]; exact e1) e2
                · rw [e3] at e1
                  have qq := (HJX.out.a.lt x e2).2
                  cases e1
                  omega
            obtain ⟨q1, q2, q3, q4⟩ := drow_at H6.out.2.1 HJX.out.n HY.out
            simp only at q1 q2 q3
            clear ho6 hg6 hat hO2 p2
            rcases Nat.eq_zero_or_pos yc with hc0 | hc0
            · have d1 : decide ((0 : Int) < yc) = false := by simp; omega
              have d1n : decide (0 < yc) = false := by simp; omega
              have HDS : Hid (dstep Dd kk = Dd.set kk (false, yl + yc, yc)) := by show _ = _; unfold dstep; rw [List.getD_eq_getElem?_getD, HY.out, Option.getD_some]; simp only; rw [d1n]
              clear hc0
              have t1 : (w6.setCell ⟨g, kk * 3, none⟩ (.bool false)).cell? ⟨g, kk * 3 + 1, none⟩ = some (Q yl) := cell_set_off q2 (by omega)
              have t2 : (w6.setCell ⟨g, kk * 3, none⟩ (.bool false)).cell? ⟨g, kk * 3 + 2, none⟩ = some (U yc) := cell_set_off q3 (by omega)
              have t3 : (w6.setCell ⟨g, kk * 3, none⟩ (.bool false)).frozen? ⟨g, kk * 3 + 1, none⟩ = false := (H6.out.2.1.stored (kk * 3) (.bool false)).1.frozenAt _
              have hrow := drow_two H6.out.2.1 HY.out false (yl + yc)
              rw [show ((yl + yc : Nat) : Int) = (yl : Int) + yc by omega] at hrow
              have FZ : Fz (fun b => b = g) w6 ((w6.setCell ⟨g, kk * 3, none⟩ (.bool false)).setCell ⟨g, kk * 3 + 1, none⟩ (Q ((yl : Int) + yc))) := ((Fz.refl (fun b => b = g) w6).set (.inl rfl) _ _).set (.inl rfl) _ _
              have HF : Hid (DcI wc ((w6.setCell ⟨g, kk * 3, none⟩ (.bool false)).setCell ⟨g, kk * 3 + 1, none⟩ (Q ((yl : Int) + yc))) i N D0 (.slice (some ⟨g, 0, none⟩) i c5) (.slice a7 (l.length + 1) c7) (l ++ [(yl, kk)]) (dstep Dd kk)) := by
                refine ⟨?_, by rw [HDS.out]; exact hrow, by unfold dstep; rw [List.length_set]; exact HJX.out.n, H6.out.2.2.1.trans (FZ.below H6.out.2.2.1.size (by rintro x rfl; exact (HJX.out.a.lt x rfl).1)), ?_, by simp; omega, H6.out.2.2.2, ?_⟩
                · exact FZ.own H6.out.1 (fun y e e2 => H6.out.2.2.2 y e (by rw [e2]; rfl))
                · rw [HJX.out.d, List.length_append, List.length_singleton, List.append_assoc, show N - l.length = (N - (l.length + 1)) + 1 by omega]
                  congr 1
                  rw [dseq, HPK.out]
                  simp only [List.getD_eq_getElem?_getD, HY.out, Option.getD_some]
                  rfl
                · intro z hz
                  rw [HDS.out] at hz
                  rcases List.mem_or_eq_of_mem_set hz with hz | rfl
                  · have := HJX.out.x z hz
                    simp only [List.length_append, List.length_singleton]
                    exact ⟨by omega, this.2⟩
                  · simp only [List.length_append, List.length_singleton]
                    omega
              clear hrow FZ HDS H6 HJX HPK HY
              go_upto_region 16 with (first | fail)
              go_region
              all_goals
                have H9 : Hid (DcI wc ((w6.setCell ⟨g, kk * 3, none⟩ (.bool false)).setCell ⟨g, kk * 3 + 1, none⟩ (Q ((yl : Int) + yc))).drew i N D0 (.slice (some ⟨g, 0, none⟩) i c5) (.slice a7 (l.length + 1) c7) (l ++ [(yl, kk)]) (dstep Dd kk)) := HF.out.below (Below.refl _ _).drew
                have HLL : Hid ((l ++ [(yl, kk)]).length = l.length + 1) := by show _ = _; simp
                go_wp2
                go_roundw
                case rel => exact ⟨a7, c7, _, _, by rw [HLL.out], by rw [HLL.out]; exact H9.out⟩
                case measure => simp [slN]; omega
            · have d1 : decide ((0 : Int) < yc) = true := by simp; omega
              have d1n : decide (0 < yc) = true := by simp; omega
              have HDS : Hid (dstep Dd kk = Dd.set kk (true, yl + yc, yc)) := by show _ = _; unfold dstep; rw [List.getD_eq_getElem?_getD, HY.out, Option.getD_some]; simp only; rw [d1n]
              clear hc0
              have t1 : (w6.setCell ⟨g, kk * 3, none⟩ (.bool true)).cell? ⟨g, kk * 3 + 1, none⟩ = some (Q yl) := cell_set_off q2 (by omega)
              have t2 : (w6.setCell ⟨g, kk * 3, none⟩ (.bool true)).cell? ⟨g, kk * 3 + 2, none⟩ = some (U yc) := cell_set_off q3 (by omega)
              have t3 : (w6.setCell ⟨g, kk * 3, none⟩ (.bool true)).frozen? ⟨g, kk * 3 + 1, none⟩ = false := (H6.out.2.1.stored (kk * 3) (.bool true)).1.frozenAt _
              have hrow := drow_two H6.out.2.1 HY.out true (yl + yc)
              rw [show ((yl + yc : Nat) : Int) = (yl : Int) + yc by omega] at hrow
              have FZ : Fz (fun b => b = g) w6 ((w6.setCell ⟨g, kk * 3, none⟩ (.bool true)).setCell ⟨g, kk * 3 + 1, none⟩ (Q ((yl : Int) + yc))) := ((Fz.refl (fun b => b = g) w6).set (.inl rfl) _ _).set (.inl rfl) _ _
              have HF : Hid (DcI wc ((w6.setCell ⟨g, kk * 3, none⟩ (.bool true)).setCell ⟨g, kk * 3 + 1, none⟩ (Q ((yl : Int) + yc))) i N D0 (.slice (some ⟨g, 0, none⟩) i c5) (.slice a7 (l.length + 1) c7) (l ++ [(yl, kk)]) (dstep Dd kk)) := by
                refine ⟨?_, by rw [HDS.out]; exact hrow, by unfold dstep; rw [List.length_set]; exact HJX.out.n, H6.out.2.2.1.trans (FZ.below H6.out.2.2.1.size (by rintro x rfl; exact (HJX.out.a.lt x rfl).1)), ?_, by simp; omega, H6.out.2.2.2, ?_⟩
                · exact FZ.own H6.out.1 (fun y e e2 => H6.out.2.2.2 y e (by rw [e2]; rfl))
                · rw [HJX.out.d, List.length_append, List.length_singleton, List.append_assoc, show N - l.length = (N - (l.length + 1)) + 1 by omega]
                  congr 1
                  rw [dseq, HPK.out]
                  simp only [List.getD_eq_getElem?_getD, HY.out, Option.getD_some]
                  rfl
                · intro z hz
                  rw [HDS.out] at hz
                  rcases List.mem_or_eq_of_mem_set hz with hz | rfl
                  · have := HJX.out.x z hz
                    simp only [List.length_append, List.length_singleton]
                    exact ⟨by omega, this.2⟩
                  · simp only [List.length_append, List.length_singleton]
                    omega
              clear hrow FZ HDS H6 HJX HPK HY
              go_upto_region 16 with (first | fail)
              go_region
              all_goals
                have H9 : Hid (DcI wc ((w6.setCell ⟨g, kk * 3, none⟩ (.bool true)).setCell ⟨g, kk * 3 + 1, none⟩ (Q ((yl : Int) + yc))).drew i N D0 (.slice (some ⟨g, 0, none⟩) i c5) (.slice a7 (l.length + 1) c7) (l ++ [(yl, kk)]) (dstep Dd kk)) := HF.out.below (Below.refl _ _).drew
                have HLL : Hid ((l ++ [(yl, kk)]).length = l.length + 1) := by show _ = _; simp
                go_wp2
                go_roundw
                case rel => exact ⟨a7, c7, _, _, by rw [HLL.out], by rw [HLL.out]; exact H9.out⟩
                case measure => simp [slN]; omega
    · have hltI : ¬ (l.length : Int) < M := fun e => hlt ((HNM.out l.length).1 e)
      have HE : Hid (l = comL al most) := by
        show _ = _
        rw [HC.out, HJ.out.d, show N - l.length = 0 by omega]
        simp [dseq]
      go_wp2
      go_ret
      rw [← HE.out]
      exact ⟨a6, c6, rfl, HJ.out.t, HJ.out.b⟩
end Go.Proofs.Ytpoekphebmonnab
