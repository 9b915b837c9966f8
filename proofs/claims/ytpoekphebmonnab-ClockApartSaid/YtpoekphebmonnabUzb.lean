import Derived.Test.YtpoekphebmonnabUza
import Derived.Deep.CutBlock
import Derived.Deep.CutRange
namespace Go.Proofs.Ytpoekphebmonnab
open Go.RowKit Go.Shelf Go.Sort
set_option linter.unusedVariables false
set_option linter.unusedSimpArgs false

/-! ### play -/
theorem own_fz {w w' : World} {M : Nat → Prop} {b e k n : Nat} {x : Value} {xs : List Value} (h : w.ownsRow b e k x n xs) (hf : Fz M w w') (hM : ∀ y, M y → y < b) : w'.ownsRow b e k x n xs := hf.own h (fun y e1 e2 => by have := (h.lt y e1).1; have := hM y e2; omega)
section
variable {W wo : World} {B D G bs L V : Nat} {v u : Value} {s : ByteArray} {al : List Alm}
set_option maxHeartbeats 16000000 in
set_option maxRecDepth 100000 in
theorem play_any (h : Pd W wo B v D u s G bs L V al V al) (kd tk : Int) (x y : Nat) (hx : x < 4294967296) : Calls Try.prog 7 #[cP B, cP D, .agg #[I kd, I tk, U x, U y]] wo fun e w' => e = .returned (.bool true) ∧ (∃ u', (∃ V' al', Pd W w' B v D u' s G bs L V' al' V' al') ∧ ∀ b, Cb D u' b → Cb D u b ∨ wo.heap.size ≤ b) ∧ Fz (Pb B v D u) wo w' := by
  obtain ⟨i0, hi0, hz0, hz1, hz2⟩ := info_parts iinfo
  have HJ0 : Hid (Pd W (wo.alloc (.cells #[I kd, I tk, U x, U y] 36)) B v D u s G bs L V al V al) := h.below (below_alloc _ _)
  have HF0 : Hid (Fz (Pb B v D u) wo (wo.alloc (.cells #[I kd, I tk, U x, U y] 36))) := Fz.of_below (below_alloc _ _)
  have hXn : ¬ Pb B v D u wo.heap.size := fun e => by have := h.lt e; omega
  have HLT : Hid (∀ b, Pb B v D u b → b < wo.heap.size) := fun b hb => h.lt hb
  have hl64 := h.c.n
  have HW : Hid (W.heap.size ≤ wo.heap.size) := h.b.size
  have HSX : Hid (wo.heap.size < (wo.alloc (.cells #[I kd, I tk, U x, U y] 36)).heap.size) := by show _ < _; simp
  go_enter Try.func7, Try.ntmps7
  go_upto_block 0 with fail
  have y1 : (wo.alloc (.cells #[I kd, I tk, U x, U y] 36)).cell? ⟨wo.heap.size, 1, none⟩ = some (I tk) := by rw [cell_of_row _ _ _ _ _ (0, 0) (heap_alloc_new wo _)]; rfl
  have y2 : (wo.alloc (.cells #[I kd, I tk, U x, U y] 36)).cell? ⟨wo.heap.size, 2, none⟩ = some (U x) := by rw [cell_of_row _ _ _ _ _ (0, 0) (heap_alloc_new wo _)]; rfl
  have y3 : (wo.alloc (.cells #[I kd, I tk, U x, U y] 36)).cell? ⟨wo.heap.size, 3, none⟩ = some (U y) := by rw [cell_of_row _ _ _ _ _ (0, 0) (heap_alloc_new wo _)]; rfl
  clear h
  generalize hXe : wo.heap.size = X at *
  have HXE : Hid (wo.heap.size = X) := hXe
  clear hXe
  generalize (wo.alloc (.cells #[I kd, I tk, U x, U y] 36)) = wx at *
  have HJ1 : Hid (Pd W wx.drew B v D u s G bs L V al V al) := HJ0.out.below (Below.refl _ _).drew
  have HF1 : Hid (Fz (Pb B v D u) wo wx.drew) := HF0.out.trans (Fz.of_below (Below.refl _ _).drew)
  by_cases k1 : kd = 1
  · subst k1
    as_aux_lemma =>
      go_wp2
      go_region_held_law (fun w' => w'.cell? ⟨X, 1, none⟩ = some (I tk) ∧ w'.cell? ⟨X, 2, none⟩ = some (U x) ∧ w'.cell? ⟨X, 3, none⟩ = some (U y)) (first | exact ⟨y1, y2, y3⟩ | exact ⟨z1, z2, z3⟩ | exact ⟨t1, t2, t3⟩ | (go_keep; done)) (first
        | (go_at_call 13; refine (xRel HJ1.out tk x y hx).mono ?_; rintro e w1 ⟨rfl, P1, F1⟩; have HP1 : Hid (Pd W w1 B v D u s G bs L _ _ _ _ ∧ Fz (Pb B v D u) wo w1) := ⟨P1, HF1.out.trans F1⟩; have z1 := F1.cell (show wx.drew.cell? ⟨X, 1, none⟩ = some (I tk) from y1) hXn; have z2 := F1.cell (show wx.drew.cell? ⟨X, 2, none⟩ = some (U x) from y2) hXn; have z3 := F1.cell (show wx.drew.cell? ⟨X, 3, none⟩ = some (U y) from y3) hXn; clear P1 F1)
        | (go_at_call 19; refine (yRel HP1.out.1 tk x y hx).mono ?_; rintro e w2 ⟨rfl, P2, F2⟩; have HP2 : Hid (Pd W w2 B v D u s G bs L _ _ _ _ ∧ Fz (Pb B v D u) wo w2) := ⟨P2, HP1.out.2.trans F2⟩; have t1 := F2.cell z1 hXn; have t2 := F2.cell z2 hXn; have t3 := F2.cell z3 hXn; clear P2 F2))
      all_goals
        go_wp2
        go_ret
        exact ⟨ret_bool (by simp), ⟨u, ⟨_, _, HP2.out.1⟩, fun b hb => .inl hb⟩, HP2.out.2⟩
  by_cases k2 : kd = 2
  · subst k2
    as_aux_lemma =>
      go_wp2
      go_region_held_law (fun w' => w'.cell? ⟨X, 1, none⟩ = some (I tk) ∧ w'.cell? ⟨X, 2, none⟩ = some (U x) ∧ w'.cell? ⟨X, 3, none⟩ = some (U y)) (first | exact ⟨y1, y2, y3⟩ | exact ⟨z1, z2, z3⟩ | exact ⟨t1, t2, t3⟩ | (go_keep; done)) (first
        | (go_at_call 14; refine (xAbs HJ1.out tk x y hx).mono ?_; rintro e w1 ⟨rfl, P1, F1⟩; have HP1 : Hid (Pd W w1 B v D u s G bs L _ _ _ _ ∧ Fz (Pb B v D u) wo w1) := ⟨P1, HF1.out.trans F1⟩; have z1 := F1.cell (show wx.drew.cell? ⟨X, 1, none⟩ = some (I tk) from y1) hXn; have z2 := F1.cell (show wx.drew.cell? ⟨X, 2, none⟩ = some (U x) from y2) hXn; have z3 := F1.cell (show wx.drew.cell? ⟨X, 3, none⟩ = some (U y) from y3) hXn; clear P1 F1)
        | (go_at_call 20; refine (yAbs HP1.out.1 tk x y hx).mono ?_; rintro e w2 ⟨rfl, P2, F2⟩; have HP2 : Hid (Pd W w2 B v D u s G bs L _ _ _ _ ∧ Fz (Pb B v D u) wo w2) := ⟨P2, HP1.out.2.trans F2⟩; have t1 := F2.cell z1 hXn; have t2 := F2.cell z2 hXn; have t3 := F2.cell z3 hXn; clear P2 F2))
      all_goals
        go_wp2
        go_ret
        exact ⟨ret_bool (by simp), ⟨u, ⟨_, _, HP2.out.1⟩, fun b hb => .inl hb⟩, HP2.out.2⟩
  by_cases k3 : kd = 3
  · subst k3
    as_aux_lemma =>
      go_wp2
      go_region_held_law (fun w' => w'.cell? ⟨X, 1, none⟩ = some (I tk) ∧ w'.cell? ⟨X, 2, none⟩ = some (U x) ∧ w'.cell? ⟨X, 3, none⟩ = some (U y)) (first | exact ⟨y1, y2, y3⟩ | exact ⟨z1, z2, z3⟩ | exact ⟨t1, t2, t3⟩ | (go_keep; done)) (first
        | (go_at_call 21; refine (xSet HJ1.out tk x y hx).mono ?_; rintro e w1 ⟨rfl, P1, F1⟩; have HP1 : Hid (Pd W w1 B v D u s G bs L _ _ _ _ ∧ Fz (Pb B v D u) wo w1) := ⟨P1, HF1.out.trans F1⟩; have z1 := F1.cell (show wx.drew.cell? ⟨X, 1, none⟩ = some (I tk) from y1) hXn; have z2 := F1.cell (show wx.drew.cell? ⟨X, 2, none⟩ = some (U x) from y2) hXn; have z3 := F1.cell (show wx.drew.cell? ⟨X, 3, none⟩ = some (U y) from y3) hXn; clear P1 F1)
        | (go_at_call 22; refine (ySet HP1.out.1 tk x y hx).mono ?_; rintro e w2 ⟨rfl, P2, F2⟩; have HP2 : Hid (Pd W w2 B v D u s G bs L _ _ _ _ ∧ Fz (Pb B v D u) wo w2) := ⟨P2, HP1.out.2.trans F2⟩; have t1 := F2.cell z1 hXn; have t2 := F2.cell z2 hXn; have t3 := F2.cell z3 hXn; clear P2 F2))
      all_goals
        go_wp2
        go_ret
        exact ⟨ret_bool (by simp), ⟨u, ⟨_, _, HP2.out.1⟩, fun b hb => .inl hb⟩, HP2.out.2⟩
  by_cases k4 : kd = 4
  · subst k4
    as_aux_lemma =>
      go_wp2
      go_region_held_law (fun w' => w'.cell? ⟨X, 1, none⟩ = some (I tk)) (first | exact y1 | exact z1 | exact t1 | (go_keep; done)) (first
        | (go_at_call 23; refine (xCancel HJ1.out tk).mono ?_; rintro e w1 ⟨rfl, P1, F1⟩; have HP1 : Hid (Pd W w1 B v D u s G bs L _ _ _ _ ∧ Fz (Pb B v D u) wo w1) := ⟨P1, HF1.out.trans F1⟩; have z1 := F1.cell (show wx.drew.cell? ⟨X, 1, none⟩ = some (I tk) from y1) hXn; clear P1 F1)
        | (go_at_call 24; refine (yCancel HP1.out.1 tk).mono ?_; rintro e w2 ⟨rfl, P2, F2⟩; have HP2 : Hid (Pd W w2 B v D u s G bs L _ _ _ _ ∧ Fz (Pb B v D u) wo w2) := ⟨P2, HP1.out.2.trans F2⟩; have t1 := F2.cell z1 hXn; clear P2 F2))
      all_goals
        go_wp2
        go_ret
        exact ⟨ret_bool (by simp), ⟨u, ⟨_, _, HP2.out.1⟩, fun b hb => .inl hb⟩, HP2.out.2⟩
  by_cases k7 : kd = 7
  · subst k7
    as_aux_lemma =>
      go_wp2_with (first
        | (go_at_call 29; refine (xReset HJ0.out).mono ?_; rintro e w1 ⟨rfl, P1, F1⟩; have HP1 : Hid (Pd W w1 B v D u s G bs L _ _ _ _ ∧ Fz (Pb B v D u) wo w1) := ⟨P1, HF0.out.trans F1⟩; have S1 := F1.size; clear P1 F1)
        | (go_at_call 30; refine (yReset HP1.out.1).mono ?_; rintro e w2 ⟨rfl, ⟨u2, P2, K2⟩, F2⟩; have HP2 : Hid (_ ∧ _ ∧ _) := ⟨P2, K2, HP1.out.2.trans F2⟩; clear P2 K2 F2))
      go_ret
      refine ⟨rfl, ⟨u2, ⟨_, _, HP2.out.1⟩, fun b hb => ?_⟩, HP2.out.2.2⟩
      rcases HP2.out.2.1 b hb with e | e
      · exact .inl e
      · have := HSX.out; have := HXE.out; exact .inr (by omega)
  by_cases k5 : kd = 5
  · subst k5
    as_aux_lemma =>
      have hdl := dueF_len (t := 1) al 0
      have hSX := HSX.out
      have hdl2 : (dueF 1 0 al).length ≤ 64 := by omega
      generalize hde : dueF 1 0 al = due at *
      have HDE : Hid (dueF 1 0 al = due) := hde
      clear hde hdl
      go_upto_region 13 with (first
        | (go_at_call 15; have R := xTick HJ0.out; rw [HDE.out] at R; refine R.mono ?_; clear R; rintro e w1 ⟨a1, c1, rfl, o1, P1, F1⟩; have S1 := F1.size; have HP1 : Hid (w1.ownsRow wx.heap.size 3 1 (.slice a1 due.length c1) due.length (inL due) ∧ Pd W w1 B v D u s G bs L (aftN G V 1) (al.map (psA 1)) V al ∧ Fz (Pb B v D u) wo w1) := ⟨o1, P1, HF0.out.trans F1⟩; clear o1 P1 F1)
        | (go_at_call 26; have R := yTick HP1.out.2.1; rw [HDE.out] at R; refine R.mono ?_; clear R; rintro e w2 ⟨a2, c2, rfl, o2, P2, F2⟩; have S2 := F2.size; have HP2 : Hid (w2.ownsRow wx.heap.size 3 1 (.slice a1 due.length c1) due.length (inL due) ∧ w2.ownsRow w1.heap.size 3 1 (.slice a2 due.length c2) due.length (inL due) ∧ Pd W w2 B v D u s G bs L (aftN G V 1) (al.map (psA 1)) (aftN G V 1) (al.map (psA 1)) ∧ Fz (Pb B v D u) wo w2) := ⟨own_fz HP1.out.1 F2 (fun z hz => by have := HLT.out z hz; omega), o2, P2, HP1.out.2.2.trans F2⟩; clear o2 P2 F2)
        | (go_at_call 25; refine (ints_any w2 wx.heap.size w1.heap.size a1 a2 c1 c2 due hdl2 HP2.out.1 HP2.out.2.1).mono ?_; rintro e w3 ⟨rfl, b3⟩; have S3 := b3.size; have HP3 : Hid (w3.ownsRow wx.heap.size 3 1 (.slice a1 due.length c1) due.length (inL due) ∧ Pd W w3 B v D u s G bs L (aftN G V 1) (al.map (psA 1)) (aftN G V 1) (al.map (psA 1)) ∧ Fz (Pb B v D u) wo w3 ∧ wx.heap.size ≤ w3.heap.size) := ⟨own_below HP2.out.1 b3, HP2.out.2.2.1.below b3, HP2.out.2.2.2.trans (Fz.of_below b3), by omega⟩; clear b3))
      clear HP1 HP2 HJ0 HJ1 HF1 HF0 S1 S2 S3 y1 y2 y3 hXn
      generalize aftN G V 1 = V3 at *
      generalize al.map (psA 1) = al3 at *
      generalize due.length = n at *
      generalize inL due = xs0 at *
      generalize hbe : wx.heap.size = base at *
      clear hbe
      go_wp2
      go_loopw [9] (fun v9 wq => ∃ (k : Nat) (xs : List Value), k ≤ n ∧ v9 = I k ∧ Hid (wq.ownsRow base 3 1 (.slice a1 n c1) n xs ∧ Pd W wq B v D u s G bs L V3 al3 V3 al3 ∧ Fz (Pb B v D u) wo wq ∧ base ≤ wq.heap.size)) (fun v9 _ => n - (intOf v9).toNat)
      case atStart => exact ⟨0, xs0, by omega, rfl, HP3.out⟩
      case round =>
        clear HP3
        obtain ⟨k, xs, hk, rfl, HK⟩ := hrel
        by_cases hlt : k < n
        · have hltI : (k : Int) < n := by omega
          obtain ⟨r1, r2, r3, r4⟩ := HK.out
          obtain ⟨g, cg, e⟩ := own_some r1 (by omega)
          cases e
          have hg := (r1.lt g rfl).1
          obtain ⟨zv, hzv⟩ : ∃ zv, xs[k]? = some zv := ⟨_, List.getElem?_eq_getElem (by have := r1.1; omega)⟩
          have q1 : wr.cell? ⟨g, k, none⟩ = some zv := by rw [r1.cellAt k (by omega)]; exact hzv
          have q2 := r1.frozenAt k
          have F7 : Fz (fun b => b = g) wr (wr.setCell ⟨g, k, none⟩ (I (-1))) := (Fz.refl (fun b => b = g) wr).set (.inl rfl) _ _
          have H7 : Hid ((wr.setCell ⟨g, k, none⟩ (I (-1))).ownsRow base 3 1 (.slice (some ⟨g, 0, none⟩) n c1) n (xs.set k (I (-1))) ∧ Pd W (wr.setCell ⟨g, k, none⟩ (I (-1))) B v D u s G bs L V3 al3 V3 al3 ∧ Fz (Pb B v D u) wo (wr.setCell ⟨g, k, none⟩ (I (-1))) ∧ base ≤ (wr.setCell ⟨g, k, none⟩ (I (-1))).heap.size) := ⟨(r1.stored k (I (-1))).1, r2.keep F7 (fun b hb e => by have := HLT.out b hb; omega) (fun b e => by have := HW.out; omega), r3.step F7 (fun b e => .inr (by have := HXE.out; omega)), by simpa using r4⟩
          clear HK r1 r2 r3 r4 F7 hzv
          go_wp2
          go_roundw
          case rel => exact ⟨k + 1, _, by omega, by go_num, H7.out⟩
          case measure => simp [intOf]; omega
        · obtain rfl : k = n := by omega
          have hge : ¬ ((k : Int) < k) := by omega
          have HP4 : Hid (k ≤ 64 ∧ wr.ownsRow base 3 1 (.slice a1 k c1) k xs ∧ Pd W wr B v D u s G bs L V3 al3 V3 al3 ∧ Fz (Pb B v D u) wo wr ∧ base ≤ wr.heap.size) := ⟨hdl2, HK.out⟩
          clear HK
          go_wp2
          go_loopw [7, 10] (fun v7 v10 wq => ∃ (j m : Nat) (a : Option Addr) (c : Nat) (xs : List Value), j ≤ 40 ∧ m ≤ 64 + j ∧ v10 = I j ∧ v7 = .slice a m c ∧ Hid (wq.ownsRow base 3 1 (.slice a m c) m xs ∧ Pd W wq B v D u s G bs L V3 al3 V3 al3 ∧ Fz (Pb B v D u) wo wq ∧ base ≤ wq.heap.size)) (fun _ v10 _ => 40 - (intOf v10).toNat)
          case atStart => exact ⟨0, k, a1, c1, xs, by omega, by omega, rfl, rfl, HP4.out.2⟩
          case round =>
            clear HP4
            obtain ⟨j, m, a, c, ys, hj, hm, rfl, rfl, HK⟩ := hrel
            by_cases hlj : j < 40
            · have hljI : (j : Int) < 40 := by omega
              obtain ⟨r1, r2, r3, r4⟩ := HK.out
              have hO2 := r1.alloc (.cells #[I (-2)] 3)
              have b9 := below_alloc wr (.cells #[I (-2)] 3)
              go_wp2_with (first
                | (at_builtin; refine wpList_append_own _ rfl (.tmp 105) (.tmp 106) 51 rfl base 3 i0 (.int .i64 0) 1 8 Try.underlying51 hi0 hz0 hz1 hz2 rfl (by decide) _ _ _ rfl hO2 ⟨wr.heap.size, 0, none⟩ 1 1 [I (-2)] rfl rfl (cell_one_new _ _ _) (by intro u hu; simp at hu; subst hu; rfl) (by unfold maxLen; omega) (by omega) (by simp; omega) ?_))
              intro v6 w6 ho6 hg6 _
              obtain ⟨a6, c6, rfl⟩ := own_sl ho6
              have F6 : Fz (fun b => (Value.slice a m c).ownBlock = some b) (wr.alloc (.cells #[I (-2)] 3)) w6 := ⟨hg6.os, hg6.tape, hg6.output, hg6.size, fun i hi hne => hg6.block i hi (fun e => hne e.symm)⟩
              have H6 : Hid (w6.ownsRow base 3 1 (.slice a6 (m + 1) c6) (m + 1) (ys ++ [I (-2)]) ∧ Pd W w6 B v D u s G bs L V3 al3 V3 al3 ∧ Fz (Pb B v D u) wo w6 ∧ base ≤ w6.heap.size) := ⟨ho6, (r2.below b9).keep F6 (fun b hb e => by have := HLT.out b hb; have := (r1.lt b e).1; omega) (fun b e => by have := HW.out; have := (r1.lt b e).1; omega), (r3.trans (Fz.of_below b9)).step F6 (fun b e => .inr (by have := HXE.out; have := (r1.lt b e).1; omega)), Nat.le_trans r4 (Nat.le_trans b9.size F6.size)⟩
              clear ho6 hg6 hO2 F6 HK r1 r2 r3 r4 b9
              go_wp2
              go_roundw
              case rel => exact ⟨j + 1, m + 1, a6, c6, _, by omega, by omega, by go_num, rfl, H6.out⟩
              case measure => simp [intOf]; omega
            · obtain rfl : j = 40 := by omega
              go_wp2
              go_ret
              exact ⟨rfl, ⟨u, ⟨_, _, HK.out.2.1⟩, fun b hb => .inl hb⟩, HK.out.2.2.1⟩
  by_cases k6 : kd = 6
  · subst k6
    as_aux_lemma =>
      have hSX := HSX.out
      have hcl : (comL al tk).length ≤ 65536 := by
        have h1 := dseq_len (mnN (posN tk) 65536) (d0L al)
        have h2 : mnN (posN tk) 65536 ≤ 65536 := by unfold mnN; omega
        unfold comL
        omega
      generalize hce : comL al tk = cl at *
      have HCE : Hid (comL al tk = cl) := hce
      clear hce
      have y1d : wx.drew.cell? ⟨X, 1, none⟩ = some (I tk) := y1
      have hXl : X < wx.heap.size := hSX
      go_wp2
      go_region_held_law (fun w' => w'.cell? ⟨X, 1, none⟩ = some (I tk)) (first | exact y1 | exact z1 | exact t1 | (go_keep; done)) (first
        | (go_at_call 27; have R := xComing HJ1.out tk; rw [HCE.out] at R; refine R.mono ?_; clear R; rintro e w1 ⟨a1, c1, rfl, o1, b1⟩; have z1 : w1.cell? ⟨X, 1, none⟩ = some (I tk) := (b1.cell (p := ⟨X, 1, none⟩) hXl).trans y1d; have HP1 : Hid (w1.ownsRow wx.heap.size 63 2 (.slice a1 cl.length c1) cl.length (flE cl) ∧ Below wx.heap.size wx w1) := ⟨o1, ((Below.refl _ wx).drew).trans b1⟩; clear o1 b1)
        | (go_at_call 28; have R := yComing (HJ0.out.below HP1.out.2) tk; rw [HCE.out] at R; refine R.mono ?_; clear R; rintro e w2 ⟨a2, c2, rfl, o2, b2⟩; have t1 : w2.cell? ⟨X, 1, none⟩ = some (I tk) := (b2.cell (p := ⟨X, 1, none⟩) (Nat.lt_of_lt_of_le hXl HP1.out.2.size)).trans z1; have HP2 : Hid (w2.ownsRow wx.heap.size 63 2 (.slice a1 cl.length c1) cl.length (flE cl) ∧ w2.ownsRow w1.heap.size 63 2 (.slice a2 cl.length c2) cl.length (flE cl) ∧ Pd W w2 B v D u s G bs L V al V al ∧ Fz (Pb B v D u) wo w2 ∧ ∀ y, (Value.slice a1 cl.length c1).ownBlock = some y → y < w1.heap.size) := ⟨own_below HP1.out.1 b2, o2, (HJ0.out.below HP1.out.2).below b2, (HF0.out.trans (Fz.of_below HP1.out.2)).trans (Fz.of_below b2), fun y e => (HP1.out.1.lt y e).2⟩; clear o2 b2))
      all_goals
        clear HP1 HJ0 HJ1 HF1 HF0 y1 y2 y3 y1d z1 t1 hXn
        generalize hbe : wx.heap.size = base at *
        clear hbe
        generalize w1.heap.size = base2 at *
        go_wp2
        go_loopw [13] (fun v13 wq => ∃ (k : Nat) (xs : List Value), k ≤ cl.length ∧ v13 = I k ∧ Hid (xs.drop (k * 2) = (flE cl).drop (k * 2) ∧ wq.ownsRow base 63 2 (.slice a1 cl.length c1) cl.length xs ∧ wq.ownsRow base2 63 2 (.slice a2 cl.length c2) cl.length (flE cl) ∧ Pd W wq B v D u s G bs L V al V al ∧ Fz (Pb B v D u) wo wq ∧ ∀ y, (Value.slice a1 cl.length c1).ownBlock = some y → y < base2)) (fun v13 _ => cl.length - (intOf v13).toNat)
        case atStart => exact ⟨0, flE cl, by omega, rfl, rfl, HP2.out⟩
        case round =>
          clear HP2
          obtain ⟨k, xs, hk, rfl, HK⟩ := hrel
          by_cases hlt : k < cl.length
          · have hltI : (k : Int) < cl.length := by omega
            obtain ⟨r0, r1, r2, r3, r4, r5⟩ := HK.out
            obtain ⟨g1, cg1, e1⟩ := own_some r1 (by omega)
            obtain ⟨g2, cg2, e2⟩ := own_some r2 (by omega)
            cases e1
            cases e2
            obtain ⟨⟨pi, pa⟩, hp⟩ : ∃ p, cl[k]? = some p := ⟨_, List.getElem?_eq_getElem hlt⟩
            obtain ⟨e1, e2⟩ := flE_at hp
            have x0 : xs[k * 2]? = some (Q pi) := by
              have := congrArg (fun l : List Value => l[0]?) r0
              simp only [List.getElem?_drop, Nat.add_zero] at this
              rw [this]; exact e1
            have x1 : xs[k * 2 + 1]? = some (I pa) := by
              have := congrArg (fun l : List Value => l[1]?) r0
              simp only [List.getElem?_drop] at this
              rw [this]; exact e2
            have q1 : wr.cell? ⟨g1, k * 2, none⟩ = some (Q pi) := by rw [r1.cellAt _ (by omega)]; exact x0
            have q2 : wr.cell? ⟨g1, k * 2 + 1, none⟩ = some (I pa) := by rw [r1.cellAt _ (by omega)]; exact x1
            have q3 : wr.cell? ⟨g2, k * 2, none⟩ = some (Q pi) := by rw [r2.cellAt _ (by omega)]; exact e1
            have q4 : wr.cell? ⟨g2, k * 2 + 1, none⟩ = some (I pa) := by rw [r2.cellAt _ (by omega)]; exact e2
            have z1 := cell_regrown q1
            have z2 := cell_regrown q2
            have z3 := cell_regrown q3
            have z4 := cell_regrown q4
            have HG : Hid (∀ dq osq, (grow (redrawn wr dq) osq).ownsRow base 63 2 (.slice (some ⟨g1, 0, none⟩) cl.length c1) cl.length xs ∧ (grow (redrawn wr dq) osq).ownsRow base2 63 2 (.slice (some ⟨g2, 0, none⟩) cl.length c2) cl.length (flE cl) ∧ Pd W (grow (redrawn wr dq) osq) B v D u s G bs L V al V al ∧ Fz (Pb B v D u) wo (grow (redrawn wr dq) osq)) := fun dq osq => ⟨own_below r1 (below_regrown wr dq osq), own_below r2 (below_regrown wr dq osq), r3.below (below_regrown wr dq osq), r4.trans (Fz.of_below (below_regrown wr dq osq))⟩
            have hg1 := (r1.lt g1 rfl).1
            have hg12 : g1 < base2 := r5 g1 rfl
            have hg2 := (r2.lt g2 rfl).1
            have H0 : Hid (xs.drop ((k + 1) * 2) = (flE cl).drop ((k + 1) * 2) ∧ xs.length = cl.length * 2) := by
              refine ⟨?_, r1.1⟩
              have := congrArg (List.drop 2) r0
              rw [List.drop_drop, List.drop_drop] at this
              rw [show (k + 1) * 2 = k * 2 + 2 by omega]
              exact this
            have H5 : Hid (∀ y, (Value.slice (some ⟨g1, 0, none⟩) cl.length c1).ownBlock = some y → y < base2) := r5
            clear HK r0 r1 r2 r3 r4 r5 q1 q2 q3 q4 x0 x1 e1 e2 hp
            go_wp2
            refine wp_region_quiet_below (by kernel_rfl) (by kernel_rfl) ?_
            repeat (go_big_quiet_step (first | fail))
            refine wpQuiet_nil ?_
            rintro _ ⟨⟨dq, osq⟩, rfl⟩
            dsimp only
            obtain ⟨r1, r2, r3, r4⟩ := HG.out dq osq
            have q1 := z1 dq osq
            have q2 := z2 dq osq
            clear HG z1 z2 z3 z4
            generalize grow (redrawn wr dq) osq = w7 at *
            have qf := r1.frozenAt
            have q5 : (w7.setCell ⟨g1, k * 2, none⟩ (Q 0)).cell? ⟨g1, k * 2 + 1, none⟩ = some (I pa) := cell_set_off q2 (by omega)
            have F7 : Fz (fun b => b = g1) w7 ((w7.setCell ⟨g1, k * 2, none⟩ (Q 0)).setCell ⟨g1, k * 2 + 1, none⟩ (I 0)) := fz_set2 _ _ _ _ _ _
            have H7 : Hid (((xs.set (k * 2) (Q 0)).set (k * 2 + 1) (I 0)).drop ((k + 1) * 2) = (flE cl).drop ((k + 1) * 2) ∧ ((w7.setCell ⟨g1, k * 2, none⟩ (Q 0)).setCell ⟨g1, k * 2 + 1, none⟩ (I 0)).ownsRow base 63 2 (.slice (some ⟨g1, 0, none⟩) cl.length c1) cl.length ((xs.set (k * 2) (Q 0)).set (k * 2 + 1) (I 0)) ∧ ((w7.setCell ⟨g1, k * 2, none⟩ (Q 0)).setCell ⟨g1, k * 2 + 1, none⟩ (I 0)).ownsRow base2 63 2 (.slice (some ⟨g2, 0, none⟩) cl.length c2) cl.length (flE cl) ∧ Pd W ((w7.setCell ⟨g1, k * 2, none⟩ (Q 0)).setCell ⟨g1, k * 2 + 1, none⟩ (I 0)) B v D u s G bs L V al V al ∧ Fz (Pb B v D u) wo ((w7.setCell ⟨g1, k * 2, none⟩ (Q 0)).setCell ⟨g1, k * 2 + 1, none⟩ (I 0)) ∧ ∀ y, (Value.slice (some ⟨g1, 0, none⟩) cl.length c1).ownBlock = some y → y < base2) := by
              refine ⟨?_, ((r1.stored (k * 2) (Q 0)).1.stored (k * 2 + 1) (I 0)).1, F7.own r2 (fun y e e2 => ?_), r3.keep F7 (fun b hb e => by have := HLT.out b hb; omega) (fun b e => by have := HW.out; omega), r4.step F7 (fun b e => .inr (by have := HXE.out; omega)), H5.out⟩
              · rw [List.drop_set_of_lt (by omega), List.drop_set_of_lt (by omega)]
                exact H0.out.1
              · cases e
                have : g2 = g1 := e2
                omega
            clear r1 r2 r3 r4 F7 H0 H5
            go_wp2
            go_roundw
            case rel => exact ⟨k + 1, _, by omega, by go_num, H7.out⟩
            case measure => simp [intOf]; omega
          · obtain rfl : k = cl.length := by omega
            have hge : ¬ ((cl.length : Int) < cl.length) := by omega
            go_wp2
            go_ret
            exact ⟨rfl, ⟨u, ⟨_, _, HK.out.2.2.2.1⟩, fun b hb => .inl hb⟩, HK.out.2.2.2.2.1⟩
  · go_wp2
    go_ret
    exact ⟨rfl, ⟨u, ⟨V, al, HJ0.out⟩, fun b hb => .inl hb⟩, HF0.out⟩
end
end Go.Proofs.Ytpoekphebmonnab
