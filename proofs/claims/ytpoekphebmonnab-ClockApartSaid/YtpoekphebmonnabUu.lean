import Derived.Test.YtpoekphebmonnabUt
namespace Go.Proofs.Ytpoekphebmonnab
open Go.RowKit Go.Shelf Go.Sort
set_option linter.unusedVariables false
set_option linter.unusedSimpArgs false

/-! ### The document's Tick -/
theorem mix_ok {G : Nat} {al : List Alm} (h : AlOK G al) (t k : Nat) : AlOK G (mixL t al k) := fun x hx => by
  unfold mixL at hx
  rcases List.mem_append.1 hx with hx | hx
  · obtain ⟨y, hy, rfl⟩ := List.mem_map.1 hx
    exact psA_ok (h y (List.mem_of_mem_take hy))
  · exact h x (List.mem_of_mem_drop hx)
section
variable {w w' : World} {D G bs L V : Nat} {v : Value} {s : ByteArray} {al : List Alm}
theorem Dk.put' {g c : Nat} {al0 : List Alm} (h : Dk w D (.slice (some ⟨g, 0, none⟩) al0.length c) s G bs L V al) (k : Nat) (y : Alm) (hy : y.1 ≤ G + 1 ∧ y.2 ≤ G) (hl : al.length = al0.length) : Dk (st3 w g k (decide (y.1 ≠ 0), y.1, y.2)) D (.slice (some ⟨g, 0, none⟩) al0.length c) s G bs L V (al.set k y) := by
  rw [← hl] at h ⊢
  exact h.put k y hy
theorem Dk.hi (h : Dk w D v s G bs L V al) {n : Nat} (hn : ∀ b, Cb D v b → b < n) (hf : Fz (fun b => n ≤ b) w w') : Dk w' D v s G bs L V al := h.keptZ hf (fun b hb e => by have := hn b hb; omega)
set_option maxHeartbeats 8000000 in
set_option maxRecDepth 100000 in
theorem dTick_any (h : Dk w D v s G bs L V al) : Calls Try.prog 26 #[cP D] w fun e w' => ∃ u, e = .returned u ∧ w'.ownsRow w.heap.size 3 1 u (dueF 1 0 al).length (inL (dueF 1 0 al)) ∧ Dk w' D v s G bs L (aftN G V 1) (al.map (psA 1)) ∧ Fz (Cb D v) w w' := by
  obtain ⟨i0, hi0, hz0, hz1, hz2⟩ := info_parts iinfo
  obtain ⟨c0, c1, c2, c3, c4⟩ := h.cells
  have hb := h.b
  have hn64 := h.n
  have hX := fun W => dNext_any W G V (by omega) (by omega)
  have HH : Hid (Dk w D v s G bs L V al) := h
  have hV2 := aftN_le G V 1
  generalize hVV : aftN G V 1 = V2 at *
  have fz := h.frz 5
  clear hVV
  have HLT : Hid (∀ b, Cb D v b → b < w.heap.size) := fun b hb => HH.out.lt hb
  clear h
  go_enter Try.func26, Try.ntmps26
  go_wp2
  go_region_with (first | (go_at_call 46; refine (hX _).mono ?_; rintro e w3 ⟨rfl, b3⟩; have H3 : Hid (Below w.heap.size w w3) := ((Below.refl _ w).drew).trans b3; clear b3; obtain ⟨k0, k1, k2, k3, k4⟩ := (HH.out.below H3.out).cells; have fz3 := (HH.out.below H3.out).frz 5))
  all_goals
    have K4 := (HH.out.below H3.out).setV V2 hV2
    have f4 : Fz (Cb D v) w (w3.setCell ⟨D, 5, none⟩ (U V2)) := (Fz.of_below H3.out).set (.inl (.inl rfl)) 5 (U V2)
    have HI : Hid ((w3.setCell ⟨D, 5, none⟩ (U V2)).ownsRow w.heap.size 3 1 (.slice none 0 0) (dueF 1 0 (al.take 0)).length (inL (dueF 1 0 (al.take 0))) ∧ Dk (w3.setCell ⟨D, 5, none⟩ (U V2)) D v s G bs L V2 (mixL 1 al 0) ∧ Fz (Cb D v) w (w3.setCell ⟨D, 5, none⟩ (U V2))) := ⟨by simpa [dueF, inL] using World.ownsRow_nil _ _ _ _, by rw [mixL_zero]; exact K4, f4⟩
    clear K4 f4 hX c0 c1 c2 c3 c4 fz k0 k1 k2 k3 k4 fz3 HH H3
    generalize w3.setCell ⟨D, 5, none⟩ (U V2) = w4 at *
    go_wp2
    go_loopw [3, 4, 5] (fun v3 v4 _ wr => ∃ (k : Nat) (u3 : Value), k ≤ al.length ∧ v4 = I k ∧ Hid (v3 = u3 ∧ wr.ownsRow w.heap.size 3 1 u3 (dueF 1 0 (al.take k)).length (inL (dueF 1 0 (al.take k))) ∧ Dk wr D v s G bs L V2 (mixL 1 al k) ∧ Fz (Cb D v) w wr)) (fun _ v4 _ _ => al.length - (intOf v4).toNat)
    case atStart => exact ⟨0, _, by omega, rfl, rfl, HI.out⟩
    case round =>
      clear HI
      obtain ⟨k, u3', hk, rfl, HJ0⟩ := hrel
      obtain ⟨rfl, HJ⟩ : u3 = u3' ∧ Hid (wr.ownsRow w.heap.size 3 1 u3' (dueF 1 0 (al.take k)).length (inL (dueF 1 0 (al.take k))) ∧ Dk wr D v s G bs L V2 (mixL 1 al k) ∧ Fz (Cb D v) w wr) := ⟨HJ0.out.1, HJ0.out.2⟩
      clear HJ0
      obtain ⟨c0, c1, c2, c3, c4⟩ := HJ.out.2.1.cells
      by_cases hlt : k < al.length
      · have hltI : (k : Int) < al.length := by omega
        obtain ⟨⟨xl, xc⟩, hx⟩ : ∃ x, al[k]? = some x := ⟨_, List.getElem?_eq_getElem hlt⟩
        have hmx := mixL_at (t := 1) hx
        obtain ⟨g, c, e, q1, q2, q3, q4⟩ := HJ.out.2.1.at hmx
        rw [mixL_len] at e
        subst e
        have hxb := HJ.out.2.1.x (xl, xc) (List.mem_of_getElem? hmx)
        have hb2 := HJ.out.2.1.b
        have HS : Hid (mixL 1 al (k + 1) = (mixL 1 al k).set k (psA 1 (xl, xc))) := mixL_succ hx
        have HD : Hid (dueF 1 0 (al.take (k + 1)) = dueF 1 0 (al.take k) ++ (if dueA 1 (xl, xc) then [k] else [])) := by
          show _ = _
          rw [take_snoc hx, dueF_snoc, List.length_take, show min k al.length = k by omega, Nat.zero_add]
        have hlen : (dueF 1 0 (al.take k)).length ≤ 64 := by
          have := dueF_len (t := 1) (al.take k) 0
          rw [List.length_take] at this
          omega
        have hwr : w.heap.size ≤ wr.heap.size := HJ.out.2.2.size
        simp only at q1 q2 q3 hxb
        by_cases hz : xl = 0
        · rw [show decide (xl ≠ 0) = false by simpa using hz] at q1
          have HF : Hid (∀ o : Obj, (wr.alloc o).ownsRow w.heap.size 3 1 u3 (dueF 1 0 (al.take (k + 1))).length (inL (dueF 1 0 (al.take (k + 1)))) ∧ Dk (wr.alloc o) D (.slice (some ⟨g, 0, none⟩) al.length c) s G bs L V2 (mixL 1 al (k + 1)) ∧ Fz (Cb D (.slice (some ⟨g, 0, none⟩) al.length c)) w (wr.alloc o)) := fun o => by
            rw [HD.out, show dueA 1 (xl, xc) = false by simp [dueA, hz], if_neg (by decide), List.append_nil, HS.out, show psA 1 (xl, xc) = (xl, xc) by simp [psA, hz], set_self hmx]
            exact ⟨HJ.out.1.alloc o, HJ.out.2.1.below (below_alloc _ _), HJ.out.2.2.alloc o⟩
          clear HS HD hz hx hmx HJ hxb
          go_wp2
          go_roundw
          case rel => exact ⟨k + 1, _, by omega, by go_num, rfl, HF.out _⟩
          case measure => simp [intOf]; omega
        · rw [show decide (xl ≠ 0) = true by simpa using hz] at q1
          have hX1 : (1 : Int) ≤ xl := by omega
          have hX2 : (xl : Int) < 18446744073709551616 := by omega
          have hXc : xc < 4294967296 := by omega
          go_upto_region 11 with (first | fail)
          have HA : Hid ((wr.alloc (.cells #[.bool true, Q ((xl : Int) - 1), U xc] 65)).ownsRow w.heap.size 3 1 u3 (dueF 1 0 (al.take k)).length (inL (dueF 1 0 (al.take k))) ∧ Dk (wr.alloc (.cells #[.bool true, Q ((xl : Int) - 1), U xc] 65)) D (.slice (some ⟨g, 0, none⟩) al.length c) s G bs L V2 (mixL 1 al k) ∧ Fz (Cb D (.slice (some ⟨g, 0, none⟩) al.length c)) w (wr.alloc (.cells #[.bool true, Q ((xl : Int) - 1), U xc] 65)) ∧ (∀ y, u3.ownBlock = some y → y < wr.heap.size) ∧ w.heap.size ≤ wr.heap.size ∧ wr.heap.size < (wr.alloc (.cells #[.bool true, Q ((xl : Int) - 1), U xc] 65)).heap.size) := ⟨HJ.out.1.alloc _, HJ.out.2.1.below (below_alloc _ _), HJ.out.2.2.alloc _, fun y e => (HJ.out.1.lt y e).2, hwr, by simp⟩
          have hO := heap_alloc_new wr (.cells #[.bool true, Q ((xl : Int) - 1), U xc] 65)
          clear HJ q1 q2 q3 q4 c0 c1 c2 c3 c4 hwr
          generalize (wr.alloc (.cells #[.bool true, Q ((xl : Int) - 1), U xc] 65)) = wa at *
          generalize wr.heap.size = X at *
          have x0 : wa.cell? ⟨X, 0, none⟩ = some (.bool true) := by rw [cell_of_row wa X _ _ _ (0, 0) hO]; rfl
          have x1 : wa.cell? ⟨X, 1, none⟩ = some (Q ((xl : Int) - 1)) := by rw [cell_of_row wa X _ _ _ (0, 0) hO]; rfl
          have x2 : wa.cell? ⟨X, 2, none⟩ = some (U xc) := by rw [cell_of_row wa X _ _ _ (0, 0) hO]; rfl
          by_cases h1 : xl = 1
          · subst h1
            have x1' : wa.cell? ⟨X, 1, none⟩ = some (Q 0) := x1
            have HMX : Hid ((mixL 1 al k)[k]? = some (1, xc)) := hmx
            have HD2 : Hid (dueF 1 0 (al.take (k + 1)) = dueF 1 0 (al.take k) ++ [k]) := by show _ = _; rw [HD.out]; rfl
            have HS2 : Hid (mixL 1 al (k + 1) = (mixL 1 al k).set k (xc, xc)) := by show _ = _; rw [HS.out]; rfl
            have hO2 := HA.out.1.alloc (.cells #[I (k : Int)] 3)
            have hsz : w.heap.size ≤ wa.heap.size := HA.out.2.2.1.size
            clear HS HD hx hmx x1
            go_wp2_with (first
              | (at_builtin; refine wpList_append_own _ rfl (.tmp 50) (.tmp 52) 51 rfl w.heap.size 3 i0 (.int .i64 0) 1 8 Try.underlying51 hi0 hz0 hz1 hz2 rfl (by decide) _ _ _ rfl hO2 ⟨wa.heap.size, 0, none⟩ 1 1 [I (k : Int)] rfl rfl (cell_one_new _ _ _) (by intro u hu; simp at hu; subst hu; rfl) (by unfold maxLen; omega) (by omega) (by simp; omega) ?_))
            intro v6 w6 ho6 hg6 _
            have F6 : Fz (fun b => u3.ownBlock = some b) (wa.alloc (.cells #[I (k : Int)] 3)) w6 := ⟨hg6.os, hg6.tape, hg6.output, hg6.size, fun i hi hne => hg6.block i hi (fun e => hne e.symm)⟩
            have hO6 : w6.heap[X]? = some (.cells #[.bool true, Q 0, U xc] 65) := F6.heap (heap_over wa _ hO) (fun e => by have := HA.out.2.2.2.1 X e; omega)
            have H6 : Hid (w6.ownsRow w.heap.size 3 1 v6 (dueF 1 0 (al.take (k + 1))).length (inL (dueF 1 0 (al.take (k + 1)))) ∧ Dk w6 D (.slice (some ⟨g, 0, none⟩) al.length c) s G bs L V2 (mixL 1 al k) ∧ Fz (Cb D (.slice (some ⟨g, 0, none⟩) al.length c)) w w6 ∧ (∀ y, v6.ownBlock = some y → y ≠ X) ∧ (∀ b, Cb D (.slice (some ⟨g, 0, none⟩) al.length c) b → b ≠ X)) := by
              refine ⟨?_, (HA.out.2.1.below (below_alloc _ _)).keptZ F6 (fun b hb e => ?_), (HA.out.2.2.1.alloc _).step F6 (fun x e => .inr (HA.out.1.lt x e).1), fun y e e2 => ?_, fun b hb e => ?_⟩
              · rw [HD2.out, List.length_append]
                unfold inL
                rw [List.map_append]
                exact ho6
              · have q := HLT.out b hb
                have q2 := (HA.out.1.lt b e).1
                omega
              · subst e2
                have q := ho6.2
                rcases q with ⟨q, _⟩ | ⟨gg, cap, cur, q, _, q2, _⟩
                · rw [q] at e; cases e
                · rw [q] at e
                  cases e
                  rw [q2] at hO6
                  simp only [Option.some.injEq, Obj.cells.injEq] at hO6
                  exact absurd hO6.2.1 (by decide)
              · have q := HLT.out b hb
                have := HA.out.2.2.2.2.1
                omega
            have y0 : w6.cell? ⟨X, 0, none⟩ = some (.bool true) := by rw [cell_of_row w6 X _ _ _ (0, 0) hO6]; rfl
            have y1 : w6.cell? ⟨X, 1, none⟩ = some (Q 0) := by rw [cell_of_row w6 X _ _ _ (0, 0) hO6]; rfl
            have y2 : w6.cell? ⟨X, 2, none⟩ = some (U xc) := by rw [cell_of_row w6 X _ _ _ (0, 0) hO6]; rfl
            have yf : ∀ j, w6.frozen? ⟨X, j, none⟩ = false := fun j => frozen_of_row w6 X j _ _ hO6
            clear ho6 hg6 hO2 F6 x0 x1' x2 hO
            rcases Nat.eq_zero_or_pos xc with hc0 | hc0
            · have d1 : decide ((0 : Int) < xc) = false := by simp; omega
              have d1n : decide (0 < xc) = false := by simp; omega
              have hcb : decide ((xc, xc).1 ≠ 0) = false := by simp; omega
              clear hc0
              have t1 : (w6.setCell ⟨X, 0, none⟩ (.bool false)).cell? ⟨X, 1, none⟩ = some (Q 0) := cell_set_off y1 (by omega)
              have t2 : ((w6.setCell ⟨X, 0, none⟩ (.bool false)).setCell ⟨X, 1, none⟩ (Q xc)).cell? ⟨X, 2, none⟩ = some (U xc) := cell_set_off (cell_set_off y2 (by omega)) (by omega)
              have z0 : (((w6.setCell ⟨X, 0, none⟩ (.bool false)).setCell ⟨X, 1, none⟩ (Q xc)).setCell ⟨X, 2, none⟩ (U xc)).cell? ⟨X, 0, none⟩ = some (.bool false) := cell_set_off (cell_set_off (cell_set_on y0) (by omega)) (by omega)
              have z1 : (((w6.setCell ⟨X, 0, none⟩ (.bool false)).setCell ⟨X, 1, none⟩ (Q xc)).setCell ⟨X, 2, none⟩ (U xc)).cell? ⟨X, 1, none⟩ = some (Q xc) := cell_set_off (cell_set_on t1) (by omega)
              have z2 : (((w6.setCell ⟨X, 0, none⟩ (.bool false)).setCell ⟨X, 1, none⟩ (Q xc)).setCell ⟨X, 2, none⟩ (U xc)).cell? ⟨X, 2, none⟩ = some (U xc) := cell_set_on t2
              have FZ : Fz (fun b => b = X) w6 (((w6.setCell ⟨X, 0, none⟩ (.bool false)).setCell ⟨X, 1, none⟩ (Q xc)).setCell ⟨X, 2, none⟩ (U xc)) := (((Fz.refl (fun b => b = X) w6).set (.inl rfl) _ _).set (.inl rfl) _ _).set (.inl rfl) _ _
              have KZ := H6.out.2.1.keptZ FZ (fun b hb e => H6.out.2.2.2.2 b hb e)
              have RZ := FZ.own H6.out.1 (fun y e e2 => H6.out.2.2.2.1 y e e2)
              have GZ : Fz (Cb D (.slice (some ⟨g, 0, none⟩) al.length c)) w (((w6.setCell ⟨X, 0, none⟩ (.bool false)).setCell ⟨X, 1, none⟩ (Q xc)).setCell ⟨X, 2, none⟩ (U xc)) := H6.out.2.2.1.step FZ (fun b e => .inr (by rw [e]; exact HA.out.2.2.2.2.1))
              have HK6 : Hid (_ ∧ _ ∧ _) := ⟨KZ, RZ, GZ⟩
              clear KZ RZ GZ FZ
              go_upto_region 14 with (first | fail)
              clear t1 t2 y0 y1 y2 yf
              generalize (((w6.setCell ⟨X, 0, none⟩ (.bool false)).setCell ⟨X, 1, none⟩ (Q xc)).setCell ⟨X, 2, none⟩ (U xc)) = wz at *
              obtain ⟨KZ, RZ, GZ⟩ := HK6.out
              obtain ⟨c0, c1, c2, c3, c4⟩ := KZ.cells
              obtain ⟨g2, cc2, e2, q1, q2, q3, q4⟩ := KZ.at HMX.out
              rw [mixL_len] at e2
              cases e2
              have hwz := KZ.put' k (xc, xc) ⟨by omega, by omega⟩ (al0 := al) (mixL_len 1 al k)
              rw [hcb] at hwz
              have HF : Hid ((st3 wz g k (false, xc, xc)).ownsRow w.heap.size 3 1 v6 (dueF 1 0 (al.take (k + 1))).length (inL (dueF 1 0 (al.take (k + 1)))) ∧ Dk (st3 wz g k (false, xc, xc)) D (.slice (some ⟨g, 0, none⟩) al.length c) s G bs L V2 (mixL 1 al (k + 1)) ∧ Fz (Cb D (.slice (some ⟨g, 0, none⟩) al.length c)) w (st3 wz g k (false, xc, xc))) := by
                refine ⟨?_, by rw [HS2.out]; exact hwz, GZ.trans ((fz_st3 wz g k (false, xc, xc)).mono (by rintro b rfl; exact .inr rfl))⟩
                exact (fz_st3 wz g k (false, xc, xc)).own RZ (fun y e e2 => by have h5 := (RZ.lt y e).1; have h6 := HLT.out g (.inr rfl); omega)
              obtain ⟨s1, s2⟩ := st3_ask (x := (true, 1, xc)) (y := (false, xc, xc)) q2 q3
              simp only at s1 s2
              unfold st3 at HF
              simp only at HF
              have hgX : g ≠ X := by have h6 := HLT.out g (.inr rfl); have := HA.out.2.2.2.2.1; omega
              clear hwz HS2 HD2 HA H6 hO6 HK6 KZ RZ GZ d1 d1n hcb HMX
              go_region
              all_goals
                go_wp2
                go_roundw
                case rel => exact ⟨k + 1, _, by omega, by go_num, rfl, own_below HF.out.1 (Below.refl _ _).drew, HF.out.2.1.below (Below.refl _ _).drew, HF.out.2.2.trans (Fz.of_below (Below.refl _ _).drew)⟩
                case measure => simp [intOf]; omega
            · have d1 : decide ((0 : Int) < xc) = true := by simp; omega
              have d1n : decide (0 < xc) = true := by simp; omega
              have hcb : decide ((xc, xc).1 ≠ 0) = true := by simp; omega
              clear hc0
              have t1 : (w6.setCell ⟨X, 0, none⟩ (.bool true)).cell? ⟨X, 1, none⟩ = some (Q 0) := cell_set_off y1 (by omega)
              have t2 : ((w6.setCell ⟨X, 0, none⟩ (.bool true)).setCell ⟨X, 1, none⟩ (Q xc)).cell? ⟨X, 2, none⟩ = some (U xc) := cell_set_off (cell_set_off y2 (by omega)) (by omega)
              have z0 : (((w6.setCell ⟨X, 0, none⟩ (.bool true)).setCell ⟨X, 1, none⟩ (Q xc)).setCell ⟨X, 2, none⟩ (U xc)).cell? ⟨X, 0, none⟩ = some (.bool true) := cell_set_off (cell_set_off (cell_set_on y0) (by omega)) (by omega)
              have z1 : (((w6.setCell ⟨X, 0, none⟩ (.bool true)).setCell ⟨X, 1, none⟩ (Q xc)).setCell ⟨X, 2, none⟩ (U xc)).cell? ⟨X, 1, none⟩ = some (Q xc) := cell_set_off (cell_set_on t1) (by omega)
              have z2 : (((w6.setCell ⟨X, 0, none⟩ (.bool true)).setCell ⟨X, 1, none⟩ (Q xc)).setCell ⟨X, 2, none⟩ (U xc)).cell? ⟨X, 2, none⟩ = some (U xc) := cell_set_on t2
              have FZ : Fz (fun b => b = X) w6 (((w6.setCell ⟨X, 0, none⟩ (.bool true)).setCell ⟨X, 1, none⟩ (Q xc)).setCell ⟨X, 2, none⟩ (U xc)) := (((Fz.refl (fun b => b = X) w6).set (.inl rfl) _ _).set (.inl rfl) _ _).set (.inl rfl) _ _
              have KZ := H6.out.2.1.keptZ FZ (fun b hb e => H6.out.2.2.2.2 b hb e)
              have RZ := FZ.own H6.out.1 (fun y e e2 => H6.out.2.2.2.1 y e e2)
              have GZ : Fz (Cb D (.slice (some ⟨g, 0, none⟩) al.length c)) w (((w6.setCell ⟨X, 0, none⟩ (.bool true)).setCell ⟨X, 1, none⟩ (Q xc)).setCell ⟨X, 2, none⟩ (U xc)) := H6.out.2.2.1.step FZ (fun b e => .inr (by rw [e]; exact HA.out.2.2.2.2.1))
              have HK6 : Hid (_ ∧ _ ∧ _) := ⟨KZ, RZ, GZ⟩
              clear KZ RZ GZ FZ
              go_upto_region 14 with (first | fail)
              clear t1 t2 y0 y1 y2 yf
              generalize (((w6.setCell ⟨X, 0, none⟩ (.bool true)).setCell ⟨X, 1, none⟩ (Q xc)).setCell ⟨X, 2, none⟩ (U xc)) = wz at *
              obtain ⟨KZ, RZ, GZ⟩ := HK6.out
              obtain ⟨c0, c1, c2, c3, c4⟩ := KZ.cells
              obtain ⟨g2, cc2, e2, q1, q2, q3, q4⟩ := KZ.at HMX.out
              rw [mixL_len] at e2
              cases e2
              have hwz := KZ.put' k (xc, xc) ⟨by omega, by omega⟩ (al0 := al) (mixL_len 1 al k)
              rw [hcb] at hwz
              have HF : Hid ((st3 wz g k (true, xc, xc)).ownsRow w.heap.size 3 1 v6 (dueF 1 0 (al.take (k + 1))).length (inL (dueF 1 0 (al.take (k + 1)))) ∧ Dk (st3 wz g k (true, xc, xc)) D (.slice (some ⟨g, 0, none⟩) al.length c) s G bs L V2 (mixL 1 al (k + 1)) ∧ Fz (Cb D (.slice (some ⟨g, 0, none⟩) al.length c)) w (st3 wz g k (true, xc, xc))) := by
                refine ⟨?_, by rw [HS2.out]; exact hwz, GZ.trans ((fz_st3 wz g k (true, xc, xc)).mono (by rintro b rfl; exact .inr rfl))⟩
                exact (fz_st3 wz g k (true, xc, xc)).own RZ (fun y e e2 => by have h5 := (RZ.lt y e).1; have h6 := HLT.out g (.inr rfl); omega)
              obtain ⟨s1, s2⟩ := st3_ask (x := (true, 1, xc)) (y := (true, xc, xc)) q2 q3
              simp only at s1 s2
              unfold st3 at HF
              simp only at HF
              have hgX : g ≠ X := by have h6 := HLT.out g (.inr rfl); have := HA.out.2.2.2.2.1; omega
              clear hwz HS2 HD2 HA H6 hO6 HK6 KZ RZ GZ d1 d1n hcb HMX
              go_region
              all_goals
                go_wp2
                go_roundw
                case rel => exact ⟨k + 1, _, by omega, by go_num, rfl, own_below HF.out.1 (Below.refl _ _).drew, HF.out.2.1.below (Below.refl _ _).drew, HF.out.2.2.trans (Fz.of_below (Below.refl _ _).drew)⟩
                case measure => simp [intOf]; omega
          · have HD2 : Hid (dueF 1 0 (al.take (k + 1)) = dueF 1 0 (al.take k)) := by show _ = _; rw [HD.out, show dueA 1 (xl, xc) = false by simp [dueA]; omega]; simp
            have HS2 : Hid (mixL 1 al (k + 1) = (mixL 1 al k).set k (xl - 1, xc)) := by show _ = _; rw [HS.out, show psA 1 (xl, xc) = (xl - 1, xc) by unfold psA; simp only; rw [if_neg (by omega), if_neg (by omega)]]
            have hne : (((xl : Int) - 1) == 0) = false := beq_eq_false_iff_ne.2 (by omega)
            have hsb : (xl : Int) - 1 = ((xl - 1 : Nat) : Int) := by omega
            obtain ⟨c0, c1, c2, c3, c4⟩ := HA.out.2.1.cells
            obtain ⟨g2, cc2, e2, q1, q2, q3, q4⟩ := HA.out.2.1.at hmx
            rw [mixL_len] at e2
            cases e2
            have hwz := HA.out.2.1.put' k (xl - 1, xc) ⟨by omega, by omega⟩ (al0 := al) (mixL_len 1 al k)
            have HF : Hid ((st3 wa g k (true, xl - 1, xc)).ownsRow w.heap.size 3 1 u3 (dueF 1 0 (al.take (k + 1))).length (inL (dueF 1 0 (al.take (k + 1)))) ∧ Dk (st3 wa g k (true, xl - 1, xc)) D (.slice (some ⟨g, 0, none⟩) al.length c) s G bs L V2 (mixL 1 al (k + 1)) ∧ Fz (Cb D (.slice (some ⟨g, 0, none⟩) al.length c)) w (st3 wa g k (true, xl - 1, xc))) := by
              have e9 : decide ((xl - 1, xc).1 ≠ 0) = true := by simp; omega
              rw [e9] at hwz
              refine ⟨?_, by rw [HS2.out]; exact hwz, HA.out.2.2.1.trans ((fz_st3 wa g k (true, xl - 1, xc)).mono (by rintro b rfl; exact .inr rfl))⟩
              rw [HD2.out]
              exact (fz_st3 wa g k (true, xl - 1, xc)).own HA.out.1 (fun y e e2 => by have h5 := (HA.out.1.lt y e).1; have h6 := HLT.out g (.inr rfl); omega)
            obtain ⟨s1, s2⟩ := st3_ask (x := (true, xl, xc)) (y := (true, xl - 1, xc)) q2 q3
            simp only at s1 s2
            unfold st3 at HF
            simp only at HF
            rw [← hsb] at HF s2
            have hgX : g ≠ X := by have h6 := HLT.out g (.inr rfl); have := HA.out.2.2.2.2.1; omega
            clear HS HD hx hmx hwz HS2 HD2 hO hsb HA
            go_upto_region 14 with (first | fail)
            go_region
            all_goals
              go_wp2
              go_roundw
              case rel => exact ⟨k + 1, _, by omega, by go_num, rfl, own_below HF.out.1 (Below.refl _ _).drew, HF.out.2.1.below (Below.refl _ _).drew, HF.out.2.2.trans (Fz.of_below (Below.refl _ _).drew)⟩
              case measure => simp [intOf]; omega
      · obtain rfl : k = al.length := by omega
        have hge : ¬ ((al.length : Int) < al.length) := by omega
        obtain ⟨a6, c6, hv⟩ := own_sl HJ.out.2.1.p
        rw [mixL_len] at hv
        subst hv
        go_wp2
        go_ret
        refine ⟨_, rfl, ?_, ?_, ?_⟩
        · have := HJ.out.1
          rw [List.take_of_length_le (Nat.le_refl _)] at this
          exact this
        · have := HJ.out.2.1
          rw [mixL_all] at this
          exact this
        · exact HJ.out.2.2
end
end Go.Proofs.Ytpoekphebmonnab
