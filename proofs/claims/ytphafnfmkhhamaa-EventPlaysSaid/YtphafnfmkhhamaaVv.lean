import Derived.Test.YtphafnfmkhhamaaVu
namespace Go.Proofs.Ytphafnfmkhhamaa
open Go.RowKit
set_option linter.unusedVariables false
set_option linter.unusedSimpArgs false

theorem own_put {w : World} {b g n c i : Nat} {l : List Int} {v : Int} (h : w.ownsRow b 22 1 (.slice (some ⟨g, 0, none⟩) n c) n (rM l)) : (w.setCell ⟨g, i, none⟩ (U v)).ownsRow b 22 1 (.slice (some ⟨g, 0, none⟩) n c) n (rM (l.set i v)) := by
  have := (h.stored i (U v)).1
  rw [show rM (l.set i v) = (rM l).set i (U v) by simp [rM, List.map_set]]
  exact this
set_option maxHeartbeats 16000000 in
set_option maxRecDepth 100000 in
theorem plays_ok (W : World) (s : Sl) (l : List Int) (h : RowsAt W 1 u32P s l) (hl : l.length ≤ 256) (s2 : Sl) (calls : List (Int × Int × Int)) (h2 : RowsAt W 3 callP s2 calls) (hl2 : calls.length ≤ 5864062014805) : Calls Try.prog 5 #[.slice s.a s.n s.c, .slice s2.a s2.n s2.c] W fun e w' => e = .returned (.bool true) ∧ Below W.heap.size W w' := by
  obtain ⟨a1, n1, c1⟩ := s
  have hn1 := h.n
  simp only at hn1
  subst hn1
  obtain ⟨a3, n3, c3⟩ := s2
  have hn3 := h2.n
  simp only at hn3
  subst hn3
  have hM := msk_of h
  have hm := hM.below (below_alloc W (.cells #[] 22))
  have hz := rows_nil h
  have bA := below_alloc W (.cells #[] 22)
  have oA : (W.alloc (.cells #[] 22)).ownsRow W.heap.size 22 1 (.slice (some ⟨W.heap.size, 0, none⟩) 0 0) 0 [] := World.ownsRow_lit W #[] 0 (Nat.le_refl _) (Nat.zero_le _) rfl
  have zA : W.heap.size ≤ (W.alloc (.cells #[] 22)).heap.size := by simp
  clear h
  go_enter Try.func5, Try.ntmps5
  go_wp2_with (first | (at_builtin; refine wpList_append_msk rfl (.tmp 32) (.tmp 33) rfl W.heap.size (.slice (some ⟨W.heap.size, 0, none⟩) 0 0) rfl oA a1 l c1 rfl hz (by omega) hm zA ?_))
  intro v2 w1 o2 g2
  obtain ⟨a2, k2, rfl⟩ := own_sl o2
  have b1 : Below W.heap.size W w1 := bA.grown g2 zA (fun k e => (oA.lt k e).1)
  clear g2 hm oA bA
  have hN := New_ok w1 a2 k2 l hl (msk_own o2)
  have hZ : ∀ z, z ∈ (Value.slice a2 l.length k2).ownBlock.toList → z < w1.heap.size ∧ W.heap.size ≤ z := fun z e => by
    have e2 : (Value.slice a2 l.length k2).ownBlock = some z := by simpa using e
    exact ⟨(o2.lt z e2).2, (o2.lt z e2).1⟩
  generalize hZZ : (Value.slice a2 l.length k2).ownBlock.toList = Z at *
  have HZZ : Hid ((Value.slice a2 l.length k2).ownBlock.toList = Z) := hZZ
  clear hZZ
  have HO : Hid (w1.ownsRow W.heap.size 22 1 (.slice a2 l.length k2) l.length (rM l)) := o2
  clear o2
  go_wp2_with (first
    | (go_at_call 6; refine hN.mono ?_; clear hN; rintro e w2 ⟨rfl, E2, b2⟩)
    | (go_at_call 15; refine (dNew_ok w2 a1 c1 l hl hz ((hM.below b1).below b2)).mono ?_; rintro e w3 ⟨rfl, ⟨vm, vo, vw, vs, H3, k3⟩, b3⟩)
    | (go_at_call 7; refine (heads_any _).mono ?_; rintro e w4 ⟨rfl, b4⟩))
  have HP : Hid (w4.ownsRow W.heap.size 22 1 (.slice a2 l.length k2) l.length (rM l) ∧ PlZ W w4 l w1.heap.size w2.heap.size (tsk l) (tsk l) Z) := ⟨own_below (own_below (own_below HO.out b2) b3) b4, PlZ.new b1 E2 b2 H3 k3 b3 b4 (fun z e => (hZ z e).1)⟩
  have HW : Hid (∀ z, z ∈ Z → W.heap.size ≤ z) := fun z e => (hZ z e).2
  clear HO E2 b2 H3 k3 b3 b4 hZ b1 hM hz zA
  generalize w1.heap.size = B at *
  generalize w2.heap.size = D at *
  go_loopw [10] (fun v10 wr => ∃ (i : Nat) (l2 : List Int), i ≤ l.length ∧ v10 = .int .i64 i ∧ Hid (l2.length = l.length ∧ wr.ownsRow W.heap.size 22 1 (.slice a2 l.length k2) l.length (rM l2) ∧ PlZ W wr l B D (tsk l) (tsk l) Z)) (fun v10 _ => l.length - (intOf v10).toNat)
  case atStart => exact ⟨0, l, by omega, rfl, rfl, HP.out⟩
  case round =>
    clear HP
    obtain ⟨i, l2, hi1, rfl, HJ⟩ := hrel
    by_cases hlt : i < l.length
    · have hltI : (i : Int) < l.length := by omega
      obtain ⟨q1, q2, q3⟩ := HJ.out
      obtain ⟨y, hy⟩ : ∃ y, l2[i]? = some y := ⟨_, List.getElem?_eq_getElem (by omega)⟩
      obtain ⟨g, c, e⟩ : ∃ g c, Value.slice a2 l.length k2 = .slice (some ⟨g, 0, none⟩) l.length c := by
        rcases q2.2 with ⟨_, h0⟩ | ⟨g, cap, cur, h1, _⟩
        · omega
        · exact ⟨g, cap, h1⟩
      cases e
      have hg : g ∈ Z := by rw [← HZZ.out]; simp [Value.ownBlock]
      have cy : wr.cell? ⟨g, i, none⟩ = some (U y) := by rw [q2.cellAt i (by omega)]; simp [rM, hy]
      have fy := q2.frozenAt i
      have HK : Hid (∀ v : Int, (l2.set i v).length = l.length ∧ (wr.setCell ⟨g, i, none⟩ (U v)).ownsRow W.heap.size 22 1 (.slice (some ⟨g, 0, none⟩) l.length k2) l.length (rM (l2.set i v)) ∧ PlZ W (wr.setCell ⟨g, i, none⟩ (U v)) l B D (tsk l) (tsk l) Z) := fun v =>
        ⟨by simpa using q1, own_put q2, q3.old hg (HW.out g hg) ((Fx.refl [g] wr).set (.inl (by simp)) i (U v))⟩
      clear HJ q1 q2 q3 hy
      go_wp2
      go_roundw
      case rel => exact ⟨i + 1, _, by omega, by go_num, HK.out _⟩
      case measure => simp [intOf]; omega
    · obtain rfl : i = l.length := by omega
      have hge : ¬ ((l.length : Int) < l.length) := by omega
      have HP : Hid (PlZ W wr l B D (tsk l) (tsk l) []) := HJ.out.2.2.weak
      clear HJ HW HZZ
      generalize tsk l = f at *
      go_wp2
      go_loopw [6, 8, 11] (fun v6 v8 v11 wr => ∃ (i B D : Nat) (f : Nat → Et), i ≤ calls.length ∧ v6 = eP B ∧ v8 = dP D ∧ v11 = .int .i64 i ∧ Hid (PlZ W wr l B D f f [])) (fun _ _ v11 _ => calls.length - (intOf v11).toNat)
      case atStart => exact ⟨0, B, D, f, by omega, rfl, rfl, rfl, HP.out⟩
      case round =>
        clear HP
        obtain ⟨i, B, D, f, hi1, rfl, rfl, rfl, HJ⟩ := hrel
        by_cases hlt : i < calls.length
        · obtain ⟨⟨kd, tk, m⟩, hx⟩ : ∃ x, calls[i]? = some x := ⟨_, List.getElem?_eq_getElem hlt⟩
          have hltI : (i : Int) < calls.length := by omega
          obtain ⟨ga, off, rfl, hcx⟩ := calls_cell h2 hx
          obtain ⟨x0, x1, x2⟩ := hcx wr HJ.out.b
          clear hcx hx
          go_upto_block 4 with fail
          clear x0 x1 x2
          have HJ0 : Hid (PlZ W (wr.alloc (.cells #[I kd, I tk, U m] 34)) l B D f f [wr.heap.size]) := HJ.out.alloc _
          have y0 : (wr.alloc (.cells #[I kd, I tk, U m] 34)).cell? ⟨wr.heap.size, 0, none⟩ = some (I kd) := by rw [cell_of_row _ _ _ _ _ (0, 0) (heap_alloc_new wr _)]; rfl
          have y1 : (wr.alloc (.cells #[I kd, I tk, U m] 34)).cell? ⟨wr.heap.size, 1, none⟩ = some (I tk) := by rw [cell_of_row _ _ _ _ _ (0, 0) (heap_alloc_new wr _)]; rfl
          have y2 : (wr.alloc (.cells #[I kd, I tk, U m] 34)).cell? ⟨wr.heap.size, 2, none⟩ = some (U m) := by rw [cell_of_row _ _ _ _ _ (0, 0) (heap_alloc_new wr _)]; rfl
          clear HJ
          generalize wr.heap.size = X at *
          generalize (wr.alloc (.cells #[I kd, I tk, U m] 34)) = wx at *
          go_cut [6, 8] from 75 to 267 (fun s6 s8 wy => ∃ (B D : Nat) (f : Nat → Et), s6 = eP B ∧ s8 = dP D ∧ Hid (PlZ W wy l B D f f []))
          case first =>
            by_cases k1 : kd = 1
            · subst k1
              as_aux_lemma =>
                go_wp2_with (first
                  | (go_at_call 8; refine (xSet HJ0.out tk m).mono ?_; rintro e w1 ⟨rfl, P1, K1⟩; have HP1 : Hid (PlZ W w1 l B D _ _ [X]) := P1; have z1 := K1.cell (List.mem_singleton.2 rfl) y1; have z2 := K1.cell (List.mem_singleton.2 rfl) y2; clear P1 K1 y0 y1 y2)
                  | (go_at_call 16; refine (ySet HP1.out tk m).mono ?_; rintro e w2 ⟨rfl, P2, K2⟩; have HP2 : Hid (PlZ W w2 l B D _ _ []) := P2.weak; clear P2 K2 HP1))
                go_meet
                case rel => exact ⟨B, D, _, rfl, rfl, HP2.out⟩
            by_cases k2 : kd = 2
            · subst k2
              as_aux_lemma =>
                have HJ1 : Hid (PlZ W wx.drew l B D f f [X]) := HJ0.out.below (Below.refl _ _).drew
                have yd1 : wx.drew.cell? ⟨X, 1, none⟩ = some (I tk) := y1
                have yd2 : wx.drew.cell? ⟨X, 2, none⟩ = some (U m) := y2
                clear HJ0
                go_wp2
                go_region_held_law (fun w' => w'.cell? ⟨X, 1, none⟩ = some (I tk) ∧ w'.cell? ⟨X, 2, none⟩ = some (U m)) (first | exact ⟨y1, y2⟩ | exact ⟨v1, v2⟩ | exact ⟨z1, z2⟩ | (go_keep; done)) (first
                  | (go_at_call 9; refine (xClear HJ1.out tk m).mono ?_; rintro e w1 ⟨rfl, P1, K1⟩; have HP1 : Hid (PlZ W w1 l B D _ _ [X]) := P1; have z1 := K1.cell (List.mem_singleton.2 rfl) yd1; have z2 := K1.cell (List.mem_singleton.2 rfl) yd2; clear P1 K1)
                  | (go_at_call 17; refine (yClear HP1.out tk m).mono ?_; rintro e w2 ⟨rfl, P2, K2⟩; have v1 := K2.cell (List.mem_singleton.2 rfl) z1; have v2 := K2.cell (List.mem_singleton.2 rfl) z2; have HP2 : Hid (PlZ W w2 l B D _ _ []) := P2.weak; clear P2 K2))
                all_goals
                  go_wp2
                  go_meet
                  case rel => exact ⟨B, D, _, rfl, rfl, HP2.out⟩
            by_cases k3 : kd = 3
            · subst k3
              as_aux_lemma =>
                go_wp2_with (first
                  | (go_at_call 12; refine (xGet HJ0.out tk).mono ?_; rintro e w1 ⟨rfl, rfl⟩)
                  | (go_at_call 18; refine (yGet HJ0.out tk).mono ?_; rintro e w2 ⟨rfl, rfl⟩))
                go_meet
                case rel => exact ⟨B, D, _, rfl, rfl, HJ0.out.weak⟩
            by_cases k4 : kd = 4
            · subst k4
              as_aux_lemma =>
                go_wp2_with (first
                  | (go_at_call 10; refine (xWait HJ0.out tk m).mono ?_; rintro e w1 ⟨rfl, P1, K1⟩; have HP1 : Hid (PlZ W w1 l B D _ _ [X]) := P1; have z1 := K1.cell (List.mem_singleton.2 rfl) y1; have z2 := K1.cell (List.mem_singleton.2 rfl) y2; clear P1 K1 y0 y1 y2)
                  | (go_at_call 19; refine (yWait HP1.out tk m).mono ?_; rintro e w2 ⟨rfl, P2, K2⟩; have HP2 : Hid (PlZ W w2 l B D _ _ []) := P2.weak; clear P2 K2 HP1))
                go_meet
                case rel => exact ⟨B, D, _, rfl, rfl, HP2.out⟩
            by_cases k5 : kd = 5
            · subst k5
              as_aux_lemma =>
                have HJ1 : Hid (PlZ W wx.drew l B D f f [X]) := HJ0.out.below (Below.refl _ _).drew
                go_wp2
                go_region_held_law (fun w' => w'.cell? ⟨X, 1, none⟩ = some (I tk)) (first | exact y1 | (go_keep; done)) (first
                  | (go_at_call 13; refine (xWaits HJ1.out tk).mono ?_; rintro e w1 ⟨rfl, rfl⟩)
                  | (go_at_call 20; refine (yWaits HJ1.out tk).mono ?_; rintro e w2 ⟨rfl, rfl⟩))
                all_goals
                  go_wp2
                  go_meet
                  case rel => exact ⟨B, D, _, rfl, rfl, HJ1.out.weak⟩
            by_cases k6 : kd = 6
            · subst k6
              as_aux_lemma =>
                have HJ1 : Hid (PlZ W wx.drew l B D f f [X]) := HJ0.out.below (Below.refl _ _).drew
                have yd1 : wx.drew.cell? ⟨X, 1, none⟩ = some (I tk) := y1
                have yd2 : wx.drew.cell? ⟨X, 2, none⟩ = some (U m) := y2
                clear HJ0
                go_wp2
                go_region_held_law (fun w' => w'.cell? ⟨X, 1, none⟩ = some (I tk) ∧ w'.cell? ⟨X, 2, none⟩ = some (U m)) (first | exact ⟨y1, y2⟩ | exact ⟨v1, v2⟩ | exact ⟨z1, z2⟩ | (go_keep; done)) (first
                  | (go_at_call 11; refine (xFresh HJ1.out tk).mono ?_; rintro e w1 ⟨rfl, P1, K1⟩; have HP1 : Hid (PlZ W w1 l B D _ _ [X]) := P1; have z1 := K1.cell (List.mem_singleton.2 rfl) yd1; have z2 := K1.cell (List.mem_singleton.2 rfl) yd2; clear P1 K1)
                  | (go_at_call 21; refine (yFresh HP1.out tk).mono ?_; rintro e w2 ⟨rfl, P2, K2⟩; have v1 := K2.cell (List.mem_singleton.2 rfl) z1; have v2 := K2.cell (List.mem_singleton.2 rfl) z2; have HP2 : Hid (PlZ W w2 l B D _ _ []) := P2.weak; clear P2 K2))
                all_goals
                  go_wp2
                  go_meet
                  case rel => exact ⟨B, D, _, rfl, rfl, HP2.out⟩
            by_cases k7 : kd = 7
            · subst k7
              as_aux_lemma =>
                have hzz := HJ0.out.e.z
                go_wp2_with (first
                  | (go_at_call 22; refine (xReset HJ0.out).mono ?_; rintro e w1 ⟨rfl, P1, K1⟩; have HP1 : Hid (PlZ W w1 l B D _ _ [X]) := P1; clear P1 K1 y0 y1 y2)
                  | (go_at_call 23; refine (yReset HP1.out hzz).mono ?_; rintro e w2 ⟨rfl, P2, K2⟩; have HP2 : Hid (PlZ W w2 l B D _ _ []) := P2.weak; clear P2 K2 HP1 hzz))
                go_meet
                case rel => exact ⟨B, D, _, rfl, rfl, HP2.out⟩
            by_cases k8 : kd = 8
            · subst k8
              as_aux_lemma =>
                have hXne : Hid (X ≠ B) := fun e => HJ0.out.k.2 (by rw [e]; simp)
                have hWB : Hid (W.heap.size ≤ B) := HJ0.out.k.1
                go_wp2_with (first
                  | (go_at_call 24; refine (xCopy HJ0.out).mono ?_; rintro e w1 ⟨rfl, ⟨P1, O1⟩, K1⟩; have HP1 : Hid (PlZ W w1 l wx.heap.size D f f [B, X] ∧ Ev w1 B l.length f) := ⟨P1, O1⟩; have z1 := K1.cell (List.mem_singleton.2 rfl) y1; have z2 := K1.cell (List.mem_singleton.2 rfl) y2; clear P1 O1 K1 y0 y1 y2 HJ0)
                  | (go_at_call 25; refine (yCopy HP1.out.1).mono ?_; rintro e w2 ⟨rfl, P2, K2⟩; have HP2 : Hid (PlZ W w2 l wx.heap.size w1.heap.size f f [B, X] ∧ Ev w2 B l.length f) := ⟨P2, HP1.out.2.ofBlock (K2 B (by simp))⟩; have v1 := K2.cell (X := X) (by simp) z1; have v2 := K2.cell (X := X) (by simp) z2; clear P2 K2 HP1 z1 z2)
                  | (go_at_call 8; refine (oSet HP2.out.1 (O := B) (by simp) hWB.out HP2.out.2 tk m).mono ?_; rintro e w3 ⟨⟨b3, s3, rfl⟩, ⟨P3, fo, O3⟩, F3⟩; have HP3 : Hid (PlZ W w3 l wx.heap.size w1.heap.size f f [B, X] ∧ Ev w3 B l.length fo) := ⟨P3, O3⟩; have hXB : X ∉ [B] := (by simp; intro e; exact hXne.out e); have u1 := F3.cell v1 hXB; have u2 := F3.cell v2 hXB; clear P3 O3 F3 HP2 v1 v2)
                  | (go_at_call 10; refine (oWait HP3.out.1 (O := B) (by simp) hWB.out HP3.out.2 tk m).mono ?_; rintro e w4 ⟨⟨b4, s4, rfl⟩, ⟨P4, fo4, O4⟩, F4⟩; have HP4 : Hid (PlZ W w4 l wx.heap.size w1.heap.size f f []) := P4.weak; clear P4 O4 F4 HP3))
                go_meet
                case rel => exact ⟨_, _, _, rfl, rfl, HP4.out⟩
            · go_wp2
              go_meet
              case rel => exact ⟨B, D, _, rfl, rfl, HJ0.out.weak⟩
          clear HJ0 y0 y1 y2
          obtain ⟨B, D, f, rfl, rfl, HQ⟩ := hcut
          as_aux_lemma =>
            go_wp2
            go_loopw [27] (fun v27 wr => ∃ k : Nat, k ≤ l.length ∧ v27 = .int .i64 k ∧ Hid (PlZ W wr l B D f f [])) (fun v27 _ => l.length - (intOf v27).toNat)
            case atStart => exact ⟨0, by omega, rfl, HQ.out⟩
            case round =>
              clear HQ
              obtain ⟨k, hk1, rfl, HK⟩ := hrel
              by_cases hkl : k < l.length
              · have hkI : (k : Int) < l.length := by omega
                go_wp2_with (first
                  | (go_at_call 12; refine (xGet HK.out k).mono ?_; rintro e w1 ⟨rfl, rfl⟩)
                  | (go_at_call 18; refine (yGet HK.out k).mono ?_; rintro e w1 ⟨rfl, rfl⟩)
                  | (go_at_call 13; refine (xWaits HK.out k).mono ?_; rintro e w1 ⟨rfl, rfl⟩)
                  | (go_at_call 20; refine (yWaits HK.out k).mono ?_; rintro e w1 ⟨rfl, rfl⟩))
                go_roundw
                case rel => exact ⟨k + 1, by omega, by go_num, HK.out⟩
                case measure => simp [intOf]; omega
              · obtain rfl : k = l.length := by omega
                have hge2 : ¬ ((l.length : Int) < l.length) := by omega
                go_wp2
                go_roundw
                case rel => exact ⟨i + 1, B, D, f, by omega, rfl, rfl, by go_num, HK.out⟩
                case measure => simp [intOf]; omega
        · obtain rfl : i = calls.length := by omega
          have hge : ¬ ((calls.length : Int) < calls.length) := by omega
          go_wp2
          go_ret
          exact ⟨rfl, HJ.out.b⟩
theorem plays_law (W : World) (s : Sl) (l : List Int) (h : RowsAt W 1 u32P s l) (hl : l.length ≤ 35184372088000) (s2 : Sl) (calls : List (Int × Int × Int)) (h2 : RowsAt W 3 callP s2 calls) (hl2 : calls.length ≤ 5864062014805) : Calls Try.prog 5 #[.slice s.a s.n s.c, .slice s2.a s2.n s2.c] W fun e w' => e = .returned (.bool true) ∧ Below W.heap.size W w' := by
  by_cases hb : 256 < l.length
  · exact plays_big W s l h hl hb _
  · exact plays_ok W s l h (by omega) s2 calls h2 hl2
end Go.Proofs.Ytphafnfmkhhamaa
