import Derived.Test.YtckmdkdhnhkdhaaZlt
namespace Go.Proofs.Ytckmdkdhnhkdhaa
open Go.RowKit
set_option linter.unusedVariables false
set_option linter.unusedSimpArgs false

/-! ### StackPairs: the walk -/
set_option maxHeartbeats 16000000 in
set_option maxRecDepth 100000 in
theorem pairs_ok (W : World) (n : Nat) (hn : n ≤ 1024) (s1 : Sl) (ths : List Pa) (h1 : RowsAt W 2 pairP s1 ths) (hl1 : ths.length ≤ 17592186043904) (s2 : Sl) (acts : List (Int × Int)) (h2 : RowsAt W 2 actP s2 acts) (hl2 : acts.length ≤ 17592186043904) : Calls Try.prog 4 #[I n, .slice s1.a s1.n s1.c, .slice s2.a s2.n s2.c] W fun e w' => e = .returned (.bool true) ∧ Below W.heap.size W w' := by
  obtain ⟨a1, n1, c1⟩ := s1
  obtain ⟨a2, n2, c2⟩ := s2
  have hn1 := h1.n
  have hn2 := h2.n
  simp only at hn1 hn2
  subst hn1
  subst hn2
  have N1 := pNew_ok W n hn
  by_cases h0 : ths.length = 0
  · have h0b : ((ths.length : Int) == 0) = true := by simp [h0]
    go_enter Try.func4, Try.ntmps4
    go_wp2_with (first
      | (go_at_call 11; refine (num_any _ (by decide) _).mono ?_; rintro e w9 ⟨rfl, rfl⟩)
      | (go_at_call 17; refine N1.mono ?_; clear N1; rintro e w1 ⟨rfl, q1, b1⟩)
      | (go_at_call 18; refine (dNew_ok w1 n hn).mono ?_; rintro e w2 ⟨rfl, d2, b2⟩; have b3 := b1.trans (b2.mono b1.size))
      | (go_at_call 16; refine (alive_any _).mono ?_; rintro e w8 ⟨rfl, b8⟩))
    go_ret
    exact ⟨rfl, b3.trans (b8.mono b3.size)⟩
  · have h0b : ((ths.length : Int) == 0) = false := by rw [beq_eq_false_iff_ne]; omega
    have hpos : 0 < ths.length := by omega
    go_enter Try.func4, Try.ntmps4
    go_wp2_with (first
      | (go_at_call 11; refine (num_any _ (by decide) _).mono ?_; rintro e w9 ⟨rfl, rfl⟩)
      | (go_at_call 17; refine N1.mono ?_; clear N1; rintro e w1 ⟨rfl, q1, b1⟩)
      | (go_at_call 18; refine (dNew_ok w1 n hn).mono ?_; rintro e w2 ⟨rfl, d2, b2⟩; have HI : Hid (LtI W w2 ths (W.heap.size + 1) W.heap.size w1.heap.size n 0 0 (.slice none 0 0) [] []) := ⟨⟨_, q1.below b2⟩, d2, (fun k hk => by cases hk), b1.trans (b2.mono b1.size), by omega, Nat.le_refl _, (fun b hb => by have := b1.size; rcases hb with e | e; omega; cases e)⟩; clear q1 d2 b1 b2))
    go_loopw [11] (fun vi wr => ∃ (i hi : Nat) (v : Value) (ks : List Nat), i ≤ acts.length ∧ vi = .int .i64 i ∧ Hid (LtI W wr ths (W.heap.size + 1) W.heap.size w1.heap.size n hi hi v ks ks)) (fun vi _ => acts.length - (intOf vi).toNat)
    case atStart => exact ⟨0, _, _, _, by omega, rfl, HI.out⟩
    case round =>
      clear HI
      obtain ⟨i, hi, v, ks, hi1, rfl, HJ⟩ := hrel
      have c0 := HJ.out.d.cells.1
      by_cases hlt : i < acts.length
      · obtain ⟨⟨kd, vv⟩, hx⟩ : ∃ x, acts[i]? = some x := ⟨_, List.getElem?_eq_getElem hlt⟩
        have hltI : (i : Int) < acts.length := by omega
        have hi0 : ¬ (i : Int) < 0 := by omega
        obtain ⟨ga, off, rfl, hcx⟩ := acts_cell h2 hx
        have HX : Hid (∀ Z, Below W.heap.size W Z → Z.cell? ⟨ga, off + i * 2, none⟩ = some (I kd) ∧ Z.cell? ⟨ga, off + i * 2 + 1, none⟩ = some (I vv)) := hcx
        clear hcx hx
        obtain ⟨x0, x1⟩ := HX.out wr HJ.out.b
        have hPl := place_any W wr a1 c1 ths h1 hl1 hpos HJ.out.b vv
        go_upto_region 9 with (first
          | (go_at_call 19; refine hPl.mono ?_; clear hPl; rintro e w3 ⟨k, rfl, hk, b3⟩))
        have J3 := HJ.out.below b3
        obtain ⟨y0, y1⟩ := HX.out w3 J3.b
        have hkl := hk.lt
        have hkI : (k : Int) < ths.length := by omega
        have hk0 : ¬ (k : Int) < 0 := by omega
        obtain ⟨gp, op, rfl, hcp⟩ := pairs_cell h1 hk.at
        have HT : Hid (∀ (j : Nat), Canon ths j → ∀ Z, Below W.heap.size W Z → Z.cell? ⟨gp, op + j * 2, none⟩ = some (I (thg ths j).1) ∧ Z.cell? ⟨gp, op + j * 2 + 1, none⟩ = some (.string (thg ths j).2)) := fun j hj Z hZ => by
          obtain ⟨gp', op', ea, hc'⟩ := pairs_cell h1 hj.at
          cases ea
          exact hc' Z hZ
        obtain ⟨t0, t1⟩ := HT.out k hk w3 J3.b
        have HK : Hid (Canon ths k) := hk
        have HJ3 : Hid (LtI W w3 ths (W.heap.size + 1) W.heap.size w1.heap.size n hi hi v ks ks) := J3
        clear hcp HJ b3 x0 x1 c0 hk J3
        by_cases e1 : kd = 1
        · subst e1
          obtain ⟨c, hi', ks', hcb, R1, R2⟩ := pairsPush HJ3.out HK.out
          have R1 := R1 w3 (Below.refl _ _)
          generalize thg ths k = tk at t0 t1 R1
          obtain ⟨ta, tb⟩ := tk
          dsimp only at t0 t1
          go_wp2_with (first
            | (go_at_call 11; refine (num_any _ hcb _).mono ?_; rintro e w9 ⟨rfl, rfl⟩)
            | (go_at_call 20; refine R1.mono ?_; clear R1; rintro e w4 ⟨rfl, J4⟩)
            | (go_at_call 21; refine (R2 _ J4).mono ?_; clear R2; rintro e w5 ⟨rfl, v', J5⟩; have HJ5 : Hid (LtI W w5 ths (W.heap.size + 1) W.heap.size w1.heap.size n hi' hi' v' ks' ks') := J5; clear J4 J5))
          go_roundw
          case rel => exact ⟨i + 1, _, _, _, by omega, by go_num, HJ5.out⟩
          case measure => simp [intOf]; omega
        · by_cases e2 : kd = 2
          · subst e2
            rcases snoc_pairs ks with hks | ⟨t, j, hks⟩
            · subst hks
              obtain ⟨R1, R2⟩ := pairsPopN HJ3.out
              have R1 := R1 w3 (Below.refl _ _)
              go_wp2_with (first
                | (go_at_call 22; refine R1.mono ?_; clear R1; rintro e w4 ⟨rfl, J4⟩; have J4b := J4.below (below_alloc w4 (.cells #[I 0, .string ⟨#[]⟩] 42)); have hBx := heap_alloc_new w4 (.cells #[I 0, .string ⟨#[]⟩] 42); have hDl := J4.d.lt; clear J4)
                | (go_at_call 23; refine (R2 _ J4b).mono ?_; clear R2; rintro e w5 ⟨rfl, J5, f5⟩; have hB5 := f5.heap hBx (fun e => by have := hDl _ e; omega); clear hBx hDl f5 J4b))
              have b0 : w5.cell? ⟨w4.heap.size, 0, none⟩ = some (I 0) := by rw [cell_of_row w5 _ _ _ _ (0, 0) hB5]; rfl
              have b1 : w5.cell? ⟨w4.heap.size, 1, none⟩ = some (.string ⟨#[]⟩) := by rw [cell_of_row w5 _ _ _ _ (0, 0) hB5]; rfl
              have hNq := fun q => (num_any 142 (by decide) (w5.drewN q)).mono (R' := fun e w' => e = .returned (I 142) ∧ w' = w5.drewN q) (fun e w' k => ⟨k.1, k.2.symm⟩)
              clear hB5 y0 y1
              go_quiet ((go_at_call 11; exact Calls.quiet_of_same (hNq _)))
              have HJ9 : Hid (LtI W (w5.drewN nq) ths (W.heap.size + 1) W.heap.size w1.heap.size n hi hi v [] []) := J5.below (below_drewN nq (Below.refl _ _))
              clear b0 b1 hNq J5 t0 t1
              generalize w5.drewN nq = w9 at *
              go_wp2
              go_roundw
              case rel => exact ⟨i + 1, _, _, _, by omega, by go_num, HJ9.out⟩
              case measure => simp [intOf]; omega
            · subst hks
              obtain ⟨R1, R2⟩ := pairsPop HJ3.out
              have R1 := R1 w3 (Below.refl _ _)
              have hjc : Canon ths j := HJ3.out.c j (by simp)
              have hjl := hjc.lt
              have hjI : (j : Int) < ths.length := by omega
              have hj0 : ¬ (j : Int) < 0 := by omega
              have HTJ : Hid (∀ Z, Below W.heap.size W Z → Z.cell? ⟨gp, op + j * 2, none⟩ = some (I (thg ths j).1) ∧ Z.cell? ⟨gp, op + j * 2 + 1, none⟩ = some (.string (thg ths j).2)) := HT.out j hjc
              clear t0 t1
              generalize thg ths j = tj at HTJ R1
              obtain ⟨ta, tb⟩ := tj
              go_wp2_with (first
                | (go_at_call 22; refine R1.mono ?_; clear R1; rintro e w4 ⟨rfl, J4⟩; have J4b := J4.below (below_alloc w4 (.cells #[I ta, .string tb] 42)); have hBx := heap_alloc_new w4 (.cells #[I ta, .string tb] 42); have hDl := J4.d.lt; clear J4)
                | (go_at_call 23; refine (R2 _ J4b).mono ?_; clear R2; rintro e w5 ⟨rfl, J5, f5⟩; have hB5 := f5.heap hBx (fun e => by have := hDl _ e; omega); clear hBx hDl f5 J4b))
              have b0 : w5.cell? ⟨w4.heap.size, 0, none⟩ = some (I ta) := by rw [cell_of_row w5 _ _ _ _ (0, 0) hB5]; rfl
              have b1 : w5.cell? ⟨w4.heap.size, 1, none⟩ = some (.string tb) := by rw [cell_of_row w5 _ _ _ _ (0, 0) hB5]; rfl
              obtain ⟨v', J5⟩ := J5
              obtain ⟨t0, t1⟩ := HTJ.out w5 J5.b
              try dsimp only at t0 t1
              have hNq := fun q => (num_any 0 (by decide) (w5.drewN q)).mono (R' := fun e w' => e = .returned (I 0) ∧ w' = w5.drewN q) (fun e w' k => ⟨k.1, k.2.symm⟩)
              clear hB5 y0 y1
              go_quiet ((go_at_call 11; exact Calls.quiet_of_same (hNq _)))
              have HJ9 : Hid (LtI W (w5.drewN nq) ths (W.heap.size + 1) W.heap.size w1.heap.size n hi hi v' t t) := J5.below (below_drewN nq (Below.refl _ _))
              clear b0 b1 hNq J5 t0 t1
              generalize w5.drewN nq = w9 at *
              go_wp2
              go_roundw
              case rel => exact ⟨i + 1, _, _, _, by omega, by go_num, HJ9.out⟩
              case measure => simp [intOf]; omega
          · by_cases e3 : kd = 3
            · subst e3
              obtain ⟨r, R1, R2⟩ := pairsFind HJ3.out HK.out
              have R1 := R1 w3 (Below.refl _ _)
              generalize thg ths k = tk at t0 t1 R1
              obtain ⟨ta, tb⟩ := tk
              dsimp only at t0 t1
              obtain ⟨rk, rb⟩ := r
              dsimp only at R1 R2
              go_wp2_with (first
                | (go_at_call 24; refine R1.mono ?_; clear R1; rintro e w4 ⟨rfl, b4⟩)
                | (go_at_call 25; refine (R2 _ b4).mono ?_; clear R2; rintro e w5 ⟨rfl, b5⟩; have HJ5 : Hid (LtI W w5 ths (W.heap.size + 1) W.heap.size w1.heap.size n hi hi v ks ks) := HJ3.out.below (b4.trans (b5.mono b4.size)); clear b5))
              go_roundw
              case rel => exact ⟨i + 1, _, _, _, by omega, by go_num, HJ5.out⟩
              case measure => simp [intOf]; omega
            · go_wp2
              go_roundw
              case rel => exact ⟨i + 1, _, _, _, by omega, by go_num, HJ3.out⟩
              case measure => simp [intOf]; omega
      · obtain rfl : i = acts.length := by omega
        have hge : ¬ ((acts.length : Int) < acts.length) := by omega
        have J := HJ.out
        go_wp2_with (first
          | (go_at_call 16; refine (alive_any _).mono ?_; rintro e w8 ⟨rfl, b8⟩))
        go_ret
        exact ⟨rfl, J.b.trans (b8.mono J.b.size)⟩
theorem pairs_any (W : World) (dp : Int) (_ : (Lit.int .i64 dp).wf = true) (s1 : Sl) (ths : List Pa) (h1 : RowsAt W 2 pairP s1 ths) (hl1 : ths.length ≤ 17592186043904) (s2 : Sl) (acts : List (Int × Int)) (h2 : RowsAt W 2 actP s2 acts) (hl2 : acts.length ≤ 17592186043904) : Calls Try.prog 4 #[I dp, .slice s1.a s1.n s1.c, .slice s2.a s2.n s2.c] W fun e w' => e = .returned (.bool true) ∧ Below W.heap.size W w' := by
  by_cases hr : dp < 0 ∨ 1024 < dp
  · exact pairs_no W dp hr s1 ths h1.n s2.a s2.n s2.c (by rw [h2.n]; exact hl2)
  · obtain ⟨n, rfl⟩ := Int.eq_ofNat_of_zero_le (a := dp) (by omega)
    exact pairs_ok W n (by omega) s1 ths h1 hl1 s2 acts h2 hl2
end Go.Proofs.Ytckmdkdhnhkdhaa
