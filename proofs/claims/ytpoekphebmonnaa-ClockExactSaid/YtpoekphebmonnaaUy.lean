import Derived.Test.YtpoekphebmonnaaUx
namespace Go.Proofs.Ytpoekphebmonnaa
open Go.RowKit Go.Shelf Go.Sort
set_option linter.unusedVariables false
set_option linter.unusedSimpArgs false

theorem three_due : dueF 1 0 (List.replicate 3 ((0, 0) : Alm)) = [] := by kernel_rfl
theorem three_map : (List.replicate 3 ((0, 0) : Alm)).map (psA 1) = List.replicate 3 (0, 0) := by kernel_rfl
theorem unt_law {G nw v : Nat} (hn : nw ≤ G) (hv : v ≤ G) : (v + 2 * (G + 1) - nw - 1) % (G + 1) + 1 = untN G nw v := by
  unfold untN
  rw [Nat.min_eq_left hn, Nat.min_eq_left hv]
  by_cases h : nw < v
  · rw [if_pos h, show v + 2 * (G + 1) - nw - 1 = (v - nw - 1) + (G + 1) + (G + 1) by omega, Nat.add_mod_right, Nat.add_mod_right, Nat.mod_eq_of_lt (by omega)]
    omega
  · rw [if_neg h, show v + 2 * (G + 1) - nw - 1 = (G - (nw - v)) + (G + 1) by omega, Nat.add_mod_right, Nat.mod_eq_of_lt (by omega)]
    omega
theorem absd_eq {mx v nw : Nat} (hm : mx ≤ 2147483647) (hv : v < 4294967296) (hn : nw < mx + 1) : IntKind.u64.wrap (((v : Int) + 2 * ((mx : Int) + 1) - nw - 1) % ((mx : Int) + 1) + 1) = (((v + 2 * (mx + 1) - nw - 1) % (mx + 1) + 1 : Nat) : Int) := by
  have h1 : (v : Int) + 2 * ((mx : Int) + 1) - nw - 1 = ((v + 2 * (mx + 1) - nw - 1 : Nat) : Int) := by omega
  have h2 : (v + 2 * (mx + 1) - nw - 1) % (mx + 1) < mx + 1 := Nat.mod_lt _ (by omega)
  rw [h1, show ((mx : Int) + 1) = ((mx + 1 : Nat) : Int) by omega, ← Int.natCast_emod]
  rw [w64 (by omega) (by omega)]
  omega
theorem absd_le {mx v nw : Nat} (hn : nw < mx + 1) (hm : mx ≤ 2147483647) : (v + 2 * (mx + 1) - nw - 1) % (mx + 1) + 1 ≤ 4294967296 := by
  have h2 : (v + 2 * (mx + 1) - nw - 1) % (mx + 1) < mx + 1 := Nat.mod_lt _ (by omega)
  omega
theorem set_three (may : Bool) : setS (List.replicate 3 ((0, 0) : Alm)) 1 may = (if may then 0 else 8) := by cases may <;> kernel_rfl
theorem setA_three (may : Bool) (y : Alm) : (setA (List.replicate 3 ((0, 0) : Alm)) 1 may y).length = 3 ∧ (may = true → (setA (List.replicate 3 ((0, 0) : Alm)) 1 may y)[1]? = some y) ∧ (may = false → setA (List.replicate 3 ((0, 0) : Alm)) 1 may y = List.replicate 3 (0, 0)) := by
  refine ⟨by rw [setA_len]; rfl, fun h => ?_, fun h => ?_⟩
  · subst h; unfold setA; rw [set_three]; rfl
  · subst h; unfold setA; rw [set_three]; rfl
/-- what is left to be shown once the alarm is set -/
structure ExI (W0 wr : World) (B : Nat) (v : Value) (G L d cy T : Nat) : Prop where
  p : ∃ V al, Pk W0 wr B v G L V al [] ∧ al.length = 3 ∧ al[1]? = some (lfA d cy T, cy)
theorem ExI.below {W0 wr w' : World} {B : Nat} {v : Value} {G L d cy T : Nat} (h : ExI W0 wr B v G L d cy T) (hb : Below wr.heap.size wr w') : ExI W0 w' B v G L d cy T := by
  obtain ⟨V, al, p, q⟩ := h.p
  exact ⟨V, al, p.below hb, q⟩
theorem eRel {W0 wr : World} {B : Nat} {v : Value} {G L d cy T : Nat} (h : ExI W0 wr B v G L d cy T) (t : Int) (x y : Nat) (hx : x < 4294967296) (ht : t ≠ 1) : Calls Try.prog 18 #[cP B, I t, U x, U y] wr fun e w' => (∃ s, e = .returned (I s)) ∧ ExI W0 w' B v G L d cy T := by
  obtain ⟨V, al, p, q1, q2⟩ := h.p
  refine (pRel p t x y hx).mono ?_
  rintro e w' ⟨rfl, p1, -⟩
  exact ⟨⟨_, rfl⟩, V, _, p1, by rw [setA_len]; exact q1, by rw [setA_at _ _ _ (j := 1) ht]; exact q2⟩
theorem eAbs {W0 wr : World} {B : Nat} {v : Value} {G L d cy T : Nat} (h : ExI W0 wr B v G L d cy T) (t : Int) (x y : Nat) (hx : x < 4294967296) (ht : t ≠ 1) : Calls Try.prog 17 #[cP B, I t, U x, U y] wr fun e w' => (∃ s, e = .returned (I s)) ∧ ExI W0 w' B v G L d cy T := by
  obtain ⟨V, al, p, q1, q2⟩ := h.p
  refine (pAbs p t x y hx).mono ?_
  rintro e w' ⟨rfl, p1, -⟩
  exact ⟨⟨_, rfl⟩, V, _, p1, by rw [setA_len]; exact q1, by rw [setA_at _ _ _ (j := 1) ht]; exact q2⟩
theorem eCancel {W0 wr : World} {B : Nat} {v : Value} {G L d cy T : Nat} (h : ExI W0 wr B v G L d cy T) (t : Int) (ht : t ≠ 1) : Calls Try.prog 20 #[cP B, I t] wr fun e w' => (∃ s, e = .returned (I s)) ∧ ExI W0 w' B v G L d cy T := by
  obtain ⟨V, al, p, q1, q2⟩ := h.p
  refine (pCancel p t).mono ?_
  rintro e w' ⟨rfl, p1, -⟩
  exact ⟨⟨_, rfl⟩, V, _, p1, by rw [canL_len]; exact q1, by rw [canL_at _ (j := 1) ht]; exact q2⟩
theorem rise_at {l : List Nat} (h : l.Pairwise (· < ·)) {i x y : Nat} (hx : l[i]? = some x) (hy : l[i + 1]? = some y) : x < y := by
  obtain ⟨h1, e1⟩ := List.getElem?_eq_some_iff.1 hx
  obtain ⟨h2, e2⟩ := List.getElem?_eq_some_iff.1 hy
  rw [← e1, ← e2]
  exact List.pairwise_iff_getElem.1 h i (i + 1) h1 h2 (by omega)
theorem eTick {W0 wr : World} {B : Nat} {v : Value} {G L d cy T : Nat} (h : ExI W0 wr B v G L d cy T) : Calls Try.prog 15 #[cP B] wr fun e w' => ∃ (a : Option Addr) (c : Nat) (due : List Nat), e = .returned (.slice a due.length c) ∧ w'.ownsRow wr.heap.size 3 1 (.slice a due.length c) due.length (inL due) ∧ ExI W0 w' B v G L d cy (T + 1) ∧ (∀ x ∈ due, x < 3) ∧ due.Pairwise (· < ·) ∧ due.length ≤ 3 ∧ (1 ∈ due ↔ lfA d cy T = 1) := by
  obtain ⟨V, al, p, q1, q2⟩ := h.p
  refine (pTick p).mono ?_
  rintro e w' ⟨a, c, rfl, o1, p1, -⟩
  refine ⟨a, c, dueF 1 0 al, rfl, o1, ⟨_, _, p1, by rw [List.length_map]; exact q1, ?_⟩, fun x hx => ?_, dueF_rise al 0, by have := dueF_len (t := 1) al 0; omega, due_one q2⟩
  · rw [List.getElem?_map, q2, Option.map_some, lfA_step]
  · obtain ⟨_, y, hy, _⟩ := (dueF_mem al 0 x).1 hx
    have := (List.getElem?_eq_some_iff.1 hy).1
    omega
theorem eLeft {W0 wr : World} {B : Nat} {v : Value} {G L d cy T : Nat} (h : ExI W0 wr B v G L d cy T) : Calls Try.prog 19 #[cP B, I 1] wr fun e w' => (∃ n : Nat, e = .returned (.tuple #[Q n, I (if lfA d cy T = 0 then 5 else 0)])) ∧ wr = w' := by
  obtain ⟨V, al, p, q1, q2⟩ := h.p
  refine (pLeft p 1).mono ?_
  rintro e w' ⟨rfl, rfl⟩
  refine ⟨⟨lftN al 1, ?_⟩, rfl⟩
  rw [show getS al 1 = (if lfA d cy T = 0 then 5 else 0) by
    unfold getS
    rw [if_neg (by omega), show (1 : Int).toNat = 1 from rfl, List.getD_eq_getElem?_getD, q2, Option.getD_some]]
theorem mem_take_more {l : List Nat} {j x : Nat} (hx : l[j]? = some x) : decide (1 ∈ l.take (j + 1)) = (decide (1 ∈ l.take j) || decide (x = 1)) := by
  rw [List.take_add_one, hx, Option.toList_some]
  rw [Bool.eq_iff_iff, Bool.or_eq_true, decide_eq_true_eq, decide_eq_true_eq, decide_eq_true_eq, List.mem_append, List.mem_singleton]
  constructor
  · rintro (h | h)
    · exact .inl h
    · exact .inr h.symm
  · rintro (h | h)
    · exact .inl h
    · exact .inr h.symm
set_option maxHeartbeats 16000000 in
set_option maxRecDepth 100000 in
theorem exact_ok (W : World) (s : ByteArray) (mx bs mn : Nat) (ahead : Nat) (ha : ahead < 65536) (ab : Bool) (v : Nat) (hv : v < 4294967296) (cy : Nat) (hcy : cy < 4294967296) (ss : Sl) (l : List Cl) (hl : RowsAt W 4 actP ss l) (hll : l.length ≤ 5864062014805) (ticks : Nat) (ht : ticks < 65536) (hn : newB mx mn (3 : Nat) = true) : Calls Try.prog 4 #[.agg #[.string s, U mx, U bs, U mn], .int .u16 ahead, .bool ab, U v, U cy, .slice ss.a ss.n ss.c, .int .u16 ticks] W fun e w' => e = .returned (.bool true) ∧ Below W.heap.size W w' := by
  obtain ⟨a1, n1, c1⟩ := ss
  have hn1 := hl.n
  simp only at hn1
  subst hn1
  have hN : Calls Try.prog 13 #[.agg #[.string s, U mx, U bs, U mn], I 3] (W.alloc (ctrO s mx bs mn)) fun e w' => ∃ B v, e = .returned (.tuple #[cP B, I 0]) ∧ Pk (W.alloc (ctrO s mx bs mn)) w' B v mx mn 0 (List.replicate 3 (0, 0)) [] ∧ Below (W.alloc (ctrO s mx bs mn)).heap.size (W.alloc (ctrO s mx bs mn)) w' ∧ ∀ b, Cb B v b → (W.alloc (ctrO s mx bs mn)).heap.size < b := pNew _ _ (Below.refl _ _) [] (by simp) s mx bs mn 3 hn
  have HC : Hid (∀ Z, Below (W.alloc (ctrO s mx bs mn)).heap.size (W.alloc (ctrO s mx bs mn)) Z → _) := ctr_cells W s mx bs mn
  have HB : Hid (Below W.heap.size W (W.alloc (ctrO s mx bs mn))) := below_alloc _ _
  have hmm : 1 ≤ mx ∧ mx ≤ 2147483647 ∧ 1 ≤ mn ∧ mn ≤ mx := by unfold newB mayC at hn; simp at hn; omega
  obtain ⟨m1, m2, m3, m4⟩ := hmm
  clear hn
  go_enter Try.func4, Try.ntmps4
  go_upto_region 4 with (first
    | (go_at_call 13; refine hN.mono ?_; clear hN; rintro e w1 ⟨B, vv, rfl, P1, b1, -⟩; have HP : Hid (Pk (W.alloc (ctrO s mx bs mn)) w1 B vv mx mn 0 (List.replicate 3 (0, 0)) []) := P1; clear P1 b1)
    | (go_at_call 14; refine (num_any _ _).mono ?_; rintro e w9 ⟨rfl, rfl⟩))
  have HB2 : Hid (∀ Z, Below (W.alloc (ctrO s mx bs mn)).heap.size (W.alloc (ctrO s mx bs mn)) Z → Below W.heap.size W Z) := fun Z hZ => HB.out.trans (hZ.mono HB.out.size)
  clear HB
  generalize W.alloc (ctrO s mx bs mn) = W0 at *
  go_wp2
  go_loopw [17] (fun v17 wr => ∃ i : Nat, i ≤ ahead ∧ v17 = I i ∧ Hid (Pk W0 wr B vv mx mn (i % (mx + 1)) (List.replicate 3 (0, 0)) [])) (fun v17 _ => ahead - (intOf v17).toNat)
  case atStart => exact ⟨0, by omega, rfl, by rw [Nat.zero_mod]; exact HP.out⟩
  case round =>
    clear HP
    obtain ⟨i, hi, rfl, HJ⟩ := hrel
    by_cases hlt : i < ahead
    · have hltI : (i : Int) < ahead := by omega
      have hT := pTick HJ.out
      rw [three_due, three_map, aft_count m1] at hT
      clear HJ
      go_wp2_with (first | (go_at_call 15; refine hT.mono ?_; clear hT; rintro e w2 ⟨a2, c2, rfl, o2, P2, K2⟩; have HP2 : Hid (Pk W0 w2 B vv mx mn ((i + 1) % (mx + 1)) (List.replicate 3 (0, 0)) []) := P2; clear P2 K2 o2))
      go_roundw
      case rel => exact ⟨i + 1, by omega, by go_num, HP2.out⟩
      case measure => simp [intOf]; omega
    · obtain rfl : i = ahead := by omega
      have hge : ¬ ((i : Int) < i) := by omega
      have hV := pValue HJ.out
      obtain ⟨c1', c3'⟩ := HC.out _ HJ.out.b
      have hmod : ((i : Int) % ((mx : Int) + 1)) = ((i % (mx + 1) : Nat) : Int) := by rw [Int.natCast_emod]; rfl
      have hmlt := Nat.mod_lt i (show 0 < mx + 1 by omega)
      generalize i % (mx + 1) = nw at *
      go_upto_region 14 with (first | (go_at_call 16; refine hV.mono ?_; clear hV; rintro e w2 ⟨rfl, rfl⟩))
      clear hmod
      go_cut [21] from 32 (fun s21 wx => s21 = .bool (mcB mn mx cy) ∧ wx = wr)
      case first =>
        as_aux_lemma =>
          by_cases h0 : cy = 0
          · subst h0
            go_wp2
            go_meet
            case rel => exact ⟨by simp [mcB], rfl⟩
          · have h0I : ¬ ((cy : Int) = 0) := by omega
            by_cases h1 : mn ≤ cy
            · have h1I : (mn : Int) ≤ cy := by omega
              by_cases h2 : cy ≤ mx
              · have h2I : (cy : Int) ≤ mx := by omega
                go_wp2
                go_meet
                case rel => exact ⟨by simp [mcB, h0, h1, h2], rfl⟩
              · have h2I : ¬ (cy : Int) ≤ mx := by omega
                have h2N : decide (cy ≤ mx) = false := by simpa using h2
                go_wp2
                go_meet
                case rel => exact ⟨by simp [mcB, h0, h1, h2], rfl⟩
            · have h1I : ¬ (mn : Int) ≤ cy := by omega
              go_wp2
              go_meet
              case rel => exact ⟨by simp [mcB, h0, h1], rfl⟩
      obtain ⟨rfl, rfl⟩ := hcut
      go_upto_if 110 with (first | fail)
      go_cut [19, 20, 21] from 32 (fun s19 s20 s21 wx => ∃ (d : Nat) (fine : Bool) (al : List Alm), s19 = Q d ∧ d ≤ 4294967296 ∧ s20 = I (if fine then 0 else 8) ∧ s21 = .bool fine ∧ Hid (Pk W0 wx B vv mx mn nw al [] ∧ (fine = true → al.length = 3 ∧ al[1]? = some (d, cy) ∧ 1 ≤ d ∧ cy ≤ mx) ∧ (fine = false → al = List.replicate 3 (0, 0))))
      case first =>
        as_aux_lemma =>
          cases ab with
          | false =>
            have hR := pRel HJ.out 1 v cy hv
            cases hm : mcB mn mx cy with
            | false =>
              have hb : relB mn mx v cy = false := by simp [relB, hm]
              rw [hb, set_three, if_neg (by decide)] at hR
              clear hb
              go_wp2_with (first | (go_at_call 18; refine hR.mono ?_; clear hR; rintro e w3 ⟨rfl, P3, K3⟩))
              go_meet
              case rel => exact ⟨v, false, _, rfl, by omega, rfl, rfl, P3, fun e => (by cases e), fun e => (setA_three _ _).2.2 rfl⟩
            | true =>
              by_cases h1 : 1 ≤ v
              · have h1I : (1 : Int) ≤ v := by omega
                by_cases h2 : v ≤ mx
                · have h2I : (v : Int) ≤ mx := by omega
                  have hb : relB mn mx v cy = true := by simp [relB, hm, h1, h2]
                  rw [hb, set_three, if_pos rfl] at hR
                  clear hb
                  go_wp2_with (first | (go_at_call 18; refine hR.mono ?_; clear hR; rintro e w3 ⟨rfl, P3, K3⟩))
                  go_meet
                  case rel => exact ⟨v, true, _, rfl, by omega, rfl, rfl, P3, fun e => ⟨(setA_three _ _).1, (setA_three _ _).2.1 rfl, by omega, mcB_le hm⟩, fun e => (by cases e)⟩
                · have h2I : ¬ (v : Int) ≤ mx := by omega
                  have h2N : decide (v ≤ mx) = false := by simpa using h2
                  have hb : relB mn mx v cy = false := by simp [relB, hm, h1, h2]
                  rw [hb, set_three, if_neg (by decide)] at hR
                  clear hb
                  go_wp2_with (first | (go_at_call 18; refine hR.mono ?_; clear hR; rintro e w3 ⟨rfl, P3, K3⟩))
                  go_meet
                  case rel => exact ⟨v, false, _, rfl, by omega, rfl, rfl, P3, fun e => (by cases e), fun e => (setA_three _ _).2.2 rfl⟩
              · have h1I : ¬ (1 : Int) ≤ v := by omega
                have h1N : decide (1 ≤ v) = false := by simpa using h1
                have hb : relB mn mx v cy = false := by simp [relB, hm, h1]
                rw [hb, set_three, if_neg (by decide)] at hR
                clear hb
                go_wp2_with (first | (go_at_call 18; refine hR.mono ?_; clear hR; rintro e w3 ⟨rfl, P3, K3⟩))
                go_meet
                case rel => exact ⟨v, false, _, rfl, by omega, rfl, rfl, P3, fun e => (by cases e), fun e => (setA_three _ _).2.2 rfl⟩
          | true =>
            have hR := pAbs HJ.out 1 v cy hv
            cases hm : mcB mn mx cy with
            | false =>
              have hb : absB mn mx v cy = false := by simp [absB, hm]
              rw [hb, set_three, if_neg (by decide)] at hR
              clear hb
              go_wp2_with (first | (go_at_call 17; refine hR.mono ?_; clear hR; rintro e w3 ⟨rfl, P3, K3⟩))
              go_meet
              case rel => exact ⟨(v + 2 * (mx + 1) - nw - 1) % (mx + 1) + 1, false, _, by rw [absd_eq m2 hv hmlt], absd_le hmlt m2, rfl, rfl, P3, fun e => (by cases e), fun e => (setA_three _ _).2.2 rfl⟩
            | true =>
              by_cases h2 : v ≤ mx
              · have h2I : (v : Int) ≤ mx := by omega
                have hb : absB mn mx v cy = true := by simp [absB, hm, h2]
                rw [hb, set_three, if_pos rfl] at hR
                clear hb
                go_wp2_with (first | (go_at_call 17; refine hR.mono ?_; clear hR; rintro e w3 ⟨rfl, P3, K3⟩))
                go_meet
                case rel => exact ⟨(v + 2 * (mx + 1) - nw - 1) % (mx + 1) + 1, true, _, by rw [absd_eq m2 hv hmlt], absd_le hmlt m2, rfl, rfl, P3, fun e => ⟨(setA_three _ _).1, by rw [unt_law (by omega) h2]; exact (setA_three _ _).2.1 rfl, by omega, mcB_le hm⟩, fun e => (by cases e)⟩
              · have h2I : ¬ (v : Int) ≤ mx := by omega
                have h2N : decide (v ≤ mx) = false := by simpa using h2
                have hb : absB mn mx v cy = false := by simp [absB, hm, h2]
                rw [hb, set_three, if_neg (by decide)] at hR
                clear hb
                go_wp2_with (first | (go_at_call 17; refine hR.mono ?_; clear hR; rintro e w3 ⟨rfl, P3, K3⟩))
                go_meet
                case rel => exact ⟨(v + 2 * (mx + 1) - nw - 1) % (mx + 1) + 1, false, _, by rw [absd_eq m2 hv hmlt], absd_le hmlt m2, rfl, rfl, P3, fun e => (by cases e), fun e => (setA_three _ _).2.2 rfl⟩
      obtain ⟨d, fine, al, rfl, hd, rfl, rfl, HA⟩ := hcut
      cases fine with
      | false =>
        as_aux_lemma =>
          have HA2 : Hid (Pk W0 wc B vv mx mn nw (List.replicate 3 (0, 0)) []) := by have := HA.out.1; rw [HA.out.2.2 rfl] at this; exact this
          clear HA
          have hL := pLeft HA2.out 1
          rw [show getS (List.replicate 3 ((0, 0) : Alm)) 1 = 5 by kernel_rfl, show lftN (List.replicate 3 ((0, 0) : Alm)) 1 = 0 by kernel_rfl] at hL
          go_wp2_with (first
            | (go_at_call 19; refine hL.mono ?_; clear hL; rintro e w4 ⟨rfl, rfl⟩)
            | (go_at_call 9; refine (alive_any _).mono ?_; rintro e w7 ⟨rfl, b7⟩))
          go_ret
          have b2 := HB2.out _ HA2.out.b
          exact ⟨rfl, b2.trans (b7.mono b2.size)⟩
      | true =>
        obtain ⟨HP0, hq, -⟩ := HA.out
        obtain ⟨q1, q2, q3, q4⟩ := hq rfl
        have HI : Hid (ExI W0 wc B vv mx mn d cy 0) := ⟨⟨nw, al, HP0, q1, by rw [q2]; unfold lfA; rw [if_pos (by omega)]; rfl⟩⟩
        have hd1 : 1 ≤ d := q3
        clear HA HP0 hq q1 q2 q3
        have hcm : cy ≤ mx := q4
        clear q4
        go_wp2
        go_loopw [24] (fun v24 wr => ∃ T : Nat, T ≤ ticks ∧ v24 = Q (T + 1) ∧ Hid (ExI W0 wr B vv mx mn d cy T)) (fun v24 _ => ticks + 1 - (intOf v24).toNat)
        case atStart => exact ⟨0, by omega, rfl, HI.out⟩
        case round =>
          clear HI
          obtain ⟨T, hT, rfl, HJ⟩ := hrel
          by_cases hlt : T < ticks
          · have hltI : (T : Int) + 1 ≤ ticks := by omega
            go_upto_region 30 with (first | fail)
            go_cut [192] from 172 to 291 (fun s192 wx => ∃ cnd : Bool, s192 = .bool cnd ∧ Hid (wx = wr ∧ (cnd = true → ∃ kd tk x y, l[T]? = some (kd, tk, x, y) ∧ tk ≠ 1)))
            case first =>
              as_aux_lemma =>
                by_cases hk : T < l.length
                · have hkI : (T : Int) < l.length := by omega
                  obtain ⟨⟨kd, tk, x, y⟩, hx⟩ : ∃ x, l[T]? = some x := ⟨_, List.getElem?_eq_getElem hk⟩
                  obtain ⟨ga, off, rfl, -, -, hcx⟩ := acts_cell hl hx
                  obtain ⟨V0, al0, PP, -, -⟩ := HJ.out.p
                  obtain ⟨x0, x1, x2, x3⟩ := hcx wr (HB2.out _ PP.b)
                  have HX : Hid (l[T]? = some (kd, tk, x, y)) := hx
                  clear hcx hx PP x0 x2 x3
                  by_cases h1 : tk = 1
                  · subst h1
                    go_wp2
                    go_meet
                    case rel => exact ⟨false, rfl, rfl, fun e => (by cases e)⟩
                  · have h1b : (tk != 1) = true := by simpa using h1
                    go_wp2
                    go_meet
                    case rel => exact ⟨true, rfl, rfl, fun _ => ⟨kd, tk, x, y, HX.out, h1⟩⟩
                · have hkI : ¬ (T : Int) < l.length := by omega
                  go_wp2
                  go_meet
                  case rel => exact ⟨false, rfl, rfl, fun e => (by cases e)⟩
            obtain ⟨cnd, rfl, HW⟩ := hcut
            obtain ⟨hw, HC2⟩ := HW.out
            subst hw
            go_upto_if 192 with (first | fail)
            go_cut [26] from 172 to 291 (fun _ wx => Hid (ExI W0 wx B vv mx mn d cy T))
            case first =>
              as_aux_lemma =>
                cases cnd with
                | false =>
                  go_wp2
                  go_meet
                  case rel => exact HJ.out
                | true =>
                  obtain ⟨kd, tk, x, y, hx, h1⟩ := HC2 rfl
                  have hk : T < l.length := (List.getElem?_eq_some_iff.1 hx).1
                  have hkI : (T : Int) < l.length := by omega
                  obtain ⟨ga, off, rfl, bx, by', hcx⟩ := acts_cell hl hx
                  obtain ⟨V0, al0, PP, -, -⟩ := HJ.out.p
                  obtain ⟨x0, x1, x2, x3⟩ := hcx wc (HB2.out _ PP.b)
                  clear hcx hx PP HC2
                  go_upto_block 4 with fail
                  have HJ1 : Hid (ExI W0 (wc.alloc (.cells #[I kd, I tk, U x, U y] 46)) B vv mx mn d cy T) := HJ.out.below (below_alloc _ _)
                  have y1 : (wc.alloc (.cells #[I kd, I tk, U x, U y] 46)).cell? ⟨wc.heap.size, 1, none⟩ = some (I tk) := by rw [cell_of_row _ _ _ _ _ (0, 0) (heap_alloc_new wc _)]; rfl
                  have y2 : (wc.alloc (.cells #[I kd, I tk, U x, U y] 46)).cell? ⟨wc.heap.size, 2, none⟩ = some (U x) := by rw [cell_of_row _ _ _ _ _ (0, 0) (heap_alloc_new wc _)]; rfl
                  have y3 : (wc.alloc (.cells #[I kd, I tk, U x, U y] 46)).cell? ⟨wc.heap.size, 3, none⟩ = some (U y) := by rw [cell_of_row _ _ _ _ _ (0, 0) (heap_alloc_new wc _)]; rfl
                  clear x0 x1 x2 x3
                  generalize wc.heap.size = X at *
                  generalize (wc.alloc (.cells #[I kd, I tk, U x, U y] 46)) = wx at *
                  have r1 := eRel HJ1.out tk x y bx h1
                  have r2 := eAbs HJ1.out tk x y bx h1
                  have r3 := eCancel HJ1.out tk h1
                  by_cases k1 : kd = 1
                  · subst k1
                    go_wp2_with (first | (go_at_call 18; refine r1.mono ?_; clear r1; rintro e w4 ⟨⟨s4, rfl⟩, E4⟩))
                    go_meet
                    case rel => exact E4
                  · by_cases k2 : kd = 2
                    · subst k2
                      go_wp2_with (first | (go_at_call 17; refine r2.mono ?_; clear r2; rintro e w4 ⟨⟨s4, rfl⟩, E4⟩))
                      go_meet
                      case rel => exact E4
                    · by_cases k4 : kd = 4
                      · subst k4
                        go_wp2_with (first | (go_at_call 20; refine r3.mono ?_; clear r3; rintro e w4 ⟨⟨s4, rfl⟩, E4⟩))
                        go_meet
                        case rel => exact E4
                      · go_wp2
                        go_meet
                        case rel => exact HJ1.out
            clear HJ HC2
            have hTk := eTick hcut.out
            clear hcut
            go_wp2_with (first | (go_at_call 15; refine hTk.mono ?_; clear hTk; rintro e w5 ⟨a5, c5, due, rfl, o5, E5, u1, u2, u3, u4⟩; have H5 : Hid (w5.ownsRow wc.heap.size 3 1 (.slice a5 due.length c5) due.length (inL due) ∧ ExI W0 w5 B vv mx mn d cy (T + 1)) := ⟨o5, E5⟩; have HU : Hid ((∀ x ∈ due, x < 3) ∧ due.Pairwise (· < ·) ∧ (1 ∈ due ↔ lfA d cy T = 1)) := ⟨u1, u2, u4⟩; clear o5 E5 u1 u2 u4))
            generalize wc.heap.size = base at *
            go_loopw [28, 29] (fun v28 v29 wr => ∃ j : Nat, j ≤ due.length ∧ v29 = I j ∧ v28 = .bool (decide (1 ∈ due.take j)) ∧ Hid (wr.ownsRow base 3 1 (.slice a5 due.length c5) due.length (inL due) ∧ ExI W0 wr B vv mx mn d cy (T + 1))) (fun _ v29 _ => due.length - (intOf v29).toNat)
            case atStart => exact ⟨0, by omega, rfl, rfl, H5.out⟩
            case round =>
              clear H5
              obtain ⟨j, hj, rfl, rfl, HK⟩ := hrel
              by_cases hjl : j < due.length
              · have hjI : (j : Int) < due.length := by omega
                obtain ⟨x, hx⟩ : ∃ x, due[j]? = some x := ⟨_, List.getElem?_eq_getElem hjl⟩
                have hx3 : x < 3 := HU.out.1 x (List.mem_of_getElem? hx)
                obtain ⟨g, cg, e⟩ := own_some HK.out.1 (by omega)
                cases e
                have cx : wr.cell? ⟨g, j, none⟩ = some (I x) := by rw [HK.out.1.cellAt j (by omega)]; simp [inL, hx]
                have z1 := cell_regrown cx
                have f1 : decide ((x : Int) < 0) = false := by simp
                have f2 : decide ((2 : Int) < x) = false := by simp; omega
                have f2n : decide (2 < x) = false := by simp; omega
                have HM0 := mem_take_more hx
                generalize decide (1 ∈ due.take j) = hb at *
                have HM : Hid (decide (1 ∈ due.take (j + 1)) = (hb || decide (x = 1))) := HM0
                clear HM0
                have HE : Hid (∀ dq osq, (grow (redrawn wr dq) osq).ownsRow base 3 1 (.slice (some ⟨g, 0, none⟩) due.length c5) due.length (inL due) ∧ ExI W0 (grow (redrawn wr dq) osq) B vv mx mn d cy (T + 1) ∧ (grow (redrawn wr dq) osq).cell? ⟨g, j, none⟩ = some (I x)) := fun dq osq => ⟨own_below HK.out.1 (below_regrown wr dq osq), HK.out.2.below (below_regrown wr dq osq), z1 dq osq⟩
                by_cases hj0 : j = 0
                · as_aux_lemma =>
                    subst hj0
                    clear hx cx HK
                    go_upto_region 44 with (first | fail)
                    refine wp_region_quiet_below (by kernel_rfl) (by kernel_rfl) ?_
                    repeat (go_big_quiet_step (first | fail))
                    refine wpQuiet_nil ?_
                    rintro _ ⟨⟨dq, osq⟩, rfl⟩
                    dsimp only
                    obtain ⟨o7, E7, c7⟩ := HE.out dq osq
                    clear z1 HE 
                    generalize grow (redrawn wr dq) osq = w7 at *
                    have H7 : Hid (w7.ownsRow base 3 1 (.slice (some ⟨g, 0, none⟩) due.length c5) due.length (inL due) ∧ ExI W0 w7 B vv mx mn d cy (T + 1)) := ⟨o7, E7⟩
                    clear o7 E7
                    cases hb with
                    | true =>
                      go_wp2
                      go_roundw
                      case rel => exact ⟨0 + 1, by omega, by go_num, by rw [HM.out]; rfl, H7.out⟩
                      case measure => simp [intOf]; omega
                    | false =>
                      by_cases hx1 : x = 1
                      · subst hx1
                        go_wp2
                        go_roundw
                        case rel => exact ⟨0 + 1, by omega, by go_num, by rw [HM.out]; rfl, H7.out⟩
                        case measure => simp [intOf]; omega
                      · have hxb : ((x : Int) == 1) = false := beq_eq_false_iff_ne.2 (by omega)
                        have hxn : (x == 1) = false := beq_eq_false_iff_ne.2 hx1
                        have HM2 : Hid (decide (1 ∈ due.take (0 + 1)) = false) := by show _ = _; rw [HM.out]; simp [hx1]
                        go_wp2
                        go_roundw
                        case rel => exact ⟨0 + 1, by omega, by go_num, by rw [HM2.out], H7.out⟩
                        case measure => simp [intOf]; omega
                · as_aux_lemma =>
                    obtain ⟨p, hp⟩ : ∃ p, due[j - 1]? = some p := ⟨_, List.getElem?_eq_getElem (by omega)⟩
                    have hpx : p < x := rise_at HU.out.2.1 (i := j - 1) hp (by rw [show j - 1 + 1 = j by omega]; exact hx)
                    have cp : wr.cell? ⟨g, j - 1, none⟩ = some (I p) := by rw [HK.out.1.cellAt (j - 1) (by omega)]; simp [inL, hp]
                    have z2 := cell_regrown cp
                    have f3 : decide ((0 : Int) < j) = true := by simp; omega
                    have f3n : decide (0 < j) = true := by simp; omega
                    have f4 : decide ((x : Int) ≤ p) = false := by simp; omega
                    have f4n : decide (x ≤ p) = false := by simp; omega
                    clear hx cx HK hp cp
                    go_upto_region 44 with (first | fail)
                    refine wp_region_quiet_below (by kernel_rfl) (by kernel_rfl) ?_
                    repeat (go_big_quiet_step (first | fail))
                    refine wpQuiet_nil ?_
                    rintro _ ⟨⟨dq, osq⟩, rfl⟩
                    dsimp only
                    obtain ⟨o7, E7, c7⟩ := HE.out dq osq
                    clear z1 HE z2
                    generalize grow (redrawn wr dq) osq = w7 at *
                    have H7 : Hid (w7.ownsRow base 3 1 (.slice (some ⟨g, 0, none⟩) due.length c5) due.length (inL due) ∧ ExI W0 w7 B vv mx mn d cy (T + 1)) := ⟨o7, E7⟩
                    clear o7 E7
                    cases hb with
                    | true =>
                      go_wp2
                      go_roundw
                      case rel => exact ⟨j + 1, by omega, by go_num, by rw [HM.out]; rfl, H7.out⟩
                      case measure => simp [intOf]; omega
                    | false =>
                      by_cases hx1 : x = 1
                      · subst hx1
                        go_wp2
                        go_roundw
                        case rel => exact ⟨j + 1, by omega, by go_num, by rw [HM.out]; rfl, H7.out⟩
                        case measure => simp [intOf]; omega
                      · have hxb : ((x : Int) == 1) = false := beq_eq_false_iff_ne.2 (by omega)
                        have hxn : (x == 1) = false := beq_eq_false_iff_ne.2 hx1
                        have HM2 : Hid (decide (1 ∈ due.take (j + 1)) = false) := by show _ = _; rw [HM.out]; simp [hx1]
                        go_wp2
                        go_roundw
                        case rel => exact ⟨j + 1, by omega, by go_num, by rw [HM2.out], H7.out⟩
                        case measure => simp [intOf]; omega
              · obtain rfl : j = due.length := by omega
                have hge : ¬ ((due.length : Int) < due.length) := by omega
                have HH : Hid (decide (1 ∈ due.take due.length) = decide (lfA d cy T = 1)) := by show _ = _; rw [List.take_of_length_le (Nat.le_refl _)]; exact decide_eq_decide.2 HU.out.2.2
                have HK9 : Hid (ExI W0 wr B vv mx mn d cy (T + 1)) := HK.out.2
                clear HK HU
                have hd9 : d < 18446744073709551616 := by omega
                rcases (by omega : T + 1 = d ∨ T + 1 < d ∨ (d < T + 1 ∧ cy = 0) ∨ (d < T + 1 ∧ 0 < cy)) with q | q | q | q
                · as_aux_lemma =>
                    have hcase : T + 1 = d ∨ (d < T + 1 ∧ 0 < cy ∧ (T + 1 - d) % cy = 0) := .inl q
                    have e1 : ((T : Int) + 1 == d) = true := by simp; omega
                    rw [show decide (1 ∈ due.take due.length) = true by rw [HH.out]; exact decide_eq_true ((lfA_one d cy T).2 hcase)]
                    clear hcase q
                    go_wp2
                    go_roundw
                    case rel => exact ⟨T + 1, by omega, by go_num, HK9.out⟩
                    case measure => simp [intOf]; omega
                · as_aux_lemma =>
                    have hcase : ¬ (T + 1 = d ∨ (d < T + 1 ∧ 0 < cy ∧ (T + 1 - d) % cy = 0)) := by omega
                    have e1 : ((T : Int) + 1 == d) = false := beq_eq_false_iff_ne.2 (by omega)
                    have e2 : decide ((d : Int) < (T : Int) + 1) = false := by simp; omega
                    rw [show decide (1 ∈ due.take due.length) = false by rw [HH.out]; exact decide_eq_false (fun e => hcase ((lfA_one d cy T).1 e))]
                    clear hcase q
                    go_wp2
                    go_roundw
                    case rel => exact ⟨T + 1, by omega, by go_num, HK9.out⟩
                    case measure => simp [intOf]; omega
                · as_aux_lemma =>
                    have hcase : ¬ (T + 1 = d ∨ (d < T + 1 ∧ 0 < cy ∧ (T + 1 - d) % cy = 0)) := by omega
                    have e1 : ((T : Int) + 1 == d) = false := beq_eq_false_iff_ne.2 (by omega)
                    have e2 : decide ((d : Int) < (T : Int) + 1) = true := by simp; omega
                    have e3 : decide ((0 : Int) < cy) = false := by simp; omega
                    have e3n : decide (0 < cy) = false := by simp; omega
                    rw [show decide (1 ∈ due.take due.length) = false by rw [HH.out]; exact decide_eq_false (fun e => hcase ((lfA_one d cy T).1 e))]
                    clear hcase q
                    go_wp2
                    go_roundw
                    case rel => exact ⟨T + 1, by omega, by go_num, HK9.out⟩
                    case measure => simp [intOf]; omega
                · have e1 : ((T : Int) + 1 == d) = false := beq_eq_false_iff_ne.2 (by omega)
                  have e2 : decide ((d : Int) < (T : Int) + 1) = true := by simp; omega
                  have e3 : decide ((0 : Int) < cy) = true := by simp; omega
                  have e3n : decide (0 < cy) = true := by simp; omega
                  have e4 : ¬ ((cy : Int) = 0) := by omega
                  have e5 : (0 : Int) ≤ (T : Int) + 1 - d := by omega
                  have e6 : (T : Int) + 1 - d < 18446744073709551616 := by omega
                  have hmd : ((T : Int) + 1 - d) % (cy : Int) = (((T + 1 - d) % cy : Nat) : Int) := by rw [show (T : Int) + 1 - d = ((T + 1 - d : Nat) : Int) by omega, Int.natCast_emod]
                  have hmt : ((T : Int) + 1 - d).tmod (cy : Int) = (((T + 1 - d) % cy : Nat) : Int) := by rw [Int.tmod_eq_emod_of_nonneg e5]; exact hmd
                  by_cases hz : (T + 1 - d) % cy = 0
                  · as_aux_lemma =>
                      have hcase : T + 1 = d ∨ (d < T + 1 ∧ 0 < cy ∧ (T + 1 - d) % cy = 0) := .inr ⟨q.1, q.2, hz⟩
                      rw [show decide (1 ∈ due.take due.length) = true by rw [HH.out]; exact decide_eq_true ((lfA_one d cy T).2 hcase)]
                      rw [hz] at hmd hmt
                      clear hcase q hz
                      go_wp2
                      go_roundw
                      case rel => exact ⟨T + 1, by omega, by go_num, HK9.out⟩
                      case measure => simp [intOf]; omega
                  · as_aux_lemma =>
                      have hcase : ¬ (T + 1 = d ∨ (d < T + 1 ∧ 0 < cy ∧ (T + 1 - d) % cy = 0)) := by omega
                      rw [show decide (1 ∈ due.take due.length) = false by rw [HH.out]; exact decide_eq_false (fun e => hcase ((lfA_one d cy T).1 e))]
                      generalize (T + 1 - d) % cy = rr at *
                      have e7 : ((rr : Int) == 0) = false := beq_eq_false_iff_ne.2 (by omega)
                      have e7n : (rr == 0) = false := beq_eq_false_iff_ne.2 hz
                      clear hcase q
                      go_wp2
                      go_roundw
                      case rel => exact ⟨T + 1, by omega, by go_num, HK9.out⟩
                      case measure => simp [intOf]; omega
          · obtain rfl : T = ticks := by omega
            have hge : ¬ ((T : Int) + 1 ≤ T) := by omega
            have hL := eLeft HJ.out
            have HBX : Hid (Below W.heap.size W wr) := by obtain ⟨V0, al0, PP, -, -⟩ := HJ.out.p; exact HB2.out _ PP.b
            have hs := lfA_set d cy T
            rcases (by omega : 0 < cy ∨ (cy = 0 ∧ T < d) ∨ (cy = 0 ∧ ¬ T < d)) with q | q | q
            · as_aux_lemma =>
                rw [if_neg (hs.2 (.inl q))] at hL
                have e3 : decide ((0 : Int) < cy) = true := by simp; omega
                have e3n : decide (0 < cy) = true := by simp; omega
                clear hs q HJ
                go_wp2_with (first
                  | (go_at_call 19; refine hL.mono ?_; clear hL; rintro e w4 ⟨⟨n4, rfl⟩, rfl⟩)
                  | (go_at_call 9; refine (alive_any _).mono ?_; rintro e w7 ⟨rfl, b7⟩))
                go_ret
                exact ⟨rfl, HBX.out.trans (b7.mono HBX.out.size)⟩
            · as_aux_lemma =>
                rw [if_neg (hs.2 (.inr q.2))] at hL
                have e3 : decide ((0 : Int) < cy) = false := by simp; omega
                have e3n : decide (0 < cy) = false := by simp; omega
                have e4 : decide ((T : Int) < d) = true := by simp; omega
                have e4n : decide (T < d) = true := by simp; omega
                clear hs q HJ
                go_wp2_with (first
                  | (go_at_call 19; refine hL.mono ?_; clear hL; rintro e w4 ⟨⟨n4, rfl⟩, rfl⟩)
                  | (go_at_call 9; refine (alive_any _).mono ?_; rintro e w7 ⟨rfl, b7⟩))
                go_ret
                exact ⟨rfl, HBX.out.trans (b7.mono HBX.out.size)⟩
            · as_aux_lemma =>
                rw [if_pos (by cases Nat.eq_zero_or_pos (lfA d cy T) with | inl e => exact e | inr e => exact absurd (hs.1 (by omega)) (by omega))] at hL
                have e3 : decide ((0 : Int) < cy) = false := by simp; omega
                have e3n : decide (0 < cy) = false := by simp; omega
                have e4 : decide ((T : Int) < d) = false := by simp; omega
                have e4n : decide (T < d) = false := by simp; omega
                clear hs q HJ
                go_wp2_with (first
                  | (go_at_call 19; refine hL.mono ?_; clear hL; rintro e w4 ⟨⟨n4, rfl⟩, rfl⟩)
                  | (go_at_call 9; refine (alive_any _).mono ?_; rintro e w7 ⟨rfl, b7⟩))
                go_ret
                exact ⟨rfl, HBX.out.trans (b7.mono HBX.out.size)⟩
end Go.Proofs.Ytpoekphebmonnaa
