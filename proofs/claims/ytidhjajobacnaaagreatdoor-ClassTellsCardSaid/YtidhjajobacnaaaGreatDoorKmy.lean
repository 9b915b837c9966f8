import Derived.Test.YtidhjajobacnaaaGreatDoorKck
import Derived.Test.YtidhjajobacnaaaGreatDoorVfX
import Derived.Test.YtidhjajobacnaaaGreatDoorKvl
import Derived.Test.YtidhjajobacnaaaGreatDoorSaX
namespace Go.Proofs.YtidhjajobacnaaaGreatDoor
open Go.RowKit Go.Sort
set_option linter.unusedVariables false
set_option linter.unusedSimpArgs false

/-! ### The document's May and Class -/
set_option maxHeartbeats 2000000 in
set_option maxRecDepth 100000 in
theorem rmay_any (w : World) (c : Cf) (v : Vs) (h : CfAt w c v) (hl : LensOK c) (hz : NamesOK c) : Calls Tryz.prog 25 #[.agg (cfC c v)] w fun e w' => Ans w (allF c).isNone e w' := by
  have hi18 : (Tryz.prog.info? 33).map (·.size) = some (cfC c v).size := by rw [show (cfC c v).size = 18 from rfl]; kernel_rfl
  have hV0 := heap_alloc_new w (.cells (cfC c v) 33)
  have hb := below_alloc w (.cells (cfC c v) 33)
  have k1 := rcheck_any _ c v (h.below hb) hl hz
  generalize cfC c v = C at *
  clear h hl hz
  cases ho : allF c with
  | none =>
    rw [ho] at k1
    clear ho
    go_enter Tryz.func25, Tryz.ntmps25
    go_wp2_with (first | (refine wpList_load_row rfl 33 _ rfl w.heap.size rfl 33 _ (0, 0) _ hV0 Tryz.underlying33 rfl hi18 ?_) | (go_at_call 10; refine k1.mono ?_; clear k1; rintro e w1 ⟨he, hb1⟩; obtain rfl : e = .returned (.agg #[I 0, S [], I 0]) := he))
    go_ret
    exact ⟨rfl, hb.trans (hb1.mono hb.size)⟩
  | some p =>
    obtain ⟨cd, wd, ix⟩ := p
    have hcd : (cd == 0) = false := by simpa using allF_code ho
    rw [ho] at k1
    clear ho
    go_enter Tryz.func25, Tryz.ntmps25
    go_wp2_with (first | (refine wpList_load_row rfl 33 _ rfl w.heap.size rfl 33 _ (0, 0) _ hV0 Tryz.underlying33 rfl hi18 ?_) | (go_at_call 10; refine k1.mono ?_; clear k1; rintro e w1 ⟨he, hb1⟩; obtain rfl : e = .returned (.agg #[I cd, S wd, I ix]) := he))
    go_ret
    exact ⟨rfl, hb.trans (hb1.mono hb.size)⟩
def prL (c : Cf) (k : Nat) : List Int := ((c.tasks.take k).map fun t => t.prio).reverse
theorem prL_succ {c : Cf} {k : Nat} {y : Tk} (h : c.tasks[k]? = some y) : prL c (k + 1) = y.prio :: prL c k := by
  unfold prL
  rw [List.take_add_one, h, Option.toList_some, List.map_append, List.reverse_append]
  rfl
theorem sg_step {c : Cf} {k : Nat} {x : Tk} (h : c.tasks[k]? = some x) : sgL (prL c k) (c.tasks.drop k) = (x.act == 1 && !hasL (prL c k) x.prio && sgL (prL c (k + 1)) (c.tasks.drop (k + 1))) := by
  obtain ⟨hj, e⟩ := List.getElem?_eq_some_iff.1 h
  rw [List.drop_eq_getElem_cons hj, e, sgL, prL_succ h]
def kOf (b : Bool) : Int := if b then 3 else 1
def extB (x : Tk) : Bool := decide (0 < (x.evs.length : Int))
theorem extL_at {c : Cf} {j : Nat} {x : Tk} (h : c.tasks[j]? = some x) : extL c (j : Int) = extB x := by
  have hj := (List.getElem?_eq_some_iff.1 h).1
  unfold extL extB
  rw [isId_nat hj]
  simp [h]
set_option maxHeartbeats 8000000 in
set_option maxRecDepth 100000 in
theorem rclass_any (w : World) (c : Cf) (v : Vs) (h : CfAt w c v) (hl : LensOK c) (hz : NamesOK c) : Calls Tryz.prog 12 #[.agg (cfC c v)] w fun e w' => ClsPost w (clsL c) e w' := by
  have hi18 : (Tryz.prog.info? 33).map (·.size) = some (cfC c v).size := by rw [show (cfC c v).size = 18 from rfl]; kernel_rfl
  have hV0 := heap_alloc_new w (.cells (cfC c v) 33)
  have hb := below_alloc w (.cells (cfC c v) 33)
  have km := rmay_any _ c v (h.below hb) hl hz
  have ke : ∀ W, Below w.heap.size w W → ∀ t, Calls Tryz.prog 14 #[.agg (cfC c v), I t] W fun e w' => Ans W (extL c t) e w' := fun W hW t => rextended_any W c v (h.below hW) t
  have hcv : ∀ W : World, W.heap[w.heap.size]? = some (.cells (cfC c v) 33 (0, 0)) → W.cell? ⟨w.heap.size, 11, none⟩ = some (.slice v.t.a v.t.n v.t.c) := fun W hW => by
    obtain ⟨_, h10, h11, h12, h13, h14, h15, h16, h17⟩ := var18_all hW
    exact h11
  have HN : Hid (v.t.n = c.tasks.length) := h.t.n
  have hcap : v.t.n ≤ v.t.c := h.t.c
  have hmax : v.t.c ≤ maxLen := h.t.m
  unfold maxLen at hmax
  cases ho : allF c with
  | some r =>
    rw [ho] at km
    rw [show clsL c = (0, 2) by unfold clsL; rw [ho]]
    generalize cfC c v = C at *
    clear ho ke hcv h hl hz
    go_enter Tryz.func12, Tryz.ntmps12
    go_wp2_with (first | (refine wpList_load_row rfl 33 _ rfl w.heap.size rfl 33 _ (0, 0) _ hV0 Tryz.underlying33 rfl hi18 ?_) | (go_at_call 25; refine km.mono ?_; clear km; rintro e w1 ⟨he, hb1⟩; obtain rfl : e = .returned (.bool false) := he))
    go_ret2
    exact ⟨rfl, hb.trans (hb1.mono hb.size)⟩
  | none =>
    rw [ho] at km
    obtain ⟨R, hR⟩ : ∃ R : Int × Int, R = clsL c := ⟨_, rfl⟩
    rw [← hR]
    rw [show clsL c = (clsK (extAny c) (sgL [] c.tasks), 0) by unfold clsL; rw [ho]] at hR
    have HR : Hid (R = (clsK (extAny c) (sgL [] c.tasks), 0)) := hR
    have HH : Hid (CfAt w c v) := h
    generalize cfC c v = C at *
    clear ho hR h hl hz
    go_enter Tryz.func12, Tryz.ntmps12
    go_wp2_with (first | (refine wpList_load_row rfl 33 _ rfl w.heap.size rfl 33 _ (0, 0) _ hV0 Tryz.underlying33 rfl hi18 ?_) | (go_at_call 25; refine km.mono ?_; clear km; rintro e w1 ⟨he, hb1⟩; obtain rfl : e = .returned (.bool true) := he))
    have hbw1 := hb.trans (hb1.mono hb.size)
    have hV1 := (hb1.block _ (heap_lt hV0)).trans hV0
    have HF : Hid (∀ W, Below w1.heap.size w1 W → W.heap[w.heap.size]? = some (.cells C 33 (0, 0)) ∧ W.cell? ⟨w.heap.size, 11, none⟩ = some (.slice v.t.a v.t.n v.t.c) ∧ CfAt W c v ∧ Below w.heap.size w W) := fun W hW => by
      have hVW := (hW.block _ (heap_lt hV1)).trans hV1
      have hbW := hbw1.trans (hW.mono hbw1.size)
      exact ⟨hVW, hcv W hVW, HH.out.below hbW, hbW⟩
    have HK : Hid (∀ W, Below w.heap.size w W → ∀ t, Calls Tryz.prog 14 #[.agg C, I t] W fun e w' => Ans W (extL c t) e w') := ke
    clear hb hb1 hV0 hcv hV1 hbw1 HH ke
    go_loopw [4, 5] (fun kv iv wr => ∃ (j : Nat) (kk : Int), j ≤ v.t.n ∧ iv = .int .i64 j ∧ kv = .int .i64 kk ∧ Hid (kk = kOf ((c.tasks.take j).any extB) ∧ Below w1.heap.size w1 wr)) (fun _ iv _ => v.t.n - (intOf iv).toNat)
    case atStart => exact ⟨0, 1, by omega, rfl, rfl, rfl, Below.refl _ _⟩
    case round =>
      obtain ⟨j, kk, hj, rfl, rfl, HJ⟩ := hrel
      obtain ⟨hVr, c11, hCf, hbr⟩ := HF.out _ HJ.out.2
      by_cases hlt : j < v.t.n
      · have hlt' : (j : Int) < v.t.n := by omega
        obtain ⟨x, hx⟩ : ∃ x, c.tasks[j]? = some x := ⟨_, List.getElem?_eq_getElem (by rw [← HN.out]; exact hlt)⟩
        have k1 := HK.out _ hbr (j : Int)
        rw [extL_at hx] at k1
        have HT : Hid ((c.tasks.take (j + 1)).any extB = ((c.tasks.take j).any extB || extB x)) := any_take extB c.tasks j x hx
        clear hx hCf hbr
        cases hb : extB x with
        | true =>
          have HT2 : Hid (kOf ((c.tasks.take (j + 1)).any extB) = 3) := by show _ = _; rw [HT.out, hb, Bool.or_true]; rfl
          rw [hb] at k1
          clear HT hb
          go_wp2_with (first | (refine wpList_load_row rfl 33 _ rfl w.heap.size rfl 33 _ (0, 0) _ hVr Tryz.underlying33 rfl hi18 ?_) | (go_at_call 14; refine k1.mono ?_; clear k1; rintro e w2 ⟨he, hb2⟩; obtain rfl : e = .returned (.bool true) := he))
          have HB2 : Hid (Below w1.heap.size w1 w2) := HJ.out.2.trans (hb2.mono HJ.out.2.size)
          clear hb2
          go_roundw
          case rel => exact ⟨j + 1, 3, by omega, by go_num, rfl, HT2.out.symm, HB2.out⟩
          case measure => simp [intOf]; omega
        | false =>
          have HT2 : Hid (kk = kOf ((c.tasks.take (j + 1)).any extB)) := by show _ = _; rw [HT.out, hb, Bool.or_false]; exact HJ.out.1
          rw [hb] at k1
          clear HT hb
          go_wp2_with (first | (refine wpList_load_row rfl 33 _ rfl w.heap.size rfl 33 _ (0, 0) _ hVr Tryz.underlying33 rfl hi18 ?_) | (go_at_call 14; refine k1.mono ?_; clear k1; rintro e w2 ⟨he, hb2⟩; obtain rfl : e = .returned (.bool false) := he))
          have HB2 : Hid (Below w1.heap.size w1 w2) := HJ.out.2.trans (hb2.mono HJ.out.2.size)
          clear hb2
          go_roundw
          case rel => exact ⟨j + 1, kk, by omega, by go_num, rfl, HT2.out, HB2.out⟩
          case measure => simp [intOf]; omega
      · obtain rfl : j = v.t.n := by omega
        have hlt' : ¬ ((v.t.n : Nat) : Int) < (v.t.n : Nat) := by omega
        have HKK : Hid (kk = kOf (extAny c)) := by
          show _ = _
          rw [HJ.out.1, List.take_of_length_le (by rw [HN.out]; exact Nat.le_refl _)]
          rfl
        have HB0 : Hid (Below w1.heap.size w1 wr) := HJ.out.2
        clear HJ hVr hCf hbr HK
        have HX : Hid (∃ s, sgL [] c.tasks = s ∧ R = (clsK (extAny c) s, 0)) := ⟨_, rfl, HR.out⟩
        have hkk : (kk = 3 ∧ Hid (∀ s, clsK (extAny c) s = if s then 3 else 4)) ∨ (kk = 1 ∧ Hid (∀ s, clsK (extAny c) s = if s then 1 else 2)) := by
          cases hx : extAny c with
          | true => exact .inl ⟨by rw [HKK.out, hx]; rfl, fun s => by cases s <;> rfl⟩
          | false => exact .inr ⟨by rw [HKK.out, hx]; rfl, fun s => by cases s <;> rfl⟩
        clear HKK HX
        rcases hkk with ⟨rfl, HC⟩ | ⟨rfl, HC⟩ <;>
        (go_wp2
         clear c11
         go_loopw [6, 7, 8] (fun iv _ _ wr => ∃ k : Nat, k ≤ v.t.n ∧ iv = .int .i64 k ∧ Hid (sgL [] c.tasks = sgL (prL c k) (c.tasks.drop k) ∧ Below w1.heap.size w1 wr)) (fun iv _ _ _ => v.t.n - (intOf iv).toNat)
         case atStart => exact ⟨0, by omega, rfl, rfl, HB0.out⟩
         case round =>
           clear HB0
           obtain ⟨k, hk, rfl, HJ⟩ := hrel
           obtain ⟨hVr, c11, hCf, hbr⟩ := HF.out _ HJ.out.2
           by_cases hkt : k < v.t.n
           · have hkt' : (k : Int) < v.t.n := by omega
             obtain ⟨x, hx⟩ : ∃ x, c.tasks[k]? = some x := ⟨_, List.getElem?_eq_getElem (by rw [← HN.out]; exact hkt)⟩
             have Hx : Hid (c.tasks[k]? = some x) := hx
             obtain ⟨g, off, s4, s5, s6, s7, e, hg, a0, a1, a2, a3, a4, a5, a6, a7, r4, r5, r6, r7⟩ := tk_at hCf hx
             have HS : Hid (sgL [] c.tasks = (x.act == 1 && !hasL (prL c k) x.prio && sgL (prL c (k + 1)) (c.tasks.drop (k + 1)))) := by show _ = _; rw [HJ.out.1, sg_step hx]
             have HB1 : Hid (Below w1.heap.size w1 wr) := HJ.out.2
             rw [e] at c11
             clear hx hCf hbr hVr HJ a0 a1 a2 a4 a5 a6 a7 r4 r5 r6 r7 e
             go_wp2
             clear c11 a3 hg
             go_loopw [7, 8] (fun av jv wq => ∃ (j : Nat) (a : Bool), j ≤ k ∧ jv = .int .i64 j ∧ av = .bool a ∧ Hid (a = (x.act == 1 && !hasL (prL c j) x.prio) ∧ Below w1.heap.size w1 wq)) (fun _ jv _ => k - (intOf jv).toNat)
             case atStart => exact ⟨0, _, by omega, rfl, rfl, by simp [prL, hasL], HB1.out⟩
             case round =>
               clear HB1
               obtain ⟨j, a, hj, rfl, rfl, HJ⟩ := hrel
               obtain ⟨hVr, c11, hCf, hbr⟩ := HF.out _ HJ.out.2
               by_cases hjk : j < k
               · have hjk' : (j : Int) < k := by omega
                 have hjt' : (j : Int) < v.t.n := by omega
                 obtain ⟨y, hy⟩ : ∃ y, c.tasks[j]? = some y := ⟨_, List.getElem?_eq_getElem (by have := HN.out; omega)⟩
                 obtain ⟨g1, o1, s4, s5, s6, s7, e1, hg1, a0, a1, a2, a3, a4, a5, a6, a7, r4, r5, r6, r7⟩ := tk_at hCf hy
                 obtain ⟨g2, o2, t4, t5, t6, t7, e2, hg2, b0, b1, b2, b3, b4, b5, b6, b7, u4, u5, u6, u7⟩ := tk_at hCf Hx.out
                 rw [e1] at e2
                 obtain ⟨rfl, rfl⟩ : g1 = g2 ∧ o1 = o2 := by cases e2; exact ⟨rfl, rfl⟩
                 have HA : Hid ((x.act == 1 && !hasL (prL c (j + 1)) x.prio) = (a && (y.prio != x.prio))) := by
                   show _ = _
                   rw [HJ.out.1, prL_succ hy]
                   simp only [hasL, List.any_cons, bne, Bool.not_or]
                   rw [show (x.prio == y.prio) = (y.prio == x.prio) from Bool.beq_comm]
                   generalize (y.prio == x.prio) = b1
                   generalize (x.act == 1) = b2
                   generalize List.any (prL c j) (fun z => x.prio == z) = b3
                   cases b1 <;> cases b2 <;> cases b3 <;> rfl
                 rw [e1] at c11
                 clear hy hCf hbr hVr e1 e2 a0 a2 a3 a4 a5 a6 a7 r4 r5 r6 r7 b0 b2 b3 b4 b5 b6 b7 u4 u5 u6 u7 hg2
                 cases a with
                 | false =>
                   have HA2 : Hid (false = (x.act == 1 && !hasL (prL c (j + 1)) x.prio)) := by show _ = _; rw [HA.out]; rfl
                   clear HA
                   go_wp2
                   go_big_quiet (fail)
                   go_wp2
                   go_roundw
                   case rel => exact ⟨j + 1, false, by omega, by go_num, rfl, HA2.out, below_drewN HJ.out.2 _⟩
                   case measure => simp [intOf]; omega
                 | true =>
                   have HA2 : Hid ((y.prio != x.prio) = (x.act == 1 && !hasL (prL c (j + 1)) x.prio)) := by show _ = _; rw [HA.out, Bool.true_and]
                   clear HA
                   go_wp2
                   go_big_quiet (fail)
                   go_wp2
                   go_roundw
                   case rel => exact ⟨j + 1, _, by omega, by go_num, rfl, HA2.out, below_drewN HJ.out.2 _⟩
                   case measure => simp [intOf]; omega
               · obtain rfl : j = k := by omega
                 have hjk' : ¬ ((j : Nat) : Int) < (j : Nat) := by omega
                 have Hbr : Hid (Below w.heap.size w wr) := hbr
                 clear hVr c11 hCf hbr
                 cases a with
                 | false =>
                   have HE : Hid (R = (clsK (extAny c) false, 0)) := by show _ = _; rw [HR.out, HS.out, ← HJ.out.1]; rfl
                   clear HR HS
                   go_wp2
                   go_ret2
                   refine ⟨?_, Hbr.out⟩
                   rw [HE.out, HC.out]
                   rfl
                 | true =>
                   have HS2 : Hid (sgL [] c.tasks = sgL (prL c (j + 1)) (c.tasks.drop (j + 1))) := by show _ = _; rw [HS.out, ← HJ.out.1, Bool.true_and]
                   clear HS
                   go_wp2
                   go_roundw
                   case rel => exact ⟨j + 1, by omega, by go_num, HS2.out, HJ.out.2⟩
                   case measure => simp [intOf]; omega
           · obtain rfl : k = v.t.n := by omega
             have hkt' : ¬ ((v.t.n : Nat) : Int) < (v.t.n : Nat) := by omega
             have HE : Hid (R = (clsK (extAny c) true, 0)) := by show _ = _; rw [HR.out, HJ.out.1, List.drop_eq_nil_of_le (by rw [HN.out]; exact Nat.le_refl _)]; rfl
             have Hbr : Hid (Below w.heap.size w wr) := hbr
             clear HR hVr hCf hbr
             go_wp2
             go_ret2
             refine ⟨?_, Hbr.out⟩
             rw [HE.out, HC.out]
             rfl)
end Go.Proofs.YtidhjajobacnaaaGreatDoor
