import Derived.Test.YthhckhifaolmkaaGreatXXl
import Derived.Test.YthhckhifaolmkaaGreatXXk
namespace Go.Proofs.YthhckhifaolmkaaGreat
open Go.RowKit Go.Shelf Go.Sort
open Go.Proofs.YthhckhifaolmkaaGreat.Cl (Fx Fz Ck Cb Alm psA dueA dueF U Q cP own_sl own_some own_below own_base inL ret_bool ret_int heap_lt iinfo cell_one_new take_snoc aftN)
set_option linter.unusedVariables false
set_option linter.unusedSimpArgs false

/-! ### Auto, Calm -/
def autS (tb : Tb) (m : Nat) (x : (Nat → Alm) × Nat) (j : Nat) : (Nat → Alm) × Nat := if (alK tb j).auto.testBit m && decide ((x.1 j).1 = 0) then (upN x.1 j ((alK tb j).time, (alK tb j).cycle), x.2 + 1) else x
def autL (tb : Tb) (m : Nat) (a : Nat → Alm) (k : Nat) : (Nat → Alm) × Nat := (List.range k).foldl (autS tb m) (a, 0)
theorem autL_succ (tb : Tb) (m : Nat) (a : Nat → Alm) (k : Nat) : autL tb m a (k + 1) = autS tb m (autL tb m a k) k := by
  unfold autL
  rw [List.range_succ, List.foldl_append]
  rfl
theorem autL_le (tb : Tb) (m : Nat) (a : Nat → Alm) : ∀ k, (autL tb m a k).2 ≤ k
  | 0 => Nat.le_refl _
  | k + 1 => by
    rw [autL_succ]
    unfold autS
    have := autL_le tb m a k
    split
    · show (autL tb m a k).2 + 1 ≤ k + 1; omega
    · omega
def outM (tb : Tb) (t : Int) : Prop := t < 0 ∨ tb.modes ≤ t
instance (tb : Tb) (t : Int) : Decidable (outM tb t) := by unfold outM; exact inferInstance
def autE (tb : Tb) (t : Int) : Int := if outM tb t then 2 else 0
def autN (tb : Tb) (s : Bs) (t : Int) : Nat := if outM tb t then 0 else (autL tb t.toNat s.a tb.als.length).2
def autT (tb : Tb) (s : Bs) (t : Int) : Bs := if outM tb t then s else ⟨s.v, (autL tb t.toNat s.a tb.als.length).1, s.q⟩
section
variable {w w' : World} {zn : Nat → Nat} {tb : Tb} {B : Nat} {p : Pl} {s : Bs}
/-- what Set does with an alarm that starts -/
theorem bset (h : Bo w zn tb B p s) {j : Nat} (hj : j < tb.als.length) (ha : (alK tb j).auto ≠ 0) : Calls Tryz.prog 76 #[cP (p.cb (ctrN tb j)), I (plN tb j), U (alK tb j).time, U (alK tb j).cycle] w fun e w' => e = .returned (I (if (s.a j).1 ≠ 0 then 7 else 0)) ∧ Bo w' zn tb B p ⟨s.v, (if (s.a j).1 = 0 then upN s.a j ((alK tb j).time, (alK tb j).cycle) else s.a), s.q⟩ ∧ Fz (Wr zn) w w' := by
  obtain ⟨-, hi, -, ht, -, ho⟩ := h.ok.a j hj
  obtain ⟨o1, o2, o3⟩ := ho ha
  have hm : Cl.staB (ctK tb (ctrN tb j)).max (alK tb j).time (alK tb j).cycle = true := by unfold Cl.staB; simp; omega
  refine (Cl.Set_any (h.k _ hi) (plN tb j) (alK tb j).time (alK tb j).cycle ht).mono ?_
  rintro e w' ⟨rfl, k, z⟩
  rw [hm] at k ⊢
  rw [setS_al hj]
  rw [setA_al hj] at k
  simp only [if_true] at k ⊢
  refine ⟨trivial, ?_⟩
  by_cases h0 : (s.a j).1 = 0
  · rw [if_neg (show ¬ (s.a j).1 ≠ 0 by simpa using h0), if_pos rfl] at k
    rw [if_pos h0]
    exact h.putA hj z k (fun e => by have e' : (alK tb j).time = 0 := e; omega)
  · rw [if_pos h0, if_neg (by decide)] at k
    rw [if_neg h0]
    exact h.same hj z k
set_option maxRecDepth 100000 in
set_option maxHeartbeats 8000000 in
theorem bAuto (h : Bo w zn tb B p s) (t : Int) : Calls Tryz.prog 40 #[bP B, I t] w fun e w' => e = .returned (.tuple #[I (autN tb s t), I (autE tb t)]) ∧ Bo w' zn tb B p (autT tb s t) ∧ Fz (Wr zn) w w' := by
  obtain ⟨c0, c1, c2, c3, -⟩ := h.cells
  have hN := bnone_any h
  unfold autN autE autT
  by_cases ho : outM tb t
  · simp only [if_pos ho]
    have HH : Hid (Bo w zn tb B p s) := h
    clear h
    unfold outM at ho
    generalize tb.modes = n at *
    by_cases h0 : t < 0
    · clear ho
      go_enter Tryz.func40, Tryz.ntmps40
      go_wp2_with (first | (go_at_call 28; refine hN.mono ?_; rintro e w1 ⟨rfl, rfl⟩))
      go_ret2
      exact ⟨rfl, HH.out, Fz.refl _ _⟩
    · have h1 : n ≤ t := by omega
      clear ho
      go_enter Tryz.func40, Tryz.ntmps40
      go_wp2_with (first | (go_at_call 28; refine hN.mono ?_; rintro e w1 ⟨rfl, rfl⟩))
      go_ret2
      exact ⟨rfl, HH.out, Fz.refl _ _⟩
  · simp only [if_neg ho]
    obtain ⟨m, rfl, hm⟩ : ∃ m : Nat, t = m ∧ (m : Int) < tb.modes := by unfold outM at ho; exact ⟨t.toNat, by omega, by omega⟩
    rw [Int.toNat_natCast]
    have m0 : ¬ ((m : Int) < 0) := by omega
    have m1 : ¬ (tb.modes ≤ (m : Int)) := by omega
    have m8 : m < 32 := by have := h.ok.modes; omega
    obtain ⟨a, cc, hv⟩ := own_sl h.a
    rw [hv] at c2
    have hn := h.ok.na
    have HI : Hid (Bo w zn tb B p ⟨s.v, (autL tb m s.a 0).1, s.q⟩ ∧ Fz (Wr zn) w w) := ⟨h, Fz.refl _ _⟩
    have HV : Hid (slT p.va = .slice a tb.als.length cc) := hv
    clear h hv ho hm
    go_enter Tryz.func40, Tryz.ntmps40
    go_wp2_with (first | (go_at_call 28; refine hN.mono ?_; rintro e w1 ⟨rfl, rfl⟩))
    clear c0 c1 c2 c3
    go_loopw [6, 8, 26] (fun v6 _ v26 wr => ∃ k : Nat, k ≤ tb.als.length ∧ v26 = I k ∧ v6 = I (autL tb m s.a k).2 ∧ Hid (Bo wr zn tb B p ⟨s.v, (autL tb m s.a k).1, s.q⟩ ∧ Fz (Wr zn) w wr)) (fun _ _ v26 _ => tb.als.length - (intOf v26).toNat)
    case atStart => exact ⟨0, by omega, rfl, rfl, HI.out⟩
    case round =>
      clear HI
      obtain ⟨k, hk, rfl, rfl, HJ⟩ := hrel
      have HA : Hid ((autL tb m s.a k).2 ≤ k) := autL_le tb m s.a k
      by_cases hlt : k < tb.als.length
      · have hltI : (k : Int) < tb.als.length := by omega
        have HS : Hid (autL tb m s.a (k + 1) = autS tb m (autL tb m s.a k) k) := autL_succ tb m s.a k
        have hc64 : (autL tb m s.a k).2 ≤ 64 := by have := HA.out; omega
        generalize hx : autL tb m s.a k = x at *
        clear hx HA
        obtain ⟨xa, xn⟩ := x
        have HS1 : Hid (autL tb m s.a (k + 1) = if (alK tb k).auto.testBit m && decide ((xa k).1 = 0) then (upN xa k ((alK tb k).time, (alK tb k).cycle), xn + 1) else (xa, xn)) := HS.out
        clear HS
        obtain ⟨b, z⟩ := HJ.out
        obtain ⟨g, c, ev, d0, d1, d2, d3, d4⟩ := b.al hlt
        have ea : a = some ⟨g, 0, none⟩ := by have := HV.out; rw [this] at ev; cases ev; rfl
        have hb1 := below_alloc wr (.cells #[I (ctrN tb k), I (plN tb k), U (alK tb k).auto, U (alK tb k).time, U (alK tb k).cycle] 136)
        have hv1 := heap_alloc_new wr (.cells #[I (ctrN tb k), I (plN tb k), U (alK tb k).auto, U (alK tb k).time, U (alK tb k).cycle] 136)
        have H1 : Hid (Bo (wr.alloc (.cells #[I (ctrN tb k), I (plN tb k), U (alK tb k).auto, U (alK tb k).time, U (alK tb k).cycle] 136)) zn tb B p ⟨s.v, xa, s.q⟩ ∧ Fz (Wr zn) w (wr.alloc (.cells #[I (ctrN tb k), I (plN tb k), U (alK tb k).auto, U (alK tb k).time, U (alK tb k).cycle] 136)) ∧ (wr.alloc (.cells #[I (ctrN tb k), I (plN tb k), U (alK tb k).auto, U (alK tb k).time, U (alK tb k).cycle] 136)).heap[wr.heap.size]? = some (.cells #[I (ctrN tb k), I (plN tb k), U (alK tb k).auto, U (alK tb k).time, U (alK tb k).cycle] 136) ∧ ¬ Wr zn wr.heap.size) := ⟨b.below hb1, z.alloc _, hv1, fun e => by have := b.zs wr.heap.size (by rcases e with e | e <;> omega); omega⟩
        clear HJ b z hb1 ev hv1
        subst ea
        go_upto_region 9 with fail
        clear d0 d1 d2 d3 d4
        generalize wr.alloc (.cells #[I (ctrN tb k), I (plN tb k), U (alK tb k).auto, U (alK tb k).time, U (alK tb k).cycle] 136) = w2 at *
        generalize wr.heap.size = X1 at *
        have hiK := (H1.out.1.ok.a k hlt).2.1
        have hiI : (ctrN tb k : Int) < tb.ctrs.length := by omega
        have hau := (H1.out.1.ok.a k hlt).2.2.1
        obtain ⟨gc, kc, ec, -⟩ := H1.out.1.ct hiK
        have HS : Hid (∀ W s', Bo W zn tb B p s' → W.heap[X1]? = some (.cells #[I (ctrN tb k), I (plN tb k), U (alK tb k).auto, U (alK tb k).time, U (alK tb k).cycle] 136) → (fun w' : World => w'.cell? ⟨B, 1, none⟩ = some (.slice (some ⟨gc, 0, none⟩) tb.ctrs.length kc) ∧ w'.cell? ⟨X1, 0, none⟩ = some (I (ctrN tb k)) ∧ w'.cell? ⟨X1, 1, none⟩ = some (I (plN tb k)) ∧ w'.cell? ⟨X1, 2, none⟩ = some (U (alK tb k).auto) ∧ w'.cell? ⟨X1, 3, none⟩ = some (U (alK tb k).time) ∧ w'.cell? ⟨X1, 4, none⟩ = some (U (alK tb k).cycle) ∧ w'.cell? ⟨gc, ctrN tb k * 5, none⟩ = some (cP (p.cb (ctrN tb k)))) W) := fun W s' hW hx => by
          obtain ⟨-, q1, -⟩ := hW.cells
          obtain ⟨g6, c6, e6, k0, -⟩ := hW.ct hiK
          rw [ec] at e6
          cases e6
          rw [ec] at q1
          exact ⟨q1, by rw [cell_of_row _ _ _ _ _ (0, 0) hx]; rfl, by rw [cell_of_row _ _ _ _ _ (0, 0) hx]; rfl, by rw [cell_of_row _ _ _ _ _ (0, 0) hx]; rfl, by rw [cell_of_row _ _ _ _ _ (0, 0) hx]; rfl, by rw [cell_of_row _ _ _ _ _ (0, 0) hx]; rfl, k0⟩
        obtain ⟨s1, s2, s3, s4, s5, s6, s7⟩ := HS.out w2 _ H1.out.1 H1.out.2.2.1
        cases hbit : (alK tb k).auto.testBit m with
        | false =>
          have HS2 : Hid (autL tb m s.a (k + 1) = (xa, xn)) := by show _ = _; rw [HS1.out, hbit]; rfl
          have cS : ∀ d os, Calls Tryz.prog 75 #[.agg #[I (ctrN tb k), I (plN tb k), U (alK tb k).auto, U (alK tb k).time, U (alK tb k).cycle], I m] (grow (redrawn w2 d) os) fun e w'' => e = .returned (.bool false) ∧ ∃ p : Regrown, w'' = grow (redrawn w2 p.d) p.os := fun d os => Calls.regrown_of (by
            have := starts_any (grow (redrawn w2 d) os) (ctrN tb k) (plN tb k) (alK tb k).auto (alK tb k).time (alK tb k).cycle m hau m8
            rwa [hbit] at this)
          have x0 := cell_regrown s2
          have x1 := cell_regrown s3
          have x2 := cell_regrown s4
          have x3 := cell_regrown s5
          have x4 := cell_regrown s6
          clear s1 s2 s3 s4 s5 s6 s7 HS1 hbit HS
          refine wp_region_quiet_below (by kernel_rfl) (by kernel_rfl) ?_
          repeat (go_big_quiet_step (first | exact cS _ _))
          refine wpQuiet_nil ?_
          rintro _ ⟨⟨dq, osq⟩, rfl⟩
          dsimp only
          have b0 := below_regrown w2 dq osq
          generalize grow (redrawn w2 dq) osq = w3 at *
          have H3 : Hid (Below w2.heap.size w2 w3) := b0
          clear b0 cS x0 x1 x2 x3 x4
          go_wp2
          go_roundw
          case rel => exact ⟨k + 1, by omega, by go_num, by rw [HS2.out], by rw [HS2.out]; exact ⟨H1.out.1.below H3.out, H1.out.2.1.trans (Fz.of_below H3.out)⟩⟩
          case measure => simp [intOf]; omega
        | true =>
          have hane : (alK tb k).auto ≠ 0 := fun e => by rw [e] at hbit; simp at hbit
          have cS := starts_any w2.drew (ctrN tb k) (plN tb k) (alK tb k).auto (alK tb k).time (alK tb k).cycle m hau m8
          rw [hbit] at cS HS1
          have HSet : Hid (∀ W, Below w2.heap.size w2 W → Calls Tryz.prog 76 #[cP (p.cb (ctrN tb k)), I (plN tb k), U (alK tb k).time, U (alK tb k).cycle] W fun e w' => e = .returned (I (if (xa k).1 ≠ 0 then 7 else 0)) ∧ Bo w' zn tb B p ⟨s.v, (if (xa k).1 = 0 then upN xa k ((alK tb k).time, (alK tb k).cycle) else xa), s.q⟩ ∧ Fz (Wr zn) W w') := fun W hb => bset (H1.out.1.below hb) hlt hane
          clear hbit
          by_cases hz : (xa k).1 = 0
          · have HS2 : Hid (autL tb m s.a (k + 1) = (upN xa k ((alK tb k).time, (alK tb k).cycle), xn + 1)) := by show _ = _; rw [HS1.out, hz]; rfl
            rw [if_neg (show ¬ (xa k).1 ≠ 0 by simpa using hz), if_pos hz] at HSet
            clear HS1 hz hane
            have hx64 : xn ≤ 64 := hc64
            go_region_held_law (fun w' : World => w'.cell? ⟨B, 1, none⟩ = some (.slice (some ⟨gc, 0, none⟩) tb.ctrs.length kc) ∧ w'.cell? ⟨X1, 0, none⟩ = some (I (ctrN tb k)) ∧ w'.cell? ⟨X1, 1, none⟩ = some (I (plN tb k)) ∧ w'.cell? ⟨X1, 2, none⟩ = some (U (alK tb k).auto) ∧ w'.cell? ⟨X1, 3, none⟩ = some (U (alK tb k).time) ∧ w'.cell? ⟨X1, 4, none⟩ = some (U (alK tb k).cycle) ∧ w'.cell? ⟨gc, ctrN tb k * 5, none⟩ = some (cP (p.cb (ctrN tb k)))) (first | exact ⟨s1, s2, s3, s4, s5, s6, s7⟩ | exact HY | exact HZ | (go_keep; done)) (first
              | (go_at_call 75; refine cS.mono ?_; clear cS; rintro e w3 ⟨rfl, b3⟩; have B3 : Below w2.heap.size w2 w3 := ((Below.refl _ w2).drew).trans b3; have hx3 := (B3.block X1 (heap_lt H1.out.2.2.1)).trans H1.out.2.2.1; have HY := HS.out w3 _ (H1.out.1.below B3) hx3; have hC := HSet.out w3 B3; have H3 : Hid (Below w2.heap.size w2 w3 ∧ w3.heap[X1]? = some (.cells #[I (ctrN tb k), I (plN tb k), U (alK tb k).auto, U (alK tb k).time, U (alK tb k).cycle] 136)) := ⟨B3, hx3⟩; clear B3 hx3 b3)
              | (go_at_call 76; refine hC.mono ?_; clear hC; rintro e w4 ⟨rfl, k4, z4⟩; have HZ := HS.out w4 _ k4 (z4.heap H3.out.2 H1.out.2.2.2); have H4 : Hid (Bo w4 zn tb B p ⟨s.v, upN xa k ((alK tb k).time, (alK tb k).cycle), s.q⟩ ∧ Fz (Wr zn) w w4) := ⟨k4, (H1.out.2.1.trans (Fz.of_below H3.out.1)).trans z4⟩; clear k4 z4))
            all_goals
              go_wp2
              go_roundw
              case rel => exact ⟨k + 1, by omega, by go_num, by rw [HS2.out]; go_num, by rw [HS2.out]; exact H4.out⟩
              case measure => simp [intOf]; omega
          · have HS2 : Hid (autL tb m s.a (k + 1) = (xa, xn)) := by show _ = _; rw [HS1.out, show decide ((xa k).1 = 0) = false by simpa using hz]; rfl
            rw [if_pos hz, if_neg hz] at HSet
            clear HS1 hz hane
            go_region_held_law (fun w' : World => w'.cell? ⟨B, 1, none⟩ = some (.slice (some ⟨gc, 0, none⟩) tb.ctrs.length kc) ∧ w'.cell? ⟨X1, 0, none⟩ = some (I (ctrN tb k)) ∧ w'.cell? ⟨X1, 1, none⟩ = some (I (plN tb k)) ∧ w'.cell? ⟨X1, 2, none⟩ = some (U (alK tb k).auto) ∧ w'.cell? ⟨X1, 3, none⟩ = some (U (alK tb k).time) ∧ w'.cell? ⟨X1, 4, none⟩ = some (U (alK tb k).cycle) ∧ w'.cell? ⟨gc, ctrN tb k * 5, none⟩ = some (cP (p.cb (ctrN tb k)))) (first | exact ⟨s1, s2, s3, s4, s5, s6, s7⟩ | exact HY | exact HZ | (go_keep; done)) (first
              | (go_at_call 75; refine cS.mono ?_; clear cS; rintro e w3 ⟨rfl, b3⟩; have B3 : Below w2.heap.size w2 w3 := ((Below.refl _ w2).drew).trans b3; have hx3 := (B3.block X1 (heap_lt H1.out.2.2.1)).trans H1.out.2.2.1; have HY := HS.out w3 _ (H1.out.1.below B3) hx3; have hC := HSet.out w3 B3; have H3 : Hid (Below w2.heap.size w2 w3 ∧ w3.heap[X1]? = some (.cells #[I (ctrN tb k), I (plN tb k), U (alK tb k).auto, U (alK tb k).time, U (alK tb k).cycle] 136)) := ⟨B3, hx3⟩; clear B3 hx3 b3)
              | (go_at_call 76; refine hC.mono ?_; clear hC; rintro e w4 ⟨rfl, k4, z4⟩; have HZ := HS.out w4 _ k4 (z4.heap H3.out.2 H1.out.2.2.2); have H4 : Hid (Bo w4 zn tb B p ⟨s.v, xa, s.q⟩ ∧ Fz (Wr zn) w w4) := ⟨k4, (H1.out.2.1.trans (Fz.of_below H3.out.1)).trans z4⟩; clear k4 z4))
            all_goals
              go_wp2
              go_roundw
              case rel => exact ⟨k + 1, by omega, by go_num, by rw [HS2.out], by rw [HS2.out]; exact H4.out⟩
              case measure => simp [intOf]; omega
      · obtain rfl : k = tb.als.length := by omega
        have hge : ¬ ((tb.als.length : Int) < tb.als.length) := by omega
        go_wp2
        go_ret2
        exact ⟨rfl, HJ.out.1, HJ.out.2⟩
end
end Go.Proofs.YthhckhifaolmkaaGreat

namespace Go.Proofs.YthhckhifaolmkaaGreat
open Go.RowKit Go.Shelf Go.Sort
open Go.Proofs.YthhckhifaolmkaaGreat.Cl (Fx Fz Ck Cb Alm psA dueA dueF U Q cP own_sl own_some own_below own_base inL ret_bool ret_int heap_lt iinfo cell_one_new take_snoc aftN)
set_option linter.unusedVariables false
set_option linter.unusedSimpArgs false

theorem ctinfo : (Tryz.prog.info? 85).map (fun i => (i.zero, i.size, i.bytes)) = some (some (.agg #[.pointer none, .int .u32 0, .int .u32 0, .int .u32 0, .slice none 0 0]), 5, 48) := by kernel_rfl
theorem getEm {W : World} {a : Addr} {xs : List Value} {j : Nat} (h : j < xs.length) (e : W.cell? a = xs[j]?) : ∃ y, W.cell? a = some y := ⟨_, e.trans (List.getElem?_eq_getElem h)⟩
theorem put5 {W : World} {b e n g c k : Nat} {xs : List Value} (o : W.ownsRow b e 5 (.slice (some ⟨g, 0, none⟩) n c) n xs) (hk : k < n) (a0 a1 a2 a3 a4 : Value) :
    (∃ y, W.cell? ⟨g, k * 5, none⟩ = some y) ∧ (∃ y, (W.setCell ⟨g, k * 5, none⟩ a0).cell? ⟨g, k * 5 + 1, none⟩ = some y) ∧ (∃ y, ((W.setCell ⟨g, k * 5, none⟩ a0).setCell ⟨g, k * 5 + 1, none⟩ a1).cell? ⟨g, k * 5 + 2, none⟩ = some y) ∧ (∃ y, (((W.setCell ⟨g, k * 5, none⟩ a0).setCell ⟨g, k * 5 + 1, none⟩ a1).setCell ⟨g, k * 5 + 2, none⟩ a2).cell? ⟨g, k * 5 + 3, none⟩ = some y) ∧ (∃ y, ((((W.setCell ⟨g, k * 5, none⟩ a0).setCell ⟨g, k * 5 + 1, none⟩ a1).setCell ⟨g, k * 5 + 2, none⟩ a2).setCell ⟨g, k * 5 + 3, none⟩ a3).cell? ⟨g, k * 5 + 4, none⟩ = some y) ∧
    W.frozen? ⟨g, k * 5, none⟩ = false ∧ (W.setCell ⟨g, k * 5, none⟩ a0).frozen? ⟨g, k * 5 + 1, none⟩ = false ∧ ((W.setCell ⟨g, k * 5, none⟩ a0).setCell ⟨g, k * 5 + 1, none⟩ a1).frozen? ⟨g, k * 5 + 2, none⟩ = false ∧ (((W.setCell ⟨g, k * 5, none⟩ a0).setCell ⟨g, k * 5 + 1, none⟩ a1).setCell ⟨g, k * 5 + 2, none⟩ a2).frozen? ⟨g, k * 5 + 3, none⟩ = false ∧ ((((W.setCell ⟨g, k * 5, none⟩ a0).setCell ⟨g, k * 5 + 1, none⟩ a1).setCell ⟨g, k * 5 + 2, none⟩ a2).setCell ⟨g, k * 5 + 3, none⟩ a3).frozen? ⟨g, k * 5 + 4, none⟩ = false ∧
    (((((W.setCell ⟨g, k * 5, none⟩ a0).setCell ⟨g, k * 5 + 1, none⟩ a1).setCell ⟨g, k * 5 + 2, none⟩ a2).setCell ⟨g, k * 5 + 3, none⟩ a3).setCell ⟨g, k * 5 + 4, none⟩ a4).ownsRow b e 5 (.slice (some ⟨g, 0, none⟩) n c) n (((((xs.set (k * 5) a0).set (k * 5 + 1) a1).set (k * 5 + 2) a2).set (k * 5 + 3) a3).set (k * 5 + 4) a4) ∧
    Fz (fun b => b = g) W (((((W.setCell ⟨g, k * 5, none⟩ a0).setCell ⟨g, k * 5 + 1, none⟩ a1).setCell ⟨g, k * 5 + 2, none⟩ a2).setCell ⟨g, k * 5 + 3, none⟩ a3).setCell ⟨g, k * 5 + 4, none⟩ a4) := by
  have hl := o.1
  have o1 := (o.stored (k * 5) a0).1
  have o2 := (o1.stored (k * 5 + 1) a1).1
  have o3 := (o2.stored (k * 5 + 2) a2).1
  have o4 := (o3.stored (k * 5 + 3) a3).1
  have o5 := (o4.stored (k * 5 + 4) a4).1
  exact ⟨getEm (by omega) (o.cellAt _ (by omega)), getEm (by simp; omega) (o1.cellAt _ (by omega)), getEm (by simp; omega) (o2.cellAt _ (by omega)), getEm (by simp; omega) (o3.cellAt _ (by omega)), getEm (by simp; omega) (o4.cellAt _ (by omega)), o.frozenAt _, o1.frozenAt _, o2.frozenAt _, o3.frozenAt _, o4.frozenAt _, o5, (((((Fz.refl (fun b => b = g) W).set (.inl rfl) _ _).set (.inl rfl) _ _).set (.inl rfl) _ _).set (.inl rfl) _ _).set (.inl rfl) _ _⟩
/-- a counter's row, its clock in the block cb i -/
def ctRn (tb : Tb) (cb : Nat → Nat) (ca : Nat → Sl) (i : Nat) : List Value := [cP (cb i), U (ctK tb i).max, U (ctK tb i).base, U (ctK tb i).min, slT (ca i)]
theorem Fil.congr {f g : Nat → List Value} {m n k : Nat} {xs : List Value} (h : Fil f m n k xs) (e : ∀ i, i < k → f i = g i) : Fil g m n k xs := ⟨h.1, fun i hi j hj => by rw [← e i hi]; exact h.2 i hi j hj⟩
abbrev bdB (tb : Tb) (p : Pl) (s : Bs) (v : Value) : Obj := .cells #[I tb.modes, v, slT p.va, slT p.vi, B8 (s.q 0), B8 (s.q 1), B8 (s.q 2), B8 (s.q 3)] 61
/-- A board's copy, while its counters are copied. -/
structure Cy (w wr : World) (tb : Tb) (p : Pl) (s : Bs) (k : Nat) (cb : Nat → Nat) (cv : Nat → Value) (zk : Nat → Nat) : Prop where
  b : Below w.heap.size w wr
  o : wr.heap[w.heap.size]? = some (bdB tb p s (.slice (some ⟨w.heap.size + 1, 0, none⟩) tb.ctrs.length tb.ctrs.length))
  c : ∃ xs, wr.ownsRow (w.heap.size + 1) 85 5 (.slice (some ⟨w.heap.size + 1, 0, none⟩) tb.ctrs.length tb.ctrs.length) tb.ctrs.length xs ∧ Fil (ctRn tb cb p.ca) 5 tb.ctrs.length k xs
  k : Cks wr tb (w.heap.size + 2) k cb cv zk s.v s.a
/-- the blocks of a copy -/
def cpZ (N : Nat) (zn zk : Nat → Nat) (b : Nat) : Nat := if b = N then 1 else if b = N + 1 then 2 else if zk b ≠ 0 then zk b else if zn b = 3 ∨ zn b = 4 ∨ zn b = 5 then zn b else 0
section
variable {w w' wr : World} {zn : Nat → Nat} {tb : Tb} {B : Nat} {p : Pl} {s : Bs}
theorem Cy.bo {cb : Nat → Nat} {cv : Nat → Value} {zk : Nat → Nat} (h : Bo w zn tb B p s) (c : Cy w wr tb p s tb.ctrs.length cb cv zk) :
    Bo wr (cpZ w.heap.size zn zk) tb w.heap.size ⟨⟨some ⟨w.heap.size + 1, 0, none⟩, tb.ctrs.length, tb.ctrs.length⟩, p.va, p.vi, cb, cv, p.ca⟩ s ∧ (∀ b, Wr (cpZ w.heap.size zn zk) b → w.heap.size ≤ b) ∧ (∀ b, cpZ w.heap.size zn zk b ≠ 0 → ¬ Wr zn b) := by
  have h' := h.below c.b
  obtain ⟨xs, o, hF⟩ := c.c
  have hN := heap_lt c.o
  have hN1 : w.heap.size + 1 < wr.heap.size := (o.lt _ rfl).2
  have old : ∀ b, zn b = 3 ∨ zn b = 4 ∨ zn b = 5 → cpZ w.heap.size zn zk b = zn b := fun b hb => by
    have := h.zs b (by omega)
    unfold cpZ
    rw [if_neg (by omega), if_neg (by omega), if_neg (fun e => by have := (c.k.s b e).1; omega), if_pos hb]
  refine ⟨⟨c.o, ?_, h'.a, h'.i, c.k.c, h'.n, ?_, ?_, ?_, ?_, ?_, ?_, ?_, h.ok, h.q, h.l⟩, ?_, ?_⟩
  · rw [hF.all (by omega) (fun _ => rfl)] at o
    exact own_base o (Nat.zero_le _)
  · unfold cpZ; rw [if_pos rfl]
  · intro b e
    have : w.heap.size + 1 = b := by simpa [Value.ownBlock] using e
    subst this
    unfold cpZ
    rw [if_neg (by omega), if_pos rfl]
  · intro b e; rw [old b (by rw [h.za b e]; omega)]; exact h.za b e
  · intro b e; rw [old b (by rw [h.zi b e]; omega)]; exact h.zi b e
  · intro i hi b hb
    have := c.k.z i hi b hb
    have := c.k.s b (by omega)
    unfold cpZ
    rw [if_neg (by omega), if_neg (by omega), if_pos (by omega)]
    exact c.k.z i hi b hb
  · intro i hi b e; rw [old b (by rw [h.zm i hi b e]; omega)]; exact h.zm i hi b e
  · intro b hb
    unfold cpZ at hb
    split at hb
    · omega
    · split at hb
      · omega
      · split at hb
        · rename_i e; exact (c.k.s b e).2.1
        · split at hb
          · rename_i e; have := h.zs b (by omega); have := c.b.size; omega
          · exact absurd rfl hb
  · intro b hb
    have hz : cpZ w.heap.size zn zk b ≠ 0 := by rcases hb with e | e <;> omega
    unfold Wr cpZ at hb
    split at hb
    · omega
    · split at hb
      · omega
      · split at hb
        · rename_i e; have := (c.k.s b e).1; omega
        · split at hb
          · rename_i e; omega
          · omega
  · intro b hb e
    have hb2 := h.zs b (by rcases e with e | e <;> omega)
    unfold cpZ at hb
    split at hb
    · omega
    · split at hb
      · omega
      · split at hb
        · rename_i e2; have := (c.k.s b e2).1; omega
        · split at hb
          · rename_i e2; rcases e with e | e <;> omega
          · exact absurd rfl hb
set_option maxRecDepth 100000 in
set_option maxHeartbeats 8000000 in
theorem bCopy (h : Bo w zn tb B p s) : Calls Tryz.prog 18 #[bP B] w fun e w' => ∃ B2, e = .returned (bP B2) ∧ ∃ p2 zn2, Bo w' zn2 tb B2 p2 s ∧ (∀ b, Wr zn2 b → w.heap.size ≤ b) ∧ (∀ b, zn2 b ≠ 0 → ¬ Wr zn b) ∧ Below w.heap.size w w' := by
  obtain ⟨i0, hi0, hz0, hz1, hz2⟩ := info_parts ctinfo
  obtain ⟨c0, c1, c2, c3, c4, c5, c6, c7⟩ := h.cells
  have hN := bnone_any h
  have hn := h.ok.nk
  obtain ⟨a, cc, hv⟩ := own_sl h.c
  rw [hv] at c1
  have hb0 := below_alloc w (bdB tb p s (.slice a tb.ctrs.length cc))
  have hV0 := heap_alloc_new w (bdB tb p s (.slice a tb.ctrs.length cc))
  have hs0 : (w.alloc (bdB tb p s (.slice a tb.ctrs.length cc))).heap.size = w.heap.size + 1 := by simp
  have h0 := h.below hb0
  obtain ⟨w1, hmk, ho1, hg1⟩ := run_make_full (P := Tryz.prog) (w.alloc (bdB tb p s (.slice a tb.ctrs.length cc))) (w.heap.size + 1) 55 85 i0 _ 5 Tryz.underlying55 hi0 hz0 hz1 .i64 .i64 tb.ctrs.length (by rw [hz2]; omega) (by unfold maxLen; omega) (by simp)
  obtain ⟨-, d1, -⟩ := h0.cells
  rw [hv] at d1
  have HH : Hid (Bo w zn tb B p s ∧ slT p.vc = .slice a tb.ctrs.length cc) := ⟨h, hv⟩
  clear h h0 hv
  go_enter Tryz.func18, Tryz.ntmps18
  go_upto_region 4 with (first | (go_at_call 28; refine hN.mono ?_; rintro e w1 ⟨rfl, rfl⟩))
  have hg1s := hg1.size
  have hq1 : w1.heap[w.heap.size]? = some (bdB tb p s (.slice a tb.ctrs.length cc)) := (hg1.block _ (by simp) (by simp)).trans hV0
  have b1 : Below w.heap.size w w1 := hb0.trans ((⟨hg1.os, hg1.tape, hg1.output, hg1.size, fun i hi => hg1.block i hi (by simp)⟩ : Below _ _ w1).mono hb0.size)
  have x1 : w1.cell? ⟨w.heap.size, 1, none⟩ = some (.slice a tb.ctrs.length cc) := by rw [cell_of_row _ _ _ _ _ (0, 0) hq1]; rfl
  have y1 := frozen_of_row w1 w.heap.size 1 _ _ hq1
  rw [hs0] at hmk ho1
  have F1 : Fz (fun b => b = w.heap.size) w1 (w1.setCell ⟨w.heap.size, 1, none⟩ (.slice (some ⟨w.heap.size + 1, 0, none⟩) tb.ctrs.length tb.ctrs.length)) := (Fz.refl (fun b => b = w.heap.size) w1).set (.inl rfl) _ _
  have H1 : Hid (Cy w (w1.setCell ⟨w.heap.size, 1, none⟩ (.slice (some ⟨w.heap.size + 1, 0, none⟩) tb.ctrs.length tb.ctrs.length)) tb p s 0 (fun _ => 0) (fun _ => .pointer none) (fun _ => 0)) := ⟨below_set b1 (Nat.le_refl _), heap_setCell_same _ _ 1 _ _ _ hq1, ⟨_, F1.own ho1 (fun g e e3 => by have e2 : w.heap.size + 1 = g := Option.some.inj e; have e4 : g = w.heap.size := e3; omega), Fil.zero _ (by simp [size_madeCells])⟩, Cks.zero _ _ _ _ _⟩
  have z1 : (w1.setCell ⟨w.heap.size, 1, none⟩ (.slice (some ⟨w.heap.size + 1, 0, none⟩) tb.ctrs.length tb.ctrs.length)).cell? ⟨B, 1, none⟩ = some (.slice a tb.ctrs.length cc) := by
    obtain ⟨-, q, -⟩ := (HH.out.1.below H1.out.b).cells
    rw [q, HH.out.2]
  clear c0 c1 c2 c3 c4 c5 c6 c7 hb0 hV0 ho1 hg1 hq1 b1 F1 hs0 hN hg1s
  go_upto_region 5 with fail
  clear hmk x1 y1 d1
  generalize w1.setCell ⟨w.heap.size, 1, none⟩ (.slice (some ⟨w.heap.size + 1, 0, none⟩) tb.ctrs.length tb.ctrs.length) = w2 at *
  go_wp2
  clear z1
  go_loopw [4, 5, 23] (fun _ _ v23 wr => ∃ k : Nat, k ≤ tb.ctrs.length ∧ v23 = I k ∧ Hid (∃ cb cv zk, Cy w wr tb p s k cb cv zk)) (fun _ _ v23 _ => tb.ctrs.length - (intOf v23).toNat)
  case atStart => exact ⟨0, by omega, rfl, _, _, _, H1.out⟩
  case round =>
    clear H1
    obtain ⟨k, hk, rfl, HJ⟩ := hrel
    by_cases hlt : k < tb.ctrs.length
    · have hltI : (k : Int) < tb.ctrs.length := by omega
      obtain ⟨cb, cv, zk, hJ⟩ := HJ.out
      have hr := HH.out.1.below hJ.b
      obtain ⟨g, c, ev, q0, q1, q2, q3, q4⟩ := hr.ct hlt
      have ea : a = some ⟨g, 0, none⟩ := by have := HH.out.2; rw [this] at ev; cases ev; rfl
      have hb1 := below_alloc wr (.cells #[cP (p.cb k), U (ctK tb k).max, U (ctK tb k).base, U (ctK tb k).min, slT (p.ca k)] 85)
      have hv1 := heap_alloc_new wr (.cells #[cP (p.cb k), U (ctK tb k).max, U (ctK tb k).base, U (ctK tb k).min, slT (p.ca k)] 85)
      have hsr := hJ.b.size
      obtain ⟨xs, ox, hF⟩ := hJ.c
      have hlr : w.heap.size + 1 < wr.heap.size := (ox.lt _ rfl).2
      have H2 : Hid (Bo (wr.alloc (.cells #[cP (p.cb k), U (ctK tb k).max, U (ctK tb k).base, U (ctK tb k).min, slT (p.ca k)] 85)) zn tb B p s ∧ Below w.heap.size w (wr.alloc (.cells #[cP (p.cb k), U (ctK tb k).max, U (ctK tb k).base, U (ctK tb k).min, slT (p.ca k)] 85)) ∧ (wr.alloc (.cells #[cP (p.cb k), U (ctK tb k).max, U (ctK tb k).base, U (ctK tb k).min, slT (p.ca k)] 85)).heap[w.heap.size]? = some (bdB tb p s (.slice (some ⟨w.heap.size + 1, 0, none⟩) tb.ctrs.length tb.ctrs.length)) ∧ (wr.alloc (.cells #[cP (p.cb k), U (ctK tb k).max, U (ctK tb k).base, U (ctK tb k).min, slT (p.ca k)] 85)).ownsRow (w.heap.size + 1) 85 5 (.slice (some ⟨w.heap.size + 1, 0, none⟩) tb.ctrs.length tb.ctrs.length) tb.ctrs.length xs ∧ Fil (ctRn tb cb p.ca) 5 tb.ctrs.length k xs ∧ Cks (wr.alloc (.cells #[cP (p.cb k), U (ctK tb k).max, U (ctK tb k).base, U (ctK tb k).min, slT (p.ca k)] 85)) tb (w.heap.size + 2) k cb cv zk s.v s.a ∧ (wr.alloc (.cells #[cP (p.cb k), U (ctK tb k).max, U (ctK tb k).base, U (ctK tb k).min, slT (p.ca k)] 85)).heap[wr.heap.size]? = some (.cells #[cP (p.cb k), U (ctK tb k).max, U (ctK tb k).base, U (ctK tb k).min, slT (p.ca k)] 85) ∧ w.heap.size + 1 < wr.heap.size) := ⟨hr.below hb1, hJ.b.trans (hb1.mono hsr), (hb1.block _ (heap_lt hJ.o)).trans hJ.o, own_below ox hb1, hF, hJ.k.below hb1, hv1, hlr⟩
      clear HJ hJ hr ev hb1 hv1 hsr ox hF hlr
      subst ea
      go_upto_region 8 with fail
      clear q0 q1 q2 q3 q4
      generalize wr.alloc (.cells #[cP (p.cb k), U (ctK tb k).max, U (ctK tb k).base, U (ctK tb k).min, slT (p.ca k)] 85) = w4 at *
      generalize wr.heap.size = X1 at *
      have hA := balike (H2.out.1.below ((Below.refl _ w4).drew)) hlt
      have t1 : w4.cell? ⟨w.heap.size, 1, none⟩ = some (.slice (some ⟨w.heap.size + 1, 0, none⟩) tb.ctrs.length tb.ctrs.length) := by rw [cell_of_row _ _ _ _ _ (0, 0) H2.out.2.2.1]; rfl
      have x0 : w4.cell? ⟨X1, 0, none⟩ = some (cP (p.cb k)) := by rw [cell_of_row _ _ _ _ _ (0, 0) H2.out.2.2.2.2.2.2.1]; rfl
      have x1 : w4.cell? ⟨X1, 1, none⟩ = some (U (ctK tb k).max) := by rw [cell_of_row _ _ _ _ _ (0, 0) H2.out.2.2.2.2.2.2.1]; rfl
      have x2 : w4.cell? ⟨X1, 2, none⟩ = some (U (ctK tb k).base) := by rw [cell_of_row _ _ _ _ _ (0, 0) H2.out.2.2.2.2.2.2.1]; rfl
      have x3 : w4.cell? ⟨X1, 3, none⟩ = some (U (ctK tb k).min) := by rw [cell_of_row _ _ _ _ _ (0, 0) H2.out.2.2.2.2.2.2.1]; rfl
      have x4 : w4.cell? ⟨X1, 4, none⟩ = some (slT (p.ca k)) := by rw [cell_of_row _ _ _ _ _ (0, 0) H2.out.2.2.2.2.2.2.1]; rfl
      have HS : Hid (∀ W, W.heap[w.heap.size]? = some (bdB tb p s (.slice (some ⟨w.heap.size + 1, 0, none⟩) tb.ctrs.length tb.ctrs.length)) → W.heap[X1]? = some (.cells #[cP (p.cb k), U (ctK tb k).max, U (ctK tb k).base, U (ctK tb k).min, slT (p.ca k)] 85) → (fun w' : World => w'.cell? ⟨w.heap.size, 1, none⟩ = some (.slice (some ⟨w.heap.size + 1, 0, none⟩) tb.ctrs.length tb.ctrs.length) ∧ w'.cell? ⟨X1, 0, none⟩ = some (cP (p.cb k)) ∧ w'.cell? ⟨X1, 1, none⟩ = some (U (ctK tb k).max) ∧ w'.cell? ⟨X1, 2, none⟩ = some (U (ctK tb k).base) ∧ w'.cell? ⟨X1, 3, none⟩ = some (U (ctK tb k).min) ∧ w'.cell? ⟨X1, 4, none⟩ = some (slT (p.ca k))) W) := fun W e1 e2 => ⟨by rw [cell_of_row _ _ _ _ _ (0, 0) e1]; rfl, by rw [cell_of_row _ _ _ _ _ (0, 0) e2]; rfl, by rw [cell_of_row _ _ _ _ _ (0, 0) e2]; rfl, by rw [cell_of_row _ _ _ _ _ (0, 0) e2]; rfl, by rw [cell_of_row _ _ _ _ _ (0, 0) e2]; rfl, by rw [cell_of_row _ _ _ _ _ (0, 0) e2]; rfl⟩
      go_region_held_law (fun w' : World => w'.cell? ⟨w.heap.size, 1, none⟩ = some (.slice (some ⟨w.heap.size + 1, 0, none⟩) tb.ctrs.length tb.ctrs.length) ∧ w'.cell? ⟨X1, 0, none⟩ = some (cP (p.cb k)) ∧ w'.cell? ⟨X1, 1, none⟩ = some (U (ctK tb k).max) ∧ w'.cell? ⟨X1, 2, none⟩ = some (U (ctK tb k).base) ∧ w'.cell? ⟨X1, 3, none⟩ = some (U (ctK tb k).min) ∧ w'.cell? ⟨X1, 4, none⟩ = some (slT (p.ca k))) (first | with_reducible exact ⟨t1, x0, x1, x2, x3, x4⟩ | with_reducible exact HY | with_reducible exact HZ | (go_keep; done)) (first | (go_at_call 44; refine hA.mono ?_; clear hA; rintro e w5 ⟨B2, v2, rfl, k5, n5, b5⟩; obtain ⟨hB4, b4, e4, o4, hF4, K4, v4, l4⟩ := H2.out; have B5 : Below w4.heap.size w4 w5 := ((Below.refl _ w4).drew).trans b5; have e5 := (B5.block _ (heap_lt e4)).trans e4; have v5 := (B5.block _ (heap_lt v4)).trans v4; have HY := HS.out w5 e5 v5; have o5 := own_below o4 B5; obtain ⟨⟨y0, p0⟩, ⟨y1, p1⟩, ⟨y2, p2⟩, ⟨y3, p3⟩, ⟨y4, p4⟩, f0, f1, f2, f3, f4, o6, F6⟩ := put5 o5 hlt (cP B2) (U (ctK tb k).max) (U (ctK tb k).base) (U (ctK tb k).min) (slT (p.ca k)); have K5 := K4.next B5 (by have := heap_lt v4; omega) k5 (fun b hb => by have := n5 b hb; show w4.heap.size ≤ b; have : w4.drew.heap.size = w4.heap.size := rfl; omega); have e6 := F6.heap e5 (by omega); have v6 := F6.heap v5 (by omega); have HZ := HS.out _ e6 v6; have K6 := K5.keep F6 (fun b hb e => by have := (K5.s b hb).1; omega); have H6 : Hid (∃ cb cv zk, Cy w (((((w5.setCell ⟨w.heap.size + 1, k * 5, none⟩ (cP B2)).setCell ⟨w.heap.size + 1, k * 5 + 1, none⟩ (U (ctK tb k).max)).setCell ⟨w.heap.size + 1, k * 5 + 2, none⟩ (U (ctK tb k).base)).setCell ⟨w.heap.size + 1, k * 5 + 3, none⟩ (U (ctK tb k).min)).setCell ⟨w.heap.size + 1, k * 5 + 4, none⟩ (slT (p.ca k))) tb p s (k + 1) cb cv zk) := ⟨_, _, _, (b4.trans (B5.mono b4.size)).trans (F6.below (by have := b4.size; have := B5.size; omega) (by rintro b rfl; omega)), e6, ⟨_, o6, (hF4.congr (fun i hi => by show ctRn tb cb p.ca i = ctRn tb (upN cb k B2) p.ca i; unfold ctRn; rw [upN_ne _ _ (by omega)])).five hlt (by show ctRn tb (upN cb k B2) p.ca k = _; unfold ctRn; rw [upN_same])⟩, K6⟩; clear hB4 b4 e4 o4 hF4 K4 v4 l4 B5 e5 v5 o5 o6 F6 K5 e6 v6 K6 k5 n5 b5))
      all_goals
        go_wp2
        go_roundw
        case rel => exact ⟨k + 1, by omega, by go_num, H6.out⟩
        case measure => simp [intOf]; omega
    · obtain rfl : k = tb.ctrs.length := by omega
      have hge : ¬ ((tb.ctrs.length : Int) < tb.ctrs.length) := by omega
      go_wp2
      go_ret
      obtain ⟨cb, cv, zk, hJ⟩ := HJ.out
      obtain ⟨r1, r2, r3⟩ := hJ.bo HH.out.1
      exact ⟨w.heap.size, rfl, _, _, r1, r2, r3, hJ.b⟩
end
end Go.Proofs.YthhckhifaolmkaaGreat

namespace Go.Proofs.YthhckhifaolmkaaGreat
open Go.RowKit Go.Shelf Go.Sort
open Go.Proofs.YthhckhifaolmkaaGreat.Cl (Fx Fz Ck Cb Alm psA dueA dueF U Q cP own_sl own_some own_below own_base inL ret_bool ret_int heap_lt iinfo cell_one_new take_snoc aftN)
set_option linter.unusedVariables false
set_option linter.unusedSimpArgs false

/-! ### A board that no call made -/
def NoB (w : World) (v : Value) : Prop := v = .pointer none ∨ ∃ B, v = bP B ∧ w.cell? ⟨B, 0, none⟩ = some (I 0)
theorem NoB.below {w w' : World} {v : Value} (h : NoB w v) (hb : Below w.heap.size w w') : NoB w' v := by
  rcases h with h | ⟨B, h, hc⟩
  · exact .inl h
  · exact .inr ⟨B, h, (World.cell?_of_block (hb.block B (World.block_lt_of_cell? w _ hc))).trans hc⟩
section
variable {w w' : World} {v : Value}
theorem nNone (h : NoB w v) : Calls Tryz.prog 28 #[v] w fun e w' => e = .returned (.bool true) ∧ w = w' := by
  rcases h with rfl | ⟨B, rfl, hc⟩
  · exact bnone_nil w
  · exact bnone_zero w B hc
theorem nTick (h : NoB w v) (t : Int) : Calls Tryz.prog 9 #[v, I t] w fun e w' => e = .returned (.tuple #[.slice none 0 0, I 1]) ∧ Below w.heap.size w w' := by
  have hN := nNone h
  go_enter Tryz.func9, Tryz.ntmps9
  go_wp2_with (first | (go_at_call 28; refine hN.mono ?_; rintro e w1 ⟨rfl, rfl⟩))
  go_ret2
  exact ⟨rfl, Below.refl _ _⟩
theorem nAuto (h : NoB w v) (t : Int) : Calls Tryz.prog 40 #[v, I t] w fun e w' => e = .returned (.tuple #[I 0, I 1]) ∧ Below w.heap.size w w' := by
  have hN := nNone h
  go_enter Tryz.func40, Tryz.ntmps40
  go_wp2_with (first | (go_at_call 28; refine hN.mono ?_; rintro e w1 ⟨rfl, rfl⟩))
  go_ret2
  exact ⟨rfl, Below.refl _ _⟩
theorem nNext (h : NoB w v) (t : Int) (g : Gt) : Calls Tryz.prog 23 #[v, I t, gtV g] w fun e w' => e = .returned (.tuple #[I (-1), .bool false]) ∧ Below w.heap.size w w' := by
  have hN := fun o => nNone (h.below (below_alloc w o))
  have hb := fun o => below_alloc w o
  go_enter Tryz.func23, Tryz.ntmps23
  go_wp2_with (first | (go_at_call 28; refine (hN _).mono ?_; rintro e w1 ⟨rfl, rfl⟩))
  go_ret2
  exact ⟨rfl, hb _⟩
theorem nCounters (h : NoB w v) : Calls Tryz.prog 24 #[v] w fun e w' => e = .returned (.slice none 0 0) ∧ Below w.heap.size w w' := by
  have hN := nNone h
  go_enter Tryz.func24, Tryz.ntmps24
  go_wp2_with (first | (go_at_call 28; refine hN.mono ?_; rintro e w1 ⟨rfl, rfl⟩))
  go_ret
  exact ⟨rfl, Below.refl _ _⟩
theorem nAlarms (h : NoB w v) : Calls Tryz.prog 41 #[v] w fun e w' => e = .returned (.slice none 0 0) ∧ Below w.heap.size w w' := by
  have hN := nNone h
  go_enter Tryz.func41, Tryz.ntmps41
  go_wp2_with (first | (go_at_call 28; refine hN.mono ?_; rintro e w1 ⟨rfl, rfl⟩))
  go_ret
  exact ⟨rfl, Below.refl _ _⟩
theorem nRequested (h : NoB w v) : Calls Tryz.prog 42 #[v] w fun e w' => e = .returned (.slice none 0 0) ∧ Below w.heap.size w w' := by
  have hN := nNone h
  go_enter Tryz.func42, Tryz.ntmps42
  go_wp2_with (first | (go_at_call 28; refine hN.mono ?_; rintro e w1 ⟨rfl, rfl⟩))
  go_ret
  exact ⟨rfl, Below.refl _ _⟩
theorem nIsr (h : NoB w v) (t : Int) : Calls Tryz.prog 34 #[v, I t] w fun e w' => e = .returned (.bool false) ∧ w = w' := by
  have hN := nNone h
  go_enter Tryz.func34, Tryz.ntmps34
  go_wp2_with (first | (go_at_call 28; refine hN.mono ?_; rintro e w1 ⟨rfl, rfl⟩))
  go_ret
  exact ⟨rfl, rfl⟩
theorem nRequest (h : NoB w v) (t : Int) : Calls Tryz.prog 13 #[v, I t] w fun e w' => e = .returned (I 3) ∧ Below w.heap.size w w' := by
  have hN := nIsr h t
  go_enter Tryz.func13, Tryz.ntmps13
  go_wp2_with (first | (go_at_call 34; refine hN.mono ?_; rintro e w1 ⟨rfl, rfl⟩))
  go_ret
  exact ⟨rfl, Below.refl _ _⟩
theorem nServe (h : NoB w v) (t : Int) : Calls Tryz.prog 14 #[v, I t] w fun e w' => e = .returned (I 1) ∧ Below w.heap.size w w' := by
  have hN := nNone h
  go_enter Tryz.func14, Tryz.ntmps14
  go_wp2_with (first | (go_at_call 28; refine hN.mono ?_; rintro e w1 ⟨rfl, rfl⟩))
  go_ret
  exact ⟨rfl, Below.refl _ _⟩
theorem nCalm (h : NoB w v) : Calls Tryz.prog 20 #[v] w fun e w' => e = .returned (I 1) ∧ Below w.heap.size w w' := by
  have hN := nNone h
  go_enter Tryz.func20, Tryz.ntmps20
  go_wp2_with (first | (go_at_call 28; refine hN.mono ?_; rintro e w1 ⟨rfl, rfl⟩))
  go_ret
  exact ⟨rfl, Below.refl _ _⟩
theorem nCopy (h : NoB w v) : Calls Tryz.prog 18 #[v] w fun e w' => e = .returned (.pointer none) ∧ Below w.heap.size w w' := by
  have hN := nNone h
  go_enter Tryz.func18, Tryz.ntmps18
  go_wp2_with (first | (go_at_call 28; refine hN.mono ?_; rintro e w1 ⟨rfl, rfl⟩))
  go_ret
  exact ⟨rfl, Below.refl _ _⟩
theorem nfind (h : NoB w v) (t : Int) : Calls Tryz.prog 30 #[v, I t] w fun e w' => e = .returned (.tuple #[noC, I 0, I 3]) ∧ Below w.heap.size w w' := by
  have hN := fun o => nNone (h.below (below_alloc w o))
  have hb := fun o => below_alloc w o
  have hV := heap_alloc_new w zC
  go_enter Tryz.func30, Tryz.ntmps30
  go_wp2_with (first | (go_at_call 28; refine (hN _).mono ?_; rintro e w1 ⟨rfl, rfl⟩))
  refine bodyPost_ret (res_find Tryz.results30 _ w.heap.size _ _ _ _ _ _ _ _ rfl rfl rfl hV) rfl ?_
  exact ⟨rfl, hb _⟩
theorem nLeft (h : NoB w v) (t : Int) : Calls Tryz.prog 15 #[v, I t] w fun e w' => e = .returned (.tuple #[U 0, I 3]) ∧ Below w.heap.size w w' := by
  have hF := nfind h t
  go_enter Tryz.func15, Tryz.ntmps15
  go_wp2_with (first | (go_at_call 30; refine hF.mono ?_; clear hF; rintro e w1 ⟨rfl, b1⟩))
  go_ret2
  exact ⟨rfl, b1.trans ((below_alloc w1 _).mono b1.size)⟩
theorem nRel (h : NoB w v) (t : Int) (f cy : Nat) : Calls Tryz.prog 11 #[v, I t, U f, U cy] w fun e w' => e = .returned (I 3) ∧ Below w.heap.size w w' := by
  have hF := nfind h t
  go_enter Tryz.func11, Tryz.ntmps11
  go_wp2_with (first | (go_at_call 30; refine hF.mono ?_; clear hF; rintro e w1 ⟨rfl, b1⟩))
  go_ret
  exact ⟨rfl, b1.trans ((below_alloc w1 _).mono b1.size)⟩
theorem nAbs (h : NoB w v) (t : Int) (f cy : Nat) : Calls Tryz.prog 10 #[v, I t, U f, U cy] w fun e w' => e = .returned (I 3) ∧ Below w.heap.size w w' := by
  have hF := nfind h t
  go_enter Tryz.func10, Tryz.ntmps10
  go_wp2_with (first | (go_at_call 30; refine hF.mono ?_; clear hF; rintro e w1 ⟨rfl, b1⟩))
  go_ret
  exact ⟨rfl, b1.trans ((below_alloc w1 _).mono b1.size)⟩
theorem nCancel (h : NoB w v) (t : Int) : Calls Tryz.prog 12 #[v, I t] w fun e w' => e = .returned (I 3) ∧ Below w.heap.size w w' := by
  have hF := nfind h t
  go_enter Tryz.func12, Tryz.ntmps12
  go_wp2_with (first | (go_at_call 30; refine hF.mono ?_; clear hF; rintro e w1 ⟨rfl, b1⟩))
  go_ret
  exact ⟨rfl, b1.trans ((below_alloc w1 _).mono b1.size)⟩
set_option maxRecDepth 100000 in
theorem nBase (h : NoB w v) (t : Int) : Calls Tryz.prog 39 #[v, I t] w fun e w' => e = .returned (.tuple #[.agg #[U 0, U 0, U 0], I 3]) ∧ Below w.heap.size w w' := by
  have hb0 := below_alloc w z3
  have hV0 := heap_alloc_new w z3
  have hF := nfind (h.below hb0) t
  clear h
  go_enter Tryz.func39, Tryz.ntmps39
  go_upto_region 2 with (first | (go_at_call 30; refine hF.mono ?_; clear hF; rintro e w1 ⟨rfl, b1⟩))
  have b2 := below_alloc w1 zC
  have hv2 := heap_alloc_new w1 zC
  have hq := (b2.block _ (heap_lt ((b1.block _ (heap_lt hV0)).trans hV0))).trans ((b1.block _ (heap_lt hV0)).trans hV0)
  have BB : Hid (Below w.heap.size w (w1.alloc zC)) := hb0.trans ((b1.trans (b2.mono b1.size)).mono hb0.size)
  clear b1 b2 hV0 hb0
  generalize w1.alloc zC = W at *
  generalize w1.heap.size = X1 at *
  have y1 : W.cell? ⟨X1, 1, none⟩ = some (U 0) := by rw [cell_of_row _ _ _ _ _ (0, 0) hv2]; rfl
  have y2 : W.cell? ⟨X1, 2, none⟩ = some (U 0) := by rw [cell_of_row _ _ _ _ _ (0, 0) hv2]; rfl
  have y3 : W.cell? ⟨X1, 3, none⟩ = some (U 0) := by rw [cell_of_row _ _ _ _ _ (0, 0) hv2]; rfl
  have hq1 := heap_setCell_same W w.heap.size 0 _ _ (U 0) hq
  have hq2 := heap_setCell_same _ w.heap.size 1 _ _ (U 0) hq1
  have hq3 := heap_setCell_same _ w.heap.size 2 _ _ (U 0) hq2
  have x0 : W.cell? ⟨w.heap.size, 0, none⟩ = some (.int .u32 0) := by rw [cell_of_row _ _ _ _ _ (0, 0) hq]; rfl
  have x1 : (W.setCell ⟨w.heap.size, 0, none⟩ (U 0)).cell? ⟨w.heap.size, 1, none⟩ = some (.int .u32 0) := by rw [cell_of_row _ _ _ _ _ (0, 0) hq1]; rfl
  have x2 : ((W.setCell ⟨w.heap.size, 0, none⟩ (U 0)).setCell ⟨w.heap.size, 1, none⟩ (U 0)).cell? ⟨w.heap.size, 2, none⟩ = some (.int .u32 0) := by rw [cell_of_row _ _ _ _ _ (0, 0) hq2]; rfl
  have f0 := frozen_of_row W w.heap.size 0 _ _ hq
  have f1 := frozen_of_row _ w.heap.size 1 _ _ hq1
  have f2 := frozen_of_row _ w.heap.size 2 _ _ hq2
  clear hq hq1 hq2 hv2
  go_wp2
  refine bodyPost_ret (res_base Tryz.results39 _ w.heap.size _ _ _ _ _ rfl rfl hq3) rfl ?_
  exact ⟨rfl, below_set (below_set (below_set BB.out (Nat.le_refl _)) (Nat.le_refl _)) (Nat.le_refl _)⟩
end
end Go.Proofs.YthhckhifaolmkaaGreat

