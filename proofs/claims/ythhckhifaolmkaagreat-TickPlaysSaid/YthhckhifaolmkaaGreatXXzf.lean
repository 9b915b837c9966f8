import Derived.Test.YthhckhifaolmkaaGreatXXzb
namespace Go.Proofs.YthhckhifaolmkaaGreat
open Go.RowKit Go.Shelf Go.Sort
open Go.Proofs.YthhckhifaolmkaaGreat.Cl (Fx Fz Ck Cb Alm psA dueA dueF U Q cP own_sl own_some own_below own_base inL ret_bool ret_int heap_lt iinfo cell_one_new take_snoc aftN)
set_option linter.unusedVariables false
set_option linter.unusedSimpArgs false
section
variable {W0 w w' : World} {tb : Tb} {v : Ts} {P : Nat} {vv va vr : Sl} {s : Bs}
/-- what the tables say of an alarm and its counter -/
theorem Dd.tab (h : Dd W0 w tb v P vv va vr s) {k : Nat} (hk : k < tb.als.length) : ∃ g off gc oc, v.a.a = some ⟨g, off, none⟩ ∧ v.k.a = some ⟨gc, oc, none⟩ ∧ ctrN tb k < v.k.n ∧ v.a.n = tb.als.length ∧ ∀ W, Below w.heap.size w W → W.cell? ⟨g, off + k * 7, none⟩ = some (I (ctrN tb k)) ∧ W.cell? ⟨gc, oc + ctrN tb k * 3, none⟩ = some (U (ctK tb (ctrN tb k)).max) ∧ W.cell? ⟨gc, oc + ctrN tb k * 3 + 1, none⟩ = some (U (ctK tb (ctrN tb k)).base) ∧ W.cell? ⟨gc, oc + ctrN tb k * 3 + 2, none⟩ = some (U (ctK tb (ctrN tb k)).min) := by
  have ok := h.d.ok.a k hk
  have hxk : tb.als[k]? = some (alK tb k) := by unfold alK; rw [List.getD_eq_getElem?_getD, List.getElem?_eq_getElem hk]; rfl
  have hck : tb.ctrs[ctrN tb k]? = some (ctK tb (ctrN tb k)) := by unfold ctK; rw [List.getD_eq_getElem?_getD, List.getElem?_eq_getElem ok.2.1]; rfl
  obtain ⟨g, off, ea, -⟩ := alr_at h.t0 hxk
  obtain ⟨gc, oc, ec, -⟩ := ctr_at h.t0 hck
  refine ⟨g, off, gc, oc, ea, ec, by rw [h.t0.k.n]; exact ok.2.1, h.t0.a.n, fun W hb => ?_⟩
  have tW := h.t0.below (h.b.trans (hb.mono h.b.size))
  obtain ⟨g2, off2, ea2, -, d0, -⟩ := alr_at tW hxk
  obtain ⟨gc2, oc2, ec2, -, e0, e1, e2⟩ := ctr_at tW hck
  rw [ea] at ea2
  rw [ec] at ec2
  cases ea2
  cases ec2
  rw [ok.1] at d0
  exact ⟨d0, e0, e1, e2⟩
set_option maxRecDepth 100000 in
set_option maxHeartbeats 8000000 in
theorem dRel (h : Dd W0 w tb v P vv va vr s) (t : Int) (f cy : Nat) (hf : f < 4294967296) : Calls Tryz.prog 49 #[bP P, I t, U f, U cy] w fun e w' => e = .returned (I (setB tb s t (Cl.relB (ctA tb t).min (ctA tb t).max f cy))) ∧ Dd W0 w' tb v P vv va vr (setT tb s t (Cl.relB (ctA tb t).min (ctA tb t).max f cy) (f, cy)) ∧ Fz (Dm P vv va vr) w w' := by
  have hT := dthere h t
  obtain ⟨-, c5, c6, -, -, c14, -⟩ := h.cells
  have HH : Hid (Dd W0 w tb v P vv va vr s) := h
  by_cases ho : outA tb t
  · have e1 : ∀ m, setB tb s t m = 3 := fun m => by unfold setB; rw [if_pos ho]
    have e2 : ∀ m y, setT tb s t m y = s := fun m y => by unfold setT; rw [e1, if_neg (by decide)]
    rw [e1, e2]
    rw [thB_out ho] at hT
    clear ho h e1 e2
    go_enter Tryz.func49, Tryz.ntmps49
    go_wp2_with (first | (go_at_call 84; refine hT.mono ?_; rintro e w1 ⟨rfl, rfl⟩))
    go_ret
    exact ⟨rfl, HH.out, Fz.refl _ _⟩
  · rw [thB_in ho] at hT
    obtain ⟨k, rfl, hk⟩ := not_out ho
    have ec : ctA tb (k : Int) = ctK tb (ctrN tb k) := by unfold ctA; rw [Int.toNat_natCast]
    rw [ec]
    obtain ⟨g, c, e, q0, q1, q2⟩ := h.al hk
    rw [e] at c14
    have hkI : (k : Int) < tb.als.length := by omega
    unfold setT
    rw [setB_in hk, Int.toNat_natCast]
    by_cases h0 : (s.a k).1 = 0
    · rw [show decide ((s.a k).1 ≠ 0) = false by simpa using h0] at q0
      rw [if_neg (show ¬ (s.a k).1 ≠ 0 by simpa using h0)]
      obtain ⟨ga, off, gc, oc, eva, evk, hcn, han, hW⟩ := h.tab hk
      obtain ⟨d0, m0, m1, m2⟩ := hW w (Below.refl _ _)
      rw [eva, han] at c6
      rw [evk] at c5
      have hcI : (ctrN tb k : Int) < v.k.n := by omega
      have hwd : ∀ o, (fun w' : World => w'.cell? ⟨P, 5, none⟩ = some (.slice (some ⟨gc, oc, none⟩) v.k.n v.k.c) ∧ w'.cell? ⟨P, 6, none⟩ = some (.slice (some ⟨ga, off, none⟩) tb.als.length v.a.c) ∧ w'.cell? ⟨ga, off + k * 7, none⟩ = some (I (ctrN tb k)) ∧ w'.cell? ⟨gc, oc + ctrN tb k * 3, none⟩ = some (U (ctK tb (ctrN tb k)).max) ∧ w'.cell? ⟨gc, oc + ctrN tb k * 3 + 1, none⟩ = some (U (ctK tb (ctrN tb k)).base) ∧ w'.cell? ⟨gc, oc + ctrN tb k * 3 + 2, none⟩ = some (U (ctK tb (ctrN tb k)).min)) (w.alloc o) := fun o => by
        obtain ⟨-, z5, z6, -⟩ := (h.below (below_alloc w o)).cells
        rw [evk] at z5
        rw [eva, han] at z6
        obtain ⟨a0, a1, a2, a3⟩ := hW _ (below_alloc w o)
        exact ⟨z5, z6, a0, a1, a2, a3⟩
      have hok := h.d.ok.k _ (h.d.ok.a k hk).2.1
      have HL : Hid (∀ W, Below w.heap.size w W → (∃ y, W.cell? ⟨g, k * 3, none⟩ = some y) ∧ (∃ y, (W.setCell ⟨g, k * 3, none⟩ (.bool true)).cell? ⟨g, k * 3 + 1, none⟩ = some y) ∧ (∃ y, ((W.setCell ⟨g, k * 3, none⟩ (.bool true)).setCell ⟨g, k * 3 + 1, none⟩ (U f)).cell? ⟨g, k * 3 + 2, none⟩ = some y) ∧ W.frozen? ⟨g, k * 3, none⟩ = false ∧ (W.setCell ⟨g, k * 3, none⟩ (.bool true)).frozen? ⟨g, k * 3 + 1, none⟩ = false ∧ ((W.setCell ⟨g, k * 3, none⟩ (.bool true)).setCell ⟨g, k * 3 + 1, none⟩ (U f)).frozen? ⟨g, k * 3 + 2, none⟩ = false ∧ W.cell? ⟨P, 14, none⟩ = some (.slice (some ⟨g, 0, none⟩) tb.als.length c) ∧ ((1 ≤ f ∧ f ≤ (ctK tb (ctrN tb k)).max ∧ cy ≤ (ctK tb (ctrN tb k)).max) → Hid (Dd W0 (((W.setCell ⟨g, k * 3, none⟩ (.bool true)).setCell ⟨g, k * 3 + 1, none⟩ (U f)).setCell ⟨g, k * 3 + 2, none⟩ (U cy)) tb v P vv va vr ⟨s.v, upN s.a k (f, cy), s.q⟩ ∧ Fz (Dm P vv va vr) w (((W.setCell ⟨g, k * 3, none⟩ (.bool true)).setCell ⟨g, k * 3 + 1, none⟩ (U f)).setCell ⟨g, k * 3 + 2, none⟩ (U cy))))) := fun W hb => by
        have hWd := h.below hb
        have ha := hWd.a
        rw [e] at ha
        obtain ⟨p0, p1, p2, f0, f1, f2, -⟩ := put3 ha hk (.bool true) (U f) (U cy)
        obtain ⟨-, -, -, -, -, z14, -⟩ := hWd.cells
        rw [e] at z14
        refine ⟨p0, p1, p2, f0, f1, f2, z14, fun hc => ?_⟩
        have hP := hWd.putA hk e (y := (f, cy)) ⟨by show f ≤ _; omega, by show cy ≤ _; omega⟩ (fun e0 => by have e1 : f = 0 := e0; omega)
        rw [show decide ((f, cy).1 ≠ 0) = true by simp; omega] at hP
        exact ⟨hP.1, (Fz.of_below hb).trans hP.2⟩
      have HM : Hid (Cl.relB (ctK tb (ctrN tb k)).min (ctK tb (ctrN tb k)).max f cy = decide (1 ≤ f ∧ f ≤ (ctK tb (ctrN tb k)).max ∧ (cy = 0 ∨ ((ctK tb (ctrN tb k)).min ≤ cy ∧ cy ≤ (ctK tb (ctrN tb k)).max)))) := by
        show _ = _
        unfold Cl.relB Cl.mcB
        rw [Bool.eq_iff_iff]
        simp
      obtain ⟨hwd0, hwd1, hwd2, hwd3, hwd4, hwd5⟩ := hwd (.cells #[U (ctK tb (ctrN tb k)).max, U (ctK tb (ctrN tb k)).base, U (ctK tb (ctrN tb k)).min] 81)
      clear ho h e hk hW eva evk han q1 q2
      generalize tb.als.length = n at *
      generalize ctK tb (ctrN tb k) = K at *
      by_cases hR : Cl.relB K.min K.max f cy = true
      · rw [if_pos hR, if_pos rfl]
        have hR2 := hR
        rw [HM.out] at hR2
        obtain ⟨r1, r2, r3⟩ := of_decide_eq_true hR2
        clear hR hR2 HM
        go_enter Tryz.func49, Tryz.ntmps49
        go_upto_region 5 with (first | (go_at_call 84; refine hT.mono ?_; rintro e w1 ⟨rfl, rfl⟩))
        go_region_held_law (fun w' => w'.cell? ⟨P, 5, none⟩ = some (.slice (some ⟨gc, oc, none⟩) v.k.n v.k.c) ∧ w'.cell? ⟨P, 6, none⟩ = some (.slice (some ⟨ga, off, none⟩) n v.a.c) ∧ w'.cell? ⟨ga, off + k * 7, none⟩ = some (I (ctrN tb k)) ∧ w'.cell? ⟨gc, oc + ctrN tb k * 3, none⟩ = some (U K.max) ∧ w'.cell? ⟨gc, oc + ctrN tb k * 3 + 1, none⟩ = some (U K.base) ∧ w'.cell? ⟨gc, oc + ctrN tb k * 3 + 2, none⟩ = some (U K.min)) (first | exact ⟨c5, c6, d0, m0, m1, m2⟩ | exact ⟨hwd0, hwd1, hwd2, hwd3, hwd4, hwd5⟩ | (go_keep; done)) (fail)
        all_goals
          have hb : Hid (Below w.heap.size w (w.alloc (.cells #[.int .u32 (K.max : Int), .int .u32 (K.base : Int), .int .u32 (K.min : Int)] 81)).drew) := (below_alloc w _).drew
          have ho : (w.alloc (.cells #[.int .u32 (K.max : Int), .int .u32 (K.base : Int), .int .u32 (K.min : Int)] 81)).drew.heap[w.heap.size]? = some (.cells #[.int .u32 (K.max : Int), .int .u32 (K.base : Int), .int .u32 (K.min : Int)] 81) := by show (w.heap.push _)[w.heap.size]? = _; exact Array.getElem?_push_size
          have l0 : (w.alloc (.cells #[.int .u32 (K.max : Int), .int .u32 (K.base : Int), .int .u32 (K.min : Int)] 81)).drew.cell? ⟨w.heap.size, 0, none⟩ = some (U K.max) := by rw [cell_of_row _ _ _ _ _ (0, 0) ho]; rfl
          have l2 : (w.alloc (.cells #[.int .u32 (K.max : Int), .int .u32 (K.base : Int), .int .u32 (K.min : Int)] 81)).drew.cell? ⟨w.heap.size, 2, none⟩ = some (U K.min) := by rw [cell_of_row _ _ _ _ _ (0, 0) ho]; rfl
          obtain ⟨⟨y0, p0⟩, ⟨y1, p1⟩, ⟨y2, p2⟩, f0, f1, f2, z14, hD⟩ := HL.out _ hb.out
          have HD : Hid _ := hD
          clear hD HL ho hwd hwd0 hwd1 hwd2 hwd3 hwd4 hwd5 d0 m0 m1 m2 c5 c6 c14 q0 hT
          generalize (w.alloc (.cells #[.int .u32 (K.max : Int), .int .u32 (K.base : Int), .int .u32 (K.min : Int)] 81)).drew = W at *
          have h1 : ¬ ((f : Int) < 1) := by omega
          have h2 : ¬ ((K.max : Int) < f) := by omega
          by_cases h3 : cy = 0
          · subst h3
            go_wp2
            go_ret
            exact ⟨rfl, (HD.out ⟨by omega, by omega, by omega⟩).out.1, (HD.out ⟨by omega, by omega, by omega⟩).out.2⟩
          · have h3I : ¬ ((cy : Int) = 0) := by omega
            have h4 : ¬ ((cy : Int) < K.min) := by omega
            have h5 : ¬ ((K.max : Int) < cy) := by omega
            go_wp2
            go_ret
            exact ⟨rfl, (HD.out ⟨by omega, by omega, by omega⟩).out.1, (HD.out ⟨by omega, by omega, by omega⟩).out.2⟩
      · rw [if_neg hR, if_neg (by decide)]
        rw [HM.out, decide_eq_true_eq] at hR
        clear HM
        go_enter Tryz.func49, Tryz.ntmps49
        go_upto_region 5 with (first | (go_at_call 84; refine hT.mono ?_; rintro e w1 ⟨rfl, rfl⟩))
        go_region_held_law (fun w' => w'.cell? ⟨P, 5, none⟩ = some (.slice (some ⟨gc, oc, none⟩) v.k.n v.k.c) ∧ w'.cell? ⟨P, 6, none⟩ = some (.slice (some ⟨ga, off, none⟩) n v.a.c) ∧ w'.cell? ⟨ga, off + k * 7, none⟩ = some (I (ctrN tb k)) ∧ w'.cell? ⟨gc, oc + ctrN tb k * 3, none⟩ = some (U K.max) ∧ w'.cell? ⟨gc, oc + ctrN tb k * 3 + 1, none⟩ = some (U K.base) ∧ w'.cell? ⟨gc, oc + ctrN tb k * 3 + 2, none⟩ = some (U K.min)) (first | exact ⟨c5, c6, d0, m0, m1, m2⟩ | exact ⟨hwd0, hwd1, hwd2, hwd3, hwd4, hwd5⟩ | (go_keep; done)) (fail)
        all_goals
          have hb : Hid (Below w.heap.size w (w.alloc (.cells #[.int .u32 (K.max : Int), .int .u32 (K.base : Int), .int .u32 (K.min : Int)] 81)).drew) := (below_alloc w _).drew
          have ho : (w.alloc (.cells #[.int .u32 (K.max : Int), .int .u32 (K.base : Int), .int .u32 (K.min : Int)] 81)).drew.heap[w.heap.size]? = some (.cells #[.int .u32 (K.max : Int), .int .u32 (K.base : Int), .int .u32 (K.min : Int)] 81) := by show (w.heap.push _)[w.heap.size]? = _; exact Array.getElem?_push_size
          have l0 : (w.alloc (.cells #[.int .u32 (K.max : Int), .int .u32 (K.base : Int), .int .u32 (K.min : Int)] 81)).drew.cell? ⟨w.heap.size, 0, none⟩ = some (U K.max) := by rw [cell_of_row _ _ _ _ _ (0, 0) ho]; rfl
          have l2 : (w.alloc (.cells #[.int .u32 (K.max : Int), .int .u32 (K.base : Int), .int .u32 (K.min : Int)] 81)).drew.cell? ⟨w.heap.size, 2, none⟩ = some (U K.min) := by rw [cell_of_row _ _ _ _ _ (0, 0) ho]; rfl
          obtain ⟨⟨y0, p0⟩, ⟨y1, p1⟩, ⟨y2, p2⟩, f0, f1, f2, z14, hD⟩ := HL.out _ hb.out
          have HD : Hid _ := hD
          clear hD HL ho hwd hwd0 hwd1 hwd2 hwd3 hwd4 hwd5 d0 m0 m1 m2 c5 c6 c14 q0 hT
          generalize (w.alloc (.cells #[.int .u32 (K.max : Int), .int .u32 (K.base : Int), .int .u32 (K.min : Int)] 81)).drew = W at *
          by_cases h1 : (f : Int) < 1
          · clear hR
            go_wp2
            go_ret
            exact ⟨rfl, HH.out.below hb.out, Fz.of_below hb.out⟩
          · by_cases h2 : (K.max : Int) < f
            · clear hR
              go_wp2
              go_ret
              exact ⟨rfl, HH.out.below hb.out, Fz.of_below hb.out⟩
            · have h3 : ¬ ((cy : Int) = 0) := by omega
              by_cases h4 : (cy : Int) < K.min
              · clear hR
                go_wp2
                go_ret
                exact ⟨rfl, HH.out.below hb.out, Fz.of_below hb.out⟩
              · have h5 : (K.max : Int) < cy := by omega
                clear hR
                go_wp2
                go_ret
                exact ⟨rfl, HH.out.below hb.out, Fz.of_below hb.out⟩
    · rw [show decide ((s.a k).1 ≠ 0) = true by simpa using h0] at q0
      rw [if_pos h0, if_neg (by decide)]
      clear h0 ho h e q1 q2
      go_enter Tryz.func49, Tryz.ntmps49
      go_wp2_with (first | (go_at_call 84; refine hT.mono ?_; rintro e w1 ⟨rfl, rfl⟩))
      go_ret
      exact ⟨rfl, HH.out, Fz.refl _ _⟩
end
end Go.Proofs.YthhckhifaolmkaaGreat

namespace Go.Proofs.YthhckhifaolmkaaGreat
open Go.RowKit Go.Shelf Go.Sort
open Go.Proofs.YthhckhifaolmkaaGreat.Cl (Fx Fz Ck Cb Alm psA dueA dueF U Q cP own_sl own_some own_below own_base inL ret_bool ret_int heap_lt iinfo cell_one_new take_snoc aftN)
set_option linter.unusedVariables false
set_option linter.unusedSimpArgs false
section
variable {W0 w w' : World} {tb : Tb} {v : Ts} {P : Nat} {vv va vr : Sl} {s : Bs}
theorem Dd.vl (h : Dd W0 w tb v P vv va vr s) {j : Nat} (hj : j < tb.ctrs.length) : ∃ g c, slT vv = .slice (some ⟨g, 0, none⟩) tb.ctrs.length c ∧ ∀ W, Below w.heap.size w W → W.cell? ⟨P, 13, none⟩ = some (.slice (some ⟨g, 0, none⟩) tb.ctrs.length c) ∧ W.cell? ⟨g, j, none⟩ = some (U (s.v j)) := by
  obtain ⟨g, c, e⟩ := own_some h.v (by omega)
  refine ⟨g, c, e, fun W hb => ?_⟩
  have hW := h.below hb
  have hc := hW.v
  rw [e] at hc
  obtain ⟨-, -, -, -, c13, -⟩ := hW.cells
  rw [e] at c13
  refine ⟨c13, ?_⟩
  have := flat_at (f := valF s) (fun _ => rfl) (k := 1) (n := tb.ctrs.length) (j := 0) hj (by omega)
  rw [Nat.mul_one, Nat.add_zero] at this
  rw [hc.cellAt _ (by omega)]
  exact this
theorem wrap_of {x : Int} {n : Nat} (h : x = n) (hn : n < 4294967296) : IntKind.u32.wrap x = n := by rw [h]; exact wrap_u32 hn
set_option maxRecDepth 100000 in
set_option maxHeartbeats 8000000 in
theorem dAbs (h : Dd W0 w tb v P vv va vr s) (t : Int) (f cy : Nat) (hf : f < 4294967296) : Calls Tryz.prog 50 #[bP P, I t, U f, U cy] w fun e w' => e = .returned (I (setB tb s t (Cl.absB (ctA tb t).min (ctA tb t).max f cy))) ∧ Dd W0 w' tb v P vv va vr (setT tb s t (Cl.absB (ctA tb t).min (ctA tb t).max f cy) (Cl.untN (ctA tb t).max (s.v (ctrN tb t.toNat)) f, cy)) ∧ Fz (Dm P vv va vr) w w' := by
  have hT := dthere h t
  obtain ⟨-, c5, c6, -, -, c14, -⟩ := h.cells
  have HH : Hid (Dd W0 w tb v P vv va vr s) := h
  by_cases ho : outA tb t
  · have e1 : ∀ m, setB tb s t m = 3 := fun m => by unfold setB; rw [if_pos ho]
    have e2 : ∀ m y, setT tb s t m y = s := fun m y => by unfold setT; rw [e1, if_neg (by decide)]
    rw [e1, e2]
    rw [thB_out ho] at hT
    clear ho h e1 e2
    go_enter Tryz.func50, Tryz.ntmps50
    go_wp2_with (first | (go_at_call 84; refine hT.mono ?_; rintro e w1 ⟨rfl, rfl⟩))
    go_ret
    exact ⟨rfl, HH.out, Fz.refl _ _⟩
  · rw [thB_in ho] at hT
    obtain ⟨k, rfl, hk⟩ := not_out ho
    have ec : ctA tb (k : Int) = ctK tb (ctrN tb k) := by unfold ctA; rw [Int.toNat_natCast]
    rw [ec]
    obtain ⟨g, c, e, q0, q1, q2⟩ := h.al hk
    rw [e] at c14
    have hkI : (k : Int) < tb.als.length := by omega
    unfold setT
    rw [setB_in hk, Int.toNat_natCast]
    by_cases h0 : (s.a k).1 = 0
    · rw [show decide ((s.a k).1 ≠ 0) = false by simpa using h0] at q0
      rw [if_neg (show ¬ (s.a k).1 ≠ 0 by simpa using h0)]
      obtain ⟨ga, off, gc, oc, eva, evk, hcn, han, hW⟩ := h.tab hk
      obtain ⟨d0, m0, m1, m2⟩ := hW w (Below.refl _ _)
      rw [eva, han] at c6
      rw [evk] at c5
      have hcI : (ctrN tb k : Int) < v.k.n := by omega
      have hwd : ∀ o, (fun w' : World => w'.cell? ⟨P, 5, none⟩ = some (.slice (some ⟨gc, oc, none⟩) v.k.n v.k.c) ∧ w'.cell? ⟨P, 6, none⟩ = some (.slice (some ⟨ga, off, none⟩) tb.als.length v.a.c) ∧ w'.cell? ⟨ga, off + k * 7, none⟩ = some (I (ctrN tb k)) ∧ w'.cell? ⟨gc, oc + ctrN tb k * 3, none⟩ = some (U (ctK tb (ctrN tb k)).max) ∧ w'.cell? ⟨gc, oc + ctrN tb k * 3 + 1, none⟩ = some (U (ctK tb (ctrN tb k)).base) ∧ w'.cell? ⟨gc, oc + ctrN tb k * 3 + 2, none⟩ = some (U (ctK tb (ctrN tb k)).min)) (w.alloc o) := fun o => by
        obtain ⟨-, z5, z6, -⟩ := (h.below (below_alloc w o)).cells
        rw [evk] at z5
        rw [eva, han] at z6
        obtain ⟨a0, a1, a2, a3⟩ := hW _ (below_alloc w o)
        exact ⟨z5, z6, a0, a1, a2, a3⟩
      have hok := h.d.ok.k _ (h.d.ok.a k hk).2.1
      obtain ⟨gv, cv, ev, n0⟩ := h.vl (h.d.ok.a k hk).2.1
      have HN : Hid _ := n0
      have hnv := h.d.v _ (h.d.ok.a k hk).2.1
      have hcT : (ctrN tb k : Int) < tb.ctrs.length := by have := (h.d.ok.a k hk).2.1; omega
      obtain ⟨d, hd⟩ : ∃ d, d = Cl.untN (ctK tb (ctrN tb k)).max (s.v (ctrN tb k)) f := ⟨_, rfl⟩
      rw [← hd]
      clear n0 ev
      have HL : Hid (∀ W, Below w.heap.size w W → (∃ y, W.cell? ⟨g, k * 3, none⟩ = some y) ∧ (∃ y, (W.setCell ⟨g, k * 3, none⟩ (.bool true)).cell? ⟨g, k * 3 + 1, none⟩ = some y) ∧ (∃ y, ((W.setCell ⟨g, k * 3, none⟩ (.bool true)).setCell ⟨g, k * 3 + 1, none⟩ (U d)).cell? ⟨g, k * 3 + 2, none⟩ = some y) ∧ W.frozen? ⟨g, k * 3, none⟩ = false ∧ (W.setCell ⟨g, k * 3, none⟩ (.bool true)).frozen? ⟨g, k * 3 + 1, none⟩ = false ∧ ((W.setCell ⟨g, k * 3, none⟩ (.bool true)).setCell ⟨g, k * 3 + 1, none⟩ (U d)).frozen? ⟨g, k * 3 + 2, none⟩ = false ∧ W.cell? ⟨P, 14, none⟩ = some (.slice (some ⟨g, 0, none⟩) tb.als.length c) ∧ ((1 ≤ d ∧ d ≤ (ctK tb (ctrN tb k)).max + 1 ∧ cy ≤ (ctK tb (ctrN tb k)).max) → Hid (Dd W0 (((W.setCell ⟨g, k * 3, none⟩ (.bool true)).setCell ⟨g, k * 3 + 1, none⟩ (U d)).setCell ⟨g, k * 3 + 2, none⟩ (U cy)) tb v P vv va vr ⟨s.v, upN s.a k (d, cy), s.q⟩ ∧ Fz (Dm P vv va vr) w (((W.setCell ⟨g, k * 3, none⟩ (.bool true)).setCell ⟨g, k * 3 + 1, none⟩ (U d)).setCell ⟨g, k * 3 + 2, none⟩ (U cy))))) := fun W hb => by
        have hWd := h.below hb
        have ha := hWd.a
        rw [e] at ha
        obtain ⟨p0, p1, p2, f0, f1, f2, -⟩ := put3 ha hk (.bool true) (U d) (U cy)
        obtain ⟨-, -, -, -, -, z14, -⟩ := hWd.cells
        rw [e] at z14
        refine ⟨p0, p1, p2, f0, f1, f2, z14, fun hc => ?_⟩
        have hP := hWd.putA hk e (y := (d, cy)) ⟨by show d ≤ _; omega, by show cy ≤ _; omega⟩ (fun e0 => by have e1 : d = 0 := e0; omega)
        rw [show decide ((d, cy).1 ≠ 0) = true by simp; omega] at hP
        exact ⟨hP.1, (Fz.of_below hb).trans hP.2⟩
      have HM : Hid (Cl.absB (ctK tb (ctrN tb k)).min (ctK tb (ctrN tb k)).max f cy = decide (f ≤ (ctK tb (ctrN tb k)).max ∧ (cy = 0 ∨ ((ctK tb (ctrN tb k)).min ≤ cy ∧ cy ≤ (ctK tb (ctrN tb k)).max)))) := by
        show _ = _
        unfold Cl.absB Cl.mcB
        rw [Bool.eq_iff_iff]
        simp
      obtain ⟨hwd0, hwd1, hwd2, hwd3, hwd4, hwd5⟩ := hwd (.cells #[U (ctK tb (ctrN tb k)).max, U (ctK tb (ctrN tb k)).base, U (ctK tb (ctrN tb k)).min] 81)
      clear ho h e hk hW eva evk han q1 q2
      generalize tb.als.length = n at *
      generalize ctK tb (ctrN tb k) = K at *
      generalize s.v (ctrN tb k) = N at *
      generalize tb.ctrs.length = nc at *
      by_cases hR : Cl.absB K.min K.max f cy = true
      · rw [if_pos hR, if_pos rfl]
        have hR2 := hR
        rw [HM.out] at hR2
        obtain ⟨r2, r3⟩ := of_decide_eq_true hR2
        have hd2 : (N < f ∧ d + N = f) ∨ (f ≤ N ∧ d + N = K.max + 1 + f) := by
          rw [hd]
          unfold Cl.untN
          rw [Nat.min_eq_left hnv, Nat.min_eq_left r2]
          split <;> omega
        clear hR hR2 HM hd
        go_enter Tryz.func50, Tryz.ntmps50
        go_upto_region 7 with (first | (go_at_call 84; refine hT.mono ?_; rintro e w1 ⟨rfl, rfl⟩))
        all_goals
          have hb : Hid (Below w.heap.size w (w.alloc (.cells #[.int .u32 (K.max : Int), .int .u32 (K.base : Int), .int .u32 (K.min : Int)] 81))) := below_alloc w _
          have ho : (w.alloc (.cells #[.int .u32 (K.max : Int), .int .u32 (K.base : Int), .int .u32 (K.min : Int)] 81)).heap[w.heap.size]? = some (.cells #[.int .u32 (K.max : Int), .int .u32 (K.base : Int), .int .u32 (K.min : Int)] 81) := by show (w.heap.push _)[w.heap.size]? = _; exact Array.getElem?_push_size
          have l0 : (w.alloc (.cells #[.int .u32 (K.max : Int), .int .u32 (K.base : Int), .int .u32 (K.min : Int)] 81)).cell? ⟨w.heap.size, 0, none⟩ = some (U K.max) := by rw [cell_of_row _ _ _ _ _ (0, 0) ho]; rfl
          have l2 : (w.alloc (.cells #[.int .u32 (K.max : Int), .int .u32 (K.base : Int), .int .u32 (K.min : Int)] 81)).cell? ⟨w.heap.size, 2, none⟩ = some (U K.min) := by rw [cell_of_row _ _ _ _ _ (0, 0) ho]; rfl
          obtain ⟨⟨y0, p0⟩, ⟨y1, p1⟩, ⟨y2, p2⟩, f0, f1, f2, z14, hD⟩ := HL.out _ hb.out
          obtain ⟨c13, n0⟩ := HN.out _ hb.out
          have HD : Hid _ := hD
          clear hD HL HN ho hwd hwd0 hwd1 hwd2 hwd3 hwd4 hwd5 d0 m0 m1 m2 c5 c6 c14 q0 hT
          generalize (w.alloc (.cells #[.int .u32 (K.max : Int), .int .u32 (K.base : Int), .int .u32 (K.min : Int)] 81)) = W at *
          have h2 : ¬ ((K.max : Int) < f) := by omega
          by_cases h3 : cy = 0
          · subst h3
            by_cases h6 : (f : Int) ≤ N
            · obtain ⟨m1, hm1⟩ : ∃ m1, m1 + N = K.max := ⟨K.max - N, by omega⟩
              have a1 : IntKind.u32.wrap ((K.max : Int) - N) = (m1 : Int) := wrap_of (by omega) (by omega)
              have a2 : IntKind.u32.wrap ((m1 : Int) + 1) = ((m1 + 1 : Nat) : Int) := wrap_of (by omega) (by omega)
              have a3 : IntKind.u32.wrap (((m1 + 1 : Nat) : Int) + f) = (d : Int) := wrap_of (by omega) (by omega)
              generalize m1 + 1 = m2 at *
              go_wp2
              go_ret
              exact ⟨rfl, (HD.out ⟨by omega, by omega, by omega⟩).out.1, (HD.out ⟨by omega, by omega, by omega⟩).out.2⟩
            · have a1 : IntKind.u32.wrap ((f : Int) - N) = (d : Int) := wrap_of (by omega) (by omega)
              go_wp2
              go_ret
              exact ⟨rfl, (HD.out ⟨by omega, by omega, by omega⟩).out.1, (HD.out ⟨by omega, by omega, by omega⟩).out.2⟩
          · have h3I : ¬ ((cy : Int) = 0) := by omega
            have h4 : ¬ ((cy : Int) < K.min) := by omega
            have h5 : ¬ ((K.max : Int) < cy) := by omega
            by_cases h6 : (f : Int) ≤ N
            · obtain ⟨m1, hm1⟩ : ∃ m1, m1 + N = K.max := ⟨K.max - N, by omega⟩
              have a1 : IntKind.u32.wrap ((K.max : Int) - N) = (m1 : Int) := wrap_of (by omega) (by omega)
              have a2 : IntKind.u32.wrap ((m1 : Int) + 1) = ((m1 + 1 : Nat) : Int) := wrap_of (by omega) (by omega)
              have a3 : IntKind.u32.wrap (((m1 + 1 : Nat) : Int) + f) = (d : Int) := wrap_of (by omega) (by omega)
              generalize m1 + 1 = m2 at *
              go_wp2
              go_ret
              exact ⟨rfl, (HD.out ⟨by omega, by omega, by omega⟩).out.1, (HD.out ⟨by omega, by omega, by omega⟩).out.2⟩
            · have a1 : IntKind.u32.wrap ((f : Int) - N) = (d : Int) := wrap_of (by omega) (by omega)
              go_wp2
              go_ret
              exact ⟨rfl, (HD.out ⟨by omega, by omega, by omega⟩).out.1, (HD.out ⟨by omega, by omega, by omega⟩).out.2⟩
      · rw [if_neg hR, if_neg (by decide)]
        rw [HM.out, decide_eq_true_eq] at hR
        clear HM hd
        go_enter Tryz.func50, Tryz.ntmps50
        go_upto_region 7 with (first | (go_at_call 84; refine hT.mono ?_; rintro e w1 ⟨rfl, rfl⟩))
        all_goals
          have hb : Hid (Below w.heap.size w (w.alloc (.cells #[.int .u32 (K.max : Int), .int .u32 (K.base : Int), .int .u32 (K.min : Int)] 81))) := below_alloc w _
          have ho : (w.alloc (.cells #[.int .u32 (K.max : Int), .int .u32 (K.base : Int), .int .u32 (K.min : Int)] 81)).heap[w.heap.size]? = some (.cells #[.int .u32 (K.max : Int), .int .u32 (K.base : Int), .int .u32 (K.min : Int)] 81) := by show (w.heap.push _)[w.heap.size]? = _; exact Array.getElem?_push_size
          have l0 : (w.alloc (.cells #[.int .u32 (K.max : Int), .int .u32 (K.base : Int), .int .u32 (K.min : Int)] 81)).cell? ⟨w.heap.size, 0, none⟩ = some (U K.max) := by rw [cell_of_row _ _ _ _ _ (0, 0) ho]; rfl
          have l2 : (w.alloc (.cells #[.int .u32 (K.max : Int), .int .u32 (K.base : Int), .int .u32 (K.min : Int)] 81)).cell? ⟨w.heap.size, 2, none⟩ = some (U K.min) := by rw [cell_of_row _ _ _ _ _ (0, 0) ho]; rfl
          obtain ⟨⟨y0, p0⟩, ⟨y1, p1⟩, ⟨y2, p2⟩, f0, f1, f2, z14, hD⟩ := HL.out _ hb.out
          obtain ⟨c13, n0⟩ := HN.out _ hb.out
          have HD : Hid _ := hD
          clear hD HL HN ho hwd hwd0 hwd1 hwd2 hwd3 hwd4 hwd5 d0 m0 m1 m2 c5 c6 c14 q0 hT
          generalize (w.alloc (.cells #[.int .u32 (K.max : Int), .int .u32 (K.base : Int), .int .u32 (K.min : Int)] 81)) = W at *
          by_cases h2 : (K.max : Int) < f
          · clear hR
            go_wp2
            go_ret
            exact ⟨rfl, HH.out.below hb.out, Fz.of_below hb.out⟩
          · have h3 : ¬ ((cy : Int) = 0) := by omega
            by_cases h4 : (cy : Int) < K.min
            · clear hR
              go_wp2
              go_ret
              exact ⟨rfl, HH.out.below hb.out, Fz.of_below hb.out⟩
            · have h5 : (K.max : Int) < cy := by omega
              clear hR
              go_wp2
              go_ret
              exact ⟨rfl, HH.out.below hb.out, Fz.of_below hb.out⟩
    · rw [show decide ((s.a k).1 ≠ 0) = true by simpa using h0] at q0
      rw [if_pos h0, if_neg (by decide)]
      clear h0 ho h e q1 q2
      go_enter Tryz.func50, Tryz.ntmps50
      go_wp2_with (first | (go_at_call 84; refine hT.mono ?_; rintro e w1 ⟨rfl, rfl⟩))
      go_ret
      exact ⟨rfl, HH.out, Fz.refl _ _⟩
end
end Go.Proofs.YthhckhifaolmkaaGreat

namespace Go.Proofs.YthhckhifaolmkaaGreat
open Go.RowKit Go.Shelf Go.Sort
open Go.Proofs.YthhckhifaolmkaaGreat.Cl (Fx Fz Ck Cb Alm psA dueA dueF U Q cP own_sl own_some own_below own_base inL ret_bool ret_int heap_lt iinfo cell_one_new take_snoc aftN)
set_option linter.unusedVariables false
set_option linter.unusedSimpArgs false
section
variable {W0 w w' : World} {tb : Tb} {v : Ts} {P : Nat} {vv va vr : Sl} {s : Bs}
set_option maxRecDepth 100000 in
set_option maxHeartbeats 4000000 in
theorem dBase (h : Dd W0 w tb v P vv va vr s) (t : Int) : Calls Tryz.prog 47 #[bP P, I t] w fun e w' => e = .returned (.tuple #[basV tb t, I (basS tb t)]) ∧ Below w.heap.size w w' := by
  have hb0 := below_alloc w z3
  have hV0 := heap_alloc_new w z3
  have h0 := h.below hb0
  have hT := dthere h0 t
  by_cases ho : outA tb t
  · have e1 : basS tb t = 3 := by unfold basS; rw [if_pos ho]
    have e2 : basV tb t = .agg #[U 0, U 0, U 0] := by unfold basV; rw [if_pos ho]
    rw [e1, e2]
    rw [thB_out ho] at hT
    clear ho e1 e2 h h0
    go_enter Tryz.func47, Tryz.ntmps47
    go_upto_region 2 with (first | (go_at_call 84; refine hT.mono ?_; rintro e w1 ⟨rfl, rfl⟩))
    have BB : Hid (Below w.heap.size w (w.alloc z3)) := hb0
    have hq := hV0
    clear hV0 hb0 hT
    generalize w.alloc z3 = W at *
    have hq1 := heap_setCell_same W w.heap.size 0 _ _ (.int .u32 0) hq
    have hq2 := heap_setCell_same _ w.heap.size 1 _ _ (.int .u32 0) hq1
    have hq3 := heap_setCell_same _ w.heap.size 2 _ _ (.int .u32 0) hq2
    have x0 : W.cell? ⟨w.heap.size, 0, none⟩ = some (.int .u32 0) := by rw [cell_of_row _ _ _ _ _ (0, 0) hq]; rfl
    have x1 : (W.setCell ⟨w.heap.size, 0, none⟩ (.int .u32 0)).cell? ⟨w.heap.size, 1, none⟩ = some (.int .u32 0) := by rw [cell_of_row _ _ _ _ _ (0, 0) hq1]; rfl
    have x2 : ((W.setCell ⟨w.heap.size, 0, none⟩ (.int .u32 0)).setCell ⟨w.heap.size, 1, none⟩ (.int .u32 0)).cell? ⟨w.heap.size, 2, none⟩ = some (.int .u32 0) := by rw [cell_of_row _ _ _ _ _ (0, 0) hq2]; rfl
    have f0 := frozen_of_row W w.heap.size 0 _ _ hq
    have f1 := frozen_of_row _ w.heap.size 1 _ _ hq1
    have f2 := frozen_of_row _ w.heap.size 2 _ _ hq2
    clear hq hq1 hq2
    go_wp2
    refine bodyPost_ret (res_base Tryz.results47 _ w.heap.size _ _ _ _ _ rfl rfl hq3) rfl ?_
    exact ⟨rfl, below_set (below_set (below_set BB.out (Nat.le_refl _)) (Nat.le_refl _)) (Nat.le_refl _)⟩
  · rw [thB_in ho] at hT
    obtain ⟨j, rfl, hj⟩ := not_out ho
    have e1 : basS tb j = 0 := by unfold basS; rw [if_neg ho]
    have e2 : basV tb j = .agg #[U (ctK tb (ctrN tb j)).max, U (ctK tb (ctrN tb j)).base, U (ctK tb (ctrN tb j)).min] := by unfold basV ctA; rw [if_neg ho, Int.toNat_natCast]
    rw [e1, e2]
    obtain ⟨ga, off, gc, oc, eva, evk, hcn, han, hW⟩ := h0.tab hj
    obtain ⟨d0, m0, m1, m2⟩ := hW _ (Below.refl _ _)
    obtain ⟨-, c5, c6, -⟩ := h0.cells
    rw [eva, han] at c6
    rw [evk] at c5
    have hcI : (ctrN tb j : Int) < v.k.n := by omega
    have hjI : (j : Int) < tb.als.length := by omega
    have hwd : ∀ o, (fun w' : World => w'.cell? ⟨P, 5, none⟩ = some (.slice (some ⟨gc, oc, none⟩) v.k.n v.k.c) ∧ w'.cell? ⟨P, 6, none⟩ = some (.slice (some ⟨ga, off, none⟩) tb.als.length v.a.c) ∧ w'.cell? ⟨ga, off + j * 7, none⟩ = some (I (ctrN tb j)) ∧ w'.cell? ⟨gc, oc + ctrN tb j * 3, none⟩ = some (U (ctK tb (ctrN tb j)).max) ∧ w'.cell? ⟨gc, oc + ctrN tb j * 3 + 1, none⟩ = some (U (ctK tb (ctrN tb j)).base) ∧ w'.cell? ⟨gc, oc + ctrN tb j * 3 + 2, none⟩ = some (U (ctK tb (ctrN tb j)).min)) ((w.alloc z3).alloc o) := fun o => by
      obtain ⟨-, y5, y6, -⟩ := (h0.below (below_alloc _ o)).cells
      rw [evk] at y5
      rw [eva, han] at y6
      obtain ⟨a0, a1, a2, a3⟩ := hW _ (below_alloc _ o)
      exact ⟨y5, y6, a0, a1, a2, a3⟩
    obtain ⟨hwd0, hwd1, hwd2, hwd3, hwd4, hwd5⟩ := hwd (.cells #[U (ctK tb (ctrN tb j)).max, U (ctK tb (ctrN tb j)).base, U (ctK tb (ctrN tb j)).min] 81)
    clear ho e1 e2 h h0 hj hW eva evk han hwd
    generalize tb.als.length = n at *
    generalize ctK tb (ctrN tb j) = K at *
    go_enter Tryz.func47, Tryz.ntmps47
    go_upto_region 3 with (first | (go_at_call 84; refine hT.mono ?_; rintro e w1 ⟨rfl, rfl⟩))
    go_region_held_law (fun w' => w'.cell? ⟨P, 5, none⟩ = some (.slice (some ⟨gc, oc, none⟩) v.k.n v.k.c) ∧ w'.cell? ⟨P, 6, none⟩ = some (.slice (some ⟨ga, off, none⟩) n v.a.c) ∧ w'.cell? ⟨ga, off + j * 7, none⟩ = some (I (ctrN tb j)) ∧ w'.cell? ⟨gc, oc + ctrN tb j * 3, none⟩ = some (U K.max) ∧ w'.cell? ⟨gc, oc + ctrN tb j * 3 + 1, none⟩ = some (U K.base) ∧ w'.cell? ⟨gc, oc + ctrN tb j * 3 + 2, none⟩ = some (U K.min)) (first | exact ⟨c5, c6, d0, m0, m1, m2⟩ | exact ⟨hwd0, hwd1, hwd2, hwd3, hwd4, hwd5⟩ | (go_keep; done)) (fail)
    all_goals
      have BB : Hid (Below w.heap.size w ((w.alloc z3).alloc (.cells #[.int .u32 (K.max : Int), .int .u32 (K.base : Int), .int .u32 (K.min : Int)] 81)).drew) := hb0.trans ((below_alloc (w.alloc z3) _).drew.mono hb0.size)
      have eS : (w.alloc z3).heap.size = w.heap.size + 1 := Array.size_push _
      have ho : ((w.alloc z3).alloc (.cells #[.int .u32 (K.max : Int), .int .u32 (K.base : Int), .int .u32 (K.min : Int)] 81)).drew.heap[w.heap.size + 1]? = some (.cells #[.int .u32 (K.max : Int), .int .u32 (K.base : Int), .int .u32 (K.min : Int)] 81) := by rw [← eS]; show ((w.alloc z3).heap.push _)[(w.alloc z3).heap.size]? = _; exact Array.getElem?_push_size
      have hq : ((w.alloc z3).alloc (.cells #[.int .u32 (K.max : Int), .int .u32 (K.base : Int), .int .u32 (K.min : Int)] 81)).drew.heap[w.heap.size]? = _ := ((below_alloc (w.alloc z3) _).drew.block _ (heap_lt hV0)).trans hV0
      have l0 : ((w.alloc z3).alloc (.cells #[.int .u32 (K.max : Int), .int .u32 (K.base : Int), .int .u32 (K.min : Int)] 81)).drew.cell? ⟨w.heap.size + 1, 0, none⟩ = some (U K.max) := by rw [cell_of_row _ _ _ _ _ (0, 0) ho]; rfl
      have l1 : ((w.alloc z3).alloc (.cells #[.int .u32 (K.max : Int), .int .u32 (K.base : Int), .int .u32 (K.min : Int)] 81)).drew.cell? ⟨w.heap.size + 1, 1, none⟩ = some (U K.base) := by rw [cell_of_row _ _ _ _ _ (0, 0) ho]; rfl
      have l2 : ((w.alloc z3).alloc (.cells #[.int .u32 (K.max : Int), .int .u32 (K.base : Int), .int .u32 (K.min : Int)] 81)).drew.cell? ⟨w.heap.size + 1, 2, none⟩ = some (U K.min) := by rw [cell_of_row _ _ _ _ _ (0, 0) ho]; rfl
      clear hV0 hb0 hT ho eS hwd0 hwd1 hwd2 hwd3 hwd4 hwd5 d0 m0 m1 m2 c5 c6
      generalize ((w.alloc z3).alloc (.cells #[.int .u32 (K.max : Int), .int .u32 (K.base : Int), .int .u32 (K.min : Int)] 81)).drew = W at *
      generalize w.heap.size + 1 = X1 at *
      have hq1 := heap_setCell_same W w.heap.size 0 _ _ (U K.max) hq
      have hq2 := heap_setCell_same _ w.heap.size 1 _ _ (U K.base) hq1
      have hq3 := heap_setCell_same _ w.heap.size 2 _ _ (U K.min) hq2
      have x0 : W.cell? ⟨w.heap.size, 0, none⟩ = some (.int .u32 0) := by rw [cell_of_row _ _ _ _ _ (0, 0) hq]; rfl
      have x1 : (W.setCell ⟨w.heap.size, 0, none⟩ (U K.max)).cell? ⟨w.heap.size, 1, none⟩ = some (.int .u32 0) := by rw [cell_of_row _ _ _ _ _ (0, 0) hq1]; rfl
      have x2 : ((W.setCell ⟨w.heap.size, 0, none⟩ (U K.max)).setCell ⟨w.heap.size, 1, none⟩ (U K.base)).cell? ⟨w.heap.size, 2, none⟩ = some (.int .u32 0) := by rw [cell_of_row _ _ _ _ _ (0, 0) hq2]; rfl
      have f0 := frozen_of_row W w.heap.size 0 _ _ hq
      have f1 := frozen_of_row _ w.heap.size 1 _ _ hq1
      have f2 := frozen_of_row _ w.heap.size 2 _ _ hq2
      clear hq hq1 hq2
      go_wp2
      refine bodyPost_ret (res_base Tryz.results47 _ w.heap.size _ _ _ _ _ rfl rfl hq3) rfl ?_
      exact ⟨rfl, below_set (below_set (below_set BB.out (Nat.le_refl _)) (Nat.le_refl _)) (Nat.le_refl _)⟩
end
end Go.Proofs.YthhckhifaolmkaaGreat

namespace Go.Proofs.YthhckhifaolmkaaGreat
open Go.RowKit Go.Shelf Go.Sort
open Go.Proofs.YthhckhifaolmkaaGreat.Cl (Fx Fz Ck Cb Alm psA dueA dueF U Q cP own_sl own_some own_below own_base inL ret_bool ret_int heap_lt iinfo cell_one_new take_snoc aftN)
set_option linter.unusedVariables false
set_option linter.unusedSimpArgs false
theorem boinfo : (Tryz.prog.info? 4).map (fun i => (i.zero, i.size, i.bytes)) = some (some (.bool false), 1, 1) := by kernel_rfl
theorem made3 (n : Nat) : flat (fun _ => [.bool false, .int .u32 0, .int .u32 0]) n = (madeCells (Value.agg #[.bool false, .int .u32 0, .int .u32 0]).cells (n * 3)).toList := by
  apply List.ext_getElem?
  intro t
  by_cases ht : t < n * 3
  · have e := flat_at (f := fun _ => [.bool false, .int .u32 0, .int .u32 0]) (fun _ => rfl) (k := 3) (n := n) (i := t / 3) (j := t % 3) (by omega) (by omega)
    rw [show t / 3 * 3 + t % 3 = t by omega] at e
    rw [e]
    simp [madeCells, Value.cells, ht]
    rcases (by omega : t % 3 = 0 ∨ t % 3 = 1 ∨ t % 3 = 2) with h | h | h <;> (rw [h]; rfl)
  · rw [List.getElem?_eq_none (by rw [flat_len (k := 3) (fun _ => rfl)]; omega), List.getElem?_eq_none (by simp [size_madeCells]; omega)]
theorem made1 (n : Nat) : flat (fun _ => [.bool false]) n = (madeCells (Value.bool false).cells (n * 1)).toList := by
  apply List.ext_getElem?
  intro t
  by_cases ht : t < n
  · have e := flat_at (f := fun _ => [Value.bool false]) (fun _ => rfl) (k := 1) (n := n) (i := t) (j := 0) ht (by omega)
    rw [Nat.mul_one, Nat.add_zero] at e
    rw [e]
    simp [madeCells, Value.cells, ht]
    rw [Nat.mod_one]
    rfl
  · rw [List.getElem?_eq_none (by rw [flat_len (k := 1) (fun _ => rfl)]; omega), List.getElem?_eq_none (by simp [size_madeCells]; omega)]
section
variable {W0 w w' : World} {tb : Tb} {v : Ts} {P : Nat} {vv va vr : Sl} {s : Bs}
theorem cal_lk (tb : Tb) (s : Bs) : flat (lkF (calT tb s)) tb.als.length = flat (fun _ => [.bool false, .int .u32 0, .int .u32 0]) tb.als.length :=
  flat_congr (fun i hi => by unfold lkF calT calA; simp [hi])
theorem has_zero (i : Nat) : hasQ (fun _ => 0) i = false := by unfold hasQ; simp
theorem cal_rq (tb : Tb) (s : Bs) : flat (rqF (calT tb s)) tb.isrs.length = flat (fun _ => [.bool false]) tb.isrs.length :=
  flat_congr (fun i hi => by unfold rqF calT; simp [has_zero])
set_option maxRecDepth 100000 in
set_option maxHeartbeats 4000000 in
theorem dCalm (h : Dd W0 w tb v P vv va vr s) : Calls Tryz.prog 56 #[bP P] w fun e w' => e = .returned (.tuple #[]) ∧ ∃ ga gr, w.heap.size ≤ ga ∧ w.heap.size ≤ gr ∧ Dd W0 w' tb v P vv ⟨some ⟨ga, 0, none⟩, tb.als.length, tb.als.length⟩ ⟨some ⟨gr, 0, none⟩, tb.isrs.length, tb.isrs.length⟩ (calT tb s) ∧ Fz (Dm P vv va vr) w w' := by
  obtain ⟨i0, hi0, hz0, hz1, hz2⟩ := info_parts lkinfo
  obtain ⟨j0, hj0, hy0, hy1, hy2⟩ := info_parts boinfo
  have hna := h.d.ok.na
  have hni := h.d.ok.ni
  obtain ⟨a, cc, hv⟩ := own_sl h.a
  obtain ⟨a2, cc2, hv2⟩ := own_sl h.r
  obtain ⟨-, -, -, -, -, c14, c15⟩ := h.cells
  rw [hv] at c14
  rw [hv2] at c15
  obtain ⟨w1, hmk, ho1, hg1⟩ := run_make_full (P := Tryz.prog) w w.heap.size 111 130 i0 _ 3 Tryz.underlying111 hi0 hz0 hz1 .i64 .i64 tb.als.length (by rw [hz2]; omega) (by unfold maxLen; omega) (Nat.le_refl _)
  have b1 : Below w.heap.size w w1 := ⟨hg1.os, hg1.tape, hg1.output, hg1.size, fun i hi => hg1.block i hi (by simp)⟩
  have h1 := h.below b1
  have hP := heap_lt h.o
  have p14 := (h1.cells).2.2.2.2.2.1
  have fr14 := frozen_of_row w1 P 14 _ _ h1.o
  have o2 := heap_setCell_same w1 P 14 _ _ (.slice (some ⟨w.heap.size, 0, none⟩) tb.als.length tb.als.length) h1.o
  obtain ⟨w3, hmk3, ho3, hg3⟩ := run_make_full (P := Tryz.prog) (w1.setCell ⟨P, 14, none⟩ (.slice (some ⟨w.heap.size, 0, none⟩) tb.als.length tb.als.length)) w.heap.size 114 4 j0 _ 1 Tryz.underlying114 hj0 hy0 hy1 .i64 .i64 tb.isrs.length (by rw [hy2]; omega) (by unfold maxLen; omega) (by simpa using b1.size)
  have c15b : (w1.setCell ⟨P, 14, none⟩ (.slice (some ⟨w.heap.size, 0, none⟩) tb.als.length tb.als.length)).cell? ⟨P, 15, none⟩ = some (.slice a2 tb.isrs.length cc2) := by rw [cell_of_row _ _ _ _ _ (0, 0) o2, ← hv2]; rfl
  have eS : (w1.setCell ⟨P, 14, none⟩ (.slice (some ⟨w.heap.size, 0, none⟩) tb.als.length tb.als.length)).heap.size = w1.heap.size := by simp
  rw [eS] at hmk3 ho3
  have o3 := (hg3.block P (by rw [eS]; have := b1.size; omega) (by simp)).trans o2
  have p15 : w3.cell? ⟨P, 15, none⟩ = some (slT vr) := by rw [cell_of_row _ _ _ _ _ (0, 0) o3]; rfl
  have fr15 := frozen_of_row w3 P 15 _ _ o3
  have o4 := heap_setCell_same w3 P 15 _ _ (.slice (some ⟨w1.heap.size, 0, none⟩) tb.isrs.length tb.isrs.length) o3
  have f13 : Fz (fun b => b = P) w1 w3 := ((Fz.refl (fun b => b = P) w1).set (.inl rfl) 14 _).trans (Fz.of_below ⟨hg3.os, hg3.tape, hg3.output, hg3.size, fun i hi => hg3.block i hi (by simp)⟩)
  have f34 : Fz (fun b => b = P) w3 (w3.setCell ⟨P, 15, none⟩ (.slice (some ⟨w1.heap.size, 0, none⟩) tb.isrs.length tb.isrs.length)) := (Fz.refl (fun b => b = P) w3).set (.inl rfl) 15 _
  have f04 : Fz (fun b => b = P) w (w3.setCell ⟨P, 15, none⟩ (.slice (some ⟨w1.heap.size, 0, none⟩) tb.isrs.length tb.isrs.length)) := ((Fz.of_below b1).trans f13).trans f34
  have HF : Hid (Dd W0 (w3.setCell ⟨P, 15, none⟩ (.slice (some ⟨w1.heap.size, 0, none⟩) tb.isrs.length tb.isrs.length)) tb v P vv ⟨some ⟨w.heap.size, 0, none⟩, tb.als.length, tb.als.length⟩ ⟨some ⟨w1.heap.size, 0, none⟩, tb.isrs.length, tb.isrs.length⟩ (calT tb s) ∧ Fz (Dm P vv va vr) w (w3.setCell ⟨P, 15, none⟩ (.slice (some ⟨w1.heap.size, 0, none⟩) tb.isrs.length tb.isrs.length)) ∧ w.heap.size ≤ w1.heap.size) := by
    refine ⟨⟨o4, h.t0, h.b.trans (f04.below h.b.size (by rintro b rfl; exact h.p)), h.p, f04.own h.v (fun g e e2 => heap_apart h.o h.v (by decide) (by rw [e, e2])), ?_, ?_, ⟨h.d.ok, h.d.v, fun i hi => ?_, fun i hi => ?_⟩⟩, f04.mono (by rintro b rfl; exact .inl rfl), b1.size⟩
    · rw [cal_lk, made3]
      exact own_base ((f13.trans f34).own ho1 (fun g e e2 => by cases e; have e3 : w.heap.size = P := e2; omega)) h.b.size
    · rw [cal_rq, made1]
      exact own_base (f34.own ho3 (fun g e e2 => by cases e; have e3 : w1.heap.size = P := e2; have := b1.size; omega)) h.b.size
    · show (calA s.a tb.als.length i).1 ≤ _ ∧ (calA s.a tb.als.length i).2 ≤ _
      unfold calA
      rw [if_pos hi]
      exact ⟨Nat.zero_le _, Nat.zero_le _⟩
    · show (calA s.a tb.als.length i).1 = 0 → (calA s.a tb.als.length i).2 = 0
      unfold calA
      rw [if_pos hi]
      exact fun _ => rfl
  clear h h1 ho1 ho3 hg1 hg3 b1 o2 o3 o4 f13 f34 f04 eS hv hv2
  go_enter Tryz.func56, Tryz.ntmps56
  go_wp2
  refine bodyPost_end (v := .tuple #[]) (by simp [results, Tryz.results56, go_sem]) rfl ?_
  exact ⟨rfl, _, _, Nat.le_refl _, HF.out.2.2, HF.out.1, HF.out.2.1⟩
end
end Go.Proofs.YthhckhifaolmkaaGreat

