import Derived.Test.YthhckhifaolmkaaGreatXXb
namespace Go.Proofs.YthhckhifaolmkaaGreat
open Go.RowKit Go.Shelf Go.Sort
open Go.Proofs.YthhckhifaolmkaaGreat.Cl (Fx Fz Ck Cb Alm psA dueA dueF U Q cP own_sl own_some own_below own_base inL ret_bool ret_int heap_lt)
set_option linter.unusedVariables false
set_option linter.unusedSimpArgs false

/-! ### One alarm: what its clock says -/
section
variable {tb : Tb} {a : Nat → Alm} {j : Nat}
theorem getS_al (hj : j < tb.als.length) : Cl.getS (alC tb a (ctrN tb j)) (plN tb j : Nat) = if (a j).1 = 0 then 5 else 0 := by
  have := plN_lt tb hj a
  unfold Cl.getS
  rw [if_neg (by omega), Int.toNat_natCast, List.getD_eq_getElem?_getD, alC_at tb a hj, Option.getD_some]
theorem lftN_al (hj : j < tb.als.length) : Cl.lftN (alC tb a (ctrN tb j)) (plN tb j : Nat) = (a j).1 := by
  unfold Cl.lftN
  rw [getS_al hj, Int.toNat_natCast, List.getD_eq_getElem?_getD, alC_at tb a hj, Option.getD_some]
  by_cases h : (a j).1 = 0 <;> simp [h]
theorem cycN_al (hj : j < tb.als.length) (hl : (a j).1 = 0 → (a j).2 = 0) : Cl.cycN (alC tb a (ctrN tb j)) (plN tb j : Nat) = (a j).2 := by
  unfold Cl.cycN
  rw [getS_al hj, Int.toNat_natCast, List.getD_eq_getElem?_getD, alC_at tb a hj, Option.getD_some]
  by_cases h : (a j).1 = 0
  · simp [h, hl h]
  · simp [h]
theorem canL_al (hj : j < tb.als.length) (hl : (a j).1 = 0 → (a j).2 = 0) : Cl.canL (alC tb a (ctrN tb j)) (plN tb j : Nat) = alC tb (upN a j (0, 0)) (ctrN tb j) := by
  unfold Cl.canL
  rw [getS_al hj, Int.toNat_natCast]
  by_cases h : (a j).1 = 0
  · rw [if_pos h, if_neg (by decide)]
    have : a j = (0, 0) := Prod.ext h (hl h)
    rw [← this, upN_self]
  · rw [if_neg h, if_pos rfl, alC_set tb a hj]
theorem setS_al (hj : j < tb.als.length) (m : Bool) : Cl.setS (alC tb a (ctrN tb j)) (plN tb j : Nat) m = if (a j).1 ≠ 0 then 7 else if m then 0 else 8 := Cl.setS_at (alC_at tb a hj) m
theorem setA_al (hj : j < tb.als.length) (m : Bool) (y : Alm) : Cl.setA (alC tb a (ctrN tb j)) (plN tb j : Nat) m y = alC tb (if (if (a j).1 ≠ 0 then (7 : Int) else if m then 0 else 8) = 0 then upN a j y else a) (ctrN tb j) := by
  unfold Cl.setA
  rw [setS_al hj, Int.toNat_natCast]
  generalize (if (a j).1 ≠ 0 then (7 : Int) else if m then 0 else 8) = z
  by_cases e : z = 0
  · rw [if_pos e, if_pos e, alC_set tb a hj]
  · rw [if_neg e, if_neg e]
end
/-- is there no such alarm? -/
def outA (tb : Tb) (t : Int) : Prop := t < 0 ∨ (tb.als.length : Int) ≤ t
instance (tb : Tb) (t : Int) : Decidable (outA tb t) := by unfold outA; exact inferInstance
theorem not_out {tb : Tb} {t : Int} (h : ¬ outA tb t) : ∃ j : Nat, t = j ∧ j < tb.als.length := by
  unfold outA at h
  exact ⟨t.toNat, by omega, by omega⟩
def getB (tb : Tb) (s : Bs) (t : Int) : Int := if outA tb t then 3 else if (s.a t.toNat).1 = 0 then 5 else 0
def setB (tb : Tb) (s : Bs) (t : Int) (m : Bool) : Int := if outA tb t then 3 else if (s.a t.toNat).1 ≠ 0 then 7 else if m then 0 else 8
def setT (tb : Tb) (s : Bs) (t : Int) (m : Bool) (y : Alm) : Bs := if setB tb s t m = 0 then ⟨s.v, upN s.a t.toNat y, s.q⟩ else s
def canT (tb : Tb) (s : Bs) (t : Int) : Bs := if outA tb t then s else ⟨s.v, upN s.a t.toNat (0, 0), s.q⟩
theorem in_out {tb : Tb} {j : Nat} (hj : j < tb.als.length) : ¬ outA tb (j : Int) := by unfold outA; omega
theorem setB_in {tb : Tb} {s : Bs} {j : Nat} (hj : j < tb.als.length) (m : Bool) : setB tb s j m = if (s.a j).1 ≠ 0 then 7 else if m then 0 else 8 := by
  unfold setB
  rw [if_neg (in_out hj), Int.toNat_natCast]
/-- the parameters that rule the alarm t -/
def ctA (tb : Tb) (t : Int) : CtR := ctK tb (ctrN tb t.toNat)
section
variable {w w' : World} {zn : Nat → Nat} {tb : Tb} {B : Nat} {p : Pl} {s : Bs}
theorem Bo.putA (h : Bo w zn tb B p s) {j : Nat} (hj : j < tb.als.length) (hf : Fz (Cb (p.cb (ctrN tb j)) (p.cv (ctrN tb j))) w w') {y : Alm} (hk : Ck w' (p.cb (ctrN tb j)) (p.cv (ctrN tb j)) (ctK tb (ctrN tb j)).max (ctK tb (ctrN tb j)).min (s.v (ctrN tb j)) (alC tb (upN s.a j y) (ctrN tb j))) (hy : y.1 = 0 → y.2 = 0) : Bo w' zn tb B p ⟨s.v, upN s.a j y, s.q⟩ ∧ Fz (Wr zn) w w' := by
  have := h.setK (h.ok.a j hj).2.1 hf hk (fun i' hi' => alC_other tb s.a y (fun e => hi' e.symm)) (fun k hk e => by
    unfold upN at e ⊢
    split at e
    · rename_i e2
      rw [if_pos e2]; exact hy e
    · rename_i e2
      rw [if_neg e2]; exact h.l k hk e)
  rwa [upN_self] at this
theorem Bo.same (h : Bo w zn tb B p s) {j : Nat} (hj : j < tb.als.length) (hf : Fz (Cb (p.cb (ctrN tb j)) (p.cv (ctrN tb j))) w w') (hk : Ck w' (p.cb (ctrN tb j)) (p.cv (ctrN tb j)) (ctK tb (ctrN tb j)).max (ctK tb (ctrN tb j)).min (s.v (ctrN tb j)) (alC tb s.a (ctrN tb j))) : Bo w' zn tb B p s ∧ Fz (Wr zn) w w' := by
  have := h.setK (h.ok.a j hj).2.1 hf hk (fun i' hi' => rfl) h.l
  rwa [upN_self] at this
theorem fz_wr {M : Nat → Prop} (hb : Below w.heap.size w w') : Fz M w w' := Fz.of_below hb
set_option maxRecDepth 100000 in
theorem bRel (h : Bo w zn tb B p s) (t : Int) (f cy : Nat) (hf : f < 4294967296) : Calls Tryz.prog 11 #[bP B, I t, U f, U cy] w fun e w' => e = .returned (I (setB tb s t (Cl.relB (ctA tb t).min (ctA tb t).max f cy))) ∧ Bo w' zn tb B p (setT tb s t (Cl.relB (ctA tb t).min (ctA tb t).max f cy) (f, cy)) ∧ Fz (Wr zn) w w' := by
  by_cases ho : outA tb t
  · have e1 : ∀ m, setB tb s t m = 3 := fun m => by unfold setB; rw [if_pos ho]
    have e2 : ∀ m y, setT tb s t m y = s := fun m y => by unfold setT; rw [e1, if_neg (by decide)]
    rw [e1, e2]
    have hF := find_out h t ho
    have HH : Hid (Bo w zn tb B p s) := h
    clear ho e1 e2 h
    go_enter Tryz.func11, Tryz.ntmps11
    go_wp2_with (first | (go_at_call 30; refine hF.mono ?_; clear hF; rintro e w1 ⟨rfl, b1⟩))
    go_ret
    have b2 := b1.trans ((below_alloc w1 (.cells #[.pointer none, .int .u32 0, .int .u32 0, .int .u32 0, .slice none 0 0] 85)).mono b1.size)
    exact ⟨rfl, HH.out.below b2, Fz.of_below b2⟩
  · obtain ⟨j, rfl, hj⟩ := not_out ho
    have hF := find_ok h hj
    try simp only [Int.toNat_natCast]
    have hK : ∀ W, Below w.heap.size w W → Calls Tryz.prog 32 #[cP (p.cb (ctrN tb j)), I (plN tb j), U f, U cy] W fun e w' => e = .returned (I (setB tb s j (Cl.relB (ctA tb j).min (ctA tb j).max f cy))) ∧ Bo w' zn tb B p (setT tb s j (Cl.relB (ctA tb j).min (ctA tb j).max f cy) (f, cy)) ∧ Fz (Wr zn) w w' := fun W hb => by
      have h1 := h.below hb
      refine (Cl.Rel_any (h1.k _ (h.ok.a j hj).2.1) (plN tb j) f cy hf).mono ?_
      rintro e w' ⟨rfl, k, z⟩
      have ec : ctA tb (j : Int) = ctK tb (ctrN tb j) := by unfold ctA; rw [Int.toNat_natCast]
      rw [setS_al hj, setB_in hj, ec]
      rw [setA_al hj] at k
      refine ⟨rfl, ?_⟩
      unfold setT
      rw [setB_in hj, Int.toNat_natCast]
      by_cases e0 : (if (s.a j).1 ≠ 0 then (7 : Int) else if Cl.relB (ctK tb (ctrN tb j)).min (ctK tb (ctrN tb j)).max f cy then 0 else 8) = 0
      · rw [if_pos e0] at k ⊢
        obtain ⟨b, z2⟩ := h1.putA hj z k (fun e => by 
          exfalso
          have h7 : (s.a j).1 = 0 := by by_cases h7 : (s.a j).1 = 0; (· exact h7); (· rw [if_pos h7] at e0; omega)
          rw [if_neg (by simpa using h7)] at e0
          have hm : Cl.relB (ctK tb (ctrN tb j)).min (ctK tb (ctrN tb j)).max f cy = true := by by_cases hm : Cl.relB (ctK tb (ctrN tb j)).min (ctK tb (ctrN tb j)).max f cy = true; (· exact hm); (· rw [if_neg hm] at e0; omega)
          unfold Cl.relB at hm
          simp at hm
          have e' : f = 0 := e
          omega)
        exact ⟨b, (Fz.of_below hb).trans z2⟩
      · rw [if_neg e0] at k ⊢
        obtain ⟨b, z2⟩ := h1.same hj z k
        exact ⟨b, (Fz.of_below hb).trans z2⟩
    generalize setB tb s j (Cl.relB (ctA tb j).min (ctA tb j).max f cy) = r at *
    generalize setT tb s j (Cl.relB (ctA tb j).min (ctA tb j).max f cy) (f, cy) = s2 at *
    have HK : Hid (∀ W, Below w.heap.size w W → Calls Tryz.prog 32 #[cP (p.cb (ctrN tb j)), I (plN tb j), U f, U cy] W fun e w' => e = .returned (I r) ∧ Bo w' zn tb B p s2 ∧ Fz (Wr zn) w w') := hK
    clear hK h ho
    go_enter Tryz.func11, Tryz.ntmps11
    go_wp2_with (first
      | (go_at_call 30; refine hF.mono ?_; clear hF; rintro e w1 ⟨rfl, b1⟩; have hC := HK.out _ (b1.trans ((below_alloc w1 (.cells #[cP (p.cb (ctrN tb j)), U (ctK tb (ctrN tb j)).max, U (ctK tb (ctrN tb j)).base, U (ctK tb (ctrN tb j)).min, slT (p.ca (ctrN tb j))] 85)).mono b1.size)))
      | (go_at_call 32; refine hC.mono ?_; clear hC; rintro e w2 ⟨rfl, k2, z2⟩))
    go_ret
    exact ⟨rfl, k2, z2⟩
set_option maxRecDepth 100000 in
theorem bAbs (h : Bo w zn tb B p s) (t : Int) (f cy : Nat) (hf : f < 4294967296) : Calls Tryz.prog 10 #[bP B, I t, U f, U cy] w fun e w' => e = .returned (I (setB tb s t (Cl.absB (ctA tb t).min (ctA tb t).max f cy))) ∧ Bo w' zn tb B p (setT tb s t (Cl.absB (ctA tb t).min (ctA tb t).max f cy) (Cl.untN (ctA tb t).max (s.v (ctrN tb t.toNat)) f, cy)) ∧ Fz (Wr zn) w w' := by
  by_cases ho : outA tb t
  · have e1 : ∀ m, setB tb s t m = 3 := fun m => by unfold setB; rw [if_pos ho]
    have e2 : ∀ m y, setT tb s t m y = s := fun m y => by unfold setT; rw [e1, if_neg (by decide)]
    rw [e1, e2]
    have hF := find_out h t ho
    have HH : Hid (Bo w zn tb B p s) := h
    clear ho e1 e2 h
    go_enter Tryz.func10, Tryz.ntmps10
    go_wp2_with (first | (go_at_call 30; refine hF.mono ?_; clear hF; rintro e w1 ⟨rfl, b1⟩))
    go_ret
    have b2 := b1.trans ((below_alloc w1 (.cells #[.pointer none, .int .u32 0, .int .u32 0, .int .u32 0, .slice none 0 0] 85)).mono b1.size)
    exact ⟨rfl, HH.out.below b2, Fz.of_below b2⟩
  · obtain ⟨j, rfl, hj⟩ := not_out ho
    have hF := find_ok h hj
    try simp only [Int.toNat_natCast]
    have hK : ∀ W, Below w.heap.size w W → Calls Tryz.prog 31 #[cP (p.cb (ctrN tb j)), I (plN tb j), U f, U cy] W fun e w' => e = .returned (I (setB tb s j (Cl.absB (ctA tb j).min (ctA tb j).max f cy))) ∧ Bo w' zn tb B p (setT tb s j (Cl.absB (ctA tb j).min (ctA tb j).max f cy) (Cl.untN (ctA tb j).max (s.v (ctrN tb j)) f, cy)) ∧ Fz (Wr zn) w w' := fun W hb => by
      have h1 := h.below hb
      refine (Cl.Abs_any (h1.k _ (h.ok.a j hj).2.1) (plN tb j) f cy hf).mono ?_
      rintro e w' ⟨rfl, k, z⟩
      have ec : ctA tb (j : Int) = ctK tb (ctrN tb j) := by unfold ctA; rw [Int.toNat_natCast]
      rw [setS_al hj, setB_in hj, ec]
      rw [setA_al hj] at k
      refine ⟨rfl, ?_⟩
      unfold setT
      rw [setB_in hj, Int.toNat_natCast]
      by_cases e0 : (if (s.a j).1 ≠ 0 then (7 : Int) else if Cl.absB (ctK tb (ctrN tb j)).min (ctK tb (ctrN tb j)).max f cy then 0 else 8) = 0
      · rw [if_pos e0] at k ⊢
        obtain ⟨b, z2⟩ := h1.putA hj z k (fun e => by 
          have := (Cl.untN_pos (ctK tb (ctrN tb j)).max (s.v (ctrN tb j)) f).1
          exfalso
          have e' : Cl.untN (ctK tb (ctrN tb j)).max (s.v (ctrN tb j)) f = 0 := e
          omega)
        exact ⟨b, (Fz.of_below hb).trans z2⟩
      · rw [if_neg e0] at k ⊢
        obtain ⟨b, z2⟩ := h1.same hj z k
        exact ⟨b, (Fz.of_below hb).trans z2⟩
    generalize setB tb s j (Cl.absB (ctA tb j).min (ctA tb j).max f cy) = r at *
    generalize setT tb s j (Cl.absB (ctA tb j).min (ctA tb j).max f cy) (Cl.untN (ctA tb j).max (s.v (ctrN tb j)) f, cy) = s2 at *
    have HK : Hid (∀ W, Below w.heap.size w W → Calls Tryz.prog 31 #[cP (p.cb (ctrN tb j)), I (plN tb j), U f, U cy] W fun e w' => e = .returned (I r) ∧ Bo w' zn tb B p s2 ∧ Fz (Wr zn) w w') := hK
    clear hK h ho
    go_enter Tryz.func10, Tryz.ntmps10
    go_wp2_with (first
      | (go_at_call 30; refine hF.mono ?_; clear hF; rintro e w1 ⟨rfl, b1⟩; have hC := HK.out _ (b1.trans ((below_alloc w1 (.cells #[cP (p.cb (ctrN tb j)), U (ctK tb (ctrN tb j)).max, U (ctK tb (ctrN tb j)).base, U (ctK tb (ctrN tb j)).min, slT (p.ca (ctrN tb j))] 85)).mono b1.size)))
      | (go_at_call 31; refine hC.mono ?_; clear hC; rintro e w2 ⟨rfl, k2, z2⟩))
    go_ret
    exact ⟨rfl, k2, z2⟩
set_option maxRecDepth 100000 in
theorem bCancel (h : Bo w zn tb B p s) (t : Int) : Calls Tryz.prog 12 #[bP B, I t] w fun e w' => e = .returned (I (getB tb s t)) ∧ Bo w' zn tb B p (canT tb s t) ∧ Fz (Wr zn) w w' := by
  by_cases ho : outA tb t
  · have e1 : getB tb s t = 3 := by unfold getB; rw [if_pos ho]
    have e2 : canT tb s t = s := by unfold canT; rw [if_pos ho]
    rw [e1, e2]
    have hF := find_out h t ho
    have HH : Hid (Bo w zn tb B p s) := h
    clear ho e1 e2 h
    go_enter Tryz.func12, Tryz.ntmps12
    go_wp2_with (first | (go_at_call 30; refine hF.mono ?_; clear hF; rintro e w1 ⟨rfl, b1⟩))
    go_ret
    have b2 := b1.trans ((below_alloc w1 (.cells #[.pointer none, .int .u32 0, .int .u32 0, .int .u32 0, .slice none 0 0] 85)).mono b1.size)
    exact ⟨rfl, HH.out.below b2, Fz.of_below b2⟩
  · obtain ⟨j, rfl, hj⟩ := not_out ho
    have hF := find_ok h hj
    have hK : ∀ W, Below w.heap.size w W → Calls Tryz.prog 33 #[cP (p.cb (ctrN tb j)), I (plN tb j)] W fun e w' => e = .returned (I (getB tb s j)) ∧ Bo w' zn tb B p (canT tb s j) ∧ Fz (Wr zn) w w' := fun W hb => by
      have h1 := h.below hb
      refine (Cl.Cancel_any (h1.k _ (h.ok.a j hj).2.1) (plN tb j)).mono ?_
      rintro e w' ⟨rfl, k, z⟩
      unfold getB canT
      rw [getS_al hj, if_neg ho, if_neg ho, Int.toNat_natCast]
      rw [canL_al hj (h.l j hj)] at k
      obtain ⟨b, z2⟩ := h1.putA hj z k (fun _ => rfl)
      exact ⟨rfl, b, (Fz.of_below hb).trans z2⟩
    generalize getB tb s j = r at *
    generalize canT tb s j = s2 at *
    have HK : Hid (∀ W, Below w.heap.size w W → Calls Tryz.prog 33 #[cP (p.cb (ctrN tb j)), I (plN tb j)] W fun e w' => e = .returned (I r) ∧ Bo w' zn tb B p s2 ∧ Fz (Wr zn) w w') := hK
    clear hK h ho
    go_enter Tryz.func12, Tryz.ntmps12
    go_wp2_with (first
      | (go_at_call 30; refine hF.mono ?_; clear hF; rintro e w1 ⟨rfl, b1⟩; have hC := HK.out _ (b1.trans ((below_alloc w1 (.cells #[cP (p.cb (ctrN tb j)), U (ctK tb (ctrN tb j)).max, U (ctK tb (ctrN tb j)).base, U (ctK tb (ctrN tb j)).min, slT (p.ca (ctrN tb j))] 85)).mono b1.size)))
      | (go_at_call 33; refine hC.mono ?_; clear hC; rintro e w2 ⟨rfl, k2, z2⟩))
    go_ret
    exact ⟨rfl, k2, z2⟩
def lftB (tb : Tb) (s : Bs) (t : Int) : Nat := if outA tb t then 0 else (s.a t.toNat).1
theorem wrap_u32 {n : Nat} (h : n < 4294967296) : IntKind.u32.wrap (n : Int) = n := by
  simp [IntKind.wrap, IntKind.bits, IntKind.signed]; omega
theorem bLeft (h : Bo w zn tb B p s) (t : Int) : Calls Tryz.prog 15 #[bP B, I t] w fun e w' => e = .returned (.tuple #[U (lftB tb s t), I (getB tb s t)]) ∧ Below w.heap.size w w' := by
  by_cases ho : outA tb t
  · have e1 : getB tb s t = 3 := by unfold getB; rw [if_pos ho]
    have e2 : lftB tb s t = 0 := by unfold lftB; rw [if_pos ho]
    rw [e1, e2]
    have hF := find_out h t ho
    clear ho e1 e2 h
    go_enter Tryz.func15, Tryz.ntmps15
    go_wp2_with (first | (go_at_call 30; refine hF.mono ?_; clear hF; rintro e w1 ⟨rfl, b1⟩))
    go_ret2
    exact ⟨rfl, b1.trans ((below_alloc w1 _).mono b1.size)⟩
  · obtain ⟨j, rfl, hj⟩ := not_out ho
    have hF := find_ok h hj
    have hi := (h.ok.a j hj).2.1
    have hlt : (s.a j).1 < 4294967296 := by
      have h1 := ((h.k _ hi).x (s.a j) (List.mem_of_getElem? (alC_at tb s.a hj))).1
      have := (h.ok.k _ hi).2.1
      omega
    have hK : ∀ W, Below w.heap.size w W → Calls Tryz.prog 38 #[cP (p.cb (ctrN tb j)), I (plN tb j)] W fun e w' => e = .returned (.tuple #[Q (lftB tb s j), I (getB tb s j)]) ∧ W = w' := fun W hb => by
      have h1 := h.below hb
      refine (Cl.Left_any (h1.k _ hi) (plN tb j)).mono ?_
      rintro e w' ⟨rfl, rfl⟩
      unfold getB lftB
      rw [lftN_al hj, getS_al hj, if_neg ho, if_neg ho, Int.toNat_natCast]
      exact ⟨rfl, rfl⟩
    have hw : IntKind.u32.wrap (lftB tb s j : Int) = lftB tb s j := wrap_u32 (by unfold lftB; rw [if_neg ho, Int.toNat_natCast]; exact hlt)
    generalize getB tb s j = r at *
    generalize lftB tb s j = l at *
    have HK : Hid (∀ W, Below w.heap.size w W → Calls Tryz.prog 38 #[cP (p.cb (ctrN tb j)), I (plN tb j)] W fun e w' => e = .returned (.tuple #[Q l, I r]) ∧ W = w') := hK
    clear hK h ho hlt hi
    go_enter Tryz.func15, Tryz.ntmps15
    go_wp2_with (first
      | (go_at_call 30; refine hF.mono ?_; clear hF; rintro e w1 ⟨rfl, b1⟩; have hC := HK.out _ (b1.trans ((below_alloc w1 (.cells #[cP (p.cb (ctrN tb j)), U (ctK tb (ctrN tb j)).max, U (ctK tb (ctrN tb j)).base, U (ctK tb (ctrN tb j)).min, slT (p.ca (ctrN tb j))] 85)).mono b1.size)))
      | (go_at_call 38; refine hC.mono ?_; clear hC; rintro e w2 ⟨rfl, rfl⟩))
    go_ret2
    exact ⟨rfl, b1.trans ((below_alloc w1 _).mono b1.size)⟩
theorem res_base {fn : Func} (hf : fn.results = #[.cell 4 83, .tmp 5]) (tmps : Array Value) (b : Nat) (x : Value) (w : World) (v0 v1 v2 : Value)
    (h2 : tmps[4]? = some (.pointer (some ⟨b, 0, none⟩))) (h3 : tmps[5]? = some x) (hk : w.heap[b]? = some (.cells #[v0, v1, v2] 83 (0, 0))) :
    (results fn tmps).run Tryz.prog w = .ok (.tuple #[.agg #[v0, v1, v2], x]) w := by
  have a1 := fun i => cell_of_row w b i _ _ (0, 0) hk
  have z0 := a1 0; have z1 := a1 1; have z2 := a1 2
  simp at z0 z1 z2
  simp [results, hf, go_sem, h2, h3, z0, z1, z2]
theorem wpList_idX {P : Program} {ops : Array Oper} {Q : Exit → Act → World → Prop} {l : List Oper} {a : Act} {w : World} (h : wpList P ops Q l a w) : wpList P ops Q l a w := h
theorem below_setRow {a W : World} {g : Nat} {cs : Array Value} (h : Below g a W) : Below g a (W.setRow g cs) :=
  ⟨h.os, h.tape, h.output, by have := h.size; simpa [World.setRow] using this, fun i hi => (setRow_other W g i cs (by omega)).trans (h.block i hi)⟩
abbrev z3 : Obj := .cells #[.int .u32 0, .int .u32 0, .int .u32 0] 83
def basV (tb : Tb) (t : Int) : Value := if outA tb t then .agg #[U 0, U 0, U 0] else .agg #[U (ctA tb t).max, U (ctA tb t).base, U (ctA tb t).min]
def basS (tb : Tb) (t : Int) : Int := if outA tb t then 3 else 0
theorem row_facts {W : World} {g : Nat} {cs : Array Value} {t : TypeId} (h : W.heap[g]? = some (.cells cs t)) : (∀ j, W.cell? ⟨g, j, none⟩ = cs[j]?) ∧ (∀ j, W.frozen? ⟨g, j, none⟩ = false) := ⟨fun j => cell_of_row W g j _ _ (0, 0) h, fun j => frozen_of_row W g j _ _ h⟩
theorem below_set {g a : Nat} {u W : World} {i : Nat} {v : Value} (h : Below a u W) (hg : a ≤ g) : Below a u (W.setCell ⟨g, i, none⟩ v) :=
  ⟨h.os, h.tape, h.output, by simpa using h.size, fun b hb => (heap_setCell_other W ⟨g, i, none⟩ b v (by show b ≠ g; omega)).trans (h.block b hb)⟩
set_option maxRecDepth 100000 in
theorem bBase (h : Bo w zn tb B p s) (t : Int) : Calls Tryz.prog 39 #[bP B, I t] w fun e w' => e = .returned (.tuple #[basV tb t, I (basS tb t)]) ∧ Below w.heap.size w w' := by
  have hb0 := below_alloc w z3
  have hV0 := heap_alloc_new w z3
  have h0 := h.below hb0
  by_cases ho : outA tb t
  · have e1 : basS tb t = 3 := by unfold basS; rw [if_pos ho]
    have e2 : basV tb t = .agg #[U 0, U 0, U 0] := by unfold basV; rw [if_pos ho]
    rw [e1, e2]
    have hF := find_out h0 t ho
    clear ho e1 e2 h h0
    go_enter Tryz.func39, Tryz.ntmps39
    go_upto_region 2 with (first | (go_at_call 30; refine hF.mono ?_; clear hF; rintro e w1 ⟨rfl, b1⟩))
    have b2 := below_alloc w1 (.cells #[.pointer none, .int .u32 0, .int .u32 0, .int .u32 0, .slice none 0 0] 85)
    have hv2 := heap_alloc_new w1 (.cells #[.pointer none, .int .u32 0, .int .u32 0, .int .u32 0, .slice none 0 0] 85)
    have hq := (b2.block _ (heap_lt ((b1.block _ (heap_lt hV0)).trans hV0))).trans ((b1.block _ (heap_lt hV0)).trans hV0)
    have BB : Hid (Below w.heap.size w (w1.alloc (.cells #[.pointer none, .int .u32 0, .int .u32 0, .int .u32 0, .slice none 0 0] 85))) := hb0.trans ((b1.trans (b2.mono b1.size)).mono hb0.size)
    clear b1 b2 hV0 hb0
    generalize w1.alloc (.cells #[.pointer none, .int .u32 0, .int .u32 0, .int .u32 0, .slice none 0 0] 85) = W at *
    generalize w1.heap.size = X1 at *
    have y1 : W.cell? ⟨X1, 1, none⟩ = some (U 0) := by rw [cell_of_row _ _ _ _ _ (0, 0) hv2]; rfl
    have y2 : W.cell? ⟨X1, 2, none⟩ = some (U 0) := by rw [cell_of_row _ _ _ _ _ (0, 0) hv2]; rfl
    have y3 : W.cell? ⟨X1, 3, none⟩ = some (U 0) := by rw [cell_of_row _ _ _ _ _ (0, 0) hv2]; rfl
    have hq1 := heap_setCell_same W w.heap.size 0 _ _ (U 0) hq
    have hq2 := heap_setCell_same _ w.heap.size 1 _ _ (U 0) hq1
    have hq3 := heap_setCell_same _ w.heap.size 2 _ _ (U 0) hq2
    have x0 : W.cell? ⟨w.heap.size, 0, none⟩ = some (.int .u32 0) := by rw [cell_of_row _ _ _ _ _ (0, 0) hq]; rfl
    have x1 : (W.setCell ⟨w.heap.size, 0, none⟩ (U 0)).cell? ⟨w.heap.size, 1, none⟩ = some (.int .u32 0) := by rw [cell_of_row _ _ _ _ _ (0, 0) hq1]; rfl
    have x2 : ((W.setCell ⟨w.heap.size, 0, none⟩ (U 0)).setCell ⟨w.heap.size, 1, none⟩ (U 0)).cell? ⟨w.heap.size, 2, none⟩ = some (.int .u32 0) := by rw [cell_of_row _ _ _ _ _ (0, 0) hq2]; rfl
    have f0 := frozen_of_row W w.heap.size 0 _ _ hq
    have f1 := frozen_of_row _ w.heap.size 1 _ _ hq1
    have f2 := frozen_of_row _ w.heap.size 2 _ _ hq2
    clear hq hq1 hq2 hv2
    go_wp2
    refine bodyPost_ret (res_base Tryz.results39 _ w.heap.size _ _ _ _ _ rfl rfl hq3) rfl ?_
    exact ⟨rfl, below_set (below_set (below_set BB.out (Nat.le_refl _)) (Nat.le_refl _)) (Nat.le_refl _)⟩
  · obtain ⟨j, rfl, hj⟩ := not_out ho
    have e1 : basS tb j = 0 := by unfold basS; rw [if_neg ho]
    have e2 : basV tb j = .agg #[U (ctK tb (ctrN tb j)).max, U (ctK tb (ctrN tb j)).base, U (ctK tb (ctrN tb j)).min] := by unfold basV ctA; rw [if_neg ho, Int.toNat_natCast]
    rw [e1, e2]
    have hF := find_ok h0 hj
    clear ho e1 e2 h h0
    go_enter Tryz.func39, Tryz.ntmps39
    go_upto_region 2 with (first | (go_at_call 30; refine hF.mono ?_; clear hF; rintro e w1 ⟨rfl, b1⟩))
    have b2 := below_alloc w1 (.cells #[cP (p.cb (ctrN tb j)), U (ctK tb (ctrN tb j)).max, U (ctK tb (ctrN tb j)).base, U (ctK tb (ctrN tb j)).min, slT (p.ca (ctrN tb j))] 85)
    have hv2 := heap_alloc_new w1 (.cells #[cP (p.cb (ctrN tb j)), U (ctK tb (ctrN tb j)).max, U (ctK tb (ctrN tb j)).base, U (ctK tb (ctrN tb j)).min, slT (p.ca (ctrN tb j))] 85)
    have hq := (b2.block _ (heap_lt ((b1.block _ (heap_lt hV0)).trans hV0))).trans ((b1.block _ (heap_lt hV0)).trans hV0)
    have BB : Hid (Below w.heap.size w (w1.alloc (.cells #[cP (p.cb (ctrN tb j)), U (ctK tb (ctrN tb j)).max, U (ctK tb (ctrN tb j)).base, U (ctK tb (ctrN tb j)).min, slT (p.ca (ctrN tb j))] 85))) := hb0.trans ((b1.trans (b2.mono b1.size)).mono hb0.size)
    clear b1 b2 hV0 hb0
    generalize w1.alloc (.cells #[cP (p.cb (ctrN tb j)), U (ctK tb (ctrN tb j)).max, U (ctK tb (ctrN tb j)).base, U (ctK tb (ctrN tb j)).min, slT (p.ca (ctrN tb j))] 85) = W at *
    generalize w1.heap.size = X1 at *
    have y1 : W.cell? ⟨X1, 1, none⟩ = some (U (ctK tb (ctrN tb j)).max) := by rw [cell_of_row _ _ _ _ _ (0, 0) hv2]; rfl
    have y2 : W.cell? ⟨X1, 2, none⟩ = some (U (ctK tb (ctrN tb j)).base) := by rw [cell_of_row _ _ _ _ _ (0, 0) hv2]; rfl
    have y3 : W.cell? ⟨X1, 3, none⟩ = some (U (ctK tb (ctrN tb j)).min) := by rw [cell_of_row _ _ _ _ _ (0, 0) hv2]; rfl
    have hq1 := heap_setCell_same W w.heap.size 0 _ _ (U (ctK tb (ctrN tb j)).max) hq
    have hq2 := heap_setCell_same _ w.heap.size 1 _ _ (U (ctK tb (ctrN tb j)).base) hq1
    have hq3 := heap_setCell_same _ w.heap.size 2 _ _ (U (ctK tb (ctrN tb j)).min) hq2
    have x0 : W.cell? ⟨w.heap.size, 0, none⟩ = some (.int .u32 0) := by rw [cell_of_row _ _ _ _ _ (0, 0) hq]; rfl
    have x1 : (W.setCell ⟨w.heap.size, 0, none⟩ (U (ctK tb (ctrN tb j)).max)).cell? ⟨w.heap.size, 1, none⟩ = some (.int .u32 0) := by rw [cell_of_row _ _ _ _ _ (0, 0) hq1]; rfl
    have x2 : ((W.setCell ⟨w.heap.size, 0, none⟩ (U (ctK tb (ctrN tb j)).max)).setCell ⟨w.heap.size, 1, none⟩ (U (ctK tb (ctrN tb j)).base)).cell? ⟨w.heap.size, 2, none⟩ = some (.int .u32 0) := by rw [cell_of_row _ _ _ _ _ (0, 0) hq2]; rfl
    have f0 := frozen_of_row W w.heap.size 0 _ _ hq
    have f1 := frozen_of_row _ w.heap.size 1 _ _ hq1
    have f2 := frozen_of_row _ w.heap.size 2 _ _ hq2
    clear hq hq1 hq2 hv2
    go_wp2
    refine bodyPost_ret (res_base Tryz.results39 _ w.heap.size _ _ _ _ _ rfl rfl hq3) rfl ?_
    exact ⟨rfl, below_set (below_set (below_set BB.out (Nat.le_refl _)) (Nat.le_refl _)) (Nat.le_refl _)⟩
end
end Go.Proofs.YthhckhifaolmkaaGreat

namespace Go.Proofs.YthhckhifaolmkaaGreat
open Go.RowKit Go.Shelf Go.Sort
open Go.Proofs.YthhckhifaolmkaaGreat.Cl (Fx Fz Ck Cb Alm psA dueA dueF U Q cP own_sl own_some own_below own_base inL ret_bool ret_int heap_lt iinfo cell_one_new take_snoc aftN)
set_option linter.unusedVariables false
set_option linter.unusedSimpArgs false

/-! ### Tick -/
def mixE (l ix : List Nat) (k : Nat) : List Nat := (l.take k).map (fun p => ix.getD p 0) ++ l.drop k
theorem mixE_zero (l ix : List Nat) : mixE l ix 0 = l := by simp [mixE]
theorem mixE_all (l ix : List Nat) : mixE l ix l.length = l.map (fun p => ix.getD p 0) := by simp [mixE]
theorem mixE_len (l ix : List Nat) (k : Nat) : (mixE l ix k).length = l.length := by simp [mixE]; omega
theorem mixE_at {l ix : List Nat} {k x : Nat} (h : l[k]? = some x) : (mixE l ix k)[k]? = some x := by
  have hk : k < l.length := (List.getElem?_eq_some_iff.1 h).1
  unfold mixE
  rw [List.getElem?_append_right (by simp; omega)]
  simp only [List.length_map, List.length_take, List.getElem?_drop]
  rw [show k + (k - min k l.length) = k by omega]
  exact h
theorem mixE_succ {l ix : List Nat} {k x : Nat} (h : l[k]? = some x) : mixE l ix (k + 1) = (mixE l ix k).set k (ix.getD x 0) := by
  have hk : k < l.length := (List.getElem?_eq_some_iff.1 h).1
  have hx : l.drop k = x :: l.drop (k + 1) := by
    rw [List.drop_eq_getElem_cons hk]
    congr 1
    exact (List.getElem?_eq_some_iff.1 h).2
  unfold mixE
  rw [take_snoc h, List.map_append, hx, List.set_append_right _ _ (by simp; omega)]
  simp only [List.length_map, List.length_take]
  rw [show k - min k l.length = 0 by omega]
  simp
theorem inL_set (l : List Nat) (k x : Nat) : inL (l.set k x) = (inL l).set k (I x) := by simp [inL, List.map_set]
theorem inL_at {l : List Nat} {k x : Nat} (h : l[k]? = some x) : (inL l)[k]? = some (I x) := by simp [inL, h]
theorem inL_len (l : List Nat) : (inL l).length = l.length := by simp [inL]
section
variable {w w' : World} {zn : Nat → Nat} {tb : Tb} {B : Nat} {p : Pl} {s : Bs}
theorem ps_l {x : Alm} (h : x.1 = 0 → x.2 = 0) : (psA 1 x).1 = 0 → (psA 1 x).2 = 0 := by
  unfold psA
  split
  · exact h
  · split
    · exact id
    · rename_i h1 h2
      intro e
      exact absurd e h2
def tckT (tb : Tb) (s : Bs) (i : Nat) : Bs := ⟨upN s.v i (aftN (ctK tb i).max (s.v i) 1), psF tb s.a i, s.q⟩
theorem Bo.number (h : Bo w zn tb B p s) {i : Nat} (hi : i < tb.ctrs.length) {q x : Nat} (hx : (idxA tb i)[q]? = some x) : ∃ g c, slT (p.ca i) = .slice (some ⟨g, 0, none⟩) (idxA tb i).length c ∧ w.cell? ⟨g, q, none⟩ = some (I x) := by
  have hq := (List.getElem?_eq_some_iff.1 hx).1
  obtain ⟨g, c, e⟩ := own_some (h.n i hi) (by omega)
  have hn := h.n i hi
  rw [e] at hn
  exact ⟨g, c, e, by rw [hn.cellAt _ (by omega)]; exact inL_at hx⟩
set_option maxRecDepth 100000 in
set_option maxHeartbeats 8000000 in
theorem bpass (h : Bo w zn tb B p s) {i : Nat} (hi : i < tb.ctrs.length) : Calls Tryz.prog 29 #[ctV tb p i] w fun e w' => ∃ u, e = .returned u ∧ w'.ownsRow w.heap.size 3 1 u (expL tb s.a i).length (inL (expL tb s.a i)) ∧ Bo w' zn tb B p (tckT tb s i) ∧ Fz (Wr zn) w w' := by
  have hb0 := below_alloc w (.cells #[cP (p.cb i), U (ctK tb i).max, U (ctK tb i).base, U (ctK tb i).min, slT (p.ca i)] 85)
  have hV0 := heap_alloc_new w (.cells #[cP (p.cb i), U (ctK tb i).max, U (ctK tb i).base, U (ctK tb i).min, slT (p.ca i)] 85)
  have h0 := h.below hb0
  have hT : Calls Tryz.prog 70 #[cP (p.cb i)] (w.alloc (.cells #[cP (p.cb i), U (ctK tb i).max, U (ctK tb i).base, U (ctK tb i).min, slT (p.ca i)] 85)) fun e w' => ∃ u, e = .returned u ∧ w'.ownsRow (w.heap.size + 1) 3 1 u (dueF 1 0 (alC tb s.a i)).length (inL (dueF 1 0 (alC tb s.a i))) ∧ Bo w' zn tb B p (tckT tb s i) ∧ Fz (Wr zn) w w' ∧ w'.heap[w.heap.size]? = some (.cells #[cP (p.cb i), U (ctK tb i).max, U (ctK tb i).base, U (ctK tb i).min, slT (p.ca i)] 85) := by
    refine (Cl.Tick_any (h0.k i hi)).mono ?_
    rintro e w' ⟨u, rfl, o, k, z⟩
    rw [World.size_alloc] at o
    rw [alC_ps] at k
    obtain ⟨b2, z2⟩ := h0.setK hi z k (fun i' hi' => alC_ps_other tb s.a hi') (fun j hj => by
      unfold psF
      split
      · exact ps_l (h.l j hj)
      · exact h.l j hj)
    exact ⟨u, rfl, o, b2, (Fz.of_below hb0).trans z2, z.heap hV0 (fun e => by have := h.zk i hi _ e; have := h.zs w.heap.size (by omega); omega)⟩
  have HZ : Hid (∀ b, zn b ≠ 0 → b < w.heap.size) := h.zs
  have HI : Hid (i < tb.ctrs.length) := hi
  have HD : Hid (∀ q, q ∈ dueF 1 0 (alC tb s.a i) → q < (idxA tb i).length) := fun q hq => due_lt hq
  have HX : Hid ((dueF 1 0 (alC tb s.a i)).map (fun p => (idxA tb i).getD p 0) = expL tb s.a i) := due_exp tb s.a i
  have hln : (dueF 1 0 (alC tb s.a i)).length ≤ 64 := by
    have := Cl.dueF_len (t := 1) (alC tb s.a i) 0
    rw [alC_len] at this
    have := idxA_len tb i
    have := h.ok.na
    omega
  clear h h0 hb0 hi
  generalize dueF 1 0 (alC tb s.a i) = D at *
  generalize hs2 : tckT tb s i = s2 at *
  clear hs2
  go_enter Tryz.func29, Tryz.ntmps29
  go_upto_region 2 with (first | (go_at_call 70; refine hT.mono ?_; clear hT; rintro e w1 ⟨u, rfl, o1, k1, z1, v1⟩))
  have H1 : Hid (w1.ownsRow (w.heap.size + 1) 3 1 u D.length (inL (mixE D (idxA tb i) 0)) ∧ Bo w1 zn tb B p s2 ∧ Fz (Wr zn) w w1 ∧ w1.heap[w.heap.size]? = some (.cells #[cP (p.cb i), U (ctK tb i).max, U (ctK tb i).base, U (ctK tb i).min, slT (p.ca i)] 85)) := ⟨by rw [mixE_zero]; exact o1, k1, z1, v1⟩
  obtain ⟨ua, uc, rfl⟩ := own_sl o1
  clear o1 k1 z1 v1 hV0
  generalize hDn : D.length = n at *
  have HN : Hid (D.length = n) := hDn
  clear hDn
  go_wp2
  go_loopw [4, 5, 11] (fun _ _ v11 wr => ∃ k : Nat, k ≤ n ∧ v11 = I k ∧ Hid (wr.ownsRow (w.heap.size + 1) 3 1 (.slice ua n uc) n (inL (mixE D (idxA tb i) k)) ∧ Bo wr zn tb B p s2 ∧ Fz (Wr zn) w wr ∧ wr.heap[w.heap.size]? = some (.cells #[cP (p.cb i), U (ctK tb i).max, U (ctK tb i).base, U (ctK tb i).min, slT (p.ca i)] 85))) (fun _ _ v11 _ => n - (intOf v11).toNat)
  case atStart => exact ⟨0, by omega, rfl, H1.out⟩
  case round =>
    clear H1
    obtain ⟨k, hk, rfl, HJ⟩ := hrel
    by_cases hlt : k < n
    · have hltI : (k : Int) < n := by omega
      obtain ⟨q, hq⟩ : ∃ q, D[k]? = some q := ⟨_, List.getElem?_eq_getElem (by rw [HN.out]; exact hlt)⟩
      obtain ⟨o, b, z, v⟩ := HJ.out
      obtain ⟨g, c, e1⟩ := own_some o (by omega)
      cases e1
      have hqi := HD.out q (List.mem_of_getElem? hq)
      obtain ⟨x, hx⟩ : ∃ x, (idxA tb i)[q]? = some x := ⟨_, List.getElem?_eq_getElem hqi⟩
      obtain ⟨ga, ca, ea, n1⟩ := b.number HI.out hx
      have hx2 : (idxA tb i).getD q 0 = x := by rw [List.getD_eq_getElem?_getD, hx]; rfl
      have c1 : wr.cell? ⟨g, k, none⟩ = some (I q) := by rw [o.cellAt _ (by omega)]; exact inL_at (mixE_at hq)
      have f1 := o.frozenAt k
      have v4 : wr.cell? ⟨w.heap.size, 4, none⟩ = some (slT (p.ca i)) := by rw [cell_of_row _ _ _ _ _ (0, 0) v]; rfl
      rw [ea] at v4
      have hqI : (q : Int) < (idxA tb i).length := by omega
      have o2 := (o.stored k (I x)).1
      rw [← hx2, ← inL_set, ← mixE_succ hq, hx2] at o2
      have hg1 := (o.lt g rfl).1
      have F : Fz (fun b => b = g) wr (wr.setCell ⟨g, k, none⟩ (I x)) := (Fz.refl (fun b => b = g) wr).set (.inl rfl) _ _
      have H2 : Hid ((wr.setCell ⟨g, k, none⟩ (I x)).ownsRow (w.heap.size + 1) 3 1 (.slice (some ⟨g, 0, none⟩) n uc) n (inL (mixE D (idxA tb i) (k + 1))) ∧ Bo (wr.setCell ⟨g, k, none⟩ (I x)) zn tb B p s2 ∧ Fz (Wr zn) w (wr.setCell ⟨g, k, none⟩ (I x)) ∧ (wr.setCell ⟨g, k, none⟩ (I x)).heap[w.heap.size]? = some (.cells #[cP (p.cb i), U (ctK tb i).max, U (ctK tb i).base, U (ctK tb i).min, slT (p.ca i)] 85)) :=
        ⟨o2, b.keep F (fun b hb e => by have := HZ.out b hb; omega), z.set (.inr (by omega)) _ _, F.heap v (by omega)⟩
      have NE : Hid (g ≠ w.heap.size) := by show g ≠ w.heap.size; omega
      clear o b z v HJ o2 F hg1 hq hx hx2 ea hqi
      generalize (idxA tb i).length = m at *
      go_wp2
      go_roundw
      case rel => exact ⟨k + 1, by omega, by go_num, H2.out⟩
      case measure => simp [intOf]; omega
    · obtain rfl : k = n := by omega
      have hge : ¬ ((k : Int) < k) := by omega
      go_wp2
      go_ret
      obtain ⟨o, b, z, v⟩ := HJ.out
      have hl : (expL tb s.a i).length = k := by rw [← HX.out, List.length_map]; exact HN.out
      refine ⟨_, rfl, ?_, b, z⟩
      rw [hl, ← HX.out]
      have := own_base o (show w.heap.size ≤ w.heap.size + 1 by omega)
      rw [← HN.out, mixE_all, HN.out] at this
      exact this
end
end Go.Proofs.YthhckhifaolmkaaGreat

namespace Go.Proofs.YthhckhifaolmkaaGreat
open Go.RowKit Go.Shelf Go.Sort
open Go.Proofs.YthhckhifaolmkaaGreat.Cl (Fx Fz Ck Cb Alm psA dueA dueF U Q cP own_sl own_some own_below own_base inL ret_bool ret_int heap_lt iinfo cell_one_new take_snoc aftN)
set_option linter.unusedVariables false
set_option linter.unusedSimpArgs false

/-! ### Tick, Counters, Alarms -/
def outK (tb : Tb) (t : Int) : Prop := t < 0 ∨ (tb.ctrs.length : Int) ≤ t
instance (tb : Tb) (t : Int) : Decidable (outK tb t) := by unfold outK; exact inferInstance
def tckS (tb : Tb) (t : Int) : Int := if outK tb t then 2 else 0
def tckL (tb : Tb) (s : Bs) (t : Int) : List Nat := if outK tb t then [] else expL tb s.a t.toNat
def tckA (tb : Tb) (s : Bs) (t : Int) : Bs := if outK tb t then s else tckT tb s t.toNat
section
variable {w w' : World} {zn : Nat → Nat} {tb : Tb} {B : Nat} {p : Pl} {s : Bs}
set_option maxRecDepth 100000 in
theorem bTick (h : Bo w zn tb B p s) (t : Int) : Calls Tryz.prog 9 #[bP B, I t] w fun e w' => ∃ u, e = .returned (.tuple #[u, I (tckS tb t)]) ∧ w'.ownsRow w.heap.size 3 1 u (tckL tb s t).length (inL (tckL tb s t)) ∧ Bo w' zn tb B p (tckA tb s t) ∧ Fz (Wr zn) w w' := by
  obtain ⟨c0, c1, c2, c3, -⟩ := h.cells
  have hN := bnone_any h
  unfold tckS tckL tckA
  by_cases ho : outK tb t
  · simp only [if_pos ho]
    obtain ⟨a, cc, hv⟩ := own_sl h.c
    rw [hv] at c1
    have HH : Hid (Bo w zn tb B p s) := h
    clear h hv
    unfold outK at ho
    generalize tb.ctrs.length = n at *
    by_cases h0 : t < 0
    · clear ho
      go_enter Tryz.func9, Tryz.ntmps9
      go_wp2_with (first | (go_at_call 28; refine hN.mono ?_; rintro e w1 ⟨rfl, rfl⟩))
      go_ret2
      exact ⟨_, rfl, by simpa [inL] using World.ownsRow_nil w _ _ _, HH.out, Fz.refl _ _⟩
    · have h1 : (n : Int) ≤ t := by omega
      clear ho
      go_enter Tryz.func9, Tryz.ntmps9
      go_wp2_with (first | (go_at_call 28; refine hN.mono ?_; rintro e w1 ⟨rfl, rfl⟩))
      go_ret2
      exact ⟨_, rfl, by simpa [inL] using World.ownsRow_nil w _ _ _, HH.out, Fz.refl _ _⟩
  · simp only [if_neg ho]
    obtain ⟨i, rfl, hi⟩ : ∃ i : Nat, t = i ∧ i < tb.ctrs.length := by unfold outK at ho; exact ⟨t.toNat, by omega, by omega⟩
    rw [Int.toNat_natCast]
    obtain ⟨g, c, ev, d0, d1, d2, d3, d4⟩ := h.ct hi
    rw [ev] at c1
    have hP := bpass h hi
    have n0 : ¬ ((i : Int) < 0) := by omega
    have n1 : ¬ ((tb.ctrs.length : Int) ≤ i) := by omega
    have n2 : (i : Int) < tb.ctrs.length := by omega
    clear h ho hi
    generalize tb.ctrs.length = n at *
    generalize tckT tb s i = s2 at *
    go_enter Tryz.func9, Tryz.ntmps9
    go_wp2_with (first | (go_at_call 28; refine hN.mono ?_; rintro e w1 ⟨rfl, rfl⟩) | (go_at_call 29; refine hP.mono ?_; clear hP; rintro e w2 ⟨u, rfl, o2, k2, z2⟩))
    go_ret2
    exact ⟨u, rfl, o2, k2, z2⟩
/-! ### Rows that are filled -/
def Fil (f : Nat → List Value) (m n k : Nat) (xs : List Value) : Prop := xs.length = n * m ∧ ∀ i, i < k → ∀ j, j < m → xs[i * m + j]? = (f i)[j]?
theorem Fil.all {f : Nat → List Value} {m n : Nat} {xs : List Value} (h : Fil f m n n xs) (hm : 0 < m) (hf : ∀ i, (f i).length = m) : xs = flat f n := by
  apply List.ext_getElem?
  intro t
  by_cases ht : t < n * m
  · have h1 : t / m < n := (Nat.div_lt_iff_lt_mul hm).2 ht
    have h2 : t % m < m := Nat.mod_lt _ hm
    have e : t = t / m * m + t % m := by rw [Nat.mul_comm]; exact (Nat.div_add_mod t m).symm
    rw [e, h.2 _ h1 _ h2, flat_at hf h1 h2]
  · rw [List.getElem?_eq_none (by rw [h.1]; omega), List.getElem?_eq_none (by rw [flat_len hf]; omega)]
theorem Fil.zero (f : Nat → List Value) {m n : Nat} {xs : List Value} (h : xs.length = n * m) : Fil f m n 0 xs := ⟨h, fun i hi => by omega⟩
theorem Fil.next {f : Nat → List Value} {m n k : Nat} {xs ys : List Value} (h : Fil f m n k xs) (hl : ys.length = xs.length) (h1 : ∀ t, t < k * m → ys[t]? = xs[t]?) (h2 : ∀ j, j < m → ys[k * m + j]? = (f k)[j]?) : Fil f m n (k + 1) ys := by
  refine ⟨hl.trans h.1, fun i hi j hj => ?_⟩
  by_cases e : i = k
  · subst e; exact h2 j hj
  · have hik : i < k := by omega
    rw [h1 _ (by have : (i + 1) * m ≤ k * m := Nat.mul_le_mul_right m hik; rw [Nat.succ_mul] at this; omega)]
    exact h.2 i hik j hj
theorem Fil.one {f : Nat → List Value} {n k : Nat} {xs : List Value} (h : Fil f 1 n k xs) (hk : k < n) {v : Value} (hv : f k = [v]) : Fil f 1 n (k + 1) (xs.set k v) := by
  have hl := h.1
  refine h.next (by simp) (fun t ht => by rw [List.getElem?_set_ne (by omega)]) (fun j hj => ?_)
  have : j = 0 := by omega
  subst this
  rw [hv, show k * 1 + 0 = k by omega, List.getElem?_set_self (by omega)]
  rfl
theorem Fil.three {f : Nat → List Value} {n k : Nat} {xs : List Value} (h : Fil f 3 n k xs) (hk : k < n) {a b c : Value} (hv : f k = [a, b, c]) : Fil f 3 n (k + 1) (((xs.set (k * 3) a).set (k * 3 + 1) b).set (k * 3 + 2) c) := by
  have hl := h.1
  refine h.next (by simp) (fun t ht => by rw [List.getElem?_set_ne (by omega), List.getElem?_set_ne (by omega), List.getElem?_set_ne (by omega)]) (fun j hj => ?_)
  rw [hv]
  match j, hj with
  | 0, _ => rw [List.getElem?_set_ne (by omega), List.getElem?_set_ne (by omega), Nat.add_zero, List.getElem?_set_self (by omega)]; rfl
  | 1, _ => rw [List.getElem?_set_ne (by omega), List.getElem?_set_self (by simp; omega)]; rfl
  | 2, _ => rw [List.getElem?_set_self (by simp; omega)]; rfl
theorem Fil.five {f : Nat → List Value} {n k : Nat} {xs : List Value} (h : Fil f 5 n k xs) (hk : k < n) {a b c d e : Value} (hv : f k = [a, b, c, d, e]) : Fil f 5 n (k + 1) (((((xs.set (k * 5) a).set (k * 5 + 1) b).set (k * 5 + 2) c).set (k * 5 + 3) d).set (k * 5 + 4) e) := by
  have hl := h.1
  refine h.next (by simp) (fun t ht => by rw [List.getElem?_set_ne (by omega), List.getElem?_set_ne (by omega), List.getElem?_set_ne (by omega), List.getElem?_set_ne (by omega), List.getElem?_set_ne (by omega)]) (fun j hj => ?_)
  rw [hv]
  match j, hj with
  | 0, _ => rw [List.getElem?_set_ne (by omega), List.getElem?_set_ne (by omega), List.getElem?_set_ne (by omega), List.getElem?_set_ne (by omega), Nat.add_zero, List.getElem?_set_self (by omega)]; rfl
  | 1, _ => rw [List.getElem?_set_ne (by omega), List.getElem?_set_ne (by omega), List.getElem?_set_ne (by omega), List.getElem?_set_self (by simp; omega)]; rfl
  | 2, _ => rw [List.getElem?_set_ne (by omega), List.getElem?_set_ne (by omega), List.getElem?_set_self (by simp; omega)]; rfl
  | 3, _ => rw [List.getElem?_set_ne (by omega), List.getElem?_set_self (by simp; omega)]; rfl
  | 4, _ => rw [List.getElem?_set_self (by simp; omega)]; rfl
theorem u32info : (Tryz.prog.info? 22).map (fun i => (i.zero, i.size, i.bytes)) = some (some (.int .u32 0), 1, 4) := by kernel_rfl
def valF (s : Bs) (i : Nat) : List Value := [U (s.v i)]
set_option maxRecDepth 100000 in
set_option maxHeartbeats 8000000 in
theorem bCounters (h : Bo w zn tb B p s) : Calls Tryz.prog 24 #[bP B] w fun e w' => ∃ u, e = .returned u ∧ w'.ownsRow w.heap.size 22 1 u tb.ctrs.length (flat (valF s) tb.ctrs.length) ∧ Below w.heap.size w w' := by
  obtain ⟨i0, hi0, hz0, hz1, hz2⟩ := info_parts u32info
  obtain ⟨c0, c1, c2, c3, -⟩ := h.cells
  have hN := bnone_any h
  have hn := h.ok.nk
  obtain ⟨w1, hmk, ho1, hg1⟩ := run_make_full (P := Tryz.prog) w w.heap.size 74 22 i0 _ 1 Tryz.underlying74 hi0 hz0 hz1 .i64 .i64 tb.ctrs.length (by rw [hz2]; omega) (by unfold maxLen; omega) (Nat.le_refl _)
  have b1 : Below w.heap.size w w1 := ⟨hg1.os, hg1.tape, hg1.output, hg1.size, fun i hi => hg1.block i hi (by simp)⟩
  have h1 := h.below b1
  obtain ⟨-, c1', -⟩ := h1.cells
  obtain ⟨a, cc, hv⟩ := own_sl h.c
  rw [hv] at c1 c1'
  have HI : Hid ((∃ xs, w1.ownsRow w.heap.size 22 1 (.slice (some ⟨w.heap.size, 0, none⟩) tb.ctrs.length tb.ctrs.length) tb.ctrs.length xs ∧ Fil (valF s) 1 tb.ctrs.length 0 xs) ∧ Below w.heap.size w w1) := ⟨⟨_, ho1, Fil.zero _ (by simp [size_madeCells])⟩, b1⟩
  have HH : Hid (Bo w zn tb B p s ∧ slT p.vc = .slice a tb.ctrs.length cc) := ⟨h, hv⟩
  clear h h1 ho1 hg1 b1 hv
  go_enter Tryz.func24, Tryz.ntmps24
  go_wp2_with (first | (go_at_call 28; refine hN.mono ?_; rintro e w1 ⟨rfl, rfl⟩))
  clear c0 c1 c2 c3 c1' hmk
  go_loopw [4, 5, 19] (fun _ _ v19 wr => ∃ k : Nat, k ≤ tb.ctrs.length ∧ v19 = I k ∧ Hid ((∃ xs, wr.ownsRow w.heap.size 22 1 (.slice (some ⟨w.heap.size, 0, none⟩) tb.ctrs.length tb.ctrs.length) tb.ctrs.length xs ∧ Fil (valF s) 1 tb.ctrs.length k xs) ∧ Below w.heap.size w wr)) (fun _ _ v19 _ => tb.ctrs.length - (intOf v19).toNat)
  case atStart => exact ⟨0, by omega, rfl, HI.out⟩
  case round =>
    clear HI
    obtain ⟨k, hk, rfl, HJ⟩ := hrel
    by_cases hlt : k < tb.ctrs.length
    · have hltI : (k : Int) < tb.ctrs.length := by omega
      obtain ⟨⟨xs, o, hF⟩, b⟩ := HJ.out
      have hr := HH.out.1.below b
      obtain ⟨g, c, ev, d0, d1, d2, d3, d4⟩ := hr.ct hlt
      have ea : a = some ⟨g, 0, none⟩ := by have := HH.out.2; rw [this] at ev; cases ev; rfl
      have hb1 := below_alloc wr (.cells #[cP (p.cb k), U (ctK tb k).max, U (ctK tb k).base, U (ctK tb k).min, slT (p.ca k)] 85)
      have hV := Cl.Value_any ((hr.below hb1).k k hlt)
      have o1 := own_below o hb1
      have q1 : (wr.alloc (.cells #[cP (p.cb k), U (ctK tb k).max, U (ctK tb k).base, U (ctK tb k).min, slT (p.ca k)] 85)).cell? ⟨w.heap.size, k, none⟩ = some (xs[k]'(by have := hF.1; omega)) := by rw [o1.cellAt _ (by omega)]; exact List.getElem?_eq_getElem _
      have f1 := o1.frozenAt k
      have o2 := (o1.stored k (U (s.v k))).1
      have H2 : Hid ((∃ xs, ((wr.alloc (.cells #[cP (p.cb k), U (ctK tb k).max, U (ctK tb k).base, U (ctK tb k).min, slT (p.ca k)] 85)).setCell ⟨w.heap.size, k, none⟩ (U (s.v k))).ownsRow w.heap.size 22 1 (.slice (some ⟨w.heap.size, 0, none⟩) tb.ctrs.length tb.ctrs.length) tb.ctrs.length xs ∧ Fil (valF s) 1 tb.ctrs.length (k + 1) xs) ∧ Below w.heap.size w ((wr.alloc (.cells #[cP (p.cb k), U (ctK tb k).max, U (ctK tb k).base, U (ctK tb k).min, slT (p.ca k)] 85)).setCell ⟨w.heap.size, k, none⟩ (U (s.v k)))) :=
        ⟨⟨_, o2, hF.one hlt rfl⟩, below_set (b.trans (hb1.mono b.size)) (Nat.le_refl _)⟩
      generalize xs[k]'(by have := hF.1; omega) = xk at *
      clear HJ o o1 o2 hF b hr hb1 ev
      subst ea
      go_wp2_with (first | (go_at_call 59; refine hV.mono ?_; rintro e w2 ⟨rfl, rfl⟩))
      go_roundw
      case rel => exact ⟨k + 1, by omega, by go_num, H2.out⟩
      case measure => simp [intOf]; omega
    · obtain rfl : k = tb.ctrs.length := by omega
      have hge : ¬ ((tb.ctrs.length : Int) < tb.ctrs.length) := by omega
      go_wp2
      go_ret
      obtain ⟨⟨xs, o, hF⟩, b⟩ := HJ.out
      rw [hF.all (by omega) (fun _ => rfl)] at o
      exact ⟨_, rfl, o, b⟩
end
end Go.Proofs.YthhckhifaolmkaaGreat

