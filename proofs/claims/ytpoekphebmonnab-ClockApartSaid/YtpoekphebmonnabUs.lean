import Derived.Test.YtpoekphebmonnabUr
namespace Go.Proofs.Ytpoekphebmonnab
open Go.RowKit Go.Shelf Go.Sort
set_option linter.unusedVariables false
set_option linter.unusedSimpArgs false

/-! ### The document's Get, Cancel, New, Reset -/
theorem res_alm {fn : Func} (hf : fn.results = #[.cell 4 65, .tmp 5]) (tmps : Array Value) (b : Nat) (e : Value) (w : World) (v0 v1 v2 : Value)
    (h2 : tmps[4]? = some (.pointer (some ⟨b, 0, none⟩))) (h3 : tmps[5]? = some e) (hk : w.heap[b]? = some (.cells #[v0, v1, v2] 65 (0, 0))) :
    (results fn tmps).run Try.prog w = .ok (.tuple #[.agg #[v0, v1, v2], e]) w := by
  have a1 := fun i => cell_of_row w b i _ _ (0, 0) hk
  have z0 := a1 0; have z1 := a1 1; have z2 := a1 2
  simp at z0 z1 z2
  simp [results, hf, go_sem, h2, h3, z0, z1, z2]
section
variable {w w' : World} {D G bs L V : Nat} {v : Value} {s : ByteArray} {al : List Alm}
set_option maxRecDepth 100000 in
theorem dGet_any (h : Dk w D v s G bs L V al) (t : Int) : Calls Try.prog 31 #[cP D, I t] w fun e w' => e = .returned (.tuple #[.agg #[.bool (decide (getS al t = 0)), Q (lftN al t : Nat), U (cycN al t : Nat)], I (getS al t)]) ∧ Below w.heap.size w w' := by
  have hb : ∀ o, Below w.heap.size w (w.alloc o) := fun o => below_alloc w o
  have hH := fun o => has_any (h.below (hb o)) t
  by_cases h0 : t < 0 ∨ (al.length : Int) ≤ t
  · have e0 : getS al t = 3 := by unfold getS; rw [if_pos h0]
    rw [e0, show decide ((3 : Int) = 0) = false by decide, show lftN al t = 0 by unfold lftN; rw [e0]; rfl, show cycN al t = 0 by unfold cycN; rw [e0]; rfl]
    rw [show (decide (0 ≤ t) && decide (t < al.length)) = false by simp; omega] at hH
    clear h0 e0
    go_enter Try.func31, Try.ntmps31
    go_wp2_with (first | (go_at_call 48; refine (hH _).mono ?_; rintro e w1 ⟨rfl, rfl⟩))
    exact bodyPost_ret (res_alm Try.results31 _ w.heap.size _ _ _ _ _ rfl rfl (heap_alloc_new w _)) rfl ⟨rfl, hb _⟩
  · obtain ⟨k, rfl⟩ := Int.eq_ofNat_of_zero_le (show 0 ≤ t by omega)
    rw [show (decide (0 ≤ (k : Int)) && decide ((k : Int) < al.length)) = true by simp; omega] at hH
    have hk : k < al.length := by omega
    have hkI : (k : Int) < al.length := by omega
    have hx : al[k]? = some al[k] := List.getElem?_eq_getElem hk
    generalize al[k] = x at hx
    have e1 : getS al (k : Int) = if x.1 = 0 then 5 else 0 := by unfold getS; rw [if_neg h0, Int.toNat_natCast, List.getD_eq_getElem?_getD, hx, Option.getD_some]
    have hL : ∀ o, ∃ g c, v = .slice (some ⟨g, 0, none⟩) al.length c ∧ (w.alloc o).cell? ⟨D, 6, none⟩ = some v ∧ (w.alloc o).cell? ⟨g, k * 3, none⟩ = some (.bool (decide (x.1 ≠ 0))) ∧ (w.alloc o).cell? ⟨g, k * 3 + 1, none⟩ = some (Q x.1) ∧ (w.alloc o).cell? ⟨g, k * 3 + 2, none⟩ = some (U x.2) := fun o => by
      obtain ⟨c0, c1, c2, c3, c4⟩ := (h.below (hb o)).cells
      obtain ⟨g, c, e, q1, q2, q3, q4⟩ := (h.below (hb o)).at hx
      exact ⟨g, c, e, c4, q1, q2, q3⟩
    obtain ⟨g, c, e2, -⟩ := hL (.cells #[] 0)
    subst e2
    have hL2 : ∀ o, (w.alloc o).cell? ⟨D, 6, none⟩ = some (.slice (some ⟨g, 0, none⟩) al.length c) ∧ (w.alloc o).cell? ⟨g, k * 3, none⟩ = some (.bool (decide (x.1 ≠ 0))) ∧ (w.alloc o).cell? ⟨g, k * 3 + 1, none⟩ = some (Q x.1) ∧ (w.alloc o).cell? ⟨g, k * 3 + 2, none⟩ = some (U x.2) := fun o => by
      obtain ⟨g', c', e, r⟩ := hL o
      cases e
      exact r
    have a1 := fun o => (hL2 o).1
    have a2 := fun o => (hL2 o).2.1
    have a3 := fun o => (hL2 o).2.2.1
    have a4 := fun o => (hL2 o).2.2.2
    clear hL hL2 h
    by_cases hz : x.1 = 0
    · have e0 : getS al (k : Int) = 5 := by rw [e1, if_pos hz]
      rw [e0, show decide ((5 : Int) = 0) = false by decide, show lftN al (k : Int) = 0 by unfold lftN; rw [e0]; rfl, show cycN al (k : Int) = 0 by unfold cycN; rw [e0]; rfl]
      have a2' : ∀ o, (w.alloc o).cell? ⟨g, k * 3, none⟩ = some (.bool false) := fun o => by rw [a2 o, show decide (x.1 ≠ 0) = false by simpa using hz]
      clear a2 e0 e1 hz hx h0
      go_enter Try.func31, Try.ntmps31
      go_wp2_with (first | (go_at_call 48; refine (hH _).mono ?_; rintro e w1 ⟨rfl, rfl⟩))
      exact bodyPost_ret (res_alm Try.results31 _ w.heap.size _ _ _ _ _ rfl rfl (heap_alloc_new w _)) rfl ⟨rfl, hb _⟩
    · have e0 : getS al (k : Int) = 0 := by rw [e1, if_neg hz]
      rw [e0, show decide ((0 : Int) = 0) = true by decide, show lftN al (k : Int) = x.1 by unfold lftN; rw [e0, if_pos rfl, Int.toNat_natCast, List.getD_eq_getElem?_getD, hx]; rfl, show cycN al (k : Int) = x.2 by unfold cycN; rw [e0, if_pos rfl, Int.toNat_natCast, List.getD_eq_getElem?_getD, hx]; rfl]
      have a2' : ∀ o, (w.alloc o).cell? ⟨g, k * 3, none⟩ = some (.bool true) := fun o => by rw [a2 o, show decide (x.1 ≠ 0) = true by simpa using hz]
      clear a2 e0 e1 hz hx h0
      go_enter Try.func31, Try.ntmps31
      go_wp2_with (first | (go_at_call 48; refine (hH _).mono ?_; rintro e w1 ⟨rfl, rfl⟩))
      exact bodyPost_ret (res_alm Try.results31 _ w.heap.size _ _ _ _ _ rfl rfl (heap_alloc_new w _)) rfl ⟨rfl, hb _⟩
set_option maxRecDepth 100000 in
theorem dCancel_any (h : Dk w D v s G bs L V al) (t : Int) : Calls Try.prog 24 #[cP D, I t] w fun e w' => e = .returned (I (getS al t)) ∧ Dk w' D v s G bs L V (canL al t) ∧ Fz (Cb D v) w w' := by
  have hG := dGet_any h t
  have HH : Hid (Dk w D v s G bs L V al) := h
  by_cases hs : getS al t = 0
  · unfold canL
    rw [hs, if_pos rfl]
    rw [hs] at hG
    obtain ⟨k, x, rfl, hk, hx, hz⟩ := getS_zero hs
    rw [Int.toNat_natCast]
    have hkI : (k : Int) < al.length := by omega
    have HX : Hid (al[k]? = some x) := hx
    obtain ⟨g, c, rfl, -⟩ := h.at hx
    generalize lftN al (k : Int) = ln at *
    generalize cycN al (k : Int) = cn at *
    clear hs h hz hx
    have hA : ∀ o w1, Below w.heap.size w w1 → Dk (w1.alloc o) D (.slice (some ⟨g, 0, none⟩) al.length c) s G bs L V al ∧ Below w.heap.size w (w1.alloc o) := fun o w1 b1 => by
      have b2 := b1.trans ((below_alloc w1 o).mono b1.size)
      exact ⟨HH.out.below b2, b2⟩
    go_enter Try.func24, Try.ntmps24
    go_upto_region 2 with (first | (go_at_call 31; refine hG.mono ?_; clear hG; rintro e w1 ⟨rfl, b1⟩))
    obtain ⟨K2, b2⟩ := hA (.cells #[.bool (decide ((0 : Int) = 0)), Q ln, U cn] 65) w1 b1
    have K2' : Dk (w1.alloc (.cells #[.bool true, Q ln, U cn] 65)) D (.slice (some ⟨g, 0, none⟩) al.length c) s G bs L V al := K2
    have b2' : Below w.heap.size w (w1.alloc (.cells #[.bool true, Q ln, U cn] 65)) := b2
    clear K2 b2 hA
    generalize (w1.alloc (.cells #[.bool true, Q ln, U cn] 65)) = w2 at *
    obtain ⟨c0, c1, c2, c3, c4⟩ := K2'.cells
    obtain ⟨g', c', e', q1, q2, q3, q4⟩ := K2'.at HX.out
    cases e'
    obtain ⟨s1, s2⟩ := st3_ask (x := (decide (x.1 ≠ 0), x.1, x.2)) (y := (false, 0, 0)) q2 q3
    have hP := K2'.put k (0, 0) ⟨by omega, by omega⟩
    have HP : Hid (Dk (st3 w2 g k (false, 0, 0)) D (.slice (some ⟨g, 0, none⟩) al.length c) s G bs L V (al.set k (0, 0)) ∧ Fz (Cb D (.slice (some ⟨g, 0, none⟩) al.length c)) w (st3 w2 g k (false, 0, 0))) := ⟨hP, (Fz.of_below b2').trans ((fz_st3 w2 g k (false, 0, 0)).mono (by rintro b rfl; exact .inr rfl))⟩
    have s1' : (w2.setCell ⟨g, k * 3, none⟩ (.bool false)).cell? ⟨g, k * 3 + 1, none⟩ = some (Q x.1) := s1
    have s2' : ((w2.setCell ⟨g, k * 3, none⟩ (.bool false)).setCell ⟨g, k * 3 + 1, none⟩ (Q 0)).cell? ⟨g, k * 3 + 2, none⟩ = some (U x.2) := s2
    clear hP s1 s2 K2' HH b1 b2'
    go_wp2
    go_ret
    exact ⟨rfl, HP.out.1, HP.out.2⟩
  · unfold canL
    rw [if_neg hs]
    have hsb : (getS al t == 0) = false := beq_eq_false_iff_ne.2 hs
    generalize getS al t = st at *
    generalize lftN al t = ln at *
    generalize cycN al t = cn at *
    clear h hs
    go_enter Try.func24, Try.ntmps24
    go_wp2_with (first | (go_at_call 31; refine hG.mono ?_; clear hG; rintro e w1 ⟨rfl, b1⟩))
    go_ret
    have b2 := fun o => b1.trans ((below_alloc w1 o).mono b1.size)
    exact ⟨rfl, HH.out.below (b2 _), Fz.of_below (b2 _)⟩
end
end Go.Proofs.Ytpoekphebmonnab
