import Derived.Test.YtpbnpmeigdjfdaaGreatDoorXBrl
namespace Go.Proofs.YtpbnpmeigdjfdaaGreatDoor
open Go.RowKit
set_option linter.unusedVariables false
set_option linter.unusedSimpArgs false

/-! ### More work, shorter periods -/
theorem ceil_anti {r e e' : Nat} (h : e' ≤ e) (h1 : 1 ≤ e') : (r + e - 1) / e ≤ (r + e' - 1) / e' := by
  rw [Nat.le_div_iff_mul_le (by omega)]
  generalize hq : (r + e - 1) / e = q
  have hm : q * e ≤ r + e - 1 := by rw [← hq]; exact Nat.div_mul_le_self _ _
  cases q with
  | zero => simp
  | succ q =>
    have h2 : q * e' ≤ q * e := Nat.mul_le_mul_left q h
    rw [Nat.succ_mul] at hm ⊢
    omega
theorem bring_grow {r : Nat} {x y : Nat × Nat} (hw : x.1 ≤ y.1) (he : y.2 ≤ x.2) (h1 : 1 ≤ y.2) : bring r x ≤ bring r y := Nat.mul_le_mul (ceil_anti he h1) hw
/-- Figures that ask for more. -/
structure More (c : Cf) (f g : Fg) (t : Nat) : Prop where
  i : g.i = f.i
  e : g.e = f.e
  s : g.s = f.s
  lw : g.w.length = f.w.length
  lp : g.p.length = f.p.length
  w : ∀ (j x y : Nat), f.w[j]? = some x → g.w[j]? = some y → x ≤ y ∧ y ≤ 2147483647 ∧ (j = t → y = x)
  p : ∀ (j x y : Nat), f.p[j]? = some x → g.p[j]? = some y → 1 ≤ y ∧ y ≤ x
theorem More.fits {c : Cf} {f g : Fg} {t : Nat} (h : More c f g t) (hf : Fits c f) : Fits c g := by
  obtain ⟨k1, k2, k3, k4⟩ := tim_ok hf.t
  obtain ⟨l1, l2, l3, l4⟩ := tim_len hf.t
  refine ⟨hf.a, ?_, ?_⟩
  · have e3 : timB g.i c.isrs.length 0 = true ∧ timB g.e c.isrs.length 1 = true := by
      have := hf.t
      unfold timesB at this
      simp only [Bool.and_eq_true] at this
      rw [h.i, h.e]
      exact ⟨this.1.2, this.2⟩
    have e1 : timB g.w c.tasks.length 1 = true := by
      unfold timB okT
      simp only [Bool.and_eq_true, beq_iff_eq, List.all_eq_true, decide_eq_true_eq]
      refine ⟨by rw [h.lw, l1], fun y hy => ?_⟩
      obtain ⟨j, hj⟩ := List.getElem?_of_mem hy
      have hjl := (List.getElem?_eq_some_iff.1 hj).1
      have hx := List.getElem?_eq_getElem (l := f.w) (i := j) (by rw [← h.lw]; exact hjl)
      have := h.w j _ y hx hj
      have := k1 _ (List.mem_of_getElem? hx)
      omega
    have e2 : timB g.p c.tasks.length 1 = true := by
      unfold timB okT
      simp only [Bool.and_eq_true, beq_iff_eq, List.all_eq_true, decide_eq_true_eq]
      refine ⟨by rw [h.lp, l2], fun y hy => ?_⟩
      obtain ⟨j, hj⟩ := List.getElem?_of_mem hy
      have hjl := (List.getElem?_eq_some_iff.1 hj).1
      have hx := List.getElem?_eq_getElem (l := f.p) (i := j) (by rw [← h.lp]; exact hjl)
      have := h.p j _ y hx hj
      have := k2 _ (List.mem_of_getElem? hx)
      omega
    unfold timesB
    rw [e1, e2, e3.1, e3.2]
    rfl
  · rw [h.s]
    apply List.all_eq_true.2
    intro x hx
    obtain ⟨q, y, wk, hq, hy, hw, htk, hle⟩ := sec_may hf hx
    have hql := (List.getElem?_eq_some_iff.1 hw).1
    have hg := List.getElem?_eq_getElem (l := g.w) (i := q) (by rw [h.lw]; exact hql)
    have := (h.w q wk _ hw hg).1
    unfold secB
    rw [hq]
    simp only [Int.toNat_natCast]
    rw [hy, hg]
    dsimp only
    rw [htk]
    simp
    omega
theorem More.natw {c : Cf} {f g : Fg} {t : Nat} (h : More c f g t) {j : Nat} (hj : j < f.w.length) : natAt f.w j ≤ natAt g.w j := by
  have hx := List.getElem?_eq_getElem hj
  have hy := List.getElem?_eq_getElem (l := g.w) (i := j) (by rw [h.lw]; exact hj)
  rw [natAt_at hx, natAt_at hy]
  exact (h.w j _ _ hx hy).1
theorem More.natt {c : Cf} {f g : Fg} {t : Nat} (h : More c f g t) (hj : t < f.w.length) : natAt g.w t = natAt f.w t := by
  have hx := List.getElem?_eq_getElem hj
  have hy := List.getElem?_eq_getElem (l := g.w) (i := t) (by rw [h.lw]; exact hj)
  rw [natAt_at hx, natAt_at hy]
  exact (h.w t _ _ hx hy).2.2 rfl
theorem More.natp {c : Cf} {f g : Fg} {t : Nat} (h : More c f g t) {j : Nat} (hj : j < f.p.length) : 1 ≤ natAt g.p j ∧ natAt g.p j ≤ natAt f.p j := by
  have hx := List.getElem?_eq_getElem hj
  have hy := List.getElem?_eq_getElem (l := g.p) (i := j) (by rw [h.lp]; exact hj)
  rw [natAt_at hx, natAt_at hy]
  exact h.p j _ _ hx hy
theorem mem_maxN {l : List Nat} {x : Nat} (h : x ∈ l) : x ≤ maxN l := maxN_le.1 (Nat.le_refl _) x h
theorem More.blkL {c : Cf} {f g : Fg} {t : Nat} (h : More c f g t) (hf : Fits c f) : blk c f t ≤ blk c g t := by
  obtain ⟨l1, _⟩ := tim_len hf.t
  unfold blk
  rw [maxN_le]
  intro x hx
  rcases List.mem_append.1 hx with hx | hx
  · unfold tkL at hx
    obtain ⟨i, hi, rfl⟩ := List.mem_map.1 hx
    have hi := List.mem_range.1 hi
    have h1 : tkB c f (pri c t) i ≤ tkB c g (pri c t) i := by
      unfold tkB
      split
      · exact h.natw (by rw [l1]; exact hi)
      · exact Nat.le_refl _
    exact Nat.le_trans h1 (mem_maxN (List.mem_append_left _ (by unfold tkL; exact List.mem_map.2 ⟨i, List.mem_range.2 hi, rfl⟩)))
  · have : scL c g (pri c t) = scL c f (pri c t) := by unfold scL; rw [h.s]
    exact mem_maxN (List.mem_append_right _ (by rw [this]; exact hx))
theorem More.tot {c : Cf} {f g : Fg} {t : Nat} (h : More c f g t) (hf : Fits c f) (r : Nat) : totN (rvL c f t) r ≤ totN (rvL c g t) r := by
  obtain ⟨l1, l2, _, _⟩ := tim_len hf.t
  have gen : ∀ j, j ≤ c.tasks.length → totN (rvT c f t j) r ≤ totN (rvT c g t j) r := by
    intro j
    induction j with
    | zero => intro _; exact Nat.le_refl _
    | succ j ih =>
      intro hj
      have i1 := ih (by omega)
      rw [rvT_succ, rvT_succ, totN_app, totN_app]
      split
      · rw [totN_one, totN_one]
        have hp := h.natp (j := j) (by rw [l2]; omega)
        have := bring_grow (r := r) (x := (natAt f.w j, natAt f.p j)) (y := (natAt g.w j, natAt g.p j)) (h.natw (by rw [l1]; omega)) hp.2 hp.1
        omega
      · exact Nat.add_le_add i1 (Nat.le_refl _)
  unfold rvL
  rw [totN_app, totN_app]
  have e : rvI g g.i.length = rvI f f.i.length := by unfold rvI; rw [h.i, h.e]
  rw [e]
  exact Nat.add_le_add_right (gen _ (Nat.le_refl _)) _
theorem fix_below {own : Nat} {rs : List (Nat × Nat)} : ∀ n, needN own rs n ≤ n → ∃ r, r ≤ n ∧ needN own rs r = r := by
  intro n
  induction n using Nat.strongRecOn with
  | ind n ih =>
    intro h
    by_cases he : needN own rs n = n
    · exact ⟨n, Nat.le_refl _, he⟩
    · obtain ⟨r, h1, h2⟩ := ih (needN own rs n) (by omega) (need_mono h)
      exact ⟨r, by omega, h2⟩
theorem wst_fix {own lim r : Nat} {rs : List (Nat × Nat)} (h : needN own rs r = r) (hr : r ≤ lim) : (wst own rs lim).2 = true ∧ (wst own rs lim).1 ≤ r := by
  cases hm : (wst own rs lim).2 with
  | false => exact absurd h ((wst_no hm).2 r hr)
  | true =>
    refine ⟨rfl, ?_⟩
    by_cases hlt : r < (wst own rs lim).1
    · exact absurd h ((wst_yes hm).2.2.2 r hlt)
    · omega
/-- What is asked of the two answers. -/
def ansB (a b d : Rp) : Prop := a.b ≤ b.b ∧ (b.m = true → a.m = true ∧ a.r ≤ b.r) ∧ (d.m = true → d = a)
theorem ans_more {c : Cf} {f g : Fg} {t lim lim' : Nat} (h : More c f g t) (hf : Fits c f) (ht : t < c.tasks.length) (hl : lim' ≤ lim) : ansB (rplF c f t lim) (rplF c g t lim) (rplF c f t lim') := by
  have hb := h.blkL hf
  have hw := h.natt (by rw [(tim_len hf.t).1]; exact ht)
  unfold ansB rplF
  dsimp only
  rw [hw]
  refine ⟨hb, fun hm => ?_, fun hm => ?_⟩
  · obtain ⟨y1, y2, y3, y4⟩ := wst_yes hm
    have hn : needN (natAt f.w t + blk c f t) (rvL c f t) (wst (natAt f.w t + blk c g t) (rvL c g t) lim).1 ≤ (wst (natAt f.w t + blk c g t) (rvL c g t) lim).1 := by
      have := h.tot hf (wst (natAt f.w t + blk c g t) (rvL c g t) lim).1
      unfold needN at y2 ⊢
      omega
    obtain ⟨r, r1, r2⟩ := fix_below _ hn
    obtain ⟨q1, q2⟩ := wst_fix r2 (lim := lim) (by omega)
    exact ⟨q1, by omega⟩
  · obtain ⟨y1, y2, y3, y4⟩ := wst_yes hm
    obtain ⟨q1, q2⟩ := wst_fix y2 (lim := lim) (by omega)
    obtain ⟨x1, x2, x3, x4⟩ := wst_yes q1
    have e : (wst (natAt f.w t + blk c f t) (rvL c f t) lim).1 = (wst (natAt f.w t + blk c f t) (rvL c f t) lim').1 := by
      by_cases hlt : (wst (natAt f.w t + blk c f t) (rvL c f t) lim).1 < (wst (natAt f.w t + blk c f t) (rvL c f t) lim').1
      · exact absurd x2 (y4 _ hlt)
      · omega
    rw [e, q1, hm]
theorem rec_zero {c : Cf} {f : Fg} {t lim : Nat} (hf : Fits c f) (ht : t < c.tasks.length) (hl : lim ≤ 1000000) : recZ c f (t : Int) lim = 0 ∧ recR c f (t : Int) lim = rplF c f t lim := by
  have h0 : chkZ c f = 0 := by unfold chkZ; rw [hf.a, hf.t, hf.s]; rfl
  have h1 : atZ c f (t : Int) = 0 := by unfold atZ; rw [if_pos h0, if_pos (by omega)]
  have h2 : recZ c f (t : Int) lim = 0 := by unfold recZ; rw [if_pos h1, if_neg (by omega)]
  exact ⟨h2, by unfold recR; rw [if_pos h2, Int.toNat_natCast]⟩
end Go.Proofs.YtpbnpmeigdjfdaaGreatDoor
