import Derived.Test.YtpoekphebmonnabUc
import Derived.Shelf.Abstract
import Derived.Lib.QuietBelow
namespace Go.Proofs.Ytpoekphebmonnab
open Go.RowKit Go.Shelf Go.Sort
set_option linter.unusedVariables false
set_option linter.unusedSimpArgs false

/-! ### What alarms may be set to -/
def mcB (L G cy : Nat) : Bool := decide (cy = 0) || (decide (L ≤ cy) && decide (cy ≤ G))
section
variable {w w' : World} {B G L V : Nat} {v : Value} {al : List Alm}
theorem mayCycle_any (h : Ck w B v G L V al) (cy : Nat) : Calls Try.prog 51 #[cP B, U cy] w fun e w' => e = .returned (.bool (mcB L G cy)) ∧ w = w' := by
  obtain ⟨c0, c1, c2, c3⟩ := h.cells
  unfold mcB
  by_cases h0 : cy = 0
  · subst h0
    go_enter Try.func51, Try.ntmps51
    go_wp2
    go_ret
    exact ⟨rfl, rfl⟩
  · have h0I : ¬ ((cy : Int) = 0) := by omega
    by_cases h1 : L ≤ cy
    · have h1I : (L : Int) ≤ cy := by omega
      by_cases h2 : cy ≤ G
      · have h2I : (cy : Int) ≤ G := by omega
        go_enter Try.func51, Try.ntmps51
        go_wp2
        go_ret
        exact ⟨ret_bool (by simp [h0, h1, h2]), rfl⟩
      · have h2I : ¬ (cy : Int) ≤ G := by omega
        go_enter Try.func51, Try.ntmps51
        go_wp2
        go_ret
        exact ⟨ret_bool (by simp [h0, h1, h2]), rfl⟩
    · have h1I : ¬ (L : Int) ≤ cy := by omega
      go_enter Try.func51, Try.ntmps51
      go_wp2
      go_ret
      exact ⟨ret_bool (by simp [h0, h1]), rfl⟩
def relB (L G f cy : Nat) : Bool := decide (1 ≤ f) && (decide (f ≤ G) && mcB L G cy)
def absB (L G f cy : Nat) : Bool := decide (f ≤ G) && mcB L G cy
def staB (G f cy : Nat) : Bool := decide (1 ≤ f) && (decide (f ≤ G + 1) && decide (cy ≤ G))
theorem fromNow_any (h : Ck w B v G L V al) (f cy : Nat) (hf : f < 4294967296) : Calls Try.prog 36 #[cP B, U f, U cy] w fun e w' => e = .returned (.tuple #[Q f, .bool (relB L G f cy)]) ∧ Below w.heap.size w w' := by
  obtain ⟨c0, c1, c2, c3⟩ := h.cells
  have hM := mayCycle_any h cy
  unfold relB
  by_cases h0 : 1 ≤ f
  · have h0I : (1 : Int) ≤ f := by omega
    by_cases h1 : f ≤ G
    · have h1I : (f : Int) ≤ G := by omega
      rw [show (decide (1 ≤ f) && (decide (f ≤ G) && mcB L G cy)) = mcB L G cy by simp [h0, h1]]
      generalize mcB L G cy = m at *
      clear h0 h1
      go_enter Try.func36, Try.ntmps36
      go_wp2_with (first | (go_at_call 51; refine hM.mono ?_; rintro e w1 ⟨rfl, rfl⟩))
      go_ret2
      exact ⟨rfl, Below.refl _ _⟩
    · have h1I : ¬ (f : Int) ≤ G := by omega
      rw [show (decide (1 ≤ f) && (decide (f ≤ G) && mcB L G cy)) = false by simp [h0, h1]]
      clear h0 h1
      go_enter Try.func36, Try.ntmps36
      go_wp2
      go_ret2
      exact ⟨rfl, Below.refl _ _⟩
  · have h0I : ¬ (1 : Int) ≤ f := by omega
    rw [show (decide (1 ≤ f) && (decide (f ≤ G) && mcB L G cy)) = false by simp [h0]]
    clear h0
    go_enter Try.func36, Try.ntmps36
    go_wp2
    go_ret2
    exact ⟨rfl, Below.refl _ _⟩
theorem atValue_any (h : Ck w B v G L V al) (f cy : Nat) (hf : f < 4294967296) : Calls Try.prog 37 #[cP B, U f, U cy] w fun e w' => e = .returned (.tuple #[Q (untN G V f : Nat), .bool (absB L G f cy)]) ∧ Below w.heap.size w w' := by
  have hb := h.b
  have cU : ∀ d os, Calls Try.prog 52 #[U G, U V, U f] (grow (redrawn w d) os) fun e w'' => e = .returned (Q (untN G V f : Nat)) ∧ ∃ p : Regrown, w'' = grow (redrawn w p.d) p.os := fun d os => Calls.regrown_of ((Until_any _ G V f (by omega) (by omega) hf).mono (fun e w' h => ⟨h.1, by rw [h.2]; exact Below.refl _ _⟩))
  have cM : ∀ d os, Calls Try.prog 51 #[cP B, U cy] (grow (redrawn w d) os) fun e w'' => e = .returned (.bool (mcB L G cy)) ∧ ∃ p : Regrown, w'' = grow (redrawn w p.d) p.os := fun d os => Calls.regrown_of ((mayCycle_any (h.below (below_regrown w d os)) cy).mono (fun e w' h => ⟨h.1, by rw [h.2]; exact Below.refl _ _⟩))
  obtain ⟨c0, c1, c2, c3⟩ := h.cells
  have x0 := cell_regrown c0
  have x2 := cell_regrown c2
  unfold absB
  by_cases h1 : f ≤ G
  · have h1I : (f : Int) ≤ G := by omega
    have h1D : decide ((f : Int) ≤ G) = true := by simpa using h1I
    rw [show (decide (f ≤ G) && mcB L G cy) = mcB L G cy by simp [h1]]
    generalize mcB L G cy = m at *
    generalize untN G V f = un at *
    clear h1 c0 c1 c2 c3
    go_enter Try.func37, Try.ntmps37
    go_wp2
    refine wp_region_quiet_below (by kernel_rfl) (by kernel_rfl) ?_
    repeat (go_big_quiet_step (first | exact cU _ _ | exact cM _ _))
    refine wpQuiet_nil ?_
    rintro _ ⟨⟨dq, osq⟩, rfl⟩
    dsimp only
    have b0 := below_regrown w dq osq
    generalize grow (redrawn w dq) osq = w2 at *
    go_wp2
    go_ret2
    exact ⟨rfl, b0⟩
  · have h1I : ¬ (f : Int) ≤ G := by omega
    have h1D : decide ((f : Int) ≤ G) = false := by simpa using h1I
    have h1N : decide (f ≤ G) = false := by simpa using h1
    rw [show (decide (f ≤ G) && mcB L G cy) = false by simp [h1]]
    generalize untN G V f = un at *
    clear h1 c0 c1 c2 c3
    go_enter Try.func37, Try.ntmps37
    go_wp2
    refine wp_region_quiet_below (by kernel_rfl) (by kernel_rfl) ?_
    repeat (go_big_quiet_step (first | exact cU _ _ | exact cM _ _))
    refine wpQuiet_nil ?_
    rintro _ ⟨⟨dq, osq⟩, rfl⟩
    dsimp only
    have b0 := below_regrown w dq osq
    generalize grow (redrawn w dq) osq = w2 at *
    go_wp2
    go_ret2
    exact ⟨rfl, b0⟩
theorem fromStart_any (h : Ck w B v G L V al) (f cy : Nat) (hf : f < 4294967296) : Calls Try.prog 45 #[cP B, U f, U cy] w fun e w' => e = .returned (.tuple #[Q f, .bool (staB G f cy)]) ∧ Below w.heap.size w w' := by
  have hb := h.b
  have hG : G < 4294967296 := by omega
  have cR : ∀ d os, Calls Try.prog 41 #[U G] (grow (redrawn w d) os) fun e w'' => e = .returned (Q ((G : Int) + 1)) ∧ ∃ p : Regrown, w'' = grow (redrawn w p.d) p.os := fun d os => Calls.regrown_of ((round_any _ G hG).mono (fun e w' h => ⟨h.1, by rw [h.2]; exact Below.refl _ _⟩))
  obtain ⟨c0, c1, c2, c3⟩ := h.cells
  have x0 := cell_regrown c0
  clear c0 c1 c2 c3 hb
  unfold staB
  by_cases h0 : 1 ≤ f
  · have h0I : (1 : Int) ≤ f := by omega
    have h0D : decide ((1 : Int) ≤ f) = true := by simpa using h0I
    by_cases h1 : f ≤ G + 1
    · have h1I : (f : Int) ≤ (G : Int) + 1 := by omega
      have h1D : decide ((f : Int) ≤ (G : Int) + 1) = true := by simpa using h1I
      by_cases h2 : cy ≤ G
      · have h2I : (cy : Int) ≤ G := by omega
        have h2D : decide ((cy : Int) ≤ G) = true := by simpa using h2I
        rw [show (decide (1 ≤ f) && (decide (f ≤ G + 1) && decide (cy ≤ G))) = true by simp [h0, h1, h2]]
        clear h0 h1 h2
        go_enter Try.func45, Try.ntmps45
        go_wp2
        refine wp_region_quiet_below (by kernel_rfl) (by kernel_rfl) ?_
        repeat (go_big_quiet_step (first | exact cR _ _))
        refine wpQuiet_nil ?_
        rintro _ ⟨⟨dq, osq⟩, rfl⟩
        dsimp only
        have b0 := below_regrown w dq osq
        generalize grow (redrawn w dq) osq = w2 at *
        go_wp2
        go_ret2
        exact ⟨rfl, b0⟩
      · have h2I : ¬ (cy : Int) ≤ G := by omega
        have h2D : decide ((cy : Int) ≤ G) = false := by simpa using h2I
        have h2N : decide (cy ≤ G) = false := by simpa using h2
        rw [show (decide (1 ≤ f) && (decide (f ≤ G + 1) && decide (cy ≤ G))) = false by simp [h0, h1, h2]]
        clear h0 h1 h2
        go_enter Try.func45, Try.ntmps45
        go_wp2
        refine wp_region_quiet_below (by kernel_rfl) (by kernel_rfl) ?_
        repeat (go_big_quiet_step (first | exact cR _ _))
        refine wpQuiet_nil ?_
        rintro _ ⟨⟨dq, osq⟩, rfl⟩
        dsimp only
        have b0 := below_regrown w dq osq
        generalize grow (redrawn w dq) osq = w2 at *
        go_wp2
        go_ret2
        exact ⟨rfl, b0⟩
    · have h1I : ¬ (f : Int) ≤ (G : Int) + 1 := by omega
      have h1D : decide ((f : Int) ≤ (G : Int) + 1) = false := by simpa using h1I
      have h1N : decide (f ≤ G + 1) = false := by simpa using h1
      rw [show (decide (1 ≤ f) && (decide (f ≤ G + 1) && decide (cy ≤ G))) = false by simp [h0, h1]]
      clear h0 h1
      go_enter Try.func45, Try.ntmps45
      go_wp2
      refine wp_region_quiet_below (by kernel_rfl) (by kernel_rfl) ?_
      repeat (go_big_quiet_step (first | exact cR _ _))
      refine wpQuiet_nil ?_
      rintro _ ⟨⟨dq, osq⟩, rfl⟩
      dsimp only
      have b0 := below_regrown w dq osq
      generalize grow (redrawn w dq) osq = w2 at *
      go_wp2
      go_ret2
      exact ⟨rfl, b0⟩
  · have h0I : ¬ (1 : Int) ≤ f := by omega
    have h0D : decide ((1 : Int) ≤ f) = false := by simpa using h0I
    have h0N : decide (1 ≤ f) = false := by simpa using h0
    rw [show (decide (1 ≤ f) && (decide (f ≤ G + 1) && decide (cy ≤ G))) = false by simp [h0]]
    clear h0
    go_enter Try.func45, Try.ntmps45
    go_wp2
    refine wp_region_quiet_below (by kernel_rfl) (by kernel_rfl) ?_
    repeat (go_big_quiet_step (first | exact cR _ _))
    refine wpQuiet_nil ?_
    rintro _ ⟨⟨dq, osq⟩, rfl⟩
    dsimp only
    have b0 := below_regrown w dq osq
    generalize grow (redrawn w dq) osq = w2 at *
    go_wp2
    go_ret2
    exact ⟨rfl, b0⟩
end
/-- what is answered of an alarm that is to be set -/
def setS (al : List Alm) (t : Int) (may : Bool) : Int := if t < 0 ∨ (al.length : Int) ≤ t then 3 else if (al.getD t.toNat (0, 0)).1 ≠ 0 then 7 else if may then 0 else 8
def setA (al : List Alm) (t : Int) (may : Bool) (y : Alm) : List Alm := if setS al t may = 0 then al.set t.toNat y else al
theorem setS_at {al : List Alm} {k : Nat} {x : Alm} (hx : al[k]? = some x) (may : Bool) : setS al k may = if x.1 ≠ 0 then 7 else if may then 0 else 8 := by
  have hk : k < al.length := (List.getElem?_eq_some_iff.1 hx).1
  unfold setS
  rw [if_neg (by omega), Int.toNat_natCast, List.getD_eq_getElem?_getD, hx, Option.getD_some]
section
variable {w w' : World} {B G L V : Nat} {v : Value} {al : List Alm}
set_option maxRecDepth 100000 in
theorem setBy_any (h : Ck w B v G L V al) (f : Nat) (eg : ∀ args W, (callFunc f args).run Try.prog W = .ok (.enter f args) W) (t : Int) (fg cy lf : Nat) (may : Bool)
    (hR : Calls Try.prog f #[cP B, U fg, U cy] w fun e w' => e = .returned (.tuple #[Q lf, .bool may]) ∧ Below w.heap.size w w')
    (hy : may = true → lf ≤ G + 1 ∧ cy ≤ G) :
    Calls Try.prog 35 #[cP B, .func (.func f) #[cP B] #[], I t, U fg, U cy] w fun e w' => e = .returned (I (setS al t may)) ∧ Ck w' B v G L V (setA al t may (lf, cy)) ∧ Fz (Cb B v) w w' := by
  unfold setA
  by_cases h0 : t < 0 ∨ (al.length : Int) ≤ t
  · have e0 : setS al t may = 3 := by unfold setS; rw [if_pos h0]
    rw [e0, if_neg (by decide)]
    have hF := find_out h t h0
    clear h0 e0 hy
    go_enter Try.func35, Try.ntmps35
    go_wp2_with (first | (go_at_call 49; refine hF.mono ?_; rintro e w1 ⟨rfl, rfl⟩))
    go_ret
    exact ⟨rfl, h, Fz.refl _ _⟩
  · obtain ⟨k, rfl⟩ := Int.eq_ofNat_of_zero_le (show 0 ≤ t by omega)
    have hk : k < al.length := by omega
    have hx : al[k]? = some al[k] := List.getElem?_eq_getElem hk
    generalize al[k] = x at hx
    rw [setS_at hx, Int.toNat_natCast]
    obtain ⟨g, c, rfl, q1, q2, q3⟩ := h.at hx
    have hF := find_ok h k hk
    have hS := snone_any w g (k * 2) x.1 q1
    by_cases hz : x.1 = 0
    · rw [show (if x.1 ≠ 0 then (7 : Int) else if may = true then 0 else 8) = if may = true then 0 else 8 by rw [if_neg (by omega)]]
      rw [show decide (x.1 = 0) = true by simpa using hz] at hS
      cases may with
      | false =>
        rw [if_neg (by decide : ¬ (false = true)), if_neg (by decide)]
        clear hz h0 hy
        go_enter Try.func35, Try.ntmps35
        go_wp2_with (first | (go_at_call 49; refine hF.mono ?_; rintro e w1 ⟨rfl, rfl⟩) | (go_at_call 50; refine hS.mono ?_; rintro e w1 ⟨rfl, rfl⟩))
        refine hR.mono ?_
        rintro e w1 ⟨rfl, b1⟩
        go_wp2
        go_ret
        exact ⟨rfl, h.below b1, Fz.of_below b1⟩
      | true =>
        rw [if_pos rfl, if_pos rfl]
        have hyy := hy rfl
        clear hz h0 hy
        go_enter Try.func35, Try.ntmps35
        go_wp2_with (first | (go_at_call 49; refine hF.mono ?_; rintro e w1 ⟨rfl, rfl⟩) | (go_at_call 50; refine hS.mono ?_; rintro e w1 ⟨rfl, rfl⟩))
        refine hR.mono ?_
        rintro e w1 ⟨rfl, b1⟩
        have h1 := h.below b1
        have hP := h1.put k (lf, cy) hyy
        have hZ : Fz (Cb B (.slice (some ⟨g, 0, none⟩) al.length c)) w ((w1.setCell ⟨g, k * 2, none⟩ (Q lf)).setCell ⟨g, k * 2 + 1, none⟩ (U cy)) := (Fz.of_below b1).trans ((fz_set2 w1 g (k * 2) (k * 2 + 1) (Q lf) (U cy)).mono (by rintro b rfl; exact .inr rfl))
        obtain ⟨g', c', e', q1', q2', q3'⟩ := h1.at hx
        cases e'
        have q4 : (w1.setCell ⟨g, k * 2, none⟩ (Q lf)).cell? ⟨g, k * 2 + 1, none⟩ = some (U x.2) := cell_set_off q2' (by omega)
        clear hR hS hF h q1 q2 q3 hx
        go_wp2
        go_ret
        exact ⟨rfl, hP, hZ⟩
    · rw [show (if x.1 ≠ 0 then (7 : Int) else if may = true then 0 else 8) = 7 by rw [if_pos hz], if_neg (by decide)]
      rw [show decide (x.1 = 0) = false by simpa using hz] at hS
      clear hz h0 hy
      go_enter Try.func35, Try.ntmps35
      go_wp2_with (first | (go_at_call 49; refine hF.mono ?_; rintro e w1 ⟨rfl, rfl⟩) | (go_at_call 50; refine hS.mono ?_; rintro e w1 ⟨rfl, rfl⟩))
      go_ret
      exact ⟨rfl, h, Fz.refl _ _⟩
theorem mcB_le {L G cy : Nat} (h : mcB L G cy = true) : cy ≤ G := by
  unfold mcB at h
  simp at h
  omega
theorem Rel_any (h : Ck w B v G L V al) (t : Int) (f cy : Nat) (hf : f < 4294967296) : Calls Try.prog 13 #[cP B, I t, U f, U cy] w fun e w' => e = .returned (I (setS al t (relB L G f cy))) ∧ Ck w' B v G L V (setA al t (relB L G f cy) (f, cy)) ∧ Fz (Cb B v) w w' := by
  have hS := setBy_any h 36 (enters_of Try.func36 (by kernel_rfl) rfl) t f cy f (relB L G f cy) (fromNow_any h f cy hf) (fun e => by unfold relB at e; simp at e; exact ⟨by omega, mcB_le e.2.2⟩)
  generalize relB L G f cy = m at *
  go_enter Try.func13, Try.ntmps13
  go_wp2_with (first | (go_at_call 35; refine hS.mono ?_; rintro e w1 ⟨rfl, k1, z1⟩))
  go_ret
  exact ⟨rfl, k1, z1⟩
theorem Abs_any (h : Ck w B v G L V al) (t : Int) (f cy : Nat) (hf : f < 4294967296) : Calls Try.prog 14 #[cP B, I t, U f, U cy] w fun e w' => e = .returned (I (setS al t (absB L G f cy))) ∧ Ck w' B v G L V (setA al t (absB L G f cy) (untN G V f, cy)) ∧ Fz (Cb B v) w w' := by
  have hS := setBy_any h 37 (enters_of Try.func37 (by kernel_rfl) rfl) t f cy (untN G V f) (absB L G f cy) (atValue_any h f cy hf) (fun e => by unfold absB at e; simp at e; exact ⟨(untN_pos G V f).2, mcB_le e.2⟩)
  generalize absB L G f cy = m at *
  go_enter Try.func14, Try.ntmps14
  go_wp2_with (first | (go_at_call 35; refine hS.mono ?_; rintro e w1 ⟨rfl, k1, z1⟩))
  go_ret
  exact ⟨rfl, k1, z1⟩
theorem Set_any (h : Ck w B v G L V al) (t : Int) (f cy : Nat) (hf : f < 4294967296) : Calls Try.prog 21 #[cP B, I t, U f, U cy] w fun e w' => e = .returned (I (setS al t (staB G f cy))) ∧ Ck w' B v G L V (setA al t (staB G f cy) (f, cy)) ∧ Fz (Cb B v) w w' := by
  have hS := setBy_any h 45 (enters_of Try.func45 (by kernel_rfl) rfl) t f cy f (staB G f cy) (fromStart_any h f cy hf) (fun e => by unfold staB at e; simp at e; exact ⟨by omega, by omega⟩)
  generalize staB G f cy = m at *
  go_enter Try.func21, Try.ntmps21
  go_wp2_with (first | (go_at_call 35; refine hS.mono ?_; rintro e w1 ⟨rfl, k1, z1⟩))
  go_ret
  exact ⟨rfl, k1, z1⟩
end
end Go.Proofs.Ytpoekphebmonnab
