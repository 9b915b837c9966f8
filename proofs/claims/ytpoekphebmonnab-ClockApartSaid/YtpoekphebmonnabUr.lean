import Derived.Test.YtpoekphebmonnabUq
namespace Go.Proofs.Ytpoekphebmonnab
open Go.RowKit Go.Shelf Go.Sort
set_option linter.unusedVariables false
set_option linter.unusedSimpArgs false

section
variable {w w' : World} {D G bs L V : Nat} {v : Value} {s : ByteArray} {al : List Alm}
theorem dRel_any (h : Dk w D v s G bs L V al) (t : Int) (f cy : Nat) (hf : f < 4294967296) : Calls Try.prog 19 #[cP D, I t, U f, U cy] w fun e w' => e = .returned (I (setS al t (relB L G f cy))) ∧ Dk w' D v s G bs L V (setA al t (relB L G f cy) (f, cy)) ∧ Fz (Cb D v) w w' := by
  obtain ⟨c0, c1, c2, c3, c4⟩ := h.cells
  have hM := cycle_any h cy
  have hS := put_any h t (relB L G f cy) f cy (fun e => by unfold relB at e; simp at e; exact ⟨by omega, by omega, mcB_le e.2.2⟩)
  unfold relB at *
  by_cases h0 : 1 ≤ f
  · have h0I : (1 : Int) ≤ f := by omega
    by_cases h1 : f ≤ G
    · have h1I : (f : Int) ≤ G := by omega
      rw [show (decide (1 ≤ f) && (decide (f ≤ G) && mcB L G cy)) = mcB L G cy by simp [h0, h1]] at *
      generalize mcB L G cy = m at *
      clear h0 h1
      go_enter Try.func19, Try.ntmps19
      go_wp2_with (first | (go_at_call 43; refine hM.mono ?_; rintro e w1 ⟨rfl, rfl⟩) | (go_at_call 42; refine hS.mono ?_; rintro e w2 ⟨rfl, k2, z2⟩))
      go_ret
      exact ⟨rfl, k2, z2⟩
    · have h1I : ¬ (f : Int) ≤ G := by omega
      have h1N : decide (f ≤ G) = false := by simpa using h1
      rw [show (decide (1 ≤ f) && (decide (f ≤ G) && mcB L G cy)) = false by simp [h0, h1]] at *
      clear h0 h1
      go_enter Try.func19, Try.ntmps19
      go_wp2_with (first | (go_at_call 42; refine hS.mono ?_; rintro e w2 ⟨rfl, k2, z2⟩))
      go_ret
      exact ⟨rfl, k2, z2⟩
  · have h0I : ¬ (1 : Int) ≤ f := by omega
    have h0N : decide (1 ≤ f) = false := by simpa using h0
    rw [show (decide (1 ≤ f) && (decide (f ≤ G) && mcB L G cy)) = false by simp [h0]] at *
    clear h0
    go_enter Try.func19, Try.ntmps19
    go_wp2_with (first | (go_at_call 42; refine hS.mono ?_; rintro e w2 ⟨rfl, k2, z2⟩))
    go_ret
    exact ⟨rfl, k2, z2⟩
theorem dSet_any (h : Dk w D v s G bs L V al) (t : Int) (f cy : Nat) (hf : f < 4294967296) : Calls Try.prog 22 #[cP D, I t, U f, U cy] w fun e w' => e = .returned (I (setS al t (staB G f cy))) ∧ Dk w' D v s G bs L V (setA al t (staB G f cy) (f, cy)) ∧ Fz (Cb D v) w w' := by
  obtain ⟨c0, c1, c2, c3, c4⟩ := h.cells
  have hb := h.b
  have hS := put_any h t (staB G f cy) f cy (fun e => by unfold staB at e; simp at e; exact ⟨by omega, by omega, by omega⟩)
  unfold staB at *
  by_cases h0 : 1 ≤ f
  · have h0I : (1 : Int) ≤ f := by omega
    by_cases h1 : f ≤ G + 1
    · have h1I : (f : Int) ≤ (G : Int) + 1 := by omega
      by_cases h2 : cy ≤ G
      · have h2I : (cy : Int) ≤ G := by omega
        rw [show (decide (1 ≤ f) && (decide (f ≤ G + 1) && decide (cy ≤ G))) = true by simp [h0, h1, h2]] at *
        clear h0 h1 h2
        go_enter Try.func22, Try.ntmps22
        go_wp2_with (first | (go_at_call 42; refine hS.mono ?_; rintro e w2 ⟨rfl, k2, z2⟩))
        go_ret
        exact ⟨rfl, k2, z2⟩
      · have h2I : ¬ (cy : Int) ≤ G := by omega
        have h2N : decide (cy ≤ G) = false := by simpa using h2
        rw [show (decide (1 ≤ f) && (decide (f ≤ G + 1) && decide (cy ≤ G))) = false by simp [h0, h1, h2]] at *
        clear h0 h1 h2
        go_enter Try.func22, Try.ntmps22
        go_wp2_with (first | (go_at_call 42; refine hS.mono ?_; rintro e w2 ⟨rfl, k2, z2⟩))
        go_ret
        exact ⟨rfl, k2, z2⟩
    · have h1I : ¬ (f : Int) ≤ (G : Int) + 1 := by omega
      have h1N : decide ((f : Int) ≤ (G : Int) + 1) = false := by simpa using h1I
      rw [show (decide (1 ≤ f) && (decide (f ≤ G + 1) && decide (cy ≤ G))) = false by simp [h0, h1]] at *
      clear h0 h1
      go_enter Try.func22, Try.ntmps22
      go_wp2_with (first | (go_at_call 42; refine hS.mono ?_; rintro e w2 ⟨rfl, k2, z2⟩))
      go_ret
      exact ⟨rfl, k2, z2⟩
  · have h0I : ¬ (1 : Int) ≤ f := by omega
    have h0N : decide (1 ≤ f) = false := by simpa using h0
    rw [show (decide (1 ≤ f) && (decide (f ≤ G + 1) && decide (cy ≤ G))) = false by simp [h0]] at *
    clear h0
    go_enter Try.func22, Try.ntmps22
    go_wp2_with (first | (go_at_call 42; refine hS.mono ?_; rintro e w2 ⟨rfl, k2, z2⟩))
    go_ret
    exact ⟨rfl, k2, z2⟩
set_option maxHeartbeats 8000000 in
set_option maxRecDepth 100000 in
theorem dAbs_any (h : Dk w D v s G bs L V al) (t : Int) (f cy : Nat) (hf : f < 4294967296) : Calls Try.prog 20 #[cP D, I t, U f, U cy] w fun e w' => e = .returned (I (setS al t (absB L G f cy))) ∧ Dk w' D v s G bs L V (setA al t (absB L G f cy) (untN G V f, cy)) ∧ Fz (Cb D v) w w' := by
  obtain ⟨c0, c1, c2, c3, c4⟩ := h.cells
  have hb := h.b
  have hd := h.below ((Below.refl _ w).drew)
  have hM := cycle_any hd cy
  have hU := fun W => dUntil_any W G V f (by omega) (by omega) hf
  have hS := put_any hd t (absB L G f cy) (untN G V f) cy (fun e => by unfold absB at e; simp at e; exact ⟨(untN_pos G V f).1, (untN_pos G V f).2, mcB_le e.2⟩)
  have hS2 : Calls Try.prog 42 #[cP D, I t, .bool (absB L G f cy), Q (untN G V f), U cy] w.drew fun e w' => e = .returned (I (setS al t (absB L G f cy))) ∧ Hid (Dk w' D v s G bs L V (setA al t (absB L G f cy) (untN G V f, cy)) ∧ Fz (Cb D v) w w') ∧ w'.cell? ⟨D, 2, none⟩ = some (U G) ∧ w'.cell? ⟨D, 5, none⟩ = some (U V) := by
    refine hS.mono ?_
    rintro e w' ⟨rfl, k2, z2⟩
    obtain ⟨e0, e1, e2, e3, e4⟩ := k2.cells
    exact ⟨rfl, ⟨k2, (Fz.of_below ((Below.refl _ w).drew)).trans z2⟩, e1, e3⟩
  clear hS hd
  unfold absB at *
  by_cases h1 : f ≤ G
  · have h1I : (f : Int) ≤ G := by omega
    have h1D : decide ((f : Int) ≤ G) = true := by simpa using h1I
    have h1N : decide (f ≤ G) = true := by simpa using h1
    rw [show (decide (f ≤ G) && mcB L G cy) = mcB L G cy by simp [h1]] at *
    generalize mcB L G cy = m at *
    generalize untN G V f = un at *
    clear h1
    go_enter Try.func20, Try.ntmps20
    go_wp2
    go_region_held_law (fun w' => w'.cell? ⟨D, 2, none⟩ = some (U G) ∧ w'.cell? ⟨D, 5, none⟩ = some (U V)) (first | exact ⟨c1, c3⟩ | exact ⟨e1, e3⟩ | (go_keep; done)) (first | (go_at_call 44; refine (hU _).mono ?_; rintro e w1 ⟨rfl, rfl⟩) | (go_at_call 43; refine hM.mono ?_; rintro e w1 ⟨rfl, rfl⟩) | (go_at_call 42; refine hS2.mono ?_; rintro e w2 ⟨rfl, H2, e1, e3⟩))
    all_goals
      go_wp2
      go_ret
      exact ⟨rfl, H2.out.1, H2.out.2⟩
  · have h1I : ¬ (f : Int) ≤ G := by omega
    have h1D : decide ((f : Int) ≤ G) = false := by simpa using h1I
    have h1N : decide (f ≤ G) = false := by simpa using h1
    rw [show (decide (f ≤ G) && mcB L G cy) = false by simp [h1]] at *
    have HSA : Hid (setA al t false (untN G V f, cy) = al) := by
      show _ = _
      unfold setA
      rw [if_neg]
      unfold setS
      split
      · decide
      · split
        · decide
        · decide
    have HH : Hid (Dk w D v s G bs L V al) := h
    have cU : ∀ d os, Calls Try.prog 44 #[U G, U V, U f] (grow (redrawn w d) os) fun e w'' => e = .returned (Q (untN G V f : Nat)) ∧ ∃ p : Regrown, w'' = grow (redrawn w p.d) p.os := fun d os => Calls.regrown_of ((hU _).mono (fun e w' h => ⟨h.1, by rw [h.2]; exact Below.refl _ _⟩))
    have cPn : ∀ d os, Calls Try.prog 42 #[cP D, I t, .bool false, Q (untN G V f : Nat), U cy] (grow (redrawn w d) os) fun e w'' => e = .returned (I (setS al t false)) ∧ ∃ p : Regrown, w'' = grow (redrawn w p.d) p.os := fun d os => Calls.regrown_of ((put_no (h.below (below_regrown w d os)) t (untN G V f) cy).mono (fun e w' h => ⟨h.1, by rw [h.2]; exact Below.refl _ _⟩))
    have x1 := cell_regrown c1
    have x3 := cell_regrown c3
    generalize untN G V f = un at *
    clear h1 hM hU hS2 c0 c1 c2 c3 c4 h
    go_enter Try.func20, Try.ntmps20
    go_wp2
    refine wp_region_quiet_below (by kernel_rfl) (by kernel_rfl) ?_
    repeat (go_big_quiet_step (first | exact cU _ _ | exact cPn _ _))
    refine wpQuiet_nil ?_
    rintro _ ⟨⟨dq, osq⟩, rfl⟩
    dsimp only
    have b0 := below_regrown w dq osq
    generalize grow (redrawn w dq) osq = w2 at *
    go_wp2
    go_ret
    refine ⟨rfl, ?_, Fz.of_below b0⟩
    rw [HSA.out]
    exact HH.out.below b0
end
end Go.Proofs.Ytpoekphebmonnab
