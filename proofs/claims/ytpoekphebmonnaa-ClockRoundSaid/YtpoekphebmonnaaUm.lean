import Derived.Test.YtpoekphebmonnaaUj
namespace Go.Proofs.Ytpoekphebmonnaa
open Go.RowKit Go.Shelf Go.Sort
set_option linter.unusedVariables false
set_option linter.unusedSimpArgs false

/-! ### ClockSums, ClockRound -/
set_option maxHeartbeats 8000000 in
set_option maxRecDepth 100000 in
theorem sums_law (W : World) (g n v t : Nat) (hg : g < 4294967296) (hn : n < 4294967296) (hv : v < 4294967296) (ht : t < 18446744073709551616) : Calls Try.prog 5 #[U g, U n, U v, Q t] W fun e w' => e = .returned (.bool true) ∧ Below W.heap.size W w' := by
  have h1 := fun w => Next_any w g n hg hn
  have h2 := fun w => dNext_any w g n hg hn
  have h3 := fun w => After_any w g n t hg hn ht
  have h4 := fun w => dAfter_any w g n t hg hn ht
  have h5 := fun w => Until_any w g n v hg hn hv
  have h6 := fun w => dUntil_any w g n v hg hn hv
  generalize aftN g n 1 = a at *
  generalize aftN g n t = b at *
  generalize untN g n v = c at *
  go_enter Try.func5, Try.ntmps5
  go_wp2_with (first
    | (go_at_call 12; refine (h1 _).mono ?_; rintro e w1 ⟨rfl, b1⟩)
    | (go_at_call 21; refine (h2 _).mono ?_; rintro e w2 ⟨rfl, b2⟩)
    | (go_at_call 11; refine (h3 _).mono ?_; rintro e w3 ⟨rfl, b3⟩)
    | (go_at_call 22; refine (h4 _).mono ?_; rintro e w4 ⟨rfl, b4⟩)
    | (go_at_call 10; refine (h5 _).mono ?_; rintro e w5 ⟨rfl, rfl⟩)
    | (go_at_call 23; refine (h6 _).mono ?_; rintro e w6 ⟨rfl, rfl⟩)
    | (go_at_call 9; refine (alive_any _).mono ?_; rintro e w7 ⟨rfl, b7⟩))
  go_ret
  exact ⟨rfl, b1.trans ((b2.mono b1.size).trans ((b3.mono (Nat.le_trans b1.size b2.size)).trans ((b4.mono (Nat.le_trans b1.size (Nat.le_trans b2.size b3.size))).trans (b7.mono (Nat.le_trans b1.size (Nat.le_trans b2.size (Nat.le_trans b3.size b4.size)))))))⟩
theorem unt_aft {g n v : Nat} (hn : n ≤ g) (hv : v ≤ g) : aftN g n (untN g n v) = v := by
  unfold aftN untN
  rw [Nat.min_eq_left hn, Nat.min_eq_left hv]
  by_cases h : n < v
  · rw [if_pos h, Nat.mod_eq_of_lt (show v - n < g + 1 by omega), show n + (v - n) = v by omega, Nat.mod_eq_of_lt (by omega)]
  · rw [if_neg h]
    by_cases e : n = v
    · subst e
      rw [Nat.sub_self, Nat.sub_zero, Nat.mod_self, Nat.add_zero, Nat.mod_eq_of_lt (by omega)]
    · rw [Nat.mod_eq_of_lt (show g + 1 - (n - v) < g + 1 by omega), show n + (g + 1 - (n - v)) = v + (g + 1) by omega, Nat.add_mod_right, Nat.mod_eq_of_lt (by omega)]
theorem unt_less {g n v : Nat} (hn : n ≤ g) (hv : v ≤ g) (hne : n ≠ v) : aftN g n (untN g n v - 1) ≠ v := by
  unfold aftN untN
  rw [Nat.min_eq_left hn, Nat.min_eq_left hv]
  by_cases h : n < v
  · rw [if_pos h, Nat.mod_eq_of_lt (show v - n - 1 < g + 1 by omega), show n + (v - n - 1) = v - 1 by omega, Nat.mod_eq_of_lt (by omega)]
    omega
  · rw [if_neg h, Nat.mod_eq_of_lt (show g + 1 - (n - v) - 1 < g + 1 by omega)]
    by_cases e : v = 0
    · subst e
      rw [show n + (g + 1 - (n - 0) - 1) = g by omega, Nat.mod_eq_of_lt (by omega)]
      omega
    · rw [show n + (g + 1 - (n - v) - 1) = (v - 1) + (g + 1) by omega, Nat.add_mod_right, Nat.mod_eq_of_lt (by omega)]
      omega
theorem aft_add {g n a b : Nat} (hn : n ≤ g) : aftN g n (a + b) = aftN g (aftN g n a) b := by
  have h1 := aftN_le g n a
  show _ = (min (aftN g n a) g + b % (g + 1)) % (g + 1)
  rw [Nat.min_eq_left h1]
  unfold aftN
  rw [Nat.min_eq_left hn, Nat.add_mod_mod, Nat.add_mod_mod, Nat.mod_add_mod, show n + a % (g + 1) + b = n + b + a % (g + 1) by omega, Nat.add_mod_mod]
  congr 1
  omega
theorem aft_round {g n : Nat} (hn : n ≤ g) : aftN g n (g + 1) = n := by
  unfold aftN
  rw [Nat.min_eq_left hn, Nat.mod_self, Nat.add_zero, Nat.mod_eq_of_lt (by omega)]
theorem aft_zero {g n : Nat} (hn : n ≤ g) : aftN g n 0 = n := by
  unfold aftN
  rw [Nat.min_eq_left hn, Nat.zero_mod, Nat.add_zero, Nat.mod_eq_of_lt (by omega)]
set_option maxHeartbeats 8000000 in
set_option maxRecDepth 100000 in
theorem round_out (W : World) (g n v a b : Nat) (ho : g < n ∨ g < v) : Calls Try.prog 3 #[U g, U n, U v, U a, U b] W fun e w' => e = .returned (.bool true) ∧ Below W.heap.size W w' := by
  by_cases h1 : g < n
  · have h1I : (g : Int) < n := by omega
    go_enter Try.func3, Try.ntmps3
    go_wp2_with (first | (go_at_call 9; refine (alive_any _).mono ?_; rintro e w7 ⟨rfl, b7⟩))
    go_ret
    exact ⟨rfl, b7⟩
  · have h1I : ¬ (g : Int) < n := by omega
    have h2I : (g : Int) < v := by omega
    go_enter Try.func3, Try.ntmps3
    go_wp2_with (first | (go_at_call 9; refine (alive_any _).mono ?_; rintro e w7 ⟨rfl, b7⟩))
    go_ret
    exact ⟨rfl, b7⟩
theorem bel2 {B : Nat} {a b c : World} (h : Below B a b) (k : Below b.heap.size b c) (hb : B ≤ b.heap.size) : Below B a c ∧ B ≤ c.heap.size := ⟨h.trans (k.mono hb), Nat.le_trans hb k.size⟩
set_option maxHeartbeats 16000000 in
set_option maxRecDepth 100000 in
theorem round_in (W : World) (g n v a b : Nat) (hg : g < 4294967296) (hn : n ≤ g) (hv : v ≤ g) (ha : a < 4294967296) (hb : b < 4294967296) : Calls Try.prog 3 #[U g, U n, U v, U a, U b] W fun e w' => e = .returned (.bool true) ∧ Below W.heap.size W w' := by
  have hU := Until_any W g n v hg (by omega) (by omega)
  obtain ⟨u1, u2⟩ := untN_pos g n v
  have r1 := fun w => After_any w g n (untN g n v) hg (by omega) (by omega)
  rw [unt_aft hn hv] at r1
  have r2 : n ≠ v → ∀ w, Calls Try.prog 11 #[U g, U n, Q ((untN g n v : Int) - 1)] w fun e w' => (∃ y : Nat, y ≠ v ∧ e = .returned (U y)) ∧ Below w.heap.size w w' := fun hne w => by
    rw [show (untN g n v : Int) - 1 = ((untN g n v - 1 : Nat) : Int) by omega]
    refine (After_any w g n (untN g n v - 1) hg (by omega) (by omega)).mono ?_
    rintro e w' ⟨rfl, hb⟩
    exact ⟨⟨_, unt_less hn hv hne, rfl⟩, hb⟩
  have r3 := fun w => After_any w g n a hg (by omega) (by omega)
  have hx1 := aftN_le g n a
  have r4 := fun w => After_any w g (aftN g n a) b hg (by omega) (by omega)
  have hx2 := aftN_le g (aftN g n a) b
  have r5 : ∀ w, Calls Try.prog 11 #[U g, U n, Q ((a : Int) + b)] w fun e w' => e = .returned (U (aftN g (aftN g n a) b : Nat)) ∧ Below w.heap.size w w' := fun w => by
    rw [show (a : Int) + b = ((a + b : Nat) : Int) by omega, ← aft_add hn]
    exact After_any w g n (a + b) hg (by omega) (by omega)
  have r6 : ∀ w, Calls Try.prog 11 #[U g, U n, Q ((g : Int) + 1)] w fun e w' => e = .returned (U n) ∧ Below w.heap.size w w' := fun w => by
    rw [show (g : Int) + 1 = ((g + 1 : Nat) : Int) by omega]
    have := After_any w g n (g + 1) hg (by omega) (by omega)
    rw [aft_round hn] at this
    exact this
  have r7 : ∀ w, Calls Try.prog 11 #[U g, U n, Q 1] w fun e w' => e = .returned (U (aftN g n 1 : Nat)) ∧ Below w.heap.size w w' := fun w => After_any w g n 1 hg (by omega) (by omega)
  have r8 := fun w => Next_any w g n hg (by omega)
  have r9 : ∀ w, Calls Try.prog 11 #[U g, U n, Q 0] w fun e w' => e = .returned (U n) ∧ Below w.heap.size w w' := fun w => by
    have := After_any w g n 0 hg (by omega) (by omega)
    rw [aft_zero hn] at this
    exact this
  generalize untN g n v = u at *
  generalize aftN g (aftN g n a) b = x2 at *
  generalize aftN g n a = x1 at *
  generalize aftN g n 1 = x3 at *
  have i1 : ¬ (g : Int) < n := by omega
  have i2 : ¬ (g : Int) < v := by omega
  have i3 : decide ((u : Int) < 1) = false := by simp; omega
  have i4 : decide ((g : Int) + 1 < u) = false := by simp; omega
  have i5 : (x2 : Int) ≤ g := by omega
  by_cases hc : 1 < u ∧ n ≠ v
  · have i6 : decide ((1 : Int) < u) = true := by simp; omega
    have i7 : ¬ (n : Int) = v := by omega
    have r2' := r2 hc.2
    clear r2 hc
    go_enter Try.func3, Try.ntmps3
    go_wp2_with (first
      | (go_at_call 10; refine hU.mono ?_; clear hU; rintro e w1 ⟨rfl, rfl⟩)
      | (go_at_call 11; refine (r1 _).mono ?_; clear r1; rintro e w1 ⟨rfl, b1⟩)
      | (go_at_call 11; refine (r2' _).mono ?_; clear r2'; rintro e w2 ⟨⟨y, hy, rfl⟩, b2⟩; have hyI : ((y : Int) == v) = false := (beq_eq_false_iff_ne.2 (by omega)); have hyN : (y == v) = false := (beq_eq_false_iff_ne.2 hy); obtain ⟨B2, S2⟩ := bel2 b1 b2 b1.size; clear b1 b2)
      | (go_at_call 11; refine (r3 _).mono ?_; clear r3; rintro e w3 ⟨rfl, b3⟩; obtain ⟨B3, S3⟩ := bel2 B2 b3 S2; clear B2 b3)
      | (go_at_call 11; refine (r4 _).mono ?_; clear r4; rintro e w4 ⟨rfl, b4⟩; obtain ⟨B4, S4⟩ := bel2 B3 b4 S3; clear B3 b4)
      | (go_at_call 11; refine (r5 _).mono ?_; clear r5; rintro e w5 ⟨rfl, b5⟩; obtain ⟨B5, S5⟩ := bel2 B4 b5 S4; clear B4 b5)
      | (go_at_call 11; refine (r6 _).mono ?_; clear r6; rintro e w6 ⟨rfl, b6⟩; obtain ⟨B6, S6⟩ := bel2 B5 b6 S5; clear B5 b6)
      | (go_at_call 11; refine (r7 _).mono ?_; clear r7; rintro e w7 ⟨rfl, b7⟩; obtain ⟨B7, S7⟩ := bel2 B6 b7 S6; clear B6 b7)
      | (go_at_call 12; refine (r8 _).mono ?_; clear r8; rintro e w8 ⟨rfl, b8⟩; obtain ⟨B8, S8⟩ := bel2 B7 b8 S7; clear B7 b8)
      | (go_at_call 11; refine (r9 _).mono ?_; clear r9; rintro e w9 ⟨rfl, b9⟩; obtain ⟨B9, S9⟩ := bel2 B8 b9 S8; clear B8 b9)
      | (go_at_call 9; refine (alive_any _).mono ?_; rintro e wa ⟨rfl, ba⟩))
    go_ret
    exact ⟨rfl, B9.trans (ba.mono S9)⟩
  · clear r2
    have i6 : ¬ (1 : Int) < u ∨ ((1 : Int) < u ∧ (n : Int) = v) := by omega
    rcases i6 with i6 | i6
    · have i7 : decide ((1 : Int) < u) = false := by simp; omega
      clear hc i6
      go_enter Try.func3, Try.ntmps3
      go_wp2_with (first
        | (go_at_call 10; refine hU.mono ?_; clear hU; rintro e w1 ⟨rfl, rfl⟩)
        | (go_at_call 11; refine (r1 _).mono ?_; clear r1; rintro e w2 ⟨rfl, B2⟩; have S2 := B2.size)
        | (go_at_call 11; refine (r3 _).mono ?_; clear r3; rintro e w3 ⟨rfl, b3⟩; obtain ⟨B3, S3⟩ := bel2 B2 b3 S2; clear B2 b3)
        | (go_at_call 11; refine (r4 _).mono ?_; clear r4; rintro e w4 ⟨rfl, b4⟩; obtain ⟨B4, S4⟩ := bel2 B3 b4 S3; clear B3 b4)
        | (go_at_call 11; refine (r5 _).mono ?_; clear r5; rintro e w5 ⟨rfl, b5⟩; obtain ⟨B5, S5⟩ := bel2 B4 b5 S4; clear B4 b5)
        | (go_at_call 11; refine (r6 _).mono ?_; clear r6; rintro e w6 ⟨rfl, b6⟩; obtain ⟨B6, S6⟩ := bel2 B5 b6 S5; clear B5 b6)
        | (go_at_call 11; refine (r7 _).mono ?_; clear r7; rintro e w7 ⟨rfl, b7⟩; obtain ⟨B7, S7⟩ := bel2 B6 b7 S6; clear B6 b7)
        | (go_at_call 12; refine (r8 _).mono ?_; clear r8; rintro e w8 ⟨rfl, b8⟩; obtain ⟨B8, S8⟩ := bel2 B7 b8 S7; clear B7 b8)
        | (go_at_call 11; refine (r9 _).mono ?_; clear r9; rintro e w9 ⟨rfl, b9⟩; obtain ⟨B9, S9⟩ := bel2 B8 b9 S8; clear B8 b9)
        | (go_at_call 9; refine (alive_any _).mono ?_; rintro e wa ⟨rfl, ba⟩))
      go_ret
      exact ⟨rfl, B9.trans (ba.mono S9)⟩
    · obtain rfl : n = v := by omega
      have i7 : decide ((1 : Int) < u) = true := by simp; omega
      clear hc i6
      go_enter Try.func3, Try.ntmps3
      go_wp2_with (first
        | (go_at_call 10; refine hU.mono ?_; clear hU; rintro e w1 ⟨rfl, rfl⟩)
        | (go_at_call 11; refine (r1 _).mono ?_; clear r1; rintro e w2 ⟨rfl, B2⟩; have S2 := B2.size)
        | (go_at_call 11; refine (r3 _).mono ?_; clear r3; rintro e w3 ⟨rfl, b3⟩; obtain ⟨B3, S3⟩ := bel2 B2 b3 S2; clear B2 b3)
        | (go_at_call 11; refine (r4 _).mono ?_; clear r4; rintro e w4 ⟨rfl, b4⟩; obtain ⟨B4, S4⟩ := bel2 B3 b4 S3; clear B3 b4)
        | (go_at_call 11; refine (r5 _).mono ?_; clear r5; rintro e w5 ⟨rfl, b5⟩; obtain ⟨B5, S5⟩ := bel2 B4 b5 S4; clear B4 b5)
        | (go_at_call 11; refine (r6 _).mono ?_; clear r6; rintro e w6 ⟨rfl, b6⟩; obtain ⟨B6, S6⟩ := bel2 B5 b6 S5; clear B5 b6)
        | (go_at_call 11; refine (r7 _).mono ?_; clear r7; rintro e w7 ⟨rfl, b7⟩; obtain ⟨B7, S7⟩ := bel2 B6 b7 S6; clear B6 b7)
        | (go_at_call 12; refine (r8 _).mono ?_; clear r8; rintro e w8 ⟨rfl, b8⟩; obtain ⟨B8, S8⟩ := bel2 B7 b8 S7; clear B7 b8)
        | (go_at_call 11; refine (r9 _).mono ?_; clear r9; rintro e w9 ⟨rfl, b9⟩; obtain ⟨B9, S9⟩ := bel2 B8 b9 S8; clear B8 b9)
        | (go_at_call 9; refine (alive_any _).mono ?_; rintro e wa ⟨rfl, ba⟩))
      go_ret
      exact ⟨rfl, B9.trans (ba.mono S9)⟩
theorem round_law (W : World) (g n v a b : Nat) (hg : g < 4294967296) (hn : n < 4294967296) (hv : v < 4294967296) (ha : a < 4294967296) (hb : b < 4294967296) : Calls Try.prog 3 #[U g, U n, U v, U a, U b] W fun e w' => e = .returned (.bool true) ∧ Below W.heap.size W w' := by
  by_cases h : g < n ∨ g < v
  · exact round_out W g n v a b h
  · exact round_in W g n v a b hg (by omega) (by omega) ha hb
end Go.Proofs.Ytpoekphebmonnaa
