import Derived.Test.YticgikbnlpgnkaaYa
namespace Go.Proofs.Yticgikbnlpgnkaa
open Go.RowKit
set_option linter.unusedVariables false
set_option linter.unusedSimpArgs false

/-! ### Queues: what is asked first -/
theorem isPrio_any (p : Int) (w : World) : Calls Try.prog 59 #[I p] w fun e w' => e = .returned (.bool (decide (0 ≤ p ∧ p ≤ 63))) ∧ w = w' := by
  by_cases h1 : 0 ≤ p
  · by_cases h2 : p ≤ 63
    · rw [decide_eq_true ⟨h1, h2⟩]
      go_enter Try.func59, Try.ntmps59
      go_wp2
      go_ret
      exact ⟨rfl, rfl⟩
    · rw [decide_eq_false (fun e => h2 e.2)]
      go_enter Try.func59, Try.ntmps59
      go_wp2
      go_ret
      exact ⟨rfl, rfl⟩
  · rw [decide_eq_false (fun e => h1 e.1)]
    go_enter Try.func59, Try.ntmps59
    go_wp2
    go_ret
    exact ⟨rfl, rfl⟩
theorem qnone_nil (w : World) : Calls Try.prog 33 #[.pointer none] w fun e w' => e = .returned (.bool true) ∧ w = w' := by
  go_enter Try.func33, Try.ntmps33
  go_wp2
  go_ret
  exact ⟨rfl, rfl⟩
theorem qnone_zero (w : World) (B : Nat) (c0 : w.cell? ⟨B, 0, none⟩ = some (.bool false)) : Calls Try.prog 33 #[qP B] w fun e w' => e = .returned (.bool true) ∧ w = w' := by
  go_enter Try.func33, Try.ntmps33
  go_wp2
  go_ret
  exact ⟨rfl, rfl⟩
theorem qnone_made (w : World) (B : Nat) (c0 : w.cell? ⟨B, 0, none⟩ = some (.bool true)) : Calls Try.prog 33 #[qP B] w fun e w' => e = .returned (.bool false) ∧ w = w' := by
  go_enter Try.func33, Try.ntmps33
  go_wp2
  go_ret
  exact ⟨rfl, rfl⟩
def ringAt (f : RS) (p : Int) : Option Ri := if 0 ≤ p ∧ p ≤ 63 then f p.toNat else none
theorem ringAt_nat (f : RS) {n : Nat} (h : n < 64) : ringAt f (n : Int) = f n := by
  unfold ringAt
  rw [if_pos (by omega), Int.toNat_natCast]
theorem ringAt_no (f : RS) {p : Int} (h : ¬ (0 ≤ p ∧ p ≤ 63)) : ringAt f p = none := if_neg h
theorem ringAt_some {f : RS} {p : Int} {x : Ri} (h : ringAt f p = some x) : f p.toNat = some x := by
  unfold ringAt at h
  split at h
  · exact h
  · cases h
theorem Any.bitLen_le64' (F : Nat) (h : F < 18446744073709551616) : Lib.bitLen F ≤ 64 := Lib.bitLen_le F 64 (by omega) h
theorem iHigh_nil (w : World) : Calls Try.prog 61 #[.pointer none] w fun e w' => e = .returned (I 0) ∧ w = w' := by
  go_enter Try.func61, Try.ntmps61
  go_wp2_with (go_at_call 58; refine (inone_nil w).mono ?_; rintro e w1 ⟨rfl, rfl⟩)
  go_ret
  exact ⟨rfl, rfl⟩
theorem iLen_nil (w : World) : Calls Try.prog 35 #[.pointer none] w fun e w' => e = .returned (I 0) ∧ w = w' := by
  go_enter Try.func35, Try.ntmps35
  go_wp2_with (go_at_call 58; refine (inone_nil w).mono ?_; rintro e w1 ⟨rfl, rfl⟩)
  go_ret
  exact ⟨rfl, rfl⟩
theorem iClear_nil (w : World) : Calls Try.prog 49 #[.pointer none] w fun e w' => e = .returned (I 0) ∧ w = w' := by
  go_enter Try.func49, Try.ntmps49
  go_wp2_with (go_at_call 58; refine (inone_nil w).mono ?_; rintro e w1 ⟨rfl, rfl⟩)
  go_ret
  exact ⟨rfl, rfl⟩
theorem iCopy_nil (w : World) : Calls Try.prog 50 #[.pointer none] w fun e w' => e = .returned (.pointer none) ∧ w = w' := by
  go_enter Try.func50, Try.ntmps50
  go_wp2_with (go_at_call 58; refine (inone_nil w).mono ?_; rintro e w1 ⟨rfl, rfl⟩)
  go_ret
  exact ⟨rfl, rfl⟩
section
variable {w : World} {Q F : Nat} {f : RS}
theorem qnone_any (h : Qm w Q F f) : Calls Try.prog 33 #[qP Q] w fun e w' => e = .returned (.bool false) ∧ w = w' := qnone_made w Q h.c0
theorem qringOf_any (h : Qm w Q F f) (p : Int) : Calls Try.prog 37 #[qP Q, I p] w fun e w' => e = .returned (ptrOf (ringAt f p)) ∧ w = w' := by
  have hN := qnone_any h
  have hP := isPrio_any p w
  by_cases hp : 0 ≤ p ∧ p ≤ 63
  · rw [decide_eq_true hp] at hP
    obtain ⟨n, rfl⟩ : ∃ n : Nat, p = n := ⟨p.toNat, by omega⟩
    have hn : n < 64 := by omega
    have hc := h.cp hn
    rw [ringAt_nat f hn]
    generalize ptrOf (f n) = V at *
    have h1 : (n : Int) < 64 := by omega
    have h2 : ¬ (n : Int) < 0 := by omega
    clear hp h
    go_enter Try.func37, Try.ntmps37
    go_wp2_with (first | (go_at_call 33; refine hN.mono ?_; rintro e w1 ⟨rfl, rfl⟩) | (go_at_call 59; refine hP.mono ?_; rintro e w1 ⟨rfl, rfl⟩))
    go_ret
    exact ⟨rfl, rfl⟩
  · rw [decide_eq_false hp] at hP
    rw [ringAt_no f hp]
    clear hp h
    go_enter Try.func37, Try.ntmps37
    go_wp2_with (first | (go_at_call 33; refine hN.mono ?_; rintro e w1 ⟨rfl, rfl⟩) | (go_at_call 59; refine hP.mono ?_; rintro e w1 ⟨rfl, rfl⟩))
    go_ret
    exact ⟨rfl, rfl⟩
theorem qringOf_none {v : Value} (hN : Calls Try.prog 33 #[v] w fun e w' => e = .returned (.bool true) ∧ w = w') (p : Int) : Calls Try.prog 37 #[v, I p] w fun e w' => e = .returned (.pointer none) ∧ w = w' := by
  go_enter Try.func37, Try.ntmps37
  go_wp2_with (first | (go_at_call 33; refine hN.mono ?_; rintro e w1 ⟨rfl, rfl⟩))
  go_ret
  exact ⟨rfl, rfl⟩
theorem mayPutQ_ok (h : Qm w Q F f) {p : Int} {x : Ri} (hx : ringAt f p = some x) (hq : iQ w x.B x.g x.c x.h (intsV x.l)) (hl : x.l.length < x.c) : Calls Try.prog 31 #[qP Q, I p] w fun e w' => e = .returned (I 0) ∧ Below w.heap.size w w' := by
  have hN := qnone_any h
  have hR := qringOf_any h p
  have hF := iFullQ hq
  rw [hx] at hR
  rw [decide_eq_false (by simp [intsV]; omega)] at hF
  change Calls Try.prog 37 #[qP Q, I p] w fun e w' => e = .returned (iP x.B) ∧ w = w' at hR
  clear hl hx h hq
  go_enter Try.func31, Try.ntmps31
  go_wp2_with (first | (go_at_call 33; refine hN.mono ?_; rintro e w1 ⟨rfl, rfl⟩) | (go_at_call 37; refine hR.mono ?_; rintro e w1 ⟨rfl, rfl⟩) | (go_at_call 54; refine hF.mono ?_; rintro e w1 ⟨rfl, hq1, b1⟩))
  go_ret
  exact ⟨rfl, b1⟩
theorem mayPutQ_full (h : Qm w Q F f) {p : Int} {x : Ri} (hx : ringAt f p = some x) (hq : iQ w x.B x.g x.c x.h (intsV x.l)) (hl : x.l.length = x.c) : Calls Try.prog 31 #[qP Q, I p] w fun e w' => e = .returned (I 131) ∧ Below w.heap.size w w' := by
  have hN := qnone_any h
  have hR := qringOf_any h p
  have hF := iFullQ hq
  rw [hx] at hR
  rw [decide_eq_true (by simp [intsV]; omega)] at hF
  change Calls Try.prog 37 #[qP Q, I p] w fun e w' => e = .returned (iP x.B) ∧ w = w' at hR
  clear hl hx h hq
  go_enter Try.func31, Try.ntmps31
  go_wp2_with (first | (go_at_call 33; refine hN.mono ?_; rintro e w1 ⟨rfl, rfl⟩) | (go_at_call 37; refine hR.mono ?_; rintro e w1 ⟨rfl, rfl⟩) | (go_at_call 54; refine hF.mono ?_; rintro e w1 ⟨rfl, hq1, b1⟩))
  go_ret
  exact ⟨rfl, b1⟩
theorem mayPutQ_no (h : Qm w Q F f) {p : Int} (hx : ringAt f p = none) : Calls Try.prog 31 #[qP Q, I p] w fun e w' => e = .returned (I 130) ∧ w = w' := by
  have hN := qnone_any h
  have hR := qringOf_any h p
  rw [hx] at hR
  change Calls Try.prog 37 #[qP Q, I p] w fun e w' => e = .returned (.pointer none) ∧ w = w' at hR
  clear hx h
  go_enter Try.func31, Try.ntmps31
  go_wp2_with (first | (go_at_call 33; refine hN.mono ?_; rintro e w1 ⟨rfl, rfl⟩) | (go_at_call 37; refine hR.mono ?_; rintro e w1 ⟨rfl, rfl⟩))
  go_ret
  exact ⟨rfl, rfl⟩
theorem mayPutQ_none {v : Value} (hN : Calls Try.prog 33 #[v] w fun e w' => e = .returned (.bool true) ∧ w = w') (p : Int) : Calls Try.prog 31 #[v, I p] w fun e w' => e = .returned (I 1) ∧ w = w' := by
  go_enter Try.func31, Try.ntmps31
  go_wp2_with (first | (go_at_call 33; refine hN.mono ?_; rintro e w1 ⟨rfl, rfl⟩))
  go_ret
  exact ⟨rfl, rfl⟩
theorem qBits_any (h : Qm w Q F f) : Calls Try.prog 16 #[qP Q] w fun e w' => e = .returned (.int .u64 F) ∧ w = w' := by
  have hN := qnone_any h
  have hc := h.c1
  clear h
  go_enter Try.func16, Try.ntmps16
  go_wp2_with (first | (go_at_call 33; refine hN.mono ?_; rintro e w1 ⟨rfl, rfl⟩))
  go_ret
  exact ⟨rfl, rfl⟩
theorem qBits_none {v : Value} (hN : Calls Try.prog 33 #[v] w fun e w' => e = .returned (.bool true) ∧ w = w') : Calls Try.prog 16 #[v] w fun e w' => e = .returned (.int .u64 0) ∧ w = w' := by
  go_enter Try.func16, Try.ntmps16
  go_wp2_with (first | (go_at_call 33; refine hN.mono ?_; rintro e w1 ⟨rfl, rfl⟩))
  go_ret
  exact ⟨rfl, rfl⟩
theorem qHighest_no (h : Qu w Q F f) (h0 : F = 0) : Calls Try.prog 30 #[qP Q] w fun e w' => e = .returned (.tuple #[I 0, .bool false]) ∧ w = w' := by
  subst h0
  have hN := qnone_any h.m
  have hc := h.m.c1
  clear h
  go_enter Try.func30, Try.ntmps30
  go_wp2_with (first | (go_at_call 33; refine hN.mono ?_; rintro e w1 ⟨rfl, rfl⟩))
  go_ret2
  exact ⟨rfl, rfl⟩
theorem qHighest_none {v : Value} (hN : Calls Try.prog 33 #[v] w fun e w' => e = .returned (.bool true) ∧ w = w') : Calls Try.prog 30 #[v] w fun e w' => e = .returned (.tuple #[I 0, .bool false]) ∧ w = w' := by
  go_enter Try.func30, Try.ntmps30
  go_wp2_with (first | (go_at_call 33; refine hN.mono ?_; rintro e w1 ⟨rfl, rfl⟩))
  go_ret2
  exact ⟨rfl, rfl⟩
theorem qHighest_ok (h : Qu w Q F f) {p : Nat} (hp : Lib.bitLen F = p + 1) (h0 : F ≠ 0) : Calls Try.prog 30 #[qP Q] w fun e w' => e = .returned (.tuple #[I p, .bool true]) ∧ w = w' := by
  have hN := qnone_any h.m
  have hc := h.m.c1
  have hF := h.b.1
  have hle := Any.bitLen_le64' F hF
  have hL := Try.bits_Len64 (F : Int) w (by omega) (by omega)
  rw [Int.toNat_natCast, hp] at hL
  have h1 : ¬ ((F : Int) = 0) := by omega
  have h2 : p < 64 := by omega
  clear h h0 hp hle
  go_enter Try.func30, Try.ntmps30
  go_wp2_with (first | (go_at_call 33; refine hN.mono ?_; rintro e w1 ⟨rfl, rfl⟩) | (go_at_call 53; refine hL.mono ?_; rintro e w1 ⟨rfl, rfl⟩))
  go_ret2
  refine ⟨?_, rfl⟩
  simp
theorem qHigh_any (h : Qm w Q F f) (p : Int) : Calls Try.prog 44 #[qP Q, I p] w fun e w' => e = .returned (I ((ringAt f p).elim 0 (·.h))) ∧ w = w' := by
  have hR := qringOf_any h p
  cases hx : ringAt f p with
  | none =>
    rw [hx] at hR
    change Calls Try.prog 37 #[qP Q, I p] w fun e w' => e = .returned (.pointer none) ∧ w = w' at hR
    have hH := iHigh_nil w
    clear hx h
    go_enter Try.func44, Try.ntmps44
    go_wp2_with (first | (go_at_call 37; refine hR.mono ?_; rintro e w1 ⟨rfl, rfl⟩) | (go_at_call 61; refine hH.mono ?_; rintro e w1 ⟨rfl, rfl⟩))
    go_ret
    exact ⟨rfl, rfl⟩
  | some x =>
    rw [hx] at hR
    change Calls Try.prog 37 #[qP Q, I p] w fun e w' => e = .returned (iP x.B) ∧ w = w' at hR
    have hH := iHighQ (h.r _ x (ringAt_some hx)).2.2
    clear hx h
    go_enter Try.func44, Try.ntmps44
    go_wp2_with (first | (go_at_call 37; refine hR.mono ?_; rintro e w1 ⟨rfl, rfl⟩) | (go_at_call 61; refine hH.mono ?_; rintro e w1 ⟨rfl, rfl⟩))
    go_ret
    exact ⟨rfl, rfl⟩
theorem qHigh_none {v : Value} (hN : Calls Try.prog 33 #[v] w fun e w' => e = .returned (.bool true) ∧ w = w') (p : Int) : Calls Try.prog 44 #[v, I p] w fun e w' => e = .returned (I 0) ∧ w = w' := by
  have hR := qringOf_none hN p
  have hH := iHigh_nil w
  go_enter Try.func44, Try.ntmps44
  go_wp2_with (first | (go_at_call 37; refine hR.mono ?_; rintro e w1 ⟨rfl, rfl⟩) | (go_at_call 61; refine hH.mono ?_; rintro e w1 ⟨rfl, rfl⟩))
  go_ret
  exact ⟨rfl, rfl⟩
end
end Go.Proofs.Yticgikbnlpgnkaa
