import Derived.Test.YtpoekphebmonnabUh
namespace Go.Proofs.Ytpoekphebmonnab
open Go.RowKit Go.Shelf Go.Sort
set_option linter.unusedVariables false
set_option linter.unusedSimpArgs false

/-! ### num, alive -/
theorem num_any (w : World) (n : Int) : Calls Try.prog 12 #[I n] w fun e w' => e = .returned (I n) ∧ w = w' := by
  go_enter Try.func12, Try.ntmps12
  go_wp2
  go_ret
  exact ⟨rfl, rfl⟩
theorem hv0 : newB 9 2 (3 : Nat) = true := by kernel_rfl
theorem hv1 : setS (List.replicate 3 (0, 0)) 0 (relB 2 9 2 0) = 0 := by kernel_rfl
theorem hv2 : setA (List.replicate 3 (0, 0)) 0 (relB 2 9 2 0) (2, 0) = [(2, 0), (0, 0), (0, 0)] := by kernel_rfl
theorem hv3 : setS [(2, 0), (0, 0), (0, 0)] 1 (absB 2 9 2 3) = 0 := by kernel_rfl
theorem hv4 : setA [(2, 0), (0, 0), (0, 0)] 1 (absB 2 9 2 3) (untN 9 0 2, 3) = [(2, 0), (2, 3), (0, 0)] := by kernel_rfl
theorem hv5 : setS [(2, 0), (2, 3), (0, 0)] 2 (relB 2 9 1 1) = 8 := by kernel_rfl
theorem hv6 : setA [(2, 0), (2, 3), (0, 0)] 2 (relB 2 9 1 1) (1, 1) = [(2, 0), (2, 3), (0, 0)] := by kernel_rfl
theorem hv7 : dueF 1 0 [(2, 0), (2, 3), (0, 0)] = [] := by kernel_rfl
theorem hv8 : [((2, 0) : Alm), (2, 3), (0, 0)].map (psA 1) = [(1, 0), (1, 3), (0, 0)] := by kernel_rfl
theorem hv9 : aftN 9 0 1 = 1 := by kernel_rfl
theorem hv10 : dueF 1 0 [(1, 0), (1, 3), (0, 0)] = [0, 1] := by kernel_rfl
theorem hv11 : [((1, 0) : Alm), (1, 3), (0, 0)].map (psA 1) = [(0, 0), (3, 3), (0, 0)] := by kernel_rfl
theorem hv12 : aftN 9 1 1 = 2 := by kernel_rfl
theorem hv13 : getS [(0, 0), (3, 3), (0, 0)] 1 = 0 := by kernel_rfl
theorem hv14 : lftN [(0, 0), (3, 3), (0, 0)] 1 = 3 := by kernel_rfl
theorem hv15 : aftN 9 8 18446744073709551615 = 3 := by kernel_rfl
theorem empty_own {w : World} {b E k : Nat} {v : Value} {xs : List Value} (h : w.ownsRow b E k v 0 xs) : ∃ a c, v = .slice a 0 c := own_sl h
theorem two_own {w : World} {b : Nat} {v : Value} (h : w.ownsRow b 3 1 v 2 (inL [0, 1])) : ∃ g c, v = .slice (some ⟨g, 0, none⟩) 2 c ∧ b ≤ g ∧ g < w.heap.size ∧ w.cell? ⟨g, 0, none⟩ = some (I 0) ∧ w.cell? ⟨g, 1, none⟩ = some (I 1) := by
  obtain ⟨g, c, rfl⟩ := own_some h (by decide)
  exact ⟨g, c, rfl, (h.lt g rfl).1, (h.lt g rfl).2, by rw [h.cellAt 0 (by omega)]; rfl, by rw [h.cellAt 1 (by omega)]; rfl⟩
set_option maxHeartbeats 8000000 in
set_option maxRecDepth 100000 in
theorem alive_any (w : World) : Calls Try.prog 6 #[] w fun e w' => e = .returned (.bool true) ∧ Below w.heap.size w w' := by
  have h0 : Calls Try.prog 4 #[.agg #[.string ⟨#[]⟩, U 9, U 0, U 2], I 3] w fun e w' => ∃ B v, e = .returned (.tuple #[cP B, I 0]) ∧ Ck w' B v 9 2 0 (List.replicate 3 (0, 0)) ∧ (∀ b, Cb B v b → w.heap.size < b) ∧ Below w.heap.size w w' := New_ok w ⟨#[]⟩ 9 0 2 3 hv0
  have hA := fun W : World => After_any W 9 8 18446744073709551615 (by decide) (by decide) (by decide)
  rw [hv15] at hA
  go_enter Try.func6, Try.ntmps6
  go_wp2_with (first
    | (go_at_call 4; refine h0.mono ?_; clear h0; rintro e w1 ⟨B, v, rfl, K1, hB, b1⟩; have F1 : Fz (Cb B v) w w1 := Fz.of_below b1; clear b1)
    | (go_at_call 12; refine (num_any _ _).mono ?_; rintro e w9 ⟨rfl, rfl⟩)
    | (go_at_call 13; have R : Calls Try.prog 13 #[cP B, I 0, U 2, U 0] w1 _ := Rel_any K1 0 2 0 (by decide); rw [hv1, hv2] at R; refine R.mono ?_; clear R K1; rintro e w2 ⟨rfl, K2, f2⟩; have F2 := F1.trans f2; clear F1 f2)
    | (go_at_call 14; have R : Calls Try.prog 14 #[cP B, I 1, U 2, U 3] w2 _ := Abs_any K2 1 2 3 (by decide); rw [hv3, hv4] at R; refine R.mono ?_; clear R K2; rintro e w3 ⟨rfl, K3, f3⟩; have F3 := F2.trans f3; clear F2 f3)
    | (go_at_call 13; have R : Calls Try.prog 13 #[cP B, I 2, U 1, U 1] w3 _ := Rel_any K3 2 1 1 (by decide); rw [hv5, hv6] at R; refine R.mono ?_; clear R K3; rintro e w4 ⟨rfl, K4, f4⟩; have F4 := F3.trans f4; clear F3 f4)
    | (go_at_call 15; have R := Tick_any K4; rw [hv7, hv8, hv9] at R; refine R.mono ?_; clear R K4; rintro e w5 ⟨u, rfl, o5, K5, f5⟩; obtain ⟨a5, c5, rfl⟩ := empty_own o5; have F5 := F4.trans f5; clear F4 f5 o5)
    | (go_at_call 15; have R := Tick_any K5; rw [hv10, hv11, hv12] at R; refine R.mono ?_; clear R K5; rintro e w6 ⟨u, rfl, o6, K6, f6⟩; obtain ⟨g6, c6, rfl, -, -, x0, x1⟩ := two_own o6; have F6 := F5.trans f6; clear F5 f6 o6)
    | (go_at_call 16; have R := Left_any K6 1; rw [hv13, hv14] at R; refine R.mono ?_; clear R; rintro e w7 ⟨rfl, rfl⟩)
    | (go_at_call 17; refine (Value_any K6).mono ?_; rintro e w7 ⟨rfl, rfl⟩)
    | (go_at_call 18; refine (hA _).mono ?_; rintro e w8 ⟨rfl, b8⟩))
  go_ret
  exact ⟨rfl, (F6.below (Nat.le_refl _) (fun x e => Nat.le_of_lt (hB x e))).trans (b8.mono F6.size)⟩
end Go.Proofs.Ytpoekphebmonnab
