import Derived.Test.YtapfbinaocaclaaEen
namespace Go.Proofs.Ytapfbinaocaclaa
open Go.RowKit
set_option linter.unusedVariables false
set_option linter.unusedSimpArgs false

/-! ### The law's has -/
set_option maxHeartbeats 2000000 in
set_option maxRecDepth 100000 in
theorem has_any (w : World) (s : Sl) (l : List Int) (h : RowsAt w 1 intP s l) (y : Int) : Calls Try.prog 13 #[.slice s.a s.n s.c, I y] w fun e w' => e = .returned (.bool (l.any (fun x => x == y))) ∧ w' = w := by
  have HS : Hid (s.n = l.length) := h.n
  have hsc : s.n ≤ s.c := h.c
  have hsm : s.c ≤ maxLen := h.m
  unfold maxLen at hsm
  have HH : Hid (RowsAt w 1 intP s l) := h
  obtain ⟨R, hR⟩ : ∃ R, R = l.any (fun x => x == y) := ⟨_, rfl⟩
  rw [← hR]
  have HR : Hid (R = l.any (fun x => x == y)) := hR
  clear h hR
  go_enter Try.func13, Try.ntmps13
  go_wp2
  go_loop [5] (fun iv => ∃ j : Nat, j ≤ s.n ∧ iv = .int .i64 j ∧ Hid ((l.take j).any (fun x => x == y) = false)) (fun iv => s.n - (intOf iv).toNat)
  case atStart => exact ⟨0, by omega, rfl, by show _ = _; simp⟩
  case round =>
    obtain ⟨j, hj, rfl, HJ⟩ := hrel
    by_cases hlt : j < s.n
    · have hlt' : (j : Int) < s.n := by omega
      obtain ⟨x, hx⟩ : ∃ x, l[j]? = some x := ⟨_, List.getElem?_eq_getElem (by rw [← HS.out]; exact hlt)⟩
      obtain ⟨g5, o5, e5, hg5, b5⟩ := ints_at HH.out hx
      have HA : Hid ((l.take (j + 1)).any (fun x => x == y) = (x == y)) := by show _ = _; rw [any_take _ _ j _ hx, HJ.out, Bool.false_or]
      have HT : Hid ((x == y) = true → R = true) := fun ht => by rw [HR.out]; exact List.any_eq_true.2 ⟨_, List.mem_of_getElem? hx, ht⟩
      rw [e5]
      clear hx e5 HJ
      cases he : x == y with
      | true =>
        have HE : Hid (R = true) := HT.out he
        clear HT HA
        go_wp2
        go_ret
        exact ⟨ret_bool HE.out.symm, rfl⟩
      | false =>
        have HA2 : Hid ((l.take (j + 1)).any (fun x => x == y) = false) := by show _ = _; rw [HA.out, he]
        clear HT HA
        go_wp2
        go_round
        case rel => exact ⟨j + 1, by omega, by go_num, HA2.out⟩
        case measure => simp [intOf]; omega
    · obtain rfl : j = s.n := by omega
      have hlt' : ¬ ((s.n : Nat) : Int) < (s.n : Nat) := by omega
      have HE : Hid (R = false) := by show _ = _; rw [HR.out, ← HJ.out, List.take_of_length_le (by rw [HS.out]; exact Nat.le_refl _)]
      clear HR
      go_wp2
      go_ret
      exact ⟨ret_bool HE.out.symm, rfl⟩
end Go.Proofs.Ytapfbinaocaclaa
