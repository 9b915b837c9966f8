import Derived.Test.YtmidaeljeoifdaaGreatDoorKrk
namespace Go.Proofs.YtmidaeljeoifdaaGreatDoor
set_option maxRecDepth 100000
set_option maxHeartbeats 16000000
open Go.RowKit
set_option linter.unusedVariables false
theorem Tryz.infoU8 : (Tryz.prog.info? 5).map (fun i => (i.zero, i.size, i.bytes)) = some (some (.int .u8 0), 1, 1) := by kernel_rfl
theorem number_any (x : Nat) (n : Nat) (hn : 1 ≤ n) (h7 : n ≤ 7) (w : World) : Calls Tryz.prog 301 #[.int .u64 (x : Int), I n] w fun e w' => ∃ s, e = .returned (.tuple #[s, I (if fitsB x n = true then 0 else 2)]) ∧ Below w.heap.size w w' := by
 have c1 := fun w => width_any n w
 have hw : inR n 1 8 = true := by unfold inR; rw [decide_eq_true (by omega), decide_eq_true (by omega)]; rfl
 rw [hw] at c1
 have c2 := fits_any x n hn h7
 have hn1 : (1 : Int) ≤ n := by omega
 have hn7 : (n : Int) ≤ 7 := by omega
 cases hf : fitsB x n with
 | false =>
  rw [hf] at c2
  go_enter Tryz.func301, Tryz.ntmps301
  go_wp2_with (first | (go_at_call 303; refine (c1 _).mono ?_; rintro e w' ⟨rfl, rfl⟩) | (go_at_call 304; refine (c2 _).mono ?_; rintro e w' ⟨rfl, rfl⟩))
  all_goals (go_ret2; exact ⟨⟨_, rfl⟩, Below.refl _ _⟩)
 | true =>
  rw [hf] at c2
  obtain ⟨i0, hi0, hz0, hz1, hz2⟩ := info_parts Tryz.infoU8
  go_enter Tryz.func301, Tryz.ntmps301
  go_wp2_with (first | (go_at_call 303; refine (c1 _).mono ?_; rintro e w' ⟨rfl, rfl⟩) | (go_at_call 304; refine (c2 _).mono ?_; rintro e w' ⟨rfl, rfl⟩) | (refine wpList_make_full _ rfl _ _ 324 rfl w'.heap.size 5 i0 (.int .u8 0) 1 Tryz.underlying324 hi0 hz0 hz1 .i64 .i64 _ _ n rfl rfl rfl rfl (by rw [hz2]; omega) (by unfold maxLen; omega) (Nat.le_refl _) ?_; intro w1 ho1 hg1))
  have hb1 := below_none hg1
  clear hg1 c1 c2
  generalize (madeCells (Value.int IntKind.u8 0).cells (n * 1)).toList = xs0 at ho1
  generalize hbk : w'.heap.size = b at ho1 ⊢
  go_loopw [0, 7, 21] (fun v0 _ iv wr => ∃ (j : Nat) (y : Int) (xs : List Value), j ≤ n ∧ iv = .int .i64 j ∧ v0 = .int .u64 y ∧ Hid (wr.ownsRow b 5 1 (.slice (some ⟨b, 0, none⟩) n n) n xs ∧ Below b w' wr)) (fun _ _ iv _ => n - (intOf iv).toNat)
  case atStart => exact ⟨0, x, xs0, by omega, rfl, rfl, ho1, by rw [← hbk]; exact hb1⟩
  case round =>
   obtain ⟨j, y, xs, hj, rfl, rfl, HJ⟩ := hrel
   obtain ⟨hO, hB⟩ := HJ.out
   by_cases hlt : j < n
   ·have hlt' : (j : Int) < n := by omega
    have hxl : xs.length = n * 1 := hO.1
    obtain ⟨u, hu⟩ : ∃ u, xs[j]? = some u := ⟨_, List.getElem?_eq_getElem (by omega)⟩
    have hcx : wr.cell? ⟨b, j, none⟩ = some u := by rw [hO.cellAt j (by omega)]; exact hu
    have hfz := hO.frozenAt
    have hsr := hB.size
    have hst : ∀ z, Hid (∃ xs' : List Value, (wr.setCell ⟨b, j, none⟩ z).ownsRow b 5 1 (.slice (some ⟨b, 0, none⟩) n n) n xs' ∧ Below b w' (wr.setCell ⟨b, j, none⟩ z)) := fun z => by
     obtain ⟨hO3, hg3⟩ := hO.stored j z
     exact ⟨_, hO3, hB.trans (below_of_grown hg3 (Nat.le_refl _) (by omega))⟩
    clear hO hB HJ hu hxl
    go_wp2
    go_roundw
    case rel =>
     obtain ⟨xs', h1, h2⟩ := (hst _).out
     exact ⟨j + 1, _, xs', by omega, by go_num, rfl, h1, h2⟩
    case measure => simp [intOf]; omega
   ·obtain rfl : j = n := by omega
    have hlt' : ¬ (j : Int) < j := by omega
    clear hO HJ
    go_wp2
    all_goals (go_ret2; exact ⟨⟨_, rfl⟩, by first | exact hB | exact hB.drew⟩)
end Go.Proofs.YtmidaeljeoifdaaGreatDoor
