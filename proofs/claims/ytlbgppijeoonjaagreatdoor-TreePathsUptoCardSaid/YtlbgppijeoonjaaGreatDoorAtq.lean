import Derived.Test.YtlbgppijeoonjaaGreatDoorAtr
namespace Go.Proofs.YtlbgppijeoonjaaGreatDoor
open Go.RowKit
set_option linter.unusedVariables false
set_option maxHeartbeats 4000000 in
theorem rspot_any (s : ByteArray) (off : Int) (w : World) (hs : s.size < 4611686018427387904) :
    Calls Tryz.prog 72 #[.string s, .int .i64 off] w fun e w' => e = .returned (spV s.data.toList (inN s off)) ∧ Below w.heap.size w w' := by
  by_cases h0 : off < 0
  · obtain ⟨k, hk⟩ : ∃ k, k = 0 := ⟨0, rfl⟩
    have hi : inN s off = k := by unfold inN; rw [if_pos h0, hk]
    rw [hi]
    have hks : k ≤ s.size := by omega
    have HK : Hid (k = 0) := hk
    clear hk
    have z : ¬ (s.size : Int) < 0 := by omega
    go_enter Tryz.func72, Tryz.ntmps72
    go_wp2
    go_loopw [6] (fun i wr => ∃ j : Nat, j ≤ k ∧ i = .int .i64 j ∧ Sp3 wr (w.heap.size + 1) k (lineN s.data.toList j) (colN s.data.toList j) ∧ wr.heap[w.heap.size]? = some (.cells #[.int .i64 0, .int .i64 0, .int .i64 0] 27 (0, 0)) ∧ Below w.heap.size w wr) (fun i _ => k - (intOf i).toNat)
    case atStart => exact ⟨0, by omega, rfl, ⟨by rw [HK.out]; exact heap2_1' _ _ _⟩, heap2_0' _ _ _, ((Below.refl _ _).alloc (Nat.le_refl _) _).alloc (by simp) _⟩
    case round =>
      obtain ⟨j, hj, rfl, hS, hv, hb⟩ := hrel
      have hL := (lineN_le s.data.toList j).1
      have hC : colN s.data.toList j ≤ j + 1 := by unfold colN; omega
      by_cases hlt : j < k
      · exact absurd HK.out (by omega)
      · have hlt' : ¬ (j : Int) < 0 := by have := HK.out; omega
        have hjk : j = k := by omega
        subst hjk
        have c0 := hS.c0
        have c1 := hS.c1
        have c2 := hS.c2
        have a1 := fun i => cell_of_row wr w.heap.size i _ _ (0, 0) hv
        have z0 := a1 0; have z1 := a1 1; have z2 := a1 2
        have fz : ∀ i, wr.frozen? ⟨w.heap.size, i, none⟩ = false := fun i => frozen_of_row wr w.heap.size i _ _ hv
        clear a1 hS
        go_wp2
        refine bodyPost_ret (v := spV s.data.toList j) (res_spot Tryz.results72 _ w.heap.size _ _ _ _ rfl (set3_at _ _ _ _ _ _ _ _ _ hv)) rfl ⟨rfl, ?_⟩
        exact ((hb.set3 _ _ _ (Nat.le_refl _)).set3 _ _ _ (Nat.le_refl _)).set3 _ _ _ (Nat.le_refl _)
  · by_cases h1 : (s.size : Int) < off
    · obtain ⟨k, hk⟩ : ∃ k, k = s.size := ⟨_, rfl⟩
      have hi : inN s off = k := by unfold inN; rw [if_neg h0, if_pos h1, hk]
      rw [hi]
      have hks : k ≤ s.size := by omega
      have HK : Hid (k = s.size) := hk
      clear hk
      go_enter Tryz.func72, Tryz.ntmps72
      go_wp2
      go_loopw [6] (fun i wr => ∃ j : Nat, j ≤ k ∧ i = .int .i64 j ∧ Sp3 wr (w.heap.size + 1) k (lineN s.data.toList j) (colN s.data.toList j) ∧ wr.heap[w.heap.size]? = some (.cells #[.int .i64 0, .int .i64 0, .int .i64 0] 27 (0, 0)) ∧ Below w.heap.size w wr) (fun i _ => k - (intOf i).toNat)
      case atStart => exact ⟨0, by omega, rfl, ⟨by rw [HK.out]; exact heap2_1' _ _ _⟩, heap2_0' _ _ _, ((Below.refl _ _).alloc (Nat.le_refl _) _).alloc (by simp) _⟩
      case round =>
        obtain ⟨j, hj, rfl, hS, hv, hb⟩ := hrel
        have hL := (lineN_le s.data.toList j).1
        have hC : colN s.data.toList j ≤ j + 1 := by unfold colN; omega
        by_cases hlt : j < k
        · have hlt' : (j : Int) < s.size := by have := HK.out; omega
          have hq2 : j < s.size := by omega
          obtain ⟨x, hx⟩ : ∃ c, s[j] = c := ⟨_, rfl⟩
          have hix : ∀ w, (Instr.index 9 (.string s) (.int .i64 (j : Int))).run Tryz.prog w = .ok (.int .u8 (x.toNat : Int)) w := fun w => by
            rw [← hx]; exact index_at s j _ w hq2 rfl
          have HX : Hid (s.data.toList[j]? = some x) := by show _ = _; rw [snoc_all s j hq2, hx]
          clear hx
          have c2 := hS.c2
          have f2 := hS.fz 2
          by_cases h10 : x = 10
          · subst h10
            have HL : Hid (lineN s.data.toList (j + 1) = lineN s.data.toList j + 1 ∧ colN s.data.toList (j + 1) = 1) := ⟨by rw [lineN, if_pos HX.out], by rw [col_step, if_pos HX.out]⟩
            generalize lineN s.data.toList j = ln at *
            generalize colN s.data.toList j = cl at *
            have hS1 := hS.set2 ((cl : Int) + 1)
            have d1 := hS1.c1
            have g1 := hS1.fz 1
            have hS2 := hS1.set1 ((ln : Int) + 1)
            have g2 := hS2.fz 2
            have e2 := hS2.c2
            have hS3 := hS2.set2 1
            have hb3 := ((hb.set3 (w.heap.size + 1) 2 (.int .i64 ((cl : Int) + 1)) (by omega)).set3 (w.heap.size + 1) 1 (.int .i64 ((ln : Int) + 1)) (by omega)).set3 (w.heap.size + 1) 2 (.int .i64 1) (by omega)
            have hv3 : ((((wr.setCell ⟨w.heap.size + 1, 2, none⟩ (.int .i64 ((cl : Int) + 1))).setCell ⟨w.heap.size + 1, 1, none⟩ (.int .i64 ((ln : Int) + 1))).setCell ⟨w.heap.size + 1, 2, none⟩ (.int .i64 1))).heap[w.heap.size]? = _ := (heap_set_ne _ _ _ _ _ (by omega)).trans ((heap_set_ne _ _ _ _ _ (by omega)).trans ((heap_set_ne _ _ _ _ _ (by omega)).trans hv))
            clear hS hS1 hS2 hb hv
            go_wp2
            go_roundw
            case rel => exact ⟨j + 1, by omega, by go_num, (by have h := HL.out; rw [h.1, h.2, show ((ln + 1 : Nat) : Int) = (ln : Int) + 1 from by omega]; exact hS3), hv3, hb3⟩
            case measure => simp [intOf]; omega
          · have hx10 : ((x.toNat : Int) == 10) = false := by
              rw [beq_eq_false_iff_ne]; intro e; exact h10 (UInt8.toNat_inj.1 (by show x.toNat = 10; omega))
            have hne : ¬ s.data.toList[j]? = some 10 := by rw [HX.out]; exact fun e => h10 (Option.some.inj e)
            have HL : Hid (lineN s.data.toList (j + 1) = lineN s.data.toList j ∧ colN s.data.toList (j + 1) = colN s.data.toList j + 1) := ⟨by rw [lineN, if_neg hne], by rw [col_step, if_neg hne]⟩
            clear hne HX h10
            generalize lineN s.data.toList j = ln at *
            generalize colN s.data.toList j = cl at *
            have hS1 := hS.set2 ((cl : Int) + 1)
            have hb3 := hb.set3 (w.heap.size + 1) 2 (.int .i64 ((cl : Int) + 1)) (by omega)
            have hv3 : (wr.setCell ⟨w.heap.size + 1, 2, none⟩ (.int .i64 ((cl : Int) + 1))).heap[w.heap.size]? = _ := (heap_set_ne _ _ _ _ _ (by omega)).trans hv
            clear hS hb hv
            go_wp2
            go_roundw
            case rel => exact ⟨j + 1, by omega, by go_num, (by have h := HL.out; rw [h.1, h.2, show ((cl + 1 : Nat) : Int) = (cl : Int) + 1 from by omega]; exact hS1), hv3, hb3⟩
            case measure => simp [intOf]; omega
        · have hlt' : ¬ (j : Int) < s.size := by have := HK.out; omega
          have hjk : j = k := by omega
          subst hjk
          have c0 := hS.c0
          have c1 := hS.c1
          have c2 := hS.c2
          have a1 := fun i => cell_of_row wr w.heap.size i _ _ (0, 0) hv
          have z0 := a1 0; have z1 := a1 1; have z2 := a1 2
          have fz : ∀ i, wr.frozen? ⟨w.heap.size, i, none⟩ = false := fun i => frozen_of_row wr w.heap.size i _ _ hv
          clear a1 hS
          go_wp2
          refine bodyPost_ret (v := spV s.data.toList j) (res_spot Tryz.results72 _ w.heap.size _ _ _ _ rfl (set3_at _ _ _ _ _ _ _ _ _ hv)) rfl ⟨rfl, ?_⟩
          exact ((hb.set3 _ _ _ (Nat.le_refl _)).set3 _ _ _ (Nat.le_refl _)).set3 _ _ _ (Nat.le_refl _)
    · obtain ⟨k, rfl⟩ : ∃ k : Nat, off = k := ⟨off.toNat, by omega⟩
      have hi : inN s k = k := by unfold inN; rw [if_neg h0, if_neg h1]; rfl
      rw [hi]
      have hks : k ≤ s.size := by omega
      go_enter Tryz.func72, Tryz.ntmps72
      go_wp2
      go_loopw [6] (fun i wr => ∃ j : Nat, j ≤ k ∧ i = .int .i64 j ∧ Sp3 wr (w.heap.size + 1) k (lineN s.data.toList j) (colN s.data.toList j) ∧ wr.heap[w.heap.size]? = some (.cells #[.int .i64 0, .int .i64 0, .int .i64 0] 27 (0, 0)) ∧ Below w.heap.size w wr) (fun i _ => k - (intOf i).toNat)
      case atStart => exact ⟨0, by omega, rfl, ⟨heap2_1' _ _ _⟩, heap2_0' _ _ _, ((Below.refl _ _).alloc (Nat.le_refl _) _).alloc (by simp) _⟩
      case round =>
        obtain ⟨j, hj, rfl, hS, hv, hb⟩ := hrel
        have hL := (lineN_le s.data.toList j).1
        have hC : colN s.data.toList j ≤ j + 1 := by unfold colN; omega
        by_cases hlt : j < k
        · have hlt' : (j : Int) < k := by omega
          have hq2 : j < s.size := by omega
          obtain ⟨x, hx⟩ : ∃ c, s[j] = c := ⟨_, rfl⟩
          have hix : ∀ w, (Instr.index 9 (.string s) (.int .i64 (j : Int))).run Tryz.prog w = .ok (.int .u8 (x.toNat : Int)) w := fun w => by
            rw [← hx]; exact index_at s j _ w hq2 rfl
          have HX : Hid (s.data.toList[j]? = some x) := by show _ = _; rw [snoc_all s j hq2, hx]
          clear hx
          have c2 := hS.c2
          have f2 := hS.fz 2
          by_cases h10 : x = 10
          · subst h10
            have HL : Hid (lineN s.data.toList (j + 1) = lineN s.data.toList j + 1 ∧ colN s.data.toList (j + 1) = 1) := ⟨by rw [lineN, if_pos HX.out], by rw [col_step, if_pos HX.out]⟩
            generalize lineN s.data.toList j = ln at *
            generalize colN s.data.toList j = cl at *
            have hS1 := hS.set2 ((cl : Int) + 1)
            have d1 := hS1.c1
            have g1 := hS1.fz 1
            have hS2 := hS1.set1 ((ln : Int) + 1)
            have g2 := hS2.fz 2
            have e2 := hS2.c2
            have hS3 := hS2.set2 1
            have hb3 := ((hb.set3 (w.heap.size + 1) 2 (.int .i64 ((cl : Int) + 1)) (by omega)).set3 (w.heap.size + 1) 1 (.int .i64 ((ln : Int) + 1)) (by omega)).set3 (w.heap.size + 1) 2 (.int .i64 1) (by omega)
            have hv3 : ((((wr.setCell ⟨w.heap.size + 1, 2, none⟩ (.int .i64 ((cl : Int) + 1))).setCell ⟨w.heap.size + 1, 1, none⟩ (.int .i64 ((ln : Int) + 1))).setCell ⟨w.heap.size + 1, 2, none⟩ (.int .i64 1))).heap[w.heap.size]? = _ := (heap_set_ne _ _ _ _ _ (by omega)).trans ((heap_set_ne _ _ _ _ _ (by omega)).trans ((heap_set_ne _ _ _ _ _ (by omega)).trans hv))
            clear hS hS1 hS2 hb hv
            go_wp2
            go_roundw
            case rel => exact ⟨j + 1, by omega, by go_num, (by have h := HL.out; rw [h.1, h.2, show ((ln + 1 : Nat) : Int) = (ln : Int) + 1 from by omega]; exact hS3), hv3, hb3⟩
            case measure => simp [intOf]; omega
          · have hx10 : ((x.toNat : Int) == 10) = false := by
              rw [beq_eq_false_iff_ne]; intro e; exact h10 (UInt8.toNat_inj.1 (by show x.toNat = 10; omega))
            have hne : ¬ s.data.toList[j]? = some 10 := by rw [HX.out]; exact fun e => h10 (Option.some.inj e)
            have HL : Hid (lineN s.data.toList (j + 1) = lineN s.data.toList j ∧ colN s.data.toList (j + 1) = colN s.data.toList j + 1) := ⟨by rw [lineN, if_neg hne], by rw [col_step, if_neg hne]⟩
            clear hne HX h10
            generalize lineN s.data.toList j = ln at *
            generalize colN s.data.toList j = cl at *
            have hS1 := hS.set2 ((cl : Int) + 1)
            have hb3 := hb.set3 (w.heap.size + 1) 2 (.int .i64 ((cl : Int) + 1)) (by omega)
            have hv3 : (wr.setCell ⟨w.heap.size + 1, 2, none⟩ (.int .i64 ((cl : Int) + 1))).heap[w.heap.size]? = _ := (heap_set_ne _ _ _ _ _ (by omega)).trans hv
            clear hS hb hv
            go_wp2
            go_roundw
            case rel => exact ⟨j + 1, by omega, by go_num, (by have h := HL.out; rw [h.1, h.2, show ((cl + 1 : Nat) : Int) = (cl : Int) + 1 from by omega]; exact hS1), hv3, hb3⟩
            case measure => simp [intOf]; omega
        · have hlt' : ¬ (j : Int) < k := by omega
          have hjk : j = k := by omega
          subst hjk
          have c0 := hS.c0
          have c1 := hS.c1
          have c2 := hS.c2
          have a1 := fun i => cell_of_row wr w.heap.size i _ _ (0, 0) hv
          have z0 := a1 0; have z1 := a1 1; have z2 := a1 2
          have fz : ∀ i, wr.frozen? ⟨w.heap.size, i, none⟩ = false := fun i => frozen_of_row wr w.heap.size i _ _ hv
          clear a1 hS
          go_wp2
          refine bodyPost_ret (v := spV s.data.toList j) (res_spot Tryz.results72 _ w.heap.size _ _ _ _ rfl (set3_at _ _ _ _ _ _ _ _ _ hv)) rfl ⟨rfl, ?_⟩
          exact ((hb.set3 _ _ _ (Nat.le_refl _)).set3 _ _ _ (Nat.le_refl _)).set3 _ _ _ (Nat.le_refl _)
end Go.Proofs.YtlbgppijeoonjaaGreatDoor
