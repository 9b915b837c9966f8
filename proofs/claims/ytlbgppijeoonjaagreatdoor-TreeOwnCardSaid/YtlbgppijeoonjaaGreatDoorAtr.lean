import Derived.Test.YtlbgppijeoonjaaGreatDoorScaX
namespace Go.Proofs.YtlbgppijeoonjaaGreatDoor
open Go.RowKit
set_option linter.unusedVariables false

/-- The place asked for, within the text. -/
def inN (s : ByteArray) (off : Int) : Nat := if off < 0 then 0 else if (s.size : Int) < off then s.size else off.toNat
theorem inN_le (s : ByteArray) (off : Int) : inN s off ≤ s.size := by unfold inN; split; omega; split <;> omega
theorem pre_list (s : ByteArray) (k : Nat) (hk : k ≤ s.size) : (s.extract 0 k).data.toList = s.data.toList.take k ∧ (s.extract 0 k).size = k := by
  have h := Lib.extract_data s 0 k
  refine ⟨by rw [h]; simp, ?_⟩
  have := congrArg List.length h
  rw [len_all] at this
  rw [this]
  simp
  omega
theorem col_step (t : List UInt8) (k : Nat) : colN t (k + 1) = if t[k]? = some 10 then 1 else colN t k + 1 := by
  unfold colN
  rw [begN]
  have := begN_le t k
  split <;> omega
structure Sp3 (w : World) (b : Nat) (v0 v1 v2 : Int) : Prop where
  hheap : w.heap[b]? = some (.cells #[.int .i64 v0, .int .i64 v1, .int .i64 v2] 27 (0, 0))
theorem Sp3.c0 {w : World} {b : Nat} {v0 v1 v2 : Int} (h : Sp3 w b v0 v1 v2) : w.cell? ⟨b, 0, none⟩ = some (.int .i64 v0) := by rw [cell_of_row w b 0 _ _ (0, 0) h.hheap]; rfl
theorem Sp3.c1 {w : World} {b : Nat} {v0 v1 v2 : Int} (h : Sp3 w b v0 v1 v2) : w.cell? ⟨b, 1, none⟩ = some (.int .i64 v1) := by rw [cell_of_row w b 1 _ _ (0, 0) h.hheap]; rfl
theorem Sp3.c2 {w : World} {b : Nat} {v0 v1 v2 : Int} (h : Sp3 w b v0 v1 v2) : w.cell? ⟨b, 2, none⟩ = some (.int .i64 v2) := by rw [cell_of_row w b 2 _ _ (0, 0) h.hheap]; rfl
theorem Sp3.fz {w : World} {b : Nat} {v0 v1 v2 : Int} (h : Sp3 w b v0 v1 v2) (i : Nat) : w.frozen? ⟨b, i, none⟩ = false := frozen_of_row w b i _ _ h.hheap
theorem Sp3.set1 {w : World} {b : Nat} {v0 v1 v2 : Int} (h : Sp3 w b v0 v1 v2) (n : Int) : Sp3 (w.setCell ⟨b, 1, none⟩ (.int .i64 n)) b v0 n v2 := ⟨heap_setCell_same _ b 1 _ _ _ h.hheap⟩
theorem Sp3.set2 {w : World} {b : Nat} {v0 v1 v2 : Int} (h : Sp3 w b v0 v1 v2) (n : Int) : Sp3 (w.setCell ⟨b, 2, none⟩ (.int .i64 n)) b v0 v1 n := ⟨heap_setCell_same _ b 2 _ _ _ h.hheap⟩
theorem below_set3 {w w' : World} (h : Below w.heap.size w w') (b i : Nat) (v : Value) (hb : w.heap.size ≤ b) : Below w.heap.size w (w'.setCell ⟨b, i, none⟩ v) :=
  h.trans (below_of_grown (grown_set w' b i v) hb h.size)
theorem _root_.Go.RowKit.Below.set3 {w w' : World} (h : Below w.heap.size w w') (b i : Nat) (v : Value) (hb : w.heap.size ≤ b) : Below w.heap.size w (w'.setCell ⟨b, i, none⟩ v) := below_set3 h b i v hb
theorem heap_set_ne (w : World) (b i g : Nat) (v : Value) (h : g ≠ b) : (w.setCell ⟨b, i, none⟩ v).heap[g]? = w.heap[g]? := heap_setCell_other w ⟨b, i, none⟩ g _ (fun e => h e)
theorem heap2_0' (w : World) (a b : Obj) : ((w.alloc a).alloc b).heap[w.heap.size]? = some a := by
  show ((w.heap.push a).push b)[w.heap.size]? = some a
  rw [push_lt _ _ _ (by simp), push_at]
theorem heap2_1' (w : World) (a b : Obj) : ((w.alloc a).alloc b).heap[w.heap.size + 1]? = some b := by
  show ((w.heap.push a).push b)[w.heap.size + 1]? = some b
  have := push_at (w.heap.push a) b
  rwa [Array.size_push] at this
theorem res_spot {fn : Func} {n : Nat} (hf : fn.results = #[.cell n 27]) (tmps : Array Value) (b : Nat) (w : World) (v0 v1 v2 : Value)
    (h2 : tmps[n]? = some (.pointer (some ⟨b, 0, none⟩))) (hk : w.heap[b]? = some (.cells #[v0, v1, v2] 27 (0, 0))) :
    (results fn tmps).run Tryz.prog w = .ok (.agg #[v0, v1, v2]) w := by
  have a1 := fun i => cell_of_row w b i _ _ (0, 0) hk
  have z0 := a1 0; have z1 := a1 1; have z2 := a1 2
  simp at z0 z1 z2
  simp [results, hf, go_sem, h2, z0, z1, z2]
theorem set3_at (w : World) (b : Nat) (t : TypeId) (o0 o1 o2 v0 v1 v2 : Value) (k : w.heap[b]? = some (.cells #[o0, o1, o2] t (0, 0))) :
    (((w.setCell ⟨b, 0, none⟩ v0).setCell ⟨b, 1, none⟩ v1).setCell ⟨b, 2, none⟩ v2).heap[b]? = some (.cells #[v0, v1, v2] t (0, 0)) := by
  have h0 : (w.setCell ⟨b, 0, none⟩ v0).heap[b]? = some (.cells #[v0, o1, o2] t (0, 0)) := heap_setCell_same _ b 0 _ t _ k
  generalize w.setCell ⟨b, 0, none⟩ v0 = w0 at *
  have h1 : (w0.setCell ⟨b, 1, none⟩ v1).heap[b]? = some (.cells #[v0, v1, o2] t (0, 0)) := heap_setCell_same _ b 1 _ t _ h0
  generalize w0.setCell ⟨b, 1, none⟩ v1 = w1 at *
  exact heap_setCell_same _ b 2 _ t _ h1
set_option maxHeartbeats 4000000 in
theorem rspot_any (s : ByteArray) (off : Int) (w : World) (hs : s.size < 4611686018427387904) :
    Calls Tryz.prog 72 #[.string s, .int .i64 off] w fun e w' => e = .returned (spV s.data.toList (inN s off)) ∧ Below w.heap.size w w' := by
  by_cases h0 : off < 0
  · obtain ⟨k, hk⟩ : ∃ k, k = 0 := ⟨0, rfl⟩
    have hi : inN s off = k := by unfold inN; rw [if_pos h0, hk]
    rw [hi]
    have hks : k ≤ s.size := by omega
    have HK : Hid (k = 0) := hk
    clear hk
    have z : ¬ (s.size : Int) < 0 := by omega
    go_enter Tryz.func72, Tryz.ntmps72
    go_wp2
    go_loopw [6] (fun i wr => ∃ j : Nat, j ≤ k ∧ i = .int .i64 j ∧ Sp3 wr (w.heap.size + 1) k (lineN s.data.toList j) (colN s.data.toList j) ∧ wr.heap[w.heap.size]? = some (.cells #[.int .i64 0, .int .i64 0, .int .i64 0] 27 (0, 0)) ∧ Below w.heap.size w wr) (fun i _ => k - (intOf i).toNat)
    case atStart => exact ⟨0, by omega, rfl, ⟨by rw [HK.out]; exact heap2_1' _ _ _⟩, heap2_0' _ _ _, ((Below.refl _ _).alloc (Nat.le_refl _) _).alloc (by simp) _⟩
    case round =>
      obtain ⟨j, hj, rfl, hS, hv, hb⟩ := hrel
      have hL := (lineN_le s.data.toList j).1
      have hC : colN s.data.toList j ≤ j + 1 := by unfold colN; omega
      by_cases hlt : j < k
      · exact absurd HK.out (by omega)
      · have hlt' : ¬ (j : Int) < 0 := by have := HK.out; omega
        have hjk : j = k := by omega
        subst hjk
        have c0 := hS.c0
        have c1 := hS.c1
        have c2 := hS.c2
        have a1 := fun i => cell_of_row wr w.heap.size i _ _ (0, 0) hv
        have z0 := a1 0; have z1 := a1 1; have z2 := a1 2
        have fz : ∀ i, wr.frozen? ⟨w.heap.size, i, none⟩ = false := fun i => frozen_of_row wr w.heap.size i _ _ hv
        clear a1 hS
        go_wp2
        refine bodyPost_ret (v := spV s.data.toList j) (res_spot Tryz.results72 _ w.heap.size _ _ _ _ rfl (set3_at _ _ _ _ _ _ _ _ _ hv)) rfl ⟨rfl, ?_⟩
        exact ((hb.set3 _ _ _ (Nat.le_refl _)).set3 _ _ _ (Nat.le_refl _)).set3 _ _ _ (Nat.le_refl _)
  · by_cases h1 : (s.size : Int) < off
    · obtain ⟨k, hk⟩ : ∃ k, k = s.size := ⟨_, rfl⟩
      have hi : inN s off = k := by unfold inN; rw [if_neg h0, if_pos h1, hk]
      rw [hi]
      have hks : k ≤ s.size := by omega
      have HK : Hid (k = s.size) := hk
      clear hk
      go_enter Tryz.func72, Tryz.ntmps72
      go_wp2
      go_loopw [6] (fun i wr => ∃ j : Nat, j ≤ k ∧ i = .int .i64 j ∧ Sp3 wr (w.heap.size + 1) k (lineN s.data.toList j) (colN s.data.toList j) ∧ wr.heap[w.heap.size]? = some (.cells #[.int .i64 0, .int .i64 0, .int .i64 0] 27 (0, 0)) ∧ Below w.heap.size w wr) (fun i _ => k - (intOf i).toNat)
      case atStart => exact ⟨0, by omega, rfl, ⟨by rw [HK.out]; exact heap2_1' _ _ _⟩, heap2_0' _ _ _, ((Below.refl _ _).alloc (Nat.le_refl _) _).alloc (by simp) _⟩
      case round =>
        obtain ⟨j, hj, rfl, hS, hv, hb⟩ := hrel
        have hL := (lineN_le s.data.toList j).1
        have hC : colN s.data.toList j ≤ j + 1 := by unfold colN; omega
        by_cases hlt : j < k
        · have hlt' : (j : Int) < s.size := by have := HK.out; omega
          have hq2 : j < s.size := by omega
          obtain ⟨x, hx⟩ : ∃ c, s[j] = c := ⟨_, rfl⟩
          have hix : ∀ w, (Instr.index 9 (.string s) (.int .i64 (j : Int))).run Tryz.prog w = .ok (.int .u8 (x.toNat : Int)) w := fun w => by
            rw [← hx]; exact index_at s j _ w hq2 rfl
          have HX : Hid (s.data.toList[j]? = some x) := by show _ = _; rw [snoc_all s j hq2, hx]
          clear hx
          have c2 := hS.c2
          have f2 := hS.fz 2
          by_cases h10 : x = 10
          · subst h10
            have HL : Hid (lineN s.data.toList (j + 1) = lineN s.data.toList j + 1 ∧ colN s.data.toList (j + 1) = 1) := ⟨by rw [lineN, if_pos HX.out], by rw [col_step, if_pos HX.out]⟩
            generalize lineN s.data.toList j = ln at *
            generalize colN s.data.toList j = cl at *
            have hS1 := hS.set2 ((cl : Int) + 1)
            have d1 := hS1.c1
            have g1 := hS1.fz 1
            have hS2 := hS1.set1 ((ln : Int) + 1)
            have g2 := hS2.fz 2
            have e2 := hS2.c2
            have hS3 := hS2.set2 1
            have hb3 := ((hb.set3 (w.heap.size + 1) 2 (.int .i64 ((cl : Int) + 1)) (by omega)).set3 (w.heap.size + 1) 1 (.int .i64 ((ln : Int) + 1)) (by omega)).set3 (w.heap.size + 1) 2 (.int .i64 1) (by omega)
            have hv3 : ((((wr.setCell ⟨w.heap.size + 1, 2, none⟩ (.int .i64 ((cl : Int) + 1))).setCell ⟨w.heap.size + 1, 1, none⟩ (.int .i64 ((ln : Int) + 1))).setCell ⟨w.heap.size + 1, 2, none⟩ (.int .i64 1))).heap[w.heap.size]? = _ := (heap_set_ne _ _ _ _ _ (by omega)).trans ((heap_set_ne _ _ _ _ _ (by omega)).trans ((heap_set_ne _ _ _ _ _ (by omega)).trans hv))
            clear hS hS1 hS2 hb hv
            go_wp2
            go_roundw
            case rel => exact ⟨j + 1, by omega, by go_num, (by have h := HL.out; rw [h.1, h.2, show ((ln + 1 : Nat) : Int) = (ln : Int) + 1 from by omega]; exact hS3), hv3, hb3⟩
            case measure => simp [intOf]; omega
          · have hx10 : ((x.toNat : Int) == 10) = false := by
              rw [beq_eq_false_iff_ne]; intro e; exact h10 (UInt8.toNat_inj.1 (by show x.toNat = 10; omega))
            have hne : ¬ s.data.toList[j]? = some 10 := by rw [HX.out]; exact fun e => h10 (Option.some.inj e)
            have HL : Hid (lineN s.data.toList (j + 1) = lineN s.data.toList j ∧ colN s.data.toList (j + 1) = colN s.data.toList j + 1) := ⟨by rw [lineN, if_neg hne], by rw [col_step, if_neg hne]⟩
            clear hne HX h10
            generalize lineN s.data.toList j = ln at *
            generalize colN s.data.toList j = cl at *
            have hS1 := hS.set2 ((cl : Int) + 1)
            have hb3 := hb.set3 (w.heap.size + 1) 2 (.int .i64 ((cl : Int) + 1)) (by omega)
            have hv3 : (wr.setCell ⟨w.heap.size + 1, 2, none⟩ (.int .i64 ((cl : Int) + 1))).heap[w.heap.size]? = _ := (heap_set_ne _ _ _ _ _ (by omega)).trans hv
            clear hS hb hv
            go_wp2
            go_roundw
            case rel => exact ⟨j + 1, by omega, by go_num, (by have h := HL.out; rw [h.1, h.2, show ((cl + 1 : Nat) : Int) = (cl : Int) + 1 from by omega]; exact hS1), hv3, hb3⟩
            case measure => simp [intOf]; omega
        · have hlt' : ¬ (j : Int) < s.size := by have := HK.out; omega
          have hjk : j = k := by omega
          subst hjk
          have c0 := hS.c0
          have c1 := hS.c1
          have c2 := hS.c2
          have a1 := fun i => cell_of_row wr w.heap.size i _ _ (0, 0) hv
          have z0 := a1 0; have z1 := a1 1; have z2 := a1 2
          have fz : ∀ i, wr.frozen? ⟨w.heap.size, i, none⟩ = false := fun i => frozen_of_row wr w.heap.size i _ _ hv
          clear a1 hS
          go_wp2
          refine bodyPost_ret (v := spV s.data.toList j) (res_spot Tryz.results72 _ w.heap.size _ _ _ _ rfl (set3_at _ _ _ _ _ _ _ _ _ hv)) rfl ⟨rfl, ?_⟩
          exact ((hb.set3 _ _ _ (Nat.le_refl _)).set3 _ _ _ (Nat.le_refl _)).set3 _ _ _ (Nat.le_refl _)
    · obtain ⟨k, rfl⟩ : ∃ k : Nat, off = k := ⟨off.toNat, by omega⟩
      have hi : inN s k = k := by unfold inN; rw [if_neg h0, if_neg h1]; rfl
      rw [hi]
      have hks : k ≤ s.size := by omega
      go_enter Tryz.func72, Tryz.ntmps72
      go_wp2
      go_loopw [6] (fun i wr => ∃ j : Nat, j ≤ k ∧ i = .int .i64 j ∧ Sp3 wr (w.heap.size + 1) k (lineN s.data.toList j) (colN s.data.toList j) ∧ wr.heap[w.heap.size]? = some (.cells #[.int .i64 0, .int .i64 0, .int .i64 0] 27 (0, 0)) ∧ Below w.heap.size w wr) (fun i _ => k - (intOf i).toNat)
      case atStart => exact ⟨0, by omega, rfl, ⟨heap2_1' _ _ _⟩, heap2_0' _ _ _, ((Below.refl _ _).alloc (Nat.le_refl _) _).alloc (by simp) _⟩
      case round =>
        obtain ⟨j, hj, rfl, hS, hv, hb⟩ := hrel
        have hL := (lineN_le s.data.toList j).1
        have hC : colN s.data.toList j ≤ j + 1 := by unfold colN; omega
        by_cases hlt : j < k
        · have hlt' : (j : Int) < k := by omega
          have hq2 : j < s.size := by omega
          obtain ⟨x, hx⟩ : ∃ c, s[j] = c := ⟨_, rfl⟩
          have hix : ∀ w, (Instr.index 9 (.string s) (.int .i64 (j : Int))).run Tryz.prog w = .ok (.int .u8 (x.toNat : Int)) w := fun w => by
            rw [← hx]; exact index_at s j _ w hq2 rfl
          have HX : Hid (s.data.toList[j]? = some x) := by show _ = _; rw [snoc_all s j hq2, hx]
          clear hx
          have c2 := hS.c2
          have f2 := hS.fz 2
          by_cases h10 : x = 10
          · subst h10
            have HL : Hid (lineN s.data.toList (j + 1) = lineN s.data.toList j + 1 ∧ colN s.data.toList (j + 1) = 1) := ⟨by rw [lineN, if_pos HX.out], by rw [col_step, if_pos HX.out]⟩
            generalize lineN s.data.toList j = ln at *
            generalize colN s.data.toList j = cl at *
            have hS1 := hS.set2 ((cl : Int) + 1)
            have d1 := hS1.c1
            have g1 := hS1.fz 1
            have hS2 := hS1.set1 ((ln : Int) + 1)
            have g2 := hS2.fz 2
            have e2 := hS2.c2
            have hS3 := hS2.set2 1
            have hb3 := ((hb.set3 (w.heap.size + 1) 2 (.int .i64 ((cl : Int) + 1)) (by omega)).set3 (w.heap.size + 1) 1 (.int .i64 ((ln : Int) + 1)) (by omega)).set3 (w.heap.size + 1) 2 (.int .i64 1) (by omega)
            have hv3 : ((((wr.setCell ⟨w.heap.size + 1, 2, none⟩ (.int .i64 ((cl : Int) + 1))).setCell ⟨w.heap.size + 1, 1, none⟩ (.int .i64 ((ln : Int) + 1))).setCell ⟨w.heap.size + 1, 2, none⟩ (.int .i64 1))).heap[w.heap.size]? = _ := (heap_set_ne _ _ _ _ _ (by omega)).trans ((heap_set_ne _ _ _ _ _ (by omega)).trans ((heap_set_ne _ _ _ _ _ (by omega)).trans hv))
            clear hS hS1 hS2 hb hv
            go_wp2
            go_roundw
            case rel => exact ⟨j + 1, by omega, by go_num, (by have h := HL.out; rw [h.1, h.2, show ((ln + 1 : Nat) : Int) = (ln : Int) + 1 from by omega]; exact hS3), hv3, hb3⟩
            case measure => simp [intOf]; omega
          · have hx10 : ((x.toNat : Int) == 10) = false := by
              rw [beq_eq_false_iff_ne]; intro e; exact h10 (UInt8.toNat_inj.1 (by show x.toNat = 10; omega))
            have hne : ¬ s.data.toList[j]? = some 10 := by rw [HX.out]; exact fun e => h10 (Option.some.inj e)
            have HL : Hid (lineN s.data.toList (j + 1) = lineN s.data.toList j ∧ colN s.data.toList (j + 1) = colN s.data.toList j + 1) := ⟨by rw [lineN, if_neg hne], by rw [col_step, if_neg hne]⟩
            clear hne HX h10
            generalize lineN s.data.toList j = ln at *
            generalize colN s.data.toList j = cl at *
            have hS1 := hS.set2 ((cl : Int) + 1)
            have hb3 := hb.set3 (w.heap.size + 1) 2 (.int .i64 ((cl : Int) + 1)) (by omega)
            have hv3 : (wr.setCell ⟨w.heap.size + 1, 2, none⟩ (.int .i64 ((cl : Int) + 1))).heap[w.heap.size]? = _ := (heap_set_ne _ _ _ _ _ (by omega)).trans hv
            clear hS hb hv
            go_wp2
            go_roundw
            case rel => exact ⟨j + 1, by omega, by go_num, (by have h := HL.out; rw [h.1, h.2, show ((cl + 1 : Nat) : Int) = (cl : Int) + 1 from by omega]; exact hS1), hv3, hb3⟩
            case measure => simp [intOf]; omega
        · have hlt' : ¬ (j : Int) < k := by omega
          have hjk : j = k := by omega
          subst hjk
          have c0 := hS.c0
          have c1 := hS.c1
          have c2 := hS.c2
          have a1 := fun i => cell_of_row wr w.heap.size i _ _ (0, 0) hv
          have z0 := a1 0; have z1 := a1 1; have z2 := a1 2
          have fz : ∀ i, wr.frozen? ⟨w.heap.size, i, none⟩ = false := fun i => frozen_of_row wr w.heap.size i _ _ hv
          clear a1 hS
          go_wp2
          refine bodyPost_ret (v := spV s.data.toList j) (res_spot Tryz.results72 _ w.heap.size _ _ _ _ rfl (set3_at _ _ _ _ _ _ _ _ _ hv)) rfl ⟨rfl, ?_⟩
          exact ((hb.set3 _ _ _ (Nat.le_refl _)).set3 _ _ _ (Nat.le_refl _)).set3 _ _ _ (Nat.le_refl _)
end Go.Proofs.YtlbgppijeoonjaaGreatDoor
