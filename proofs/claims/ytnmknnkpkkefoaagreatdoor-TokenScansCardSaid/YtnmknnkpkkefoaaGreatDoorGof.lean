import Derived.Test.YtnmknnkpkkefoaaGreatDoorAtr
import Derived.Test.YtnmknnkpkkefoaaGreatDoorGoX
namespace Go.Proofs.YtnmknnkpkkefoaaGreatDoor
open Go.RowKit
set_option linter.unusedVariables false

theorem inN_at (s : ByteArray) (a : Nat) (h : a ≤ s.size) : inN s (a : Int) = a := by
  unfold inN
  rw [if_neg (by omega), if_neg (by omega)]
  rfl
def fltV (t : List UInt8) (c a : Nat) : Value := .agg #[.int .i64 (c : Int), .int .i64 (a : Int), .int .i64 (lineN t a : Int), .int .i64 (colN t a : Int), .string ⟨#[]⟩]
theorem res_flt1 {fn : Func} {n : Nat} (hf : fn.results = #[.cell n 27]) (tmps : Array Value) (b : Nat) (w : World) (v0 v1 v2 v3 v4 : Value)
    (h2 : tmps[n]? = some (.pointer (some ⟨b, 0, none⟩))) (hk : w.heap[b]? = some (.cells #[v0, v1, v2, v3, v4] 27 (0, 0))) :
    (results fn tmps).run Tryz.prog w = .ok (.agg #[v0, v1, v2, v3, v4]) w := by
  have a1 := fun i => cell_of_row w b i _ _ (0, 0) hk
  have z0 := a1 0; have z1 := a1 1; have z2 := a1 2; have z3 := a1 3; have z4 := a1 4
  simp at z0 z1 z2 z3 z4
  simp [results, hf, go_sem, h2, z0, z1, z2, z3, z4]
theorem set5r_at (w : World) (b : Nat) (t : TypeId) (o0 o1 o2 o3 o4 v0 v1 v2 v3 v4 : Value) (k : w.heap[b]? = some (.cells #[o0, o1, o2, o3, o4] t (0, 0))) :
    (((((w.setCell ⟨b, 0, none⟩ v0).setCell ⟨b, 1, none⟩ v1).setCell ⟨b, 2, none⟩ v2).setCell ⟨b, 3, none⟩ v3).setCell ⟨b, 4, none⟩ v4).heap[b]? = some (.cells #[v0, v1, v2, v3, v4] t (0, 0)) := by
  have h0 : (w.setCell ⟨b, 0, none⟩ v0).heap[b]? = some (.cells #[v0, o1, o2, o3, o4] t (0, 0)) := heap_setCell_same _ b 0 _ t _ k
  generalize w.setCell ⟨b, 0, none⟩ v0 = w0 at *
  have h1 : (w0.setCell ⟨b, 1, none⟩ v1).heap[b]? = some (.cells #[v0, v1, o2, o3, o4] t (0, 0)) := heap_setCell_same _ b 1 _ t _ h0
  generalize w0.setCell ⟨b, 1, none⟩ v1 = w1 at *
  have h2 : (w1.setCell ⟨b, 2, none⟩ v2).heap[b]? = some (.cells #[v0, v1, v2, o3, o4] t (0, 0)) := heap_setCell_same _ b 2 _ t _ h1
  generalize w1.setCell ⟨b, 2, none⟩ v2 = w2 at *
  have h3 : (w2.setCell ⟨b, 3, none⟩ v3).heap[b]? = some (.cells #[v0, v1, v2, v3, o4] t (0, 0)) := heap_setCell_same _ b 3 _ t _ h2
  generalize w2.setCell ⟨b, 3, none⟩ v3 = w3 at *
  exact heap_setCell_same _ b 4 _ t _ h3
set_option maxHeartbeats 2000000 in
set_option maxRecDepth 100000 in
theorem rfault_any (s : ByteArray) (c a : Nat) (w : World) (hs : s.size < 4611686018427387904) (ha : a ≤ s.size) :
    Calls Tryz.prog 11 #[.string s, .int .i64 (c : Int), .int .i64 (a : Int)] w fun e w' => e = .returned (fltV s.data.toList c a) ∧ Below w.heap.size w w' := by
  have cs := fun w => rspot_any s (a : Int) w hs
  rw [inN_at s a ha] at cs
  unfold spV at cs
  unfold fltV
  generalize lineN s.data.toList a = ln at *
  generalize colN s.data.toList a = cl at *
  go_enter Tryz.func11, Tryz.ntmps11
  go_wp2_with fail
  have hv1 : (w.alloc (.cells #[.int .i64 0, .int .i64 0, .int .i64 0, .int .i64 0, .string ⟨#[]⟩] 27)).heap[w.heap.size]? = some (.cells #[.int .i64 0, .int .i64 0, .int .i64 0, .int .i64 0, .string ⟨#[]⟩] 27 (0, 0)) := heap_alloc_new w _
  have hb1 : Below w.heap.size w (w.alloc (.cells #[.int .i64 0, .int .i64 0, .int .i64 0, .int .i64 0, .string ⟨#[]⟩] 27)) := (Below.refl _ _).alloc (Nat.le_refl _) _
  generalize (w.alloc (.cells #[.int .i64 0, .int .i64 0, .int .i64 0, .int .i64 0, .string ⟨#[]⟩] 27)) = w1 at *
  refine (cs w1).mono ?_
  rintro e w2 ⟨rfl, hb2⟩
  have hv2 := (hb2.block _ (heap_lt hv1)).trans hv1
  have hbw := hb1.trans (hb2.mono hb1.size)
  have a1 := fun i => cell_of_row w2 w.heap.size i _ _ (0, 0) hv2
  have y0 := a1 0; have y1 := a1 1; have y2 := a1 2; have y3 := a1 3; have y4 := a1 4
  have fz : ∀ i, w2.frozen? ⟨w.heap.size, i, none⟩ = false := fun i => frozen_of_row w2 w.heap.size i _ _ hv2
  simp at y0 y1 y2 y3 y4
  clear a1 hv1 hb1 hb2 cs
  go_wp2
  refine bodyPost_ret (v := .agg #[.int .i64 (c : Int), .int .i64 (a : Int), .int .i64 (ln : Int), .int .i64 (cl : Int), .string ⟨#[]⟩]) (res_flt1 Tryz.results11 _ w.heap.size _ _ _ _ _ _ rfl (set5r_at _ _ _ _ _ _ _ _ _ _ _ _ _ hv2)) rfl ⟨rfl, ?_⟩
  exact (((((hbw.set3 _ _ _ (Nat.le_refl _)).set3 _ _ _ (Nat.le_refl _)).set3 _ _ _ (Nat.le_refl _)).set3 _ _ _ (Nat.le_refl _)).set3 _ _ _ (Nat.le_refl _))
theorem line_step (t : List UInt8) (k : Nat) : lineN t (k + 1) = if t[k]? = some 10 then lineN t k + 1 else lineN t k := rfl
set_option maxHeartbeats 4000000 in
set_option maxRecDepth 100000 in
theorem rfurther_any (s : ByteArray) (p k : Nat) (w : World) (hs : s.size < 4294967281) (hp : p ≤ k) (hk : k ≤ s.size) :
    Calls Tryz.prog 12 #[.string s, spV s.data.toList p, .int .i64 (k : Int)] w fun e w' => e = .returned (spV s.data.toList k) ∧ Below w.heap.size w w' := by
  unfold spV
  go_enter Tryz.func12, Tryz.ntmps12
  go_wp2
  go_loopw [7] (fun i wr => ∃ j : Nat, p ≤ j ∧ j ≤ k ∧ i = .int .i64 j ∧ Sp3 wr w.heap.size p (lineN s.data.toList j) (colN s.data.toList j) ∧ wr.heap[w.heap.size + 1]? = some (.cells #[.int .i64 0, .int .i64 0, .int .i64 0] 25 (0, 0)) ∧ Below w.heap.size w wr) (fun i _ => k - (intOf i).toNat)
  case atStart => exact ⟨p, Nat.le_refl _, hp, rfl, ⟨heap2_0' _ _ _⟩, heap2_1' _ _ _, ((Below.refl _ _).alloc (Nat.le_refl _) _).alloc (by simp) _⟩
  case round =>
    obtain ⟨j, hpj, hj, rfl, hS, hv, hb⟩ := hrel
    have hL := (lineN_le s.data.toList j).1
    have hC : colN s.data.toList j ≤ j + 1 := by unfold colN; omega
    by_cases hlt : j < k
    · have hlt' : (j : Int) < k := by omega
      obtain ⟨x, hx0, hix⟩ := at_some (show j < s.size by omega)
      have e1 := line_step s.data.toList j
      have e2 := col_step s.data.toList j
      rw [hx0] at e1 e2
      have c1 := hS.c1
      have c2 := hS.c2
      have fz := hS.fz
      by_cases h10 : x = 10
      · subst h10
        rw [if_pos rfl] at e1 e2
        have hix' : ∀ w, (Instr.index 9 (.string s) (.int .i64 (j : Int))).run Tryz.prog w = .ok (.int .u8 10) w := hix
        have hS2 := ((hS.set2 ((colN s.data.toList j : Int) + 1)).set1 ((lineN s.data.toList j : Int) + 1)).set2 1
        have hS1 := (hS.set2 ((colN s.data.toList j : Int) + 1))
        have d1 := hS1.c1
        have fz1 := hS1.fz
        have fz2 := (hS1.set1 ((lineN s.data.toList j : Int) + 1)).fz
        have d2 := (hS1.set1 ((lineN s.data.toList j : Int) + 1)).c2
        have HE1 : Hid (_ = _) := e1
        have HE2 : Hid (_ = _) := e2
        clear hix hx0 e1 e2 hS hS1
        generalize lineN s.data.toList j = ln at *
        generalize colN s.data.toList j = cl at *
        go_wp2
        go_roundw
        case rel =>
          refine ⟨j + 1, by omega, by omega, by go_num, ⟨?_⟩, ?_, ?_⟩
          · rw [HE1.out, HE2.out]; exact hS2.hheap
          · rw [heap_set_ne _ _ _ _ _ (by omega), heap_set_ne _ _ _ _ _ (by omega), heap_set_ne _ _ _ _ _ (by omega)]; exact hv
          · exact ((hb.set3 _ _ _ (Nat.le_refl _)).set3 _ _ _ (Nat.le_refl _)).set3 _ _ _ (Nat.le_refl _)
        case measure => simp [intOf]; omega
      · have hx' : ((x.toNat : Int) == 10) = false := u8_ne h10
        rw [if_neg (fun e => h10 (Option.some.inj e))] at e1 e2
        have hS2 := (hS.set2 ((colN s.data.toList j : Int) + 1))
        have HE1 : Hid (_ = _) := e1
        have HE2 : Hid (_ = _) := e2
        clear hx0 e1 e2 hS h10
        generalize lineN s.data.toList j = ln at *
        generalize colN s.data.toList j = cl at *
        go_wp2
        go_roundw
        case rel =>
          refine ⟨j + 1, by omega, by omega, by go_num, ⟨?_⟩, ?_, ?_⟩
          · rw [HE1.out, HE2.out]; exact hS2.hheap
          · rw [heap_set_ne _ _ _ _ _ (by omega)]; exact hv
          · exact hb.set3 _ _ _ (Nat.le_refl _)
        case measure => simp [intOf]; omega
    · have hlt' : ¬ (j : Int) < k := by omega
      have hjk : j = k := by omega
      subst hjk
      have hS0 : Sp3 (wr.setCell ⟨w.heap.size, 0, none⟩ (.int .i64 (j : Int))) w.heap.size j (lineN s.data.toList j) (colN s.data.toList j) := ⟨heap_setCell_same _ w.heap.size 0 _ _ _ hS.hheap⟩
      have c0 := hS.c0
      have fz0 := hS.fz
      have d0 := hS0.c0
      have d1 := hS0.c1
      have d2 := hS0.c2
      have hv' : (wr.setCell ⟨w.heap.size, 0, none⟩ (.int .i64 (j : Int))).heap[w.heap.size + 1]? = some (.cells #[.int .i64 0, .int .i64 0, .int .i64 0] 25 (0, 0)) := by rw [heap_set_ne _ _ _ _ _ (by omega)]; exact hv
      have a1 := fun i => cell_of_row _ (w.heap.size + 1) i _ _ (0, 0) hv'
      have z0 := a1 0; have z1 := a1 1; have z2 := a1 2
      have fz : ∀ i, (wr.setCell ⟨w.heap.size, 0, none⟩ (.int .i64 (j : Int))).frozen? ⟨w.heap.size + 1, i, none⟩ = false := fun i => frozen_of_row _ (w.heap.size + 1) i _ _ hv'
      have hb0 := hb.set3 w.heap.size 0 (.int .i64 (j : Int)) (Nat.le_refl _)
      simp at z0 z1 z2
      clear a1 hS hv hb hS0
      go_wp2
      refine bodyPost_ret (v := spV s.data.toList j) (res_spot Tryz.results12 _ (w.heap.size + 1) _ _ _ _ rfl (set3_at _ _ _ _ _ _ _ _ _ hv')) rfl ⟨rfl, ?_⟩
      exact ((hb0.set3 _ _ _ (Nat.le_succ _)).set3 _ _ _ (Nat.le_succ _)).set3 _ _ _ (Nat.le_succ _)
end Go.Proofs.YtnmknnkpkkefoaaGreatDoor
