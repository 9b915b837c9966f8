import Derived.Test.YtphafnfmkhhamaaVp
namespace Go.Proofs.Ytphafnfmkhhamaa
open Go.RowKit
set_option linter.unusedVariables false
set_option linter.unusedSimpArgs false

/-! ### The document's Reset, New, Copy -/
theorem uinfo : (Try.prog.info? 22).map (fun i => (i.zero, i.size, i.bytes)) = some (some (.int .u32 0), 1, 4) := by kernel_rfl
theorem binfo : (Try.prog.info? 4).map (fun i => (i.zero, i.size, i.bytes)) = some (some (.bool false), 1, 1) := by kernel_rfl
theorem fz_none {w w' : World} (h : w.grownBy w' none) (M : Nat → Prop) : Fz M w w' := ⟨h.os, h.tape, h.output, h.size, fun b hb _ => h.block b hb (by simp)⟩
theorem ob_eq {b n c g : Nat} (e : (Value.slice (some ⟨b, 0, none⟩) n c).ownBlock = some g) : b = g := by cases e; rfl
structure Dm (w : World) (D : Nat) (vm vo vw vs : Value) (ms : List Int) : Prop where
  o : w.heap[D]? = some (.cells #[vm, vo, vw, vs] 67)
  pm : w.ownsRow 0 22 1 vm ms.length (rM ms)
  l : ms.length ≤ 256
  d : vm.ownBlock ≠ some D
theorem made_on {g : Nat → Et} {n : Nat} (h : ∀ i, i < n → (g i).on = 0) : (madeCells (Value.int .u32 0).cells (n * 1)).toList = rOn g n := by
  rw [show (Value.int .u32 0).cells = #[.int .u32 0] from rfl, Nat.mul_one, toList_madeCells_one]
  apply List.ext_getElem?
  intro i
  by_cases hi : i < n
  · rw [rOn, range_at _ hi, h i hi, List.getElem?_replicate, if_pos hi]
  · rw [List.getElem?_eq_none (by simpa using hi), List.getElem?_eq_none (by simpa [rOn] using hi)]
theorem made_wa {g : Nat → Et} {n : Nat} (h : ∀ i, i < n → (g i).wa = 0) : (madeCells (Value.int .u32 0).cells (n * 1)).toList = rWa g n := by
  rw [show (Value.int .u32 0).cells = #[.int .u32 0] from rfl, Nat.mul_one, toList_madeCells_one]
  apply List.ext_getElem?
  intro i
  by_cases hi : i < n
  · rw [rWa, range_at _ hi, h i hi, List.getElem?_replicate, if_pos hi]
  · rw [List.getElem?_eq_none (by simpa using hi), List.getElem?_eq_none (by simpa [rWa] using hi)]
theorem made_s {g : Nat → Et} {n : Nat} (h : ∀ i, i < n → (g i).s = false) : (madeCells (Value.bool false).cells (n * 1)).toList = rS g n := by
  rw [show (Value.bool false).cells = #[.bool false] from rfl, Nat.mul_one, toList_madeCells_one]
  apply List.ext_getElem?
  intro i
  by_cases hi : i < n
  · rw [rS, range_at _ hi, h i hi, List.getElem?_replicate, if_pos hi]
  · rw [List.getElem?_eq_none (by simpa using hi), List.getElem?_eq_none (by simpa [rS] using hi)]
section
variable {w w' : World} {D : Nat} {vm vo vw vs : Value} {ms : List Int}
theorem Dm.cells (h : Dm w D vm vo vw vs ms) : w.cell? ⟨D, 0, none⟩ = some vm ∧ w.cell? ⟨D, 1, none⟩ = some vo ∧ w.cell? ⟨D, 2, none⟩ = some vw ∧ w.cell? ⟨D, 3, none⟩ = some vs := by
  refine ⟨?_, ?_, ?_, ?_⟩ <;> (rw [cell_of_row w D _ _ _ (0, 0) h.o]; rfl)
theorem Dm.frz (h : Dm w D vm vo vw vs ms) (j : Nat) : w.frozen? ⟨D, j, none⟩ = false := frozen_of_row w D j _ _ h.o
theorem Dm.grown (h : Dm w D vm vo vw vs ms) (hg : w.grownBy w' none) : Dm w' D vm vo vw vs ms :=
  ⟨(fz_none hg (fun _ => False)).heap h.o id, (fz_none hg (fun _ => False)).own h.pm (fun _ _ e => e), h.l, h.d⟩
theorem Dm.set1 (h : Dm w D vm vo vw vs ms) (v : Value) : Dm (w.setCell ⟨D, 1, none⟩ v) D vm v vw vs ms :=
  ⟨heap_setCell_same w D 1 _ _ v h.o, (fx_one w D 1 v).own h.pm (fun g e e2 => h.d (by rw [e, e2])), h.l, h.d⟩
theorem Dm.set2 (h : Dm w D vm vo vw vs ms) (v : Value) : Dm (w.setCell ⟨D, 2, none⟩ v) D vm vo v vs ms :=
  ⟨heap_setCell_same w D 2 _ _ v h.o, (fx_one w D 2 v).own h.pm (fun g e e2 => h.d (by rw [e, e2])), h.l, h.d⟩
theorem Dm.set3 (h : Dm w D vm vo vw vs ms) (v : Value) : Dm (w.setCell ⟨D, 3, none⟩ v) D vm vo vw v ms :=
  ⟨heap_setCell_same w D 3 _ _ v h.o, (fx_one w D 3 v).own h.pm (fun g e e2 => h.d (by rw [e, e2])), h.l, h.d⟩
set_option maxRecDepth 100000 in
theorem dReset_any (h : Dm w D vm vo vw vs ms) (f : Nat → Et) (h1 : ∀ i, i < ms.length → (f i).on = 0 ∧ (f i).wa = 0 ∧ (f i).s = false) (h2 : ∀ i v, ms[i]? = some v → (f i).x = decide (v ≠ 0)) : Calls Try.prog 23 #[dP D] w fun e w' => e = .returned (.tuple #[]) ∧ (∃ vo' vw' vs', Dt w' D vm vo' vw' vs' ms f ∧ (∀ b, Db D vm vo' vw' vs' b → b = D ∨ vm.ownBlock = some b ∨ w.heap.size ≤ b)) ∧ Fz (fun b => b = D) w w' := by
  obtain ⟨iu, hiu, hu0, hu1, hu2⟩ := info_parts uinfo
  obtain ⟨ib, hib, hb0, hb1, hb2⟩ := info_parts binfo
  obtain ⟨c0, c1, c2, c3⟩ := h.cells
  have f1 := h.frz 1
  obtain ⟨am, cm, rfl⟩ := own_sl h.pm
  have hl := h.l
  have hD : D < w.heap.size := heap_lt h.o
  have hvm : ∀ g, (Value.slice am ms.length cm).ownBlock = some g → g < w.heap.size := fun g e => (h.pm.lt g e).2
  have HS : Hid ((∀ i, i < ms.length → (f i).on = 0 ∧ (f i).wa = 0 ∧ (f i).s = false) ∧ ∀ i v, ms[i]? = some v → (f i).x = decide (v ≠ 0)) := ⟨h1, h2⟩
  clear h1 h2
  go_enter Try.func23, Try.ntmps23
  go_upto_region 2 with (first | (at_make; refine wpList_make_full _ rfl _ _ 28 rfl 0 22 iu (.int .u32 0) 1 Try.underlying28 hiu hu0 hu1 .i64 .i64 _ _ ms.length rfl rfl rfl rfl (by rw [hu2]; omega) (by unfold maxLen; omega) (Nat.zero_le _) ?_; intro w1 o1 g1; have m1 := h.grown g1; have q1 := m1.frz 1; obtain ⟨e0, e1, e2, e3⟩ := m1.cells))
  have M1 := m1.set1 (.slice (some ⟨w.heap.size, 0, none⟩) ms.length ms.length)
  have O1 := (fx_one w1 D 1 (.slice (some ⟨w.heap.size, 0, none⟩) ms.length ms.length)).own o1 (fun g e e2 => by have := ob_eq e; omega)
  rw [made_on (fun i hi => (HS.out.1 i hi).1)] at O1
  have F1 : Fz (fun b => b = D) w (w1.setCell ⟨D, 1, none⟩ (.slice (some ⟨w.heap.size, 0, none⟩) ms.length ms.length)) := (fz_none g1 _).trans (fx_one w1 D 1 _)
  have L1 : w.heap.size < (w1.setCell ⟨D, 1, none⟩ (.slice (some ⟨w.heap.size, 0, none⟩) ms.length ms.length)).heap.size := (O1.lt w.heap.size rfl).2
  clear h m1 o1 g1 q1 e0 e1 e2 e3 c0 c1 c2 c3 f1
  generalize (w1.setCell ⟨D, 1, none⟩ (.slice (some ⟨w.heap.size, 0, none⟩) ms.length ms.length)) = x1 at *
  obtain ⟨c0, c1, c2, c3⟩ := M1.cells
  go_upto_region 3 with (first | (at_make; refine wpList_make_full _ rfl _ _ 28 rfl 0 22 iu (.int .u32 0) 1 Try.underlying28 hiu hu0 hu1 .i64 .i64 _ _ ms.length rfl rfl rfl rfl (by rw [hu2]; omega) (by unfold maxLen; omega) (Nat.zero_le _) ?_; intro w2 o2 g2; have m2 := M1.grown g2; have q2 := m2.frz 2; obtain ⟨e0, e1, e2, e3⟩ := m2.cells))
  have M2 := m2.set2 (.slice (some ⟨x1.heap.size, 0, none⟩) ms.length ms.length)
  have P1 := (fx_one w2 D 2 (.slice (some ⟨x1.heap.size, 0, none⟩) ms.length ms.length)).own ((fz_none g2 (fun _ => False)).own O1 (fun _ _ e => e)) (fun g e e2 => by have := ob_eq e; omega)
  have O2 := (fx_one w2 D 2 (.slice (some ⟨x1.heap.size, 0, none⟩) ms.length ms.length)).own o2 (fun g e e2 => by have := ob_eq e; omega)
  rw [made_wa (fun i hi => (HS.out.1 i hi).2.1)] at O2
  have F2 : Fz (fun b => b = D) w (w2.setCell ⟨D, 2, none⟩ (.slice (some ⟨x1.heap.size, 0, none⟩) ms.length ms.length)) := (F1.trans (fz_none g2 _)).trans (fx_one w2 D 2 _)
  have L2 : x1.heap.size < (w2.setCell ⟨D, 2, none⟩ (.slice (some ⟨x1.heap.size, 0, none⟩) ms.length ms.length)).heap.size := (O2.lt x1.heap.size rfl).2
  clear M1 m2 o2 g2 q2 e0 e1 e2 e3 c0 c1 c2 c3 O1 F1
  generalize (w2.setCell ⟨D, 2, none⟩ (.slice (some ⟨x1.heap.size, 0, none⟩) ms.length ms.length)) = x2 at *
  generalize x1.heap.size = s1 at *
  obtain ⟨c0, c1, c2, c3⟩ := M2.cells
  go_wp2_with (first | (at_make; refine wpList_make_full _ rfl _ _ 65 rfl 0 4 ib (.bool false) 1 Try.underlying65 hib hb0 hb1 .i64 .i64 _ _ ms.length rfl rfl rfl rfl (by rw [hb2]; omega) (by unfold maxLen; omega) (Nat.zero_le _) ?_; intro w3 o3 g3; have m3 := M2.grown g3; have q3 := m3.frz 3; obtain ⟨e0, e1, e2, e3⟩ := m3.cells))
  have M3 := m3.set3 (.slice (some ⟨x2.heap.size, 0, none⟩) ms.length ms.length)
  have R1 := (fx_one w3 D 3 (.slice (some ⟨x2.heap.size, 0, none⟩) ms.length ms.length)).own ((fz_none g3 (fun _ => False)).own P1 (fun _ _ e => e)) (fun g e e2 => by have := ob_eq e; omega)
  have R2 := (fx_one w3 D 3 (.slice (some ⟨x2.heap.size, 0, none⟩) ms.length ms.length)).own ((fz_none g3 (fun _ => False)).own O2 (fun _ _ e => e)) (fun g e e2 => by have := ob_eq e; omega)
  have O3 := (fx_one w3 D 3 (.slice (some ⟨x2.heap.size, 0, none⟩) ms.length ms.length)).own o3 (fun g e e2 => by have := ob_eq e; omega)
  rw [made_s (fun i hi => (HS.out.1 i hi).2.2)] at O3
  have F3 := (F2.trans (fz_none g3 _)).trans (fx_one w3 D 3 (.slice (some ⟨x2.heap.size, 0, none⟩) ms.length ms.length))
  refine bodyPost_end (v := .tuple #[]) (by simp [results, Try.results23, go_sem]) rfl ?_
  refine ⟨rfl, ⟨_, _, _, ⟨M3.o, M3.pm, R1, R2, O3, HS.out.2, hl, ⟨M3.d, fun e => by have := ob_eq e; omega, fun e => by have := ob_eq e; omega, fun e => by have := ob_eq e; omega⟩, ?_⟩, ?_⟩, F3⟩
  · refine ⟨fun g e e2 => ?_, fun g e e2 => ?_, fun g e e2 => ?_, fun g e e2 => ?_, fun g e e2 => ?_, fun g e e2 => ?_⟩
    · have := hvm g e; have := ob_eq e2; omega
    · have := hvm g e; have := ob_eq e2; omega
    · have := hvm g e; have := ob_eq e2; omega
    · have := ob_eq e; have := ob_eq e2; omega
    · have := ob_eq e; have := ob_eq e2; omega
    · have := ob_eq e; have := ob_eq e2; omega
  · rintro b (e | e | e | e | e)
    · exact .inl e
    · exact .inr (.inl e)
    · have := ob_eq e; exact .inr (.inr (by omega))
    · have := ob_eq e; exact .inr (.inr (by omega))
    · have := ob_eq e; exact .inr (.inr (by omega))
end
end Go.Proofs.Ytphafnfmkhhamaa
