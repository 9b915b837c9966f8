import Derived.Test.YthmecgfbapemjaaDoorDl
namespace Go.Proofs.YthmecgfbapemjaaDoor
open Go.RowKit
set_option linter.unusedVariables false
set_option linter.unusedSimpArgs false

/-! ### Moves that may be -/
abbrev rulC : Array Value := #[I 3, I 2, .bool true, I 2, I 0, .bool true, I 0, I 2, .bool true, I 0, I 3, .bool true, I 0, I 1, .bool false, I 1, I 2, .bool false]
def EnvR (w : World) : Prop := ∃ t fr, w.heap[0]? = some (.cells rulC t fr)
theorem EnvR.pos {w : World} (h : EnvR w) : 0 < w.heap.size := by
  obtain ⟨t, fr, h⟩ := h
  exact heap_lt h
theorem EnvR.below {w w' : World} {n : Nat} (h : EnvR w) (hb : Below n w w') (hn : 0 < n) : EnvR w' := by
  obtain ⟨t, fr, h⟩ := h
  exact ⟨t, fr, (hb.block 0 hn).trans h⟩
theorem EnvR.up {w w' : World} (h : EnvR w) (hb : Below w.heap.size w w') : EnvR w' := h.below hb h.pos
theorem box_two (w w' : World) (a b : Value) (t : TypeId) (hb : Below (w.alloc (.cells #[a, b] t)).heap.size (w.alloc (.cells #[a, b] t)) w') : w'.cell? ⟨w.heap.size, 0, none⟩ = some a ∧ w'.cell? ⟨w.heap.size, 1, none⟩ = some b := by
  have hq := (hb.block w.heap.size (by simp)).trans (heap_alloc_new w (.cells #[a, b] t))
  refine ⟨?_, ?_⟩ <;> (rw [cell_of_row _ _ _ _ _ (0, 0) hq]; rfl)
theorem ix_0 (w : World) : (Instr.index 85 (.agg #[I 3, I 2, .bool true, I 2, I 0, .bool true, I 0, I 2, .bool true, I 0, I 3, .bool true, I 0, I 1, .bool false, I 1, I 2, .bool false]) (I 0)).run Tryd.prog w = .ok (.agg #[I 3, I 2, .bool true]) w := by kernel_rfl
theorem ix_1 (w : World) : (Instr.index 85 (.agg #[I 3, I 2, .bool true, I 2, I 0, .bool true, I 0, I 2, .bool true, I 0, I 3, .bool true, I 0, I 1, .bool false, I 1, I 2, .bool false]) (I 1)).run Tryd.prog w = .ok (.agg #[I 2, I 0, .bool true]) w := by kernel_rfl
theorem ix_2 (w : World) : (Instr.index 85 (.agg #[I 3, I 2, .bool true, I 2, I 0, .bool true, I 0, I 2, .bool true, I 0, I 3, .bool true, I 0, I 1, .bool false, I 1, I 2, .bool false]) (I 2)).run Tryd.prog w = .ok (.agg #[I 0, I 2, .bool true]) w := by kernel_rfl
theorem ix_3 (w : World) : (Instr.index 85 (.agg #[I 3, I 2, .bool true, I 2, I 0, .bool true, I 0, I 2, .bool true, I 0, I 3, .bool true, I 0, I 1, .bool false, I 1, I 2, .bool false]) (I 3)).run Tryd.prog w = .ok (.agg #[I 0, I 3, .bool true]) w := by kernel_rfl
theorem ix_4 (w : World) : (Instr.index 85 (.agg #[I 3, I 2, .bool true, I 2, I 0, .bool true, I 0, I 2, .bool true, I 0, I 3, .bool true, I 0, I 1, .bool false, I 1, I 2, .bool false]) (I 4)).run Tryd.prog w = .ok (.agg #[I 0, I 1, .bool false]) w := by kernel_rfl
theorem ix_5 (w : World) : (Instr.index 85 (.agg #[I 3, I 2, .bool true, I 2, I 0, .bool true, I 0, I 2, .bool true, I 0, I 3, .bool true, I 0, I 1, .bool false, I 1, I 2, .bool false]) (I 5)).run Tryd.prog w = .ok (.agg #[I 1, I 2, .bool false]) w := by kernel_rfl
set_option maxHeartbeats 2000000 in
set_option maxRecDepth 100000 in
theorem allowed_32 (w : World) (hE : EnvR w) (x : Bool) : Calls Tryd.prog 43 #[.agg #[I 3, I 2], .bool x] w fun e w' => e = .returned (.bool true) ∧ Below w.heap.size w w' := by
  have hb := below_alloc w (.cells #[I 3, I 2] 74)
  obtain ⟨t0, fr0, hV⟩ := hE.up hb
  have hsz : (Tryd.prog.info? 85).map (·.size) = some rulC.size := by kernel_rfl
  have hi0 : ∀ w : World, (Instr.index 85 (.agg rulC) (I 0)).run Tryd.prog w = .ok (.agg #[I 3, I 2, .bool true]) w := ix_0
  have he0 : ∀ w : World, Sem.run Tryd.prog (Op.equalIn 10000 82 (Value.agg #[I 3, I 2]) (Value.agg #[I 3, I 2])) w = .ok true w := fun w => by kernel_rfl
  generalize rulC = R at *
  have HB : Hid (∀ Z, Below (w.alloc (.cells #[I 3, I 2] 74)).heap.size (w.alloc (.cells #[I 3, I 2] 74)) Z → _) := fun Z => box_two w Z (I 3) (I 2) 74
  have H0 : Hid (Below w.heap.size w (w.alloc (.cells #[I 3, I 2] 74))) := hb
  have HI : Hid (Below (w.alloc (.cells #[I 3, I 2] 74)).heap.size (w.alloc (.cells #[I 3, I 2] 74)) (w.alloc (.cells #[I 3, I 2] 74))) := Below.refl _ _
  clear hb hE
  go_enter Tryd.func43, Tryd.ntmps43
  go_wp2_with (first | (refine wpList_load_row rfl 85 _ rfl 0 rfl t0 R fr0 _ hV Tryd.underlying85 rfl hsz ?_))
  go_loopw [6, 8] (fun _ v8 wr => ∃ z : Int, 0 ≤ z ∧ z ≤ 0 ∧ v8 = I z ∧ Hid (Below (w.alloc (.cells #[I 3, I 2] 74)).heap.size (w.alloc (.cells #[I 3, I 2] 74)) wr)) (fun _ v8 _ => (1 - intOf v8).toNat)
  case atStart => exact ⟨0, by omega, by omega, rfl, HI.out⟩
  case round =>
    clear HI hV
    obtain ⟨z, h0, h1, rfl, HJ⟩ := hrel
    obtain ⟨y0, y1⟩ := HB.out wr HJ.out
    have HK : Hid (∀ o, Below (w.alloc (.cells #[I 3, I 2] 74)).heap.size (w.alloc (.cells #[I 3, I 2] 74)) (wr.alloc o)) := fun o => HJ.out.trans ((below_alloc wr o).mono HJ.out.size)
    obtain ⟨n0, n1⟩ : wr.heap.size ≠ w.heap.size ∧ w.heap.size < wr.heap.size := by have h9 := HJ.out.size; simp at h9; omega
    have u0 : ∀ o, (wr.alloc o).cell? ⟨w.heap.size, 0, none⟩ = some (I 3) := fun o => (HB.out _ (HK.out o)).1
    have u1 : ∀ o, (wr.alloc o).cell? ⟨w.heap.size, 1, none⟩ = some (I 2) := fun o => (HB.out _ (HK.out o)).2
    clear HB
    rcases (by omega : z = 0) with rfl
    · go_wp2
      go_ret
      exact ⟨rfl, H0.out.trans ((HK.out _).mono H0.out.size)⟩
set_option maxHeartbeats 2000000 in
set_option maxRecDepth 100000 in
theorem allowed_20 (w : World) (hE : EnvR w) (x : Bool) : Calls Tryd.prog 43 #[.agg #[I 2, I 0], .bool x] w fun e w' => e = .returned (.bool true) ∧ Below w.heap.size w w' := by
  have hb := below_alloc w (.cells #[I 2, I 0] 74)
  obtain ⟨t0, fr0, hV⟩ := hE.up hb
  have hsz : (Tryd.prog.info? 85).map (·.size) = some rulC.size := by kernel_rfl
  have hi0 : ∀ w : World, (Instr.index 85 (.agg rulC) (I 0)).run Tryd.prog w = .ok (.agg #[I 3, I 2, .bool true]) w := ix_0
  have hi1 : ∀ w : World, (Instr.index 85 (.agg rulC) (I 1)).run Tryd.prog w = .ok (.agg #[I 2, I 0, .bool true]) w := ix_1
  have he0 : ∀ w : World, Sem.run Tryd.prog (Op.equalIn 10000 82 (Value.agg #[I 3, I 2]) (Value.agg #[I 2, I 0])) w = .ok false w := fun w => by kernel_rfl
  have he1 : ∀ w : World, Sem.run Tryd.prog (Op.equalIn 10000 82 (Value.agg #[I 2, I 0]) (Value.agg #[I 2, I 0])) w = .ok true w := fun w => by kernel_rfl
  generalize rulC = R at *
  have HB : Hid (∀ Z, Below (w.alloc (.cells #[I 2, I 0] 74)).heap.size (w.alloc (.cells #[I 2, I 0] 74)) Z → _) := fun Z => box_two w Z (I 2) (I 0) 74
  have H0 : Hid (Below w.heap.size w (w.alloc (.cells #[I 2, I 0] 74))) := hb
  have HI : Hid (Below (w.alloc (.cells #[I 2, I 0] 74)).heap.size (w.alloc (.cells #[I 2, I 0] 74)) (w.alloc (.cells #[I 2, I 0] 74))) := Below.refl _ _
  clear hb hE
  go_enter Tryd.func43, Tryd.ntmps43
  go_wp2_with (first | (refine wpList_load_row rfl 85 _ rfl 0 rfl t0 R fr0 _ hV Tryd.underlying85 rfl hsz ?_))
  go_loopw [6, 8] (fun _ v8 wr => ∃ z : Int, 0 ≤ z ∧ z ≤ 1 ∧ v8 = I z ∧ Hid (Below (w.alloc (.cells #[I 2, I 0] 74)).heap.size (w.alloc (.cells #[I 2, I 0] 74)) wr)) (fun _ v8 _ => (2 - intOf v8).toNat)
  case atStart => exact ⟨0, by omega, by omega, rfl, HI.out⟩
  case round =>
    clear HI hV
    obtain ⟨z, h0, h1, rfl, HJ⟩ := hrel
    obtain ⟨y0, y1⟩ := HB.out wr HJ.out
    have HK : Hid (∀ o, Below (w.alloc (.cells #[I 2, I 0] 74)).heap.size (w.alloc (.cells #[I 2, I 0] 74)) (wr.alloc o)) := fun o => HJ.out.trans ((below_alloc wr o).mono HJ.out.size)
    obtain ⟨n0, n1⟩ : wr.heap.size ≠ w.heap.size ∧ w.heap.size < wr.heap.size := by have h9 := HJ.out.size; simp at h9; omega
    have u0 : ∀ o, (wr.alloc o).cell? ⟨w.heap.size, 0, none⟩ = some (I 2) := fun o => (HB.out _ (HK.out o)).1
    have u1 : ∀ o, (wr.alloc o).cell? ⟨w.heap.size, 1, none⟩ = some (I 0) := fun o => (HB.out _ (HK.out o)).2
    clear HB
    rcases (by omega : z = 0 ∨ z = 1) with rfl | rfl
    · go_wp2
      go_roundw
      case rel => exact ⟨1, by omega, by omega, rfl, HK.out _⟩
      case measure => simp [intOf]
    · go_wp2
      go_ret
      exact ⟨rfl, H0.out.trans ((HK.out _).mono H0.out.size)⟩
set_option maxHeartbeats 2000000 in
set_option maxRecDepth 100000 in
theorem allowed_02 (w : World) (hE : EnvR w) (x : Bool) : Calls Tryd.prog 43 #[.agg #[I 0, I 2], .bool x] w fun e w' => e = .returned (.bool true) ∧ Below w.heap.size w w' := by
  have hb := below_alloc w (.cells #[I 0, I 2] 74)
  obtain ⟨t0, fr0, hV⟩ := hE.up hb
  have hsz : (Tryd.prog.info? 85).map (·.size) = some rulC.size := by kernel_rfl
  have hi0 : ∀ w : World, (Instr.index 85 (.agg rulC) (I 0)).run Tryd.prog w = .ok (.agg #[I 3, I 2, .bool true]) w := ix_0
  have hi1 : ∀ w : World, (Instr.index 85 (.agg rulC) (I 1)).run Tryd.prog w = .ok (.agg #[I 2, I 0, .bool true]) w := ix_1
  have hi2 : ∀ w : World, (Instr.index 85 (.agg rulC) (I 2)).run Tryd.prog w = .ok (.agg #[I 0, I 2, .bool true]) w := ix_2
  have he0 : ∀ w : World, Sem.run Tryd.prog (Op.equalIn 10000 82 (Value.agg #[I 3, I 2]) (Value.agg #[I 0, I 2])) w = .ok false w := fun w => by kernel_rfl
  have he1 : ∀ w : World, Sem.run Tryd.prog (Op.equalIn 10000 82 (Value.agg #[I 2, I 0]) (Value.agg #[I 0, I 2])) w = .ok false w := fun w => by kernel_rfl
  have he2 : ∀ w : World, Sem.run Tryd.prog (Op.equalIn 10000 82 (Value.agg #[I 0, I 2]) (Value.agg #[I 0, I 2])) w = .ok true w := fun w => by kernel_rfl
  generalize rulC = R at *
  have HB : Hid (∀ Z, Below (w.alloc (.cells #[I 0, I 2] 74)).heap.size (w.alloc (.cells #[I 0, I 2] 74)) Z → _) := fun Z => box_two w Z (I 0) (I 2) 74
  have H0 : Hid (Below w.heap.size w (w.alloc (.cells #[I 0, I 2] 74))) := hb
  have HI : Hid (Below (w.alloc (.cells #[I 0, I 2] 74)).heap.size (w.alloc (.cells #[I 0, I 2] 74)) (w.alloc (.cells #[I 0, I 2] 74))) := Below.refl _ _
  clear hb hE
  go_enter Tryd.func43, Tryd.ntmps43
  go_wp2_with (first | (refine wpList_load_row rfl 85 _ rfl 0 rfl t0 R fr0 _ hV Tryd.underlying85 rfl hsz ?_))
  go_loopw [6, 8] (fun _ v8 wr => ∃ z : Int, 0 ≤ z ∧ z ≤ 2 ∧ v8 = I z ∧ Hid (Below (w.alloc (.cells #[I 0, I 2] 74)).heap.size (w.alloc (.cells #[I 0, I 2] 74)) wr)) (fun _ v8 _ => (3 - intOf v8).toNat)
  case atStart => exact ⟨0, by omega, by omega, rfl, HI.out⟩
  case round =>
    clear HI hV
    obtain ⟨z, h0, h1, rfl, HJ⟩ := hrel
    obtain ⟨y0, y1⟩ := HB.out wr HJ.out
    have HK : Hid (∀ o, Below (w.alloc (.cells #[I 0, I 2] 74)).heap.size (w.alloc (.cells #[I 0, I 2] 74)) (wr.alloc o)) := fun o => HJ.out.trans ((below_alloc wr o).mono HJ.out.size)
    obtain ⟨n0, n1⟩ : wr.heap.size ≠ w.heap.size ∧ w.heap.size < wr.heap.size := by have h9 := HJ.out.size; simp at h9; omega
    have u0 : ∀ o, (wr.alloc o).cell? ⟨w.heap.size, 0, none⟩ = some (I 0) := fun o => (HB.out _ (HK.out o)).1
    have u1 : ∀ o, (wr.alloc o).cell? ⟨w.heap.size, 1, none⟩ = some (I 2) := fun o => (HB.out _ (HK.out o)).2
    clear HB
    rcases (by omega : z = 0 ∨ z = 1 ∨ z = 2) with rfl | rfl | rfl
    · go_wp2
      go_roundw
      case rel => exact ⟨1, by omega, by omega, rfl, HK.out _⟩
      case measure => simp [intOf]
    · go_wp2
      go_roundw
      case rel => exact ⟨2, by omega, by omega, rfl, HK.out _⟩
      case measure => simp [intOf]
    · go_wp2
      go_ret
      exact ⟨rfl, H0.out.trans ((HK.out _).mono H0.out.size)⟩
set_option maxHeartbeats 2000000 in
set_option maxRecDepth 100000 in
theorem allowed_03 (w : World) (hE : EnvR w) (x : Bool) : Calls Tryd.prog 43 #[.agg #[I 0, I 3], .bool x] w fun e w' => e = .returned (.bool true) ∧ Below w.heap.size w w' := by
  have hb := below_alloc w (.cells #[I 0, I 3] 74)
  obtain ⟨t0, fr0, hV⟩ := hE.up hb
  have hsz : (Tryd.prog.info? 85).map (·.size) = some rulC.size := by kernel_rfl
  have hi0 : ∀ w : World, (Instr.index 85 (.agg rulC) (I 0)).run Tryd.prog w = .ok (.agg #[I 3, I 2, .bool true]) w := ix_0
  have hi1 : ∀ w : World, (Instr.index 85 (.agg rulC) (I 1)).run Tryd.prog w = .ok (.agg #[I 2, I 0, .bool true]) w := ix_1
  have hi2 : ∀ w : World, (Instr.index 85 (.agg rulC) (I 2)).run Tryd.prog w = .ok (.agg #[I 0, I 2, .bool true]) w := ix_2
  have hi3 : ∀ w : World, (Instr.index 85 (.agg rulC) (I 3)).run Tryd.prog w = .ok (.agg #[I 0, I 3, .bool true]) w := ix_3
  have he0 : ∀ w : World, Sem.run Tryd.prog (Op.equalIn 10000 82 (Value.agg #[I 3, I 2]) (Value.agg #[I 0, I 3])) w = .ok false w := fun w => by kernel_rfl
  have he1 : ∀ w : World, Sem.run Tryd.prog (Op.equalIn 10000 82 (Value.agg #[I 2, I 0]) (Value.agg #[I 0, I 3])) w = .ok false w := fun w => by kernel_rfl
  have he2 : ∀ w : World, Sem.run Tryd.prog (Op.equalIn 10000 82 (Value.agg #[I 0, I 2]) (Value.agg #[I 0, I 3])) w = .ok false w := fun w => by kernel_rfl
  have he3 : ∀ w : World, Sem.run Tryd.prog (Op.equalIn 10000 82 (Value.agg #[I 0, I 3]) (Value.agg #[I 0, I 3])) w = .ok true w := fun w => by kernel_rfl
  generalize rulC = R at *
  have HB : Hid (∀ Z, Below (w.alloc (.cells #[I 0, I 3] 74)).heap.size (w.alloc (.cells #[I 0, I 3] 74)) Z → _) := fun Z => box_two w Z (I 0) (I 3) 74
  have H0 : Hid (Below w.heap.size w (w.alloc (.cells #[I 0, I 3] 74))) := hb
  have HI : Hid (Below (w.alloc (.cells #[I 0, I 3] 74)).heap.size (w.alloc (.cells #[I 0, I 3] 74)) (w.alloc (.cells #[I 0, I 3] 74))) := Below.refl _ _
  clear hb hE
  go_enter Tryd.func43, Tryd.ntmps43
  go_wp2_with (first | (refine wpList_load_row rfl 85 _ rfl 0 rfl t0 R fr0 _ hV Tryd.underlying85 rfl hsz ?_))
  go_loopw [6, 8] (fun _ v8 wr => ∃ z : Int, 0 ≤ z ∧ z ≤ 3 ∧ v8 = I z ∧ Hid (Below (w.alloc (.cells #[I 0, I 3] 74)).heap.size (w.alloc (.cells #[I 0, I 3] 74)) wr)) (fun _ v8 _ => (4 - intOf v8).toNat)
  case atStart => exact ⟨0, by omega, by omega, rfl, HI.out⟩
  case round =>
    clear HI hV
    obtain ⟨z, h0, h1, rfl, HJ⟩ := hrel
    obtain ⟨y0, y1⟩ := HB.out wr HJ.out
    have HK : Hid (∀ o, Below (w.alloc (.cells #[I 0, I 3] 74)).heap.size (w.alloc (.cells #[I 0, I 3] 74)) (wr.alloc o)) := fun o => HJ.out.trans ((below_alloc wr o).mono HJ.out.size)
    obtain ⟨n0, n1⟩ : wr.heap.size ≠ w.heap.size ∧ w.heap.size < wr.heap.size := by have h9 := HJ.out.size; simp at h9; omega
    have u0 : ∀ o, (wr.alloc o).cell? ⟨w.heap.size, 0, none⟩ = some (I 0) := fun o => (HB.out _ (HK.out o)).1
    have u1 : ∀ o, (wr.alloc o).cell? ⟨w.heap.size, 1, none⟩ = some (I 3) := fun o => (HB.out _ (HK.out o)).2
    clear HB
    rcases (by omega : z = 0 ∨ z = 1 ∨ z = 2 ∨ z = 3) with rfl | rfl | rfl | rfl
    · go_wp2
      go_roundw
      case rel => exact ⟨1, by omega, by omega, rfl, HK.out _⟩
      case measure => simp [intOf]
    · go_wp2
      go_roundw
      case rel => exact ⟨2, by omega, by omega, rfl, HK.out _⟩
      case measure => simp [intOf]
    · go_wp2
      go_roundw
      case rel => exact ⟨3, by omega, by omega, rfl, HK.out _⟩
      case measure => simp [intOf]
    · go_wp2
      go_ret
      exact ⟨rfl, H0.out.trans ((HK.out _).mono H0.out.size)⟩
set_option maxHeartbeats 2000000 in
set_option maxRecDepth 100000 in
theorem allowed_01 (w : World) (hE : EnvR w) (x : Bool) : Calls Tryd.prog 43 #[.agg #[I 0, I 1], .bool x] w fun e w' => e = .returned (.bool x) ∧ Below w.heap.size w w' := by
  have hb := below_alloc w (.cells #[I 0, I 1] 74)
  obtain ⟨t0, fr0, hV⟩ := hE.up hb
  have hsz : (Tryd.prog.info? 85).map (·.size) = some rulC.size := by kernel_rfl
  have hi0 : ∀ w : World, (Instr.index 85 (.agg rulC) (I 0)).run Tryd.prog w = .ok (.agg #[I 3, I 2, .bool true]) w := ix_0
  have hi1 : ∀ w : World, (Instr.index 85 (.agg rulC) (I 1)).run Tryd.prog w = .ok (.agg #[I 2, I 0, .bool true]) w := ix_1
  have hi2 : ∀ w : World, (Instr.index 85 (.agg rulC) (I 2)).run Tryd.prog w = .ok (.agg #[I 0, I 2, .bool true]) w := ix_2
  have hi3 : ∀ w : World, (Instr.index 85 (.agg rulC) (I 3)).run Tryd.prog w = .ok (.agg #[I 0, I 3, .bool true]) w := ix_3
  have hi4 : ∀ w : World, (Instr.index 85 (.agg rulC) (I 4)).run Tryd.prog w = .ok (.agg #[I 0, I 1, .bool false]) w := ix_4
  have he0 : ∀ w : World, Sem.run Tryd.prog (Op.equalIn 10000 82 (Value.agg #[I 3, I 2]) (Value.agg #[I 0, I 1])) w = .ok false w := fun w => by kernel_rfl
  have he1 : ∀ w : World, Sem.run Tryd.prog (Op.equalIn 10000 82 (Value.agg #[I 2, I 0]) (Value.agg #[I 0, I 1])) w = .ok false w := fun w => by kernel_rfl
  have he2 : ∀ w : World, Sem.run Tryd.prog (Op.equalIn 10000 82 (Value.agg #[I 0, I 2]) (Value.agg #[I 0, I 1])) w = .ok false w := fun w => by kernel_rfl
  have he3 : ∀ w : World, Sem.run Tryd.prog (Op.equalIn 10000 82 (Value.agg #[I 0, I 3]) (Value.agg #[I 0, I 1])) w = .ok false w := fun w => by kernel_rfl
  have he4 : ∀ w : World, Sem.run Tryd.prog (Op.equalIn 10000 82 (Value.agg #[I 0, I 1]) (Value.agg #[I 0, I 1])) w = .ok true w := fun w => by kernel_rfl
  generalize rulC = R at *
  have HB : Hid (∀ Z, Below (w.alloc (.cells #[I 0, I 1] 74)).heap.size (w.alloc (.cells #[I 0, I 1] 74)) Z → _) := fun Z => box_two w Z (I 0) (I 1) 74
  have H0 : Hid (Below w.heap.size w (w.alloc (.cells #[I 0, I 1] 74))) := hb
  have HI : Hid (Below (w.alloc (.cells #[I 0, I 1] 74)).heap.size (w.alloc (.cells #[I 0, I 1] 74)) (w.alloc (.cells #[I 0, I 1] 74))) := Below.refl _ _
  clear hb hE
  go_enter Tryd.func43, Tryd.ntmps43
  go_wp2_with (first | (refine wpList_load_row rfl 85 _ rfl 0 rfl t0 R fr0 _ hV Tryd.underlying85 rfl hsz ?_))
  go_loopw [6, 8] (fun _ v8 wr => ∃ z : Int, 0 ≤ z ∧ z ≤ 4 ∧ v8 = I z ∧ Hid (Below (w.alloc (.cells #[I 0, I 1] 74)).heap.size (w.alloc (.cells #[I 0, I 1] 74)) wr)) (fun _ v8 _ => (5 - intOf v8).toNat)
  case atStart => exact ⟨0, by omega, by omega, rfl, HI.out⟩
  case round =>
    clear HI hV
    obtain ⟨z, h0, h1, rfl, HJ⟩ := hrel
    obtain ⟨y0, y1⟩ := HB.out wr HJ.out
    have HK : Hid (∀ o, Below (w.alloc (.cells #[I 0, I 1] 74)).heap.size (w.alloc (.cells #[I 0, I 1] 74)) (wr.alloc o)) := fun o => HJ.out.trans ((below_alloc wr o).mono HJ.out.size)
    obtain ⟨n0, n1⟩ : wr.heap.size ≠ w.heap.size ∧ w.heap.size < wr.heap.size := by have h9 := HJ.out.size; simp at h9; omega
    have u0 : ∀ o, (wr.alloc o).cell? ⟨w.heap.size, 0, none⟩ = some (I 0) := fun o => (HB.out _ (HK.out o)).1
    have u1 : ∀ o, (wr.alloc o).cell? ⟨w.heap.size, 1, none⟩ = some (I 1) := fun o => (HB.out _ (HK.out o)).2
    clear HB
    rcases (by omega : z = 0 ∨ z = 1 ∨ z = 2 ∨ z = 3 ∨ z = 4) with rfl | rfl | rfl | rfl | rfl
    · go_wp2
      go_roundw
      case rel => exact ⟨1, by omega, by omega, rfl, HK.out _⟩
      case measure => simp [intOf]
    · go_wp2
      go_roundw
      case rel => exact ⟨2, by omega, by omega, rfl, HK.out _⟩
      case measure => simp [intOf]
    · go_wp2
      go_roundw
      case rel => exact ⟨3, by omega, by omega, rfl, HK.out _⟩
      case measure => simp [intOf]
    · go_wp2
      go_roundw
      case rel => exact ⟨4, by omega, by omega, rfl, HK.out _⟩
      case measure => simp [intOf]
    · cases x with
      | false =>
        go_wp2
        go_ret
        exact ⟨rfl, H0.out.trans ((HK.out _).mono H0.out.size)⟩
      | true =>
        go_wp2
        go_ret
        exact ⟨rfl, H0.out.trans ((HK.out _).mono H0.out.size)⟩
set_option maxHeartbeats 2000000 in
set_option maxRecDepth 100000 in
theorem allowed_12 (w : World) (hE : EnvR w) (x : Bool) : Calls Tryd.prog 43 #[.agg #[I 1, I 2], .bool x] w fun e w' => e = .returned (.bool x) ∧ Below w.heap.size w w' := by
  have hb := below_alloc w (.cells #[I 1, I 2] 74)
  obtain ⟨t0, fr0, hV⟩ := hE.up hb
  have hsz : (Tryd.prog.info? 85).map (·.size) = some rulC.size := by kernel_rfl
  have hi0 : ∀ w : World, (Instr.index 85 (.agg rulC) (I 0)).run Tryd.prog w = .ok (.agg #[I 3, I 2, .bool true]) w := ix_0
  have hi1 : ∀ w : World, (Instr.index 85 (.agg rulC) (I 1)).run Tryd.prog w = .ok (.agg #[I 2, I 0, .bool true]) w := ix_1
  have hi2 : ∀ w : World, (Instr.index 85 (.agg rulC) (I 2)).run Tryd.prog w = .ok (.agg #[I 0, I 2, .bool true]) w := ix_2
  have hi3 : ∀ w : World, (Instr.index 85 (.agg rulC) (I 3)).run Tryd.prog w = .ok (.agg #[I 0, I 3, .bool true]) w := ix_3
  have hi4 : ∀ w : World, (Instr.index 85 (.agg rulC) (I 4)).run Tryd.prog w = .ok (.agg #[I 0, I 1, .bool false]) w := ix_4
  have hi5 : ∀ w : World, (Instr.index 85 (.agg rulC) (I 5)).run Tryd.prog w = .ok (.agg #[I 1, I 2, .bool false]) w := ix_5
  have he0 : ∀ w : World, Sem.run Tryd.prog (Op.equalIn 10000 82 (Value.agg #[I 3, I 2]) (Value.agg #[I 1, I 2])) w = .ok false w := fun w => by kernel_rfl
  have he1 : ∀ w : World, Sem.run Tryd.prog (Op.equalIn 10000 82 (Value.agg #[I 2, I 0]) (Value.agg #[I 1, I 2])) w = .ok false w := fun w => by kernel_rfl
  have he2 : ∀ w : World, Sem.run Tryd.prog (Op.equalIn 10000 82 (Value.agg #[I 0, I 2]) (Value.agg #[I 1, I 2])) w = .ok false w := fun w => by kernel_rfl
  have he3 : ∀ w : World, Sem.run Tryd.prog (Op.equalIn 10000 82 (Value.agg #[I 0, I 3]) (Value.agg #[I 1, I 2])) w = .ok false w := fun w => by kernel_rfl
  have he4 : ∀ w : World, Sem.run Tryd.prog (Op.equalIn 10000 82 (Value.agg #[I 0, I 1]) (Value.agg #[I 1, I 2])) w = .ok false w := fun w => by kernel_rfl
  have he5 : ∀ w : World, Sem.run Tryd.prog (Op.equalIn 10000 82 (Value.agg #[I 1, I 2]) (Value.agg #[I 1, I 2])) w = .ok true w := fun w => by kernel_rfl
  generalize rulC = R at *
  have HB : Hid (∀ Z, Below (w.alloc (.cells #[I 1, I 2] 74)).heap.size (w.alloc (.cells #[I 1, I 2] 74)) Z → _) := fun Z => box_two w Z (I 1) (I 2) 74
  have H0 : Hid (Below w.heap.size w (w.alloc (.cells #[I 1, I 2] 74))) := hb
  have HI : Hid (Below (w.alloc (.cells #[I 1, I 2] 74)).heap.size (w.alloc (.cells #[I 1, I 2] 74)) (w.alloc (.cells #[I 1, I 2] 74))) := Below.refl _ _
  clear hb hE
  go_enter Tryd.func43, Tryd.ntmps43
  go_wp2_with (first | (refine wpList_load_row rfl 85 _ rfl 0 rfl t0 R fr0 _ hV Tryd.underlying85 rfl hsz ?_))
  go_loopw [6, 8] (fun _ v8 wr => ∃ z : Int, 0 ≤ z ∧ z ≤ 5 ∧ v8 = I z ∧ Hid (Below (w.alloc (.cells #[I 1, I 2] 74)).heap.size (w.alloc (.cells #[I 1, I 2] 74)) wr)) (fun _ v8 _ => (6 - intOf v8).toNat)
  case atStart => exact ⟨0, by omega, by omega, rfl, HI.out⟩
  case round =>
    clear HI hV
    obtain ⟨z, h0, h1, rfl, HJ⟩ := hrel
    obtain ⟨y0, y1⟩ := HB.out wr HJ.out
    have HK : Hid (∀ o, Below (w.alloc (.cells #[I 1, I 2] 74)).heap.size (w.alloc (.cells #[I 1, I 2] 74)) (wr.alloc o)) := fun o => HJ.out.trans ((below_alloc wr o).mono HJ.out.size)
    obtain ⟨n0, n1⟩ : wr.heap.size ≠ w.heap.size ∧ w.heap.size < wr.heap.size := by have h9 := HJ.out.size; simp at h9; omega
    have u0 : ∀ o, (wr.alloc o).cell? ⟨w.heap.size, 0, none⟩ = some (I 1) := fun o => (HB.out _ (HK.out o)).1
    have u1 : ∀ o, (wr.alloc o).cell? ⟨w.heap.size, 1, none⟩ = some (I 2) := fun o => (HB.out _ (HK.out o)).2
    clear HB
    rcases (by omega : z = 0 ∨ z = 1 ∨ z = 2 ∨ z = 3 ∨ z = 4 ∨ z = 5) with rfl | rfl | rfl | rfl | rfl | rfl
    · go_wp2
      go_roundw
      case rel => exact ⟨1, by omega, by omega, rfl, HK.out _⟩
      case measure => simp [intOf]
    · go_wp2
      go_roundw
      case rel => exact ⟨2, by omega, by omega, rfl, HK.out _⟩
      case measure => simp [intOf]
    · go_wp2
      go_roundw
      case rel => exact ⟨3, by omega, by omega, rfl, HK.out _⟩
      case measure => simp [intOf]
    · go_wp2
      go_roundw
      case rel => exact ⟨4, by omega, by omega, rfl, HK.out _⟩
      case measure => simp [intOf]
    · go_wp2
      go_roundw
      case rel => exact ⟨5, by omega, by omega, rfl, HK.out _⟩
      case measure => simp [intOf]
    · cases x with
      | false =>
        go_wp2
        go_ret
        exact ⟨rfl, H0.out.trans ((HK.out _).mono H0.out.size)⟩
      | true =>
        go_wp2
        go_ret
        exact ⟨rfl, H0.out.trans ((HK.out _).mono H0.out.size)⟩
end Go.Proofs.YthmecgfbapemjaaDoor
