import Derived.Test.YtmllocfeflhjoaaGreatXQdb
namespace Go.Proofs.YtmllocfeflhjoaaGreat
open Go.RowKit Go.Maps Go.Shelf Go.Sort
open Go.Proofs.YtmllocfeflhjoaaGreat.St (Fx Fz iQ iP iV)
set_option linter.unusedVariables false
set_option linter.unusedSimpArgs false

/-! ### heads -/
def twoT : Tb := ⟨0, 1, [⟨1, 1, false, 1, 0, -1, [0, 1], 0⟩, ⟨3, 0, false, 1, 0, -1, [0], 0⟩], [⟨3, 1⟩, ⟨1, 1⟩], [⟨false, 3⟩, ⟨false, 1⟩], [], [], [], [], 2, 4, 2, 0⟩
theorem two_chk : chkP twoT = true := by decide
theorem two_wf : WfT twoT := ⟨by simp [twoT], by simp [twoT], by simp [twoT], by simp [twoT]⟩
theorem rows_lit {α : Type} {w : World} {k g : Nat} {P : α → Nat → Value → Prop} {cs : Array Value} {t : TypeId} {l : List α} (h : w.heap[g]? = some (.cells cs t)) (hl : l.length ≤ 1000) (hr : ∀ j x, l[j]? = some x → ∀ i, i < k → ∃ u, cs[j * k + i]? = some u ∧ P x i u) : RowsAt w k P ⟨some ⟨g, 0, none⟩, l.length, l.length⟩ l := by
  refine ⟨rfl, Nat.le_refl _, by unfold maxLen; show l.length ≤ _; omega, fun j x hj => ⟨g, 0, rfl, heap_lt h, fun i hi => ?_⟩⟩
  obtain ⟨u, h1, h2⟩ := hr j x hj i hi
  exact ⟨u, by rw [cell_of_row w g _ _ _ (0, 0) h, Nat.zero_add]; exact h1, h2⟩
theorem rows_nil {α : Type} (w : World) (k : Nat) (P : α → Nat → Value → Prop) : RowsAt w k P ⟨none, 0, 0⟩ [] := ⟨rfl, Nat.le_refl _, Nat.zero_le _, fun j x hj => by cases hj⟩
theorem res13 {fn : Func} {n : Nat} (hf : fn.results = #[.cell n 42]) (tmps : Array Value) (b : Nat) (w : World) (v0 v1 v2 v3 v4 v5 v6 v7 v8 v9 v10 v11 v12 : Value)
    (h2 : tmps[n]? = some (.pointer (some ⟨b, 0, none⟩))) (hk : w.heap[b]? = some (.cells #[v0, v1, v2, v3, v4, v5, v6, v7, v8, v9, v10, v11, v12] 42 (0, 0))) : (results fn tmps).run Tryz.prog w = .ok (.agg #[v0, v1, v2, v3, v4, v5, v6, v7, v8, v9, v10, v11, v12]) w := by
  have a1 := fun i => cell_of_row w b i _ _ (0, 0) hk
  have z0 := a1 0; have z1 := a1 1; have z2 := a1 2; have z3 := a1 3; have z4 := a1 4; have z5 := a1 5; have z6 := a1 6; have z7 := a1 7; have z8 := a1 8; have z9 := a1 9; have z10 := a1 10; have z11 := a1 11; have z12 := a1 12
  simp at z0 z1 z2 z3 z4 z5 z6 z7 z8 z9 z10 z11 z12
  simp [results, hf, go_sem, h2, z0, z1, z2, z3, z4, z5, z6, z7, z8, z9, z10, z11, z12]
def twoV (X : Nat) : Ts := ⟨⟨some ⟨X + 1 + 1 + 1, 0, none⟩, 2, 2⟩, ⟨some ⟨X + 1 + 1 + 1 + 1, 0, none⟩, 2, 2⟩, ⟨some ⟨X + 1 + 1 + 1 + 1 + 1, 0, none⟩, 2, 2⟩, ⟨none, 0, 0⟩, ⟨none, 0, 0⟩, ⟨none, 0, 0⟩, ⟨none, 0, 0⟩⟩
theorem two_at {w : World} {X : Nat} (h1 : w.heap[X + 1]? = some (.cells #[I 0, I 1] 3)) (h2 : w.heap[X + 1 + 1]? = some (.cells #[I 0] 3))
    (h3 : w.heap[X + 1 + 1 + 1]? = some (.cells #[I 1, I 1, .bool false, I 1, .int .u32 0, I (-1), .slice (some ⟨X + 1, 0, none⟩) 2 2, .int .u32 0, I 3, I 0, .bool false, I 1, .int .u32 0, I (-1), .slice (some ⟨X + 1 + 1, 0, none⟩) 1 1, .int .u32 0] 114))
    (h4 : w.heap[X + 1 + 1 + 1 + 1]? = some (.cells #[I 3, I 1, I 1, I 1] 116)) (h5 : w.heap[X + 1 + 1 + 1 + 1 + 1]? = some (.cells #[.bool false, I 3, .bool false, I 1] 76)) : TbAt w twoT (twoV X) := by
  have r1 : IntsV w [0, 1] (.slice (some ⟨X + 1, 0, none⟩) 2 2) := ⟨⟨some ⟨X + 1, 0, none⟩, 2, 2⟩, rfl, rows_lit (k := 1) (P := intP) (l := ([0, 1] : List Int)) h1 (by decide) (fun j x hj i hi => by
    have : i = 0 := by omega
    subst this
    match j, hj with
    | 0, hj => cases hj; exact ⟨_, rfl, rfl⟩
    | 1, hj => cases hj; exact ⟨_, rfl, rfl⟩)⟩
  have r2 : IntsV w [0] (.slice (some ⟨X + 1 + 1, 0, none⟩) 1 1) := ⟨⟨some ⟨X + 1 + 1, 0, none⟩, 1, 1⟩, rfl, rows_lit (k := 1) (P := intP) (l := ([0] : List Int)) h2 (by decide) (fun j x hj i hi => by
    have : i = 0 := by omega
    subst this
    match j, hj with
    | 0, hj => cases hj; exact ⟨_, rfl, rfl⟩)⟩
  refine ⟨rows_lit (l := twoT.tasks) h3 (by decide) (fun j x hj i hi => ?_), rows_lit (l := twoT.rings) h4 (by decide) (fun j x hj i hi => ?_), rows_lit (l := twoT.ress) h5 (by decide) (fun j x hj i hi => ?_), rows_nil _ _ _, rows_nil _ _ _, rows_nil _ _ _, rows_nil _ _ _⟩
  · match j, hj with
    | 0, hj => cases hj; match i, hi with
      | 0, _ => exact ⟨_, rfl, rfl⟩
      | 1, _ => exact ⟨_, rfl, rfl⟩
      | 2, _ => exact ⟨_, rfl, rfl⟩
      | 3, _ => exact ⟨_, rfl, rfl⟩
      | 4, _ => exact ⟨_, rfl, rfl⟩
      | 5, _ => exact ⟨_, rfl, rfl⟩
      | 6, _ => exact ⟨_, rfl, r1⟩
      | 7, _ => exact ⟨_, rfl, rfl⟩
    | 1, hj => cases hj; match i, hi with
      | 0, _ => exact ⟨_, rfl, rfl⟩
      | 1, _ => exact ⟨_, rfl, rfl⟩
      | 2, _ => exact ⟨_, rfl, rfl⟩
      | 3, _ => exact ⟨_, rfl, rfl⟩
      | 4, _ => exact ⟨_, rfl, rfl⟩
      | 5, _ => exact ⟨_, rfl, rfl⟩
      | 6, _ => exact ⟨_, rfl, r2⟩
      | 7, _ => exact ⟨_, rfl, rfl⟩
  · match j, hj with
    | 0, hj => cases hj; match i, hi with
      | 0, _ => exact ⟨_, rfl, rfl⟩
      | 1, _ => exact ⟨_, rfl, rfl⟩
    | 1, hj => cases hj; match i, hi with
      | 0, _ => exact ⟨_, rfl, rfl⟩
      | 1, _ => exact ⟨_, rfl, rfl⟩
  · match j, hj with
    | 0, hj => cases hj; match i, hi with
      | 0, _ => exact ⟨_, rfl, rfl⟩
      | 1, _ => exact ⟨_, rfl, rfl⟩
    | 1, hj => cases hj; match i, hi with
      | 0, _ => exact ⟨_, rfl, rfl⟩
      | 1, _ => exact ⟨_, rfl, rfl⟩
set_option maxRecDepth 100000 in
set_option maxHeartbeats 4000000 in
theorem Two_any (w : World) : Calls Tryz.prog 30 #[] w fun e w' => ∃ v, e = .returned (.agg (tbC twoT v)) ∧ TbAt w' twoT v ∧ Below w.heap.size w w' := by
  have g0 : (w.alloc (.cells #[I 0, I 1, .slice (some ⟨w.heap.size + 1 + 1 + 1, 0, none⟩) 2 2, .slice (some ⟨w.heap.size + 1 + 1 + 1 + 1, 0, none⟩) 2 2, .slice (some ⟨w.heap.size + 1 + 1 + 1 + 1 + 1, 0, none⟩) 2 2, .slice none 0 0, .slice none 0 0, .slice none 0 0, .slice none 0 0, I 2, I 4, I 2, I 0] 42)).heap[w.heap.size]? = some (.cells #[I 0, I 1, .slice (some ⟨w.heap.size + 1 + 1 + 1, 0, none⟩) 2 2, .slice (some ⟨w.heap.size + 1 + 1 + 1 + 1, 0, none⟩) 2 2, .slice (some ⟨w.heap.size + 1 + 1 + 1 + 1 + 1, 0, none⟩) 2 2, .slice none 0 0, .slice none 0 0, .slice none 0 0, .slice none 0 0, I 2, I 4, I 2, I 0] 42) := by have := heap_alloc_new w (.cells #[I 0, I 1, .slice (some ⟨w.heap.size + 1 + 1 + 1, 0, none⟩) 2 2, .slice (some ⟨w.heap.size + 1 + 1 + 1 + 1, 0, none⟩) 2 2, .slice (some ⟨w.heap.size + 1 + 1 + 1 + 1 + 1, 0, none⟩) 2 2, .slice none 0 0, .slice none 0 0, .slice none 0 0, .slice none 0 0, I 2, I 4, I 2, I 0] 42); simpa only [World.size_alloc] using this
  have g1 : ((w.alloc (.cells #[I 0, I 1, .slice (some ⟨w.heap.size + 1 + 1 + 1, 0, none⟩) 2 2, .slice (some ⟨w.heap.size + 1 + 1 + 1 + 1, 0, none⟩) 2 2, .slice (some ⟨w.heap.size + 1 + 1 + 1 + 1 + 1, 0, none⟩) 2 2, .slice none 0 0, .slice none 0 0, .slice none 0 0, .slice none 0 0, I 2, I 4, I 2, I 0] 42)).alloc (.cells #[I 0, I 1] 3)).heap[w.heap.size + 1]? = some (.cells #[I 0, I 1] 3) := by have := heap_alloc_new (w.alloc (.cells #[I 0, I 1, .slice (some ⟨w.heap.size + 1 + 1 + 1, 0, none⟩) 2 2, .slice (some ⟨w.heap.size + 1 + 1 + 1 + 1, 0, none⟩) 2 2, .slice (some ⟨w.heap.size + 1 + 1 + 1 + 1 + 1, 0, none⟩) 2 2, .slice none 0 0, .slice none 0 0, .slice none 0 0, .slice none 0 0, I 2, I 4, I 2, I 0] 42)) (.cells #[I 0, I 1] 3); simpa only [World.size_alloc] using this
  have g2 : (((w.alloc (.cells #[I 0, I 1, .slice (some ⟨w.heap.size + 1 + 1 + 1, 0, none⟩) 2 2, .slice (some ⟨w.heap.size + 1 + 1 + 1 + 1, 0, none⟩) 2 2, .slice (some ⟨w.heap.size + 1 + 1 + 1 + 1 + 1, 0, none⟩) 2 2, .slice none 0 0, .slice none 0 0, .slice none 0 0, .slice none 0 0, I 2, I 4, I 2, I 0] 42)).alloc (.cells #[I 0, I 1] 3)).alloc (.cells #[I 0] 3)).heap[w.heap.size + 1 + 1]? = some (.cells #[I 0] 3) := by have := heap_alloc_new ((w.alloc (.cells #[I 0, I 1, .slice (some ⟨w.heap.size + 1 + 1 + 1, 0, none⟩) 2 2, .slice (some ⟨w.heap.size + 1 + 1 + 1 + 1, 0, none⟩) 2 2, .slice (some ⟨w.heap.size + 1 + 1 + 1 + 1 + 1, 0, none⟩) 2 2, .slice none 0 0, .slice none 0 0, .slice none 0 0, .slice none 0 0, I 2, I 4, I 2, I 0] 42)).alloc (.cells #[I 0, I 1] 3)) (.cells #[I 0] 3); simpa only [World.size_alloc] using this
  have g3 : ((((w.alloc (.cells #[I 0, I 1, .slice (some ⟨w.heap.size + 1 + 1 + 1, 0, none⟩) 2 2, .slice (some ⟨w.heap.size + 1 + 1 + 1 + 1, 0, none⟩) 2 2, .slice (some ⟨w.heap.size + 1 + 1 + 1 + 1 + 1, 0, none⟩) 2 2, .slice none 0 0, .slice none 0 0, .slice none 0 0, .slice none 0 0, I 2, I 4, I 2, I 0] 42)).alloc (.cells #[I 0, I 1] 3)).alloc (.cells #[I 0] 3)).alloc (.cells #[I 1, I 1, .bool false, I 1, .int .u32 0, I (-1), .slice (some ⟨w.heap.size + 1, 0, none⟩) 2 2, .int .u32 0, I 3, I 0, .bool false, I 1, .int .u32 0, I (-1), .slice (some ⟨w.heap.size + 1 + 1, 0, none⟩) 1 1, .int .u32 0] 114)).heap[w.heap.size + 1 + 1 + 1]? = some (.cells #[I 1, I 1, .bool false, I 1, .int .u32 0, I (-1), .slice (some ⟨w.heap.size + 1, 0, none⟩) 2 2, .int .u32 0, I 3, I 0, .bool false, I 1, .int .u32 0, I (-1), .slice (some ⟨w.heap.size + 1 + 1, 0, none⟩) 1 1, .int .u32 0] 114) := by have := heap_alloc_new (((w.alloc (.cells #[I 0, I 1, .slice (some ⟨w.heap.size + 1 + 1 + 1, 0, none⟩) 2 2, .slice (some ⟨w.heap.size + 1 + 1 + 1 + 1, 0, none⟩) 2 2, .slice (some ⟨w.heap.size + 1 + 1 + 1 + 1 + 1, 0, none⟩) 2 2, .slice none 0 0, .slice none 0 0, .slice none 0 0, .slice none 0 0, I 2, I 4, I 2, I 0] 42)).alloc (.cells #[I 0, I 1] 3)).alloc (.cells #[I 0] 3)) (.cells #[I 1, I 1, .bool false, I 1, .int .u32 0, I (-1), .slice (some ⟨w.heap.size + 1, 0, none⟩) 2 2, .int .u32 0, I 3, I 0, .bool false, I 1, .int .u32 0, I (-1), .slice (some ⟨w.heap.size + 1 + 1, 0, none⟩) 1 1, .int .u32 0] 114); simpa only [World.size_alloc] using this
  have g4 : (((((w.alloc (.cells #[I 0, I 1, .slice (some ⟨w.heap.size + 1 + 1 + 1, 0, none⟩) 2 2, .slice (some ⟨w.heap.size + 1 + 1 + 1 + 1, 0, none⟩) 2 2, .slice (some ⟨w.heap.size + 1 + 1 + 1 + 1 + 1, 0, none⟩) 2 2, .slice none 0 0, .slice none 0 0, .slice none 0 0, .slice none 0 0, I 2, I 4, I 2, I 0] 42)).alloc (.cells #[I 0, I 1] 3)).alloc (.cells #[I 0] 3)).alloc (.cells #[I 1, I 1, .bool false, I 1, .int .u32 0, I (-1), .slice (some ⟨w.heap.size + 1, 0, none⟩) 2 2, .int .u32 0, I 3, I 0, .bool false, I 1, .int .u32 0, I (-1), .slice (some ⟨w.heap.size + 1 + 1, 0, none⟩) 1 1, .int .u32 0] 114)).alloc (.cells #[I 3, I 1, I 1, I 1] 116)).heap[w.heap.size + 1 + 1 + 1 + 1]? = some (.cells #[I 3, I 1, I 1, I 1] 116) := by have := heap_alloc_new ((((w.alloc (.cells #[I 0, I 1, .slice (some ⟨w.heap.size + 1 + 1 + 1, 0, none⟩) 2 2, .slice (some ⟨w.heap.size + 1 + 1 + 1 + 1, 0, none⟩) 2 2, .slice (some ⟨w.heap.size + 1 + 1 + 1 + 1 + 1, 0, none⟩) 2 2, .slice none 0 0, .slice none 0 0, .slice none 0 0, .slice none 0 0, I 2, I 4, I 2, I 0] 42)).alloc (.cells #[I 0, I 1] 3)).alloc (.cells #[I 0] 3)).alloc (.cells #[I 1, I 1, .bool false, I 1, .int .u32 0, I (-1), .slice (some ⟨w.heap.size + 1, 0, none⟩) 2 2, .int .u32 0, I 3, I 0, .bool false, I 1, .int .u32 0, I (-1), .slice (some ⟨w.heap.size + 1 + 1, 0, none⟩) 1 1, .int .u32 0] 114)) (.cells #[I 3, I 1, I 1, I 1] 116); simpa only [World.size_alloc] using this
  have g5 : ((((((w.alloc (.cells #[I 0, I 1, .slice (some ⟨w.heap.size + 1 + 1 + 1, 0, none⟩) 2 2, .slice (some ⟨w.heap.size + 1 + 1 + 1 + 1, 0, none⟩) 2 2, .slice (some ⟨w.heap.size + 1 + 1 + 1 + 1 + 1, 0, none⟩) 2 2, .slice none 0 0, .slice none 0 0, .slice none 0 0, .slice none 0 0, I 2, I 4, I 2, I 0] 42)).alloc (.cells #[I 0, I 1] 3)).alloc (.cells #[I 0] 3)).alloc (.cells #[I 1, I 1, .bool false, I 1, .int .u32 0, I (-1), .slice (some ⟨w.heap.size + 1, 0, none⟩) 2 2, .int .u32 0, I 3, I 0, .bool false, I 1, .int .u32 0, I (-1), .slice (some ⟨w.heap.size + 1 + 1, 0, none⟩) 1 1, .int .u32 0] 114)).alloc (.cells #[I 3, I 1, I 1, I 1] 116)).alloc (.cells #[.bool false, I 3, .bool false, I 1] 76)).heap[w.heap.size + 1 + 1 + 1 + 1 + 1]? = some (.cells #[.bool false, I 3, .bool false, I 1] 76) := by have := heap_alloc_new (((((w.alloc (.cells #[I 0, I 1, .slice (some ⟨w.heap.size + 1 + 1 + 1, 0, none⟩) 2 2, .slice (some ⟨w.heap.size + 1 + 1 + 1 + 1, 0, none⟩) 2 2, .slice (some ⟨w.heap.size + 1 + 1 + 1 + 1 + 1, 0, none⟩) 2 2, .slice none 0 0, .slice none 0 0, .slice none 0 0, .slice none 0 0, I 2, I 4, I 2, I 0] 42)).alloc (.cells #[I 0, I 1] 3)).alloc (.cells #[I 0] 3)).alloc (.cells #[I 1, I 1, .bool false, I 1, .int .u32 0, I (-1), .slice (some ⟨w.heap.size + 1, 0, none⟩) 2 2, .int .u32 0, I 3, I 0, .bool false, I 1, .int .u32 0, I (-1), .slice (some ⟨w.heap.size + 1 + 1, 0, none⟩) 1 1, .int .u32 0] 114)).alloc (.cells #[I 3, I 1, I 1, I 1] 116)) (.cells #[.bool false, I 3, .bool false, I 1] 76); simpa only [World.size_alloc] using this
  have g0_1 := St.heap_over (w.alloc (.cells #[I 0, I 1, .slice (some ⟨w.heap.size + 1 + 1 + 1, 0, none⟩) 2 2, .slice (some ⟨w.heap.size + 1 + 1 + 1 + 1, 0, none⟩) 2 2, .slice (some ⟨w.heap.size + 1 + 1 + 1 + 1 + 1, 0, none⟩) 2 2, .slice none 0 0, .slice none 0 0, .slice none 0 0, .slice none 0 0, I 2, I 4, I 2, I 0] 42)) (.cells #[I 0, I 1] 3) g0
  have g0_2 := St.heap_over ((w.alloc (.cells #[I 0, I 1, .slice (some ⟨w.heap.size + 1 + 1 + 1, 0, none⟩) 2 2, .slice (some ⟨w.heap.size + 1 + 1 + 1 + 1, 0, none⟩) 2 2, .slice (some ⟨w.heap.size + 1 + 1 + 1 + 1 + 1, 0, none⟩) 2 2, .slice none 0 0, .slice none 0 0, .slice none 0 0, .slice none 0 0, I 2, I 4, I 2, I 0] 42)).alloc (.cells #[I 0, I 1] 3)) (.cells #[I 0] 3) g0_1
  have g0_3 := St.heap_over (((w.alloc (.cells #[I 0, I 1, .slice (some ⟨w.heap.size + 1 + 1 + 1, 0, none⟩) 2 2, .slice (some ⟨w.heap.size + 1 + 1 + 1 + 1, 0, none⟩) 2 2, .slice (some ⟨w.heap.size + 1 + 1 + 1 + 1 + 1, 0, none⟩) 2 2, .slice none 0 0, .slice none 0 0, .slice none 0 0, .slice none 0 0, I 2, I 4, I 2, I 0] 42)).alloc (.cells #[I 0, I 1] 3)).alloc (.cells #[I 0] 3)) (.cells #[I 1, I 1, .bool false, I 1, .int .u32 0, I (-1), .slice (some ⟨w.heap.size + 1, 0, none⟩) 2 2, .int .u32 0, I 3, I 0, .bool false, I 1, .int .u32 0, I (-1), .slice (some ⟨w.heap.size + 1 + 1, 0, none⟩) 1 1, .int .u32 0] 114) g0_2
  have g0_4 := St.heap_over ((((w.alloc (.cells #[I 0, I 1, .slice (some ⟨w.heap.size + 1 + 1 + 1, 0, none⟩) 2 2, .slice (some ⟨w.heap.size + 1 + 1 + 1 + 1, 0, none⟩) 2 2, .slice (some ⟨w.heap.size + 1 + 1 + 1 + 1 + 1, 0, none⟩) 2 2, .slice none 0 0, .slice none 0 0, .slice none 0 0, .slice none 0 0, I 2, I 4, I 2, I 0] 42)).alloc (.cells #[I 0, I 1] 3)).alloc (.cells #[I 0] 3)).alloc (.cells #[I 1, I 1, .bool false, I 1, .int .u32 0, I (-1), .slice (some ⟨w.heap.size + 1, 0, none⟩) 2 2, .int .u32 0, I 3, I 0, .bool false, I 1, .int .u32 0, I (-1), .slice (some ⟨w.heap.size + 1 + 1, 0, none⟩) 1 1, .int .u32 0] 114)) (.cells #[I 3, I 1, I 1, I 1] 116) g0_3
  have g0_5 := St.heap_over (((((w.alloc (.cells #[I 0, I 1, .slice (some ⟨w.heap.size + 1 + 1 + 1, 0, none⟩) 2 2, .slice (some ⟨w.heap.size + 1 + 1 + 1 + 1, 0, none⟩) 2 2, .slice (some ⟨w.heap.size + 1 + 1 + 1 + 1 + 1, 0, none⟩) 2 2, .slice none 0 0, .slice none 0 0, .slice none 0 0, .slice none 0 0, I 2, I 4, I 2, I 0] 42)).alloc (.cells #[I 0, I 1] 3)).alloc (.cells #[I 0] 3)).alloc (.cells #[I 1, I 1, .bool false, I 1, .int .u32 0, I (-1), .slice (some ⟨w.heap.size + 1, 0, none⟩) 2 2, .int .u32 0, I 3, I 0, .bool false, I 1, .int .u32 0, I (-1), .slice (some ⟨w.heap.size + 1 + 1, 0, none⟩) 1 1, .int .u32 0] 114)).alloc (.cells #[I 3, I 1, I 1, I 1] 116)) (.cells #[.bool false, I 3, .bool false, I 1] 76) g0_4
  have g1_2 := St.heap_over ((w.alloc (.cells #[I 0, I 1, .slice (some ⟨w.heap.size + 1 + 1 + 1, 0, none⟩) 2 2, .slice (some ⟨w.heap.size + 1 + 1 + 1 + 1, 0, none⟩) 2 2, .slice (some ⟨w.heap.size + 1 + 1 + 1 + 1 + 1, 0, none⟩) 2 2, .slice none 0 0, .slice none 0 0, .slice none 0 0, .slice none 0 0, I 2, I 4, I 2, I 0] 42)).alloc (.cells #[I 0, I 1] 3)) (.cells #[I 0] 3) g1
  have g1_3 := St.heap_over (((w.alloc (.cells #[I 0, I 1, .slice (some ⟨w.heap.size + 1 + 1 + 1, 0, none⟩) 2 2, .slice (some ⟨w.heap.size + 1 + 1 + 1 + 1, 0, none⟩) 2 2, .slice (some ⟨w.heap.size + 1 + 1 + 1 + 1 + 1, 0, none⟩) 2 2, .slice none 0 0, .slice none 0 0, .slice none 0 0, .slice none 0 0, I 2, I 4, I 2, I 0] 42)).alloc (.cells #[I 0, I 1] 3)).alloc (.cells #[I 0] 3)) (.cells #[I 1, I 1, .bool false, I 1, .int .u32 0, I (-1), .slice (some ⟨w.heap.size + 1, 0, none⟩) 2 2, .int .u32 0, I 3, I 0, .bool false, I 1, .int .u32 0, I (-1), .slice (some ⟨w.heap.size + 1 + 1, 0, none⟩) 1 1, .int .u32 0] 114) g1_2
  have g1_4 := St.heap_over ((((w.alloc (.cells #[I 0, I 1, .slice (some ⟨w.heap.size + 1 + 1 + 1, 0, none⟩) 2 2, .slice (some ⟨w.heap.size + 1 + 1 + 1 + 1, 0, none⟩) 2 2, .slice (some ⟨w.heap.size + 1 + 1 + 1 + 1 + 1, 0, none⟩) 2 2, .slice none 0 0, .slice none 0 0, .slice none 0 0, .slice none 0 0, I 2, I 4, I 2, I 0] 42)).alloc (.cells #[I 0, I 1] 3)).alloc (.cells #[I 0] 3)).alloc (.cells #[I 1, I 1, .bool false, I 1, .int .u32 0, I (-1), .slice (some ⟨w.heap.size + 1, 0, none⟩) 2 2, .int .u32 0, I 3, I 0, .bool false, I 1, .int .u32 0, I (-1), .slice (some ⟨w.heap.size + 1 + 1, 0, none⟩) 1 1, .int .u32 0] 114)) (.cells #[I 3, I 1, I 1, I 1] 116) g1_3
  have g1_5 := St.heap_over (((((w.alloc (.cells #[I 0, I 1, .slice (some ⟨w.heap.size + 1 + 1 + 1, 0, none⟩) 2 2, .slice (some ⟨w.heap.size + 1 + 1 + 1 + 1, 0, none⟩) 2 2, .slice (some ⟨w.heap.size + 1 + 1 + 1 + 1 + 1, 0, none⟩) 2 2, .slice none 0 0, .slice none 0 0, .slice none 0 0, .slice none 0 0, I 2, I 4, I 2, I 0] 42)).alloc (.cells #[I 0, I 1] 3)).alloc (.cells #[I 0] 3)).alloc (.cells #[I 1, I 1, .bool false, I 1, .int .u32 0, I (-1), .slice (some ⟨w.heap.size + 1, 0, none⟩) 2 2, .int .u32 0, I 3, I 0, .bool false, I 1, .int .u32 0, I (-1), .slice (some ⟨w.heap.size + 1 + 1, 0, none⟩) 1 1, .int .u32 0] 114)).alloc (.cells #[I 3, I 1, I 1, I 1] 116)) (.cells #[.bool false, I 3, .bool false, I 1] 76) g1_4
  have g2_3 := St.heap_over (((w.alloc (.cells #[I 0, I 1, .slice (some ⟨w.heap.size + 1 + 1 + 1, 0, none⟩) 2 2, .slice (some ⟨w.heap.size + 1 + 1 + 1 + 1, 0, none⟩) 2 2, .slice (some ⟨w.heap.size + 1 + 1 + 1 + 1 + 1, 0, none⟩) 2 2, .slice none 0 0, .slice none 0 0, .slice none 0 0, .slice none 0 0, I 2, I 4, I 2, I 0] 42)).alloc (.cells #[I 0, I 1] 3)).alloc (.cells #[I 0] 3)) (.cells #[I 1, I 1, .bool false, I 1, .int .u32 0, I (-1), .slice (some ⟨w.heap.size + 1, 0, none⟩) 2 2, .int .u32 0, I 3, I 0, .bool false, I 1, .int .u32 0, I (-1), .slice (some ⟨w.heap.size + 1 + 1, 0, none⟩) 1 1, .int .u32 0] 114) g2
  have g2_4 := St.heap_over ((((w.alloc (.cells #[I 0, I 1, .slice (some ⟨w.heap.size + 1 + 1 + 1, 0, none⟩) 2 2, .slice (some ⟨w.heap.size + 1 + 1 + 1 + 1, 0, none⟩) 2 2, .slice (some ⟨w.heap.size + 1 + 1 + 1 + 1 + 1, 0, none⟩) 2 2, .slice none 0 0, .slice none 0 0, .slice none 0 0, .slice none 0 0, I 2, I 4, I 2, I 0] 42)).alloc (.cells #[I 0, I 1] 3)).alloc (.cells #[I 0] 3)).alloc (.cells #[I 1, I 1, .bool false, I 1, .int .u32 0, I (-1), .slice (some ⟨w.heap.size + 1, 0, none⟩) 2 2, .int .u32 0, I 3, I 0, .bool false, I 1, .int .u32 0, I (-1), .slice (some ⟨w.heap.size + 1 + 1, 0, none⟩) 1 1, .int .u32 0] 114)) (.cells #[I 3, I 1, I 1, I 1] 116) g2_3
  have g2_5 := St.heap_over (((((w.alloc (.cells #[I 0, I 1, .slice (some ⟨w.heap.size + 1 + 1 + 1, 0, none⟩) 2 2, .slice (some ⟨w.heap.size + 1 + 1 + 1 + 1, 0, none⟩) 2 2, .slice (some ⟨w.heap.size + 1 + 1 + 1 + 1 + 1, 0, none⟩) 2 2, .slice none 0 0, .slice none 0 0, .slice none 0 0, .slice none 0 0, I 2, I 4, I 2, I 0] 42)).alloc (.cells #[I 0, I 1] 3)).alloc (.cells #[I 0] 3)).alloc (.cells #[I 1, I 1, .bool false, I 1, .int .u32 0, I (-1), .slice (some ⟨w.heap.size + 1, 0, none⟩) 2 2, .int .u32 0, I 3, I 0, .bool false, I 1, .int .u32 0, I (-1), .slice (some ⟨w.heap.size + 1 + 1, 0, none⟩) 1 1, .int .u32 0] 114)).alloc (.cells #[I 3, I 1, I 1, I 1] 116)) (.cells #[.bool false, I 3, .bool false, I 1] 76) g2_4
  have g3_4 := St.heap_over ((((w.alloc (.cells #[I 0, I 1, .slice (some ⟨w.heap.size + 1 + 1 + 1, 0, none⟩) 2 2, .slice (some ⟨w.heap.size + 1 + 1 + 1 + 1, 0, none⟩) 2 2, .slice (some ⟨w.heap.size + 1 + 1 + 1 + 1 + 1, 0, none⟩) 2 2, .slice none 0 0, .slice none 0 0, .slice none 0 0, .slice none 0 0, I 2, I 4, I 2, I 0] 42)).alloc (.cells #[I 0, I 1] 3)).alloc (.cells #[I 0] 3)).alloc (.cells #[I 1, I 1, .bool false, I 1, .int .u32 0, I (-1), .slice (some ⟨w.heap.size + 1, 0, none⟩) 2 2, .int .u32 0, I 3, I 0, .bool false, I 1, .int .u32 0, I (-1), .slice (some ⟨w.heap.size + 1 + 1, 0, none⟩) 1 1, .int .u32 0] 114)) (.cells #[I 3, I 1, I 1, I 1] 116) g3
  have g3_5 := St.heap_over (((((w.alloc (.cells #[I 0, I 1, .slice (some ⟨w.heap.size + 1 + 1 + 1, 0, none⟩) 2 2, .slice (some ⟨w.heap.size + 1 + 1 + 1 + 1, 0, none⟩) 2 2, .slice (some ⟨w.heap.size + 1 + 1 + 1 + 1 + 1, 0, none⟩) 2 2, .slice none 0 0, .slice none 0 0, .slice none 0 0, .slice none 0 0, I 2, I 4, I 2, I 0] 42)).alloc (.cells #[I 0, I 1] 3)).alloc (.cells #[I 0] 3)).alloc (.cells #[I 1, I 1, .bool false, I 1, .int .u32 0, I (-1), .slice (some ⟨w.heap.size + 1, 0, none⟩) 2 2, .int .u32 0, I 3, I 0, .bool false, I 1, .int .u32 0, I (-1), .slice (some ⟨w.heap.size + 1 + 1, 0, none⟩) 1 1, .int .u32 0] 114)).alloc (.cells #[I 3, I 1, I 1, I 1] 116)) (.cells #[.bool false, I 3, .bool false, I 1] 76) g3_4
  have g4_5 := St.heap_over (((((w.alloc (.cells #[I 0, I 1, .slice (some ⟨w.heap.size + 1 + 1 + 1, 0, none⟩) 2 2, .slice (some ⟨w.heap.size + 1 + 1 + 1 + 1, 0, none⟩) 2 2, .slice (some ⟨w.heap.size + 1 + 1 + 1 + 1 + 1, 0, none⟩) 2 2, .slice none 0 0, .slice none 0 0, .slice none 0 0, .slice none 0 0, I 2, I 4, I 2, I 0] 42)).alloc (.cells #[I 0, I 1] 3)).alloc (.cells #[I 0] 3)).alloc (.cells #[I 1, I 1, .bool false, I 1, .int .u32 0, I (-1), .slice (some ⟨w.heap.size + 1, 0, none⟩) 2 2, .int .u32 0, I 3, I 0, .bool false, I 1, .int .u32 0, I (-1), .slice (some ⟨w.heap.size + 1 + 1, 0, none⟩) 1 1, .int .u32 0] 114)).alloc (.cells #[I 3, I 1, I 1, I 1] 116)) (.cells #[.bool false, I 3, .bool false, I 1] 76) g4
  have hb : Below w.heap.size w ((((((w.alloc (.cells #[I 0, I 1, .slice (some ⟨w.heap.size + 1 + 1 + 1, 0, none⟩) 2 2, .slice (some ⟨w.heap.size + 1 + 1 + 1 + 1, 0, none⟩) 2 2, .slice (some ⟨w.heap.size + 1 + 1 + 1 + 1 + 1, 0, none⟩) 2 2, .slice none 0 0, .slice none 0 0, .slice none 0 0, .slice none 0 0, I 2, I 4, I 2, I 0] 42)).alloc (.cells #[I 0, I 1] 3)).alloc (.cells #[I 0] 3)).alloc (.cells #[I 1, I 1, .bool false, I 1, .int .u32 0, I (-1), .slice (some ⟨w.heap.size + 1, 0, none⟩) 2 2, .int .u32 0, I 3, I 0, .bool false, I 1, .int .u32 0, I (-1), .slice (some ⟨w.heap.size + 1 + 1, 0, none⟩) 1 1, .int .u32 0] 114)).alloc (.cells #[I 3, I 1, I 1, I 1] 116)).alloc (.cells #[.bool false, I 3, .bool false, I 1] 76)) := ((((((below_alloc w (.cells #[I 0, I 1, .slice (some ⟨w.heap.size + 1 + 1 + 1, 0, none⟩) 2 2, .slice (some ⟨w.heap.size + 1 + 1 + 1 + 1, 0, none⟩) 2 2, .slice (some ⟨w.heap.size + 1 + 1 + 1 + 1 + 1, 0, none⟩) 2 2, .slice none 0 0, .slice none 0 0, .slice none 0 0, .slice none 0 0, I 2, I 4, I 2, I 0] 42)).trans ((below_alloc (w.alloc (.cells #[I 0, I 1, .slice (some ⟨w.heap.size + 1 + 1 + 1, 0, none⟩) 2 2, .slice (some ⟨w.heap.size + 1 + 1 + 1 + 1, 0, none⟩) 2 2, .slice (some ⟨w.heap.size + 1 + 1 + 1 + 1 + 1, 0, none⟩) 2 2, .slice none 0 0, .slice none 0 0, .slice none 0 0, .slice none 0 0, I 2, I 4, I 2, I 0] 42)) (.cells #[I 0, I 1] 3)).mono (by simp only [World.size_alloc]; omega))).trans ((below_alloc ((w.alloc (.cells #[I 0, I 1, .slice (some ⟨w.heap.size + 1 + 1 + 1, 0, none⟩) 2 2, .slice (some ⟨w.heap.size + 1 + 1 + 1 + 1, 0, none⟩) 2 2, .slice (some ⟨w.heap.size + 1 + 1 + 1 + 1 + 1, 0, none⟩) 2 2, .slice none 0 0, .slice none 0 0, .slice none 0 0, .slice none 0 0, I 2, I 4, I 2, I 0] 42)).alloc (.cells #[I 0, I 1] 3)) (.cells #[I 0] 3)).mono (by simp only [World.size_alloc]; omega))).trans ((below_alloc (((w.alloc (.cells #[I 0, I 1, .slice (some ⟨w.heap.size + 1 + 1 + 1, 0, none⟩) 2 2, .slice (some ⟨w.heap.size + 1 + 1 + 1 + 1, 0, none⟩) 2 2, .slice (some ⟨w.heap.size + 1 + 1 + 1 + 1 + 1, 0, none⟩) 2 2, .slice none 0 0, .slice none 0 0, .slice none 0 0, .slice none 0 0, I 2, I 4, I 2, I 0] 42)).alloc (.cells #[I 0, I 1] 3)).alloc (.cells #[I 0] 3)) (.cells #[I 1, I 1, .bool false, I 1, .int .u32 0, I (-1), .slice (some ⟨w.heap.size + 1, 0, none⟩) 2 2, .int .u32 0, I 3, I 0, .bool false, I 1, .int .u32 0, I (-1), .slice (some ⟨w.heap.size + 1 + 1, 0, none⟩) 1 1, .int .u32 0] 114)).mono (by simp only [World.size_alloc]; omega))).trans ((below_alloc ((((w.alloc (.cells #[I 0, I 1, .slice (some ⟨w.heap.size + 1 + 1 + 1, 0, none⟩) 2 2, .slice (some ⟨w.heap.size + 1 + 1 + 1 + 1, 0, none⟩) 2 2, .slice (some ⟨w.heap.size + 1 + 1 + 1 + 1 + 1, 0, none⟩) 2 2, .slice none 0 0, .slice none 0 0, .slice none 0 0, .slice none 0 0, I 2, I 4, I 2, I 0] 42)).alloc (.cells #[I 0, I 1] 3)).alloc (.cells #[I 0] 3)).alloc (.cells #[I 1, I 1, .bool false, I 1, .int .u32 0, I (-1), .slice (some ⟨w.heap.size + 1, 0, none⟩) 2 2, .int .u32 0, I 3, I 0, .bool false, I 1, .int .u32 0, I (-1), .slice (some ⟨w.heap.size + 1 + 1, 0, none⟩) 1 1, .int .u32 0] 114)) (.cells #[I 3, I 1, I 1, I 1] 116)).mono (by simp only [World.size_alloc]; omega))).trans ((below_alloc (((((w.alloc (.cells #[I 0, I 1, .slice (some ⟨w.heap.size + 1 + 1 + 1, 0, none⟩) 2 2, .slice (some ⟨w.heap.size + 1 + 1 + 1 + 1, 0, none⟩) 2 2, .slice (some ⟨w.heap.size + 1 + 1 + 1 + 1 + 1, 0, none⟩) 2 2, .slice none 0 0, .slice none 0 0, .slice none 0 0, .slice none 0 0, I 2, I 4, I 2, I 0] 42)).alloc (.cells #[I 0, I 1] 3)).alloc (.cells #[I 0] 3)).alloc (.cells #[I 1, I 1, .bool false, I 1, .int .u32 0, I (-1), .slice (some ⟨w.heap.size + 1, 0, none⟩) 2 2, .int .u32 0, I 3, I 0, .bool false, I 1, .int .u32 0, I (-1), .slice (some ⟨w.heap.size + 1 + 1, 0, none⟩) 1 1, .int .u32 0] 114)).alloc (.cells #[I 3, I 1, I 1, I 1] 116)) (.cells #[.bool false, I 3, .bool false, I 1] 76)).mono (by simp only [World.size_alloc]; omega)))
  go_enter Tryz.func30, Tryz.ntmps30
  go_wp2
  refine bodyPost_ret (res13 Tryz.results30 _ w.heap.size _ _ _ _ _ _ _ _ _ _ _ _ _ _ rfl g0_5) rfl ⟨twoV w.heap.size, rfl, two_at g1_5 g2_5 g3_5 g4_5 g5, hb⟩
end Go.Proofs.YtmllocfeflhjoaaGreat

namespace Go.Proofs.YtmllocfeflhjoaaGreat
open Go.RowKit Go.Maps Go.Shelf Go.Sort
open Go.Proofs.YtmllocfeflhjoaaGreat.St (Fx Fz iQ iP iV)
set_option linter.unusedVariables false
set_option linter.unusedSimpArgs false

abbrev own0 : Own := ⟨false, 0⟩
abbrev own1 : Own := ⟨false, 1⟩
theorem wf0 : own0.wf := by unfold Own.wf; decide
theorem wf1 : own1.wf := by unfold Own.wf; decide
def hS1 : Ls := ⟨[(own0, 1)], fun _ => false, ⟨false, 0, 0⟩⟩
def hS2 : Ls := ⟨[(own0, 1), (own0, 0)], fun _ => false, ⟨false, 0, 0⟩⟩
def hS3 : Ls := ⟨[], fun _ => false, ⟨false, 0, 0⟩⟩
section
variable {w w' : World} {Z : Nat → Prop} {y : Ly} {B : Nat}
theorem hG1 (h : Lk w twoT Z y B zeroL) : Calls Tryz.prog 11 #[lp B, .agg #[.bool false, I 0], I 1] w fun e w' => e = .returned (I 0) ∧ Lk w' twoT Z y B hS1 ∧ Fz (y.M B) w w' := Get_ok h own0 wf0 1 (by decide) (by decide) (by decide)
theorem hG2 (h : Lk w twoT Z y B hS1) : Calls Tryz.prog 11 #[lp B, .agg #[.bool false, I 0], I 0] w fun e w' => e = .returned (I 0) ∧ Lk w' twoT Z y B hS2 ∧ Fz (y.M B) w w' := Get_ok h own0 wf0 0 (by decide) (by decide) (by decide)
theorem hG3 (h : Lk w twoT Z y B hS2) : Calls Tryz.prog 11 #[lp B, .agg #[.bool false, I 1], I 0] w fun e w' => e = .returned (I 1) ∧ Lk w' twoT Z y B hS2 ∧ Fz (y.M B) w w' := (Get_bar h own1 wf1 0 (by decide) (by decide) (by decide)).mono (fun e w' k => ⟨k.1, h.below k.2, Fz.of_below k.2⟩)
theorem hR4 (h : Lk w twoT Z y B hS2) : Calls Tryz.prog 16 #[lp B, .agg #[.bool false, I 0], I 1] w fun e w' => e = .returned (I 5) ∧ Lk w' twoT Z y B hS2 ∧ Fz (y.M B) w w' := (Release_bar h own0 wf0 1 (by decide) (by decide)).mono (fun e w' k => ⟨k.1, h.below k.2, Fz.of_below k.2⟩)
theorem hP5 (h : Lk w twoT Z y B hS2) : Calls Tryz.prog 20 #[lp B, .agg #[.bool false, I 0]] w fun e w' => e = .returned (I 3) ∧ Lk w' twoT Z y B hS2 ∧ Fz (y.M B) w w' := (Priority_any h own0 wf0).mono (fun e w' k => ⟨k.1.trans (by rw [show prioO twoT hS2 own0 = 3 by decide]), h.below k.2, Fz.of_below k.2⟩)
theorem hD6 (h : Lk w twoT Z y B hS2) : Calls Tryz.prog 17 #[lp B, .agg #[.bool false, I 0]] w fun e w' => e = .returned (.tuple #[I 0, .bool true]) ∧ Lk w' twoT Z y B hS3 ∧ Fz (y.M B) w w' := Drop_ok h own0 wf0 [1] 0 (by decide)
theorem hP7 (h : Lk w twoT Z y B hS3) : Calls Tryz.prog 20 #[lp B, .agg #[.bool false, I 0]] w fun e w' => e = .returned (I 1) ∧ Lk w' twoT Z y B hS3 ∧ Fz (y.M B) w w' := (Priority_any h own0 wf0).mono (fun e w' k => ⟨k.1.trans (by rw [show prioO twoT hS3 own0 = 1 by decide]), h.below k.2, Fz.of_below k.2⟩)
theorem two_boxes2 (w : World) (a b c d : Value) (t : TypeId) : Below w.heap.size w ((w.alloc (.cells #[a, b] t)).alloc (.cells #[c, d] t)) ∧ ((w.alloc (.cells #[a, b] t)).alloc (.cells #[c, d] t)).heap[w.heap.size]? = some (.cells #[a, b] t) ∧ ((w.alloc (.cells #[a, b] t)).alloc (.cells #[c, d] t)).heap[w.heap.size + 1]? = some (.cells #[c, d] t) := by
  refine ⟨(below_alloc w _).trans ((below_alloc _ _).mono (by simp)), St.heap_over _ _ (heap_alloc_new w _), ?_⟩
  have := heap_alloc_new (w.alloc (.cells #[a, b] t)) (.cells #[c, d] t)
  rwa [World.size_alloc] at this
/-- both boxes -/
def Bx (N0 : Nat) (w : World) : Prop := w.heap[N0]? = some (.cells #[.bool false, I 0] 23) ∧ w.heap[N0 + 1]? = some (.cells #[.bool false, I 1] 23)
theorem Bx.cells {N0 : Nat} (h : Bx N0 w) : w.cell? ⟨N0, 0, none⟩ = some (.bool false) ∧ w.cell? ⟨N0, 1, none⟩ = some (I 0) ∧ w.cell? ⟨N0 + 1, 0, none⟩ = some (.bool false) ∧ w.cell? ⟨N0 + 1, 1, none⟩ = some (I 1) := by
  refine ⟨?_, ?_, ?_, ?_⟩
  · rw [cell_of_row w _ _ _ _ (0, 0) h.1]; rfl
  · rw [cell_of_row w _ _ _ _ (0, 0) h.1]; rfl
  · rw [cell_of_row w _ _ _ _ (0, 0) h.2]; rfl
  · rw [cell_of_row w _ _ _ _ (0, 0) h.2]; rfl
set_option maxRecDepth 100000 in
set_option maxHeartbeats 8000000 in
theorem heads_any (w : World) : Calls Tryz.prog 6 #[] w fun e w' => e = .returned (.bool true) ∧ Below w.heap.size w w' := by
  have hT := Two_any w
  have hN : ∀ (W : World) (v : Ts), TbAt W twoT v → Calls Tryz.prog 7 #[.agg (tbC twoT v)] W fun e w' => ∃ B Z y, e = .returned (.tuple #[lp B, I 0]) ∧ Lk w' twoT Z y B zeroL ∧ Below W.heap.size W w' ∧ (∀ b, y.M B b → W.heap.size ≤ b) ∧ (∀ b, Z b → W.heap.size ≤ b ∧ b < w'.heap.size) := fun W v h => New_ok W twoT v h two_wf two_chk
  go_enter Tryz.func6, Tryz.ntmps6
  go_upto_region 2 with (first | (go_at_call 30; refine hT.mono ?_; clear hT; rintro e w1 ⟨v, rfl, ht, hb1⟩) | (go_at_call 7; refine (hN _ v ht).mono ?_; rintro e w2 ⟨B, Z, y, rfl, h2, hb2, hM, hZ⟩))
  have HM : Hid (∀ b, y.M B b → w.heap.size ≤ b ∧ b < w2.heap.size) := fun b hb => ⟨Nat.le_trans hb1.size (hM b hb), h2.lts hb⟩
  obtain ⟨bb, x0, x1⟩ := two_boxes2 w2 (.bool false) (I 0) (.bool false) (I 1) 23
  have H3 : Hid (Lk ((w2.alloc (.cells #[.bool false, I 0] 23)).alloc (.cells #[.bool false, I 1] 23)) twoT Z y B zeroL ∧ Below w.heap.size w ((w2.alloc (.cells #[.bool false, I 0] 23)).alloc (.cells #[.bool false, I 1] 23)) ∧ Bx w2.heap.size ((w2.alloc (.cells #[.bool false, I 0] 23)).alloc (.cells #[.bool false, I 1] 23))) := ⟨h2.below bb, hb1.trans ((hb2.trans (bb.mono hb2.size)).mono hb1.size), x0, x1⟩
  clear hN ht hb1 h2 hb2 hM hZ bb x0 x1
  go_upto_region 6 with fail
  generalize (w2.alloc (.cells #[.bool false, I 0] 23)).alloc (.cells #[.bool false, I 1] 23) = w3 at *
  generalize w2.heap.size = N0 at *
  have HS : Hid (∀ {W W' : World}, Below w.heap.size w W ∧ Bx N0 W → Fz (y.M B) W W' → Below w.heap.size w W' ∧ Bx N0 W') := by
    intro W W' h hf
    exact ⟨h.1.trans (hf.below h.1.size (fun b hb => (HM.out b hb).1)), hf.heap h.2.1 (fun e => by have := (HM.out _ e).2; omega), hf.heap h.2.2 (fun e => by have := (HM.out _ e).2; omega)⟩
  obtain ⟨p0, p1, p2, p3⟩ := H3.out.2.2.cells
  have hc := hG1 H3.out.1
  go_upto_region 7 with (first | (go_at_call 11; refine hc.mono ?_; clear hc; rintro e w4 ⟨rfl, hl, hf⟩))
  have K4 : Hid (Lk w4 twoT Z y B hS1 ∧ Below w.heap.size w w4 ∧ Bx N0 w4) := ⟨hl, HS.out H3.out.2 hf⟩
  clear p0 p1 p2 p3 hl hf H3
  obtain ⟨p0, p1, p2, p3⟩ := K4.out.2.2.cells
  have hc := hG2 K4.out.1
  go_upto_region 8 with (first | (go_at_call 11; refine hc.mono ?_; clear hc; rintro e w5 ⟨rfl, hl, hf⟩))
  have K5 : Hid (Lk w5 twoT Z y B hS2 ∧ Below w.heap.size w w5 ∧ Bx N0 w5) := ⟨hl, HS.out K4.out.2 hf⟩
  clear p0 p1 p2 p3 hl hf K4
  obtain ⟨p0, p1, p2, p3⟩ := K5.out.2.2.cells
  have hc := hG3 K5.out.1
  go_upto_region 9 with (first | (go_at_call 11; refine hc.mono ?_; clear hc; rintro e w6 ⟨rfl, hl, hf⟩))
  have K6 : Hid (Lk w6 twoT Z y B hS2 ∧ Below w.heap.size w w6 ∧ Bx N0 w6) := ⟨hl, HS.out K5.out.2 hf⟩
  clear p0 p1 p2 p3 hl hf K5
  obtain ⟨p0, p1, p2, p3⟩ := K6.out.2.2.cells
  have hc := hR4 K6.out.1
  go_upto_region 10 with (first | (go_at_call 16; refine hc.mono ?_; clear hc; rintro e w7 ⟨rfl, hl, hf⟩))
  have K7 : Hid (Lk w7 twoT Z y B hS2 ∧ Below w.heap.size w w7 ∧ Bx N0 w7) := ⟨hl, HS.out K6.out.2 hf⟩
  clear p0 p1 p2 p3 hl hf K6
  obtain ⟨p0, p1, p2, p3⟩ := K7.out.2.2.cells
  have hc := hP5 K7.out.1
  go_upto_region 11 with (first | (go_at_call 20; refine hc.mono ?_; clear hc; rintro e w8 ⟨rfl, hl, hf⟩))
  have K8 : Hid (Lk w8 twoT Z y B hS2 ∧ Below w.heap.size w w8 ∧ Bx N0 w8) := ⟨hl, HS.out K7.out.2 hf⟩
  clear p0 p1 p2 p3 hl hf K7
  obtain ⟨p0, p1, p2, p3⟩ := K8.out.2.2.cells
  have hc := hD6 K8.out.1
  go_upto_region 12 with (first | (go_at_call 17; refine hc.mono ?_; clear hc; rintro e w9 ⟨rfl, hl, hf⟩))
  have K9 : Hid (Lk w9 twoT Z y B hS3 ∧ Below w.heap.size w w9 ∧ Bx N0 w9) := ⟨hl, HS.out K8.out.2 hf⟩
  clear p0 p1 p2 p3 hl hf K8
  obtain ⟨p0, p1, p2, p3⟩ := K9.out.2.2.cells
  have hc := hP7 K9.out.1
  go_wp2_with (first | (go_at_call 20; refine hc.mono ?_; clear hc; rintro e w10 ⟨rfl, hl, hf⟩))
  have K10 : Hid (Below w.heap.size w w10) := (HS.out K9.out.2 hf).1
  go_ret
  exact ⟨rfl, K10.out⟩
end
end Go.Proofs.YtmllocfeflhjoaaGreat

