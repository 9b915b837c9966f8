import Derived.Test.YtmllocfeflhjoaaGreatXQu
namespace Go.Proofs.YtmllocfeflhjoaaGreat
open Go.RowKit Go.Maps Go.Shelf Go.Sort
open Go.Proofs.YtmllocfeflhjoaaGreat.St (Fx Fz iQ iP iV)
set_option linter.unusedVariables false
set_option linter.unusedSimpArgs false
set_option maxRecDepth 100000
set_option maxHeartbeats 8000000

/-! ### A lock that no call made -/
def zLock : Array Value := #[.slice none 0 0, .map none, .map none, .bool false, I 0, I 0]
def NoL (w : World) (t : Value) : Prop := t = .pointer none ∨ ∃ B, t = lp B ∧ w.heap[B]? = some (.cells zLock 32)
theorem NoL.below {w w' : World} {t : Value} (h : NoL w t) (hb : Below w.heap.size w w') : NoL w' t := by
  rcases h with h | ⟨B, h1, h2⟩
  · exact .inl h
  · exact .inr ⟨B, h1, (hb.block B (heap_lt h2)).trans h2⟩
section
variable {w : World} {t : Value}
theorem nNone (h : NoL w t) : Calls Tryz.prog 35 #[t] w fun e w' => e = .returned (.bool true) ∧ w = w' := by
  rcases h with rfl | ⟨B, rfl, hB⟩
  · go_enter Tryz.func35, Tryz.ntmps35
    go_wp2
    go_ret
    exact ⟨rfl, rfl⟩
  · have c1 : w.cell? ⟨B, 1, none⟩ = some (.map none) := by rw [cell_of_row w B _ _ _ (0, 0) hB]; rfl
    have hq := fun w => eql_map_nil (P := Tryz.prog) w 29 _ _ none Tryz.underlying29
    clear hB
    go_enter Tryz.func35, Tryz.ntmps35
    go_wp2
    go_ret
    exact ⟨rfl, rfl⟩
theorem nFind (h : NoL w t) (x : Bool) (i : Int) : Calls Tryz.prog 58 #[t, .agg #[.bool x, I i]] w fun e w' => e = .returned (.tuple #[.pointer none, .bool false]) ∧ Below w.heap.size w w' := by
  have hb := below_alloc w (.cells #[.bool x, I i] 23)
  have hN := nNone (h.below hb)
  have HB : Hid _ := hb
  clear h hb
  go_enter Tryz.func58, Tryz.ntmps58
  go_wp2_with (first | (go_at_call 35; refine hN.mono ?_; clear hN; rintro e w1 ⟨rfl, rfl⟩))
  go_ret2
  exact ⟨rfl, HB.out⟩
theorem nAsker (h : NoL w t) (x : Bool) (i r : Int) : Calls Tryz.prog 38 #[t, .agg #[.bool x, I i], I r] w fun e w' => e = .returned (.tuple #[.pointer none, I 3]) ∧ Below w.heap.size w w' := by
  have hb := below_alloc w (.cells #[.bool x, I i] 23)
  obtain ⟨y0, y1⟩ := box_own w ⟨x, i⟩
  have hF := nFind (h.below hb) x i
  have HB : Hid (∀ w', Below (w.alloc (.cells #[.bool x, I i] 23)).heap.size (w.alloc (.cells #[.bool x, I i] 23)) w' → Below w.heap.size w w') := fun w' hb' => hb.trans (hb'.mono (by simp))
  clear h hb
  go_enter Tryz.func38, Tryz.ntmps38
  go_upto_region 1 with fail
  generalize w.alloc (.cells #[.bool x, I i] 23) = w1 at *
  go_wp2_with (first | (go_at_call 58; refine hF.mono ?_; clear hF; rintro e w2 ⟨rfl, hb2⟩))
  go_ret2
  exact ⟨rfl, HB.out _ hb2⟩
theorem nGet (h : NoL w t) (x : Bool) (i r : Int) : Calls Tryz.prog 11 #[t, .agg #[.bool x, I i], I r] w fun e w' => e = .returned (I 3) ∧ Below w.heap.size w w' := by
  have hb := below_alloc w (.cells #[.bool x, I i] 23)
  obtain ⟨y0, y1⟩ := box_own w ⟨x, i⟩
  have hF := nAsker (h.below hb) x i r
  have HB : Hid (∀ w', Below (w.alloc (.cells #[.bool x, I i] 23)).heap.size (w.alloc (.cells #[.bool x, I i] 23)) w' → Below w.heap.size w w') := fun w' hb' => hb.trans (hb'.mono (by simp))
  clear h hb
  go_enter Tryz.func11, Tryz.ntmps11
  go_upto_region 1 with fail
  generalize w.alloc (.cells #[.bool x, I i] 23) = w1 at *
  go_wp2_with (first | (go_at_call 38; refine hF.mono ?_; clear hF; rintro e w2 ⟨rfl, hb2⟩))
  go_ret
  exact ⟨rfl, HB.out _ hb2⟩
theorem nRelease (h : NoL w t) (x : Bool) (i r : Int) : Calls Tryz.prog 16 #[t, .agg #[.bool x, I i], I r] w fun e w' => e = .returned (I 3) ∧ Below w.heap.size w w' := by
  have hb := below_alloc w (.cells #[.bool x, I i] 23)
  obtain ⟨y0, y1⟩ := box_own w ⟨x, i⟩
  have hF := nAsker (h.below hb) x i r
  have HB : Hid (∀ w', Below (w.alloc (.cells #[.bool x, I i] 23)).heap.size (w.alloc (.cells #[.bool x, I i] 23)) w' → Below w.heap.size w w') := fun w' hb' => hb.trans (hb'.mono (by simp))
  clear h hb
  go_enter Tryz.func16, Tryz.ntmps16
  go_upto_region 1 with fail
  generalize w.alloc (.cells #[.bool x, I i] 23) = w1 at *
  go_wp2_with (first | (go_at_call 38; refine hF.mono ?_; clear hF; rintro e w2 ⟨rfl, hb2⟩))
  go_ret
  exact ⟨rfl, HB.out _ hb2⟩
theorem nDrop (h : NoL w t) (x : Bool) (i : Int) : Calls Tryz.prog 17 #[t, .agg #[.bool x, I i]] w fun e w' => e = .returned (.tuple #[I (-1), .bool false]) ∧ Below w.heap.size w w' := by
  have hb := below_alloc w (.cells #[.bool x, I i] 23)
  obtain ⟨y0, y1⟩ := box_own w ⟨x, i⟩
  have hF := nFind (h.below hb) x i
  have HB : Hid (∀ w', Below (w.alloc (.cells #[.bool x, I i] 23)).heap.size (w.alloc (.cells #[.bool x, I i] 23)) w' → Below w.heap.size w w') := fun w' hb' => hb.trans (hb'.mono (by simp))
  clear h hb
  go_enter Tryz.func17, Tryz.ntmps17
  go_upto_region 1 with fail
  generalize w.alloc (.cells #[.bool x, I i] 23) = w1 at *
  go_wp2_with (first | (go_at_call 58; refine hF.mono ?_; clear hF; rintro e w2 ⟨rfl, hb2⟩))
  go_ret2
  exact ⟨rfl, HB.out _ hb2⟩
theorem nHeld (h : NoL w t) (x : Bool) (i : Int) : Calls Tryz.prog 19 #[t, .agg #[.bool x, I i]] w fun e w' => e = .returned (.slice none 0 0) ∧ Below w.heap.size w w' := by
  have hb := below_alloc w (.cells #[.bool x, I i] 23)
  obtain ⟨y0, y1⟩ := box_own w ⟨x, i⟩
  have hF := nFind (h.below hb) x i
  have HB : Hid (∀ w', Below (w.alloc (.cells #[.bool x, I i] 23)).heap.size (w.alloc (.cells #[.bool x, I i] 23)) w' → Below w.heap.size w w') := fun w' hb' => hb.trans (hb'.mono (by simp))
  clear h hb
  go_enter Tryz.func19, Tryz.ntmps19
  go_upto_region 1 with fail
  generalize w.alloc (.cells #[.bool x, I i] 23) = w1 at *
  go_wp2_with (first | (go_at_call 58; refine hF.mono ?_; clear hF; rintro e w2 ⟨rfl, hb2⟩))
  go_ret
  exact ⟨rfl, HB.out _ hb2⟩
theorem nPriority (h : NoL w t) (x : Bool) (i : Int) : Calls Tryz.prog 20 #[t, .agg #[.bool x, I i]] w fun e w' => e = .returned (I (-1)) ∧ Below w.heap.size w w' := by
  have hb0 := below_alloc w (.cells #[t] 26)
  have hbw : Below w.heap.size w ((w.alloc (.cells #[t] 26)).alloc (.cells #[.bool x, I i] 23)) := hb0.trans ((below_alloc _ _).mono (by simp))
  have hF := nFind (h.below hbw) x i
  have hbox : ((w.alloc (.cells #[t] 26)).alloc (.cells #[.bool x, I i] 23)).cell? ⟨w.heap.size, 0, none⟩ = some t := ((Boxed.new w 26 t).alloc _).cell
  have y0 : ((w.alloc (.cells #[t] 26)).alloc (.cells #[.bool x, I i] 23)).cell? ⟨w.heap.size + 1, 0, none⟩ = some (.bool x) := by
    have := (box_own (w.alloc (.cells #[t] 26)) ⟨x, i⟩).1
    rwa [World.size_alloc] at this
  have y1 : ((w.alloc (.cells #[t] 26)).alloc (.cells #[.bool x, I i] 23)).cell? ⟨w.heap.size + 1, 1, none⟩ = some (I i) := by
    have := (box_own (w.alloc (.cells #[t] 26)) ⟨x, i⟩).2
    rwa [World.size_alloc] at this
  have HB1 : Hid (∀ w', Below ((w.alloc (.cells #[t] 26)).alloc (.cells #[.bool x, I i] 23)).heap.size ((w.alloc (.cells #[t] 26)).alloc (.cells #[.bool x, I i] 23)) w' → Below w.heap.size w w') := fun w' hb' => hbw.trans (hb'.mono (by simp; omega))
  have ht : t.oneCell' = true := by rcases h with rfl | ⟨B, rfl, _⟩ <;> rfl
  rcases h with rfl | ⟨B, rfl, _⟩
  all_goals
    clear hbw hb0 ht
    go_enter Tryz.func20, Tryz.ntmps20
    go_upto_region 1 with fail
    generalize (w.alloc (.cells #[_] 26)).alloc (.cells #[.bool x, I i] 23) = w1 at *
    go_wp2_with (first | (go_at_call 58; refine hF.mono ?_; clear hF; rintro e w2 ⟨rfl, hb2⟩))
    go_ret
    exact ⟨rfl, HB1.out _ hb2⟩
theorem nHas (h : NoL w t) (i : Int) : Calls Tryz.prog 21 #[t, I i] w fun e w' => e = .returned (.bool false) ∧ Below w.heap.size w w' := by
  have hF := nFind h false i
  clear h
  go_enter Tryz.func21, Tryz.ntmps21
  go_wp2_with (first | (go_at_call 58; refine hF.mono ?_; clear hF; rintro e w2 ⟨rfl, hb2⟩))
  go_ret
  exact ⟨rfl, hb2⟩
theorem nTakes (h : NoL w t) (i : Int) : Calls Tryz.prog 22 #[t, I i] w fun e w' => e = .returned (.bool false) ∧ Below w.heap.size w w' := by
  have hF := nFind h true i
  clear h
  go_enter Tryz.func22, Tryz.ntmps22
  go_wp2_with (first | (go_at_call 58; refine hF.mono ?_; clear hF; rintro e w2 ⟨rfl, hb2⟩))
  go_ret
  exact ⟨rfl, hb2⟩
theorem nLay (h : NoL w t) (i : Int) (x : Bool) : Calls Tryz.prog 41 #[t, I i, .bool x] w fun e w' => e = .returned (I 1) ∧ Below w.heap.size w w' := by
  have hF := (nNone h).mono (fun e w' k => (⟨k.1, by rw [← k.2]; exact Below.refl _ _⟩ : e = .returned (.bool true) ∧ Below w.heap.size w w'))
  clear h
  go_enter Tryz.func41, Tryz.ntmps41
  go_wp2_with (first | (go_at_call 35; refine hF.mono ?_; clear hF; rintro e w2 ⟨rfl, hb2⟩))
  go_ret
  exact ⟨rfl, hb2⟩
theorem nEnter (h : NoL w t) (i : Int) : Calls Tryz.prog 12 #[t, I i] w fun e w' => e = .returned (I 1) ∧ Below w.heap.size w w' := by
  have hF := nLay h i true
  clear h
  go_enter Tryz.func12, Tryz.ntmps12
  go_wp2_with (first | (go_at_call 41; refine hF.mono ?_; clear hF; rintro e w2 ⟨rfl, hb2⟩))
  go_ret
  exact ⟨rfl, hb2⟩
theorem nLeave (h : NoL w t) (i : Int) : Calls Tryz.prog 24 #[t, I i] w fun e w' => e = .returned (I 1) ∧ Below w.heap.size w w' := by
  have hF := nLay h i false
  clear h
  go_enter Tryz.func24, Tryz.ntmps24
  go_wp2_with (first | (go_at_call 41; refine hF.mono ?_; clear hF; rintro e w2 ⟨rfl, hb2⟩))
  go_ret
  exact ⟨rfl, hb2⟩
theorem nShut (h : NoL w t) (x : Bool) : Calls Tryz.prog 42 #[t, .bool x] w fun e w' => e = .returned (I 1) ∧ Below w.heap.size w w' := by
  have hF := (nNone h).mono (fun e w' k => (⟨k.1, by rw [← k.2]; exact Below.refl _ _⟩ : e = .returned (.bool true) ∧ Below w.heap.size w w'))
  clear h
  go_enter Tryz.func42, Tryz.ntmps42
  go_wp2_with (first | (go_at_call 35; refine hF.mono ?_; clear hF; rintro e w2 ⟨rfl, hb2⟩))
  go_ret
  exact ⟨rfl, hb2⟩
theorem nClose (h : NoL w t) : Calls Tryz.prog 13 #[t] w fun e w' => e = .returned (I 1) ∧ Below w.heap.size w w' := by
  have hF := nShut h true
  clear h
  go_enter Tryz.func13, Tryz.ntmps13
  go_wp2_with (first | (go_at_call 42; refine hF.mono ?_; clear hF; rintro e w2 ⟨rfl, hb2⟩))
  go_ret
  exact ⟨rfl, hb2⟩
theorem nOpen (h : NoL w t) : Calls Tryz.prog 25 #[t] w fun e w' => e = .returned (I 1) ∧ Below w.heap.size w w' := by
  have hF := nShut h false
  clear h
  go_enter Tryz.func25, Tryz.ntmps25
  go_wp2_with (first | (go_at_call 42; refine hF.mono ?_; clear hF; rintro e w2 ⟨rfl, hb2⟩))
  go_ret
  exact ⟨rfl, hb2⟩
theorem nCount (h : NoL w t) (x : Bool) (k : Int) : Calls Tryz.prog 64 #[t, .bool x, I k] w fun e w' => e = .returned (I 1) ∧ Below w.heap.size w w' := by
  have hF := (nNone h).mono (fun e w' k => (⟨k.1, by rw [← k.2]; exact Below.refl _ _⟩ : e = .returned (.bool true) ∧ Below w.heap.size w w'))
  clear h
  go_enter Tryz.func64, Tryz.ntmps64
  go_wp2_with (first | (go_at_call 35; refine hF.mono ?_; clear hF; rintro e w2 ⟨rfl, hb2⟩))
  go_ret
  exact ⟨rfl, hb2⟩
theorem nSuspend (h : NoL w t) (x : Bool) : Calls Tryz.prog 26 #[t, .bool x] w fun e w' => e = .returned (I 1) ∧ Below w.heap.size w w' := by
  have hF := nCount h x 1
  clear h
  go_enter Tryz.func26, Tryz.ntmps26
  go_wp2_with (first | (go_at_call 64; refine hF.mono ?_; clear hF; rintro e w2 ⟨rfl, hb2⟩))
  go_ret
  exact ⟨rfl, hb2⟩
theorem nResume (h : NoL w t) (x : Bool) : Calls Tryz.prog 27 #[t, .bool x] w fun e w' => e = .returned (I 1) ∧ Below w.heap.size w w' := by
  have hF := nCount h x (-1)
  clear h
  go_enter Tryz.func27, Tryz.ntmps27
  go_wp2_with (first | (go_at_call 64; refine hF.mono ?_; clear hF; rintro e w2 ⟨rfl, hb2⟩))
  go_ret
  exact ⟨rfl, hb2⟩
theorem nReset (h : NoL w t) : Calls Tryz.prog 29 #[t] w fun e w' => e = .returned (I 1) ∧ Below w.heap.size w w' := by
  have hF := (nNone h).mono (fun e w' k => (⟨k.1, by rw [← k.2]; exact Below.refl _ _⟩ : e = .returned (.bool true) ∧ Below w.heap.size w w'))
  clear h
  go_enter Tryz.func29, Tryz.ntmps29
  go_wp2_with (first | (go_at_call 35; refine hF.mono ?_; clear hF; rintro e w2 ⟨rfl, hb2⟩))
  go_ret
  exact ⟨rfl, hb2⟩
theorem nCopy (h : NoL w t) : Calls Tryz.prog 9 #[t] w fun e w' => e = .returned (.pointer none) ∧ Below w.heap.size w w' := by
  have hF := (nNone h).mono (fun e w' k => (⟨k.1, by rw [← k.2]; exact Below.refl _ _⟩ : e = .returned (.bool true) ∧ Below w.heap.size w w'))
  clear h
  go_enter Tryz.func9, Tryz.ntmps9
  go_wp2_with (first | (go_at_call 35; refine hF.mono ?_; clear hF; rintro e w2 ⟨rfl, hb2⟩))
  go_ret
  exact ⟨rfl, hb2⟩
theorem nPut (h : NoL w t) (x : Bool) (a b : Int) : Calls Tryz.prog 28 #[t, .agg #[.bool x, I a, I b]] w fun e w' => e = .returned (I 1) ∧ Below w.heap.size w w' := by
  have hb := below_alloc w (.cells #[.bool x, I a, I b] 25)
  have hF := nNone (h.below hb)
  have HB : Hid _ := hb
  clear h hb
  go_enter Tryz.func28, Tryz.ntmps28
  go_wp2_with (first | (go_at_call 35; refine hF.mono ?_; clear hF; rintro e w2 ⟨rfl, rfl⟩))
  go_ret
  exact ⟨rfl, HB.out⟩
theorem nGate (h : NoL w t) : Calls Tryz.prog 23 #[t] w fun e w' => e = .returned (.agg #[.bool false, I 0, I 0]) ∧ Below w.heap.size w w' := by
  have hb := below_alloc w (.cells #[.bool false, I 0, I 0] 25)
  have hV := heap_alloc_new w (.cells #[.bool false, I 0, I 0] 25)
  have a1 := fun i => cell_of_row _ _ i _ _ (0, 0) hV
  have k0 : (w.alloc (.cells #[.bool false, I 0, I 0] 25)).cell? ⟨w.heap.size, 0, none⟩ = some (.bool false) := a1 0
  have k1 : (w.alloc (.cells #[.bool false, I 0, I 0] 25)).cell? ⟨w.heap.size, 1, none⟩ = some (I 0) := a1 1
  have k2 : (w.alloc (.cells #[.bool false, I 0, I 0] 25)).cell? ⟨w.heap.size, 2, none⟩ = some (I 0) := a1 2
  have k3 : ∀ j, (w.alloc (.cells #[.bool false, I 0, I 0] 25)).frozen? ⟨w.heap.size, j, none⟩ = false := fun j => frozen_of_row _ _ j _ _ hV
  have hF := nNone (h.below hb)
  have HB : Hid (∀ a b c, Below w.heap.size w ((((w.alloc (.cells #[.bool false, I 0, I 0] 25)).setCell ⟨w.heap.size, 0, none⟩ a).setCell ⟨w.heap.size, 1, none⟩ b).setCell ⟨w.heap.size, 2, none⟩ c) ∧ ((((w.alloc (.cells #[.bool false, I 0, I 0] 25)).setCell ⟨w.heap.size, 0, none⟩ a).setCell ⟨w.heap.size, 1, none⟩ b).setCell ⟨w.heap.size, 2, none⟩ c).heap[w.heap.size]? = some (.cells #[a, b, c] 25)) := fun a b c => ⟨((hb.setCell (Nat.le_refl _) _).setCell (Nat.le_refl _) _).setCell (Nat.le_refl _) _, heap_setCell_same _ _ 2 _ _ _ (heap_setCell_same _ _ 1 _ _ _ (heap_setCell_same _ _ 0 _ _ _ hV))⟩
  clear h hb hV a1
  go_enter Tryz.func23, Tryz.ntmps23
  go_upto_region 1 with fail
  generalize w.alloc (.cells #[.bool false, I 0, I 0] 25) = w1 at *
  go_wp2_with (first | (go_at_call 35; refine hF.mono ?_; clear hF; rintro e w2 ⟨rfl, rfl⟩))
  exact bodyPost_ret (res_gate Tryz.results23 _ w.heap.size _ _ _ _ rfl (HB.out _ _ _).2) rfl ⟨rfl, (HB.out _ _ _).1⟩
theorem nHolder (h : NoL w t) (r : Int) : Calls Tryz.prog 18 #[t, I r] w fun e w' => e = .returned (.tuple #[.agg #[.bool false, I 0], .bool false]) ∧ Below w.heap.size w w' := by
  have hb := below_alloc w (.cells #[.bool false, I 0] 23)
  have hV := heap_alloc_new w (.cells #[.bool false, I 0] 23)
  obtain ⟨k0, k1⟩ := box_own w ⟨false, 0⟩
  have k3 : ∀ j, (w.alloc (.cells #[.bool false, I 0] 23)).frozen? ⟨w.heap.size, j, none⟩ = false := fun j => frozen_of_row _ _ j _ _ hV
  have hF := nNone (h.below hb)
  have HB : Hid (∀ a b, Below w.heap.size w (((w.alloc (.cells #[.bool false, I 0] 23)).setCell ⟨w.heap.size, 0, none⟩ a).setCell ⟨w.heap.size, 1, none⟩ b) ∧ (((w.alloc (.cells #[.bool false, I 0] 23)).setCell ⟨w.heap.size, 0, none⟩ a).setCell ⟨w.heap.size, 1, none⟩ b).heap[w.heap.size]? = some (.cells #[a, b] 23)) := fun a b => ⟨(hb.setCell (Nat.le_refl _) _).setCell (Nat.le_refl _) _, heap_setCell_same _ _ 1 _ _ _ (heap_setCell_same _ _ 0 _ _ _ hV)⟩
  clear h hb hV
  go_enter Tryz.func18, Tryz.ntmps18
  go_upto_region 1 with fail
  generalize w.alloc (.cells #[.bool false, I 0] 23) = w1 at *
  go_wp2_with (first | (go_at_call 35; refine hF.mono ?_; clear hF; rintro e w2 ⟨rfl, rfl⟩))
  exact bodyPost_ret (res_own2 Tryz.results18 _ w.heap.size _ _ _ _ rfl rfl (HB.out _ _).2) rfl ⟨rfl, (HB.out _ _).1⟩
end
end Go.Proofs.YtmllocfeflhjoaaGreat

namespace Go.Proofs.YtmllocfeflhjoaaGreat
open Go.RowKit Go.Maps Go.Shelf Go.Sort
open Go.Proofs.YtmllocfeflhjoaaGreat.St (Fx Fz iQ iP iV)
set_option linter.unusedVariables false
set_option linter.unusedSimpArgs false
set_option maxRecDepth 100000
set_option maxHeartbeats 16000000

/-! ### LockNobody -/
structure Nz (w0 w : World) (X : Nat) (t : Value) (x : Bool) (i : Int) (gs : Bool) (ga go : Int) : Prop where
  n : NoL w t
  b : Below X w0 w
  o : w.heap[X]? = some (.cells #[.bool x, I i] 23)
  g : w.heap[X + 1]? = some (.cells #[.bool gs, I ga, I go] 25)
section
variable {w0 w w' : World} {X : Nat} {t : Value} {x : Bool} {i : Int} {gs : Bool} {ga go : Int}
theorem Nz.below (h : Nz w0 w X t x i gs ga go) (hb : Below w.heap.size w w') : Nz w0 w' X t x i gs ga go :=
  ⟨h.n.below hb, h.b.trans (hb.mono (Nat.le_of_lt (heap_lt h.o))), (hb.block _ (heap_lt h.o)).trans h.o, (hb.block _ (heap_lt h.g)).trans h.g⟩
theorem Nz.cells (h : Nz w0 w X t x i gs ga go) : w.cell? ⟨X, 0, none⟩ = some (.bool x) ∧ w.cell? ⟨X, 1, none⟩ = some (I i) ∧ w.cell? ⟨X + 1, 0, none⟩ = some (.bool gs) ∧ w.cell? ⟨X + 1, 1, none⟩ = some (I ga) ∧ w.cell? ⟨X + 1, 2, none⟩ = some (I go) := by
  refine ⟨?_, ?_, ?_, ?_, ?_⟩
  · rw [cell_of_row w _ _ _ _ (0, 0) h.o]; rfl
  · rw [cell_of_row w _ _ _ _ (0, 0) h.o]; rfl
  · rw [cell_of_row w _ _ _ _ (0, 0) h.g]; rfl
  · rw [cell_of_row w _ _ _ _ (0, 0) h.g]; rfl
  · rw [cell_of_row w _ _ _ _ (0, 0) h.g]; rfl
theorem Nz.of {f : Nat} {args : Array Value} {v : Value} (h : Nz w0 w X t x i gs ga go) (c : Calls Tryz.prog f args w fun e w' => e = .returned v ∧ Below w.heap.size w w') : Calls Tryz.prog f args w fun e w' => e = .returned v ∧ Nz w0 w' X t x i gs ga go :=
  c.mono (fun e w' k => ⟨k.1, h.below k.2⟩)
theorem nobody_any (W : World) (h0 : NoL W t) (n : Int) : Calls Tryz.prog 5 #[t, .agg #[.bool x, I i], I n, .agg #[.bool gs, I ga, I go]] W fun e w' => e = .returned (.bool true) ∧ Below W.heap.size W w' := by
  have hb : Below W.heap.size W ((W.alloc (.cells #[.bool x, I i] 23)).alloc (.cells #[.bool gs, I ga, I go] 25)) := (below_alloc W _).trans ((below_alloc _ _).mono (by simp))
  have H1 : Nz W ((W.alloc (.cells #[.bool x, I i] 23)).alloc (.cells #[.bool gs, I ga, I go] 25)) W.heap.size t x i gs ga go := ⟨h0.below hb, hb, St.heap_over _ _ (heap_alloc_new W _), by have := heap_alloc_new (W.alloc (.cells #[.bool x, I i] 23)) (.cells #[.bool gs, I ga, I go] 25); rwa [World.size_alloc] at this⟩
  have HK : Hid (Nz W ((W.alloc (.cells #[.bool x, I i] 23)).alloc (.cells #[.bool gs, I ga, I go] 25)) W.heap.size t x i gs ga go) := H1
  clear hb H1 h0
  go_enter Tryz.func5, Tryz.ntmps5
  go_upto_region 1 with fail
  generalize (W.alloc (.cells #[.bool x, I i] 23)).alloc (.cells #[.bool gs, I ga, I go] 25) = w1 at *
  obtain ⟨p0, p1, p2, p3, p4⟩ := HK.out.cells
  have hc := HK.out.of (nGet HK.out.n x i n)
  go_upto_region 2 with (first | (go_at_call 11; refine hc.mono ?_; clear hc p0 p1 p2 p3 p4 HK; rintro e w2 ⟨rfl, HK0⟩))
  have HK : Hid (Nz W w2 W.heap.size t x i gs ga go) := HK0
  clear HK0
  obtain ⟨p0, p1, p2, p3, p4⟩ := HK.out.cells
  have hc := HK.out.of (nRelease HK.out.n x i n)
  go_upto_region 3 with (first | (go_at_call 16; refine hc.mono ?_; clear hc p0 p1 p2 p3 p4 HK; rintro e w3 ⟨rfl, HK0⟩))
  have HK : Hid (Nz W w3 W.heap.size t x i gs ga go) := HK0
  clear HK0
  obtain ⟨p0, p1, p2, p3, p4⟩ := HK.out.cells
  have hc := HK.out.of (nDrop HK.out.n x i)
  go_upto_region 4 with (first | (go_at_call 17; refine hc.mono ?_; clear hc p0 p1 p2 p3 p4 HK; rintro e w4 ⟨rfl, HK0⟩))
  have HK : Hid (Nz W w4 W.heap.size t x i gs ga go) := HK0
  clear HK0
  obtain ⟨p0, p1, p2, p3, p4⟩ := HK.out.cells
  have hc := HK.out.of (nHolder HK.out.n n)
  go_upto_region 5 with (first | (go_at_call 18; refine hc.mono ?_; clear hc p0 p1 p2 p3 p4 HK; rintro e w5 ⟨rfl, HK0⟩; have HK : Hid (Nz W (w5.alloc (.cells #[.bool false, I 0] 23)) W.heap.size t x i gs ga go) := HK0.below (below_alloc w5 _); obtain ⟨r0, r1⟩ := box_own w5 ⟨false, 0⟩; clear HK0))
  generalize hw6 : w5.alloc (.cells #[.bool false, I 0] 23) = w6 at *
  clear hw6
  obtain ⟨p0, p1, p2, p3, p4⟩ := HK.out.cells
  have hH := HK.out
  clear HK
  go_upto_region 7 with (first
    | (go_at_call 19; refine (hH.of (nHeld hH.n x i)).mono ?_; clear p0 p1 p2 p3 p4; rintro e wA ⟨rfl, hA⟩; obtain ⟨p0, p1, p2, p3, p4⟩ := hA.cells)
    | (go_at_call 20; refine (hA.of (nPriority hA.n x i)).mono ?_; clear p0 p1 p2 p3 p4; rintro e wB ⟨rfl, hB⟩; obtain ⟨p0, p1, p2, p3, p4⟩ := hB.cells)
    | (go_at_call 21; refine (hB.of (nHas hB.n n)).mono ?_; clear p0 p1 p2 p3 p4; rintro e wC ⟨rfl, hC⟩; obtain ⟨p0, p1, p2, p3, p4⟩ := hC.cells)
    | (go_at_call 22; refine (hC.of (nTakes hC.n n)).mono ?_; clear p0 p1 p2 p3 p4; rintro e wD ⟨rfl, hD⟩; obtain ⟨p0, p1, p2, p3, p4⟩ := hD.cells)
    | (go_at_call 23; refine (hD.of (nGate hD.n)).mono ?_; clear p0 p1 p2 p3 p4; rintro e wE ⟨rfl, hE⟩; obtain ⟨p0, p1, p2, p3, p4⟩ := hE.cells)
    | (go_at_call 9; refine (hE.of (nCopy hE.n)).mono ?_; clear p0 p1 p2 p3 p4; rintro e wF ⟨rfl, hF⟩; obtain ⟨p0, p1, p2, p3, p4⟩ := hF.cells))
  have HF := hF
  clear hH hA hB hC hD hE hF
  go_wp2_with (first
    | (go_at_call 12; refine (HF.of (nEnter HF.n n)).mono ?_; clear p0 p1 p2 p3 p4; rintro e wA ⟨rfl, hA⟩; obtain ⟨p0, p1, p2, p3, p4⟩ := hA.cells)
    | (go_at_call 24; refine (hA.of (nLeave hA.n n)).mono ?_; clear p0 p1 p2 p3 p4; rintro e wB ⟨rfl, hB⟩; obtain ⟨p0, p1, p2, p3, p4⟩ := hB.cells)
    | (go_at_call 13; refine (hB.of (nClose hB.n)).mono ?_; clear p0 p1 p2 p3 p4; rintro e wC ⟨rfl, hC⟩; obtain ⟨p0, p1, p2, p3, p4⟩ := hC.cells)
    | (go_at_call 25; refine (hC.of (nOpen hC.n)).mono ?_; clear p0 p1 p2 p3 p4; rintro e wD ⟨rfl, hD⟩; obtain ⟨p0, p1, p2, p3, p4⟩ := hD.cells)
    | (go_at_call 26; refine (hD.of (nSuspend hD.n true)).mono ?_; clear p0 p1 p2 p3 p4; rintro e wE ⟨rfl, hE⟩; obtain ⟨p0, p1, p2, p3, p4⟩ := hE.cells)
    | (go_at_call 27; refine (hE.of (nResume hE.n false)).mono ?_; clear p0 p1 p2 p3 p4; rintro e wF ⟨rfl, hF⟩; obtain ⟨p0, p1, p2, p3, p4⟩ := hF.cells)
    | (go_at_call 28; refine (hF.of (nPut hF.n gs ga go)).mono ?_; clear p0 p1 p2 p3 p4; rintro e wG ⟨rfl, hG⟩; obtain ⟨p0, p1, p2, p3, p4⟩ := hG.cells)
    | (go_at_call 29; refine (hG.of (nReset hG.n)).mono ?_; clear p0 p1 p2 p3 p4; rintro e wH ⟨rfl, hH⟩))
  go_ret
  exact ⟨rfl, hH.b⟩
end
end Go.Proofs.YtmllocfeflhjoaaGreat

namespace Go.Proofs.YtmllocfeflhjoaaGreat
open Go.RowKit Go.Maps Go.Shelf Go.Sort
open Go.Proofs.YtmllocfeflhjoaaGreat.St (Fx Fz iQ iP iV)
set_option linter.unusedVariables false
set_option linter.unusedSimpArgs false
set_option maxRecDepth 100000
set_option maxHeartbeats 8000000

theorem nobody_law (W : World) (x : Bool) (i n : Int) (gs : Bool) (ga go : Int) : Calls Tryz.prog 3 #[.agg #[.bool x, I i], I n, .agg #[.bool gs, I ga, I go]] W fun e w' => e = .returned (.bool true) ∧ Below W.heap.size W w' := by
  have hb : Below W.heap.size W ((W.alloc (.cells #[.bool x, I i] 23)).alloc (.cells #[.bool gs, I ga, I go] 25)) := (below_alloc W _).trans ((below_alloc _ _).mono (by simp))
  have H1 : Nz W ((W.alloc (.cells #[.bool x, I i] 23)).alloc (.cells #[.bool gs, I ga, I go] 25)) W.heap.size (.pointer none) x i gs ga go := ⟨.inl rfl, hb, St.heap_over _ _ (heap_alloc_new W _), by have := heap_alloc_new (W.alloc (.cells #[.bool x, I i] 23)) (.cells #[.bool gs, I ga, I go] 25); rwa [World.size_alloc] at this⟩
  have hH := heads_any
  have HK : Hid (Nz W ((W.alloc (.cells #[.bool x, I i] 23)).alloc (.cells #[.bool gs, I ga, I go] 25)) W.heap.size (.pointer none) x i gs ga go) := H1
  clear hb H1
  go_enter Tryz.func3, Tryz.ntmps3
  go_upto_region 2 with fail
  generalize (W.alloc (.cells #[.bool x, I i] 23)).alloc (.cells #[.bool gs, I ga, I go] 25) = w1 at *
  obtain ⟨p0, p1, p2, p3, p4⟩ := HK.out.cells
  have hc := HK.out.of (nobody_any (x := x) (i := i) (gs := gs) (ga := ga) (go := go) w1 HK.out.n n)
  have hd : ∀ w2 : World, Calls Tryz.prog 5 #[lp w2.heap.size, .agg #[.bool x, I i], I n, .agg #[.bool gs, I ga, I go]] (w2.alloc (.cells zLock 32)) fun e w' => e = .returned (.bool true) ∧ Below (w2.alloc (.cells zLock 32)).heap.size (w2.alloc (.cells zLock 32)) w' := fun w2 => nobody_any (x := x) (i := i) (gs := gs) (ga := ga) (go := go) _ (.inr ⟨_, rfl, heap_alloc_new w2 _⟩) n
  unfold zLock at hd
  go_wp2_with (first
    | (go_at_call 6; refine (hH _).mono ?_; rintro e w4 ⟨rfl, hb4⟩)
    | (go_at_call 5; refine hc.mono ?_; clear hc p0 p1 p2 p3 p4; rintro e w2 ⟨rfl, h2⟩; have h3 := h2.below (below_alloc w2 (.cells #[.slice none 0 0, .map none, .map none, .bool false, I 0, I 0] 32)); obtain ⟨p0, p1, p2, p3, p4⟩ := h3.cells)
    | (go_at_call 5; refine (hd _).mono ?_; rintro e w3 ⟨rfl, hb3⟩))
  go_ret
  exact ⟨rfl, (h3.b.trans ((hb3.trans (hb4.mono hb3.size)).mono (Nat.le_of_lt (heap_lt h3.o))))⟩
end Go.Proofs.YtmllocfeflhjoaaGreat

