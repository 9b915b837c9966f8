import Derived.Test.YtpoekphebmonnaaUop
namespace Go.Proofs.Ytpoekphebmonnaa
open Go.RowKit Go.Shelf Go.Sort
set_option linter.unusedVariables false
set_option linter.unusedSimpArgs false

/-! ### A clock that no call made -/
def Nob (w : World) (v : Value) : Prop := Calls Try.prog 35 #[v] w fun e w' => e = .returned (.bool true) ∧ w = w'
section
variable {w : World} {v : Value}
theorem nFind (h : Nob w v) (t : Int) : Calls Try.prog 55 #[v, I t] w fun e w' => e = .returned (.tuple #[.pointer none, I 3]) ∧ w = w' := by
  have hN : Calls Try.prog 35 #[v] w fun e w' => e = .returned (.bool true) ∧ w = w' := h
  go_enter Try.func55, Try.ntmps55
  go_wp2_with (first | (go_at_call 35; refine hN.mono ?_; rintro e w1 ⟨rfl, rfl⟩))
  go_ret2
  exact ⟨rfl, rfl⟩
theorem nFindSet (h : Nob w v) (t : Int) : Calls Try.prog 40 #[v, I t] w fun e w' => e = .returned (.tuple #[.pointer none, I 3]) ∧ w = w' := by
  have hO := nFind h t
  go_enter Try.func40, Try.ntmps40
  go_wp2_with (first | (go_at_call 55; refine hO.mono ?_; rintro e w1 ⟨rfl, rfl⟩))
  go_ret2
  exact ⟨rfl, rfl⟩
theorem nSetBy (h : Nob w v) (fv : Value) (t : Int) (x y : Nat) : Calls Try.prog 37 #[v, fv, I t, U x, U y] w fun e w' => e = .returned (I 3) ∧ w = w' := by
  have hO := nFind h t
  go_enter Try.func37, Try.ntmps37
  go_wp2_with (first | (go_at_call 55; refine hO.mono ?_; rintro e w1 ⟨rfl, rfl⟩))
  go_ret
  exact ⟨rfl, rfl⟩
theorem nRel (h : Nob w v) (t : Int) (x y : Nat) : Calls Try.prog 18 #[v, I t, U x, U y] w fun e w' => e = .returned (I 3) ∧ w = w' := by
  have hO := fun fv => nSetBy h fv t x y
  go_enter Try.func18, Try.ntmps18
  go_wp2_with (first | (go_at_call 37; refine (hO _).mono ?_; rintro e w1 ⟨rfl, rfl⟩))
  go_ret
  exact ⟨rfl, rfl⟩
theorem nAbs (h : Nob w v) (t : Int) (x y : Nat) : Calls Try.prog 17 #[v, I t, U x, U y] w fun e w' => e = .returned (I 3) ∧ w = w' := by
  have hO := fun fv => nSetBy h fv t x y
  go_enter Try.func17, Try.ntmps17
  go_wp2_with (first | (go_at_call 37; refine (hO _).mono ?_; rintro e w1 ⟨rfl, rfl⟩))
  go_ret
  exact ⟨rfl, rfl⟩
theorem nSet (h : Nob w v) (t : Int) (x y : Nat) : Calls Try.prog 26 #[v, I t, U x, U y] w fun e w' => e = .returned (I 3) ∧ w = w' := by
  have hO := fun fv => nSetBy h fv t x y
  go_enter Try.func26, Try.ntmps26
  go_wp2_with (first | (go_at_call 37; refine (hO _).mono ?_; rintro e w1 ⟨rfl, rfl⟩))
  go_ret
  exact ⟨rfl, rfl⟩
theorem nCancel (h : Nob w v) (t : Int) : Calls Try.prog 20 #[v, I t] w fun e w' => e = .returned (I 3) ∧ w = w' := by
  have hO := nFindSet h t
  go_enter Try.func20, Try.ntmps20
  go_wp2_with (first | (go_at_call 40; refine hO.mono ?_; rintro e w1 ⟨rfl, rfl⟩))
  go_ret
  exact ⟨rfl, rfl⟩
theorem nLeft (h : Nob w v) (t : Int) : Calls Try.prog 19 #[v, I t] w fun e w' => e = .returned (.tuple #[Q 0, I 3]) ∧ w = w' := by
  have hO := nFindSet h t
  go_enter Try.func19, Try.ntmps19
  go_wp2_with (first | (go_at_call 40; refine hO.mono ?_; rintro e w1 ⟨rfl, rfl⟩))
  go_ret2
  exact ⟨rfl, rfl⟩
theorem nCycle (h : Nob w v) (t : Int) : Calls Try.prog 25 #[v, I t] w fun e w' => e = .returned (.tuple #[U 0, I 3]) ∧ w = w' := by
  have hO := nFindSet h t
  go_enter Try.func25, Try.ntmps25
  go_wp2_with (first | (go_at_call 40; refine hO.mono ?_; rintro e w1 ⟨rfl, rfl⟩))
  go_ret2
  exact ⟨rfl, rfl⟩
theorem nTick (h : Nob w v) : Calls Try.prog 15 #[v] w fun e w' => e = .returned (.slice none 0 0) ∧ w = w' := by
  have hN : Calls Try.prog 35 #[v] w fun e w' => e = .returned (.bool true) ∧ w = w' := h
  go_enter Try.func15, Try.ntmps15
  go_wp2_with (first | (go_at_call 35; refine hN.mono ?_; rintro e w1 ⟨rfl, rfl⟩))
  go_ret
  exact ⟨rfl, rfl⟩
theorem nComing (h : Nob w v) (t : Int) : Calls Try.prog 24 #[v, I t] w fun e w' => e = .returned (.slice none 0 0) ∧ w = w' := by
  have hN : Calls Try.prog 35 #[v] w fun e w' => e = .returned (.bool true) ∧ w = w' := h
  go_enter Try.func24, Try.ntmps24
  go_wp2_with (first | (go_at_call 35; refine hN.mono ?_; rintro e w1 ⟨rfl, rfl⟩))
  go_ret
  exact ⟨rfl, rfl⟩
theorem nReset (h : Nob w v) : Calls Try.prog 27 #[v] w fun e w' => e = .returned (.tuple #[]) ∧ w = w' := by
  have hN : Calls Try.prog 35 #[v] w fun e w' => e = .returned (.bool true) ∧ w = w' := h
  go_enter Try.func27, Try.ntmps27
  go_wp2_with (first | (go_at_call 35; refine hN.mono ?_; rintro e w1 ⟨rfl, rfl⟩))
  exact bodyPost_ret (v := .tuple #[]) (by simp [results, Try.results27, go_sem]) rfl ⟨rfl, rfl⟩
theorem nValue (h : Nob w v) : Calls Try.prog 16 #[v] w fun e w' => e = .returned (U 0) ∧ w = w' := by
  have hN : Calls Try.prog 35 #[v] w fun e w' => e = .returned (.bool true) ∧ w = w' := h
  go_enter Try.func16, Try.ntmps16
  go_wp2_with (first | (go_at_call 35; refine hN.mono ?_; rintro e w1 ⟨rfl, rfl⟩))
  go_ret
  exact ⟨rfl, rfl⟩
theorem nCopy (h : Nob w v) : Calls Try.prog 28 #[v] w fun e w' => e = .returned (.pointer none) ∧ w = w' := by
  have hN : Calls Try.prog 35 #[v] w fun e w' => e = .returned (.bool true) ∧ w = w' := h
  go_enter Try.func28, Try.ntmps28
  go_wp2_with (first | (go_at_call 35; refine hN.mono ?_; rintro e w1 ⟨rfl, rfl⟩))
  go_ret
  exact ⟨rfl, rfl⟩
end
theorem nob_nil (w : World) : Nob w (.pointer none) := none_nil w
theorem nob_zero {w : World} {X : Nat} (h : w.heap[X]? = some (.cells #[U 0, U 0, U 0, .slice none 0 0] 57)) : Nob w (cP X) := none_zero w X (by rw [cell_of_row w X _ _ _ (0, 0) h]; rfl)
set_option maxHeartbeats 16000000 in
set_option maxRecDepth 100000 in
theorem nobody_nil (W : World) (s : Sl) (l : List Cl) (h : RowsAt W 4 actP s l) (hl : l.length ≤ 5864062014805) : Calls Try.prog 7 #[.slice s.a s.n s.c, .bool false] W fun e w' => e = .returned (.bool true) ∧ Below W.heap.size W w' := by
  obtain ⟨a1, n1, c1⟩ := s
  have hn1 := h.n
  simp only at hn1
  subst hn1
  have HN : Hid (∀ Z, Below (W).heap.size (W) Z → Nob Z (.pointer none)) := fun Z hZ => nob_nil Z
  have HB : Hid (Below W.heap.size W (W)) := Below.refl _ _
  go_enter Try.func7, Try.ntmps7
  go_wp2
  have HB2 : Hid (Below W.heap.size W W) := Below.refl _ _
  go_loopw [6, 7, 8, 9, 10, 11] (fun v6 _ _ _ _ _ wr => ∃ i : Nat, i ≤ l.length ∧ v6 = I i ∧ Hid (Below W.heap.size W wr)) (fun v6 _ _ _ _ _ _ => l.length - (intOf v6).toNat)
  case atStart => exact ⟨0, by omega, rfl, Below.refl _ _⟩
  case round =>
    obtain ⟨i, hi1, rfl, HJ⟩ := hrel
    by_cases hlt : i < l.length
    · obtain ⟨⟨kd, tk, x, y⟩, hx⟩ : ∃ x, l[i]? = some x := ⟨_, List.getElem?_eq_getElem hlt⟩
      have hltI : (i : Int) < l.length := by omega
      obtain ⟨ga, off, rfl, -, -, hcx⟩ := acts_cell h hx
      obtain ⟨x0, x1, x2, x3⟩ := hcx wr (HB.out.trans (HJ.out.mono HB.out.size))
      clear hcx hx
      go_upto_region 8 with (first | fail)
      clear x0 x1 x2 x3
      have HJ0 : Hid (Below W.heap.size W (wr.alloc (.cells #[I kd, I tk, U x, U y] 46))) := HJ.out.trans ((below_alloc _ _).mono HJ.out.size)
      have y1 : (wr.alloc (.cells #[I kd, I tk, U x, U y] 46)).cell? ⟨wr.heap.size, 1, none⟩ = some (I tk) := by rw [cell_of_row _ _ _ _ _ (0, 0) (heap_alloc_new wr _)]; rfl
      have y2 : (wr.alloc (.cells #[I kd, I tk, U x, U y] 46)).cell? ⟨wr.heap.size, 2, none⟩ = some (U x) := by rw [cell_of_row _ _ _ _ _ (0, 0) (heap_alloc_new wr _)]; rfl
      have y3 : (wr.alloc (.cells #[I kd, I tk, U x, U y] 46)).cell? ⟨wr.heap.size, 3, none⟩ = some (U y) := by rw [cell_of_row _ _ _ _ _ (0, 0) (heap_alloc_new wr _)]; rfl
      clear HJ
      generalize wr.heap.size = X at *
      generalize (wr.alloc (.cells #[I kd, I tk, U x, U y] 46)) = wx at *
      have hN := HN.out wx HJ0.out
      have r1 := nLeft hN tk
      have r2 := nCycle hN tk
      have r3 := nRel hN tk x y
      have r4 := nAbs hN tk x y
      have r5 := nSet hN tk x y
      have r6 := nCancel hN tk
      have r7 := nTick hN
      have r8 := nComing hN tk
      have r9 := nReset hN
      clear hN
      go_wp2_with (first
        | (go_at_call 19; refine r1.mono ?_; clear r1; rintro e w1 ⟨rfl, rfl⟩)
        | (go_at_call 25; refine r2.mono ?_; clear r2; rintro e w1 ⟨rfl, rfl⟩)
        | (go_at_call 18; refine r3.mono ?_; clear r3; rintro e w1 ⟨rfl, rfl⟩)
        | (go_at_call 17; refine r4.mono ?_; clear r4; rintro e w1 ⟨rfl, rfl⟩)
        | (go_at_call 26; refine r5.mono ?_; clear r5; rintro e w1 ⟨rfl, rfl⟩)
        | (go_at_call 20; refine r6.mono ?_; clear r6; rintro e w1 ⟨rfl, rfl⟩)
        | (go_at_call 15; refine r7.mono ?_; clear r7; rintro e w1 ⟨rfl, rfl⟩)
        | (go_at_call 24; refine r8.mono ?_; clear r8; rintro e w1 ⟨rfl, rfl⟩)
        | (go_at_call 27; refine r9.mono ?_; clear r9; rintro e w1 ⟨rfl, rfl⟩))
      go_roundw
      case rel => exact ⟨i + 1, by omega, by go_num, HJ0.out⟩
      case measure => simp [intOf]; omega
    · obtain rfl : i = l.length := by omega
      have hge : ¬ ((l.length : Int) < l.length) := by omega
      have hN := HN.out wr HJ.out
      have r1 := nValue hN
      have r2 := nCopy hN
      clear hN
      go_wp2_with (first
        | (go_at_call 16; refine r1.mono ?_; clear r1; rintro e w1 ⟨rfl, rfl⟩)
        | (go_at_call 28; refine r2.mono ?_; clear r2; rintro e w1 ⟨rfl, rfl⟩)
        | (go_at_call 9; refine (alive_any _).mono ?_; rintro e wa ⟨rfl, ba⟩))
      go_ret
      have hb := HB.out.trans (HJ.out.mono HB.out.size)
      exact ⟨rfl, hb.trans (ba.mono hb.size)⟩
set_option maxHeartbeats 16000000 in
set_option maxRecDepth 100000 in
theorem nobody_zero (W : World) (s : Sl) (l : List Cl) (h : RowsAt W 4 actP s l) (hl : l.length ≤ 5864062014805) : Calls Try.prog 7 #[.slice s.a s.n s.c, .bool true] W fun e w' => e = .returned (.bool true) ∧ Below W.heap.size W w' := by
  obtain ⟨a1, n1, c1⟩ := s
  have hn1 := h.n
  simp only at hn1
  subst hn1
  have HN : Hid (∀ Z, Below (W.alloc (.cells #[U 0, U 0, U 0, .slice none 0 0] 57)).heap.size (W.alloc (.cells #[U 0, U 0, U 0, .slice none 0 0] 57)) Z → Nob Z (cP W.heap.size)) := fun Z hZ => nob_zero ((hZ.block _ (by simp)).trans (heap_alloc_new W _))
  have HB : Hid (Below W.heap.size W (W.alloc (.cells #[U 0, U 0, U 0, .slice none 0 0] 57))) := below_alloc _ _
  go_enter Try.func7, Try.ntmps7
  go_wp2
  generalize hW1 : W.alloc (.cells #[U 0, U 0, U 0, .slice none 0 0] 57) = W1 at *
  clear hW1
  go_loopw [6, 7, 8, 9, 10, 11] (fun v6 _ _ _ _ _ wr => ∃ i : Nat, i ≤ l.length ∧ v6 = I i ∧ Hid (Below W1.heap.size W1 wr)) (fun v6 _ _ _ _ _ _ => l.length - (intOf v6).toNat)
  case atStart => exact ⟨0, by omega, rfl, Below.refl _ _⟩
  case round =>
    obtain ⟨i, hi1, rfl, HJ⟩ := hrel
    by_cases hlt : i < l.length
    · obtain ⟨⟨kd, tk, x, y⟩, hx⟩ : ∃ x, l[i]? = some x := ⟨_, List.getElem?_eq_getElem hlt⟩
      have hltI : (i : Int) < l.length := by omega
      obtain ⟨ga, off, rfl, -, -, hcx⟩ := acts_cell h hx
      obtain ⟨x0, x1, x2, x3⟩ := hcx wr (HB.out.trans (HJ.out.mono HB.out.size))
      clear hcx hx
      go_upto_region 8 with (first | fail)
      clear x0 x1 x2 x3
      have HJ0 : Hid (Below W1.heap.size W1 (wr.alloc (.cells #[I kd, I tk, U x, U y] 46))) := HJ.out.trans ((below_alloc _ _).mono HJ.out.size)
      have y1 : (wr.alloc (.cells #[I kd, I tk, U x, U y] 46)).cell? ⟨wr.heap.size, 1, none⟩ = some (I tk) := by rw [cell_of_row _ _ _ _ _ (0, 0) (heap_alloc_new wr _)]; rfl
      have y2 : (wr.alloc (.cells #[I kd, I tk, U x, U y] 46)).cell? ⟨wr.heap.size, 2, none⟩ = some (U x) := by rw [cell_of_row _ _ _ _ _ (0, 0) (heap_alloc_new wr _)]; rfl
      have y3 : (wr.alloc (.cells #[I kd, I tk, U x, U y] 46)).cell? ⟨wr.heap.size, 3, none⟩ = some (U y) := by rw [cell_of_row _ _ _ _ _ (0, 0) (heap_alloc_new wr _)]; rfl
      clear HJ
      generalize wr.heap.size = X at *
      generalize (wr.alloc (.cells #[I kd, I tk, U x, U y] 46)) = wx at *
      have hN := HN.out wx HJ0.out
      have r1 := nLeft hN tk
      have r2 := nCycle hN tk
      have r3 := nRel hN tk x y
      have r4 := nAbs hN tk x y
      have r5 := nSet hN tk x y
      have r6 := nCancel hN tk
      have r7 := nTick hN
      have r8 := nComing hN tk
      have r9 := nReset hN
      clear hN
      go_wp2_with (first
        | (go_at_call 19; refine r1.mono ?_; clear r1; rintro e w1 ⟨rfl, rfl⟩)
        | (go_at_call 25; refine r2.mono ?_; clear r2; rintro e w1 ⟨rfl, rfl⟩)
        | (go_at_call 18; refine r3.mono ?_; clear r3; rintro e w1 ⟨rfl, rfl⟩)
        | (go_at_call 17; refine r4.mono ?_; clear r4; rintro e w1 ⟨rfl, rfl⟩)
        | (go_at_call 26; refine r5.mono ?_; clear r5; rintro e w1 ⟨rfl, rfl⟩)
        | (go_at_call 20; refine r6.mono ?_; clear r6; rintro e w1 ⟨rfl, rfl⟩)
        | (go_at_call 15; refine r7.mono ?_; clear r7; rintro e w1 ⟨rfl, rfl⟩)
        | (go_at_call 24; refine r8.mono ?_; clear r8; rintro e w1 ⟨rfl, rfl⟩)
        | (go_at_call 27; refine r9.mono ?_; clear r9; rintro e w1 ⟨rfl, rfl⟩))
      go_roundw
      case rel => exact ⟨i + 1, by omega, by go_num, HJ0.out⟩
      case measure => simp [intOf]; omega
    · obtain rfl : i = l.length := by omega
      have hge : ¬ ((l.length : Int) < l.length) := by omega
      have hN := HN.out wr HJ.out
      have r1 := nValue hN
      have r2 := nCopy hN
      clear hN
      go_wp2_with (first
        | (go_at_call 16; refine r1.mono ?_; clear r1; rintro e w1 ⟨rfl, rfl⟩)
        | (go_at_call 28; refine r2.mono ?_; clear r2; rintro e w1 ⟨rfl, rfl⟩)
        | (go_at_call 9; refine (alive_any _).mono ?_; rintro e wa ⟨rfl, ba⟩))
      go_ret
      have hb := HB.out.trans (HJ.out.mono HB.out.size)
      exact ⟨rfl, hb.trans (ba.mono hb.size)⟩
theorem nobody_law (W : World) (s : Sl) (l : List Cl) (h : RowsAt W 4 actP s l) (hl : l.length ≤ 5864062014805) (p : Bool) : Calls Try.prog 7 #[.slice s.a s.n s.c, .bool p] W fun e w' => e = .returned (.bool true) ∧ Below W.heap.size W w' := by
  cases p with
  | false => exact nobody_nil W s l h hl
  | true => exact nobody_zero W s l h hl
end Go.Proofs.Ytpoekphebmonnaa
