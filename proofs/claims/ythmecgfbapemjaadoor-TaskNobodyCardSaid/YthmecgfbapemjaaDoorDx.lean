import Derived.Test.YthmecgfbapemjaaDoorDp
import Derived.Test.YthmecgfbapemjaaDoorDr
import Derived.Test.YthmecgfbapemjaaDoorDu
import Derived.Test.YthmecgfbapemjaaDoorDv
import Derived.Test.YthmecgfbapemjaaDoorDop
namespace Go.Proofs.YthmecgfbapemjaaDoor
open Go.RowKit Go.Shelf Go.Sort
set_option linter.unusedVariables false
set_option linter.unusedSimpArgs false

/-! ### A table that no call made -/
section
variable {Z : World} {t : Value}
def NoT (Z : World) (t : Value) : Prop := Calls Tryd.prog 32 #[t] Z fun e w' => e = .returned (.bool true) ∧ Z = w'
theorem nHas (hN : NoT Z t) (i : Int) : Calls Tryd.prog 30 #[t, I i] Z fun e w' => e = .returned (.bool false) ∧ Z = w' := by
  unfold NoT at hN
  go_enter Tryd.func30, Tryd.ntmps30
  go_wp2_with (first | (go_at_call 32; refine hN.mono ?_; rintro e w1 ⟨rfl, rfl⟩))
  go_ret
  exact ⟨rfl, rfl⟩
theorem nState (hN : NoT Z t) (i : Int) : Calls Tryd.prog 15 #[t, I i] Z fun e w' => e = .returned (.tuple #[I 0, I 3]) ∧ Z = w' := by
  unfold NoT at hN
  have hH := nHas hN i
  go_enter Tryd.func15, Tryd.ntmps15
  go_wp2_with (first | (go_at_call 30; refine hH.mono ?_; rintro e w1 ⟨rfl, rfl⟩))
  go_ret2
  exact ⟨rfl, rfl⟩
theorem nActive (hN : NoT Z t) (i : Int) : Calls Tryd.prog 19 #[t, I i] Z fun e w' => e = .returned (I 0) ∧ Z = w' := by
  unfold NoT at hN
  have hH := nHas hN i
  go_enter Tryd.func19, Tryd.ntmps19
  go_wp2_with (first | (go_at_call 30; refine hH.mono ?_; rintro e w1 ⟨rfl, rfl⟩))
  go_ret
  exact ⟨rfl, rfl⟩
theorem nActivate (hN : NoT Z t) (i : Int) : Calls Tryd.prog 11 #[t, I i] Z fun e w' => e = .returned (.tuple #[.bool false, I 3]) ∧ Z = w' := by
  unfold NoT at hN
  have hH := nHas hN i
  go_enter Tryd.func11, Tryd.ntmps11
  go_wp2_with (first | (go_at_call 30; refine hH.mono ?_; rintro e w1 ⟨rfl, rfl⟩))
  go_ret2
  exact ⟨rfl, rfl⟩
theorem nRunning (hN : NoT Z t) : Calls Tryd.prog 13 #[t] Z fun e w' => e = .returned (I (-1)) ∧ Z = w' := by
  unfold NoT at hN
  go_enter Tryd.func13, Tryd.ntmps13
  go_wp2_with (first | (go_at_call 32; refine hN.mono ?_; rintro e w1 ⟨rfl, rfl⟩))
  go_ret
  exact ⟨rfl, rfl⟩
theorem nThose (hN : NoT Z t) (i : Int) : Calls Tryd.prog 21 #[t, I i] Z fun e w' => e = .returned (.slice none 0 0) ∧ Z = w' := by
  unfold NoT at hN
  go_enter Tryd.func21, Tryd.ntmps21
  go_wp2_with (first | (go_at_call 32; refine hN.mono ?_; rintro e w1 ⟨rfl, rfl⟩))
  go_ret
  exact ⟨rfl, rfl⟩
theorem nStart (hN : NoT Z t) (i : Int) : Calls Tryd.prog 12 #[t, I i] Z fun e w' => e = .returned (I 1) ∧ Z = w' := by
  unfold NoT at hN
  go_enter Tryd.func12, Tryd.ntmps12
  go_wp2_with (first | (go_at_call 32; refine hN.mono ?_; rintro e w1 ⟨rfl, rfl⟩))
  go_ret
  exact ⟨rfl, rfl⟩
theorem nRelease (hN : NoT Z t) (i : Int) : Calls Tryd.prog 16 #[t, I i] Z fun e w' => e = .returned (I 1) ∧ Z = w' := by
  unfold NoT at hN
  go_enter Tryd.func16, Tryd.ntmps16
  go_wp2_with (first | (go_at_call 32; refine hN.mono ?_; rintro e w1 ⟨rfl, rfl⟩))
  go_ret
  exact ⟨rfl, rfl⟩
theorem nLeave (hN : NoT Z t) (i : Int) : Calls Tryd.prog 33 #[t, I i] Z fun e w' => e = .returned (.tuple #[I (-1), I 1]) ∧ Z = w' := by
  unfold NoT at hN
  go_enter Tryd.func33, Tryd.ntmps33
  go_wp2_with (first | (go_at_call 32; refine hN.mono ?_; rintro e w1 ⟨rfl, rfl⟩))
  go_ret2
  exact ⟨rfl, rfl⟩
theorem nPreempt (hN : NoT Z t) : Calls Tryd.prog 17 #[t] Z fun e w' => e = .returned (.tuple #[I (-1), I 1]) ∧ Z = w' := by
  unfold NoT at hN
  have hL := nLeave hN 2
  go_enter Tryd.func17, Tryd.ntmps17
  go_wp2_with (first | (go_at_call 33; refine hL.mono ?_; rintro e w1 ⟨rfl, rfl⟩))
  go_ret2
  exact ⟨rfl, rfl⟩
theorem nAgain (hN : NoT Z t) : Calls Tryd.prog 18 #[t] Z fun e w' => e = .returned (.tuple #[I (-1), I 1]) ∧ Z = w' := by
  unfold NoT at hN
  have hL := nLeave hN 2
  go_enter Tryd.func18, Tryd.ntmps18
  go_wp2_with (first | (go_at_call 33; refine hL.mono ?_; rintro e w1 ⟨rfl, rfl⟩))
  go_ret2
  exact ⟨rfl, rfl⟩
theorem nWait (hN : NoT Z t) : Calls Tryd.prog 14 #[t] Z fun e w' => e = .returned (.tuple #[I (-1), I 1]) ∧ Z = w' := by
  unfold NoT at hN
  have hL := nLeave hN 1
  go_enter Tryd.func14, Tryd.ntmps14
  go_wp2_with (first | (go_at_call 33; refine hL.mono ?_; rintro e w1 ⟨rfl, rfl⟩))
  go_ret2
  exact ⟨rfl, rfl⟩
theorem nEnd (hN : NoT Z t) : Calls Tryd.prog 20 #[t] Z fun e w' => e = .returned (.tuple #[I (-1), I 0, I 1]) ∧ Z = w' := by
  unfold NoT at hN
  have hL := nLeave hN 2
  have hR := nRunning hN
  have hA := nActive hN (-1)
  go_enter Tryd.func20, Tryd.ntmps20
  go_wp2_with (first | (go_at_call 33; refine hL.mono ?_; rintro e w1 ⟨rfl, rfl⟩) | (go_at_call 13; refine hR.mono ?_; rintro e w1 ⟨rfl, rfl⟩) | (go_at_call 19; refine hA.mono ?_; rintro e w1 ⟨rfl, rfl⟩))
  go_ret3
  exact ⟨rfl, rfl⟩
theorem nCopy (hN : NoT Z t) : Calls Tryd.prog 24 #[t] Z fun e w' => e = .returned (.pointer none) ∧ Z = w' := by
  unfold NoT at hN
  go_enter Tryd.func24, Tryd.ntmps24
  go_wp2_with (first | (go_at_call 32; refine hN.mono ?_; rintro e w1 ⟨rfl, rfl⟩))
  go_ret
  exact ⟨rfl, rfl⟩
theorem nReset (hN : NoT Z t) : Calls Tryd.prog 26 #[t] Z fun e w' => e = .returned (.tuple #[]) ∧ Z = w' := by
  unfold NoT at hN
  go_enter Tryd.func26, Tryd.ntmps26
  go_wp2_with (first | (go_at_call 32; refine hN.mono ?_; rintro e w1 ⟨rfl, rfl⟩))
  refine bodyPost_ret (v := .tuple #[]) (by simp [results, Tryd.results26, go_sem]) rfl ?_
  exact ⟨rfl, rfl⟩
end
abbrev nD (Z : World) (D : Nat) : Prop := Dk Z D false (.slice none 0 0) (.slice none 0 0) (.slice none 0 0) [] []
theorem nD_mk {Z : World} {D : Nat} (h : Z.heap[D]? = some (.cells #[.bool false, .slice none 0 0, .slice none 0 0, .slice none 0 0] 57)) : nD Z D :=
  ⟨h, World.ownsRow_nil _ _ _ _, World.ownsRow_nil _ _ _ _, World.ownsRow_nil _ _ _ _, fun e => (by cases e), fun e => (by cases e), fun e => (by cases e), rfl, Nat.zero_le _⟩
/-- neither of the two was made; whatever comes, they stay so -/
structure Nob (W Z : World) (t : Value) (D : Nat) : Prop where
  t : ∀ Z', Below Z.heap.size Z Z' → NoT Z' t
  d : nD Z D
  b : Below W.heap.size W Z
theorem Nob.up {W Z Z' : World} {t : Value} {D : Nat} (h : Nob W Z t D) (hb : Below Z.heap.size Z Z') : Nob W Z' t D :=
  ⟨fun Z2 h2 => h.t Z2 (hb.trans (h2.mono hb.size)), h.d.below hb, h.b.trans (hb.mono h.b.size)⟩
theorem Nob.no {W Z : World} {t : Value} {D : Nat} (h : Nob W Z t D) : NoT Z t := h.t Z (Below.refl _ _)
theorem ndActivate {Z : World} {D : Nat} (h : nD Z D) (i : Int) : Calls Tryd.prog 34 #[cP D, I i] Z fun e w' => e = .returned (.tuple #[.bool false, I 3]) ∧ Z = w' := by
  have hH := dhas_any h i
  rw [show hasB ([] : List Rw).length i = false by unfold hasB; simp] at hH
  go_enter Tryd.func34, Tryd.ntmps34
  go_wp2_with (first | (go_at_call 44; refine hH.mono ?_; rintro e w1 ⟨rfl, rfl⟩))
  go_ret2
  exact ⟨rfl, rfl⟩
theorem ndReset {Z : World} {D : Nat} (h : nD Z D) : Calls Tryd.prog 37 #[cP D] Z fun e w' => e = .returned (.tuple #[]) ∧ Z = w' := by
  obtain ⟨c0, c1, c2, c3⟩ := h.cells
  go_enter Tryd.func37, Tryd.ntmps37
  go_wp2
  go_loopw [2] (fun v2 wr => v2 = I 0 ∧ Z = wr) (fun _ _ => 0)
  case atStart => exact ⟨rfl, rfl⟩
  case round =>
    obtain ⟨rfl, rfl⟩ := hrel
    go_wp2
    refine bodyPost_end (v := .tuple #[]) (by simp [results, Tryd.results37, go_sem]) rfl ?_
    exact ⟨rfl, rfl⟩
theorem nob_both (W : World) (t : Value) (D : Nat) : Both (fun _ => False) (fun Z => Nob W Z t D) t (cP D) := by
  have F : ∀ Z : World, Fz (fun _ => False) Z Z := fun Z => Fz.refl _ _
  refine ⟨fun Z Z' h hb => h.up hb, fun Z b h e => e.elim, ?_, ?_, ?_, ?_, ?_, ?_, ?_, ?_⟩
  · intro Z i h
    refine (nActivate h.no i).mono ?_
    rintro e w' ⟨rfl, rfl⟩
    refine ⟨F _, _, _, rfl, (ndActivate h.d i).mono ?_⟩
    rintro e w2 ⟨rfl, rfl⟩
    exact ⟨rfl, h, F _⟩
  · intro Z i h
    refine (dMove_no h.d i 2 0).mono ?_
    rintro e w' ⟨rfl, rfl⟩
    refine ⟨F _, _, _, rfl, (nStart h.no i).mono ?_⟩
    rintro e w2 ⟨rfl, rfl⟩
    exact ⟨rfl, h, F _⟩
  · intro Z h
    refine (nPreempt h.no).mono ?_
    rintro e w' ⟨rfl, rfl⟩
    refine ⟨F _, _, _, rfl, (dMove_no h.d (-1) 0 2).mono ?_⟩
    rintro e w2 ⟨rfl, rfl⟩
    exact ⟨rfl, h, F _⟩
  · intro Z h
    refine (nWait h.no).mono ?_
    rintro e w' ⟨rfl, rfl⟩
    refine ⟨F _, _, _, rfl, (dMove_no h.d (-1) 0 1).mono ?_⟩
    rintro e w2 ⟨rfl, rfl⟩
    exact ⟨rfl, h, F _⟩
  · intro Z i h
    refine (dMove_no h.d i 1 2).mono ?_
    rintro e w' ⟨rfl, rfl⟩
    refine ⟨F _, _, _, rfl, (nRelease h.no i).mono ?_⟩
    rintro e w2 ⟨rfl, rfl⟩
    exact ⟨rfl, h, F _⟩
  · intro Z h
    refine (nEnd h.no).mono ?_
    rintro e w' ⟨rfl, rfl⟩
    refine ⟨F _, _, _, _, rfl, (dEnd_no h.d).mono ?_⟩
    rintro e w2 ⟨rfl, rfl⟩
    exact ⟨rfl, h, F _⟩
  · intro Z h
    refine (nAgain h.no).mono ?_
    rintro e w' ⟨rfl, rfl⟩
    refine ⟨F _, _, _, rfl, (dMove_no h.d (-1) 0 2).mono ?_⟩
    rintro e w2 ⟨rfl, rfl⟩
    exact ⟨rfl, h, F _⟩
  · intro Z h
    refine (nReset h.no).mono ?_
    rintro e w' ⟨rfl, rfl⟩
    refine ⟨F _, rfl, (ndReset h.d).mono ?_⟩
    rintro e w2 ⟨rfl, rfl⟩
    exact ⟨rfl, h, F _⟩
theorem nob_tells {W Z : World} {t : Value} {D : Nat} (h : Nob W Z t D) : Tells Z t D 0 none 0 (-1) (fun _ => 0) (fun _ => 3) (fun _ => 0) (fun _ => []) := by
  have hb0 : ∀ i : Int, hasB ([] : List Rw).length i = false := fun i => by unfold hasB; simp
  have hrun : runI [] = -1 := rfl
  refine ⟨fun Z' hb => ((h.up hb).d.cells).2.1, ?_, ?_, ?_, ?_, ?_, ?_, ?_, ?_, ⟨Nat.zero_le _, fun s => Nat.zero_le _⟩⟩
  · intro Z' hb
    refine (nRunning (h.up hb).no).mono ?_
    rintro e w' ⟨rfl, rfl⟩
    exact ⟨rfl, Below.refl _ _⟩
  · exact fun Z' hb => dRunning_any (h.up hb).d
  · exact fun Z' i hb => nState (h.up hb).no i
  · intro Z' i hb
    have := dGet_any (h.up hb).d i
    rw [staS, eidS, hb0] at this
    exact this
  · exact fun Z' i hb => nActive (h.up hb).no i
  · intro Z' i hb
    have := dActive_any (h.up hb).d i
    rw [actN, hb0] at this
    exact this
  · intro Z' s hb
    refine (nThose (h.up hb).no s).mono ?_
    rintro e w' ⟨rfl, rfl⟩
    exact ⟨none, 0, rfl, World.ownsRow_nil _ _ _ _, Below.refl _ _⟩
  · exact fun Z' s hb => dThose_any (h.up hb).d s
theorem nob_nil {W Z : World} {D : Nat} (hb : Below W.heap.size W Z) (hd : nD Z D) : Nob W Z (.pointer none) D := ⟨fun Z' _ => none_nil Z', hd, hb⟩
theorem nob_plain {W Z : World} {B D : Nat} (hb : Below W.heap.size W Z) (hd : nD Z D) (hB : Z.heap[B]? = some (.cells #[.bool false, .slice none 0 0, .slice none 0 0] 53)) : Nob W Z (cP B) D :=
  ⟨fun Z' h => none_zero Z' B (by rw [cell_of_row _ _ _ _ _ (0, 0) ((h.block B (heap_lt hB)).trans hB)]; rfl), hd, hb⟩
set_option maxHeartbeats 8000000 in
set_option maxRecDepth 100000 in
theorem nobody_nil (W : World) (hE : EnvR W) (ss : Sl) (l : List Cl) (hl : RowsAt W 2 actP ss l) (hll : l.length ≤ 8796093022208) : Calls Tryd.prog 5 #[.slice ss.a ss.n ss.c, .bool false] W fun e w' => e = .returned (.bool true) ∧ Below W.heap.size W w' := by
  obtain ⟨a1, n1, c1⟩ := ss
  have hn1 := hl.n
  simp only at hn1
  subst hn1
  have hA := fun Z (hz : Below W.heap.size W Z) => alive_any Z (hE.up hz)
  clear hE
  go_enter Tryd.func5, Tryd.ntmps5
  go_upto_region 5 with (first | fail)
  have HN : Hid (Nob W (W.alloc (.cells #[.bool false, .slice none 0 0, .slice none 0 0, .slice none 0 0] 57)) (.pointer none) W.heap.size) := nob_nil (below_alloc _ _) (nD_mk (heap_alloc_new W _))
  generalize (W.alloc (.cells #[.bool false, .slice none 0 0, .slice none 0 0, .slice none 0 0] 57)) = w1 at *
  go_wp2
  go_loopw [7] (fun v7 wr => ∃ i : Nat, i ≤ l.length ∧ v7 = I i ∧ Hid (Nob W wr (.pointer none) W.heap.size)) (fun v7 _ => l.length - (intOf v7).toNat)
  case atStart => exact ⟨0, by omega, rfl, HN.out⟩
  case round =>
    clear HN
    obtain ⟨i, hi, rfl, HJ⟩ := hrel
    by_cases hlt : i < l.length
    · have hltI : (i : Int) < l.length := by omega
      obtain ⟨⟨kd, tk⟩, hx⟩ : ∃ x, l[i]? = some x := ⟨_, List.getElem?_eq_getElem hlt⟩
      obtain ⟨ga, off, rfl, -, hcx⟩ := acts_cell hl hx
      obtain ⟨x0, x1⟩ := hcx wr HJ.out.b
      have hP := play_gen (nob_both W (.pointer none) W.heap.size) wr HJ.out kd tk
      clear hcx hx
      go_wp2_with (first
        | (go_at_call 22; refine hP.mono ?_; clear hP; rintro e w1 ⟨rfl, j1, -⟩; have H1 : Hid (Nob W w1 (.pointer none) W.heap.size) := j1; clear j1)
        | (go_at_call 23; refine (told_gen (nob_tells H1.out)).mono ?_; rintro e w2 ⟨rfl, b2⟩; have H2 : Hid (Nob W w2 (.pointer none) W.heap.size) := H1.out.up b2; clear b2))
      go_roundw
      case rel => exact ⟨i + 1, by omega, by go_num, H2.out⟩
      case measure => simp [intOf]; omega
    · obtain rfl : i = l.length := by omega
      have hge : ¬ ((l.length : Int) < l.length) := by omega
      have hC := nCopy HJ.out.no
      have hA1 := hA wr HJ.out.b
      go_wp2_with (first
        | (go_at_call 24; refine hC.mono ?_; clear hC; rintro e w1 ⟨rfl, rfl⟩)
        | (go_at_call 10; refine hA1.mono ?_; clear hA1; rintro e w7 ⟨rfl, b7⟩))
      go_ret
      exact ⟨rfl, HJ.out.b.trans (b7.mono HJ.out.b.size)⟩
set_option maxHeartbeats 8000000 in
set_option maxRecDepth 100000 in
theorem nobody_plain (W : World) (hE : EnvR W) (ss : Sl) (l : List Cl) (hl : RowsAt W 2 actP ss l) (hll : l.length ≤ 8796093022208) : Calls Tryd.prog 5 #[.slice ss.a ss.n ss.c, .bool true] W fun e w' => e = .returned (.bool true) ∧ Below W.heap.size W w' := by
  obtain ⟨a1, n1, c1⟩ := ss
  have hn1 := hl.n
  simp only at hn1
  subst hn1
  have hA := fun Z (hz : Below W.heap.size W Z) => alive_any Z (hE.up hz)
  clear hE
  go_enter Tryd.func5, Tryd.ntmps5
  go_upto_region 5 with (first | fail)
  have HN : Hid (Nob W ((W.alloc (.cells #[.bool false, .slice none 0 0, .slice none 0 0] 53)).alloc (.cells #[.bool false, .slice none 0 0, .slice none 0 0, .slice none 0 0] 57)) (cP W.heap.size) (W.heap.size + 1)) := by
    have h1 := heap_alloc_new W (.cells #[.bool false, .slice none 0 0, .slice none 0 0] 53)
    have h2 := heap_alloc_new (W.alloc (.cells #[.bool false, .slice none 0 0, .slice none 0 0] 53)) (.cells #[.bool false, .slice none 0 0, .slice none 0 0, .slice none 0 0] 57)
    rw [show (W.alloc (.cells #[.bool false, .slice none 0 0, .slice none 0 0] 53)).heap.size = W.heap.size + 1 by simp] at h2
    exact nob_plain ((below_alloc W _).trans ((below_alloc _ _).mono (by simp))) (nD_mk h2) (heap_over _ _ h1)
  generalize ((W.alloc (.cells #[.bool false, .slice none 0 0, .slice none 0 0] 53)).alloc (.cells #[.bool false, .slice none 0 0, .slice none 0 0, .slice none 0 0] 57)) = w1 at *
  go_wp2
  go_loopw [7] (fun v7 wr => ∃ i : Nat, i ≤ l.length ∧ v7 = I i ∧ Hid (Nob W wr (cP W.heap.size) (W.heap.size + 1))) (fun v7 _ => l.length - (intOf v7).toNat)
  case atStart => exact ⟨0, by omega, rfl, HN.out⟩
  case round =>
    clear HN
    obtain ⟨i, hi, rfl, HJ⟩ := hrel
    by_cases hlt : i < l.length
    · have hltI : (i : Int) < l.length := by omega
      obtain ⟨⟨kd, tk⟩, hx⟩ : ∃ x, l[i]? = some x := ⟨_, List.getElem?_eq_getElem hlt⟩
      obtain ⟨ga, off, rfl, -, hcx⟩ := acts_cell hl hx
      obtain ⟨x0, x1⟩ := hcx wr HJ.out.b
      have hP := play_gen (nob_both W (cP W.heap.size) (W.heap.size + 1)) wr HJ.out kd tk
      clear hcx hx
      go_wp2_with (first
        | (go_at_call 22; refine hP.mono ?_; clear hP; rintro e w1 ⟨rfl, j1, -⟩; have H1 : Hid (Nob W w1 (cP W.heap.size) (W.heap.size + 1)) := j1; clear j1)
        | (go_at_call 23; refine (told_gen (nob_tells H1.out)).mono ?_; rintro e w2 ⟨rfl, b2⟩; have H2 : Hid (Nob W w2 (cP W.heap.size) (W.heap.size + 1)) := H1.out.up b2; clear b2))
      go_roundw
      case rel => exact ⟨i + 1, by omega, by go_num, H2.out⟩
      case measure => simp [intOf]; omega
    · obtain rfl : i = l.length := by omega
      have hge : ¬ ((l.length : Int) < l.length) := by omega
      have hC := nCopy HJ.out.no
      have hA1 := hA wr HJ.out.b
      go_wp2_with (first
        | (go_at_call 24; refine hC.mono ?_; clear hC; rintro e w1 ⟨rfl, rfl⟩)
        | (go_at_call 10; refine hA1.mono ?_; clear hA1; rintro e w7 ⟨rfl, b7⟩))
      go_ret
      exact ⟨rfl, HJ.out.b.trans (b7.mono HJ.out.b.size)⟩
theorem nobody_law (W : World) (hE : EnvR W) (ss : Sl) (l : List Cl) (hl : RowsAt W 2 actP ss l) (hll : l.length ≤ 8796093022208) (pl : Bool) : Calls Tryd.prog 5 #[.slice ss.a ss.n ss.c, .bool pl] W fun e w' => e = .returned (.bool true) ∧ Below W.heap.size W w' := by
  cases pl with
  | false => exact nobody_nil W hE ss l hl hll
  | true => exact nobody_plain W hE ss l hl hll
end Go.Proofs.YthmecgfbapemjaaDoor
