import Derived.Test.YtidhjajobacnaaaGreatDoorKmy
import Derived.Test.YtidhjajobacnaaaGreatDoorKvk
import Derived.Test.YtidhjajobacnaaaGreatDoorKrw
namespace Go.Proofs.YtidhjajobacnaaaGreatDoor
open Go.RowKit Go.Sort
set_option linter.unusedVariables false

/-! ### ClassTells -/
set_option maxHeartbeats 8000000 in
set_option maxRecDepth 100000 in
theorem tells_any (w : World) (c : Cf) (v : Vs) (h : CfAt w c v) (hl : LensOK c) (hz : NamesOK c) (hE : EnvE w) (n : Int) : Calls Tryz.prog 6 #[.agg (cfC c v), I n] w fun e w' => Ans w true e w' := by
  have hi18 : (Tryz.prog.info? 33).map (·.size) = some (cfC c v).size := by rw [show (cfC c v).size = 18 from rfl]; kernel_rfl
  have hV0 := heap_alloc_new w (.cells (cfC c v) 33)
  have hb := below_alloc w (.cells (cfC c v) 33)
  have k1 : ∀ W, Below w.heap.size w W → Calls Tryz.prog 11 #[.agg (cfC c v)] W fun e w' => e = .returned (.tuple #[I (clsL c).1, I (clsL c).2]) ∧ Below W.heap.size W w' := fun W hW => class_any W c v (h.below hW) hl
  have k2 : ∀ W, Below w.heap.size w W → Calls Tryz.prog 12 #[.agg (cfC c v)] W fun e w' => e = .returned (.tuple #[I (clsL c).1, I (clsL c).2]) ∧ Below W.heap.size W w' := fun W hW => rclass_any W c v (h.below hW) hl hz
  have k3 : ∀ W, Below w.heap.size w W → Calls Tryz.prog 13 #[.agg (cfC c v), I n] W fun e w' => e = .returned (.bool (extL c n)) ∧ Below W.heap.size W w' := fun W hW => extended_any W c v (h.below hW) n
  have k4 : ∀ W, Below w.heap.size w W → Calls Tryz.prog 14 #[.agg (cfC c v), I n] W fun e w' => e = .returned (.bool (extL c n)) ∧ Below W.heap.size W w' := fun W hW => rextended_any W c v (h.below hW) n
  have k5 : ∀ W, Below w.heap.size w W → Calls Tryz.prog 9 #[.agg (cfC c v), I n] W fun e w' => e = .returned (I (rootF c c.ress.length n)) ∧ Below W.heap.size W w' := fun W hW => root_any W c v (h.below hW) n
  have k6 : ∀ W, Below w.heap.size w W → Calls Tryz.prog 15 #[.agg (cfC c v), I n] W fun e w' => e = .returned (I (rootF c c.ress.length n)) ∧ Below W.heap.size W w' := fun W hW => by
    have := rroot_any W c v (h.below hW) hl.r n
    rw [rootF_more] at this
    exact this
  have k7 : ∀ W, Below w.heap.size w W → Calls Tryz.prog 8 #[] W fun e w' => e = .returned (.bool true) ∧ Below W.heap.size W w' := fun W hW => heads_any W (hE.below hW)
  generalize cfC c v = C at *
  generalize (clsL c).1 = x0 at *
  generalize (clsL c).2 = x1 at *
  generalize extL c n = be at *
  generalize rootF c c.ress.length n = rt at *
  have HK1 : Hid (Calls Tryz.prog 11 #[.agg C] (w.alloc (.cells C 33)) fun e w' => e = .returned (.tuple #[I x0, I x1]) ∧ Below (w.alloc (.cells C 33)).heap.size (w.alloc (.cells C 33)) w') := k1 _ hb
  have HK2 : Hid (∀ W, Below w.heap.size w W → Calls Tryz.prog 12 #[.agg C] W fun e w' => e = .returned (.tuple #[I x0, I x1]) ∧ Below W.heap.size W w') := k2
  have HK3 : Hid (∀ W, Below w.heap.size w W → Calls Tryz.prog 13 #[.agg C, I n] W fun e w' => e = .returned (.bool be) ∧ Below W.heap.size W w') := k3
  have HK4 : Hid (∀ W, Below w.heap.size w W → Calls Tryz.prog 14 #[.agg C, I n] W fun e w' => e = .returned (.bool be) ∧ Below W.heap.size W w') := k4
  have HK5 : Hid (∀ W, Below w.heap.size w W → Calls Tryz.prog 9 #[.agg C, I n] W fun e w' => e = .returned (I rt) ∧ Below W.heap.size W w') := k5
  have HK6 : Hid (∀ W, Below w.heap.size w W → Calls Tryz.prog 15 #[.agg C, I n] W fun e w' => e = .returned (I rt) ∧ Below W.heap.size W w') := k6
  have HK7 : Hid (∀ W, Below w.heap.size w W → Calls Tryz.prog 8 #[] W fun e w' => e = .returned (.bool true) ∧ Below W.heap.size W w') := k7
  clear h hl hz hE k1 k2 k3 k4 k5 k6 k7
  go_enter Tryz.func6, Tryz.ntmps6
  go_upto_region 2 with (first | (refine wpList_load_row rfl 33 _ rfl w.heap.size rfl 33 _ (0, 0) _ hV0 Tryz.underlying33 rfl hi18 ?_) | (go_at_call 11; refine HK1.out.mono ?_; clear HK1; rintro e w1 ⟨rfl, hb1⟩))
  have hV1 := (hb1.block _ (heap_lt hV0)).trans hV0
  have hbw1 := hb.trans (hb1.mono hb.size)
  have HBw1 : Hid (Below w.heap.size w w1) := hbw1
  clear hV0 hb hb1 hbw1
  go_upto_region 3 with (first | (refine wpList_load_row rfl 33 _ rfl w.heap.size rfl 33 _ (0, 0) _ hV1 Tryz.underlying33 rfl hi18 ?_) | (go_at_call 12; refine (HK2.out _ HBw1.out).mono ?_; clear HK2; rintro e w2 ⟨rfl, hb2⟩))
  have hV2 := (hb2.block _ (heap_lt hV1)).trans hV1
  have HB : Hid (Below w.heap.size w w2) := HBw1.out.trans (hb2.mono HBw1.out.size)
  clear hV1 hb2 HBw1
  have c3 : ∀ d os, Calls Tryz.prog 13 #[.agg C, I n] (grow (redrawn w2 d) os) fun e w'' => e = .returned (.bool be) ∧ ∃ p : Regrown, w'' = grow (redrawn w2 p.d) p.os := fun d os => Calls.regrown_of (HK3.out _ (HB.out.trans ((below_regrown _ d os).mono HB.out.size)))
  have c4 : ∀ d os, Calls Tryz.prog 14 #[.agg C, I n] (grow (redrawn w2 d) os) fun e w'' => e = .returned (.bool be) ∧ ∃ p : Regrown, w'' = grow (redrawn w2 p.d) p.os := fun d os => Calls.regrown_of (HK4.out _ (HB.out.trans ((below_regrown _ d os).mono HB.out.size)))
  have c5 : ∀ d os, Calls Tryz.prog 9 #[.agg C, I n] (grow (redrawn w2 d) os) fun e w'' => e = .returned (I rt) ∧ ∃ p : Regrown, w'' = grow (redrawn w2 p.d) p.os := fun d os => Calls.regrown_of (HK5.out _ (HB.out.trans ((below_regrown _ d os).mono HB.out.size)))
  have c6 : ∀ d os, Calls Tryz.prog 15 #[.agg C, I n] (grow (redrawn w2 d) os) fun e w'' => e = .returned (I rt) ∧ ∃ p : Regrown, w'' = grow (redrawn w2 p.d) p.os := fun d os => Calls.regrown_of (HK6.out _ (HB.out.trans ((below_regrown _ d os).mono HB.out.size)))
  have c7 : ∀ d os, Calls Tryz.prog 8 #[] (grow (redrawn w2 d) os) fun e w'' => e = .returned (.bool true) ∧ ∃ p : Regrown, w'' = grow (redrawn w2 p.d) p.os := fun d os => Calls.regrown_of (HK7.out _ (HB.out.trans ((below_regrown _ d os).mono HB.out.size)))
  clear HK3 HK4 HK5 HK6 HK7
  refine wp_region_quiet_below (by kernel_rfl) (by kernel_rfl) ?_
  repeat (go_big_quiet_step (fail))
  refine wpQuiet_load_row rfl 33 _ rfl w.heap.size rfl 33 _ (0, 0) _ (heap_regrown hV2) Tryz.underlying33 rfl hi18 ?_
  quiet_step (fail)
  go_big_quiet_step (exact c3 _ _)
  refine wpQuiet_load_row rfl 33 _ rfl w.heap.size rfl 33 _ (0, 0) _ (heap_regrown hV2) Tryz.underlying33 rfl hi18 ?_
  quiet_step (fail)
  go_big_quiet_step (exact c4 _ _)
  repeat (go_big_quiet_step (fail))
  refine wpQuiet_load_row rfl 33 _ rfl w.heap.size rfl 33 _ (0, 0) _ (heap_regrown hV2) Tryz.underlying33 rfl hi18 ?_
  quiet_step (fail)
  go_big_quiet_step (exact c5 _ _)
  refine wpQuiet_load_row rfl 33 _ rfl w.heap.size rfl 33 _ (0, 0) _ (heap_regrown hV2) Tryz.underlying33 rfl hi18 ?_
  quiet_step (fail)
  go_big_quiet_step (exact c6 _ _)
  repeat (go_big_quiet_step (first | exact c7 _ _))
  refine wpQuiet_nil ?_
  rintro _ ⟨⟨dq, osq⟩, rfl⟩
  go_wp2
  go_ret
  exact ⟨rfl, HB.out.trans ((below_regrown w2 dq osq).mono HB.out.size)⟩
end Go.Proofs.YtidhjajobacnaaaGreatDoor
