import Derived.Test.YtapfbinaocaclaaEez
import Derived.Test.YtapfbinaocaclaaEeo
namespace Go.Proofs.Ytapfbinaocaclaa
open Go.RowKit Go.Sort
set_option linter.unusedVariables false
set_option linter.unusedSimpArgs false

/-! ### CeilLeast where there is no group -/
set_option maxHeartbeats 8000000 in
set_option maxRecDepth 100000 in
theorem least_bad (w : World) (c : Cf) (v : Vs) (h : CfAt w c v) (hn : c.ress.length ≤ 8796093022208) (hnt : c.tasks.length ≤ 8796093022208) (hni : c.isrs.length ≤ 8796093022208) (r : Int) (hg : grpE c r ≠ 0) : Calls Try.prog 3 #[.agg (cfC c v), I r] w fun e w' => e = .returned (.bool true) ∧ Below w.heap.size w w' := by
  have hi18 : (Try.prog.info? 33).map (·.size) = some (cfC c v).size := by rw [show (cfC c v).size = 18 from rfl]; kernel_rfl
  have hV := heap_alloc_new w (.cells (cfC c v) 33)
  have hb := below_alloc w (.cells (cfC c v) 33)
  have K1 : Hid (∀ W, Below w.heap.size w W → Calls Try.prog 8 #[.agg (cfC c v)] W fun e w' => RckP W (rckX c) (lookE c) e w') := fun W hW => reckon_any W c v (h.below hW) hn hnt hni
  have K2 : Hid (∀ W, Below w.heap.size w W → Calls Try.prog 9 #[.agg (cfC c v), I r] W fun e w' => Own2 W [] (grpE c r) e w') := fun W hW => by
    have := group_any W c v (h.below hW) hn r
    rw [show grpL c r = [] by unfold grpL; rw [if_neg hg]] at this
    exact this
  have K4 : Hid (∀ W, Below w.heap.size w W → Calls Try.prog 11 #[.agg (cfC c v)] W fun e w' => e = .returned (I (lookE c)) ∧ Below W.heap.size W w') := fun W hW => ccheck_any W c v (h.below hW) hn
  generalize cfC c v = C at *
  generalize grpE c r = R at *
  generalize lookE c = E at *
  generalize rckX c = X at *
  obtain ⟨W0, hW0⟩ : ∃ W0, W0 = w.alloc (.cells C 33) := ⟨_, rfl⟩
  rw [← hW0] at hV hb
  have HF0 : Hid (∀ W, Below W0.heap.size W0 W → W.heap[w.heap.size]? = some (.cells C 33 (0, 0)) ∧ Below w.heap.size w W) := fun W hW => ⟨(hW.block _ (heap_lt hV)).trans hV, hb.trans (hW.mono hb.size)⟩
  have HB : Hid (Below W0.heap.size W0 W0) := Below.refl _ _
  have hR1 : (R != 0) = true := by simpa using hg
  have hR2 : (R == 0) = false := by simpa using hg
  clear h hb hg hn hnt hni
  have hsp : E = 0 ∨ ((E == 0) = false ∧ (E != 0) = true) := by
    by_cases h0 : E = 0
    · exact .inl h0
    · exact .inr ⟨by simpa using h0, by simpa using h0⟩
  rcases hsp with rfl | ⟨hE1, hE2⟩
  · go_enter Try.func3, Try.ntmps3
    go_upto_region 1 with fail
    rw [← hW0]
    clear hW0
    go_upto_region 4 with (first | (refine wpList_load_row rfl 33 _ rfl w.heap.size rfl 33 _ (0, 0) _ hV Try.underlying33 rfl hi18 ?_) | (go_at_call 8; refine (K1.out _ (HF0.out _ HB.out).2).mono ?_; clear K1; rintro e w1 ⟨s0, s2, s3, s4, rfl, hC1, hb1⟩; unfold ceC; have HXL : Hid (∀ S : Array Value, Below W0.heap.size W0 (w1.alloc (.cells S 36))) := fun S => (HB.out.trans (hb1.mono HB.out.size)).trans ((below_alloc w1 _).mono (HB.out.trans (hb1.mono HB.out.size)).size); have hV : ∀ S : Array Value, (w1.alloc (.cells S 36)).heap[w.heap.size]? = some (.cells C 33 (0, 0)) := fun S => (HF0.out _ (HXL.out S)).1; clear hC1 hb1 HB) | (refine wpList_load_row rfl 33 _ rfl w.heap.size rfl 33 _ (0, 0) _ (hV _) Try.underlying33 rfl hi18 ?_) | (go_at_call 9; refine (K2.out _ (HF0.out _ (HXL.out _)).2).mono ?_; clear K2; rintro e w2 hp; obtain ⟨sg, rfl, hRG, hb2⟩ := hp.got; have hsg : sg.n = 0 := hRG.n; rw [hsg]; have H2 : Hid (Below W0.heap.size W0 w2) := (HXL.out _).trans (hb2.mono (HXL.out _).size); clear hp hRG hb2 hV HXL hsg) | (go_at_call 10; refine (num_any _ _).mono ?_; rintro e w' ⟨rfl, rfl⟩))
    have hV2 := (HF0.out _ H2.out).1
    have Hbw : Hid (Below w.heap.size w w2) := (HF0.out _ H2.out).2
    have c1 : ∀ d os, Calls Try.prog 10 #[I 0] (grow (redrawn w2 d) os) fun e w'' => e = .returned (I 0) ∧ ∃ p : Regrown, w'' = grow (redrawn w2 p.d) p.os := fun d os => Calls.regrown_of ((num_any _ _).mono (fun e w' ⟨h1, h2⟩ => ⟨h1, by rw [← h2]; exact Below.refl _ _⟩))
    have c2 : ∀ d os, Calls Try.prog 11 #[.agg C] (grow (redrawn w2 d) os) fun e w'' => e = .returned (I 0) ∧ ∃ p : Regrown, w'' = grow (redrawn w2 p.d) p.os := fun d os => Calls.regrown_of (K4.out _ (Hbw.out.trans ((below_regrown _ d os).mono Hbw.out.size)))
    have c3 : ∀ d os, Calls Try.prog 12 #[] (grow (redrawn w2 d) os) fun e w'' => e = .returned (.bool true) ∧ ∃ p : Regrown, w'' = grow (redrawn w2 p.d) p.os := fun d os => Calls.regrown_of (alive_any _)
    refine wp_region_quiet_below (by kernel_rfl) (by kernel_rfl) ?_
    repeat (go_big_quiet_step (first | exact c1 _ _))
    refine wpQuiet_load_row (by kernel_rfl) 33 _ rfl w.heap.size rfl 33 _ (0, 0) _ (heap_regrown hV2) Try.underlying33 rfl hi18 ?_
    quiet_step (exact c2 _ _)
    repeat (go_big_quiet_step (first | exact c2 _ _ | exact c1 _ _ | exact c3 _ _))
    refine wpQuiet_nil ?_
    rintro _ ⟨⟨dq, osq⟩, rfl⟩
    dsimp only
    have HB4 : Hid (Below w.heap.size w (grow (redrawn w2 dq) osq)) := Hbw.out.trans ((below_regrown w2 dq osq).mono Hbw.out.size)
    clear c1 c2 c3 hV2 Hbw
    generalize grow (redrawn w2 dq) osq = w4 at *
    go_wp2
    go_ret
    exact ⟨rfl, HB4.out⟩
  · go_enter Try.func3, Try.ntmps3
    go_upto_region 1 with fail
    rw [← hW0]
    clear hW0
    go_upto_region 4 with (first | (refine wpList_load_row rfl 33 _ rfl w.heap.size rfl 33 _ (0, 0) _ hV Try.underlying33 rfl hi18 ?_) | (go_at_call 8; refine (K1.out _ (HF0.out _ HB.out).2).mono ?_; clear K1; rintro e w1 ⟨s0, s2, s3, s4, rfl, hC1, hb1⟩; unfold ceC; have HXL : Hid (∀ S : Array Value, Below W0.heap.size W0 (w1.alloc (.cells S 36))) := fun S => (HB.out.trans (hb1.mono HB.out.size)).trans ((below_alloc w1 _).mono (HB.out.trans (hb1.mono HB.out.size)).size); have hV : ∀ S : Array Value, (w1.alloc (.cells S 36)).heap[w.heap.size]? = some (.cells C 33 (0, 0)) := fun S => (HF0.out _ (HXL.out S)).1; clear hC1 hb1 HB) | (refine wpList_load_row rfl 33 _ rfl w.heap.size rfl 33 _ (0, 0) _ (hV _) Try.underlying33 rfl hi18 ?_) | (go_at_call 9; refine (K2.out _ (HF0.out _ (HXL.out _)).2).mono ?_; clear K2; rintro e w2 hp; obtain ⟨sg, rfl, hRG, hb2⟩ := hp.got; have hsg : sg.n = 0 := hRG.n; rw [hsg]; have H2 : Hid (Below W0.heap.size W0 w2) := (HXL.out _).trans (hb2.mono (HXL.out _).size); clear hp hRG hb2 hV HXL hsg) | (go_at_call 10; refine (num_any _ _).mono ?_; rintro e w' ⟨rfl, rfl⟩))
    have hV2 := (HF0.out _ H2.out).1
    have Hbw : Hid (Below w.heap.size w w2) := (HF0.out _ H2.out).2
    have c1 : ∀ d os, Calls Try.prog 10 #[I E] (grow (redrawn w2 d) os) fun e w'' => e = .returned (I E) ∧ ∃ p : Regrown, w'' = grow (redrawn w2 p.d) p.os := fun d os => Calls.regrown_of ((num_any _ _).mono (fun e w' ⟨h1, h2⟩ => ⟨h1, by rw [← h2]; exact Below.refl _ _⟩))
    have c2 : ∀ d os, Calls Try.prog 11 #[.agg C] (grow (redrawn w2 d) os) fun e w'' => e = .returned (I E) ∧ ∃ p : Regrown, w'' = grow (redrawn w2 p.d) p.os := fun d os => Calls.regrown_of (K4.out _ (Hbw.out.trans ((below_regrown _ d os).mono Hbw.out.size)))
    have c3 : ∀ d os, Calls Try.prog 12 #[] (grow (redrawn w2 d) os) fun e w'' => e = .returned (.bool true) ∧ ∃ p : Regrown, w'' = grow (redrawn w2 p.d) p.os := fun d os => Calls.regrown_of (alive_any _)
    refine wp_region_quiet_below (by kernel_rfl) (by kernel_rfl) ?_
    repeat (go_big_quiet_step (first | exact c1 _ _))
    refine wpQuiet_load_row (by kernel_rfl) 33 _ rfl w.heap.size rfl 33 _ (0, 0) _ (heap_regrown hV2) Try.underlying33 rfl hi18 ?_
    quiet_step (exact c2 _ _)
    repeat (go_big_quiet_step (first | exact c2 _ _ | exact c1 _ _ | exact c3 _ _))
    refine wpQuiet_nil ?_
    rintro _ ⟨⟨dq, osq⟩, rfl⟩
    dsimp only
    have HB4 : Hid (Below w.heap.size w (grow (redrawn w2 dq) osq)) := Hbw.out.trans ((below_regrown w2 dq osq).mono Hbw.out.size)
    clear c1 c2 c3 hV2 Hbw
    generalize grow (redrawn w2 dq) osq = w4 at *
    go_wp2
    go_ret
    exact ⟨rfl, HB4.out⟩
end Go.Proofs.Ytapfbinaocaclaa
