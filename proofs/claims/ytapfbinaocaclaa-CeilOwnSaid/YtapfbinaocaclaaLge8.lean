import Derived.Test.YtapfbinaocaclaaLsX
import Derived.Test.YtapfbinaocaclaaEeo
namespace Go.Proofs.Ytapfbinaocaclaa
open Go.RowKit Go.Sort
set_option linter.unusedVariables false
set_option linter.unusedSimpArgs false

/-! ### CeilGrows -/
set_option maxHeartbeats 8000000 in
set_option maxRecDepth 100000 in
theorem grows_early (w : World) (c : Cf) (v : Vs) (h : CfAt w c v) (hn : c.ress.length ≤ 8796093022208) (hnt : c.tasks.length ≤ 8796093022208) (hni : c.isrs.length ≤ 8796093022208) (task more : Int) (hc : lookE c ≠ 0 ∨ task < 0 ∨ task ≥ c.tasks.length ∨ ∃ k x, task = ((k : Nat) : Int) ∧ c.tasks[k]? = some x ∧ x.prio > 1073741824) : Calls Try.prog 4 #[.agg (cfC c v), I task, .int .u8 more] w fun e w' => e = .returned (.bool true) ∧ Below w.heap.size w w' := by
  have hi18 : (Try.prog.info? 33).map (·.size) = some (cfC c v).size := by rw [show (cfC c v).size = 18 from rfl]; kernel_rfl
  have hV := heap_alloc_new w (.cells (cfC c v) 33)
  have hb := below_alloc w (.cells (cfC c v) 33)
  have HNT : Hid (v.t.n = c.tasks.length) := h.t.n
  have ht1 : v.t.n ≤ v.t.c := h.t.c
  have ht2 : v.t.c ≤ 9223372036854775807 := h.t.m
  have HCV : Hid (∀ W : World, W.heap[w.heap.size]? = some (.cells (cfC c v) 33 (0, 0)) → W.cell? ⟨w.heap.size, 11, none⟩ = some (.slice v.t.a v.t.n v.t.c)) := fun W hW => by
    obtain ⟨_, h10, h11, h12, h13, h14, h15, h16, h17⟩ := var18_all hW
    exact h11
  have HCf : Hid (CfAt w c v) := h
  have K1 : Hid (∀ W, Below w.heap.size w W → Calls Try.prog 8 #[.agg (cfC c v)] W fun e w' => RckP W (rckX c) (lookE c) e w') := fun W hW => reckon_any W c v (h.below hW) hn hnt hni
  have hsp : (lookE c != 0) = true ∨ (lookE c = 0 ∧ task < 0) ∨ (lookE c = 0 ∧ ¬ task < 0 ∧ task ≥ (v.t.n : Int)) ∨ (lookE c = 0 ∧ ∃ k x, task = ((k : Nat) : Int) ∧ c.tasks[k]? = some x ∧ x.prio > 1073741824) := by
    by_cases h0 : lookE c = 0
    · rcases hc with h1 | h1 | h1 | h1
      · exact absurd h0 h1
      · exact .inr (.inl ⟨h0, h1⟩)
      · by_cases h2 : task < 0
        · exact .inr (.inl ⟨h0, h2⟩)
        · exact .inr (.inr (.inl ⟨h0, h2, by have := h.t.n; omega⟩))
      · exact .inr (.inr (.inr ⟨h0, h1⟩))
    · exact .inl (by simpa using h0)
  generalize lookE c = E at *
  generalize rckX c = X at *
  generalize cfC c v = C at *
  obtain ⟨W0, hW0⟩ : ∃ W0, W0 = w.alloc (.cells C 33) := ⟨_, rfl⟩
  rw [← hW0] at hV hb
  have HF0 : Hid (∀ W, Below W0.heap.size W0 W → W.heap[w.heap.size]? = some (.cells C 33 (0, 0)) ∧ Below w.heap.size w W) := fun W hW => ⟨(hW.block _ (heap_lt hV)).trans hV, hb.trans (hW.mono hb.size)⟩
  have HB : Hid (Below W0.heap.size W0 W0) := Below.refl _ _
  clear h hb hc hn hnt hni
  rcases hsp with hE | ⟨rfl, h1⟩ | ⟨rfl, h1, h2⟩ | ⟨rfl, k, x, rfl, hx, hp⟩
  · go_enter Try.func4, Try.ntmps4
    go_upto_region 1 with fail
    rw [← hW0]
    clear hW0
    go_wp2_with (first | (refine wpList_load_row rfl 33 _ rfl w.heap.size rfl 33 _ (0, 0) _ hV Try.underlying33 rfl hi18 ?_) | (go_at_call 8; refine (K1.out _ (HF0.out _ HB.out).2).mono ?_; clear K1; rintro e w1 ⟨s0, s2, s3, s4, rfl, hC1, hb1⟩; unfold ceC; have HXL : Hid (∀ S : Array Value, Below W0.heap.size W0 (w1.alloc (.cells S 36))) := fun S => (HB.out.trans (hb1.mono HB.out.size)).trans ((below_alloc w1 _).mono (HB.out.trans (hb1.mono HB.out.size)).size); have hV : ∀ S : Array Value, (w1.alloc (.cells S 36)).heap[w.heap.size]? = some (.cells C 33 (0, 0)) := fun S => (HF0.out _ (HXL.out S)).1; have y11 : ∀ S : Array Value, (w1.alloc (.cells S 36)).cell? ⟨w.heap.size, 11, none⟩ = some (.slice v.t.a v.t.n v.t.c) := fun S => HCV.out _ (hV S); clear hb1 HB) | (go_at_call 10; refine (num_any _ _).mono ?_; rintro e w' ⟨rfl, rfl⟩) | (go_at_call 12; refine (alive_any _).mono ?_; rintro e w6 ⟨rfl, hb6⟩; have HB6 := (HF0.out _ (HXL.out _)).2.trans (hb6.mono (HF0.out _ (HXL.out _)).2.size)))
    go_ret
    exact ⟨rfl, HB6⟩
  · go_enter Try.func4, Try.ntmps4
    go_upto_region 1 with fail
    rw [← hW0]
    clear hW0
    go_wp2_with (first | (refine wpList_load_row rfl 33 _ rfl w.heap.size rfl 33 _ (0, 0) _ hV Try.underlying33 rfl hi18 ?_) | (go_at_call 8; refine (K1.out _ (HF0.out _ HB.out).2).mono ?_; clear K1; rintro e w1 ⟨s0, s2, s3, s4, rfl, hC1, hb1⟩; unfold ceC; have HXL : Hid (∀ S : Array Value, Below W0.heap.size W0 (w1.alloc (.cells S 36))) := fun S => (HB.out.trans (hb1.mono HB.out.size)).trans ((below_alloc w1 _).mono (HB.out.trans (hb1.mono HB.out.size)).size); have hV : ∀ S : Array Value, (w1.alloc (.cells S 36)).heap[w.heap.size]? = some (.cells C 33 (0, 0)) := fun S => (HF0.out _ (HXL.out S)).1; have y11 : ∀ S : Array Value, (w1.alloc (.cells S 36)).cell? ⟨w.heap.size, 11, none⟩ = some (.slice v.t.a v.t.n v.t.c) := fun S => HCV.out _ (hV S); clear hb1 HB) | (go_at_call 10; refine (num_any _ _).mono ?_; rintro e w' ⟨rfl, rfl⟩) | (go_at_call 12; refine (alive_any _).mono ?_; rintro e w6 ⟨rfl, hb6⟩; have HB6 := (HF0.out _ (HXL.out _)).2.trans (hb6.mono (HF0.out _ (HXL.out _)).2.size)))
    go_ret
    exact ⟨rfl, HB6⟩
  · go_enter Try.func4, Try.ntmps4
    go_upto_region 1 with fail
    rw [← hW0]
    clear hW0
    go_wp2_with (first | (refine wpList_load_row rfl 33 _ rfl w.heap.size rfl 33 _ (0, 0) _ hV Try.underlying33 rfl hi18 ?_) | (go_at_call 8; refine (K1.out _ (HF0.out _ HB.out).2).mono ?_; clear K1; rintro e w1 ⟨s0, s2, s3, s4, rfl, hC1, hb1⟩; unfold ceC; have HXL : Hid (∀ S : Array Value, Below W0.heap.size W0 (w1.alloc (.cells S 36))) := fun S => (HB.out.trans (hb1.mono HB.out.size)).trans ((below_alloc w1 _).mono (HB.out.trans (hb1.mono HB.out.size)).size); have hV : ∀ S : Array Value, (w1.alloc (.cells S 36)).heap[w.heap.size]? = some (.cells C 33 (0, 0)) := fun S => (HF0.out _ (HXL.out S)).1; have y11 : ∀ S : Array Value, (w1.alloc (.cells S 36)).cell? ⟨w.heap.size, 11, none⟩ = some (.slice v.t.a v.t.n v.t.c) := fun S => HCV.out _ (hV S); clear hb1 HB) | (go_at_call 10; refine (num_any _ _).mono ?_; rintro e w' ⟨rfl, rfl⟩) | (go_at_call 12; refine (alive_any _).mono ?_; rintro e w6 ⟨rfl, hb6⟩; have HB6 := (HF0.out _ (HXL.out _)).2.trans (hb6.mono (HF0.out _ (HXL.out _)).2.size)))
    go_ret
    exact ⟨rfl, HB6⟩
  · obtain ⟨g, off, t4, t5, t6, t7, e, hg, a0, a1, a2, a3, a4, a5, a6, a7, q4, q5, q6, q7⟩ := tk_at HCf.out hx
    have hk1 : (k : Int) < v.t.n := by have := HNT.out; have := (List.getElem?_eq_some_iff.1 hx).1; omega
    have hk2 : ¬ (k : Int) < 0 := by omega
    have hk3 : ¬ (k : Int) ≥ v.t.n := by omega
    have HA1 : Hid (∀ W, Below w.heap.size w W → W.cell? ⟨g, off + k * 8 + 1, none⟩ = some (I x.prio)) := fun W hW => by rw [cell_below hW _ _ hg]; exact a1
    have HEE : Hid (v.t.a = some ⟨g, off, none⟩) := e
    clear a0 a1 a2 a3 a4 a5 a6 a7 q4 q5 q6 q7 e hx
    go_enter Try.func4, Try.ntmps4
    go_upto_region 1 with fail
    rw [← hW0]
    clear hW0
    go_wp2_with (first | (refine wpList_load_row rfl 33 _ rfl w.heap.size rfl 33 _ (0, 0) _ hV Try.underlying33 rfl hi18 ?_) | (go_at_call 8; refine (K1.out _ (HF0.out _ HB.out).2).mono ?_; clear K1; rintro e w1 ⟨s0, s2, s3, s4, rfl, hC1, hb1⟩; unfold ceC; have HXL : Hid (∀ S : Array Value, Below W0.heap.size W0 (w1.alloc (.cells S 36))) := fun S => (HB.out.trans (hb1.mono HB.out.size)).trans ((below_alloc w1 _).mono (HB.out.trans (hb1.mono HB.out.size)).size); have hV : ∀ S : Array Value, (w1.alloc (.cells S 36)).heap[w.heap.size]? = some (.cells C 33 (0, 0)) := fun S => (HF0.out _ (HXL.out S)).1; have y11 : ∀ S : Array Value, (w1.alloc (.cells S 36)).cell? ⟨w.heap.size, 11, none⟩ = some (.slice v.t.a v.t.n v.t.c) := fun S => HCV.out _ (hV S); rw [HEE.out] at y11; have b1 : ∀ S : Array Value, (w1.alloc (.cells S 36)).cell? ⟨g, off + k * 8 + 1, none⟩ = some (I x.prio) := fun S => HA1.out _ (HF0.out _ (HXL.out S)).2; clear hb1 HB) | (go_at_call 10; refine (num_any _ _).mono ?_; rintro e w' ⟨rfl, rfl⟩) | (go_at_call 12; refine (alive_any _).mono ?_; rintro e w6 ⟨rfl, hb6⟩; have HB6 := (HF0.out _ (HXL.out _)).2.trans (hb6.mono (HF0.out _ (HXL.out _)).2.size)))
    go_ret
    exact ⟨rfl, HB6⟩
end Go.Proofs.Ytapfbinaocaclaa
