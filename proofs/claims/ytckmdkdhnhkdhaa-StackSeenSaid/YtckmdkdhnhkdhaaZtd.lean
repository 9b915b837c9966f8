import Derived.Test.YtckmdkdhnhkdhaaZpr
namespace Go.Proofs.Ytckmdkdhnhkdhaa
open Go.RowKit
set_option linter.unusedVariables false
set_option linter.unusedSimpArgs false

/-! ### told -/
set_option maxRecDepth 100000 in
set_option maxHeartbeats 8000000 in
theorem told_any (w : World) (B g D n hi : Nat) (v : Value) (l : List Int) (h : Pr w B g D n hi v l) : Calls Try.prog 32 #[iP B, dP D] w fun e w' => e = .returned (.bool true) ∧ Below w.heap.size w w' := by
  have hq := h.q
  have hd := h.d
  have hle := hq.le
  have hm := hq.m
  obtain ⟨a, cc, hv⟩ := own_sl hd.p
  have hT : ∃ (x : Int) (b : Bool), (Calls Try.prog 28 #[iP B] w fun e w' => e = .returned (.tuple #[I x, .bool b]) ∧ Below w.heap.size w w') ∧ ((b = false ∧ x = 0 ∧ l = []) ∨ (b = true ∧ l.reverse[0]? = some x ∧ 0 < l.length)) := by
    rcases snoc_cases l with rfl | ⟨t, x, rfl⟩
    · exact ⟨0, false, (iTopN hq).mono (fun e w' k => ⟨k.1, by rw [← k.2]; exact Below.refl _ _⟩), .inl ⟨rfl, rfl, rfl⟩⟩
    · exact ⟨x, true, iTopQ x hq, .inr ⟨rfl, by simp, by simp⟩⟩
  obtain ⟨x, b, hT, hTc⟩ := hT
  have hDn : ∀ W, Below w.heap.size w W → Calls Try.prog 31 #[dP D] W fun e w' => ∃ u, e = .returned u ∧ w'.ownsRow W.heap.size 3 1 u l.length (iV l.reverse) ∧ Below w.heap.size w w' := fun W hb => (down_any (hd.below hb)).mono (fun e w' ⟨u, k1, k2, k3⟩ => ⟨u, k1, k2, hb.trans (k3.mono hb.size)⟩)
  have hLen := fun W (hb : Below w.heap.size w W) => iLenQ (hq.below hb)
  have hDepth := fun W (hb : Below w.heap.size w W) => iDepthQ (hq.below hb)
  have hHigh := fun W (hb : Below w.heap.size w W) => iHighQ (hq.below hb)
  have hAll : ∀ W, Below w.heap.size w W → Calls Try.prog 54 #[iP B] W fun e w' => ∃ u, e = .returned u ∧ w'.ownsRow W.heap.size 3 1 u l.reverse.length (iV l.reverse) ∧ Below W.heap.size W w' := fun W hb => all_any W B g n hi l.reverse (by rw [List.reverse_reverse]; exact hq.below hb)
  have kC : ∀ W, Below w.heap.size w W → W.cell? ⟨D, 1, none⟩ = some (I n) ∧ W.cell? ⟨D, 2, none⟩ = some (.slice a l.length cc) ∧ W.cell? ⟨D, 3, none⟩ = some (I hi) := fun W hb => by
    have := (hd.below hb).cells.2
    rwa [hv] at this
  have hlr : l.reverse.length = l.length := by simp
  have HLR : Hid (l.reverse.length = l.length) := hlr
  rw [hlr] at hAll
  clear hq hd h hlr
  rcases hTc with ⟨rfl, rfl, rfl⟩ | ⟨rfl, hx0, hpos⟩
  · go_enter Try.func32, Try.ntmps32
    go_wp2_with (first
      | (go_at_call 28; refine hT.mono ?_; clear hT; rintro e w1 ⟨rfl, b1⟩)
      | (go_at_call 31; refine (hDn _ b1).mono ?_; clear hDn; rintro e w2 ⟨u, rfl, ho2, b2⟩; obtain ⟨a2, cc2, rfl⟩ := own_sl ho2; obtain ⟨c1, c2, c3⟩ := kC _ b2))
    have b0 : Below w.heap.size w w2.drew := b2.drew
    have bx : Below w2.heap.size w2 w2.drew := (Below.refl _ _).drew
    go_region_held_law (fun w' => w'.cell? ⟨D, 1, none⟩ = some (I n) ∧ w'.cell? ⟨D, 2, none⟩ = some (.slice a 0 cc) ∧ w'.cell? ⟨D, 3, none⟩ = some (I hi))
      (first | exact ⟨c1, c2, c3⟩ | exact kC _ b0 | exact kC _ b5 | (go_keep; done))
      (first
        | (go_at_call 13; refine (hLen _ b0).mono ?_; rintro e w1 ⟨rfl, rfl⟩)
        | (go_at_call 29; refine (hDepth _ b0).mono ?_; rintro e w1 ⟨rfl, rfl⟩)
        | (go_at_call 15; refine (hHigh _ b0).mono ?_; rintro e w1 ⟨rfl, rfl⟩)
        | (go_at_call 54; refine (hAll _ b0).mono ?_; rintro e w3 ⟨vv, rfl, ho3, b3⟩; have ho9 := own_below ho2 (bx.trans (b3.mono bx.size)); have b0 := b0.trans (b3.mono b0.size))
        | (go_at_call 52; refine (same_any _ _ _ _ _ [] (by first | (rw [HLR.out]; omega) | decide) ho3 ho9).mono ?_; rintro e w4 ⟨rfl, b5⟩; have b0 := b0.trans (b5.mono b0.size)))
    all_goals
      go_wp2
      go_ret
      exact ⟨rfl, b0⟩
  · have HX : Hid (l.reverse[0]? = some x) := hx0
    have hp1 : (0 : Int) < l.length := by omega
    clear hx0
    go_enter Try.func32, Try.ntmps32
    go_wp2_with (first
      | (go_at_call 28; refine hT.mono ?_; clear hT; rintro e w1 ⟨rfl, b1⟩)
      | (go_at_call 31; refine (hDn _ b1).mono ?_; clear hDn; rintro e w2 ⟨u, rfl, ho2, b2⟩; obtain ⟨a2, cc2, rfl⟩ := own_sl ho2; obtain ⟨c1, c2, c3⟩ := kC _ b2; obtain ⟨g2, c2', eu, hg2, hcc⟩ := own_cell ho2 hpos; cases eu; have cx := hcc 0 x HX.out; clear hcc))
    have b0 : Below w.heap.size w w2.drew := b2.drew
    have bx : Below w2.heap.size w2 w2.drew := (Below.refl _ _).drew
    go_region_held_law (fun w' => w'.cell? ⟨D, 1, none⟩ = some (I n) ∧ w'.cell? ⟨D, 2, none⟩ = some (.slice a l.length cc) ∧ w'.cell? ⟨D, 3, none⟩ = some (I hi))
      (first | exact ⟨c1, c2, c3⟩ | exact kC _ b0 | exact kC _ b5 | (go_keep; done))
      (first
        | (go_at_call 13; refine (hLen _ b0).mono ?_; rintro e w1 ⟨rfl, rfl⟩)
        | (go_at_call 29; refine (hDepth _ b0).mono ?_; rintro e w1 ⟨rfl, rfl⟩)
        | (go_at_call 15; refine (hHigh _ b0).mono ?_; rintro e w1 ⟨rfl, rfl⟩)
        | (go_at_call 54; refine (hAll _ b0).mono ?_; rintro e w3 ⟨vv, rfl, ho3, b3⟩; have ho9 := own_below ho2 (bx.trans (b3.mono bx.size)); have b0 := b0.trans (b3.mono b0.size))
        | (go_at_call 52; refine (same_len _ _ _ _ _ _ l.reverse HLR.out (by omega) ho3 ho9).mono ?_; rintro e w4 ⟨rfl, b5⟩; have b0 := b0.trans (b5.mono b0.size)))
    all_goals
      go_wp2
      go_ret
      exact ⟨rfl, b0⟩
end Go.Proofs.Ytckmdkdhnhkdhaa
