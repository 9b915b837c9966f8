import Derived.Test.YtlbkbnhnklaebaaRpl
namespace Go.Proofs.Ytlbkbnhnklaebaa
open Go.RowKit
set_option linter.unusedVariables false
set_option linter.unusedSimpArgs false

set_option maxRecDepth 100000 in
set_option maxHeartbeats 8000000 in
theorem told_any {X : Nat → Prop} (w : World) (B g D n hi : Nat) (l : List Int) (h : Pr X w B g D n hi l) : Calls Try.prog 32 #[iP B, dP D] w fun e w' => e = .returned (.bool true) ∧ Below w.heap.size w w' := by
  obtain ⟨v, hd, hk⟩ := h.d
  have hq := h.q
  have hle : l.length ≤ n := by have := hq.le; simpa [intsV] using this
  have hm := hq.m
  obtain ⟨a, cc, rfl⟩ := own_sl hd.p
  have hLen : ∀ W, Below w.heap.size w W → Calls Try.prog 13 #[iP B] W fun e w' => e = .returned (I l.length) ∧ W = w' := fun W hb => by
    have := iLenQ (hq.below hb)
    simpa [intsV] using this
  have hFull : ∀ W, Below w.heap.size w W → Calls Try.prog 30 #[iP B] W fun e w' => e = .returned (.bool (decide (l.length = n))) ∧ Below w.heap.size w w' := fun W hb => by
    have := iFullQ (hq.below hb)
    simp only [intsV, List.length_map] at this
    exact this.mono (fun e w' k => ⟨k.1, hb.trans (k.2.2.mono hb.size)⟩)
  have hdF : ∀ W, Below w.heap.size w W → Calls Try.prog 57 #[dP D] W fun e w' => e = .returned (.bool (decide (l.length = n))) ∧ Below w.heap.size w w' := fun W hb => (dFull_any (hd.below hb) hle).mono (fun e w' k => ⟨k.1, hb.trans (k.2.mono hb.size)⟩)
  have hRoom := fun W (hb : Below w.heap.size w W) => iRoomQ (hq.below hb)
  have hHigh := fun W (hb : Below w.heap.size w W) => iHighQ (hq.below hb)
  have hAll : ∀ W, Below w.heap.size w W → Calls Try.prog 59 #[iP B] W fun e w' => ∃ v, e = .returned v ∧ w'.ownsRow W.heap.size 3 1 v l.length (intsV l) ∧ Below w.heap.size w w' := fun W hb => (all_any W B g n hi l (hq.below hb)).mono (fun e w' ⟨v, k1, k2, k3⟩ => ⟨v, k1, k2, hb.trans (k3.mono hb.size)⟩)
  have kC : ∀ W, Below w.heap.size w W → W.cell? ⟨D, 1, none⟩ = some (I n) ∧ W.cell? ⟨D, 2, none⟩ = some (.slice a l.length cc) ∧ W.cell? ⟨D, 3, none⟩ = some (I hi) := fun W hb => (hd.below hb).cells.2
  obtain ⟨c1, c2, c3⟩ := kC w (Below.refl _ _)
  have b0 : Below w.heap.size w w.drew := (Below.refl _ _).drew
  have HD : Hid (Dg w D n hi (.slice a l.length cc) l) := hd
  generalize decide (l.length = n) = fl at *
  clear hq hd h hk
  go_enter Try.func32, Try.ntmps32
  go_wp2
  go_region_held_law (fun w' => w'.cell? ⟨D, 1, none⟩ = some (I n) ∧ w'.cell? ⟨D, 2, none⟩ = some (.slice a l.length cc) ∧ w'.cell? ⟨D, 3, none⟩ = some (I hi))
    (first | exact ⟨c1, c2, c3⟩ | exact kC _ b0 | exact kC _ b5 | (go_keep; done))
    (first
      | (go_at_call 13; refine (hLen _ b0).mono ?_; rintro e w1 ⟨rfl, rfl⟩)
      | (go_at_call 29; refine (hRoom _ b0).mono ?_; rintro e w1 ⟨rfl, rfl⟩)
      | (go_at_call 30; refine (hFull _ b0).mono ?_; clear b0; rintro e w1 ⟨rfl, b0⟩)
      | (go_at_call 57; refine (hdF _ b0).mono ?_; clear b0; rintro e w1 ⟨rfl, b0⟩)
      | (go_at_call 16; refine (hHigh _ b0).mono ?_; rintro e w1 ⟨rfl, rfl⟩)
      | (go_at_call 59; refine (hAll _ b0).mono ?_; clear b0; rintro e w1 ⟨vv, rfl, ho1, b0⟩)
      | (go_at_call 58; refine (same_any _ _ _ _ _ l (by omega) ho1 (HD.out.below b0).p).mono ?_; rintro e w2 ⟨rfl, b5⟩; have b0 := b0.trans (b5.mono b0.size)))
  all_goals
    go_wp2
    go_ret
    exact ⟨rfl, b0⟩
end Go.Proofs.Ytlbkbnhnklaebaa
