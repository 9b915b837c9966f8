import Derived.Test.YtiggbnkmggbpiaaGreatDoorRsd
import Derived.Test.YtiggbnkmggbpiaaGreatDoorAlv
namespace Go.Proofs.YtiggbnkmggbpiaaGreatDoor
open Go.RowKit
set_option linter.unusedVariables false

theorem num_s (z : Int) (w : World) : Calls Tryz.prog 11 #[.int .i64 z] w fun e w' => e = .returned (.int .i64 z) ∧ w = w' := by
  go_enter Tryz.func11, Tryz.ntmps11
  go_wp2
  go_ret
  exact ⟨rfl, rfl⟩
theorem spV2_shape (x : Tz) : ∃ (s : ByteArray) (e : Int), spV2 x = .tuple #[.string s, .int .i64 e] := by
  unfold spV2
  split <;> exact ⟨_, _, rfl⟩
set_option maxHeartbeats 4000000 in
set_option maxRecDepth 100000 in
theorem spells_any (B0 : Nat) (p : Nat → Addr) (x : Tz) (o l c : Int) (w : World) (hE : Env B0 p w) (hF : EnvF B0 p w) (hT : EnvT w) (hx : TzOk x) :
    Calls Tryz.prog 7 #[tzV x o l c] w fun e w' => e = .returned (.bool true) ∧ Below w.heap.size w w' := by
  have hba : ∀ ob, Below w.heap.size w (w.alloc ob) := fun ob => (Below.refl _ _).alloc (Nat.le_refl _) _
  have c1 := fun ob => Spell_any B0 p x o l c (w.alloc ob) (hE.below ((hba ob).mono hE.size)) (hT.below (hba ob)) hx
  have c2 := fun w => rSpell_any x o l c w hx
  obtain ⟨s1, e1, hse⟩ := spV2_shape x
  rw [hse] at c1 c2
  have cal : ∀ W, Below w.heap.size w W → Calls Tryz.prog 12 #[] W fun e w' => e = .returned (.bool true) ∧ Below W.heap.size W w' := fun W hb => alive_any B0 p W (hE.below (hb.mono hE.size)) (hF.below hE (hb.mono hE.size)) (hT.below hb)
  clear hse
  unfold tzV tzC at c1 c2 ⊢
  obtain ⟨kind, text, val, hex⟩ := x
  simp only at c1 c2 ⊢
  have hva : (w.alloc (.cells #[.int .i64 kind, .int .i64 o, .int .i64 l, .int .i64 c, .string ⟨text.toArray⟩, .int .u32 (val : Int), .bool hex] 36)).heap[w.heap.size]? = some (.cells #[.int .i64 kind, .int .i64 o, .int .i64 l, .int .i64 c, .string ⟨text.toArray⟩, .int .u32 (val : Int), .bool hex] 36 (0, 0)) := push_at w.heap _
  have hbo := hba (.cells #[.int .i64 kind, .int .i64 o, .int .i64 l, .int .i64 c, .string ⟨text.toArray⟩, .int .u32 (val : Int), .bool hex] 36)
  have c1' := c1 (.cells #[.int .i64 kind, .int .i64 o, .int .i64 l, .int .i64 c, .string ⟨text.toArray⟩, .int .u32 (val : Int), .bool hex] 36)
  clear c1 hba
  go_enter Tryz.func7, Tryz.ntmps7
  go_wp2_with (first
    | (go_at_call 17; refine c1'.mono ?_; rintro e w1 ⟨rfl, hb1⟩; have a1 := fun i => cell_of_row w1 w.heap.size i _ _ (0, 0) ((hb1.block _ (heap_lt hva)).trans hva); have z0 := a1 0; have z1 := a1 1; have z2 := a1 2; have z3 := a1 3; have z4 := a1 4; have z5 := a1 5; have z6 := a1 6; simp at z0 z1 z2 z3 z4 z5 z6; clear a1; have hbw1 := hbo.trans (hb1.mono hbo.size))
    | (go_at_call 18; refine (c2 _).mono ?_; rintro e w2 ⟨rfl, hb2⟩; have hbw2 := hbw1.trans (hb2.mono hbw1.size))
    | (go_at_call 11; refine (num_s _ _).mono ?_; rintro e w3 ⟨rfl, rfl⟩)
    | (go_at_call 12; refine (cal _ hbw2).mono ?_; rintro e w9 ⟨rfl, hb9⟩))
  go_ret
  exact ⟨rfl, hbw2.trans (hb9.mono hbw2.size)⟩
end Go.Proofs.YtiggbnkmggbpiaaGreatDoor
