import Derived.Test.YtnmknnkpkkefoaaGreatDoorAlp
namespace Go.Proofs.YtnmknnkpkkefoaaGreatDoor
open Go.RowKit
set_option linter.unusedVariables false

theorem rowT_below {w w' : World} {v : Value} {xs : List Tp} (h : RowT w v xs) (hb : Below w.heap.size w w') : RowT w' v xs := by
  cases h with
  | nil => exact .nil
  | some hg hc h1 => exact .some (Nat.lt_of_lt_of_le hg hb.size) (fun j u hj => by rw [cell_below hb _ _ hg]; exact hc j u hj) h1
theorem rowT_at {w : World} {g off n cap : Nat} {xs : List Tp} (h : RowT w (.slice (some ⟨g, off, none⟩) n cap) xs) (j : Nat) (u : Value) (hj : (tpsL xs)[j]? = some u) : w.cell? ⟨g, off + j, none⟩ = some u := by
  cases h with
  | nil => cases hj
  | some hg hc h1 => exact hc j u hj
set_option maxHeartbeats 4000000 in
set_option maxRecDepth 100000 in
theorem alive_any (B0 : Nat) (p : Nat → Addr) (w : World) (hE : Env B0 p w) (hF : EnvF B0 p w) (hT : EnvT w) :
    Calls Tryz.prog 7 #[] w fun e w' => e = .returned (.bool true) ∧ Below w.heap.size w w' := by
  have c1 := Scan_any B0 p ⟨al1.toArray⟩ w hE hF (by decide)
  rw [show (⟨al1.toArray⟩ : ByteArray).data.toList = al1 from rfl, al_scan1] at c1
  go_enter Tryz.func7, Tryz.ntmps7
  go_wp2_with fail
  refine c1.mono ?_
  rintro e w1 ⟨v, rfl, hO, hb1⟩
  rw [tks_tps] at hO
  have hR := row_own hO rfl
  obtain ⟨g, cap, hv⟩ : ∃ g cap, v = .slice (some ⟨g, 0, none⟩) 7 cap := by
    rcases hO.2 with ⟨_, h0⟩ | ⟨g, cap, cur, hv, _⟩
    · cases h0
    · exact ⟨g, cap, hv⟩
  subst hv
  have hE1 := hE.below (hb1.mono hE.size)
  have hF1 := hF.below hE (hb1.mono hE.size)
  have hT1 := hT.below hb1
  clear c1 hO
  unfold zero5
  have hba : Below w1.heap.size w1 (w1.alloc (.cells #[.int .i64 0, .int .i64 0, .int .i64 0, .int .i64 0, .string ⟨#[]⟩] 27)) := (Below.refl _ _).alloc (Nat.le_refl _) _
  have hva : (w1.alloc (.cells #[.int .i64 0, .int .i64 0, .int .i64 0, .int .i64 0, .string ⟨#[]⟩] 27)).heap[w1.heap.size]? = some (.cells #[.int .i64 0, .int .i64 0, .int .i64 0, .int .i64 0, .string ⟨#[]⟩] 27 (0, 0)) := push_at w1.heap _
  have c2 := Scan_any B0 p ⟨al2.toArray⟩ _ (hE1.below (hba.mono hE1.size)) (hF1.below hE1 (hba.mono hE1.size)) (by decide)
  rw [show (⟨al2.toArray⟩ : ByteArray).data.toList = al2 from rfl, al_scan2] at c2
  go_wp2_with fail
  refine c2.mono ?_
  rintro e w2 ⟨rfl, hb2⟩
  have hv2 := (hb2.block _ (heap_lt hva)).trans hva
  have hb12 := hba.trans (hb2.mono hba.size)
  have hE2 := hE1.below (hb12.mono hE1.size)
  have hF2 := hF1.below hE1 (hb12.mono hE1.size)
  have hT2 := hT1.below hb12
  rw [show lineN al2 4 = 2 from rfl, show colN al2 4 = 3 from rfl]
  have hbc : Below w2.heap.size w2 (w2.alloc (.cells #[.int .i64 20, .int .i64 4, .int .i64 2, .int .i64 3, .string ⟨#[]⟩] 27)) := (Below.refl _ _).alloc (Nat.le_refl _) _
  have hvc : (w2.alloc (.cells #[.int .i64 20, .int .i64 4, .int .i64 2, .int .i64 3, .string ⟨#[]⟩] 27)).heap[w2.heap.size]? = some (.cells #[.int .i64 20, .int .i64 4, .int .i64 2, .int .i64 3, .string ⟨#[]⟩] 27 (0, 0)) := push_at w2.heap _
  have hbj := hb12.trans (hbc.mono hb12.size)
  have c3 := Join_any B0 p (.slice (some ⟨g, 0, none⟩) 7 cap) (alT.map (tpOf al1)) _ (hE2.below (hbc.mono hE2.size)) (hT2.below hbc) (rowT_below hR hbj) (by intro x hx; simp at hx; rcases hx with rfl | rfl | rfl | rfl | rfl | rfl | rfl <;> exact ⟨by decide, by decide⟩) (by decide)
  unfold jnV at c3
  rw [al_join] at c3
  simp only at c3
  clear c2 hva hba hb2
  go_wp2_with fail
  refine c3.mono ?_
  rintro e w3 ⟨rfl, hb3⟩
  have hb13 := hbj.trans (hb3.mono hbj.size)
  have hv3f := (hb3.block _ (Nat.lt_of_lt_of_le (heap_lt hv2) hbc.size)).trans ((hbc.block _ (heap_lt hv2)).trans hv2)
  have hv3g := (hb3.block _ (heap_lt hvc)).trans hvc
  have hR3 := rowT_below hR hb13
  have f1 := fun i => cell_of_row w3 w1.heap.size i _ _ (0, 0) hv3f
  have f10 := f1 0; have f11 := f1 1; have f12 := f1 2; have f13 := f1 3; have f14 := f1 4
  have g1 := fun i => cell_of_row w3 w2.heap.size i _ _ (0, 0) hv3g
  have g10 := g1 0; have g11 := g1 1; have g12 := g1 2; have g13 := g1 3
  have r := fun j u h => rowT_at hR3 j u h
  have r4 : w3.cell? ⟨g, 4, none⟩ = some (.string ⟨#[84, 95, 49]⟩) := r 4 _ rfl
  have r18 : w3.cell? ⟨g, 18, none⟩ = some (.string ⟨#[97, 34]⟩) := r 18 _ rfl
  have r15 : w3.cell? ⟨g, 15, none⟩ = some (.int .i64 10) := r 15 _ rfl
  have r16 : w3.cell? ⟨g, 16, none⟩ = some (.int .i64 2) := r 16 _ rfl
  have r17 : w3.cell? ⟨g, 17, none⟩ = some (.int .i64 1) := r 17 _ rfl
  have r33 : w3.cell? ⟨g, 33, none⟩ = some (.int .u32 255) := r 33 _ rfl
  have r34 : w3.cell? ⟨g, 34, none⟩ = some (.bool true) := r 34 _ rfl
  have r42 : w3.cell? ⟨g, 42, none⟩ = some (.int .i64 0) := r 42 _ rfl
  simp at f10 f11 f12 f13 f14 g10 g11 g12 g13
  have cn : Calls Tryz.prog 16 #[.int .i64 0] w3 fun e w' => e = .returned (.int .i64 0) ∧ w3 = w' := by
    go_enter Tryz.func16, Tryz.ntmps16
    go_wp2
    go_ret
    exact ⟨rfl, rfl⟩
  have hbz := hb1.trans (hb13.mono hb1.size)
  clear c3 hR hR3 r f1 g1 hv3f hv3g hv2 hvc hbc hb12 hb13 hb1 hb3 hE hE1 hE2 hF hF1 hF2 hT hT1 hT2 hbj
  go_wp2_with (go_at_call 16; refine cn.mono ?_; rintro e w4 ⟨rfl, rfl⟩)
  go_ret
  exact ⟨rfl, hbz⟩
end Go.Proofs.YtnmknnkpkkefoaaGreatDoor
