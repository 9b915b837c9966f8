import Derived.Test.YtlbgppijeoonjaaGreatDoorHdX
import Derived.Test.YtlbgppijeoonjaaGreatDoorAtb
import Derived.Test.YtlbgppijeoonjaaGreatDoorFnX
namespace Go.Proofs.YtlbgppijeoonjaaGreatDoor
open Go.RowKit
set_option linter.unusedVariables false

/-! ### heads() -/
set_option maxHeartbeats 1000000 in
set_option maxRecDepth 100000 in
theorem text_any (w : World) : Calls Tryz.prog 31 #[] w fun e w' => e = .returned (.string ⟨#[79, 73, 76, 95, 86, 69, 82, 83, 73, 79, 78, 32, 61, 32, 34, 50, 46, 53, 34, 59, 32, 67, 80, 85, 32, 99, 32, 123, 32, 84, 65, 83, 75, 32, 84, 32, 123, 32, 80, 82, 73, 79, 82, 73, 84, 89, 32, 61, 32, 49, 59, 32, 65, 32, 61, 32, 66, 32, 123, 32, 67, 32, 61, 32, 48, 120, 50, 32, 58, 32, 34, 110, 34, 59, 32, 125, 59, 32, 125, 59, 32, 125, 59]⟩) ∧ w = w' := by
  go_enter Tryz.func31, Tryz.ntmps31
  go_wp2
  go_ret
  exact ⟨rfl, rfl⟩
theorem attrsAt_two {w : World} {F : Nat → Prop} {v : Value} {a b : At} (h : AttrsAt w F v [a, b]) : ∃ g off cap, v = .slice (some ⟨g, off, none⟩) 2 cap := by
  generalize hl : ([a, b] : List At) = l at h
  cases h with
  | nil => cases hl
  | @row g off cap ps _ _ _ _ _ =>
    have : ps.length = 2 := by
      have := congrArg List.length hl
      simpa using this.symm
    exact ⟨g, off, cap, by rw [this]⟩
theorem objsAt_one {w : World} {F : Nat → Prop} {v : Value} {o : Ob} (h : ObjsAt w F v [o]) : ∃ g off cap pv, v = .slice (some ⟨g, off, none⟩) 1 cap ∧ F g ∧ g < w.heap.size ∧ (∀ j u, (rowsO [(o, pv)])[j]? = some u → w.cell? ⟨g, off + j, none⟩ = some u) ∧ AttrsAt w F pv o.attrs := by
  generalize hl : ([o] : List Ob) = l at h
  cases h with
  | nil => cases hl
  | @row g off cap qs hF hg hc hcap hA =>
    cases qs with
    | nil => cases hl
    | cons q qs =>
      cases qs with
      | cons q2 qs => cases hl
      | nil =>
        obtain ⟨o', pv⟩ := q
        have : o = o' := by simpa using hl
        subst this
        exact ⟨g, off, cap, pv, rfl, hF, hg, hc, hA _ (List.mem_singleton.2 rfl)⟩
theorem hd_walk : WalkP hdO.attrs [1, 0] hdC := .more (b := hdA) rfl (.one rfl)
set_option maxHeartbeats 8000000 in
set_option maxRecDepth 100000 in
theorem heads_any (B0 : Nat) (p : Nat → Addr) (w : World) (hE : Env B0 p w) (hF : EnvF B0 p w) :
    Calls Tryz.prog 14 #[] w fun e w' => e = .returned (.bool true) ∧ Below w.heap.size w w' := by
  have c1 : Calls Tryz.prog 21 #[.string ⟨#[79, 73, 76, 95, 86, 69, 82, 83, 73, 79, 78, 32, 61, 32, 34, 50, 46, 53, 34, 59, 32, 67, 80, 85, 32, 99, 32, 123, 32, 84, 65, 83, 75, 32, 84, 32, 123, 32, 80, 82, 73, 79, 82, 73, 84, 89, 32, 61, 32, 49, 59, 32, 65, 32, 61, 32, 66, 32, 123, 32, 67, 32, 61, 32, 48, 120, 50, 32, 58, 32, 34, 110, 34, 59, 32, 125, 59, 32, 125, 59, 32, 125, 59]⟩] w fun e w' => PsPost w (.inl hdT) e w' := by
    have h := Parse_any B0 p ⟨#[79, 73, 76, 95, 86, 69, 82, 83, 73, 79, 78, 32, 61, 32, 34, 50, 46, 53, 34, 59, 32, 67, 80, 85, 32, 99, 32, 123, 32, 84, 65, 83, 75, 32, 84, 32, 123, 32, 80, 82, 73, 79, 82, 73, 84, 89, 32, 61, 32, 49, 59, 32, 65, 32, 61, 32, 66, 32, 123, 32, 67, 32, 61, 32, 48, 120, 50, 32, 58, 32, 34, 110, 34, 59, 32, 125, 59, 32, 125, 59, 32, 125, 59]⟩ w hE hF (by decide)
    rw [show parseL (⟨#[79, 73, 76, 95, 86, 69, 82, 83, 73, 79, 78, 32, 61, 32, 34, 50, 46, 53, 34, 59, 32, 67, 80, 85, 32, 99, 32, 123, 32, 84, 65, 83, 75, 32, 84, 32, 123, 32, 80, 82, 73, 79, 82, 73, 84, 89, 32, 61, 32, 49, 59, 32, 65, 32, 61, 32, 66, 32, 123, 32, 67, 32, 61, 32, 48, 120, 50, 32, 58, 32, 34, 110, 34, 59, 32, 125, 59, 32, 125, 59, 32, 125, 59]⟩ : ByteArray).data.toList = .inl hdT from hd_parse1] at h
    exact h
  have c2 : ∀ W, Below w.heap.size w W → Calls Tryz.prog 21 #[.string ⟨#[79, 73, 76, 95, 86, 69, 82, 83, 73, 79, 78, 32, 61, 32, 34, 50, 46, 53, 34, 59, 32, 67, 80, 85, 32, 99, 32, 123, 32, 84, 65, 83, 75, 32, 84, 32, 123, 32, 80, 82, 73, 79, 82, 73, 84, 89, 32, 49, 59, 32, 125, 59, 32, 125, 59]⟩] W fun e w' => PsPost W (.inr (30, 47, 1, 48)) e w' := fun W hW => by
    have h := Parse_any B0 p ⟨#[79, 73, 76, 95, 86, 69, 82, 83, 73, 79, 78, 32, 61, 32, 34, 50, 46, 53, 34, 59, 32, 67, 80, 85, 32, 99, 32, 123, 32, 84, 65, 83, 75, 32, 84, 32, 123, 32, 80, 82, 73, 79, 82, 73, 84, 89, 32, 49, 59, 32, 125, 59, 32, 125, 59]⟩ W (hE.below (hW.mono hE.size)) (hF.below hE (hW.mono hE.size)) (by decide)
    rw [show parseL (⟨#[79, 73, 76, 95, 86, 69, 82, 83, 73, 79, 78, 32, 61, 32, 34, 50, 46, 53, 34, 59, 32, 67, 80, 85, 32, 99, 32, 123, 32, 84, 65, 83, 75, 32, 84, 32, 123, 32, 80, 82, 73, 79, 82, 73, 84, 89, 32, 49, 59, 32, 125, 59, 32, 125, 59]⟩ : ByteArray).data.toList = .inr (30, 47, 1, 48) from hd_parse2] at h
    exact h
  have c0 := text_any w
  clear hE hF
  go_enter Tryz.func14, Tryz.ntmps14
  go_wp2_with (go_at_call 31; refine c0.mono ?_; rintro e w' ⟨rfl, rfl⟩)
  refine c1.mono ?_
  rintro e w1 ⟨pv, rfl, hO1, hb1⟩
  obtain ⟨g, off, cap, pv1, rfl, hFg, hg, hc, hA⟩ := objsAt_one hO1
  obtain ⟨g1, off1, cap1, rfl⟩ := attrsAt_two hA
  have hx5 : w1.cell? ⟨g, off + 5, none⟩ = some (.slice (some ⟨g1, off1, none⟩) 2 cap1) := hc 5 _ rfl
  have hT : trC hdT (.slice (some ⟨g, off, none⟩) 1 cap) = #[.string ⟨#[50, 46, 53]⟩, .string ⟨#[99]⟩, .slice (some ⟨g, off, none⟩) 1 cap, .bool false, .string ⟨#[]⟩] := rfl
  rw [hT]
  unfold zero5
  clear c0 c1 hT
  go_wp2_with fail
  have hb2 := (hb1.alloc hb1.size (.cells #[.string ⟨#[50, 46, 53]⟩, .string ⟨#[99]⟩, .slice (some ⟨g, off, none⟩) 1 cap, .bool false, .string ⟨#[]⟩] 24)).alloc (by simp; have := hb1.size; omega) (.cells #[.int .i64 0, .int .i64 0, .int .i64 0, .int .i64 0, .string ⟨#[]⟩] 60)
  have hal := ((Below.refl w1.heap.size w1).alloc (Nat.le_refl _) (.cells #[.string ⟨#[50, 46, 53]⟩, .string ⟨#[99]⟩, .slice (some ⟨g, off, none⟩) 1 cap, .bool false, .string ⟨#[]⟩] 24)).alloc (by simp) (.cells #[.int .i64 0, .int .i64 0, .int .i64 0, .int .i64 0, .string ⟨#[]⟩] 60)
  have ht2 := heap2_0' w1 (.cells #[.string ⟨#[50, 46, 53]⟩, .string ⟨#[99]⟩, .slice (some ⟨g, off, none⟩) 1 cap, .bool false, .string ⟨#[]⟩] 24) (.cells #[.int .i64 0, .int .i64 0, .int .i64 0, .int .i64 0, .string ⟨#[]⟩] 60)
  have hf2 := heap2_1' w1 (.cells #[.string ⟨#[50, 46, 53]⟩, .string ⟨#[99]⟩, .slice (some ⟨g, off, none⟩) 1 cap, .bool false, .string ⟨#[]⟩] 24) (.cells #[.int .i64 0, .int .i64 0, .int .i64 0, .int .i64 0, .string ⟨#[]⟩] 60)
  have hO2 := objsAt_move hal.size (fun g hF hl => ⟨hal.block g hl, hF⟩) hO1
  have hx2 := (cell_below hal g (off + 5) hg).trans hx5
  have hb1s := hb1.size
  clear hb1 hO1 hx5 hal hc hA
  generalize ((w1.alloc (.cells #[.string ⟨#[50, 46, 53]⟩, .string ⟨#[99]⟩, .slice (some ⟨g, off, none⟩) 1 cap, .bool false, .string ⟨#[]⟩] 24)).alloc (.cells #[.int .i64 0, .int .i64 0, .int .i64 0, .int .i64 0, .string ⟨#[]⟩] 60)) = w2 at *
  generalize w1.heap.size = bt at *
  refine (c2 w2 hb2).mono ?_
  rintro e w3 ⟨rfl, hb3⟩
  have ht3 := (hb3.block _ (heap_lt ht2)).trans ht2
  have hf3 := (hb3.block _ (heap_lt hf2)).trans hf2
  have hO3 := objsAt_move hb3.size (fun g hF hl => ⟨hb3.block g hl, hF⟩) hO2
  have hg2 : g < w2.heap.size := by have := heap_lt ht2; omega
  have hx3 := (cell_below hb3 g (off + 5) hg2).trans hx2
  have hbw3 := hb2.trans (hb3.mono hb2.size)
  have hbt3 := heap_lt hf3
  have hg3 := Nat.lt_of_lt_of_le hg2 hb3.size
  clear hb2 hb3 ht2 hf2 hO2 hx2 c2
  unfold zeroT
  have hal := ((Below.refl w3.heap.size w3).alloc (Nat.le_refl _) (.cells #[.string ⟨#[]⟩, .string ⟨#[]⟩, .slice none 0 0, .bool false, .string ⟨#[]⟩] 24)).alloc (by simp) (.cells #[.int .i64 30, .int .i64 47, .int .i64 1, .int .i64 48, .string ⟨#[]⟩] 60)
  have ht4 := (hal.block _ (heap_lt ht3)).trans ht3
  have hf4 := (hal.block _ (heap_lt hf3)).trans hf3
  have hq4 := heap2_1' w3 (.cells #[.string ⟨#[]⟩, .string ⟨#[]⟩, .slice none 0 0, .bool false, .string ⟨#[]⟩] 24) (.cells #[.int .i64 30, .int .i64 47, .int .i64 1, .int .i64 48, .string ⟨#[]⟩] 60)
  have hO4 := objsAt_move hal.size (fun g hF hl => ⟨hal.block g hl, hF⟩) hO3
  have hx4 := (cell_below hal g (off + 5) hg3).trans hx3
  have hbw4 := hbw3.trans (hal.mono hbw3.size)
  have hg4 := Nat.lt_of_lt_of_le hg3 hal.size
  clear hal ht3 hf3 hO3 hx3 hbw3
  obtain ⟨⟨a0, a1, a2, a3, a4⟩, _⟩ := var5 ht4
  obtain ⟨⟨b0, b1, b2, b3, b4⟩, _⟩ := var5 hf4
  obtain ⟨⟨d0, d1, d2, d3, d4⟩, _⟩ := var5 hq4
  go_wp2_with fail
  clear a0 a1 a2 a3 a4 b0 b1 b2 b3 b4 d0 d1 d2 d3 d4 hq4 hf4 hx4
  have hs4 : ((w3.alloc (.cells #[.string ⟨#[]⟩, .string ⟨#[]⟩, .slice none 0 0, .bool false, .string ⟨#[]⟩] 24)).alloc (.cells #[.int .i64 30, .int .i64 47, .int .i64 1, .int .i64 48, .string ⟨#[]⟩] 60)).heap.size = w3.heap.size + 1 + 1 := by simp
  generalize ((w3.alloc (.cells #[.string ⟨#[]⟩, .string ⟨#[]⟩, .slice none 0 0, .bool false, .string ⟨#[]⟩] 24)).alloc (.cells #[.int .i64 30, .int .i64 47, .int .i64 1, .int .i64 48, .string ⟨#[]⟩] 60)) = w4 at *
  rw [← hs4]
  clear hs4
  have hal := (Below.refl w4.heap.size w4).alloc (Nat.le_refl _) (.cells #[.int .i64 0, .int .i64 1, .int .i64 0] 3)
  have ht5 := (hal.block _ (heap_lt ht4)).trans ht4
  have hO5 := objsAt_move hal.size (fun g hF hl => ⟨hal.block g hl, hF⟩) hO4
  have hbw5 := hbw4.trans (hal.mono hbw4.size)
  have hp5 : (w4.alloc (.cells #[.int .i64 0, .int .i64 1, .int .i64 0] 3)).heap[w4.heap.size]? = some (.cells #[.int .i64 0, .int .i64 1, .int .i64 0] 3 (0, 0)) := heap_alloc_new w4 _
  clear hal ht4 hO4 hbw4
  generalize (w4.alloc (.cells #[.int .i64 0, .int .i64 1, .int .i64 0] 3)) = w5 at *
  have hgp := heap_lt hp5
  generalize w4.heap.size = gp at *
  have q := fun i => cell_of_row w5 gp i _ _ (0, 0) hp5
  obtain ⟨g', off', cap', pv1, he, _, hg5, hc5, hA5⟩ := objsAt_one hO5
  obtain ⟨rfl, rfl, rfl⟩ : g = g' ∧ off = off' ∧ cap = cap' := by cases he; exact ⟨rfl, rfl, rfl⟩
  have hp0 : w5.cell? ⟨gp, 0, none⟩ = some (.int .i64 ((0 : Nat) : Int)) := q 0
  have hp1 : w5.cell? ⟨gp, 0 + 1 + 0, none⟩ = some (.int .i64 ((1 : Nat) : Int)) := q 1
  have hp2 : w5.cell? ⟨gp, 0 + 1 + 1, none⟩ = some (.int .i64 ((0 : Nat) : Int)) := q 2
  have hp : ∀ (k i : Nat), ([1, 0] : List Nat)[k]? = some i → w5.cell? ⟨gp, 0 + 1 + k, none⟩ = some (.int .i64 (i : Int)) := fun k i hk => by
    match k, hk with
    | 0, hk => cases hk; exact hp1
    | 1, hk => cases hk; exact hp2
    | k + 2, hk => cases hk
  have hAA : ∀ q, q ∈ [(hdO, pv1)] → AttrsAt w5 (fun g => w.heap.size ≤ g) q.2 q.1.attrs := fun q hq => by obtain rfl := List.mem_singleton.1 hq; exact hA5
  have h63 : 1 ≤ maxLen := by unfold maxLen; omega
  have h64 : 3 ≤ maxLen := by unfold maxLen; omega
  have ca := attr_ok w5 (fun g => w.heap.size ≤ g) [50, 46, 53] [99] false [] g off cap [(hdO, pv1)] 1 rfl h63 hg5 hc5 hAA gp 0 2 3 0 [1, 0] rfl (by omega) (by omega) h64 hgp hp0 hp hdO pv1 rfl hdC hd_walk (copied_nil _)
  refine ca.mono ?_
  rintro e w6 ⟨pv', rfl, hA6, hb6⟩
  obtain ⟨pa, pn, pc, rfl⟩ := attrsAt_shape hA6
  have hT : atC hdC (.slice pa pn pc) = #[.string ⟨#[67]⟩, .int .i64 60, .int .i64 1, .int .i64 61, .int .i64 2, .string ⟨#[]⟩, .int .u32 2, .bool true, .bool false, .slice pa pn pc, .bool true, .string ⟨#[110]⟩] := rfl
  rw [hT]
  have ht6 := (hb6.block _ (heap_lt ht5)).trans ht5
  have hO6 := objsAt_move hb6.size (fun g hF hl => ⟨hb6.block g hl, hF⟩) hO5
  have hbw6 := hbw5.trans (hb6.mono hbw5.size)
  clear ca q hp0 hp1 hp2 hp hAA hA6 hb6 ht5 hO5 hbw5 hT hA5 hc5 hp5 hgp he
  have hal := (Below.refl w6.heap.size w6).alloc (Nat.le_refl _) (.cells #[.string ⟨#[67]⟩, .int .i64 60, .int .i64 1, .int .i64 61, .int .i64 2, .string ⟨#[]⟩, .int .u32 2, .bool true, .bool false, .slice pa pn pc, .bool true, .string ⟨#[110]⟩] 34)
  have ht7 := (hal.block _ (heap_lt ht6)).trans ht6
  have hO7 := objsAt_move hal.size (fun g hF hl => ⟨hal.block g hl, hF⟩) hO6
  have hbw7 := hbw6.trans (hal.mono hbw6.size)
  have ha7 : (w6.alloc (.cells #[.string ⟨#[67]⟩, .int .i64 60, .int .i64 1, .int .i64 61, .int .i64 2, .string ⟨#[]⟩, .int .u32 2, .bool true, .bool false, .slice pa pn pc, .bool true, .string ⟨#[110]⟩] 34)).heap[w6.heap.size]? = some (.cells #[.string ⟨#[67]⟩, .int .i64 60, .int .i64 1, .int .i64 61, .int .i64 2, .string ⟨#[]⟩, .int .u32 2, .bool true, .bool false, .slice pa pn pc, .bool true, .string ⟨#[110]⟩] 34 (0, 0)) := heap_alloc_new w6 _
  clear hal ht6 hO6 hbw6
  generalize hw7 : (w6.alloc (.cells #[.string ⟨#[67]⟩, .int .i64 60, .int .i64 1, .int .i64 61, .int .i64 2, .string ⟨#[]⟩, .int .u32 2, .bool true, .bool false, .slice pa pn pc, .bool true, .string ⟨#[110]⟩] 34)) = w7 at ht7 hO7 hbw7 ha7
  obtain ⟨⟨a0, a1, a2, a3, a4⟩, _⟩ := var5 ht7
  obtain ⟨⟨e0, _, _, _, _, _, e6, _, _, _, _, e11⟩, _⟩ := var12 ha7
  have cf1 : ∀ W, ObjsAt W (fun g => w.heap.size ≤ g) (.slice (some ⟨g, off, none⟩) 1 cap) [hdO] → Calls Tryz.prog 12 #[.agg #[.string ⟨#[50, 46, 53]⟩, .string ⟨#[99]⟩, .slice (some ⟨g, off, none⟩) 1 cap, .bool false, .string ⟨#[]⟩], .string ⟨#[84, 65, 83, 75]⟩, .string ⟨#[84]⟩] W fun e w' => e = .returned (.int .i64 0) ∧ Below W.heap.size W w' := fun W hO => find_any W _ hdT _ [84, 65, 83, 75] [84] hO (by decide)
  have cf2 : ∀ W, ObjsAt W (fun g => w.heap.size ≤ g) (.slice (some ⟨g, off, none⟩) 1 cap) [hdO] → Calls Tryz.prog 12 #[.agg #[.string ⟨#[50, 46, 53]⟩, .string ⟨#[99]⟩, .slice (some ⟨g, off, none⟩) 1 cap, .bool false, .string ⟨#[]⟩], .string ⟨#[84, 65, 83, 75]⟩, .string ⟨#[116]⟩] W fun e w' => e = .returned (.int .i64 (-1)) ∧ Below W.heap.size W w' := fun W hO => find_any W _ hdT _ [84, 65, 83, 75] [116] hO (by decide)
  go_wp2_with fail
  refine (cf1 _ hO7).mono ?_
  rintro e w8 ⟨rfl, hb8⟩
  have ht8 := (hb8.block _ (heap_lt ht7)).trans ht7
  have hO8 := objsAt_move hb8.size (fun g hF hl => ⟨hb8.block g hl, hF⟩) hO7
  have hbw8 := hbw7.trans (hb8.mono hbw7.size)
  obtain ⟨⟨f0, f1, f2, f3, f4⟩, _⟩ := var5 ht8
  clear hb8 ht7 hO7 hbw7 ha7 hw7 a0 a1 a2 a3 a4 e0 e6 e11 cf1
  go_wp2_with fail
  refine (cf2 _ hO8).mono ?_
  rintro e w9 ⟨rfl, hb9⟩
  have hbw9 := hbw8.trans (hb9.mono hbw8.size)
  clear hb9 ht8 hO8 hbw8 f0 f1 f2 f3 f4 cf2
  go_wp2
  go_ret
  exact ⟨rfl, hbw9⟩
end Go.Proofs.YtlbgppijeoonjaaGreatDoor
