import Derived.Test.YtlbgppijeoonjaaGreatDoorRrf
import Derived.Test.YtlbgppijeoonjaaGreatDoorTpX
import Derived.Test.YtlbgppijeoonjaaGreatDoorGos
namespace Go.Proofs.YtlbgppijeoonjaaGreatDoor
open Go.RowKit
set_option linter.unusedVariables false

/-- The results' variables, kept. -/
structure Cz (w W : World) : Prop where
  bel : Below w.heap.size w W
  v : W.heap[w.heap.size]? = some (.cells #[.string ⟨#[]⟩, .string ⟨#[]⟩, .slice none 0 0, .bool false, .string ⟨#[]⟩] 24 (0, 0))
  f : W.heap[w.heap.size + 1]? = some (.cells #[.int .i64 0, .int .i64 0, .int .i64 0, .int .i64 0, .string ⟨#[]⟩] 60 (0, 0))
theorem Cz.grown {w W W' : World} {b : Nat} (h : Cz w W) (hg : W.grownBy W' (some b)) (hb : w.heap.size + 1 < b) : Cz w W' :=
  ⟨h.bel.trans (below_of_grown hg (by omega) h.bel.size), (hg.block _ (heap_lt h.v) (fun e => by cases e; omega)).trans h.v, (hg.block _ (heap_lt h.f) (fun e => by cases e; omega)).trans h.f⟩
theorem Cz.below {w W W' : World} (h : Cz w W) (hb : Below W.heap.size W W') : Cz w W' :=
  ⟨h.bel.trans (hb.mono h.bel.size), (hb.block _ (heap_lt h.v)).trans h.v, (hb.block _ (heap_lt h.f)).trans h.f⟩
theorem set8_5 (w : World) (b : Nat) (t : TypeId) (o0 o1 o2 o3 o4 o5 o6 o7 v : Value) (k : w.heap[b]? = some (.cells #[o0, o1, o2, o3, o4, o5, o6, o7] t (0, 0))) : (w.setCell ⟨b, 5, none⟩ v).heap[b]? = some (.cells #[o0, o1, o2, o3, o4, v, o6, o7] t (0, 0)) := heap_setCell_same _ b 5 _ t _ k
theorem set5_2 (w : World) (b : Nat) (t : TypeId) (o0 o1 o2 o3 o4 v : Value) (k : w.heap[b]? = some (.cells #[o0, o1, o2, o3, o4] t (0, 0))) : (w.setCell ⟨b, 2, none⟩ v).heap[b]? = some (.cells #[o0, o1, v, o3, o4] t (0, 0)) := heap_setCell_same _ b 2 _ t _ k
/-- The objects read so far, kept. -/
structure Co (base bnd : Nat) (W : World) (lv : Value) (qs : List (Ob × Value)) : Prop where
  own : W.ownsRow base 71 8 lv qs.length (rowsO qs)
  par : ∀ q, q ∈ qs → AttrsAt W (fun g => base ≤ g ∧ lv.ownBlock ≠ some g ∧ g < bnd) q.2 q.1.attrs
  blk : ∀ g, lv.ownBlock = some g → base ≤ g ∧ g < bnd
theorem Co.grown {base bnd b : Nat} {W W' : World} {lv : Value} {qs : List (Ob × Value)} (h : Co base bnd W lv qs) (hg : W.grownBy W' (some b)) (hb : b < base ∨ bnd ≤ b) : Co base bnd W' lv qs := by
  refine ⟨h.own.kept hg (.inr (fun e => by have := h.blk _ e; omega)), fun p hp => attrsAt_move hg.size (fun g hF hl => ⟨hg.block g hl (fun e => by cases e; omega), hF⟩) (h.par p hp), h.blk⟩
theorem Co.below {base bnd : Nat} {W W' : World} {lv : Value} {qs : List (Ob × Value)} (h : Co base bnd W lv qs) (hb : Below W.heap.size W W') : Co base bnd W' lv qs :=
  ⟨own_below h.own hb, fun p hp => attrsAt_below hb (h.par p hp), h.blk⟩
theorem textS_one (f : Nat) (σ : Rs) : textS f σ = (⟨(takeS 3 (takeS 6 (wordS oilV σ)).2).1.z.text, (takeS 1 (wordS cpuW (takeS 7 (takeS 3 (takeS 6 (wordS oilV σ)).2).2).2)).1.z.text, (objsS f f [] (takeS 4 (takeS 1 (wordS cpuW (takeS 7 (takeS 3 (takeS 6 (wordS oilV σ)).2).2).2)).2).2).1, noteB (noteS (takeS 5 (objsS f f [] (takeS 4 (takeS 1 (wordS cpuW (takeS 7 (takeS 3 (takeS 6 (wordS oilV σ)).2).2).2)).2).2).2).2).1, noteT (noteS (takeS 5 (objsS f f [] (takeS 4 (takeS 1 (wordS cpuW (takeS 7 (takeS 3 (takeS 6 (wordS oilV σ)).2).2).2)).2).2).2).2).1⟩, (takeS 0 (takeS 7 (noteS (takeS 5 (objsS f f [] (takeS 4 (takeS 1 (wordS cpuW (takeS 7 (takeS 3 (takeS 6 (wordS oilV σ)).2).2).2)).2).2).2).2).2).2).2) := rfl
theorem objS_one (f : Nat) (σ : Rs) : objS f σ = (⟨(takeS 1 σ).1.z.text, (takeS 1 (takeS 1 σ).2).1.z.text, (takeS 1 σ).1.o, (takeS 1 σ).1.l, (takeS 1 σ).1.c, (rowS (f - 1) 0 [] (takeS 4 (takeS 1 (takeS 1 σ).2).2).2).1, noteB (noteS (takeS 5 (rowS (f - 1) 0 [] (takeS 4 (takeS 1 (takeS 1 σ).2).2).2).2).2).1, noteT (noteS (takeS 5 (rowS (f - 1) 0 [] (takeS 4 (takeS 1 (takeS 1 σ).2).2).2).2).2).1⟩, (takeS 7 (noteS (takeS 5 (rowS (f - 1) 0 [] (takeS 4 (takeS 1 (takeS 1 σ).2).2).2).2).2).2).2) := rfl
set_option maxHeartbeats 8000000 in
set_option maxRecDepth 100000 in
theorem rparse_bad (s : ByteArray) (w : World) (hs : s.size < 4611686018427387904) (c a : Nat) (hsc : scanA s.data.toList = .inr (c, a)) :
    Calls Tryz.prog 25 #[.string s] w fun e w' => PsPost w (parseL s.data.toList) e w' := by
  have hP : parseL s.data.toList = .inr (c, (a : Int), (lineN s.data.toList a : Int), (colN s.data.toList a : Int)) := by unfold parseL; rw [hsc]
  rw [hP]
  have hcb := (scanA_bad hsc).1
  have cs := fun w => rScan_any s w hs
  rw [hsc] at cs
  unfold SPost at cs
  dsimp only at cs
  generalize lineN s.data.toList a = ln at *
  generalize colN s.data.toList a = cl at *
  have hb2 := ((Below.refl w.heap.size w).alloc (Nat.le_refl _) (.cells #[.string ⟨#[]⟩, .string ⟨#[]⟩, .slice none 0 0, .bool false, .string ⟨#[]⟩] 24)).alloc (by simp) (.cells #[.int .i64 0, .int .i64 0, .int .i64 0, .int .i64 0, .string ⟨#[]⟩] 60)
  have ht2 := heap2_0' w (.cells #[.string ⟨#[]⟩, .string ⟨#[]⟩, .slice none 0 0, .bool false, .string ⟨#[]⟩] 24) (.cells #[.int .i64 0, .int .i64 0, .int .i64 0, .int .i64 0, .string ⟨#[]⟩] 60)
  have hf2 := heap2_1' w (.cells #[.string ⟨#[]⟩, .string ⟨#[]⟩, .slice none 0 0, .bool false, .string ⟨#[]⟩] 24) (.cells #[.int .i64 0, .int .i64 0, .int .i64 0, .int .i64 0, .string ⟨#[]⟩] 60)
  clear hP hsc
  go_enter Tryz.func25, Tryz.ntmps25
  go_wp2_with fail
  generalize ((w.alloc (.cells #[.string ⟨#[]⟩, .string ⟨#[]⟩, .slice none 0 0, .bool false, .string ⟨#[]⟩] 24)).alloc (.cells #[.int .i64 0, .int .i64 0, .int .i64 0, .int .i64 0, .string ⟨#[]⟩] 60)) = w2 at *
  refine (cs w2).mono ?_
  rintro e w3 ⟨rfl, hb3⟩
  have hC3 : Cz w w3 := Cz.below ⟨hb2, ht2, hf2⟩ hb3
  have hs3 := heap_lt hC3.f
  clear hb2 ht2 hf2 hb3 cs
  have hal := (Below.refl w3.heap.size w3).alloc (Nat.le_refl _) (.cells #[.int .i64 (c : Int), .int .i64 (a : Int), .int .i64 (ln : Int), .int .i64 (cl : Int), .string ⟨#[]⟩] 60)
  have hC4 := hC3.below hal
  have hz4 : (w3.alloc (.cells #[.int .i64 (c : Int), .int .i64 (a : Int), .int .i64 (ln : Int), .int .i64 (cl : Int), .string ⟨#[]⟩] 60)).heap[w3.heap.size]? = some (.cells #[.int .i64 (c : Int), .int .i64 (a : Int), .int .i64 (ln : Int), .int .i64 (cl : Int), .string ⟨#[]⟩] 60 (0, 0)) := heap_alloc_new w3 _
  have hc0 : ((c : Int) == 0) = false := by rw [beq_eq_false_iff_ne]; omega
  have hc1 : ((c : Int) != 0) = true := by unfold bne; rw [hc0]; rfl
  clear hal hC3
  go_wp2
  generalize (w3.alloc (.cells #[.int .i64 (c : Int), .int .i64 (a : Int), .int .i64 (ln : Int), .int .i64 (cl : Int), .string ⟨#[]⟩] 60)) = w4 at *
  obtain ⟨⟨y0, y1, y2, y3, y4⟩, fy⟩ := var5 hC4.v
  obtain ⟨⟨u0, u1, u2, u3, u4⟩, fu⟩ := var5 hC4.f
  obtain ⟨⟨z0, z1, z2, z3, z4⟩, _⟩ := var5 hz4
  have hne : w.heap.size + 1 ≠ w.heap.size := by omega
  have hne2 : w3.heap.size ≠ w.heap.size := by omega
  have hne3 : w3.heap.size ≠ w.heap.size + 1 := by omega
  have ht5 := set5t_at w4 w.heap.size _ _ _ _ _ _ (.string ⟨#[]⟩) (.string ⟨#[]⟩) (.slice none 0 0) (.bool false) (.string ⟨#[]⟩) hC4.v
  have hg5 := set5t_grown w4 w.heap.size (.string ⟨#[]⟩) (.string ⟨#[]⟩) (.slice none 0 0) (.bool false) (.string ⟨#[]⟩)
  have hf5 := (hg5.block _ (heap_lt hC4.f) (fun e => absurd (Option.some.inj e) (by omega))).trans hC4.f
  have hb5 : Below w.heap.size w _ := hC4.bel.trans (below_of_grown hg5 (Nat.le_refl _) hC4.bel.size)
  clear hC4 hz4 hg5
  go_region
  all_goals
    generalize (((((w4.setCell ⟨w.heap.size, 0, none⟩ (.string ⟨#[]⟩)).setCell ⟨w.heap.size, 1, none⟩ (.string ⟨#[]⟩)).setCell ⟨w.heap.size, 2, none⟩ (.slice none 0 0)).setCell ⟨w.heap.size, 3, none⟩ (.bool false)).setCell ⟨w.heap.size, 4, none⟩ (.string ⟨#[]⟩)) = w5 at *
    have hf6 := set5t_at w5 (w.heap.size + 1) _ _ _ _ _ _ (.int .i64 (c : Int)) (.int .i64 (a : Int)) (.int .i64 (ln : Int)) (.int .i64 (cl : Int)) (.string ⟨#[]⟩) hf5
    have hg6 := set5t_grown w5 (w.heap.size + 1) (.int .i64 (c : Int)) (.int .i64 (a : Int)) (.int .i64 (ln : Int)) (.int .i64 (cl : Int)) (.string ⟨#[]⟩)
    have ht6 := (hg6.block _ (heap_lt ht5) (fun e => absurd (Option.some.inj e) (by omega))).trans ht5
    have hb6 : Below w.heap.size w _ := hb5.trans (below_of_grown hg6 (Nat.le_succ _) hb5.size)
    generalize (((((w5.setCell ⟨w.heap.size + 1, 0, none⟩ (.int .i64 (c : Int))).setCell ⟨w.heap.size + 1, 1, none⟩ (.int .i64 (a : Int))).setCell ⟨w.heap.size + 1, 2, none⟩ (.int .i64 (ln : Int))).setCell ⟨w.heap.size + 1, 3, none⟩ (.int .i64 (cl : Int))).setCell ⟨w.heap.size + 1, 4, none⟩ (.string ⟨#[]⟩)) = w6 at *
    have hb7 := hb6.drew
    have hf7 : w6.drew.heap[w.heap.size + 1]? = _ := hf6
    have ht7 : w6.drew.heap[w.heap.size]? = _ := ht6
    clear hb5 hb6 hf6 ht6 hg6 hf5 ht5 y0 y1 y2 y3 y4 u0 u1 u2 u3 u4 z0 z1 z2 z3 z4 fy fu
    generalize w6.drew = w7 at *
    go_wp2
    exact bodyPost_ret (res_parse Tryz.results25 _ w.heap.size (w.heap.size + 1) _ _ _ _ _ _ _ _ _ _ _ rfl rfl ht7 hf7) rfl ⟨rfl, hb7⟩
end Go.Proofs.YtlbgppijeoonjaaGreatDoor
