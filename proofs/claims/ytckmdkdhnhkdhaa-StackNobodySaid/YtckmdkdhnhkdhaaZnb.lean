import Derived.Test.YtckmdkdhnhkdhaaZpy
import Derived.Test.YtckmdkdhnhkdhaaZop
import Derived.Deep.Cut
namespace Go.Proofs.Ytckmdkdhnhkdhaa
open Go.RowKit
set_option linter.unusedVariables false
set_option linter.unusedSimpArgs false

/-! ### A stack that no call made -/
def Nob (w0 : World) (v : Value) : Prop := ∀ W, Below w0.heap.size w0 W → Calls Try.prog 34 #[v] W fun e w' => e = .returned (.bool true) ∧ W = w'
theorem Nob.below {w w' : World} {v : Value} (h : Nob w v) (hb : Below w.heap.size w w') : Nob w' v := fun W hW => h W (hb.trans (hW.mono hb.size))
theorem nob_nil (w : World) : Nob w (.pointer none) := fun W _ => inone_nil W
theorem nob_zero (w : World) (B : Nat) (h : w.cell? ⟨B, 0, none⟩ = some (.bool false)) : Nob w (iP B) := fun W hb => inone_zero W B ((hb.cell (p := ⟨B, 0, none⟩) (World.block_lt_of_cell? _ _ h)).trans h)
section
variable {w : World} {v : Value}
theorem nPush {p : Option Addr} (h : Nob w (.pointer p)) (x : Int) : Calls Try.prog 10 #[.pointer p, I x] w fun e w' => e = .returned (I 1) ∧ Below w.heap.size w w' := by
  have hb := below_alloc w (.cells #[.pointer p] 23)
  have hN := h _ hb
  have cb : (w.alloc (.cells #[.pointer p] 23)).cell? ⟨w.heap.size, 0, none⟩ = some (.pointer p) := by rw [cell_of_row _ _ _ _ _ (0, 0) (heap_alloc_new w _)]; rfl
  clear h
  go_enter_defers Try.func10, Try.ntmps10
  go_wp2_with (first | (go_at_call 34; refine hN.mono ?_; clear hN; rintro e w1 ⟨rfl, rfl⟩))
  exact ⟨_, results_tmp rfl _ _ _, rfl, hb⟩
theorem nPop (h : Nob w v) : Calls Try.prog 14 #[v] w fun e w' => e = .returned (.tuple #[I 0, I 1]) ∧ w = w' := by
  have hN := h w (Below.refl _ _)
  go_enter Try.func14, Try.ntmps14
  go_wp2_with (first | (go_at_call 34; refine hN.mono ?_; rintro e w1 ⟨rfl, rfl⟩))
  go_ret2
  exact ⟨rfl, rfl⟩
theorem nLen (h : Nob w v) : Calls Try.prog 13 #[v] w fun e w' => e = .returned (I 0) ∧ w = w' := by
  have hN := h w (Below.refl _ _)
  go_enter Try.func13, Try.ntmps13
  go_wp2_with (first | (go_at_call 34; refine hN.mono ?_; rintro e w1 ⟨rfl, rfl⟩))
  go_ret
  exact ⟨rfl, rfl⟩
theorem nDepth (h : Nob w v) : Calls Try.prog 29 #[v] w fun e w' => e = .returned (I 0) ∧ w = w' := by
  have hN := h w (Below.refl _ _)
  go_enter Try.func29, Try.ntmps29
  go_wp2_with (first | (go_at_call 34; refine hN.mono ?_; rintro e w1 ⟨rfl, rfl⟩))
  go_ret
  exact ⟨rfl, rfl⟩
theorem nHigh (h : Nob w v) : Calls Try.prog 15 #[v] w fun e w' => e = .returned (I 0) ∧ w = w' := by
  have hN := h w (Below.refl _ _)
  go_enter Try.func15, Try.ntmps15
  go_wp2_with (first | (go_at_call 34; refine hN.mono ?_; rintro e w1 ⟨rfl, rfl⟩))
  go_ret
  exact ⟨rfl, rfl⟩
theorem nCopy (h : Nob w v) : Calls Try.prog 30 #[v] w fun e w' => e = .returned (.pointer none) ∧ w = w' := by
  have hN := h w (Below.refl _ _)
  go_enter Try.func30, Try.ntmps30
  go_wp2_with (first | (go_at_call 34; refine hN.mono ?_; rintro e w1 ⟨rfl, rfl⟩))
  go_ret
  exact ⟨rfl, rfl⟩
theorem nCut (h : Nob w v) (x : Int) : Calls Try.prog 12 #[v, I x] w fun e w' => e = .returned (.tuple #[.slice none 0 0, I 1]) ∧ w = w' := by
  have hN := h w (Below.refl _ _)
  go_enter Try.func12, Try.ntmps12
  go_wp2_with (first | (go_at_call 34; refine hN.mono ?_; rintro e w1 ⟨rfl, rfl⟩))
  go_ret2
  exact ⟨rfl, rfl⟩
theorem nTop (h : Nob w v) : Calls Try.prog 28 #[v] w fun e w' => e = .returned (.tuple #[I 0, .bool false]) ∧ w = w' := by
  have hL := nLen h
  go_enter Try.func28, Try.ntmps28
  go_wp2_with (first | (go_at_call 13; refine hL.mono ?_; rintro e w1 ⟨rfl, rfl⟩))
  go_ret2
  exact ⟨rfl, rfl⟩
theorem nFind (h : Nob w v) (x : Int) : Calls Try.prog 50 #[v, I x] w fun e w' => e = .returned (.tuple #[I 0, .bool false]) ∧ w = w' := by
  have hL := nLen h
  go_enter Try.func50, Try.ntmps50
  go_wp2_with (first | (go_at_call 13; refine hL.mono ?_; rintro e w1 ⟨rfl, rfl⟩))
  go_loopw [9] (fun i wr => i = .int .i64 0 ∧ w = wr) (fun _ _ => 0)
  case atStart => exact ⟨rfl, rfl⟩
  case round =>
    obtain ⟨rfl, rfl⟩ := hrel
    go_wp2
    go_ret2
    exact ⟨rfl, rfl⟩
theorem nAll (p : Option Addr) (w : World) : Calls Try.prog 27 #[.pointer p] w fun e w' => e = .returned (.func (.func 53) #[] #[.pointer (some ⟨w.heap.size, 0, none⟩)]) ∧ w' = w.alloc (.cells #[.pointer p] 23) := by
  go_enter Try.func27, Try.ntmps27
  go_wp2
  go_ret
  exact ⟨rfl, rfl⟩
end
/-- the document's stack that no call made -/
structure Dz (w : World) (D : Nat) : Prop where
  o : w.heap[D]? = some (.cells #[.bool false, I 0, .slice none 0 0, I 0] 47)
theorem Dz.cells {w : World} {D : Nat} (h : Dz w D) : w.cell? ⟨D, 0, none⟩ = some (.bool false) ∧ w.cell? ⟨D, 1, none⟩ = some (I 0) ∧ w.cell? ⟨D, 2, none⟩ = some (.slice none 0 0) ∧ w.cell? ⟨D, 3, none⟩ = some (I 0) := by
  refine ⟨?_, ?_, ?_, ?_⟩ <;> (rw [cell_of_row w D _ _ _ (0, 0) h.o]; rfl)
theorem Dz.below {w w' : World} {D : Nat} (h : Dz w D) (hb : Below w.heap.size w w') : Dz w' D := ⟨(hb.block D (heap_lt h.o)).trans h.o⟩
section
variable {w : World} {D : Nat}
theorem zPush (h : Dz w D) (x : Int) : Calls Try.prog 21 #[dP D, I x] w fun e w' => e = .returned (I 1) ∧ w = w' := by
  obtain ⟨c0, c1, c2, c3⟩ := h.cells
  go_enter Try.func21, Try.ntmps21
  go_wp2
  go_ret
  exact ⟨rfl, rfl⟩
theorem zPop (h : Dz w D) : Calls Try.prog 23 #[dP D] w fun e w' => e = .returned (.tuple #[I 0, I 1]) ∧ w = w' := by
  obtain ⟨c0, c1, c2, c3⟩ := h.cells
  go_enter Try.func23, Try.ntmps23
  go_wp2
  go_ret2
  exact ⟨rfl, rfl⟩
theorem zCut (h : Dz w D) (x : Int) : Calls Try.prog 51 #[dP D, I x] w fun e w' => e = .returned (.tuple #[.slice none 0 0, I 1]) ∧ w = w' := by
  obtain ⟨c0, c1, c2, c3⟩ := h.cells
  go_enter Try.func51, Try.ntmps51
  go_wp2
  go_ret2
  exact ⟨rfl, rfl⟩
theorem zDown (h : Dz w D) : Calls Try.prog 31 #[dP D] w fun e w' => e = .returned (.slice none 0 0) ∧ w = w' := by
  obtain ⟨c0, c1, c2, c3⟩ := h.cells
  go_enter Try.func31, Try.ntmps31
  go_wp2
  go_loopw [3, 4] (fun u i wr => u = .slice none 0 0 ∧ i = .int .i64 (-1) ∧ w = wr) (fun _ _ _ => 0)
  case atStart => exact ⟨rfl, rfl, rfl⟩
  case round =>
    obtain ⟨rfl, rfl, rfl⟩ := hrel
    go_wp2
    go_ret
    exact ⟨rfl, rfl⟩
theorem zFind (h : Dz w D) (x : Int) : Calls Try.prog 25 #[dP D, I x] w fun e w' => e = .returned (.tuple #[I 0, .bool false]) ∧ w = w' := by
  have hD := zDown h
  go_enter Try.func25, Try.ntmps25
  go_wp2_with (first | (go_at_call 31; refine hD.mono ?_; rintro e w1 ⟨rfl, rfl⟩))
  go_loopw [7] (fun i wr => i = .int .i64 0 ∧ w = wr) (fun _ _ => 0)
  case atStart => exact ⟨rfl, rfl⟩
  case round =>
    obtain ⟨rfl, rfl⟩ := hrel
    go_wp2
    go_ret2
    exact ⟨rfl, rfl⟩
end
/-- nil, or a stack that is all zero -/
def NobV (w : World) (p : Option Addr) : Prop := p = none ∨ ∃ B cs, p = some ⟨B, 0, none⟩ ∧ w.heap[B]? = some (.cells cs 62) ∧ cs[0]? = some (.bool false)
theorem NobV.nob {w : World} {p : Option Addr} (h : NobV w p) : Nob w (.pointer p) := by
  rcases h with rfl | ⟨B, cs, rfl, h1, h2⟩
  · exact nob_nil w
  · exact nob_zero w B (by rw [cell_of_row w B _ _ _ (0, 0) h1]; exact h2)
theorem NobV.below {w w' : World} {p : Option Addr} (h : NobV w p) (hb : Below w.heap.size w w') : NobV w' p := by
  rcases h with rfl | ⟨B, cs, rfl, h1, h2⟩
  · exact .inl rfl
  · exact .inr ⟨B, cs, rfl, (hb.block B (heap_lt h1)).trans h1, h2⟩
set_option maxRecDepth 100000 in
set_option maxHeartbeats 4000000 in
theorem nplay1 {w : World} {p : Option Addr} {D : Nat} (h : NobV w p) (hz : Dz w D) (vv : Int) : Calls Try.prog 26 #[.pointer p, dP D, .agg #[I 1, I vv]] w fun e w' => e = .returned (.bool true) ∧ Below w.heap.size w w' := by
  have b1 := below_alloc w (.cells #[I 1, I vv] 50)
  have h1 := (h.below b1).nob
  have z1 := hz.below b1
  have cV : (w.alloc (.cells #[I 1, I vv] 50)).cell? ⟨w.heap.size, 1, none⟩ = some (I vv) := by rw [cell_of_row _ _ _ _ _ (0, 0) (heap_alloc_new w _)]; rfl
  go_enter Try.func26, Try.ntmps26
  go_wp2
  generalize (w.alloc (.cells #[I 1, I vv] 50)) = W at *
  have bd : Below W.heap.size W W.drew := (Below.refl _ _).drew
  have bw : Below w.heap.size w W.drew := b1.drew
  have R1 := nPush (h1.below bd) vv
  have R2 := fun Z (hb : Below W.drew.heap.size W.drew Z) => zPush ((z1.below bd).below hb) vv
  have cVd : W.drew.cell? ⟨w.heap.size, 1, none⟩ = some (I vv) := cV
  go_region_held_law (fun w' => w'.cell? ⟨w.heap.size, 1, none⟩ = some (I vv))
    (first | exact cV | exact cV1 | (go_keep; done))
    (first
      | (go_at_call 11; refine (num_any _ (by decide) _).mono ?_; rintro e w9 ⟨rfl, rfl⟩)
      | (go_at_call 10; refine R1.mono ?_; clear R1; rintro e w1 ⟨rfl, b4⟩; have cV1 := (b4.cell (p := ⟨w.heap.size, 1, none⟩) (World.block_lt_of_cell? _ _ cVd)).trans cVd)
      | (go_at_call 21; refine (R2 _ b4).mono ?_; clear R2; rintro e w3 ⟨rfl, rfl⟩))
  all_goals
    go_wp2
    go_ret
    exact ⟨rfl, bw.trans (b4.mono bw.size)⟩
set_option maxRecDepth 100000 in
set_option maxHeartbeats 4000000 in
theorem nplay2 {w : World} {p : Option Addr} {D : Nat} (h : NobV w p) (hz : Dz w D) (vv : Int) : Calls Try.prog 26 #[.pointer p, dP D, .agg #[I 2, I vv]] w fun e w' => e = .returned (.bool true) ∧ Below w.heap.size w w' := by
  have b1 := below_alloc w (.cells #[I 2, I vv] 50)
  have h1 := (h.below b1).nob
  have z1 := hz.below b1
  have cV : (w.alloc (.cells #[I 2, I vv] 50)).cell? ⟨w.heap.size, 1, none⟩ = some (I vv) := by rw [cell_of_row _ _ _ _ _ (0, 0) (heap_alloc_new w _)]; rfl
  have R1 := nPop h1
  have R2 := zPop z1
  go_enter Try.func26, Try.ntmps26
  go_wp2_with (first
    | (go_at_call 11; refine (num_any _ (by decide) _).mono ?_; rintro e w9 ⟨rfl, rfl⟩)
    | (go_at_call 14; refine R1.mono ?_; rintro e w1 ⟨rfl, rfl⟩)
    | (go_at_call 23; refine R2.mono ?_; rintro e w1 ⟨rfl, rfl⟩))
  go_ret
  exact ⟨rfl, b1⟩
set_option maxRecDepth 100000 in
set_option maxHeartbeats 4000000 in
theorem nplay3 {w : World} {p : Option Addr} {D : Nat} (h : NobV w p) (hz : Dz w D) (vv : Int) : Calls Try.prog 26 #[.pointer p, dP D, .agg #[I 3, I vv]] w fun e w' => e = .returned (.bool true) ∧ Below w.heap.size w w' := by
  have b1 := below_alloc w (.cells #[I 3, I vv] 50)
  have h1 := (h.below b1).nob
  have z1 := hz.below b1
  have cV : (w.alloc (.cells #[I 3, I vv] 50)).cell? ⟨w.heap.size, 1, none⟩ = some (I vv) := by rw [cell_of_row _ _ _ _ _ (0, 0) (heap_alloc_new w _)]; rfl
  have R1 := nFind h1 vv
  have R2 := zFind z1 vv
  go_enter Try.func26, Try.ntmps26
  go_wp2_with (first
    | (go_at_call 50; refine R1.mono ?_; rintro e w1 ⟨rfl, rfl⟩)
    | (go_at_call 25; refine R2.mono ?_; rintro e w1 ⟨rfl, rfl⟩))
  go_ret
  exact ⟨rfl, b1⟩
set_option maxRecDepth 100000 in
set_option maxHeartbeats 4000000 in
theorem nplay4 {w : World} {p : Option Addr} {D : Nat} (h : NobV w p) (hz : Dz w D) (vv : Int) : Calls Try.prog 26 #[.pointer p, dP D, .agg #[I 4, I vv]] w fun e w' => e = .returned (.bool true) ∧ Below w.heap.size w w' := by
  have b1 := below_alloc w (.cells #[I 4, I vv] 50)
  have h1 := (h.below b1).nob
  have z1 := hz.below b1
  have cV : (w.alloc (.cells #[I 4, I vv] 50)).cell? ⟨w.heap.size, 1, none⟩ = some (I vv) := by rw [cell_of_row _ _ _ _ _ (0, 0) (heap_alloc_new w _)]; rfl
  obtain ⟨i0, hi0, hz0, hz1, hz2⟩ := info_parts iinfo
  have R1 := nCut h1 vv
  have R2 := zCut z1 vv
  have oN := fun (b : Nat) (W : World) => World.ownsRow_nil W b 3 1
  go_enter Try.func26, Try.ntmps26
  go_upto_region 17 with (first
    | (go_at_call 11; refine (num_any _ (by decide) _).mono ?_; rintro e w9 ⟨rfl, rfl⟩)
    | (go_at_call 12; refine R1.mono ?_; clear R1; rintro e w1 ⟨rfl, rfl⟩)
    | (go_at_call 51; refine R2.mono ?_; clear R2; rintro e w3 ⟨rfl, rfl⟩)
    | (go_at_call 52; refine (same_any _ 0 0 _ _ [] (by decide) (oN 0 _) (oN 0 _)).mono ?_; rintro e w4 ⟨rfl, b4⟩))
  have b5 := b1.trans (b4.mono b1.size)
  clear b4 b1 h1 z1 cV
  go_wp2
  go_loopw [19] (fun i wr => i = .int .i64 0 ∧ wr = w4) (fun _ _ => 0)
  case atStart => exact ⟨rfl, rfl⟩
  case round =>
    obtain ⟨rfl, rfl⟩ := hrel
    have HJ2 : Hid (∃ ys, wr.ownsRow w.heap.size 3 1 (.slice none 0 0) 0 ys ∧ Below w.heap.size w wr) := ⟨_, oN _ _, b5⟩
    go_wp2
    go_loopw [15, 20] (fun u i wr => ∃ (ad : Option Addr) (cap q : Nat), q ≤ 40 ∧ u = .slice ad q cap ∧ i = .int .i64 q ∧ Hid (∃ ys, wr.ownsRow w.heap.size 3 1 (.slice ad q cap) q ys ∧ Below w.heap.size w wr)) (fun _ i _ => 40 - (intOf i).toNat)
    case atStart => exact ⟨none, 0, 0, by omega, rfl, rfl, HJ2.out⟩
    case round =>
      clear HJ2
      obtain ⟨ad, cap, q, hq, rfl, rfl, HJ⟩ := hrel
      by_cases hlt2 : q < 40
      · have hltI : (q : Int) < 40 := by omega
        obtain ⟨ys, o1, f1⟩ := HJ.out
        have hs1 := f1.size
        clear HJ
        go_wp2_with (at_builtin; refine wpList_append_own _ rfl (.tmp 119) (.tmp 120) 22 rfl w.heap.size 3 i0 (.int .i64 0) 1 8 Try.underlying22 hi0 hz0 hz1 hz2 rfl (by decide) _ _ _ rfl (o1.alloc (.cells #[I (-6)] 3)) ⟨wr.heap.size, 0, none⟩ 1 1 [I (-6)] rfl rfl (cell_one_new _ _ _) (by intro u hu; simp at hu; subst hu; rfl) (by unfold maxLen; omega) (by omega) (by simp; omega) ?_; intro v4 w5 h4 hg4 hn4; have F5 : Below w.heap.size w w5 := (f1.alloc f1.size (.cells #[I (-6)] 3)).grown hg4 (by simp; omega) (fun k e => ((o1.alloc (.cells #[I (-6)] 3)).lt k e).1); obtain ⟨X4, cap4, rfl⟩ := own_sl h4; have H9 : Hid (∃ ys, w5.ownsRow w.heap.size 3 1 (.slice X4 (q + 1) cap4) (q + 1) ys ∧ Below w.heap.size w w5) := ⟨_, h4, F5⟩; clear hg4 h4 hn4 o1 f1 F5)
        go_roundw
        case rel => exact ⟨X4, cap4, q + 1, by omega, rfl, by go_num, H9.out⟩
        case measure => simp [intOf]; omega
      · obtain rfl : q = 40 := by omega
        obtain ⟨ys, o1, f1⟩ := HJ.out
        have hge2 : ¬ ((40 : Int) < 40) := by omega
        go_wp2
        go_ret
        exact ⟨rfl, f1⟩
theorem nplay_any {w : World} {p : Option Addr} {D : Nat} (h : NobV w p) (hz : Dz w D) (kd vv : Int) : Calls Try.prog 26 #[.pointer p, dP D, .agg #[I kd, I vv]] w fun e w' => e = .returned (.bool true) ∧ Below w.heap.size w w' := by
  by_cases h1 : kd = 1
  · subst h1; exact nplay1 h hz vv
  by_cases h2 : kd = 2
  · subst h2; exact nplay2 h hz vv
  by_cases h3 : kd = 3
  · subst h3; exact nplay3 h hz vv
  by_cases h4 : kd = 4
  · subst h4; exact nplay4 h hz vv
  exact play0 w _ _ kd vv h1 h2 h3 h4
end Go.Proofs.Ytckmdkdhnhkdhaa
