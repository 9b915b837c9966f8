import Derived.Test.YtckmdkdhnhkdhaaZfi
import Derived.Laws.AppendOwnNone
import Derived.Maps.AppendAt
namespace Go.Proofs.Ytckmdkdhnhkdhaa
open Go.RowKit
set_option linter.unusedVariables false
set_option linter.unusedSimpArgs false

/-! ### Stacks of ints: above, Cut, Copy -/
theorem own_some {w : World} {b E m : Nat} {v : Value} {xs : List Value} (h : w.ownsRow b E 1 v m xs) (hn : v ≠ .slice none 0 0) : ∃ X cap, v = .slice (some ⟨X, 0, none⟩) m cap := by
  rcases h.2 with ⟨h1, _⟩ | ⟨g, cap, cur, h1, _⟩
  · exact absurd h1 hn
  · exact ⟨g, cap, h1⟩
theorem take_rev (xs : List Int) (m : Nat) (hm : m ≤ xs.length) : xs.reverse.take (xs.length - m) = (xs.drop m).reverse := by
  rw [List.take_reverse, show xs.length - (xs.length - m) = m by omega]
section
variable {w : World} {B g n hi : Nat} {R l : List Value} {xs : List Int}
set_option maxHeartbeats 4000000 in
theorem above_any (h : iSk w B g n hi R (iV xs)) (m : Nat) (hm : m ≤ xs.length) : Calls Try.prog 36 #[iP B, I m] w fun e w' => ∃ X cap, e = .returned (.slice (some ⟨X, 0, none⟩) (xs.length - m) cap) ∧ w'.ownsRow w.heap.size 3 1 (.slice (some ⟨X, 0, none⟩) (xs.length - m) cap) (xs.length - m) (iV (xs.drop m).reverse) ∧ Below w.heap.size w w' := by
  obtain ⟨i0, hi0, hz0, hz1, hz2⟩ := info_parts iinfo
  have hle := h.lle
  have hn := h.m
  rw [iV_len] at hle
  have HF : Hid (∀ W, Below w.heap.size w W → W.cell? ⟨B, 1, none⟩ = some (.slice (some ⟨g, 0, none⟩) n n) ∧ W.cell? ⟨B, 2, none⟩ = some (I xs.length) ∧ ∀ (j : Nat) (x : Int), xs[j]? = some x → W.cell? ⟨g, j, none⟩ = some (I x)) := fun W hb => by
    have h1 := h.below hb
    obtain ⟨-, c1, c2, -⟩ := h1.cells
    rw [iV_len] at c2
    exact ⟨c1, c2, fun j x hj => h1.at (by simp [iV, hj])⟩
  obtain ⟨-, c2, -⟩ := HF.out w (Below.refl _ _)
  have hMK := run_make_own (P := Try.prog) w w.heap.size 22 3 i0 (.int .i64 0) 1 Try.underlying22 hi0 hz0 hz1 .i64 .i64 (xs.length - m) (by rw [hz2]; omega) (by unfold maxLen; omega) (Nat.le_refl _)
  obtain ⟨w2, hmk, hO2, hg2⟩ := hMK
  have b2 : Below w.heap.size w w2 := (Below.refl _ w).grown hg2 (Nat.le_refl _) (fun k e => by cases e)
  have HX : Hid (w2.ownsRow w.heap.size 3 1 (.slice (some ⟨w.heap.size, 0, none⟩) 0 (xs.length - m)) 0 (iV (xs.reverse.take 0)) ∧ Below w.heap.size w w2) := ⟨hO2, b2⟩
  have c22 := (HF.out w2 b2).2.1
  rw [show ((xs.length - m : Nat) : Int) = (xs.length : Int) - m by omega] at hmk
  clear h hg2 hO2 b2
  go_enter Try.func36, Try.ntmps36
  go_wp2
  go_loopw [5, 6] (fun v i wr => ∃ (X cap k : Nat), k ≤ xs.length - m ∧ v = .slice (some ⟨X, 0, none⟩) k cap ∧ i = .int .i64 ((xs.length : Int) - 1 - k) ∧ Hid (wr.ownsRow w.heap.size 3 1 (.slice (some ⟨X, 0, none⟩) k cap) k (iV (xs.reverse.take k)) ∧ Below w.heap.size w wr)) (fun _ i _ => (intOf i + 1 - m).toNat)
  case atStart => exact ⟨w.heap.size, xs.length - m, 0, by omega, rfl, by simp, HX.out⟩
  case round =>
    clear HX c22 hmk c2
    obtain ⟨X, cap, k, hk, rfl, rfl, HJ⟩ := hrel
    by_cases hlt : k < xs.length - m
    · obtain ⟨x, hx⟩ : ∃ x, xs[xs.length - 1 - k]? = some x := ⟨_, List.getElem?_eq_getElem (by omega)⟩
      have hrv : xs.reverse[k]? = some x := by rw [List.getElem?_reverse (by omega)]; exact hx
      have htk : Hid (iV (xs.reverse.take (k + 1)) = iV (xs.reverse.take k) ++ [I x]) := by
        show _ = _
        rw [List.take_add_one, hrv]
        simp [iV]
      obtain ⟨hO, hB⟩ := HJ.out
      obtain ⟨c1, c2, hc⟩ := HF.out wr hB
      have c3 := hc _ x hx
      clear hc hx hrv HJ
      have hp0 : ¬ ((xs.length : Int) - 1 - k) < 0 := by omega
      have hp1 : ((xs.length : Int) - 1 - k) < n := by omega
      have hge : (m : Int) ≤ (xs.length : Int) - 1 - k := by omega
      go_wp2_with (at_builtin; refine wpList_append_own _ rfl (.tmp 24) (.tmp 32) 22 rfl w.heap.size 3 i0 (.int .i64 0) 1 8 Try.underlying22 hi0 hz0 hz1 hz2 rfl (by decide) _ _ _ rfl (hO.alloc (.cells #[I x] 3)) ⟨wr.heap.size, 0, none⟩ 1 1 [I x] rfl rfl (cell_one_new _ _ _) (by intro u hu; simp at hu; subst hu; rfl) (by unfold maxLen; omega) (by omega) (by have := hB.size; simp; omega) ?_; intro v4 w4 h4 hg4 hn4; have b4 : Below w.heap.size w w4 := (hB.alloc (hB.size) (.cells #[I x] 3)).grown hg4 (by have := hB.size; simp; omega) (fun k e => ((hO.alloc (.cells #[I x] 3)).lt k e).1); have n4 : v4 ≠ .slice none 0 0 := (fun e => by have := (hn4.1 e).1; cases this); obtain ⟨X4, cap4, rfl⟩ := own_some h4 n4; have H9 : Hid (w4.ownsRow w.heap.size 3 1 (.slice (some ⟨X4, 0, none⟩) (k + 1) cap4) (k + 1) (iV (xs.reverse.take (k + 1))) ∧ Below w.heap.size w w4) := (by rw [htk.out]; exact ⟨h4, b4⟩); clear hg4 h4 hn4 n4 hO c1 c2 c3 htk b4)
      go_roundw
      case rel => exact ⟨X4, cap4, k + 1, by omega, rfl, congrArg (Value.int .i64) (by omega), H9.out⟩
      case measure => simp [intOf]; omega
    · obtain rfl : k = xs.length - m := by omega
      have hge : ¬ (m : Int) ≤ (xs.length : Int) - 1 - ((xs.length - m : Nat) : Int) := by omega
      obtain ⟨hO, hB⟩ := HJ.out
      rw [take_rev xs m hm] at hO
      go_wp2
      go_ret
      exact ⟨X, cap, rfl, hO, hB⟩
theorem Cut_neg (h : iSk w B g n hi R l) (m : Int) (hm : m < 0) : Calls Try.prog 12 #[iP B, I m] w fun e w' => e = .returned (.tuple #[.slice none 0 0, I 2]) ∧ w = w' := by
  have hN := inone_any h
  go_enter Try.func12, Try.ntmps12
  go_wp2_with (first | (go_at_call 34; refine hN.mono ?_; rintro e w1 ⟨rfl, rfl⟩))
  go_ret2
  exact ⟨rfl, rfl⟩
theorem Cut_over (h : iSk w B g n hi R l) (m : Int) (hm : (l.length : Int) < m) : Calls Try.prog 12 #[iP B, I m] w fun e w' => e = .returned (.tuple #[.slice none 0 0, I 142]) ∧ w = w' := by
  have hN := inone_any h
  obtain ⟨-, -, c2, -⟩ := h.cells
  have h0 : ¬ m < 0 := by omega
  go_enter Try.func12, Try.ntmps12
  go_wp2_with (first | (go_at_call 34; refine hN.mono ?_; rintro e w1 ⟨rfl, rfl⟩))
  go_ret2
  exact ⟨rfl, rfl⟩
theorem Cut_ok (h : iSk w B g n hi R (iV xs)) (m : Nat) (hm : m ≤ xs.length) : Calls Try.prog 12 #[iP B, I m] w fun e w' => ∃ X cap, e = .returned (.tuple #[.slice (some ⟨X, 0, none⟩) (xs.length - m) cap, I 0]) ∧ w'.ownsRow w.heap.size 3 1 (.slice (some ⟨X, 0, none⟩) (xs.length - m) cap) (xs.length - m) (iV (xs.drop m).reverse) ∧ (∃ R', iSk w' B g n hi R' (iV (xs.take m))) ∧ Fx [B, g] w w' := by
  have hN := inone_any h
  obtain ⟨-, -, c2, -⟩ := h.cells
  rw [iV_len] at c2
  have h0 : ¬ (m : Int) < 0 := by omega
  have h1 : ¬ (xs.length : Int) < m := by omega
  have hA := above_any h m hm
  have hlt := h.lts
  have hK := fun W (hb : Below w.heap.size w W) => ikeep_any (h.below hb) m (by rw [iV_len]; exact hm)
  clear h hm
  go_enter Try.func12, Try.ntmps12
  go_wp2_with (first
    | (go_at_call 34; refine hN.mono ?_; rintro e w1 ⟨rfl, rfl⟩)
    | (go_at_call 36; refine hA.mono ?_; rintro e w1 ⟨X, cap, rfl, ho1, b1⟩)
    | (go_at_call 37; refine (hK _ b1).mono ?_; rintro e w2 ⟨rfl, ⟨R2, k2⟩, f2⟩))
  go_ret2
  refine ⟨X, cap, rfl, f2.own ho1 (fun k e => ?_), ⟨R2, by rw [show (iV xs).take m = iV (xs.take m) by simp [iV, List.map_take]] at k2; exact k2⟩, (Fx.of_below b1).trans f2⟩
  have := (ho1.lt k e).1
  simp
  omega
end
end Go.Proofs.Ytckmdkdhnhkdhaa
