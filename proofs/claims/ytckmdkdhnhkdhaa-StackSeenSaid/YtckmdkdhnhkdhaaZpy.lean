import Derived.Test.YtckmdkdhnhkdhaaZpr
import Derived.Deep.Cut
namespace Go.Proofs.Ytckmdkdhnhkdhaa
open Go.RowKit
set_option linter.unusedVariables false
set_option linter.unusedSimpArgs false

/-! ### play -/
theorem own_set1 {w : World} {b E n g c i : Nat} {u : Value} {xs : List Value} (h : w.ownsRow b E 1 (.slice (some ⟨g, 0, none⟩) n c) n xs) (hi : i < n) : (w.setCell ⟨g, i, none⟩ u).ownsRow b E 1 (.slice (some ⟨g, 0, none⟩) n c) n (xs.set i u) := by
  obtain ⟨hl, ⟨h0, _⟩ | ⟨g', cap, cur, hv, hb, hh, h1, h2, h3, h4⟩⟩ := h
  · cases h0
  · cases hv
    refine ⟨by simpa using hl, .inr ⟨g, c, _, rfl, hb, heap_setCell_same w g i _ _ u hh, h1, h2, by simpa using h3, ?_⟩⟩
    rw [Array.toList_setIfInBounds, ← h4, List.take_set]
theorem own_at1 {w : World} {b E n : Nat} {v : Value} {xs : List Value} (h : w.ownsRow b E 1 v n xs) {i : Nat} (hi : i < n) : ∃ g c old, v = .slice (some ⟨g, 0, none⟩) n c ∧ b ≤ g ∧ w.cell? ⟨g, i, none⟩ = some old ∧ w.frozen? ⟨g, i, none⟩ = false := by
  rcases h.2 with ⟨h1, h0⟩ | ⟨g, cap, cur, h1, hb, hh, hc, _, hs, _⟩
  · omega
  · refine ⟨g, cap, cur[i]'(by omega), h1, hb, ?_, frozen_of_row w g i _ _ hh⟩
    rw [cell_of_row w g i _ _ (0, 0) hh]
    exact Array.getElem?_eq_getElem (by omega)
section
variable {w : World} {B g D n hi : Nat} {v : Value} {l : List Int}
theorem bothCut (h : Pr w B g D n hi v l) (m : Int) : ∃ (c : Int) (k : Nat) (zs l' : List Int), (-100000 ≤ c ∧ c ≤ 100000) ∧ zs.length = k ∧ k ≤ 1024 ∧ (∀ W, Below w.heap.size w W → Calls Try.prog 12 #[iP B, I m] W fun e w' => ∃ u, e = .returned (.tuple #[u, I c]) ∧ w'.ownsRow W.heap.size 3 1 u k (iV zs) ∧ Md w' B g D n hi hi v l l' ∧ Fx [B, g] W w') ∧ (∀ W, Md W B g D n hi hi v l l' → Calls Try.prog 51 #[dP D, I m] W fun e w' => ∃ u, e = .returned (.tuple #[u, I c]) ∧ w'.ownsRow W.heap.size 3 1 u k (iV zs) ∧ ∃ v', Pr w' B g D n hi v' l' ∧ v'.ownBlock = v.ownBlock ∧ Fz (Db D v) W w') ∧ ((c ≠ 0 ∧ l' = l) ∨ (c = 0 ∧ ∃ j : Nat, m = j ∧ j ≤ l.length ∧ l' = l.take j ∧ zs = (l.drop j).reverse)) := by
  by_cases h0 : m < 0
  · refine ⟨2, 0, [], l, by decide, rfl, by omega, fun W hb => (iCutN (h.below hb).q m h0).mono ?_, fun W hm => (dCut_neg hm.d m h0).mono ?_, .inl ⟨by decide, rfl⟩⟩
    · rintro e w' ⟨rfl, rfl⟩
      exact ⟨_, rfl, World.ownsRow_nil _ _ _ _, ⟨(h.below hb).q, (h.below hb).d, h.ap⟩, Fx.refl _ _⟩
    · rintro e w' ⟨rfl, rfl⟩
      exact ⟨_, rfl, World.ownsRow_nil _ _ _ _, v, ⟨hm.q, hm.d, hm.ap⟩, rfl, Fz.refl _ _⟩
  by_cases h1 : (l.length : Int) < m
  · refine ⟨142, 0, [], l, by decide, rfl, by omega, fun W hb => (iCutO (h.below hb).q m h1).mono ?_, fun W hm => (dCut_over hm.d m h1).mono ?_, .inl ⟨by decide, rfl⟩⟩
    · rintro e w' ⟨rfl, rfl⟩
      exact ⟨_, rfl, World.ownsRow_nil _ _ _ _, ⟨(h.below hb).q, (h.below hb).d, h.ap⟩, Fx.refl _ _⟩
    · rintro e w' ⟨rfl, rfl⟩
      exact ⟨_, rfl, World.ownsRow_nil _ _ _ _, v, ⟨hm.q, hm.d, hm.ap⟩, rfl, Fz.refl _ _⟩
  obtain ⟨j, rfl⟩ := Int.eq_ofNat_of_zero_le (a := m) (by omega)
  have hj : j ≤ l.length := by omega
  have hle := h.q.le
  have hm := h.q.m
  refine ⟨0, l.length - j, (l.drop j).reverse, l.take j, by decide, by simp, by omega, fun W hb => (iCutQ (h.below hb).q j hj).mono ?_, fun W hm => (dCut_ok hm.d j hj).mono ?_, .inr ⟨rfl, j, rfl, hj, rfl, rfl⟩⟩
  · rintro e w' ⟨X, cap, rfl, o1, q1, f1⟩
    exact ⟨_, rfl, o1, (h.below hb).md f1 q1, f1⟩
  · rintro e w' ⟨u, rfl, o1, v', d1, e1, f1⟩
    exact ⟨u, rfl, o1, v', hm.pr d1 (Vn.same e1) f1, e1, f1⟩
end
set_option maxRecDepth 100000 in
set_option maxHeartbeats 4000000 in
theorem play1 {w : World} {B g D n hi : Nat} {v : Value} {l : List Int} (h : Pr w B g D n hi v l) (vv : Int) : Calls Try.prog 26 #[iP B, dP D, .agg #[I 1, I vv]] w fun e w' => e = .returned (.bool true) ∧ PlayP w B g D n v w' := by
  obtain ⟨c, hi', l', hcb, R1, R2⟩ := bothPush h vv
  have hlt := h.lt
  have hA1 : w.heap.size ∉ [B, g] := fun e => by have := hlt w.heap.size (.inl (by simpa using e)); omega
  have hA2 : ¬ Db D v w.heap.size := fun e => by have := hlt w.heap.size (.inr e); omega
  have b1 := below_alloc w (.cells #[I 1, I vv] 50)
  have cV : (w.alloc (.cells #[I 1, I vv] 50)).cell? ⟨w.heap.size, 1, none⟩ = some (I vv) := by rw [cell_of_row _ _ _ _ _ (0, 0) (heap_alloc_new w _)]; rfl
  go_enter Try.func26, Try.ntmps26
  go_wp2
  clear h hlt
  generalize (w.alloc (.cells #[I 1, I vv] 50)) = W at *
  have cVd : W.drew.cell? ⟨w.heap.size, 1, none⟩ = some (I vv) := cV
  have bd : Below w.heap.size w W.drew := b1.drew
  go_region_held_law (fun w' => w'.cell? ⟨w.heap.size, 1, none⟩ = some (I vv))
    (first | exact cV | exact cV3 | exact cV1 | (go_keep; done))
    (first
      | (go_at_call 11; refine (num_any _ hcb _).mono ?_; rintro e w9 ⟨rfl, rfl⟩)
      | (go_at_call 10; refine (R1 _ bd).mono ?_; clear R1; rintro e w1 ⟨rfl, m1, f1⟩; have cV1 := f1.cell cVd hA1)
      | (go_at_call 21; refine (R2 _ m1).mono ?_; clear R2; rintro e w3 ⟨rfl, v', p3, n3, f3⟩; have cV3 := f3.cell cV1 hA2))
  all_goals
    go_wp2
    go_ret
    exact ⟨rfl, _, v', _, p3, Vn.step (Vn.refl w v) n3 (Nat.le_trans bd.size f1.size), ((Fz.of_below bd).trans (Fz.of_fx f1 (fun b hb => .inl (by simpa using hb)))).trans (f3.mono (fun b e => .inr e))⟩
set_option maxRecDepth 100000 in
set_option maxHeartbeats 4000000 in
theorem play2 {w : World} {B g D n hi : Nat} {v : Value} {l : List Int} (h : Pr w B g D n hi v l) (vv : Int) : Calls Try.prog 26 #[iP B, dP D, .agg #[I 2, I vv]] w fun e w' => e = .returned (.bool true) ∧ PlayP w B g D n v w' := by
  obtain ⟨c, x, l', hcb, R1, R2, -⟩ := bothPop h
  have hlt := h.lt
  have hA1 : w.heap.size ∉ [B, g] := fun e => by have := hlt w.heap.size (.inl (by simpa using e)); omega
  have hA2 : ¬ Db D v w.heap.size := fun e => by have := hlt w.heap.size (.inr e); omega
  have b1 := below_alloc w (.cells #[I 2, I vv] 50)
  have cV : (w.alloc (.cells #[I 2, I vv] 50)).cell? ⟨w.heap.size, 1, none⟩ = some (I vv) := by rw [cell_of_row _ _ _ _ _ (0, 0) (heap_alloc_new w _)]; rfl
  clear h hlt
  go_enter Try.func26, Try.ntmps26
  go_wp2_with (first
    | (go_at_call 11; refine (num_any _ hcb _).mono ?_; rintro e w9 ⟨rfl, rfl⟩)
    | (go_at_call 14; refine (R1 _ b1).mono ?_; clear R1; rintro e w1 ⟨rfl, m1, f1⟩)
    | (go_at_call 23; refine (R2 _ m1).mono ?_; clear R2; rintro e w3 ⟨rfl, v', p3, n3, f3⟩))
  go_ret
  exact ⟨rfl, _, v', _, p3, Vn.step (Vn.refl w v) n3 (Nat.le_trans b1.size f1.size), ((Fz.of_below b1).trans (Fz.of_fx f1 (fun b hb => .inl (by simpa using hb)))).trans (f3.mono (fun b e => .inr e))⟩
set_option maxRecDepth 100000 in
set_option maxHeartbeats 4000000 in
theorem play3 {w : World} {B g D n hi : Nat} {v : Value} {l : List Int} (h : Pr w B g D n hi v l) (vv : Int) : Calls Try.prog 26 #[iP B, dP D, .agg #[I 3, I vv]] w fun e w' => e = .returned (.bool true) ∧ PlayP w B g D n v w' := by
  have hlt := h.lt
  have hA1 : w.heap.size ∉ [B, g] := fun e => by have := hlt w.heap.size (.inl (by simpa using e)); omega
  have hA2 : ¬ Db D v w.heap.size := fun e => by have := hlt w.heap.size (.inr e); omega
  have b1 := below_alloc w (.cells #[I 3, I vv] 50)
  have cV : (w.alloc (.cells #[I 3, I vv] 50)).cell? ⟨w.heap.size, 1, none⟩ = some (I vv) := by rw [cell_of_row _ _ _ _ _ (0, 0) (heap_alloc_new w _)]; rfl
  have hF1 := fun W (hb : Below w.heap.size w W) => iFindQ (h.below hb).q vv
  have hF2 := fun W (hb : Below w.heap.size w W) => dFind_any (h.below hb).d vv
  have HH : Hid (Pr w B g D n hi v l) := h
  clear h hlt
  generalize fndO (fun x => iEq x vv) l.reverse = r at *
  obtain ⟨k, t⟩ := r
  dsimp only at hF1 hF2
  go_enter Try.func26, Try.ntmps26
  go_wp2_with (first
    | (go_at_call 50; refine (hF1 _ b1).mono ?_; clear hF1; rintro e w1 ⟨rfl, b2⟩; have b3 := b1.trans (b2.mono b1.size); have cV1 := (b2.cell (p := ⟨w.heap.size, 1, none⟩) (World.block_lt_of_cell? _ _ cV)).trans cV)
    | (go_at_call 25; refine (hF2 _ b3).mono ?_; clear hF2; rintro e w3 ⟨rfl, b4⟩; have b5 := b3.trans (b4.mono b3.size)))
  go_ret
  exact ⟨rfl, _, v, _, HH.out.below b5, Vn.refl _ _, Fz.of_below b5⟩
set_option maxRecDepth 100000 in
set_option maxHeartbeats 4000000 in
theorem play4 {w : World} {B g D n hi : Nat} {v : Value} {l : List Int} (h : Pr w B g D n hi v l) (vv : Int) : Calls Try.prog 26 #[iP B, dP D, .agg #[I 4, I vv]] w fun e w' => e = .returned (.bool true) ∧ PlayP w B g D n v w' := by
  obtain ⟨i0, hi0, hz0, hz1, hz2⟩ := info_parts iinfo
  obtain ⟨c, k, zs, l', hcb, hzs, hk, R1, R2, -⟩ := bothCut h vv
  have hlt := h.lt
  have hA1 : w.heap.size ∉ [B, g] := fun e => by have := hlt w.heap.size (.inl (by simpa using e)); omega
  have hA2 : ¬ Db D v w.heap.size := fun e => by have := hlt w.heap.size (.inr e); omega
  have b1 := below_alloc w (.cells #[I 4, I vv] 50)
  have cV : (w.alloc (.cells #[I 4, I vv] 50)).cell? ⟨w.heap.size, 1, none⟩ = some (I vv) := by rw [cell_of_row _ _ _ _ _ (0, 0) (heap_alloc_new w _)]; rfl
  have HLT : Hid (∀ b, Pb B g D v b → b < w.heap.size) := hlt
  clear h hlt
  go_enter Try.func26, Try.ntmps26
  go_upto_region 17 with (first
    | (go_at_call 11; refine (num_any _ hcb _).mono ?_; rintro e w9 ⟨rfl, rfl⟩)
    | (go_at_call 12; refine (R1 _ b1).mono ?_; clear R1; rintro e w1 ⟨u1, rfl, o1, m1, f1⟩; have cV1 := f1.cell cV hA1; obtain ⟨a1, c1, hu1⟩ := own_sl o1; subst hu1)
    | (go_at_call 51; refine (R2 _ m1).mono ?_; clear R2; rintro e w3 ⟨u2, rfl, o2, v', p3, e3, f3⟩; obtain ⟨a2, c2, hu2⟩ := own_sl o2; subst hu2; have o3 := f3.own o1 (fun b e hb => by have := (o1.lt b e).1; have := HLT.out b (.inr hb); have := b1.size; omega))
    | (go_at_call 52; refine (same_len _ _ _ _ _ _ zs hzs (by omega) o3 o2).mono ?_; rintro e w4 ⟨rfl, b4⟩))
  have HP : Hid (Pr w4 B g D n hi v' l' ∧ Vn w v v' ∧ Fz (Pb B g D v) w w4 ∧ ∀ b, Pb B g D v' b → b < w.heap.size) := by
    refine ⟨p3.below b4, Vn.same e3, (((Fz.of_below b1).trans (Fz.of_fx f1 (fun b hb => .inl (by simpa using hb)))).trans (f3.mono (fun b e => .inr e))).trans (Fz.of_below b4), fun b hb => HLT.out b ?_⟩
    rcases hb with hb | hb | hb
    · exact .inl hb
    · exact .inr (.inl hb)
    · exact .inr (.inr (e3 ▸ hb))
  have hsz : w.heap.size ≤ w4.heap.size := HP.out.2.2.1.size
  have HO : Hid (∃ ys, w4.ownsRow w.heap.size 3 1 (.slice a1 k c1) k ys ∧ Fz (fun b => w.heap.size ≤ b) w4 w4) := ⟨_, own_base (own_below o3 b4) b1.size, Fz.refl _ _⟩
  clear o1 o2 o3 p3 e3 f1 f3 b4 m1 HLT cV cV1 hA1 hA2 b1
  go_wp2
  go_loopw [19] (fun i wr => ∃ j : Nat, j ≤ k ∧ i = .int .i64 j ∧ Hid (∃ ys, wr.ownsRow w.heap.size 3 1 (.slice a1 k c1) k ys ∧ Fz (fun b => w.heap.size ≤ b) w4 wr)) (fun i _ => k - (intOf i).toNat)
  case atStart => exact ⟨0, Nat.zero_le _, rfl, HO.out⟩
  case round =>
    clear HO
    obtain ⟨j, hj, rfl, HJ⟩ := hrel
    by_cases hlt : j < k
    · have hltI : (j : Int) < k := by omega
      have hj0 : ¬ (j : Int) < 0 := by omega
      obtain ⟨ys, o1, f1⟩ := HJ.out
      obtain ⟨X, cc, old, e1, hX, co, cz⟩ := own_at1 o1 hlt
      cases e1
      have H9 : Hid (∃ ys, (wr.setCell ⟨X, j, none⟩ (I (-5))).ownsRow w.heap.size 3 1 (.slice (some ⟨X, 0, none⟩) k c1) k ys ∧ Fz (fun b => w.heap.size ≤ b) w4 (wr.setCell ⟨X, j, none⟩ (I (-5)))) := ⟨_, own_set1 o1 hlt, f1.set (b := X) (.inl hX) _ _⟩
      clear HJ o1 f1
      go_wp2
      go_roundw
      case rel => exact ⟨j + 1, by omega, by go_num, H9.out⟩
      case measure => simp [intOf]; omega
    · obtain rfl : j = k := by omega
      have hge : ¬ ((j : Int) < j) := by omega
      have HJ2 : Hid (∃ ys, wr.ownsRow w.heap.size 3 1 (.slice a1 (j + 0) c1) (j + 0) ys ∧ Fz (fun b => w.heap.size ≤ b) w4 wr) := HJ.out
      go_wp2
      go_loopw [15, 20] (fun u i wr => ∃ (ad : Option Addr) (cap q : Nat), q ≤ 40 ∧ u = .slice ad (j + q) cap ∧ i = .int .i64 q ∧ Hid (∃ ys, wr.ownsRow w.heap.size 3 1 (.slice ad (j + q) cap) (j + q) ys ∧ Fz (fun b => w.heap.size ≤ b) w4 wr)) (fun _ i _ => 40 - (intOf i).toNat)
      case atStart => exact ⟨a1, c1, 0, by omega, rfl, rfl, HJ2.out⟩
      case round =>
        clear HJ HJ2
        obtain ⟨ad, cap, q, hq, rfl, rfl, HJ⟩ := hrel
        by_cases hlt2 : q < 40
        · have hltI : (q : Int) < 40 := by omega
          obtain ⟨ys, o1, f1⟩ := HJ.out
          have hs1 := f1.size
          clear HJ
          go_wp2_with (at_builtin; refine wpList_append_own _ rfl (.tmp 119) (.tmp 120) 22 rfl w.heap.size 3 i0 (.int .i64 0) 1 8 Try.underlying22 hi0 hz0 hz1 hz2 rfl (by decide) _ _ _ rfl (o1.alloc (.cells #[I (-6)] 3)) ⟨wr.heap.size, 0, none⟩ 1 1 [I (-6)] rfl rfl (cell_one_new _ _ _) (by intro u hu; simp at hu; subst hu; rfl) (by unfold maxLen; omega) (by omega) (by simp; omega) ?_; intro v4 w5 h4 hg4 hn4; have F5 : Fz (fun b => w.heap.size ≤ b) w4 w5 := (f1.alloc (.cells #[I (-6)] 3)).step (N := fun b => (Value.slice ad (j + q) cap).ownBlock = some b) ⟨hg4.os, hg4.tape, hg4.output, hg4.size, fun b hb hn => hg4.block b hb (fun e => hn e.symm)⟩ (fun b e => .inl (o1.lt b e).1); obtain ⟨X4, cap4, rfl⟩ := own_sl h4; have H9 : Hid (∃ ys, w5.ownsRow w.heap.size 3 1 (.slice X4 (j + (q + 1)) cap4) (j + (q + 1)) ys ∧ Fz (fun b => w.heap.size ≤ b) w4 w5) := ⟨_, h4, F5⟩; clear hg4 h4 hn4 o1 f1 F5)
          go_roundw
          case rel => exact ⟨X4, cap4, q + 1, by omega, rfl, by go_num, H9.out⟩
          case measure => simp [intOf]; omega
        · obtain rfl : q = 40 := by omega
          obtain ⟨ys, o1, f1⟩ := HJ.out
          have hge2 : ¬ ((40 : Int) < 40) := by omega
          go_wp2
          go_ret
          obtain ⟨q1, q2, q3, q4⟩ := HP.out
          exact ⟨rfl, _, v', _, q1.keptZ f1 (fun b hb e => by have := q4 b hb; omega), q2, q3.step f1 (fun b e => .inr e)⟩
set_option maxRecDepth 100000 in
set_option maxHeartbeats 4000000 in
theorem play0 (w : World) (u1 u2 : Value) (kd vv : Int) (h1 : ¬ kd = 1) (h2 : ¬ kd = 2) (h3 : ¬ kd = 3) (h4 : ¬ kd = 4) : Calls Try.prog 26 #[u1, u2, .agg #[I kd, I vv]] w fun e w' => e = .returned (.bool true) ∧ Below w.heap.size w w' := by
  go_enter Try.func26, Try.ntmps26
  go_wp2
  go_ret
  exact ⟨rfl, below_alloc w _⟩
theorem play_any {w : World} {B g D n hi : Nat} {v : Value} {l : List Int} (h : Pr w B g D n hi v l) (kd vv : Int) : Calls Try.prog 26 #[iP B, dP D, .agg #[I kd, I vv]] w fun e w' => e = .returned (.bool true) ∧ PlayP w B g D n v w' := by
  by_cases h1 : kd = 1
  · subst h1; exact play1 h vv
  by_cases h2 : kd = 2
  · subst h2; exact play2 h vv
  by_cases h3 : kd = 3
  · subst h3; exact play3 h vv
  by_cases h4 : kd = 4
  · subst h4; exact play4 h vv
  exact (play0 w _ _ kd vv h1 h2 h3 h4).mono (fun e w' k => ⟨k.1, hi, v, l, h.below k.2, Vn.refl _ _, Fz.of_below k.2⟩)
end Go.Proofs.Ytckmdkdhnhkdhaa
