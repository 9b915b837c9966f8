import Derived.Test.YtckmdkdhnhkdhaaZja
namespace Go.Proofs.Ytckmdkdhnhkdhaa
open Go.RowKit
set_option linter.unusedVariables false
set_option linter.unusedSimpArgs false

/-! ### The document's stack: Pop, Down, Find, Cut, Copy -/
section
variable {w : World} {D n hi : Nat} {v : Value} {l : List Int}
theorem dPop_no (h : Ds w D n hi v []) : Calls Try.prog 23 #[dP D] w fun e w' => e = .returned (.tuple #[I 0, I 142]) ∧ w = w' := by
  obtain ⟨c0, -, c2, -⟩ := h.cells
  obtain ⟨a, cc, rfl⟩ := own_sl h.p
  clear h
  go_enter Try.func23, Try.ntmps23
  go_wp2
  go_ret2
  exact ⟨rfl, rfl⟩
theorem Ds.cut (h : Ds w D n hi v l) (m : Nat) (hm : m ≤ l.length) {v' : Value} (hp : w.ownsRow 0 3 1 v' m ((iV l).take m)) (hv : v'.ownBlock = v.ownBlock) : Ds (w.setCell ⟨D, 2, none⟩ v') D n hi v' (l.take m) ∧ Fx [D] w (w.setCell ⟨D, 2, none⟩ v') := by
  have hl : (l.take m).length = m := by rw [List.length_take]; omega
  have hy := h.y
  refine ⟨⟨heap_setCell_same w D 2 _ _ v' h.o, ?_, h.m, by rw [hl]; omega⟩, (Fx.refl _ _).set (b := D) (.inl (by simp)) _ _⟩
  rw [hl, show iV (l.take m) = (iV l).take m by simp [iV, List.map_take]]
  exact hp.kept (grown_set w D 2 v') (.inr (by rw [hv]; exact h.notD))
theorem dPop_ok (x : Int) (h : Ds w D n hi v (l ++ [x])) : Calls Try.prog 23 #[dP D] w fun e w' => e = .returned (.tuple #[I x, I 0]) ∧ ∃ v', Ds w' D n hi v' l ∧ Vn w v v' ∧ Fz (Db D v) w w' := by
  obtain ⟨c0, -, c2, -⟩ := h.cells
  have hle := h.le
  have hm := h.m
  have ee : (l ++ [x]).length = l.length + 1 := by simp
  obtain ⟨g, cc, hv, hg, hc⟩ := own_cell h.p (by rw [ee]; omega)
  obtain ⟨v', ho', hb', hs'⟩ := own_take h.p l.length (by rw [ee]; omega)
  obtain ⟨e1, e2, e3⟩ := hs' _ _ hv
  have hx := hc l.length x (by simp)
  obtain ⟨hd, hf⟩ := h.cut l.length (by rw [ee]; omega) ho' hb'
  rw [List.take_left] at hd
  have hz := h.frz 2
  rw [ee] at hv hle
  have hsl := sl_to (some ⟨g, 0, none⟩) (l.length + 1) cc l.length e2 e3 (l.length : Int) rfl
  subst hv
  subst e1
  have HD : Hid (Ds (w.setCell ⟨D, 2, none⟩ (.slice (some ⟨g, 0, none⟩) l.length cc)) D n hi (.slice (some ⟨g, 0, none⟩) l.length cc) l) := hd
  have i0 : ¬ (l.length : Int) < 0 := by omega
  have i1 : (l.length : Int) < (l.length : Int) + 1 := by omega
  have i2 : ¬ ((l.length : Int) + 1 = 0) := by omega
  clear h ho' hs' hc ee hd
  go_enter Try.func23, Try.ntmps23
  go_wp2
  go_ret2
  exact ⟨rfl, _, HD.out, Vn.same rfl, Fz.of_fx hf (fun b hb => by simp at hb; exact .inl hb)⟩
set_option maxHeartbeats 4000000 in
set_option maxRecDepth 100000 in
theorem down_any (h : Ds w D n hi v l) : Calls Try.prog 31 #[dP D] w fun e w' => ∃ u, e = .returned u ∧ w'.ownsRow w.heap.size 3 1 u l.length (iV l.reverse) ∧ Below w.heap.size w w' := by
  obtain ⟨i0, hi0, hz0, hz1, hz2⟩ := info_parts iinfo
  have hle := h.le
  have hn := h.m
  obtain ⟨a, cc, hv⟩ := own_sl h.p
  have HF : Hid (∀ W, Below w.heap.size w W → W.cell? ⟨D, 2, none⟩ = some (.slice a l.length cc) ∧ ∀ (j : Nat) (x : Int), l[j]? = some x → ∃ g, a = some ⟨g, 0, none⟩ ∧ W.cell? ⟨g, j, none⟩ = some (I x)) := fun W hb => by
    have h1 := h.below hb
    refine ⟨hv ▸ h1.cells.2.2.1, fun j x hj => ?_⟩
    obtain ⟨g, c, e, hg, hc⟩ := own_cell h1.p (by have := (List.getElem?_eq_some_iff.1 hj).1; omega)
    rw [hv] at e
    cases e
    exact ⟨g, rfl, hc j x hj⟩
  obtain ⟨c2, -⟩ := HF.out w (Below.refl _ _)
  have HX : Hid (w.ownsRow w.heap.size 3 1 (.slice none 0 0) 0 (iV (l.reverse.take 0)) ∧ Below w.heap.size w w) := ⟨World.ownsRow_nil _ _ _ _, Below.refl _ _⟩
  clear h hv
  go_enter Try.func31, Try.ntmps31
  go_wp2
  go_loopw [3, 4] (fun u i wr => ∃ (ad : Option Addr) (cap k : Nat), k ≤ l.length ∧ u = .slice ad k cap ∧ i = .int .i64 ((l.length : Int) - 1 - k) ∧ Hid (wr.ownsRow w.heap.size 3 1 (.slice ad k cap) k (iV (l.reverse.take k)) ∧ Below w.heap.size w wr)) (fun _ i _ => (intOf i + 1).toNat)
  case atStart => exact ⟨none, 0, 0, by omega, rfl, by simp, HX.out⟩
  case round =>
    clear HX c2
    obtain ⟨ad, cap, k, hk, rfl, rfl, HJ⟩ := hrel
    by_cases hlt : k < l.length
    · obtain ⟨x, hx⟩ : ∃ x, l[l.length - 1 - k]? = some x := ⟨_, List.getElem?_eq_getElem (by omega)⟩
      have hrv : l.reverse[k]? = some x := by rw [List.getElem?_reverse (by omega)]; exact hx
      have htk : Hid (iV (l.reverse.take (k + 1)) = iV (l.reverse.take k) ++ [I x]) := by
        show _ = _
        rw [List.take_add_one, hrv]
        simp [iV]
      obtain ⟨hO, hB⟩ := HJ.out
      obtain ⟨c2, hc⟩ := HF.out wr hB
      obtain ⟨g, ea, c3⟩ := hc _ x hx
      rw [ea] at c2
      clear hc hx hrv HJ ea
      have hp0 : ¬ ((l.length : Int) - 1 - k) < 0 := by omega
      have hp1 : ((l.length : Int) - 1 - k) < l.length := by omega
      go_wp2_with (at_builtin; refine wpList_append_own _ rfl (.tmp 15) (.tmp 23) 22 rfl w.heap.size 3 i0 (.int .i64 0) 1 8 Try.underlying22 hi0 hz0 hz1 hz2 rfl (by decide) _ _ _ rfl (hO.alloc (.cells #[I x] 3)) ⟨wr.heap.size, 0, none⟩ 1 1 [I x] rfl rfl (cell_one_new _ _ _) (by intro u hu; simp at hu; subst hu; rfl) (by unfold maxLen; omega) (by omega) (by have := hB.size; simp; omega) ?_; intro v4 w4 h4 hg4 hn4; have b4 : Below w.heap.size w w4 := (hB.alloc (hB.size) (.cells #[I x] 3)).grown hg4 (by have := hB.size; simp; omega) (fun k e => ((hO.alloc (.cells #[I x] 3)).lt k e).1); obtain ⟨X4, cap4, rfl⟩ := own_sl h4; have H9 : Hid (w4.ownsRow w.heap.size 3 1 (.slice X4 (k + 1) cap4) (k + 1) (iV (l.reverse.take (k + 1))) ∧ Below w.heap.size w w4) := (by rw [htk.out]; exact ⟨h4, b4⟩); clear hg4 h4 hn4 hO c2 c3 htk b4)
      go_roundw
      case rel => exact ⟨X4, cap4, k + 1, by omega, rfl, congrArg (Value.int .i64) (by omega), H9.out⟩
      case measure => simp [intOf]; omega
    · obtain rfl : k = l.length := by omega
      have hge : ((l.length : Int) - 1 - (l.length : Int)) < 0 := by omega
      obtain ⟨hO, hB⟩ := HJ.out
      rw [show l.reverse.take l.length = l.reverse from List.take_of_length_le (by simp)] at hO
      go_wp2
      go_ret
      exact ⟨_, rfl, hO, hB⟩
set_option maxHeartbeats 4000000 in
theorem dFind_any (h : Ds w D n hi v l) (y : Int) : Calls Try.prog 25 #[dP D, I y] w fun e w' => e = .returned (.tuple #[I (fndO (fun x => iEq x y) l.reverse).1, .bool (fndO (fun x => iEq x y) l.reverse).2]) ∧ Below w.heap.size w w' := by
  have hD := down_any h
  have hle := h.le
  have hn := h.m
  have HL : Hid (l.reverse.length = l.length) := by show _ = _; simp
  clear h
  go_enter Try.func25, Try.ntmps25
  go_wp2_with (first
    | (go_at_call 31; refine hD.mono ?_; clear hD; rintro e w1 ⟨u, rfl, ho, b1⟩; obtain ⟨a, cc, rfl⟩ := own_sl ho))
  have HF : Hid (∀ (j : Nat) (x : Int), l.reverse[j]? = some x → ∃ g, a = some ⟨g, 0, none⟩ ∧ w1.cell? ⟨g, j, none⟩ = some (I x)) := fun j x hj => by
    obtain ⟨g, c, e, hg, hc⟩ := own_cell ho (by have := (List.getElem?_eq_some_iff.1 hj).1; rw [HL.out] at this; omega)
    cases e
    exact ⟨g, rfl, hc j x hj⟩
  clear ho
  go_loopw [7] (fun i wr => ∃ k : Nat, k ≤ l.length ∧ i = .int .i64 k ∧ wr = w1 ∧ Hid (∀ (j : Nat) (z : Int), j < k → l.reverse[j]? = some z → iEq z y = false)) (fun i _ => l.length - (intOf i).toNat)
  case atStart => exact ⟨0, Nat.zero_le _, rfl, rfl, fun j z hj => by omega⟩
  case round =>
    obtain ⟨k, hk, rfl, rfl, HB⟩ := hrel
    by_cases hlt : k < l.length
    · have hltI : (k : Int) < l.length := by omega
      have hk0 : ¬ (k : Int) < 0 := by omega
      obtain ⟨x, hx⟩ : ∃ x, l.reverse[k]? = some x := ⟨_, List.getElem?_eq_getElem (by rw [HL.out]; exact hlt)⟩
      obtain ⟨g, rfl, hc⟩ := HF.out k x hx
      have HX : Hid (l.reverse[k]? = some x) := hx
      clear hx
      by_cases hq : x = y
      · subst hq
        go_wp2
        go_ret2
        rw [fndO_some (p := fun z => iEq z x) HX.out (by simp [iEq]) HB.out]
        exact ⟨rfl, b1⟩
      · have HQ : Hid (iEq x y = false) := by show _ = _; simpa [iEq] using hq
        go_wp2
        go_roundw
        case rel => exact ⟨k + 1, by omega, by go_num, by first | trivial | rfl, fun j z hj hz => by
          by_cases e : j = k
          · subst e
            rw [HX.out] at hz
            cases hz
            exact HQ.out
          · exact HB.out j z (by omega) hz⟩
        case measure => simp [intOf]; omega
    · obtain rfl : k = l.length := by omega
      have hge : ¬ ((l.length : Int) < l.length) := by omega
      go_wp2
      go_ret2
      rw [fndO_none (fun j z hz => HB.out j z (by have := (List.getElem?_eq_some_iff.1 hz).1; rw [HL.out] at this; exact this) hz)]
      exact ⟨rfl, b1⟩
theorem dCut_neg (h : Ds w D n hi v l) (m : Int) (hm : m < 0) : Calls Try.prog 51 #[dP D, I m] w fun e w' => e = .returned (.tuple #[.slice none 0 0, I 2]) ∧ w = w' := by
  obtain ⟨c0, -, -, -⟩ := h.cells
  go_enter Try.func51, Try.ntmps51
  go_wp2
  go_ret2
  exact ⟨rfl, rfl⟩
theorem dCut_over (h : Ds w D n hi v l) (m : Int) (hm : (l.length : Int) < m) : Calls Try.prog 51 #[dP D, I m] w fun e w' => e = .returned (.tuple #[.slice none 0 0, I 142]) ∧ w = w' := by
  obtain ⟨c0, -, c2, -⟩ := h.cells
  obtain ⟨a, cc, rfl⟩ := own_sl h.p
  have h0 : ¬ m < 0 := by omega
  clear h
  go_enter Try.func51, Try.ntmps51
  go_wp2
  go_ret2
  exact ⟨rfl, rfl⟩
set_option maxHeartbeats 4000000 in
theorem dCut_ok (h : Ds w D n hi v l) (m : Nat) (hm : m ≤ l.length) : Calls Try.prog 51 #[dP D, I m] w fun e w' => ∃ u, e = .returned (.tuple #[u, I 0]) ∧ w'.ownsRow w.heap.size 3 1 u (l.length - m) (iV (l.drop m).reverse) ∧ ∃ v', Ds w' D n hi v' (l.take m) ∧ v'.ownBlock = v.ownBlock ∧ Fz (Db D v) w w' := by
  obtain ⟨c0, -, c2, -⟩ := h.cells
  have hDn := down_any h
  have hle := h.le
  have hn := h.m
  have h0 : ¬ (m : Int) < 0 := by omega
  have h1 : ¬ (l.length : Int) < m := by omega
  obtain ⟨a, cc, hv⟩ := own_sl h.p
  have HS : Hid (∀ w1, Below w.heap.size w w1 → w1.cell? ⟨D, 2, none⟩ = some (.slice a l.length cc) ∧ w1.frozen? ⟨D, 2, none⟩ = false ∧ (∀ wx : World, (Instr.slice 22 (.slice a l.length cc) none (some (I m)) none).run Try.prog wx = .ok (.slice a m cc) wx) ∧ Ds (w1.setCell ⟨D, 2, none⟩ (.slice a m cc)) D n hi (.slice a m cc) (l.take m) ∧ (Value.slice a m cc).ownBlock = v.ownBlock ∧ Fx [D] w1 (w1.setCell ⟨D, 2, none⟩ (.slice a m cc))) := fun w1 hb => by
    have hd := h.below hb
    obtain ⟨v', ho', hb', hs'⟩ := own_take hd.p m hm
    obtain ⟨e1, e2, e3⟩ := hs' _ _ hv
    subst e1
    obtain ⟨k1, k2⟩ := hd.cut m hm ho' hb'
    exact ⟨hv ▸ hd.cells.2.2.1, hd.frz 2, sl_to a l.length cc m e2 e3 (m : Int) rfl, k1, hb', k2⟩
  have HD : Hid (D < w.heap.size) := heap_lt h.o
  rw [hv] at c2
  have HM : Hid (m ≤ l.length) := hm
  have HV : Hid (v = .slice a l.length cc) := hv
  clear h hv hm
  go_enter Try.func51, Try.ntmps51
  go_wp2_with (first
    | (go_at_call 31; refine hDn.mono ?_; clear hDn; rintro e w1 ⟨u, rfl, ho, b1⟩; obtain ⟨a1, cc1, hu⟩ := own_sl ho; obtain ⟨v2, ho2, hb2, hs2⟩ := own_take ho (l.length - m) (by omega); obtain ⟨e1, e2, e3⟩ := hs2 _ _ hu; subst hu; subst e1; have hsl := sl_to a1 l.length cc1 (l.length - m) e2 e3 ((l.length : Int) - m) (by have := HM.out; omega); obtain ⟨k1, k2, k3, k4, k5, k6⟩ := HS.out w1 b1; have HK : Hid (Ds (w1.setCell ⟨D, 2, none⟩ (.slice a m cc)) D n hi (.slice a m cc) (l.take m)) := k4; have HO : Hid (w1.ownsRow w.heap.size 3 1 (.slice a1 (l.length - m) cc1) (l.length - m) ((iV l.reverse).take (l.length - m))) := ho2; clear hs2 ho ho2 k4 hb2 e2 e3))
  go_ret2
  have hO := HO.out
  rw [show (iV l.reverse).take (l.length - m) = iV (l.drop m).reverse by rw [← take_rev l m HM.out]; simp [iV, List.map_take]] at hO
  refine ⟨_, rfl, hO.kept (grown_set w1 D 2 _) (.inr (fun e => ?_)), _, HK.out, k5, (Fz.of_below b1).trans (Fz.of_fx k6 (fun b hb => by simp at hb; exact .inl hb))⟩
  have := (hO.lt D e).1
  have := HD.out
  omega
set_option maxRecDepth 100000 in
set_option maxHeartbeats 4000000 in
theorem dCopy_any (h : Ds w D n hi v l) : Calls Try.prog 33 #[dP D] w fun e w' => ∃ D', e = .returned (dP D') ∧ ∃ v', Ds w' D' n hi v' l ∧ (∀ b, Db D' v' b → w.heap.size ≤ b) ∧ Below w.heap.size w w' := by
  obtain ⟨i0, hi0, hz0, hz1, hz2⟩ := info_parts iinfo
  obtain ⟨c0, c1, c2, c3⟩ := h.cells
  have hle := h.le
  have hm := h.m
  go_enter Try.func33, Try.ntmps33
  go_wp2
  go_region_held_law (fun w' => w'.cell? ⟨D, 0, none⟩ = some (.bool true) ∧ w'.cell? ⟨D, 1, none⟩ = some (I n) ∧ w'.cell? ⟨D, 3, none⟩ = some (I hi))
    (first | exact ⟨c0, c1, c3⟩ | (go_keep; done))
    (fail)
  have b3 : Below w.heap.size w (w.alloc (.cells #[.bool true, I n, .slice none 0 0, I hi] 47)).drew := ((Below.refl _ w).alloc (Nat.le_refl _) _).drew
  have hd0 : Ds (w.alloc (.cells #[.bool true, I n, .slice none 0 0, I hi] 47)).drew w.heap.size n hi (.slice none 0 0) [] := ⟨heap_alloc_new w (.cells #[.bool true, I n, .slice none 0 0, I hi] 47), World.ownsRow_nil _ _ _ _, h.m, by have := h.y; simp; omega⟩
  have hs0 : (w.alloc (.cells #[.bool true, I n, .slice none 0 0, I hi] 47)).drew.heap.size = w.heap.size + 1 := by show (w.heap.push _).size = _; simp
  clear c0 c1 c2 c3
  generalize (w.alloc (.cells #[.bool true, I n, .slice none 0 0, I hi] 47)).drew = W at *
  have hD := h.below b3
  have c2 := hD.cells.2.2.1
  have e2 := hd0.cells.2.2.1
  have ez := hd0.frz
  have HS : Hid (W.heap.size = w.heap.size + 1) := hs0
  have hsz : w.heap.size < W.heap.size := by omega
  have hN := World.ownsRow_nil W W.heap.size 3 1
  have HY := h.y
  clear hs0
  go_wp2
  go_region_law (first
    | (refine step_append_both rfl (.tmp 22) (.tmp 26) 22 rfl W.heap.size 0 3 i0 (.int .i64 0) 8 Try.underlying22 hi0 hz0 hz1 hz2 rfl (.slice none 0 0) v 0 l.length [] (iV l) (by simp [Act.eval, Act.put]) (by simp [Act.eval, Act.put]) hN hD.p (ones l) (by unfold maxLen; omega) (by omega) (Nat.le_refl _) ?_; intro v4 w4 h4 hg4; rw [Nat.zero_add, List.nil_append] at h4; have F4 : Fx [] W w4 := Fx.grown ((Fx.refl [] W).drewN 1) hg4 (fun k e => by cases e); obtain ⟨a4, k4, rfl⟩ := own_sl h4; have e3 := (F4.heap hd0.o (by simp)); have e4 : w4.frozen? ⟨w.heap.size, 2, none⟩ = false := frozen_of_row w4 _ 2 _ _ e3; have e5 : w4.cell? ⟨w.heap.size, 2, none⟩ = some (.slice none 0 0) := (by rw [cell_of_row w4 _ _ _ _ (0, 0) e3]; rfl); have HE3 : Hid (w4.heap[w.heap.size]? = some (.cells #[.bool true, I n, .slice none 0 0, I hi] 47)) := e3; clear e3; have H4 : Hid (w4.ownsRow W.heap.size 3 1 (.slice a4 l.length k4) l.length (iV l)) := h4; clear hg4 h4))
  all_goals
    go_wp2
    go_ret
    have o9 := heap_setCell_same w4 w.heap.size 2 _ _ (.slice a4 l.length k4) HE3.out
    have hnb : ∀ b, (Value.slice a4 l.length k4).ownBlock = some b → W.heap.size ≤ b := fun b e => (H4.out.lt b e).1
    refine ⟨w.heap.size, rfl, .slice a4 l.length k4, ⟨o9, own_base (H4.out.kept (grown_set w4 w.heap.size 2 _) (.inr (fun e => by have := hnb _ e; omega))) (Nat.zero_le _), hm, HY⟩, fun b hb => ?_, b3.trans ((F4.mono (cs := [w.heap.size]) (by simp)).set (b := w.heap.size) (.inl (by simp)) _ _ |>.below (by omega) (by simp))⟩
    rcases hb with rfl | e
    · exact Nat.le_refl _
    · have := hnb b e; omega
end
end Go.Proofs.Ytckmdkdhnhkdhaa
