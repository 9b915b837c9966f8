import Derived.Test.YtlbkbnhnklaebaaRdc
import Derived.Deep.Cut
namespace Go.Proofs.Ytlbkbnhnklaebaa
open Go.RowKit
set_option linter.unusedVariables false
set_option linter.unusedSimpArgs false

/-! ### The document's ring: its calls -/
theorem own_sl {w : World} {b E n : Nat} {v : Value} {xs : List Value} (h : w.ownsRow b E 1 v n xs) : ∃ a cc, v = .slice a n cc := by
  rcases h.2 with ⟨h1, h0⟩ | ⟨g, cap, cur, h1, _⟩
  · exact ⟨none, 0, by rw [h0]; exact h1⟩
  · exact ⟨_, _, h1⟩
section
variable {w : World} {D n hi : Nat} {v : Value} {l : List Int}
set_option maxHeartbeats 4000000 in
set_option maxRecDepth 100000 in
theorem dPut_last (h : Dg w D n hi v l) (hc : l.length < n) (x : Int) : Calls Try.prog 20 #[dP D, I x, .bool false] w fun e w' => e = .returned (I 0) ∧ ∃ v', Dg w' D n (max hi (l.length + 1)) v' (l ++ [x]) ∧ (∀ k, v'.ownBlock = some k → w.heap.size ≤ k) ∧ Fx [D] w w' := by
  obtain ⟨i0, hi0, hz0, hz1, hz2⟩ := info_parts iinfo
  obtain ⟨c0, c1, c2, c3⟩ := h.cells
  obtain ⟨a, cc, rfl⟩ := own_sl h.p
  have hm := h.m
  have h1 : ¬ (n : Int) ≤ l.length := by omega
  have HY := h.y
  go_enter Try.func20, Try.ntmps20
  go_wp2
  go_quiet (fail)
  have h0 := h.drewN nq
  have f0 : Fx [D] w (w.drewN nq) := (Fx.refl _ _).drewN nq
  have b0 : w.heap.size ≤ (w.drewN nq).heap.size := f0.size
  have b00 : Below w.heap.size w (w.drewN nq) := below_drewN nq (Below.refl _ _)
  clear c0 c1 c2 c3 h
  generalize w.drewN nq = W at *
  obtain ⟨c0, c1, c2, c3⟩ := h0.cells
  have hN := World.ownsRow_nil W W.heap.size 3 1
  go_upto_region 12 with (first
    | (at_builtin; refine wpList_append_both _ rfl (.tmp 28) (.tmp 32) 22 rfl W.heap.size 0 3 i0 (.int .i64 0) 8 Try.underlying22 hi0 hz0 hz1 hz2 rfl _ _ _ _ _ _ rfl rfl hN h0.p (ones l) (by unfold maxLen; omega) (by omega) (Nat.le_refl _) ?_; intro v3 w3 h3 hg3; have F3 : Fx [] W w3 := (Fx.refl _ _).grown hg3 (fun k e => by cases e); have hO3 := h3.alloc (.cells #[I x] 3); have s3 := F3.size; clear hN h3 hg3)
    | (at_builtin; refine wpList_append_own _ rfl (.tmp 36) (.tmp 38) 22 rfl W.heap.size 3 i0 (.int .i64 0) 1 8 Try.underlying22 hi0 hz0 hz1 hz2 rfl (by decide) _ _ _ rfl hO3 ⟨w3.heap.size, 0, none⟩ 1 1 [I x] rfl rfl (cell_one_new _ _ _) (by intro u hu; simp at hu; subst hu; rfl) (by unfold maxLen; omega) (by omega) (by simp; omega) ?_; intro v4 w4 h4 hg4 _; have F4 : Fx [] W w4 := (F3.alloc (.cells #[I x] 3)).grown hg4 (fun k e => .inr (hO3.lt k e).1); obtain ⟨a4, k4, rfl⟩ := own_sl h4; have e2 := (F4.heap h0.o (by simp)); have e3 : w4.frozen? ⟨D, 2, none⟩ = false := frozen_of_row w4 D 2 _ _ e2; have e4 : w4.cell? ⟨D, 2, none⟩ = some (.slice a l.length cc) := (by rw [cell_of_row w4 D _ _ _ (0, 0) e2]; rfl); clear e2; obtain ⟨hd, fd, fr⟩ := h0.set (l' := l ++ [x]) (hi := hi) F4 (by simpa using h4); have d3 := hd.cells.2.2.2; have d2 := hd.cells.2.2.1; have z4 := hd.frz; clear hg4 h4 F3 F4 hO3 s3))
  by_cases hx : hi ≤ l.length
  · have hM : max hi (l.length + 1) = l.length + 1 := by omega
    have hz := hd.high (hi' := l.length + 1) (by omega) hd.notD
    have hzf := fd.set (b := D) (.inl (by simp)) 3 (I ((l.length + 1 : Nat) : Int))
    have HZ : Hid (Dg ((w4.setCell ⟨D, 2, none⟩ (.slice a4 (l.length + 1) k4)).setCell ⟨D, 3, none⟩ (I ((l.length + 1 : Nat) : Int))) D n (max hi (l.length + 1)) (.slice a4 (l.length + 1) k4) (l ++ [x])) := by rw [hM]; exact hz
    clear hM hz hd
    go_wp2
    go_ret
    exact ⟨rfl, _, HZ.out, fun k e => Nat.le_trans b0 (fr k e), f0.trans hzf⟩
  · have hM : max hi (l.length + 1) = hi := by omega
    have HZ : Hid (Dg (w4.setCell ⟨D, 2, none⟩ (.slice a4 (l.length + 1) k4)) D n (max hi (l.length + 1)) (.slice a4 (l.length + 1) k4) (l ++ [x])) := by rw [hM]; exact hd
    clear hM hd
    go_wp2
    go_ret
    exact ⟨rfl, _, HZ.out, fun k e => Nat.le_trans b0 (fr k e), f0.trans fd⟩
set_option maxHeartbeats 4000000 in
set_option maxRecDepth 100000 in
theorem dPut_first (h : Dg w D n hi v l) (hc : l.length < n) (x : Int) : Calls Try.prog 20 #[dP D, I x, .bool true] w fun e w' => e = .returned (I 0) ∧ ∃ v', Dg w' D n (max hi (l.length + 1)) v' (x :: l) ∧ (∀ k, v'.ownBlock = some k → w.heap.size ≤ k) ∧ Fx [D] w w' := by
  obtain ⟨i0, hi0, hz0, hz1, hz2⟩ := info_parts iinfo
  obtain ⟨c0, c1, c2, c3⟩ := h.cells
  obtain ⟨a, cc, rfl⟩ := own_sl h.p
  have hm := h.m
  have h1 : ¬ (n : Int) ≤ l.length := by omega
  have HY := h.y
  go_enter Try.func20, Try.ntmps20
  go_wp2
  go_quiet (fail)
  have h0 := h.drewN nq
  have f0 : Fx [D] w (w.drewN nq) := (Fx.refl _ _).drewN nq
  have b0 : w.heap.size ≤ (w.drewN nq).heap.size := f0.size
  have b00 : Below w.heap.size w (w.drewN nq) := below_drewN nq (Below.refl _ _)
  clear c0 c1 c2 c3 h
  generalize w.drewN nq = W at *
  obtain ⟨c0, c1, c2, c3⟩ := h0.cells
  have hN := (World.ownsRow_nil W W.heap.size 3 1).alloc (.cells #[I x] 3)
  go_upto_region 12 with (first
    | (at_builtin; refine wpList_append_own _ rfl (.tmp 24) (.tmp 26) 22 rfl W.heap.size 3 i0 (.int .i64 0) 1 8 Try.underlying22 hi0 hz0 hz1 hz2 rfl (by decide) _ _ _ rfl hN ⟨W.heap.size, 0, none⟩ 1 1 [I x] rfl rfl (cell_one_new _ _ _) (by intro u hu; simp at hu; subst hu; rfl) (by decide) (by decide) (by simp) ?_; intro v3 w3 h3 hg3 _; have F3 : Fx [] W w3 := ((Fx.refl _ _).alloc (.cells #[I x] 3)).grown hg3 (fun k e => by cases e); have hp3 := F3.own h0.p (by simp); have s3 := F3.size; have k3 : w3.cell? ⟨D, 2, none⟩ = some (.slice a l.length cc) := F3.cell c2 (by simp); clear hN hg3)
    | (at_builtin; refine wpList_append_both _ rfl (.tmp 28) (.tmp 32) 22 rfl W.heap.size 0 3 i0 (.int .i64 0) 8 Try.underlying22 hi0 hz0 hz1 hz2 rfl _ _ _ _ _ _ rfl rfl h3 hp3 (ones l) (by unfold maxLen; omega) (by omega) s3 ?_; intro v4 w4 h4 hg4; have F4 : Fx [] W w4 := F3.grown hg4 (fun k e => .inr (h3.lt k e).1); have e9 : 0 + 1 + l.length = l.length + 1 := (by omega); rw [e9] at h4; clear e9; obtain ⟨a4, k4, rfl⟩ := own_sl h4; have e2 := (F4.heap h0.o (by simp)); have e3 : w4.frozen? ⟨D, 2, none⟩ = false := frozen_of_row w4 D 2 _ _ e2; have e4 : w4.cell? ⟨D, 2, none⟩ = some (.slice a l.length cc) := (by rw [cell_of_row w4 D _ _ _ (0, 0) e2]; rfl); clear e2; obtain ⟨hd, fd, fr⟩ := h0.set (l' := x :: l) (hi := hi) F4 (by simpa using h4); have d3 := hd.cells.2.2.2; have d2 := hd.cells.2.2.1; have z4 := hd.frz; clear hg4 h4 F3 F4 h3 hp3 k3 s3))
  by_cases hx : hi ≤ l.length
  · have hM : max hi (l.length + 1) = l.length + 1 := by omega
    have hz := hd.high (hi' := l.length + 1) (by omega) hd.notD
    have hzf := fd.set (b := D) (.inl (by simp)) 3 (I ((l.length + 1 : Nat) : Int))
    have HZ : Hid (Dg ((w4.setCell ⟨D, 2, none⟩ (.slice a4 (l.length + 1) k4)).setCell ⟨D, 3, none⟩ (I ((l.length + 1 : Nat) : Int))) D n (max hi (l.length + 1)) (.slice a4 (l.length + 1) k4) (x :: l)) := by rw [hM]; exact hz
    clear hM hz hd
    go_wp2
    go_ret
    exact ⟨rfl, _, HZ.out, fun k e => Nat.le_trans b0 (fr k e), f0.trans hzf⟩
  · have hM : max hi (l.length + 1) = hi := by omega
    have HZ : Hid (Dg (w4.setCell ⟨D, 2, none⟩ (.slice a4 (l.length + 1) k4)) D n (max hi (l.length + 1)) (.slice a4 (l.length + 1) k4) (x :: l)) := by rw [hM]; exact hd
    clear hM hd
    go_wp2
    go_ret
    exact ⟨rfl, _, HZ.out, fun k e => Nat.le_trans b0 (fr k e), f0.trans fd⟩
set_option maxRecDepth 100000 in
theorem dTake_no (h : Dg w D n hi v []) : Calls Try.prog 23 #[dP D] w fun e w' => e = .returned (.tuple #[I 0, I 122]) ∧ w = w' := by
  obtain ⟨c0, c1, c2, c3⟩ := h.cells
  obtain ⟨a, cc, rfl⟩ := own_sl h.p
  go_enter Try.func23, Try.ntmps23
  go_wp2
  go_ret2
  exact ⟨rfl, rfl⟩
set_option maxHeartbeats 4000000 in
set_option maxRecDepth 100000 in
theorem dTake_ok (x : Int) (h : Dg w D n hi v (x :: l)) (hl : l.length ≤ 65536) : Calls Try.prog 23 #[dP D] w fun e w' => e = .returned (.tuple #[I x, I 0]) ∧ ∃ v', Dg w' D n hi v' l ∧ (∀ k, v'.ownBlock = some k → w.heap.size ≤ k) ∧ Fx [D] w w' := by
  obtain ⟨i0, hi0, hz0, hz1, hz2⟩ := info_parts iinfo
  obtain ⟨c0, c1, c2, c3⟩ := h.cells
  obtain ⟨gp, cp, rfl, hcp⟩ : ∃ g c, v = .slice (some ⟨g, 0, none⟩) (l.length + 1) c ∧ ∀ j u, ((x :: l).map fun x => I x)[j]? = some u → w.cell? ⟨g, j, none⟩ = some u := by
    rcases h.p.2 with ⟨h1, h0⟩ | ⟨g, cap, cur, h1, _⟩
    · simp at h0
    · refine ⟨g, cap, h1, fun j u hj => ?_⟩
      have := h.p.cells (g := g) (by rw [h1]; rfl) j u hj
      rw [addr_add, Nat.zero_add] at this
      exact this
  have hcap : l.length + 1 ≤ cp := by
    rcases h.p.2 with ⟨h1, h0⟩ | ⟨g, cap, cur, h1, _, _, h2, _⟩
    · simp at h0
    · cases h1; simpa using h2
  have x0 := hcp 0 (I x) (by simp)
  have hs : ∀ wx : World, (Instr.slice 22 (.slice (some ⟨gp, 0, none⟩) (l.length + 1) cp) (some (I 1)) none none).run Try.prog wx = .ok (.slice (some (if cp = 1 then ⟨gp, 0, none⟩ else ⟨gp, 1, none⟩)) l.length (cp - 1)) wx := fun wx => by
    rw [run_slice_l wx 22 _ (l.length + 1) cp iundS .i64 (1 : Int) (by omega) (by omega), ielem_sz]
    simp only [Result.andThen, sliced, Int.toNat_one, Option.map_some, Nat.mul_one, addr_add, Nat.zero_add, Nat.add_sub_cancel]
    split <;> rfl
  have hne : ∀ j u, (l.map fun x => I x)[j]? = some u → w.cell? ((if cp = 1 then ⟨gp, 0, none⟩ else ⟨gp, 1, none⟩ : Addr).add j) = some u := fun j u hj => by
    have hjl := (List.getElem?_eq_some_iff.1 hj).1
    simp at hjl
    rw [if_neg (by omega), addr_add]
    refine hcp (1 + j) u ?_
    rw [List.map_cons, Nat.add_comm, List.getElem?_cons_succ]
    exact hj
  generalize (if cp = 1 then ⟨gp, 0, none⟩ else ⟨gp, 1, none⟩ : Addr) = ad at *
  have HN : Hid (∀ j u, (l.map fun x => I x)[j]? = some u → w.cell? (ad.add j) = some u) := hne
  have hN := World.ownsRow_nil w w.heap.size 3 1
  have hx2 : ¬ ((l.length : Int) + 1 = 0) := by omega
  clear hcp hne
  go_enter Try.func23, Try.ntmps23
  go_wp2_with (first
    | (at_builtin; refine wpList_append_own _ rfl (.tmp 24) (.tmp 29) 22 rfl w.heap.size 3 i0 (.int .i64 0) 1 8 Try.underlying22 hi0 hz0 hz1 hz2 rfl (by decide) _ _ _ rfl hN ad l.length (cp - 1) (l.map fun x => I x) rfl (by simp) HN.out (ones l) (by unfold maxLen; omega) (by omega) (Nat.le_refl _) ?_; intro v4 w4 h4 hg4 _; have F4 : Fx [] w w4 := (Fx.refl _ _).grown hg4 (fun k e => by cases e); obtain ⟨a4, k4, rfl⟩ := own_sl h4; have e2 := (F4.heap h.o (by simp)); have e3 : w4.frozen? ⟨D, 2, none⟩ = false := frozen_of_row w4 D 2 _ _ e2; have e4 : w4.cell? ⟨D, 2, none⟩ = some (.slice (some ⟨gp, 0, none⟩) (l.length + 1) cp) := (by rw [cell_of_row w4 D _ _ _ (0, 0) e2]; rfl); clear e2; obtain ⟨hd, fd, fr⟩ := h.set (l' := l) (hi := hi) F4 (by simpa using h4); clear hg4 h4 F4 hN))
  go_ret2
  exact ⟨rfl, _, hd, fr, fd⟩
theorem dAt_no (h : Dg w D n hi v l) (i : Int) (hi2 : i < 0 ∨ l.length ≤ i) : Calls Try.prog 25 #[dP D, I i] w fun e w' => e = .returned (.tuple #[I 0, .bool false]) ∧ w = w' := by
  obtain ⟨c0, c1, c2, c3⟩ := h.cells
  obtain ⟨a, cc, rfl⟩ := own_sl h.p
  rcases hi2 with h1 | h1
  · go_enter Try.func25, Try.ntmps25
    go_wp2
    go_ret2
    exact ⟨rfl, rfl⟩
  · have h2 : ¬ i < 0 := by omega
    go_enter Try.func25, Try.ntmps25
    go_wp2
    go_ret2
    exact ⟨rfl, rfl⟩
theorem dAt_ok (h : Dg w D n hi v l) (i : Nat) (x : Int) (hx : l[i]? = some x) (hl : l.length ≤ 65536) : Calls Try.prog 25 #[dP D, I i] w fun e w' => e = .returned (.tuple #[I x, .bool true]) ∧ w = w' := by
  obtain ⟨c0, c1, c2, c3⟩ := h.cells
  have hil := (List.getElem?_eq_some_iff.1 hx).1
  obtain ⟨gp, cp, rfl, hcp⟩ : ∃ g c, v = .slice (some ⟨g, 0, none⟩) l.length c ∧ w.cell? ⟨g, i, none⟩ = some (I x) := by
    rcases h.p.2 with ⟨h1, h0⟩ | ⟨g, cap, cur, h1, _⟩
    · omega
    · refine ⟨g, cap, h1, ?_⟩
      have := h.p.cells (g := g) (by rw [h1]; rfl) i (I x) (by rw [List.getElem?_map, hx]; rfl)
      rw [addr_add, Nat.zero_add] at this
      exact this
  have h1 : ¬ (i : Int) < 0 := by omega
  have h2 : ¬ (l.length : Int) ≤ i := by omega
  have h3 : (i : Int) < l.length := by omega
  clear hx
  go_enter Try.func25, Try.ntmps25
  go_wp2
  go_ret2
  exact ⟨rfl, rfl⟩
theorem dFull_any (h : Dg w D n hi v l) (hle : l.length ≤ n) : Calls Try.prog 57 #[dP D] w fun e w' => e = .returned (.bool (decide (l.length = n))) ∧ Below w.heap.size w w' := by
  obtain ⟨c0, c1, c2, c3⟩ := h.cells
  obtain ⟨a, cc, rfl⟩ := own_sl h.p
  have H : Hid (decide ((n : Int) ≤ (l.length : Int)) = decide (l.length = n)) := by
    show _ = _
    rw [decide_eq_decide]
    omega
  clear h
  go_enter Try.func57, Try.ntmps57
  go_wp2
  go_quiet (fail)
  go_wp2
  go_ret
  exact ⟨ret_bool (by simpa using H.out), below_drewN _ (Below.refl _ _)⟩
theorem dClear_any (h : Dg w D n hi v l) : Calls Try.prog 53 #[dP D] w fun e w' => e = .returned (I l.length) ∧ ∃ v', Dg w' D n hi v' [] ∧ (∀ k, v'.ownBlock = some k → w.heap.size ≤ k) ∧ Fx [D] w w' := by
  obtain ⟨c0, c1, c2, c3⟩ := h.cells
  have fz := h.frz
  obtain ⟨hd, fd, fr⟩ := h.set (v' := .slice none 0 0) (l' := []) (Fx.refl _ _) (World.ownsRow_nil _ _ _ _)
  obtain ⟨a, cc, rfl⟩ := own_sl h.p
  have HH : Hid (Dg (w.setCell ⟨D, 2, none⟩ (.slice none 0 0)) D n hi (.slice none 0 0) []) := hd
  clear h hd
  go_enter Try.func53, Try.ntmps53
  go_wp2
  go_ret
  exact ⟨rfl, _, HH.out, fr, fd⟩
end
end Go.Proofs.Ytlbkbnhnklaebaa
