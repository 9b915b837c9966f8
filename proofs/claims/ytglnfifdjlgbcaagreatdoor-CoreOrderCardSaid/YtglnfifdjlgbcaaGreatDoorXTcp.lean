import Derived.Test.YtglnfifdjlgbcaaGreatDoorXTci
import Derived.Lib.QuietBelow
import Derived.Deep.Cut
namespace Go.Proofs.YtglnfifdjlgbcaaGreatDoor
open Go.RowKit Go.Shelf Go.Sort
set_option linter.unusedVariables false
set_option linter.unusedSimpArgs false

theorem wpQuiet_load_row9 {P : Program} {ops : Array Oper} {C : World → Prop} {Q : Act → Prop} {a : Act} {o : Oper} {rest : List Oper} (hgd : Region.wanted o (yielded ops a.tmps) = true) (ty : TypeId) (x : Operand) (ho : o.op = .load ty x)
    (g : Nat) (hx : a.eval x = .pointer (some ⟨g, 0, none⟩)) (t : TypeId) (cs : Array Value) (fr : Nat × Nat) (d : TypeDesc) (hg : ∀ w, C w → w.heap[g]? = some (.cells cs t fr))
    (hu : P.underlying ty = some d) (hd : (match d with | .struct _ | .array _ _ => true | _ => false) = true) (hi : (P.info? ty).map (·.size) = some cs.size)
    (h : wpQuiet P ops C Q rest (a.put o.dst (.agg cs))) : wpQuiet P ops C Q (o :: rest) a := by
  unfold wpQuiet
  rw [if_pos hgd]
  refine ⟨.agg cs, fun w hw => ?_, h⟩
  unfold Oper.quietAt execOp
  simp only [ho, hx, Instr.loadAt, Instr.sureAddr, Sem.run_bind, Sem.run_pure, Result.andThen_ok, run_loadVar_row w g t ty cs fr d (hg w hw) hu hd hi]
  exact ⟨rfl, rfl⟩
/-- What the class of a region's worlds keeps. -/
theorem heap_regrown9 {w : World} {g : Nat} {o : Obj} (h : w.heap[g]? = some o) : ∀ w', (∃ p : Regrown, w' = grow (redrawn w p.d) p.os) → w'.heap[g]? = some o := by
  rintro w' ⟨p, rfl⟩
  exact ((below_regrown w p.d p.os).block g (heap_lt h)).trans h
/-- a callee that changes nothing that was there, in a region that draws -/
theorem regrown_bel9 {P : Program} {f : Nat} {args : Array Value} {W0 : World} {r : Value} (h : ∀ W, Below W0.heap.size W0 W → Calls P f args W fun e w' => e = .returned r ∧ Below W.heap.size W w') (d : Nat) (os : Array Obj) : Calls P f args (grow (redrawn W0 d) os) fun e w'' => e = .returned r ∧ ∃ p : Regrown, w'' = grow (redrawn W0 p.d) p.os :=
  Calls.regrown_of (h _ (below_regrown W0 d os))
/-! ### ringsFit -/
set_option maxHeartbeats 16000000 in
set_option maxRecDepth 100000 in
theorem ringsFit_any (tb : Tb) (v : Ts) (w : World) (h : TbAt w tb v) : Calls Tryz.prog 95 #[.agg (tbC tb v)] w fun e w' => e = .returned (.bool (ringsW tb.tasks 64 tb.rings)) ∧ Below w.heap.size w w' := by
  have hV := heap_alloc_new w (.cells (tbC tb v) 30)
  have HB : Hid (Below w.heap.size w (w.alloc (.cells (tbC tb v) 30))) := below_alloc w _
  have HT : Hid (TbAt (w.alloc (.cells (tbC tb v) 30)) tb v) := h.below HB.out
  have HVV : Hid ((w.alloc (.cells (tbC tb v) 30)).heap[w.heap.size]? = some (.cells (tbC tb v) 30)) := hV
  obtain ⟨c0, c1, c2, c3, c4, c5, c6, c7, c8, c9, c10, c11, c12⟩ := var13 hV
  have HS : Hid (v.g.n = tb.rings.length) := h.g.n
  have hsc : v.g.n ≤ v.g.c := h.g.c
  have hsm : v.g.c ≤ maxLen := h.g.m
  unfold maxLen at hsm
  have hi30 : (Tryz.prog.info? 30).map (·.size) = some (tbC tb v).size := by kernel_rfl
  obtain ⟨R, hR⟩ : ∃ R, R = ringsW tb.tasks 64 tb.rings := ⟨_, rfl⟩
  rw [← hR]
  have HR : Hid (R = ringsW tb.tasks 64 (tb.rings.drop 0)) := hR
  clear hR h hV c0 c1 c2 c4 c5 c6 c7 c8 c9 c10 c11 c12
  go_enter Tryz.func95, Tryz.ntmps95
  unfold tbC at *
  generalize hW : w.alloc (.cells #[I tb.uses, I tb.modes, .slice v.t.a v.t.n v.t.c, .slice v.g.a v.g.n v.g.c, .slice v.r.a v.r.n v.r.c, .slice v.k.a v.k.n v.k.c, .slice v.a.a v.a.n v.a.c, .slice v.i.a v.i.n v.i.c, .slice v.s.a v.s.n v.s.c, I tb.depth, I tb.frames, I tb.errors, I tb.calls] 30) = W1 at *
  go_upto_region 1 with fail
  clear hW
  go_wp2
  go_loopw [3, 5, 9] (fun av _ iv wr => ∃ (j : Nat) (a : Int), j ≤ v.g.n ∧ iv = .int .i64 j ∧ av = I a ∧ Hid (R = ringsW tb.tasks a (tb.rings.drop j) ∧ (0 ≤ a ∧ a ≤ 64) ∧ Below W1.heap.size W1 wr)) (fun _ _ iv _ => v.g.n - (intOf iv).toNat)
  case atStart => exact ⟨0, 64, by omega, rfl, rfl, HR.out, by omega, Below.refl _ _⟩
  case round =>
    clear HR
    obtain ⟨j, a, hj, rfl, rfl, HJ⟩ := hrel
    by_cases hlt : j < v.g.n
    · have hlt' : (j : Int) < v.g.n := by omega
      obtain ⟨x, hx⟩ : ∃ x, tb.rings[j]? = some x := ⟨_, List.getElem?_eq_getElem (by rw [← HS.out]; exact hlt)⟩
      obtain ⟨g5, o5, e5, hg5, x0, x1⟩ := rgr_at (HT.out.below HJ.out.2.2) hx
      have ha := HJ.out.2.1
      have HX : Hid (R = (inI x.prio 0 (a - 1) && tb.tasks.any (fun y => y.prio == x.prio) && (x.cap == IntKind.i64.wrap (capN tb.tasks x.prio)) && ringsW tb.tasks x.prio (tb.rings.drop (j + 1)))) := by
        have h9 := HJ.out.1
        rw [drop_at hx, ringsW] at h9
        exact h9
      rw [e5]
      clear hx e5
      have b0 := HJ.out.2.2
      clear HJ
      go_upto_region 5 with fail
      have bX : Below W1.heap.size W1 (wr.alloc (.cells #[I x.prio, I x.cap] 63)) := b0.trans ((below_alloc wr _).mono b0.size)
      have y0 : (wr.alloc (.cells #[I x.prio, I x.cap] 63)).cell? ⟨wr.heap.size, 0, none⟩ = some (I x.prio) := by rw [cell_of_row _ _ _ _ _ (0, 0) (heap_alloc_new wr _)]; rfl
      have y1 : (wr.alloc (.cells #[I x.prio, I x.cap] 63)).cell? ⟨wr.heap.size, 1, none⟩ = some (I x.cap) := by rw [cell_of_row _ _ _ _ _ (0, 0) (heap_alloc_new wr _)]; rfl
      have hV0 : (wr.alloc (.cells #[I x.prio, I x.cap] 63)).heap[w.heap.size]? = some (.cells #[I tb.uses, I tb.modes, .slice v.t.a v.t.n v.t.c, .slice v.g.a v.g.n v.g.c, .slice v.r.a v.r.n v.r.c, .slice v.k.a v.k.n v.k.c, .slice v.a.a v.a.n v.a.c, .slice v.i.a v.i.n v.i.c, .slice v.s.a v.s.n v.s.c, I tb.depth, I tb.frames, I tb.errors, I tb.calls] 30) := (bX.block w.heap.size (heap_lt HVV.out)).trans HVV.out
      have hT0 := HT.out.below bX
      clear b0 x0 x1
      generalize wr.heap.size = X at *
      generalize (wr.alloc (.cells #[I x.prio, I x.cap] 63)) = W0 at *
      have cW : ∀ d os, Calls Tryz.prog 185 #[I x.prio, I 0, I (a - 1)] (grow (redrawn W0 d) os) fun e w'' => e = .returned (.bool (inI x.prio 0 (a - 1))) ∧ ∃ p : Regrown, w'' = grow (redrawn W0 p.d) p.os := fun d os => regrown_bel9 (fun W hW => (withinI_any x.prio 0 (a - 1) W).mono (fun e w' h => ⟨h.1, by rw [h.2]; exact Below.refl _ _⟩)) d os
      have cH : ∀ d os, Calls Tryz.prog 188 #[.agg #[I tb.uses, I tb.modes, .slice v.t.a v.t.n v.t.c, .slice v.g.a v.g.n v.g.c, .slice v.r.a v.r.n v.r.c, .slice v.k.a v.k.n v.k.c, .slice v.a.a v.a.n v.a.c, .slice v.i.a v.i.n v.i.c, .slice v.s.a v.s.n v.s.c, I tb.depth, I tb.frames, I tb.errors, I tb.calls], I x.prio] (grow (redrawn W0 d) os) fun e w'' => e = .returned (.bool (tb.tasks.any (fun y => y.prio == x.prio))) ∧ ∃ p : Regrown, w'' = grow (redrawn W0 p.d) p.os := fun d os => regrown_bel9 (fun W hW => hasTask_any tb v W (hT0.below hW) x.prio) d os
      have cC : ∀ d os, Calls Tryz.prog 189 #[.slice v.t.a v.t.n v.t.c, I x.prio] (grow (redrawn W0 d) os) fun e w'' => e = .returned (I (IntKind.i64.wrap (capN tb.tasks x.prio))) ∧ ∃ p : Regrown, w'' = grow (redrawn W0 p.d) p.os := fun d os => regrown_bel9 (fun W hW => capacity_any W v.t tb.tasks (fun W2 hW2 => ((hT0.below hW).below hW2).t) x.prio) d os
      have z0 := cell_regrown y0
      have z1 := cell_regrown y1
      have z2 := cell_regrown (var13 hV0).2.2.1
      have hR0 := heap_regrown9 hV0
      have HB0 : Hid (Below w.heap.size w W0) := HB.out.trans (bX.mono HB.out.size)
      have HBX : Hid (Below W1.heap.size W1 W0) := bX
      clear hT0 bX
      cases b1 : inI x.prio 0 (a - 1) with
      | false =>
        rw [b1] at cW HX
        refine wp_region_quiet_below (by kernel_rfl) (by kernel_rfl) ?_
        repeat (go_big_quiet_step (first | exact cW _ _))
        refine wpQuiet_nil ?_
        rintro _ ⟨⟨dq, osq⟩, rfl⟩
        dsimp only
        have HB9 : Hid (Below w.heap.size w (grow (redrawn W0 dq) osq)) := HB0.out.trans ((below_regrown W0 dq osq).mono HB0.out.size)
        have HB8 : Hid (Below W1.heap.size W1 (grow (redrawn W0 dq) osq)) := HBX.out.trans ((below_regrown W0 dq osq).mono HBX.out.size)
        have r0 := z0 dq osq
        clear cW cH cC hR0 z0 z1 z2 y0 y1 hV0
        generalize grow (redrawn W0 dq) osq = w9 at *
        go_wp2
        go_ret
        exact ⟨ret_bool' (by rw [HX.out]; simp), HB9.out⟩
      | true =>
        rw [b1] at cW HX
        have hp : 0 ≤ x.prio ∧ x.prio ≤ 63 := by unfold inI at b1; simp at b1; omega
        cases b2 : tb.tasks.any (fun y => y.prio == x.prio) with
        | false =>
          rw [b2] at cH HX
          refine wp_region_quiet_below (by kernel_rfl) (by kernel_rfl) ?_
          repeat (first | (go_big_quiet_step (first | exact cW _ _ | exact cH _ _)) | (refine wpQuiet_load_row9 (by kernel_rfl) 30 _ rfl w.heap.size rfl 30 _ (0, 0) _ hR0 Tryz.underlying30 rfl hi30 ?_; simp only [Act.put, List.getElem_toArray, List.getElem_cons_succ, List.getElem_cons_zero, List.setIfInBounds_toArray, List.set_cons_zero, List.set_cons_succ]))
          refine wpQuiet_nil ?_
          rintro _ ⟨⟨dq, osq⟩, rfl⟩
          dsimp only
          have HB9 : Hid (Below w.heap.size w (grow (redrawn W0 dq) osq)) := HB0.out.trans ((below_regrown W0 dq osq).mono HB0.out.size)
          have HB8 : Hid (Below W1.heap.size W1 (grow (redrawn W0 dq) osq)) := HBX.out.trans ((below_regrown W0 dq osq).mono HBX.out.size)
          have r0 := z0 dq osq
          clear cW cH cC hR0 z0 z1 z2 y0 y1 hV0
          generalize grow (redrawn W0 dq) osq = w9 at *
          go_wp2
          go_ret
          exact ⟨ret_bool' (by rw [HX.out]; simp), HB9.out⟩
        | true =>
          rw [b2] at cH HX
          cases b3 : (x.cap == IntKind.i64.wrap (capN tb.tasks x.prio)) with
          | false =>
            rw [b3] at HX
            generalize IntKind.i64.wrap (capN tb.tasks x.prio) = cc at *
            refine wp_region_quiet_below (by kernel_rfl) (by kernel_rfl) ?_
            repeat (first | (go_big_quiet_step (first | exact cW _ _ | exact cH _ _ | exact cC _ _)) | (refine wpQuiet_load_row9 (by kernel_rfl) 30 _ rfl w.heap.size rfl 30 _ (0, 0) _ hR0 Tryz.underlying30 rfl hi30 ?_; simp only [Act.put, List.getElem_toArray, List.getElem_cons_succ, List.getElem_cons_zero, List.setIfInBounds_toArray, List.set_cons_zero, List.set_cons_succ]))
            refine wpQuiet_nil ?_
            rintro _ ⟨⟨dq, osq⟩, rfl⟩
            dsimp only
            have HB9 : Hid (Below w.heap.size w (grow (redrawn W0 dq) osq)) := HB0.out.trans ((below_regrown W0 dq osq).mono HB0.out.size)
            have HB8 : Hid (Below W1.heap.size W1 (grow (redrawn W0 dq) osq)) := HBX.out.trans ((below_regrown W0 dq osq).mono HBX.out.size)
            have r0 := z0 dq osq
            clear cW cH cC hR0 z0 z1 z2 y0 y1 hV0
            generalize grow (redrawn W0 dq) osq = w9 at *
            go_wp2
            go_ret
            exact ⟨ret_bool' (by rw [HX.out]; simp), HB9.out⟩
          | true =>
            rw [b3] at HX
            generalize IntKind.i64.wrap (capN tb.tasks x.prio) = cc at *
            refine wp_region_quiet_below (by kernel_rfl) (by kernel_rfl) ?_
            repeat (first | (go_big_quiet_step (first | exact cW _ _ | exact cH _ _ | exact cC _ _)) | (refine wpQuiet_load_row9 (by kernel_rfl) 30 _ rfl w.heap.size rfl 30 _ (0, 0) _ hR0 Tryz.underlying30 rfl hi30 ?_; simp only [Act.put, List.getElem_toArray, List.getElem_cons_succ, List.getElem_cons_zero, List.setIfInBounds_toArray, List.set_cons_zero, List.set_cons_succ]))
            refine wpQuiet_nil ?_
            rintro _ ⟨⟨dq, osq⟩, rfl⟩
            dsimp only
            have HB9 : Hid (Below w.heap.size w (grow (redrawn W0 dq) osq)) := HB0.out.trans ((below_regrown W0 dq osq).mono HB0.out.size)
            have HB8 : Hid (Below W1.heap.size W1 (grow (redrawn W0 dq) osq)) := HBX.out.trans ((below_regrown W0 dq osq).mono HBX.out.size)
            have r0 := z0 dq osq
            clear cW cH cC hR0 z0 z1 z2 y0 y1 hV0
            generalize grow (redrawn W0 dq) osq = w9 at *
            go_wp2
            go_roundw
            case rel => exact ⟨j + 1, x.prio, by omega, by go_num, rfl, by rw [HX.out]; simp, by omega, HB8.out⟩
            case measure => simp [intOf]; omega
    · obtain rfl : j = v.g.n := by omega
      have hlt' : ¬ ((v.g.n : Nat) : Int) < (v.g.n : Nat) := by omega
      have HE : Hid (R = true) := by
        have := HJ.out.1
        rw [List.drop_eq_nil_of_le (by rw [HS.out]; exact Nat.le_refl _), ringsW] at this
        exact this
      have HB9 : Hid (Below w.heap.size w wr) := HB.out.trans (HJ.out.2.2.mono HB.out.size)
      clear HJ
      go_wp2
      go_ret
      exact ⟨ret_bool' HE.out.symm, HB9.out⟩
end Go.Proofs.YtglnfifdjlgbcaaGreatDoor

namespace Go.Proofs.YtglnfifdjlgbcaaGreatDoor
open Go.RowKit Go.Shelf Go.Sort
set_option linter.unusedVariables false
set_option linter.unusedSimpArgs false

/-- the numbers of tables that came in -/
structure WfT (tb : Tb) : Prop where
  t : ∀ x ∈ tb.tasks, x.mask < 4294967296 ∧ x.auto < 4294967296
  k : ∀ x ∈ tb.ctrs, x.max < 4294967296 ∧ x.base < 4294967296 ∧ x.min < 4294967296
  a : ∀ x ∈ tb.als, x.ac.mask < 4294967296 ∧ x.auto < 4294967296 ∧ x.time < 4294967296 ∧ x.cycle < 4294967296
  s : ∀ x ∈ tb.msgs, x.init < 18446744073709551616 ∧ x.ac.mask < 4294967296
theorem calls_bel9 {P : Program} {f : Nat} {args : Array Value} {r : Value} {W : World} (h : Calls P f args W fun e w' => e = .returned r ∧ w' = W) : Calls P f args W fun e w' => e = .returned r ∧ Below W.heap.size W w' := h.mono (fun e w' h => ⟨h.1, by rw [h.2]; exact Below.refl _ _⟩)
end Go.Proofs.YtglnfifdjlgbcaaGreatDoor

namespace Go.Proofs.YtglnfifdjlgbcaaGreatDoor
open Go.RowKit Go.Shelf Go.Sort
set_option linter.unusedVariables false
set_option linter.unusedSimpArgs false

/-! ### fieldsFit -/
set_option maxHeartbeats 8000000 in
set_option maxRecDepth 100000 in
theorem index9_any (w : World) (s : Sl) (l : List Int) (h : RowsAt w 1 intP s l) (p : Int) : Calls Tryz.prog 268 #[.slice s.a s.n s.c, I p] w fun e w' => (∃ i : Int, e = .returned (I i) ∧ decide (0 ≤ i) = l.any (fun x => x == p)) ∧ w = w' := by
  have HS : Hid (s.n = l.length) := h.n
  have hsc : s.n ≤ s.c := h.c
  have hsm : s.c ≤ maxLen := h.m
  unfold maxLen at hsm
  have HH : Hid (RowsAt w 1 intP s l) := h
  obtain ⟨R, hR⟩ : ∃ R, R = l.any (fun x => x == p) := ⟨_, rfl⟩
  rw [← hR]
  have HR : Hid (R = l.any (fun x => x == p)) := hR
  clear h hR
  go_enter Tryz.func268, Tryz.ntmps268
  go_wp2
  go_loopw [5, 8] (fun _ iv wr => ∃ j : Nat, j ≤ s.n ∧ iv = .int .i64 j ∧ Hid (w = wr ∧ (l.take j).any (fun x => x == p) = false)) (fun _ iv _ => s.n - (intOf iv).toNat)
  case atStart => exact ⟨0, by omega, rfl, rfl, by simp⟩
  case round =>
    obtain ⟨j, hj, rfl, HJ⟩ := hrel
    obtain rfl := HJ.out.1
    by_cases hlt : j < s.n
    · have hlt' : (j : Int) < s.n := by omega
      obtain ⟨x, hx⟩ : ∃ x, l[j]? = some x := ⟨_, List.getElem?_eq_getElem (by rw [← HS.out]; exact hlt)⟩
      obtain ⟨g5, o5, e5, hg5, b5⟩ := ints_at9 HH.out hx
      have HT : Hid ((x == p) = true → R = true) := fun ht => by
        rw [HR.out, List.any_eq_true]
        exact ⟨x, List.mem_of_getElem? hx, ht⟩
      have HA : Hid ((x == p) = false → (l.take (j + 1)).any (fun x => x == p) = false) := fun ht => by
        rw [List.take_add_one, hx, Option.toList_some, List.any_append, HJ.out.2]
        simp [ht]
      rw [e5]
      clear hx e5 HJ
      by_cases he : p = x
      · subst he
        have HE : Hid (R = true) := HT.out (by simp)
        clear HT HA
        go_wp2
        go_ret
        exact ⟨⟨j, rfl, by rw [HE.out]; simp⟩, rfl⟩
      · have he1 : (p == x) = false := by simpa using he
        have HA2 : Hid ((l.take (j + 1)).any (fun x => x == p) = false) := HA.out (by simp; omega)
        clear HT HA he
        go_wp2
        go_roundw
        case rel => exact ⟨j + 1, by omega, by go_num, trivial, HA2.out⟩
        case measure => simp [intOf]; omega
    · obtain rfl : j = s.n := by omega
      have hlt' : ¬ ((s.n : Nat) : Int) < (s.n : Nat) := by omega
      have HE : Hid (R = false) := by
        show _ = _
        rw [HR.out]
        have := HJ.out.2
        rwa [List.take_of_length_le (by rw [HS.out]; exact Nat.le_refl _)] at this
      clear HR HJ
      go_wp2
      go_ret
      exact ⟨⟨-1, rfl, by rw [HE.out]; rfl⟩, rfl⟩
set_option maxRecDepth 100000 in
theorem contains9_any (w : World) (s : Sl) (l : List Int) (h : RowsAt w 1 intP s l) (p : Int) : Calls Tryz.prog 232 #[.slice s.a s.n s.c, I p] w fun e w' => e = .returned (.bool (l.any (fun x => x == p))) ∧ w = w' := by
  have k := index9_any w s l h p
  obtain ⟨R, hR⟩ : ∃ R, R = l.any (fun x => x == p) := ⟨_, rfl⟩
  rw [← hR] at k ⊢
  clear h hR
  go_enter Tryz.func232, Tryz.ntmps232
  go_wp2_with (go_at_call 268; refine k.mono ?_; clear k; rintro e w' ⟨⟨i, rfl, hi⟩, rfl⟩)
  go_ret
  exact ⟨rfl, rfl⟩
theorem four_at (w : World) : RowsAt (w.alloc (.cells #[I 1, I 2, I 4, I 8] 3)) 1 intP ⟨some ⟨w.heap.size, 0, none⟩, 4, 4⟩ [1, 2, 4, 8] := by
  refine ⟨rfl, Nat.le_refl _, (by show 4 ≤ maxLen; unfold maxLen; decide), fun j x hj => ⟨w.heap.size, 0, rfl, by simp, fun i hi => ?_⟩⟩
  obtain rfl : i = 0 := by omega
  refine ⟨I x, ?_, ?_⟩
  · rw [cell_of_row _ _ _ _ _ (0, 0) (heap_alloc_new w _)]
    match j, hj with
    | 0, h => cases h; rfl
    | 1, h => cases h; rfl
    | 2, h => cases h; rfl
    | 3, h => cases h; rfl
  · first | rfl | exact rfl | trivial
set_option maxHeartbeats 8000000 in
set_option maxRecDepth 100000 in
theorem fieldsFit_any (x : MsR) (w : World) : Calls Tryz.prog 209 #[.agg (msrC x)] w fun e w' => e = .returned (.bool (fldB x)) ∧ Below w.heap.size w w' := by
  have hb : ∀ o, Below w.heap.size w (w.alloc o) := fun o => below_alloc w o
  have hb4 : ∀ o q, Below w.heap.size w ((w.alloc o).alloc q) := fun o q => (hb o).trans ((below_alloc _ _).mono (hb o).size)
  have kc : ∀ o, Calls Tryz.prog 232 #[.slice (some ⟨w.heap.size + 1, 0, none⟩) 4 4, I x.len] ((w.alloc o).alloc (.cells #[I 1, I 2, I 4, I 8] 3)) fun e w' => e = .returned (.bool ([1, 2, 4, 8].any (fun y => y == x.len))) ∧ ((w.alloc o).alloc (.cells #[I 1, I 2, I 4, I 8] 3)) = w' := fun o => by
    have := contains9_any _ _ _ (four_at (w.alloc o)) x.len
    rw [World.size_alloc] at this
    exact this
  have kq := withinI_any x.queue 1 16
  obtain ⟨R, hR⟩ : ∃ R, R = fldB x := ⟨_, rfl⟩
  rw [← hR]
  unfold msrC at *
  by_cases k1 : x.kind = 1
  · have k1' : (x.kind == 1) = true := by simpa using k1
    have HX : Hid (R = ([1, 2, 4, 8].any (fun y => y == x.len) && (x.frm == 0) && ((x.init : Int) == 0) && (x.queue == 0))) := by
      show _ = _
      rw [hR]
      unfold fldB
      rw [if_pos k1, Bool.eq_iff_iff]
      simp
      omega
    clear hR k1
    generalize [1, 2, 4, 8].any (fun y => y == x.len) = bb at *
    go_enter Tryz.func209, Tryz.ntmps209
    cases bb
    · go_wp2_with (first | (go_at_call 232; refine (kc _).mono ?_; clear kc; rintro e w' ⟨rfl, rfl⟩))
      go_ret
      exact ⟨ret_bool' (by rw [HX.out]; simp), hb4 _ _⟩
    · cases b2 : (x.frm == 0)
      · rw [b2] at HX
        go_wp2_with (first | (go_at_call 232; refine (kc _).mono ?_; clear kc; rintro e w' ⟨rfl, rfl⟩))
        go_ret
        exact ⟨ret_bool' (by rw [HX.out]; simp), hb4 _ _⟩
      · rw [b2] at HX
        cases b3 : ((x.init : Int) == 0)
        · rw [b3] at HX
          go_wp2_with (first | (go_at_call 232; refine (kc _).mono ?_; clear kc; rintro e w' ⟨rfl, rfl⟩))
          go_ret
          exact ⟨ret_bool' (by rw [HX.out]; simp), hb4 _ _⟩
        · rw [b3] at HX
          go_wp2_with (first | (go_at_call 232; refine (kc _).mono ?_; clear kc; rintro e w' ⟨rfl, rfl⟩))
          go_ret
          exact ⟨ret_bool' (by rw [HX.out]; simp), hb4 _ _⟩
  · have k1' : (x.kind == 1) = false := by simpa using k1
    by_cases k2 : x.kind = 2
    · have k2' : (x.kind == 2) = true := by simpa using k2
      have HX : Hid (R = ((x.len == 0) && decide ((x.init : Int) ≤ 4294967295) && (x.queue == 0))) := by
        show _ = _
        rw [hR]
        unfold fldB
        rw [if_neg k1, if_pos k2, Bool.eq_iff_iff]
        simp
        omega
      clear hR k1 k2 kc
      go_enter Tryz.func209, Tryz.ntmps209
      cases b1 : (x.len == 0)
      · rw [b1] at HX
        go_wp2_with (first | (go_at_call 185; refine (kq _).mono ?_; clear kq; rintro e w' ⟨rfl, rfl⟩))
        go_ret
        exact ⟨ret_bool' (by rw [HX.out]; simp), hb _⟩
      · rw [b1] at HX
        by_cases b2 : (x.init : Int) ≤ 4294967295
        · have b2' : decide ((x.init : Int) ≤ 4294967295) = true := by simpa using b2
          rw [b2'] at HX
          go_wp2_with (first | (go_at_call 185; refine (kq _).mono ?_; clear kq; rintro e w' ⟨rfl, rfl⟩))
          go_ret
          exact ⟨ret_bool' (by rw [HX.out]; simp), hb _⟩
        · have b2' : decide ((x.init : Int) ≤ 4294967295) = false := by simpa using b2
          rw [b2'] at HX
          go_wp2_with (first | (go_at_call 185; refine (kq _).mono ?_; clear kq; rintro e w' ⟨rfl, rfl⟩))
          go_ret
          exact ⟨ret_bool' (by rw [HX.out]; simp), hb _⟩
    · have k2' : (x.kind == 2) = false := by simpa using k2
      by_cases k3 : x.kind = 3
      · have k3' : (x.kind == 3) = true := by simpa using k3
        have HX : Hid (R = ((x.len == 0) && ((x.init : Int) == 0) && inI x.queue 1 16)) := by
          show _ = _
          rw [hR]
          unfold fldB
          rw [if_neg k1, if_neg k2, if_pos k3, Bool.eq_iff_iff]
          simp
        clear hR k1 k2 k3 kc
        generalize inI x.queue 1 16 = bq at *
        go_enter Tryz.func209, Tryz.ntmps209
        cases b1 : (x.len == 0)
        · rw [b1] at HX
          go_wp2_with (first | (go_at_call 185; refine (kq _).mono ?_; clear kq; rintro e w' ⟨rfl, rfl⟩))
          go_ret
          exact ⟨ret_bool' (by rw [HX.out]; simp), hb _⟩
        · rw [b1] at HX
          cases b2 : ((x.init : Int) == 0)
          · rw [b2] at HX
            go_wp2_with (first | (go_at_call 185; refine (kq _).mono ?_; clear kq; rintro e w' ⟨rfl, rfl⟩))
            go_ret
            exact ⟨ret_bool' (by rw [HX.out]; simp), hb _⟩
          · rw [b2] at HX
            go_wp2_with (first | (go_at_call 185; refine (kq _).mono ?_; clear kq; rintro e w' ⟨rfl, rfl⟩))
            go_ret
            exact ⟨ret_bool' (by rw [HX.out]; simp), hb _⟩
      · have k3' : (x.kind == 3) = false := by simpa using k3
        have HX : Hid (R = false) := by
          show _ = _
          rw [hR]
          unfold fldB
          rw [if_neg k1, if_neg k2, if_neg k3]
        clear hR k1 k2 k3 kc
        go_enter Tryz.func209, Tryz.ntmps209
        go_wp2_with (first | (go_at_call 185; refine (kq _).mono ?_; clear kq; rintro e w' ⟨rfl, rfl⟩))
        go_ret
        exact ⟨ret_bool' (by rw [HX.out]), hb _⟩
end Go.Proofs.YtglnfifdjlgbcaaGreatDoor

namespace Go.Proofs.YtglnfifdjlgbcaaGreatDoor
open Go.RowKit Go.Shelf Go.Sort
set_option linter.unusedVariables false
set_option linter.unusedSimpArgs false

/-! ### sums of alarms' and messages' rows -/
set_option maxHeartbeats 8000000 in
set_option maxRecDepth 100000 in
theorem sum_alr (w : World) (s : Sl) (l : List AlR) (hl : ∀ W, Below w.heap.size w W → RowsAt W 7 alrP s l) (f : Nat) (caps : Array Value) (eg : ∀ args W, (callFunc f args).run Tryz.prog W = .ok (.enter f args) W) (p : AlR → Int)
    (hf : ∀ W, Below w.heap.size w W → ∀ x ∈ l, Calls Tryz.prog f (#[.agg #[I x.ctr, I x.ac.kind, I x.ac.task, .int .u32 (x.ac.mask : Int), .int .u32 (x.auto : Int), .int .u32 (x.time : Int), .int .u32 (x.cycle : Int)]] ++ caps) W fun e w' => e = .returned (I (p x)) ∧ Below W.heap.size W w') :
    Calls Tryz.prog 257 #[.slice s.a s.n s.c, .func (.func f) #[] caps] w fun e w' => e = .returned (I (IntKind.i64.wrap (sumZ p l))) ∧ Below w.heap.size w w' := by
  have h0 := hl w (Below.refl _ _)
  have HS : Hid (s.n = l.length) := h0.n
  have hsc : s.n ≤ s.c := h0.c
  have hsm : s.c ≤ maxLen := h0.m
  unfold maxLen at hsm
  have HH : Hid (∀ W, Below w.heap.size w W → RowsAt W 7 alrP s l) := hl
  have HFF : Hid (∀ W, Below w.heap.size w W → ∀ x ∈ l, Calls Tryz.prog f (#[.agg #[I x.ctr, I x.ac.kind, I x.ac.task, .int .u32 (x.ac.mask : Int), .int .u32 (x.auto : Int), .int .u32 (x.time : Int), .int .u32 (x.cycle : Int)]] ++ caps) W fun e w' => e = .returned (I (p x)) ∧ Below W.heap.size W w') := hf
  obtain ⟨R, hR⟩ : ∃ R, R = IntKind.i64.wrap (sumZ p l) := ⟨_, rfl⟩
  rw [← hR]
  have HR : Hid (R = IntKind.i64.wrap (sumZ p l)) := hR
  clear hl hR hf h0
  go_enter Tryz.func257, Tryz.ntmps257
  go_wp2
  go_loopw [5, 7, 10] (fun tv _ iv wr => ∃ (j : Nat) (t : Int), j ≤ s.n ∧ iv = .int .i64 j ∧ tv = .int .i64 t ∧ Hid (t = IntKind.i64.wrap (sumZ p (l.take j)) ∧ Below w.heap.size w wr)) (fun _ _ iv _ => s.n - (intOf iv).toNat)
  case atStart => exact ⟨0, 0, by omega, rfl, rfl, by simp [sumZ, IntKind.wrap_i64], Below.refl _ _⟩
  case round =>
    obtain ⟨j, t, hj, rfl, rfl, HJ⟩ := hrel
    by_cases hlt : j < s.n
    · have hlt' : (j : Int) < s.n := by omega
      obtain ⟨x, hx⟩ : ∃ x, l[j]? = some x := ⟨_, List.getElem?_eq_getElem (by rw [← HS.out]; exact hlt)⟩
      obtain ⟨g5, o5, e5, hg5, hr5⟩ := (HH.out _ HJ.out.2).row j x hx
      obtain ⟨u0, a0, q0⟩ := hr5 0 (by omega)
      obtain ⟨u1, a1, q1⟩ := hr5 1 (by omega)
      obtain ⟨u2, a2, q2⟩ := hr5 2 (by omega)
      obtain ⟨u3, a3, q3⟩ := hr5 3 (by omega)
      obtain ⟨u4, a4, q4⟩ := hr5 4 (by omega)
      obtain ⟨u5, a5, q5⟩ := hr5 5 (by omega)
      obtain ⟨u6, a6, q6⟩ := hr5 6 (by omega)
      have f0 : u0 = I x.ctr := q0
      have f1 : u1 = I x.ac.kind := q1
      have f2 : u2 = I x.ac.task := q2
      have f3 : u3 = .int .u32 (x.ac.mask : Int) := q3
      have f4 : u4 = .int .u32 (x.auto : Int) := q4
      have f5 : u5 = .int .u32 (x.time : Int) := q5
      have f6 : u6 = .int .u32 (x.cycle : Int) := q6
      subst f0 f1 f2 f3 f4 f5 f6
      rw [Nat.add_zero] at a0
      have HB : Hid (Below w.heap.size w (wr.alloc (.cells #[I x.ctr, I x.ac.kind, I x.ac.task, .int .u32 (x.ac.mask : Int), .int .u32 (x.auto : Int), .int .u32 (x.time : Int), .int .u32 (x.cycle : Int)] 158))) := HJ.out.2.trans ((below_alloc wr _).mono HJ.out.2.size)
      have cx := HFF.out _ HB.out x (List.mem_of_getElem? hx)
      have HA : Hid (IntKind.i64.wrap (t + p x) = IntKind.i64.wrap (sumZ p (l.take (j + 1)))) := by
        show _ = _
        rw [List.take_add_one, hx, Option.toList_some, sumZ_snoc, HJ.out.1]
        simp only [IntKind.wrap_i64]
        omega
      rw [e5]
      clear hx e5 HJ hr5 q0 q1 q2 q3 q4 q5 q6
      generalize p x = px at *
      go_wp2
      refine cx.mono ?_
      clear cx
      rintro e7 w7 ⟨rfl, hb7⟩
      have HB7 : Hid (Below w.heap.size w w7) := HB.out.trans (hb7.mono HB.out.size)
      clear hb7
      go_wp2
      go_roundw
      case rel => exact ⟨j + 1, IntKind.i64.wrap (t + px), by omega, by go_num, by simp [IntKind.wrap_i64, wrap64], HA.out, HB7.out⟩
      case measure => simp [intOf]; omega
    · obtain rfl : j = s.n := by omega
      have hlt' : ¬ ((s.n : Nat) : Int) < (s.n : Nat) := by omega
      have HE : Hid (t = R) := by
        show _ = _
        rw [HR.out, HJ.out.1, List.take_of_length_le (by rw [HS.out]; exact Nat.le_refl _)]
      have HB : Hid (Below w.heap.size w wr) := HJ.out.2
      clear HR HJ
      go_wp2
      go_ret
      exact ⟨ret_i HE.out, HB.out⟩
set_option maxHeartbeats 8000000 in
set_option maxRecDepth 100000 in
theorem sum_msr (w : World) (s : Sl) (l : List MsR) (hl : ∀ W, Below w.heap.size w W → RowsAt W 8 msrP s l) (f : Nat) (caps : Array Value) (eg : ∀ args W, (callFunc f args).run Tryz.prog W = .ok (.enter f args) W) (p : MsR → Int)
    (hf : ∀ W, Below w.heap.size w W → ∀ x ∈ l, Calls Tryz.prog f (#[.agg #[I x.kind, I x.len, I x.frm, .int .u64 (x.init : Int), I x.queue, I x.ac.kind, I x.ac.task, .int .u32 (x.ac.mask : Int)]] ++ caps) W fun e w' => e = .returned (I (p x)) ∧ Below W.heap.size W w') :
    Calls Tryz.prog 259 #[.slice s.a s.n s.c, .func (.func f) #[] caps] w fun e w' => e = .returned (I (IntKind.i64.wrap (sumZ p l))) ∧ Below w.heap.size w w' := by
  have h0 := hl w (Below.refl _ _)
  have HS : Hid (s.n = l.length) := h0.n
  have hsc : s.n ≤ s.c := h0.c
  have hsm : s.c ≤ maxLen := h0.m
  unfold maxLen at hsm
  have HH : Hid (∀ W, Below w.heap.size w W → RowsAt W 8 msrP s l) := hl
  have HFF : Hid (∀ W, Below w.heap.size w W → ∀ x ∈ l, Calls Tryz.prog f (#[.agg #[I x.kind, I x.len, I x.frm, .int .u64 (x.init : Int), I x.queue, I x.ac.kind, I x.ac.task, .int .u32 (x.ac.mask : Int)]] ++ caps) W fun e w' => e = .returned (I (p x)) ∧ Below W.heap.size W w') := hf
  obtain ⟨R, hR⟩ : ∃ R, R = IntKind.i64.wrap (sumZ p l) := ⟨_, rfl⟩
  rw [← hR]
  have HR : Hid (R = IntKind.i64.wrap (sumZ p l)) := hR
  clear hl hR hf h0
  go_enter Tryz.func259, Tryz.ntmps259
  go_wp2
  go_loopw [5, 7, 10] (fun tv _ iv wr => ∃ (j : Nat) (t : Int), j ≤ s.n ∧ iv = .int .i64 j ∧ tv = .int .i64 t ∧ Hid (t = IntKind.i64.wrap (sumZ p (l.take j)) ∧ Below w.heap.size w wr)) (fun _ _ iv _ => s.n - (intOf iv).toNat)
  case atStart => exact ⟨0, 0, by omega, rfl, rfl, by simp [sumZ, IntKind.wrap_i64], Below.refl _ _⟩
  case round =>
    obtain ⟨j, t, hj, rfl, rfl, HJ⟩ := hrel
    by_cases hlt : j < s.n
    · have hlt' : (j : Int) < s.n := by omega
      obtain ⟨x, hx⟩ : ∃ x, l[j]? = some x := ⟨_, List.getElem?_eq_getElem (by rw [← HS.out]; exact hlt)⟩
      obtain ⟨g5, o5, e5, hg5, hr5⟩ := (HH.out _ HJ.out.2).row j x hx
      obtain ⟨u0, a0, q0⟩ := hr5 0 (by omega)
      obtain ⟨u1, a1, q1⟩ := hr5 1 (by omega)
      obtain ⟨u2, a2, q2⟩ := hr5 2 (by omega)
      obtain ⟨u3, a3, q3⟩ := hr5 3 (by omega)
      obtain ⟨u4, a4, q4⟩ := hr5 4 (by omega)
      obtain ⟨u5, a5, q5⟩ := hr5 5 (by omega)
      obtain ⟨u6, a6, q6⟩ := hr5 6 (by omega)
      obtain ⟨u7, a7, q7⟩ := hr5 7 (by omega)
      have f0 : u0 = I x.kind := q0
      have f1 : u1 = I x.len := q1
      have f2 : u2 = I x.frm := q2
      have f3 : u3 = .int .u64 (x.init : Int) := q3
      have f4 : u4 = I x.queue := q4
      have f5 : u5 = I x.ac.kind := q5
      have f6 : u6 = I x.ac.task := q6
      have f7 : u7 = .int .u32 (x.ac.mask : Int) := q7
      subst f0 f1 f2 f3 f4 f5 f6 f7
      rw [Nat.add_zero] at a0
      have HB : Hid (Below w.heap.size w (wr.alloc (.cells #[I x.kind, I x.len, I x.frm, .int .u64 (x.init : Int), I x.queue, I x.ac.kind, I x.ac.task, .int .u32 (x.ac.mask : Int)] 161))) := HJ.out.2.trans ((below_alloc wr _).mono HJ.out.2.size)
      have cx := HFF.out _ HB.out x (List.mem_of_getElem? hx)
      have HA : Hid (IntKind.i64.wrap (t + p x) = IntKind.i64.wrap (sumZ p (l.take (j + 1)))) := by
        show _ = _
        rw [List.take_add_one, hx, Option.toList_some, sumZ_snoc, HJ.out.1]
        simp only [IntKind.wrap_i64]
        omega
      rw [e5]
      clear hx e5 HJ hr5 q0 q1 q2 q3 q4 q5 q6 q7
      generalize p x = px at *
      go_wp2
      refine cx.mono ?_
      clear cx
      rintro e7 w7 ⟨rfl, hb7⟩
      have HB7 : Hid (Below w.heap.size w w7) := HB.out.trans (hb7.mono HB.out.size)
      clear hb7
      go_wp2
      go_roundw
      case rel => exact ⟨j + 1, IntKind.i64.wrap (t + px), by omega, by go_num, by simp [IntKind.wrap_i64, wrap64], HA.out, HB7.out⟩
      case measure => simp [intOf]; omega
    · obtain rfl : j = s.n := by omega
      have hlt' : ¬ ((s.n : Nat) : Int) < (s.n : Nat) := by omega
      have HE : Hid (t = R) := by
        show _ = _
        rw [HR.out, HJ.out.1, List.take_of_length_le (by rw [HS.out]; exact Nat.le_refl _)]
      have HB : Hid (Below w.heap.size w wr) := HJ.out.2
      clear HR HJ
      go_wp2
      go_ret
      exact ⟨ret_i HE.out, HB.out⟩
set_option maxRecDepth 100000 in
theorem calls_any (a : AcR) (w : World) : Calls Tryz.prog 271 #[.agg #[I a.kind, I a.task, .int .u32 (a.mask : Int)]] w fun e w' => e = .returned (I (if a.kind = 3 then 1 else 0)) ∧ Below w.heap.size w w' := by
  have hb : ∀ o, Below w.heap.size w (w.alloc o) := fun o => below_alloc w o
  by_cases h : a.kind = 3
  · rw [if_pos h]
    have h1 : (a.kind == 3) = true := by simpa using h
    clear h
    go_enter Tryz.func271, Tryz.ntmps271
    go_wp2
    go_ret
    exact ⟨rfl, hb _⟩
  · rw [if_neg h]
    have h1 : (a.kind == 3) = false := by simpa using h
    clear h
    go_enter Tryz.func271, Tryz.ntmps271
    go_wp2
    go_ret
    exact ⟨rfl, hb _⟩
set_option maxRecDepth 100000 in
theorem callsAl_any (x : AlR) (w : World) : Calls Tryz.prog 258 #[.agg (alrC x)] w fun e w' => e = .returned (I (if x.ac.kind = 3 then 1 else 0)) ∧ Below w.heap.size w w' := by
  have hb : ∀ o, Below w.heap.size w (w.alloc o) := fun o => below_alloc w o
  have kc := fun W => calls_any x.ac W
  unfold alrC
  generalize (if x.ac.kind = 3 then (1 : Int) else 0) = rr at *
  go_enter Tryz.func258, Tryz.ntmps258
  go_wp2_with (go_at_call 271; refine (kc _).mono ?_; clear kc; rintro e w' ⟨rfl, hb2⟩)
  go_ret
  exact ⟨rfl, (hb _).trans (hb2.mono (hb _).size)⟩
set_option maxRecDepth 100000 in
theorem callsMs_any (x : MsR) (w : World) : Calls Tryz.prog 260 #[.agg (msrC x)] w fun e w' => e = .returned (I (if x.ac.kind = 3 then 1 else 0)) ∧ Below w.heap.size w w' := by
  have hb : ∀ o, Below w.heap.size w (w.alloc o) := fun o => below_alloc w o
  have kc := fun W => calls_any x.ac W
  unfold msrC
  generalize (if x.ac.kind = 3 then (1 : Int) else 0) = rr at *
  go_enter Tryz.func260, Tryz.ntmps260
  go_wp2_with (go_at_call 271; refine (kc _).mono ?_; clear kc; rintro e w' ⟨rfl, hb2⟩)
  go_ret
  exact ⟨rfl, (hb _).trans (hb2.mono (hb _).size)⟩
theorem counterOf_any (x : AlR) (w : World) : Calls Tryz.prog 252 #[.agg (alrC x)] w fun e w' => e = .returned (I x.ctr) ∧ Below w.heap.size w w' := by
  have hb : ∀ o, Below w.heap.size w (w.alloc o) := fun o => below_alloc w o
  unfold alrC
  go_enter Tryz.func252, Tryz.ntmps252
  go_wp2
  go_ret
  exact ⟨rfl, hb _⟩
theorem senderOf_any (x : MsR) (w : World) : Calls Tryz.prog 256 #[.agg (msrC x)] w fun e w' => e = .returned (I x.frm) ∧ Below w.heap.size w w' := by
  have hb : ∀ o, Below w.heap.size w (w.alloc o) := fun o => below_alloc w o
  unfold msrC
  go_enter Tryz.func256, Tryz.ntmps256
  go_wp2
  go_ret
  exact ⟨rfl, hb _⟩
theorem isReceived_any (x : MsR) (w : World) : Calls Tryz.prog 255 #[.agg (msrC x)] w fun e w' => e = .returned (.bool (x.kind != 1)) ∧ Below w.heap.size w w' := by
  have hb : ∀ o, Below w.heap.size w (w.alloc o) := fun o => below_alloc w o
  unfold msrC
  go_enter Tryz.func255, Tryz.ntmps255
  go_wp2
  go_ret
  exact ⟨rfl, hb _⟩
end Go.Proofs.YtglnfifdjlgbcaaGreatDoor

