import Derived.Test.YthhckhifaolmkaaGreatXTci
import Derived.Lib.QuietBelow
import Derived.Deep.Cut
import Derived.Maps.OwnSet
import Derived.Maps.OwnOps
namespace Go.Proofs.YthhckhifaolmkaaGreat
open Go.RowKit Go.Shelf Go.Sort
set_option linter.unusedVariables false
set_option linter.unusedSimpArgs false

theorem wpQuiet_load_row9 {P : Program} {ops : Array Oper} {C : World → Prop} {Q : Act → Prop} {a : Act} {o : Oper} {rest : List Oper} (hgd : Region.wanted o (yielded ops a.tmps) = true) (ty : TypeId) (x : Operand) (ho : o.op = .load ty x)
    (g : Nat) (hx : a.eval x = .pointer (some ⟨g, 0, none⟩)) (t : TypeId) (cs : Array Value) (fr : Nat × Nat) (d : TypeDesc) (hg : ∀ w, C w → w.heap[g]? = some (.cells cs t fr))
    (hu : P.underlying ty = some d) (hd : (match d with | .struct _ | .array _ _ => true | _ => false) = true) (hi : (P.info? ty).map (·.size) = some cs.size)
    (h : wpQuiet P ops C Q rest (a.put o.dst (.agg cs))) : wpQuiet P ops C Q (o :: rest) a := by
  unfold wpQuiet
  rw [if_pos hgd]
  refine ⟨.agg cs, fun w hw => ?_, h⟩
  unfold Oper.quietAt execOp
  simp only [ho, hx, Instr.loadAt, Instr.sureAddr, Sem.run_bind, Sem.run_pure, Result.andThen_ok, run_loadVar_row w g t ty cs fr d (hg w hw) hu hd hi]
  exact ⟨rfl, rfl⟩
/-- What the class of a region's worlds keeps. -/
theorem heap_regrown9 {w : World} {g : Nat} {o : Obj} (h : w.heap[g]? = some o) : ∀ w', (∃ p : Regrown, w' = grow (redrawn w p.d) p.os) → w'.heap[g]? = some o := by
  rintro w' ⟨p, rfl⟩
  exact ((below_regrown w p.d p.os).block g (heap_lt h)).trans h
/-- a callee that changes nothing that was there, in a region that draws -/
theorem regrown_bel9 {P : Program} {f : Nat} {args : Array Value} {W0 : World} {r : Value} (h : ∀ W, Below W0.heap.size W0 W → Calls P f args W fun e w' => e = .returned r ∧ Below W.heap.size W w') (d : Nat) (os : Array Obj) : Calls P f args (grow (redrawn W0 d) os) fun e w'' => e = .returned r ∧ ∃ p : Regrown, w'' = grow (redrawn W0 p.d) p.os :=
  Calls.regrown_of (h _ (below_regrown W0 d os))
/-! ### ringsFit -/
set_option maxHeartbeats 16000000 in
set_option maxRecDepth 100000 in
theorem ringsFit_any (tb : Tb) (v : Ts) (w : World) (h : TbAt w tb v) : Calls Tryz.prog 62 #[.agg (tbC tb v)] w fun e w' => e = .returned (.bool (ringsW tb.tasks 64 tb.rings)) ∧ Below w.heap.size w w' := by
  have hV := heap_alloc_new w (.cells (tbC tb v) 37)
  have HB : Hid (Below w.heap.size w (w.alloc (.cells (tbC tb v) 37))) := below_alloc w _
  have HT : Hid (TbAt (w.alloc (.cells (tbC tb v) 37)) tb v) := h.below HB.out
  have HVV : Hid ((w.alloc (.cells (tbC tb v) 37)).heap[w.heap.size]? = some (.cells (tbC tb v) 37)) := hV
  obtain ⟨c0, c1, c2, c3, c4, c5, c6, c7, c8, c9, c10, c11, c12⟩ := var13 hV
  have HS : Hid (v.g.n = tb.rings.length) := h.g.n
  have hsc : v.g.n ≤ v.g.c := h.g.c
  have hsm : v.g.c ≤ maxLen := h.g.m
  unfold maxLen at hsm
  have hi30 : (Tryz.prog.info? 37).map (·.size) = some (tbC tb v).size := by kernel_rfl
  obtain ⟨R, hR⟩ : ∃ R, R = ringsW tb.tasks 64 tb.rings := ⟨_, rfl⟩
  rw [← hR]
  have HR : Hid (R = ringsW tb.tasks 64 (tb.rings.drop 0)) := hR
  clear hR h hV c0 c1 c2 c4 c5 c6 c7 c8 c9 c10 c11 c12
  go_enter Tryz.func62, Tryz.ntmps62
  unfold tbC at *
  generalize hW : w.alloc (.cells #[I tb.uses, I tb.modes, .slice v.t.a v.t.n v.t.c, .slice v.g.a v.g.n v.g.c, .slice v.r.a v.r.n v.r.c, .slice v.k.a v.k.n v.k.c, .slice v.a.a v.a.n v.a.c, .slice v.i.a v.i.n v.i.c, .slice v.s.a v.s.n v.s.c, I tb.depth, I tb.frames, I tb.errors, I tb.calls] 37) = W1 at *
  go_upto_region 1 with fail
  clear hW
  go_wp2
  go_loopw [3, 5, 9] (fun av _ iv wr => ∃ (j : Nat) (a : Int), j ≤ v.g.n ∧ iv = .int .i64 j ∧ av = I a ∧ Hid (R = ringsW tb.tasks a (tb.rings.drop j) ∧ (0 ≤ a ∧ a ≤ 64) ∧ Below W1.heap.size W1 wr)) (fun _ _ iv _ => v.g.n - (intOf iv).toNat)
  case atStart => exact ⟨0, 64, by omega, rfl, rfl, HR.out, by omega, Below.refl _ _⟩
  case round =>
    clear HR
    obtain ⟨j, a, hj, rfl, rfl, HJ⟩ := hrel
    by_cases hlt : j < v.g.n
    · have hlt' : (j : Int) < v.g.n := by omega
      obtain ⟨x, hx⟩ : ∃ x, tb.rings[j]? = some x := ⟨_, List.getElem?_eq_getElem (by rw [← HS.out]; exact hlt)⟩
      obtain ⟨g5, o5, e5, hg5, x0, x1⟩ := rgr_at (HT.out.below HJ.out.2.2) hx
      have ha := HJ.out.2.1
      have HX : Hid (R = (inI x.prio 0 (a - 1) && tb.tasks.any (fun y => y.prio == x.prio) && (x.cap == IntKind.i64.wrap (capN tb.tasks x.prio)) && ringsW tb.tasks x.prio (tb.rings.drop (j + 1)))) := by
        have h9 := HJ.out.1
        rw [drop_at hx, ringsW] at h9
        exact h9
      rw [e5]
      clear hx e5
      have b0 := HJ.out.2.2
      clear HJ
      go_upto_region 5 with fail
      have bX : Below W1.heap.size W1 (wr.alloc (.cells #[I x.prio, I x.cap] 97)) := b0.trans ((below_alloc wr _).mono b0.size)
      have y0 : (wr.alloc (.cells #[I x.prio, I x.cap] 97)).cell? ⟨wr.heap.size, 0, none⟩ = some (I x.prio) := by rw [cell_of_row _ _ _ _ _ (0, 0) (heap_alloc_new wr _)]; rfl
      have y1 : (wr.alloc (.cells #[I x.prio, I x.cap] 97)).cell? ⟨wr.heap.size, 1, none⟩ = some (I x.cap) := by rw [cell_of_row _ _ _ _ _ (0, 0) (heap_alloc_new wr _)]; rfl
      have hV0 : (wr.alloc (.cells #[I x.prio, I x.cap] 97)).heap[w.heap.size]? = some (.cells #[I tb.uses, I tb.modes, .slice v.t.a v.t.n v.t.c, .slice v.g.a v.g.n v.g.c, .slice v.r.a v.r.n v.r.c, .slice v.k.a v.k.n v.k.c, .slice v.a.a v.a.n v.a.c, .slice v.i.a v.i.n v.i.c, .slice v.s.a v.s.n v.s.c, I tb.depth, I tb.frames, I tb.errors, I tb.calls] 37) := (bX.block w.heap.size (heap_lt HVV.out)).trans HVV.out
      have hT0 := HT.out.below bX
      clear b0 x0 x1
      generalize wr.heap.size = X at *
      generalize (wr.alloc (.cells #[I x.prio, I x.cap] 97)) = W0 at *
      have cW : ∀ d os, Calls Tryz.prog 86 #[I x.prio, I 0, I (a - 1)] (grow (redrawn W0 d) os) fun e w'' => e = .returned (.bool (inI x.prio 0 (a - 1))) ∧ ∃ p : Regrown, w'' = grow (redrawn W0 p.d) p.os := fun d os => regrown_bel9 (fun W hW => (withinI_any x.prio 0 (a - 1) W).mono (fun e w' h => ⟨h.1, by rw [h.2]; exact Below.refl _ _⟩)) d os
      have cH : ∀ d os, Calls Tryz.prog 89 #[.agg #[I tb.uses, I tb.modes, .slice v.t.a v.t.n v.t.c, .slice v.g.a v.g.n v.g.c, .slice v.r.a v.r.n v.r.c, .slice v.k.a v.k.n v.k.c, .slice v.a.a v.a.n v.a.c, .slice v.i.a v.i.n v.i.c, .slice v.s.a v.s.n v.s.c, I tb.depth, I tb.frames, I tb.errors, I tb.calls], I x.prio] (grow (redrawn W0 d) os) fun e w'' => e = .returned (.bool (tb.tasks.any (fun y => y.prio == x.prio))) ∧ ∃ p : Regrown, w'' = grow (redrawn W0 p.d) p.os := fun d os => regrown_bel9 (fun W hW => hasTask_any tb v W (hT0.below hW) x.prio) d os
      have cC : ∀ d os, Calls Tryz.prog 90 #[.slice v.t.a v.t.n v.t.c, I x.prio] (grow (redrawn W0 d) os) fun e w'' => e = .returned (I (IntKind.i64.wrap (capN tb.tasks x.prio))) ∧ ∃ p : Regrown, w'' = grow (redrawn W0 p.d) p.os := fun d os => regrown_bel9 (fun W hW => capacity_any W v.t tb.tasks (fun W2 hW2 => ((hT0.below hW).below hW2).t) x.prio) d os
      have z0 := cell_regrown y0
      have z1 := cell_regrown y1
      have z2 := cell_regrown (var13 hV0).2.2.1
      have hR0 := heap_regrown9 hV0
      have HB0 : Hid (Below w.heap.size w W0) := HB.out.trans (bX.mono HB.out.size)
      have HBX : Hid (Below W1.heap.size W1 W0) := bX
      clear hT0 bX
      cases b1 : inI x.prio 0 (a - 1) with
      | false =>
        rw [b1] at cW HX
        refine wp_region_quiet_below (by kernel_rfl) (by kernel_rfl) ?_
        repeat (go_big_quiet_step (first | exact cW _ _))
        refine wpQuiet_nil ?_
        rintro _ ⟨⟨dq, osq⟩, rfl⟩
        dsimp only
        have HB9 : Hid (Below w.heap.size w (grow (redrawn W0 dq) osq)) := HB0.out.trans ((below_regrown W0 dq osq).mono HB0.out.size)
        have HB8 : Hid (Below W1.heap.size W1 (grow (redrawn W0 dq) osq)) := HBX.out.trans ((below_regrown W0 dq osq).mono HBX.out.size)
        have r0 := z0 dq osq
        clear cW cH cC hR0 z0 z1 z2 y0 y1 hV0
        generalize grow (redrawn W0 dq) osq = w9 at *
        go_wp2
        go_ret
        exact ⟨ret_bool' (by rw [HX.out]; simp), HB9.out⟩
      | true =>
        rw [b1] at cW HX
        have hp : 0 ≤ x.prio ∧ x.prio ≤ 63 := by unfold inI at b1; simp at b1; omega
        cases b2 : tb.tasks.any (fun y => y.prio == x.prio) with
        | false =>
          rw [b2] at cH HX
          refine wp_region_quiet_below (by kernel_rfl) (by kernel_rfl) ?_
          repeat (first | (go_big_quiet_step (first | exact cW _ _ | exact cH _ _)) | (refine wpQuiet_load_row9 (by kernel_rfl) 37 _ rfl w.heap.size rfl 37 _ (0, 0) _ hR0 Tryz.underlying37 rfl hi30 ?_; simp only [Act.put, List.getElem_toArray, List.getElem_cons_succ, List.getElem_cons_zero, List.setIfInBounds_toArray, List.set_cons_zero, List.set_cons_succ]))
          refine wpQuiet_nil ?_
          rintro _ ⟨⟨dq, osq⟩, rfl⟩
          dsimp only
          have HB9 : Hid (Below w.heap.size w (grow (redrawn W0 dq) osq)) := HB0.out.trans ((below_regrown W0 dq osq).mono HB0.out.size)
          have HB8 : Hid (Below W1.heap.size W1 (grow (redrawn W0 dq) osq)) := HBX.out.trans ((below_regrown W0 dq osq).mono HBX.out.size)
          have r0 := z0 dq osq
          clear cW cH cC hR0 z0 z1 z2 y0 y1 hV0
          generalize grow (redrawn W0 dq) osq = w9 at *
          go_wp2
          go_ret
          exact ⟨ret_bool' (by rw [HX.out]; simp), HB9.out⟩
        | true =>
          rw [b2] at cH HX
          cases b3 : (x.cap == IntKind.i64.wrap (capN tb.tasks x.prio)) with
          | false =>
            rw [b3] at HX
            generalize IntKind.i64.wrap (capN tb.tasks x.prio) = cc at *
            refine wp_region_quiet_below (by kernel_rfl) (by kernel_rfl) ?_
            repeat (first | (go_big_quiet_step (first | exact cW _ _ | exact cH _ _ | exact cC _ _)) | (refine wpQuiet_load_row9 (by kernel_rfl) 37 _ rfl w.heap.size rfl 37 _ (0, 0) _ hR0 Tryz.underlying37 rfl hi30 ?_; simp only [Act.put, List.getElem_toArray, List.getElem_cons_succ, List.getElem_cons_zero, List.setIfInBounds_toArray, List.set_cons_zero, List.set_cons_succ]))
            refine wpQuiet_nil ?_
            rintro _ ⟨⟨dq, osq⟩, rfl⟩
            dsimp only
            have HB9 : Hid (Below w.heap.size w (grow (redrawn W0 dq) osq)) := HB0.out.trans ((below_regrown W0 dq osq).mono HB0.out.size)
            have HB8 : Hid (Below W1.heap.size W1 (grow (redrawn W0 dq) osq)) := HBX.out.trans ((below_regrown W0 dq osq).mono HBX.out.size)
            have r0 := z0 dq osq
            clear cW cH cC hR0 z0 z1 z2 y0 y1 hV0
            generalize grow (redrawn W0 dq) osq = w9 at *
            go_wp2
            go_ret
            exact ⟨ret_bool' (by rw [HX.out]; simp), HB9.out⟩
          | true =>
            rw [b3] at HX
            generalize IntKind.i64.wrap (capN tb.tasks x.prio) = cc at *
            refine wp_region_quiet_below (by kernel_rfl) (by kernel_rfl) ?_
            repeat (first | (go_big_quiet_step (first | exact cW _ _ | exact cH _ _ | exact cC _ _)) | (refine wpQuiet_load_row9 (by kernel_rfl) 37 _ rfl w.heap.size rfl 37 _ (0, 0) _ hR0 Tryz.underlying37 rfl hi30 ?_; simp only [Act.put, List.getElem_toArray, List.getElem_cons_succ, List.getElem_cons_zero, List.setIfInBounds_toArray, List.set_cons_zero, List.set_cons_succ]))
            refine wpQuiet_nil ?_
            rintro _ ⟨⟨dq, osq⟩, rfl⟩
            dsimp only
            have HB9 : Hid (Below w.heap.size w (grow (redrawn W0 dq) osq)) := HB0.out.trans ((below_regrown W0 dq osq).mono HB0.out.size)
            have HB8 : Hid (Below W1.heap.size W1 (grow (redrawn W0 dq) osq)) := HBX.out.trans ((below_regrown W0 dq osq).mono HBX.out.size)
            have r0 := z0 dq osq
            clear cW cH cC hR0 z0 z1 z2 y0 y1 hV0
            generalize grow (redrawn W0 dq) osq = w9 at *
            go_wp2
            go_roundw
            case rel => exact ⟨j + 1, x.prio, by omega, by go_num, rfl, by rw [HX.out]; simp, by omega, HB8.out⟩
            case measure => simp [intOf]; omega
    · obtain rfl : j = v.g.n := by omega
      have hlt' : ¬ ((v.g.n : Nat) : Int) < (v.g.n : Nat) := by omega
      have HE : Hid (R = true) := by
        have := HJ.out.1
        rw [List.drop_eq_nil_of_le (by rw [HS.out]; exact Nat.le_refl _), ringsW] at this
        exact this
      have HB9 : Hid (Below w.heap.size w wr) := HB.out.trans (HJ.out.2.2.mono HB.out.size)
      clear HJ
      go_wp2
      go_ret
      exact ⟨ret_bool' HE.out.symm, HB9.out⟩
end Go.Proofs.YthhckhifaolmkaaGreat

namespace Go.Proofs.YthhckhifaolmkaaGreat
open Go.RowKit Go.Shelf Go.Sort
set_option linter.unusedVariables false
set_option linter.unusedSimpArgs false

/-- the numbers of tables that came in -/
structure WfT (tb : Tb) : Prop where
  t : ∀ x ∈ tb.tasks, x.mask < 4294967296 ∧ x.auto < 4294967296
  k : ∀ x ∈ tb.ctrs, x.max < 4294967296 ∧ x.base < 4294967296 ∧ x.min < 4294967296
  a : ∀ x ∈ tb.als, x.ac.mask < 4294967296 ∧ x.auto < 4294967296 ∧ x.time < 4294967296 ∧ x.cycle < 4294967296
  s : ∀ x ∈ tb.msgs, x.init < 18446744073709551616 ∧ x.ac.mask < 4294967296
theorem calls_bel9 {P : Program} {f : Nat} {args : Array Value} {r : Value} {W : World} (h : Calls P f args W fun e w' => e = .returned r ∧ w' = W) : Calls P f args W fun e w' => e = .returned r ∧ Below W.heap.size W w' := h.mono (fun e w' h => ⟨h.1, by rw [h.2]; exact Below.refl _ _⟩)
end Go.Proofs.YthhckhifaolmkaaGreat

namespace Go.Proofs.YthhckhifaolmkaaGreat
open Go.RowKit Go.Shelf Go.Sort
set_option linter.unusedVariables false
set_option linter.unusedSimpArgs false

/-! ### sums of alarms' and messages' rows -/
set_option maxHeartbeats 8000000 in
set_option maxRecDepth 100000 in
theorem sum_alr (w : World) (s : Sl) (l : List AlR) (hl : ∀ W, Below w.heap.size w W → RowsAt W 7 alrP s l) (f : Nat) (caps : Array Value) (eg : ∀ args W, (callFunc f args).run Tryz.prog W = .ok (.enter f args) W) (p : AlR → Int)
    (hf : ∀ W, Below w.heap.size w W → ∀ x ∈ l, Calls Tryz.prog f (#[.agg #[I x.ctr, I x.ac.kind, I x.ac.task, .int .u32 (x.ac.mask : Int), .int .u32 (x.auto : Int), .int .u32 (x.time : Int), .int .u32 (x.cycle : Int)]] ++ caps) W fun e w' => e = .returned (I (p x)) ∧ Below W.heap.size W w') :
    Calls Tryz.prog 142 #[.slice s.a s.n s.c, .func (.func f) #[] caps] w fun e w' => e = .returned (I (IntKind.i64.wrap (sumZ p l))) ∧ Below w.heap.size w w' := by
  have h0 := hl w (Below.refl _ _)
  have HS : Hid (s.n = l.length) := h0.n
  have hsc : s.n ≤ s.c := h0.c
  have hsm : s.c ≤ maxLen := h0.m
  unfold maxLen at hsm
  have HH : Hid (∀ W, Below w.heap.size w W → RowsAt W 7 alrP s l) := hl
  have HFF : Hid (∀ W, Below w.heap.size w W → ∀ x ∈ l, Calls Tryz.prog f (#[.agg #[I x.ctr, I x.ac.kind, I x.ac.task, .int .u32 (x.ac.mask : Int), .int .u32 (x.auto : Int), .int .u32 (x.time : Int), .int .u32 (x.cycle : Int)]] ++ caps) W fun e w' => e = .returned (I (p x)) ∧ Below W.heap.size W w') := hf
  obtain ⟨R, hR⟩ : ∃ R, R = IntKind.i64.wrap (sumZ p l) := ⟨_, rfl⟩
  rw [← hR]
  have HR : Hid (R = IntKind.i64.wrap (sumZ p l)) := hR
  clear hl hR hf h0
  go_enter Tryz.func142, Tryz.ntmps142
  go_wp2
  go_loopw [5, 7, 10] (fun tv _ iv wr => ∃ (j : Nat) (t : Int), j ≤ s.n ∧ iv = .int .i64 j ∧ tv = .int .i64 t ∧ Hid (t = IntKind.i64.wrap (sumZ p (l.take j)) ∧ Below w.heap.size w wr)) (fun _ _ iv _ => s.n - (intOf iv).toNat)
  case atStart => exact ⟨0, 0, by omega, rfl, rfl, by simp [sumZ, IntKind.wrap_i64], Below.refl _ _⟩
  case round =>
    obtain ⟨j, t, hj, rfl, rfl, HJ⟩ := hrel
    by_cases hlt : j < s.n
    · have hlt' : (j : Int) < s.n := by omega
      obtain ⟨x, hx⟩ : ∃ x, l[j]? = some x := ⟨_, List.getElem?_eq_getElem (by rw [← HS.out]; exact hlt)⟩
      obtain ⟨g5, o5, e5, hg5, hr5⟩ := (HH.out _ HJ.out.2).row j x hx
      obtain ⟨u0, a0, q0⟩ := hr5 0 (by omega)
      obtain ⟨u1, a1, q1⟩ := hr5 1 (by omega)
      obtain ⟨u2, a2, q2⟩ := hr5 2 (by omega)
      obtain ⟨u3, a3, q3⟩ := hr5 3 (by omega)
      obtain ⟨u4, a4, q4⟩ := hr5 4 (by omega)
      obtain ⟨u5, a5, q5⟩ := hr5 5 (by omega)
      obtain ⟨u6, a6, q6⟩ := hr5 6 (by omega)
      have f0 : u0 = I x.ctr := q0
      have f1 : u1 = I x.ac.kind := q1
      have f2 : u2 = I x.ac.task := q2
      have f3 : u3 = .int .u32 (x.ac.mask : Int) := q3
      have f4 : u4 = .int .u32 (x.auto : Int) := q4
      have f5 : u5 = .int .u32 (x.time : Int) := q5
      have f6 : u6 = .int .u32 (x.cycle : Int) := q6
      subst f0 f1 f2 f3 f4 f5 f6
      rw [Nat.add_zero] at a0
      have HB : Hid (Below w.heap.size w (wr.alloc (.cells #[I x.ctr, I x.ac.kind, I x.ac.task, .int .u32 (x.ac.mask : Int), .int .u32 (x.auto : Int), .int .u32 (x.time : Int), .int .u32 (x.cycle : Int)] 99))) := HJ.out.2.trans ((below_alloc wr _).mono HJ.out.2.size)
      have cx := HFF.out _ HB.out x (List.mem_of_getElem? hx)
      have HA : Hid (IntKind.i64.wrap (t + p x) = IntKind.i64.wrap (sumZ p (l.take (j + 1)))) := by
        show _ = _
        rw [List.take_add_one, hx, Option.toList_some, sumZ_snoc, HJ.out.1]
        simp only [IntKind.wrap_i64]
        omega
      rw [e5]
      clear hx e5 HJ hr5 q0 q1 q2 q3 q4 q5 q6
      generalize p x = px at *
      go_wp2
      refine cx.mono ?_
      clear cx
      rintro e7 w7 ⟨rfl, hb7⟩
      have HB7 : Hid (Below w.heap.size w w7) := HB.out.trans (hb7.mono HB.out.size)
      clear hb7
      go_wp2
      go_roundw
      case rel => exact ⟨j + 1, IntKind.i64.wrap (t + px), by omega, by go_num, by simp [IntKind.wrap_i64, wrap64], HA.out, HB7.out⟩
      case measure => simp [intOf]; omega
    · obtain rfl : j = s.n := by omega
      have hlt' : ¬ ((s.n : Nat) : Int) < (s.n : Nat) := by omega
      have HE : Hid (t = R) := by
        show _ = _
        rw [HR.out, HJ.out.1, List.take_of_length_le (by rw [HS.out]; exact Nat.le_refl _)]
      have HB : Hid (Below w.heap.size w wr) := HJ.out.2
      clear HR HJ
      go_wp2
      go_ret
      exact ⟨ret_i HE.out, HB.out⟩
set_option maxHeartbeats 8000000 in
set_option maxRecDepth 100000 in
theorem sum_msr (w : World) (s : Sl) (l : List MsR) (hl : ∀ W, Below w.heap.size w W → RowsAt W 8 msrP s l) (f : Nat) (caps : Array Value) (eg : ∀ args W, (callFunc f args).run Tryz.prog W = .ok (.enter f args) W) (p : MsR → Int)
    (hf : ∀ W, Below w.heap.size w W → ∀ x ∈ l, Calls Tryz.prog f (#[.agg #[I x.kind, I x.len, I x.frm, .int .u64 (x.init : Int), I x.queue, I x.ac.kind, I x.ac.task, .int .u32 (x.ac.mask : Int)]] ++ caps) W fun e w' => e = .returned (I (p x)) ∧ Below W.heap.size W w') :
    Calls Tryz.prog 144 #[.slice s.a s.n s.c, .func (.func f) #[] caps] w fun e w' => e = .returned (I (IntKind.i64.wrap (sumZ p l))) ∧ Below w.heap.size w w' := by
  have h0 := hl w (Below.refl _ _)
  have HS : Hid (s.n = l.length) := h0.n
  have hsc : s.n ≤ s.c := h0.c
  have hsm : s.c ≤ maxLen := h0.m
  unfold maxLen at hsm
  have HH : Hid (∀ W, Below w.heap.size w W → RowsAt W 8 msrP s l) := hl
  have HFF : Hid (∀ W, Below w.heap.size w W → ∀ x ∈ l, Calls Tryz.prog f (#[.agg #[I x.kind, I x.len, I x.frm, .int .u64 (x.init : Int), I x.queue, I x.ac.kind, I x.ac.task, .int .u32 (x.ac.mask : Int)]] ++ caps) W fun e w' => e = .returned (I (p x)) ∧ Below W.heap.size W w') := hf
  obtain ⟨R, hR⟩ : ∃ R, R = IntKind.i64.wrap (sumZ p l) := ⟨_, rfl⟩
  rw [← hR]
  have HR : Hid (R = IntKind.i64.wrap (sumZ p l)) := hR
  clear hl hR hf h0
  go_enter Tryz.func144, Tryz.ntmps144
  go_wp2
  go_loopw [5, 7, 10] (fun tv _ iv wr => ∃ (j : Nat) (t : Int), j ≤ s.n ∧ iv = .int .i64 j ∧ tv = .int .i64 t ∧ Hid (t = IntKind.i64.wrap (sumZ p (l.take j)) ∧ Below w.heap.size w wr)) (fun _ _ iv _ => s.n - (intOf iv).toNat)
  case atStart => exact ⟨0, 0, by omega, rfl, rfl, by simp [sumZ, IntKind.wrap_i64], Below.refl _ _⟩
  case round =>
    obtain ⟨j, t, hj, rfl, rfl, HJ⟩ := hrel
    by_cases hlt : j < s.n
    · have hlt' : (j : Int) < s.n := by omega
      obtain ⟨x, hx⟩ : ∃ x, l[j]? = some x := ⟨_, List.getElem?_eq_getElem (by rw [← HS.out]; exact hlt)⟩
      obtain ⟨g5, o5, e5, hg5, hr5⟩ := (HH.out _ HJ.out.2).row j x hx
      obtain ⟨u0, a0, q0⟩ := hr5 0 (by omega)
      obtain ⟨u1, a1, q1⟩ := hr5 1 (by omega)
      obtain ⟨u2, a2, q2⟩ := hr5 2 (by omega)
      obtain ⟨u3, a3, q3⟩ := hr5 3 (by omega)
      obtain ⟨u4, a4, q4⟩ := hr5 4 (by omega)
      obtain ⟨u5, a5, q5⟩ := hr5 5 (by omega)
      obtain ⟨u6, a6, q6⟩ := hr5 6 (by omega)
      obtain ⟨u7, a7, q7⟩ := hr5 7 (by omega)
      have f0 : u0 = I x.kind := q0
      have f1 : u1 = I x.len := q1
      have f2 : u2 = I x.frm := q2
      have f3 : u3 = .int .u64 (x.init : Int) := q3
      have f4 : u4 = I x.queue := q4
      have f5 : u5 = I x.ac.kind := q5
      have f6 : u6 = I x.ac.task := q6
      have f7 : u7 = .int .u32 (x.ac.mask : Int) := q7
      subst f0 f1 f2 f3 f4 f5 f6 f7
      rw [Nat.add_zero] at a0
      have HB : Hid (Below w.heap.size w (wr.alloc (.cells #[I x.kind, I x.len, I x.frm, .int .u64 (x.init : Int), I x.queue, I x.ac.kind, I x.ac.task, .int .u32 (x.ac.mask : Int)] 184))) := HJ.out.2.trans ((below_alloc wr _).mono HJ.out.2.size)
      have cx := HFF.out _ HB.out x (List.mem_of_getElem? hx)
      have HA : Hid (IntKind.i64.wrap (t + p x) = IntKind.i64.wrap (sumZ p (l.take (j + 1)))) := by
        show _ = _
        rw [List.take_add_one, hx, Option.toList_some, sumZ_snoc, HJ.out.1]
        simp only [IntKind.wrap_i64]
        omega
      rw [e5]
      clear hx e5 HJ hr5 q0 q1 q2 q3 q4 q5 q6 q7
      generalize p x = px at *
      go_wp2
      refine cx.mono ?_
      clear cx
      rintro e7 w7 ⟨rfl, hb7⟩
      have HB7 : Hid (Below w.heap.size w w7) := HB.out.trans (hb7.mono HB.out.size)
      clear hb7
      go_wp2
      go_roundw
      case rel => exact ⟨j + 1, IntKind.i64.wrap (t + px), by omega, by go_num, by simp [IntKind.wrap_i64, wrap64], HA.out, HB7.out⟩
      case measure => simp [intOf]; omega
    · obtain rfl : j = s.n := by omega
      have hlt' : ¬ ((s.n : Nat) : Int) < (s.n : Nat) := by omega
      have HE : Hid (t = R) := by
        show _ = _
        rw [HR.out, HJ.out.1, List.take_of_length_le (by rw [HS.out]; exact Nat.le_refl _)]
      have HB : Hid (Below w.heap.size w wr) := HJ.out.2
      clear HR HJ
      go_wp2
      go_ret
      exact ⟨ret_i HE.out, HB.out⟩
set_option maxRecDepth 100000 in
theorem calls_any (a : AcR) (w : World) : Calls Tryz.prog 151 #[.agg #[I a.kind, I a.task, .int .u32 (a.mask : Int)]] w fun e w' => e = .returned (I (if a.kind = 3 then 1 else 0)) ∧ Below w.heap.size w w' := by
  have hb : ∀ o, Below w.heap.size w (w.alloc o) := fun o => below_alloc w o
  by_cases h : a.kind = 3
  · rw [if_pos h]
    have h1 : (a.kind == 3) = true := by simpa using h
    clear h
    go_enter Tryz.func151, Tryz.ntmps151
    go_wp2
    go_ret
    exact ⟨rfl, hb _⟩
  · rw [if_neg h]
    have h1 : (a.kind == 3) = false := by simpa using h
    clear h
    go_enter Tryz.func151, Tryz.ntmps151
    go_wp2
    go_ret
    exact ⟨rfl, hb _⟩
set_option maxRecDepth 100000 in
theorem callsAl_any (x : AlR) (w : World) : Calls Tryz.prog 143 #[.agg (alrC x)] w fun e w' => e = .returned (I (if x.ac.kind = 3 then 1 else 0)) ∧ Below w.heap.size w w' := by
  have hb : ∀ o, Below w.heap.size w (w.alloc o) := fun o => below_alloc w o
  have kc := fun W => calls_any x.ac W
  unfold alrC
  generalize (if x.ac.kind = 3 then (1 : Int) else 0) = rr at *
  go_enter Tryz.func143, Tryz.ntmps143
  go_wp2_with (go_at_call 151; refine (kc _).mono ?_; clear kc; rintro e w' ⟨rfl, hb2⟩)
  go_ret
  exact ⟨rfl, (hb _).trans (hb2.mono (hb _).size)⟩
set_option maxRecDepth 100000 in
theorem callsMs_any (x : MsR) (w : World) : Calls Tryz.prog 145 #[.agg (msrC x)] w fun e w' => e = .returned (I (if x.ac.kind = 3 then 1 else 0)) ∧ Below w.heap.size w w' := by
  have hb : ∀ o, Below w.heap.size w (w.alloc o) := fun o => below_alloc w o
  have kc := fun W => calls_any x.ac W
  unfold msrC
  generalize (if x.ac.kind = 3 then (1 : Int) else 0) = rr at *
  go_enter Tryz.func145, Tryz.ntmps145
  go_wp2_with (go_at_call 151; refine (kc _).mono ?_; clear kc; rintro e w' ⟨rfl, hb2⟩)
  go_ret
  exact ⟨rfl, (hb _).trans (hb2.mono (hb _).size)⟩
theorem counterOf_any (x : AlR) (w : World) : Calls Tryz.prog 137 #[.agg (alrC x)] w fun e w' => e = .returned (I x.ctr) ∧ Below w.heap.size w w' := by
  have hb : ∀ o, Below w.heap.size w (w.alloc o) := fun o => below_alloc w o
  unfold alrC
  go_enter Tryz.func137, Tryz.ntmps137
  go_wp2
  go_ret
  exact ⟨rfl, hb _⟩
theorem senderOf_any (x : MsR) (w : World) : Calls Tryz.prog 141 #[.agg (msrC x)] w fun e w' => e = .returned (I x.frm) ∧ Below w.heap.size w w' := by
  have hb : ∀ o, Below w.heap.size w (w.alloc o) := fun o => below_alloc w o
  unfold msrC
  go_enter Tryz.func141, Tryz.ntmps141
  go_wp2
  go_ret
  exact ⟨rfl, hb _⟩
theorem isReceived_any (x : MsR) (w : World) : Calls Tryz.prog 140 #[.agg (msrC x)] w fun e w' => e = .returned (.bool (x.kind != 1)) ∧ Below w.heap.size w w' := by
  have hb : ∀ o, Below w.heap.size w (w.alloc o) := fun o => below_alloc w o
  unfold msrC
  go_enter Tryz.func140, Tryz.ntmps140
  go_wp2
  go_ret
  exact ⟨rfl, hb _⟩
end Go.Proofs.YthhckhifaolmkaaGreat

namespace Go.Proofs.YthhckhifaolmkaaGreat
open Go.RowKit Go.Maps
set_option linter.unusedVariables false

theorem pigeon9 : ∀ (n : Nat) (f : Nat → Nat), (∀ k, k ≤ n → f k < n) → ∃ i j, i < j ∧ j ≤ n ∧ f i = f j
  | 0, f, h => absurd (h 0 (Nat.le_refl 0)) (Nat.not_lt_zero _)
  | n + 1, f, h => by
    by_cases hv : ∃ i, i ≤ n ∧ f i = f (n + 1)
    · obtain ⟨i, hi, e⟩ := hv
      exact ⟨i, n + 1, by omega, Nat.le_refl _, e⟩
    · have hne : ∀ i, i ≤ n → f i ≠ f (n + 1) := fun i hi e => hv ⟨i, hi, e⟩
      have hvl := h (n + 1) (Nat.le_refl _)
      obtain ⟨i, j, hij, hjn, e⟩ := pigeon9 n (fun k => if f k = n then f (n + 1) else f k) (fun k hk => by
        have h1 := h k (by omega)
        have h2 := hne k hk
        split <;> omega)
      have h1 := hne i (by omega)
      have h2 := hne j hjn
      refine ⟨i, j, hij, by omega, ?_⟩
      split at e <;> split at e <;> omega
theorem nodup9_len {l : List Nat} {n : Nat} (hd : l.Nodup) (hl : ∀ x ∈ l, x < n) : l.length ≤ n := by
  by_cases h : l.length ≤ n
  · exact h
  · exfalso
    obtain ⟨i, j, hij, hjn, e⟩ := pigeon9 n (fun k => l.getD k 0) (fun k hk => by
      have hk2 : k < l.length := by omega
      show l.getD k 0 < n
      rw [List.getD_eq_getElem?_getD, List.getElem?_eq_getElem hk2]
      exact hl _ (List.getElem_mem hk2))
    have hi2 : i < l.length := by omega
    have hj2 : j < l.length := by omega
    have e2 : l[i] = l[j] := by
      have e3 : l.getD i 0 = l.getD j 0 := e
      rw [List.getD_eq_getElem?_getD, List.getD_eq_getElem?_getD, List.getElem?_eq_getElem hi2, List.getElem?_eq_getElem hj2] at e3
      exact e3
    exact List.pairwise_iff_getElem.1 hd i j hi2 hj2 hij e2

/-! ### A map of numbers by numbers, as a list of its keys and a function -/
theorem keyI : Keyed Tryz.prog 3 := int_keyed Tryz.underlying3
theorem zeroI (w : World) : (zeroValue 3).run Tryz.prog w = .ok (.int .i64 0) w := by kernel_rfl
theorem wf_nat {j : Nat} (h : j < 9223372036854775808) : (Lit.int .i64 (j : Int)).wf = true := WalkArith.wf_i64 (by omega)
theorem own_tight {H : Type} {w : World} {P : Program} {k : TypeId} {R : Value → Option (DataW H × List MemPlace)} {b n : Nat} {D : DataW H} (h : w.ownsMap P k R b n D) : w.ownsMap P k R b (Maps.size D) D := by
  obtain ⟨es, clock, hb, F, hs, rfl⟩ := h
  refine ⟨es, clock, hb, F, ?_, rfl⟩
  rw [Maps.size_eq, length_sorted]
  simp
structure MapOf (w : World) (b n : Nat) (ks : List Nat) (f : Nat → Int) : Prop where
  nd : ks.Nodup
  lt : ∀ k ∈ ks, k < n
  ex : ∃ D : DataW Unit, w.ownsMap Tryz.prog 3 (plainElem Tryz.prog 3) b ks.length D ∧ Maps.size D = ks.length ∧ ∀ j : Nat, Maps.has D (.int .i64 j) = decide (j ∈ ks) ∧ D.atKey (.int .i64 j) (.lit (.int .i64 0)) = .lit (.int .i64 (if j ∈ ks then f j else 0))
theorem MapOf.made (w : World) (n : Nat) (f : Nat → Int) : MapOf (w.alloc (.map #[] 0)) w.heap.size n [] f :=
  ⟨List.nodup_nil, (fun k hk => by cases hk), .map [], World.ownsMap_made _ _ _ _, rfl, fun j => ⟨by simp [Maps.has], by simp [DataW.atKey]⟩⟩
theorem MapOf.block {w : World} {b n : Nat} {ks : List Nat} {f : Nat → Int} (h : MapOf w b n ks f) : b < w.heap.size := by
  obtain ⟨D, hD, _⟩ := h.ex
  exact hD.lt
theorem MapOf.kept {w w' : World} {b n : Nat} {ks : List Nat} {f : Nat → Int} {row : Option Nat} (h : MapOf w b n ks f) (hg : w.grownBy w' row) (hne : some b ≠ row) : MapOf w' b n ks f := by
  obtain ⟨D, hD, h2⟩ := h.ex
  exact ⟨h.nd, h.lt, D, hD.kept hg hne, h2⟩
theorem MapOf.below {w w' : World} {b n : Nat} {ks : List Nat} {f : Nat → Int} (h : MapOf w b n ks f) (hb : Below w.heap.size w w') : MapOf w' b n ks f := h.kept (grown_of_below (r := none) hb) (by simp)
theorem MapOf.congr {w : World} {b n : Nat} {ks : List Nat} {f g : Nat → Int} (h : MapOf w b n ks f) (e : ∀ k ∈ ks, f k = g k) : MapOf w b n ks g := by
  obtain ⟨D, hD, hs, h2⟩ := h.ex
  refine ⟨h.nd, h.lt, D, hD, hs, fun j => ⟨(h2 j).1, ?_⟩⟩
  rw [(h2 j).2]
  by_cases hj : j ∈ ks
  · rw [if_pos hj, if_pos hj, e j hj]
  · rw [if_neg hj, if_neg hj]
def insK (ks : List Nat) (j : Nat) : List Nat := if j ∈ ks then ks else j :: ks
theorem mem_insK {ks : List Nat} {j i : Nat} : i ∈ insK ks j ↔ i = j ∨ i ∈ ks := by
  unfold insK
  by_cases h : j ∈ ks
  · rw [if_pos h]
    constructor
    · exact .inr
    · rintro (rfl | h2)
      · exact h
      · exact h2
  · rw [if_neg h, List.mem_cons]
def mapF (f : Nat → Int) (j : Nat) (e : Int) (i : Nat) : Int := if i = j then e else f i
theorem MapOf.len {w : World} {b n : Nat} {ks : List Nat} {f : Nat → Int} (h : MapOf w b n ks f) : ks.length ≤ n := nodup9_len h.nd h.lt
section
variable {w : World} {ops : Array Oper} {rest : List Oper} {o : Oper} {a : Act} {Q : Exit → Act → World → Prop}
theorem wpList_find_ok (hg : o.guard = none) (m x : Operand) (t : TypeId) (hop : o.op = Op.lookup t m x true) (ht : Tryz.prog.underlying t = some (.map 3 3)) (b n : Nat) (ks : List Nat) (f : Nat → Int)
    (hm : a.eval m = .map (some b)) (h : MapOf w b n ks f) (j : Nat) (hj : j < 9223372036854775808) (hx : a.eval x = .int .i64 (j : Int))
    (hK : ∀ (e : Int) (mt : Bool), Hid (e = (if j ∈ ks then f j else 0) ∧ mt = decide (j ∈ ks)) → wpList Tryz.prog ops Q rest (a.put o.dst (.tuple #[.int .i64 e, .bool mt])) w) : wpList Tryz.prog ops Q (o :: rest) a w := by
  obtain ⟨D, hD, hs, h2⟩ := h.ex
  refine wpList_lookup_own_ok_int w hg m x t hop 3 3 .i64 keyI ht Tryz.underlying3 (zeroI w) b ks.length D hm hD _ (.int .i64 (j : Int)) hx (keyOf_int_mk Tryz.underlying3 (wf_nat hj)) (fun c hat _ => ?_)
  rw [(h2 j).2] at hat
  have hc : c = if j ∈ ks then f j else 0 := by cases hat; rfl
  rw [(h2 j).1]
  exact hK c _ ⟨hc, rfl⟩
theorem wpList_find_at (hg : o.guard = none) (m x : Operand) (t : TypeId) (hop : o.op = Op.lookup t m x false) (ht : Tryz.prog.underlying t = some (.map 3 3)) (b n : Nat) (ks : List Nat) (f : Nat → Int)
    (hm : a.eval m = .map (some b)) (h : MapOf w b n ks f) (j : Nat) (hj : j < 9223372036854775808) (hx : a.eval x = .int .i64 (j : Int))
    (hK : ∀ e : Int, Hid (e = if j ∈ ks then f j else 0) → wpList Tryz.prog ops Q rest (a.put o.dst (.int .i64 e)) w) : wpList Tryz.prog ops Q (o :: rest) a w := by
  obtain ⟨D, hD, hs, h2⟩ := h.ex
  refine wpList_lookup_own_int w hg m x t hop 3 3 .i64 keyI ht Tryz.underlying3 (zeroI w) b ks.length D hm hD _ (.int .i64 (j : Int)) hx (keyOf_int_mk Tryz.underlying3 (wf_nat hj)) (fun c hat _ => ?_)
  rw [(h2 j).2] at hat
  have hc : c = if j ∈ ks then f j else 0 := by cases hat; rfl
  exact hK c hc
theorem wpList_put_at (hg : o.guard = none) (m x u : Operand) (t : TypeId) (hop : o.op = Op.mapUpdate t m x u) (ht : Tryz.prog.underlying t = some (.map 3 3)) (b n : Nat) (ks : List Nat) (f : Nat → Int)
    (hm : a.eval m = .map (some b)) (h : MapOf w b n ks f) (hn : n ≤ 8796093022208) (j : Nat) (hj : j < n) (hx : a.eval x = .int .i64 (j : Int)) (e : Int) (he : (Lit.int .i64 e).wf = true) (hu : a.eval u = .int .i64 e)
    (hK : ∀ w', MapOf w' b n (insK ks j) (mapF f j e) → w.grownBy w' (some b) → wpList Tryz.prog ops Q rest (a.put o.dst undef) w') : wpList Tryz.prog ops Q (o :: rest) a w := by
  have hlen := h.len
  obtain ⟨D, hD, hs, h2⟩ := h.ex
  have hT := hD.tidy keyI
  have hkl : WideAt.IsKeyLit (.int .i64 (j : Int)) := trivial
  refine wpList_mapUpdate_own w hg m x u t hop 3 3 keyI ht _ b ks.length D hm hD (by unfold maxLen; omega) _ _ (.int .i64 (j : Int)) hx hu (keyOf_int_mk Tryz.underlying3 (wf_nat (by omega))) _ [] (plainElem_int Tryz.underlying3 he) (fun w' hown hgr => hK w' ?_ hgr)
  have hsz : Maps.size (D.put (.int .i64 (j : Int)) (.lit (.int .i64 e))) = (insK ks j).length := by
    rw [Maps.size_put hT, (h2 j).1, hs]
    unfold insK
    by_cases hm : j ∈ ks <;> simp [hm]
  refine ⟨?_, ?_, _, by rw [← hsz]; exact own_tight hown, hsz, fun i => ?_⟩
  · unfold insK
    by_cases hm : j ∈ ks
    · rw [if_pos hm]; exact h.nd
    · rw [if_neg hm]; exact List.nodup_cons.2 ⟨hm, h.nd⟩
  · intro k hk
    rcases mem_insK.1 hk with rfl | hk
    · exact hj
    · exact h.lt k hk
  · by_cases hij : i = j
    · subst hij
      refine ⟨by rw [Maps.has_put_same hT.isMap hkl]; simp [mem_insK], ?_⟩
      rw [Maps.atKey_put_same hT.isMap hkl, if_pos (mem_insK.2 (.inl rfl)), mapF, if_pos rfl]
    · have hne : (Lit.int .i64 (i : Int)) ≠ .int .i64 (j : Int) := fun e => by
        have : (i : Int) = j := by injection e
        omega
      refine ⟨by rw [Maps.has_put_other hne, (h2 i).1]; simp [mem_insK, hij], ?_⟩
      rw [Maps.atKey_put_other hne, (h2 i).2, mapF, if_neg hij]
      by_cases hi : i ∈ ks
      · rw [if_pos hi, if_pos (mem_insK.2 (.inr hi))]
      · rw [if_neg hi, if_neg (fun h => (mem_insK.1 h).elim hij hi)]
end

/-! ### How many are at one place -/
theorem crowd_snoc (l : List Int) (a : Int) : crowdL (l ++ [a]) = max (crowdL l) (l.count a + 1) := by
  have hc : ∀ k, (l ++ [a]).count k = l.count k + (if k = a then 1 else 0) := fun k => by
    rw [List.count_append, List.count_singleton]
    by_cases h : k = a
    · simp [h]
    · have : ¬ a = k := fun e => h e.symm
      simp [h, this]
  apply Nat.le_antisymm
  · refine maxL_le.2 (fun x hx => ?_)
    obtain ⟨k, hk, rfl⟩ := List.mem_map.1 hx
    rw [hc]
    by_cases h : k = a
    · rw [if_pos h, h]; exact Nat.le_max_right _ _
    · rw [if_neg h]
      have hkl : k ∈ l := by
        rcases List.mem_append.1 hk with h1 | h1
        · exact h1
        · exact absurd (by simpa using h1) h
      have : l.count k ≤ crowdL l := maxL_le.1 (Nat.le_refl _) _ (List.mem_map.2 ⟨k, hkl, rfl⟩)
      omega
  · refine Nat.max_le.2 ⟨?_, ?_⟩
    · refine maxL_le.2 (fun x hx => ?_)
      obtain ⟨k, hk, rfl⟩ := List.mem_map.1 hx
      have : (l ++ [a]).count k ≤ crowdL (l ++ [a]) := maxL_le.1 (Nat.le_refl _) _ (List.mem_map.2 ⟨k, by simp [hk], rfl⟩)
      rw [hc] at this
      omega
    · have : (l ++ [a]).count a ≤ crowdL (l ++ [a]) := maxL_le.1 (Nat.le_refl _) _ (List.mem_map.2 ⟨a, by simp, rfl⟩)
      rw [hc, if_pos rfl] at this
      exact this
theorem crowd_le (l : List Int) : crowdL l ≤ l.length := by
  refine maxL_le.2 (fun x hx => ?_)
  obtain ⟨k, hk, rfl⟩ := List.mem_map.1 hx
  exact List.count_le_length
end Go.Proofs.YthhckhifaolmkaaGreat

