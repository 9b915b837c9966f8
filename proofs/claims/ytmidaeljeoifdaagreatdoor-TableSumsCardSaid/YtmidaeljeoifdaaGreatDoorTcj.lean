import Derived.Test.YtmidaeljeoifdaaGreatDoorTci
import Derived.Lib.QuietBelow
import Derived.Deep.Cut
namespace Go.Proofs.YtmidaeljeoifdaaGreatDoor
set_option maxRecDepth 100000
set_option maxHeartbeats 16000000
open Go.RowKit Go.Shelf Go.Sort
set_option linter.unusedVariables false
set_option linter.unusedSimpArgs false
theorem wpQuiet_load_row9 {P : Program} {ops : Array Oper} {C : World → Prop} {Q : Act → Prop} {a : Act} {o : Oper} {rest : List Oper} (hgd : Region.wanted o (yielded ops a.tmps) = true) (ty : TypeId) (x : Operand) (ho : o.op = .load ty x)
  (g : Nat) (hx : a.eval x = .pointer (some ⟨g, 0, none⟩)) (t : TypeId) (cs : Array Value) (fr : Nat × Nat) (d : TypeDesc) (hg : ∀ w, C w → w.heap[g]? = some (.cells cs t fr))
  (hu : P.underlying ty = some d) (hd : (match d with | .struct _ | .array _ _ => true | _ => false) = true) (hi : (P.info? ty).map (·.size) = some cs.size)
  (h : wpQuiet P ops C Q rest (a.put o.dst (.agg cs))) : wpQuiet P ops C Q (o :: rest) a := by
 unfold wpQuiet
 rw [if_pos hgd]
 refine ⟨.agg cs, fun w hw => ?_, h⟩
 unfold Oper.quietAt execOp
 simp only [ho, hx, Instr.loadAt, Instr.sureAddr, Sem.run_bind, Sem.run_pure, Result.andThen_ok, run_loadVar_row w g t ty cs fr d (hg w hw) hu hd hi]
 exact ⟨rfl, rfl⟩
theorem heap_regrown9 {w : World} {g : Nat} {o : Obj} (h : w.heap[g]? = some o) : ∀ w', (∃ p : Regrown, w' = grow (redrawn w p.d) p.os) → w'.heap[g]? = some o := by
 rintro w' ⟨p, rfl⟩
 exact ((below_regrown w p.d p.os).block g (heap_lt h)).trans h
theorem regrown_bel9 {P : Program} {f : Nat} {args : Array Value} {W0 : World} {r : Value} (h : ∀ W, Below W0.heap.size W0 W → Calls P f args W fun e w' => e = .returned r ∧ Below W.heap.size W w') (d : Nat) (os : Array Obj) : Calls P f args (grow (redrawn W0 d) os) fun e w'' => e = .returned r ∧ ∃ p : Regrown, w'' = grow (redrawn W0 p.d) p.os :=
 Calls.regrown_of (h _ (below_regrown W0 d os))
theorem ringsFit_any (tb : Tb) (v : Ts) (w : World) (h : TbAt w tb v) : Calls Tryz.prog 19 #[.agg (tbC tb v)] w fun e w' => e = .returned (.bool (ringsW tb.tasks 64 tb.rings)) ∧ Below w.heap.size w w' := by
 have hV := heap_alloc_new w (.cells (tbC tb v) 30)
 have HB : Hid (Below w.heap.size w (w.alloc (.cells (tbC tb v) 30))) := below_alloc w _
 have HT : Hid (TbAt (w.alloc (.cells (tbC tb v) 30)) tb v) := h.below HB.out
 have HVV : Hid ((w.alloc (.cells (tbC tb v) 30)).heap[w.heap.size]? = some (.cells (tbC tb v) 30)) := hV
 obtain ⟨c0, c1, c2, c3, c4, c5, c6, c7, c8, c9, c10, c11, c12⟩ := var13 hV
 have HS : Hid (v.g.n = tb.rings.length) := h.g.n
 have hsc : v.g.n ≤ v.g.c := h.g.c
 have hsm : v.g.c ≤ maxLen := h.g.m
 unfold maxLen at hsm
 have hi30 : (Tryz.prog.info? 30).map (·.size) = some (tbC tb v).size := by kernel_rfl
 obtain ⟨R, hR⟩ : ∃ R, R = ringsW tb.tasks 64 tb.rings := ⟨_, rfl⟩
 rw [← hR]
 have HR : Hid (R = ringsW tb.tasks 64 (tb.rings.drop 0)) := hR
 clear hR h hV c0 c1 c2 c4 c5 c6 c7 c8 c9 c10 c11 c12
 go_enter Tryz.func19, Tryz.ntmps19
 unfold tbC at *
 generalize hW : w.alloc (.cells #[I tb.uses, I tb.modes, .slice v.t.a v.t.n v.t.c, .slice v.g.a v.g.n v.g.c, .slice v.r.a v.r.n v.r.c, .slice v.k.a v.k.n v.k.c, .slice v.a.a v.a.n v.a.c, .slice v.i.a v.i.n v.i.c, .slice v.s.a v.s.n v.s.c, I tb.depth, I tb.frames, I tb.errors, I tb.calls] 30) = W1 at *
 go_upto_region 1 with fail
 clear hW
 go_wp2
 go_loopw [3, 5, 9] (fun av _ iv wr => ∃ (j : Nat) (a : Int), j ≤ v.g.n ∧ iv = .int .i64 j ∧ av = I a ∧ Hid (R = ringsW tb.tasks a (tb.rings.drop j) ∧ (0 ≤ a ∧ a ≤ 64) ∧ Below W1.heap.size W1 wr)) (fun _ _ iv _ => v.g.n - (intOf iv).toNat)
 case atStart => exact ⟨0, 64, by omega, rfl, rfl, HR.out, by omega, Below.refl _ _⟩
 case round =>
  clear HR
  obtain ⟨j, a, hj, rfl, rfl, HJ⟩ := hrel
  by_cases hlt : j < v.g.n
  ·have hlt' : (j : Int) < v.g.n := by omega
   obtain ⟨x, hx⟩ : ∃ x, tb.rings[j]? = some x := ⟨_, List.getElem?_eq_getElem (by rw [← HS.out]; exact hlt)⟩
   obtain ⟨g5, o5, e5, hg5, x0, x1⟩ := rgr_at (HT.out.below HJ.out.2.2) hx
   have ha := HJ.out.2.1
   have HX : Hid (R = (inI x.prio 0 (a - 1) && tb.tasks.any (fun y => y.prio == x.prio) && (x.cap == IntKind.i64.wrap (capN tb.tasks x.prio)) && ringsW tb.tasks x.prio (tb.rings.drop (j + 1)))) := by
    have h9 := HJ.out.1
    rw [drop_at hx, ringsW] at h9
    exact h9
   rw [e5]
   clear hx e5
   have b0 := HJ.out.2.2
   clear HJ
   go_upto_region 5 with fail
   have bX : Below W1.heap.size W1 (wr.alloc (.cells #[I x.prio, I x.cap] 52)) := b0.trans ((below_alloc wr _).mono b0.size)
   have y0 : (wr.alloc (.cells #[I x.prio, I x.cap] 52)).cell? ⟨wr.heap.size, 0, none⟩ = some (I x.prio) := by rw [cell_of_row _ _ _ _ _ (0, 0) (heap_alloc_new wr _)]; rfl
   have y1 : (wr.alloc (.cells #[I x.prio, I x.cap] 52)).cell? ⟨wr.heap.size, 1, none⟩ = some (I x.cap) := by rw [cell_of_row _ _ _ _ _ (0, 0) (heap_alloc_new wr _)]; rfl
   have hV0 : (wr.alloc (.cells #[I x.prio, I x.cap] 52)).heap[w.heap.size]? = some (.cells #[I tb.uses, I tb.modes, .slice v.t.a v.t.n v.t.c, .slice v.g.a v.g.n v.g.c, .slice v.r.a v.r.n v.r.c, .slice v.k.a v.k.n v.k.c, .slice v.a.a v.a.n v.a.c, .slice v.i.a v.i.n v.i.c, .slice v.s.a v.s.n v.s.c, I tb.depth, I tb.frames, I tb.errors, I tb.calls] 30) := (bX.block w.heap.size (heap_lt HVV.out)).trans HVV.out
   have hT0 := HT.out.below bX
   clear b0 x0 x1
   generalize wr.heap.size = X at *
   generalize (wr.alloc (.cells #[I x.prio, I x.cap] 52)) = W0 at *
   have cW : ∀ d os, Calls Tryz.prog 46 #[I x.prio, I 0, I (a - 1)] (grow (redrawn W0 d) os) fun e w'' => e = .returned (.bool (inI x.prio 0 (a - 1))) ∧ ∃ p : Regrown, w'' = grow (redrawn W0 p.d) p.os := fun d os => regrown_bel9 (fun W hW => (withinI_any x.prio 0 (a - 1) W).mono (fun e w' h => ⟨h.1, by rw [h.2]; exact Below.refl _ _⟩)) d os
   have cH : ∀ d os, Calls Tryz.prog 49 #[.agg #[I tb.uses, I tb.modes, .slice v.t.a v.t.n v.t.c, .slice v.g.a v.g.n v.g.c, .slice v.r.a v.r.n v.r.c, .slice v.k.a v.k.n v.k.c, .slice v.a.a v.a.n v.a.c, .slice v.i.a v.i.n v.i.c, .slice v.s.a v.s.n v.s.c, I tb.depth, I tb.frames, I tb.errors, I tb.calls], I x.prio] (grow (redrawn W0 d) os) fun e w'' => e = .returned (.bool (tb.tasks.any (fun y => y.prio == x.prio))) ∧ ∃ p : Regrown, w'' = grow (redrawn W0 p.d) p.os := fun d os => regrown_bel9 (fun W hW => hasTask_any tb v W (hT0.below hW) x.prio) d os
   have cC : ∀ d os, Calls Tryz.prog 50 #[.slice v.t.a v.t.n v.t.c, I x.prio] (grow (redrawn W0 d) os) fun e w'' => e = .returned (I (IntKind.i64.wrap (capN tb.tasks x.prio))) ∧ ∃ p : Regrown, w'' = grow (redrawn W0 p.d) p.os := fun d os => regrown_bel9 (fun W hW => capacity_any W v.t tb.tasks (fun W2 hW2 => ((hT0.below hW).below hW2).t) x.prio) d os
   have z0 := cell_regrown y0
   have z1 := cell_regrown y1
   have z2 := cell_regrown (var13 hV0).2.2.1
   have hR0 := heap_regrown9 hV0
   have HB0 : Hid (Below w.heap.size w W0) := HB.out.trans (bX.mono HB.out.size)
   have HBX : Hid (Below W1.heap.size W1 W0) := bX
   clear hT0 bX
   cases b1 : inI x.prio 0 (a - 1) with
   | false =>
    rw [b1] at cW HX
    refine wp_region_quiet_below (by kernel_rfl) (by kernel_rfl) ?_
    repeat (go_big_quiet_step (first | exact cW _ _))
    refine wpQuiet_nil ?_
    rintro _ ⟨⟨dq, osq⟩, rfl⟩
    dsimp only
    have HB9 : Hid (Below w.heap.size w (grow (redrawn W0 dq) osq)) := HB0.out.trans ((below_regrown W0 dq osq).mono HB0.out.size)
    have HB8 : Hid (Below W1.heap.size W1 (grow (redrawn W0 dq) osq)) := HBX.out.trans ((below_regrown W0 dq osq).mono HBX.out.size)
    have r0 := z0 dq osq
    clear cW cH cC hR0 z0 z1 z2 y0 y1 hV0
    generalize grow (redrawn W0 dq) osq = w9 at *
    go_wp2
    go_ret
    exact ⟨ret_bool' (by rw [HX.out]; simp), HB9.out⟩
   | true =>
    rw [b1] at cW HX
    have hp : 0 ≤ x.prio ∧ x.prio ≤ 63 := by unfold inI at b1; simp at b1; omega
    cases b2 : tb.tasks.any (fun y => y.prio == x.prio) with
    | false =>
     rw [b2] at cH HX
     refine wp_region_quiet_below (by kernel_rfl) (by kernel_rfl) ?_
     repeat (first | (go_big_quiet_step (first | exact cW _ _ | exact cH _ _)) | (refine wpQuiet_load_row9 (by kernel_rfl) 30 _ rfl w.heap.size rfl 30 _ (0, 0) _ hR0 Tryz.underlying30 rfl hi30 ?_; simp only [Act.put, List.getElem_toArray, List.getElem_cons_succ, List.getElem_cons_zero, List.setIfInBounds_toArray, List.set_cons_zero, List.set_cons_succ]))
     refine wpQuiet_nil ?_
     rintro _ ⟨⟨dq, osq⟩, rfl⟩
     dsimp only
     have HB9 : Hid (Below w.heap.size w (grow (redrawn W0 dq) osq)) := HB0.out.trans ((below_regrown W0 dq osq).mono HB0.out.size)
     have HB8 : Hid (Below W1.heap.size W1 (grow (redrawn W0 dq) osq)) := HBX.out.trans ((below_regrown W0 dq osq).mono HBX.out.size)
     have r0 := z0 dq osq
     clear cW cH cC hR0 z0 z1 z2 y0 y1 hV0
     generalize grow (redrawn W0 dq) osq = w9 at *
     go_wp2
     go_ret
     exact ⟨ret_bool' (by rw [HX.out]; simp), HB9.out⟩
    | true =>
     rw [b2] at cH HX
     cases b3 : (x.cap == IntKind.i64.wrap (capN tb.tasks x.prio)) with
     | false =>
      rw [b3] at HX
      generalize IntKind.i64.wrap (capN tb.tasks x.prio) = cc at *
      refine wp_region_quiet_below (by kernel_rfl) (by kernel_rfl) ?_
      repeat (first | (go_big_quiet_step (first | exact cW _ _ | exact cH _ _ | exact cC _ _)) | (refine wpQuiet_load_row9 (by kernel_rfl) 30 _ rfl w.heap.size rfl 30 _ (0, 0) _ hR0 Tryz.underlying30 rfl hi30 ?_; simp only [Act.put, List.getElem_toArray, List.getElem_cons_succ, List.getElem_cons_zero, List.setIfInBounds_toArray, List.set_cons_zero, List.set_cons_succ]))
      refine wpQuiet_nil ?_
      rintro _ ⟨⟨dq, osq⟩, rfl⟩
      dsimp only
      have HB9 : Hid (Below w.heap.size w (grow (redrawn W0 dq) osq)) := HB0.out.trans ((below_regrown W0 dq osq).mono HB0.out.size)
      have HB8 : Hid (Below W1.heap.size W1 (grow (redrawn W0 dq) osq)) := HBX.out.trans ((below_regrown W0 dq osq).mono HBX.out.size)
      have r0 := z0 dq osq
      clear cW cH cC hR0 z0 z1 z2 y0 y1 hV0
      generalize grow (redrawn W0 dq) osq = w9 at *
      go_wp2
      go_ret
      exact ⟨ret_bool' (by rw [HX.out]; simp), HB9.out⟩
     | true =>
      rw [b3] at HX
      generalize IntKind.i64.wrap (capN tb.tasks x.prio) = cc at *
      refine wp_region_quiet_below (by kernel_rfl) (by kernel_rfl) ?_
      repeat (first | (go_big_quiet_step (first | exact cW _ _ | exact cH _ _ | exact cC _ _)) | (refine wpQuiet_load_row9 (by kernel_rfl) 30 _ rfl w.heap.size rfl 30 _ (0, 0) _ hR0 Tryz.underlying30 rfl hi30 ?_; simp only [Act.put, List.getElem_toArray, List.getElem_cons_succ, List.getElem_cons_zero, List.setIfInBounds_toArray, List.set_cons_zero, List.set_cons_succ]))
      refine wpQuiet_nil ?_
      rintro _ ⟨⟨dq, osq⟩, rfl⟩
      dsimp only
      have HB9 : Hid (Below w.heap.size w (grow (redrawn W0 dq) osq)) := HB0.out.trans ((below_regrown W0 dq osq).mono HB0.out.size)
      have HB8 : Hid (Below W1.heap.size W1 (grow (redrawn W0 dq) osq)) := HBX.out.trans ((below_regrown W0 dq osq).mono HBX.out.size)
      have r0 := z0 dq osq
      clear cW cH cC hR0 z0 z1 z2 y0 y1 hV0
      generalize grow (redrawn W0 dq) osq = w9 at *
      go_wp2
      go_roundw
      case rel => exact ⟨j + 1, x.prio, by omega, by go_num, rfl, by rw [HX.out]; simp, by omega, HB8.out⟩
      case measure => simp [intOf]; omega
  ·obtain rfl : j = v.g.n := by omega
   have hlt' : ¬ ((v.g.n : Nat) : Int) < (v.g.n : Nat) := by omega
   have HE : Hid (R = true) := by
    have := HJ.out.1
    rw [List.drop_eq_nil_of_le (by rw [HS.out]; exact Nat.le_refl _), ringsW] at this
    exact this
   have HB9 : Hid (Below w.heap.size w wr) := HB.out.trans (HJ.out.2.2.mono HB.out.size)
   clear HJ
   go_wp2
   go_ret
   exact ⟨ret_bool' HE.out.symm, HB9.out⟩
end Go.Proofs.YtmidaeljeoifdaaGreatDoor
