import Derived.Test.YtglnfifdjlgbcaaGreatDoorRows
import Derived.Test.YtglnfifdjlgbcaaGreatDoorXDb
import Derived.ProofKit
import Derived.OpenShut
import Derived.LaidMore
import Derived.LaidSub
import Derived.Stop.Joined
import Derived.Lib.LaidTab
namespace Go.Proofs.YtglnfifdjlgbcaaGreatDoor.Tk
open Go.ChangeShapes Go.WideShapes Go.ChangeAt Go.RowKit
set_option linter.unusedVariables false
set_option maxRecDepth 100000

/-! ### The table of moves, as it is laid -/
abbrev laid1 : List (String × DataW Unit) := Rows.coreOrderRow.laid
section
variable {H : Type} {enc : TypeId × Value → H} {w : World} {spare : Nat → Bool} {held : Bool} {fuel : Nat} {cs : List Value}
theorem two_cells {a b : Int} {ps : List MemPlace} (h : DataW.trod enc Tryz.prog w 0 spare held fuel 295 cs = some (.agg [.lit (.int .i64 a), .lit (.int .i64 b)], ps)) : cs = [I a, I b] := by
  obtain ⟨xs, m, hm, hx, hl, hn, he⟩ := DataW.trod_array Tryz.underlying295 h
  rw [show Tryz.prog.cellsOf 64 = 1 by kernel_rfl] at he
  rw [show Tryz.prog.cellsOf 295 = 2 by kernel_rfl] at hl
  obtain ⟨x0, x1, rfl⟩ : ∃ x0 x1, xs = [x0, x1] := by
    match xs, hn with
    | [x0, x1], _ => exact ⟨x0, x1, rfl⟩
  obtain ⟨c0, c1, rfl⟩ : ∃ c0 c1, cs = [c0, c1] := by
    match cs, hl with
    | [c0, c1], _ => exact ⟨c0, c1, rfl⟩
  have e0 := he 0 (by omega)
  have e1 := he 1 (by omega)
  simp at e0 e1
  obtain ⟨n0, q0, r0, _⟩ := DataW.trod_int Tryz.underlying64 e0
  obtain ⟨n1, q1, r1, _⟩ := DataW.trod_int Tryz.underlying64 e1
  subst r0 r1
  simp at q0 q1 hx
  obtain ⟨⟨rfl, rfl⟩, _⟩ := hx
  rw [q0, q1]
theorem rule_cells {a b : Int} {c : Bool} {ps : List MemPlace} (h : DataW.trod enc Tryz.prog w 0 spare held fuel 297 cs = some (.agg [.agg [.lit (.int .i64 a), .lit (.int .i64 b)], .lit (.bool c)], ps)) : cs = [I a, I b, .bool c] := by
  obtain ⟨xs, m, hm, hx, hl, hn, he⟩ := DataW.trod_struct Tryz.underlying297 h
  rw [show Tryz.prog.cellsOf 297 = 3 by kernel_rfl] at hl
  obtain ⟨x0, x1, rfl⟩ : ∃ x0 x1, xs = [x0, x1] := by
    match xs, hn with
    | [x0, x1], _ => exact ⟨x0, x1, rfl⟩
  obtain ⟨c0, c1, c2, rfl⟩ : ∃ c0 c1 c2, cs = [c0, c1, c2] := by
    match cs, hl with
    | [c0, c1, c2], _ => exact ⟨c0, c1, c2, rfl⟩
  have e0 : DataW.trod enc Tryz.prog w 0 spare held m 295 (([c0, c1, c2].drop 0).take (Tryz.prog.cellsOf 295)) = [x0, x1][0]? := he 0 _ rfl
  have e1 : DataW.trod enc Tryz.prog w 0 spare held m 4 (([c0, c1, c2].drop 2).take (Tryz.prog.cellsOf 4)) = [x0, x1][1]? := he 1 _ rfl
  rw [show Tryz.prog.cellsOf 295 = 2 by kernel_rfl] at e0
  rw [show Tryz.prog.cellsOf 4 = 1 by kernel_rfl] at e1
  simp at e0 e1 hx
  obtain ⟨⟨h0, h1⟩, _⟩ := hx
  obtain ⟨d0, p0⟩ := x0
  obtain ⟨d1, p1⟩ := x1
  simp only at h0 h1
  subst h0 h1
  obtain ⟨bb, q1, r1⟩ := DataW.trod_bool Tryz.underlying4 e1
  have q0 := two_cells e0
  simp at q0 q1 r1
  obtain ⟨rfl, rfl⟩ := q0
  obtain ⟨rfl, _⟩ := r1
  rw [q1]
theorem rules_cells {ps : List MemPlace} (h : DataW.trod enc Tryz.prog w 0 spare held fuel 298 cs = some (Rows.laid_tappet_task_rules, ps)) : cs = rulC.toList := by
  obtain ⟨xs, m, hm, hx, hl, hn, he⟩ := DataW.trod_array Tryz.underlying298 h
  rw [show Tryz.prog.cellsOf 297 = 3 by kernel_rfl] at he
  rw [show Tryz.prog.cellsOf 298 = 18 by kernel_rfl] at hl
  obtain ⟨⟨d0, p0⟩, ⟨d1, p1⟩, ⟨d2, p2⟩, ⟨d3, p3⟩, ⟨d4, p4⟩, ⟨d5, p5⟩, rfl⟩ : ∃ x0 x1 x2 x3 x4 x5, xs = [x0, x1, x2, x3, x4, x5] := by
    match xs, hn with
    | [x0, x1, x2, x3, x4, x5], _ => exact ⟨x0, x1, x2, x3, x4, x5, rfl⟩
  unfold Rows.laid_tappet_task_rules at hx
  simp only [List.map_cons, List.map_nil, Prod.mk.injEq, DataW.agg.injEq, List.cons.injEq, and_true] at hx
  obtain ⟨⟨rfl, rfl, rfl, rfl, rfl, rfl⟩, _⟩ := hx
  have e0 := rule_cells (he 0 (by omega))
  have e1 := rule_cells (he 1 (by omega))
  have e2 := rule_cells (he 2 (by omega))
  have e3 := rule_cells (he 3 (by omega))
  have e4 := rule_cells (he 4 (by omega))
  have e5 := rule_cells (he 5 (by omega))
  have hsplit : ∀ (n : Nat), cs.drop (n * 3) = (cs.drop (n * 3)).take 3 ++ cs.drop ((n + 1) * 3) := fun n => by
    conv => lhs; rw [← List.take_append_drop 3 (cs.drop (n * 3))]
    rw [List.drop_drop, show n * 3 + 3 = (n + 1) * 3 by omega]
  have h6 : cs.drop (6 * 3) = [] := List.drop_eq_nil_of_le (by omega)
  have z0 := hsplit 0
  have z1 := hsplit 1
  have z2 := hsplit 2
  have z3 := hsplit 3
  have z4 := hsplit 4
  have z5 := hsplit 5
  rw [e5, show (5 + 1) * 3 = 6 * 3 by rfl, h6] at z5
  rw [e4, show (4 + 1) * 3 = 5 * 3 by rfl, z5] at z4
  rw [e3, show (3 + 1) * 3 = 4 * 3 by rfl, z4] at z3
  rw [e2, show (2 + 1) * 3 = 3 * 3 by rfl, z3] at z2
  rw [e1, show (1 + 1) * 3 = 2 * 3 by rfl, z2] at z1
  rw [e0, show (0 + 1) * 3 = 1 * 3 by rfl, z1, Nat.zero_mul, List.drop_zero] at z0
  exact z0
end
theorem gRul : Tryz.prog.globalNamed "tappet/task.rules" = some 0 ∧ (Tryz.prog.globals[0]?).map (·.type) = some 298 := by
  refine ⟨?_, ?_⟩ <;> kernel_rfl
theorem env_of {W : World} (h : laidMetH Tryz.prog laid1 W) : EnvR W := by
  have e : laid1 = [("tappet/task.rules", Rows.laid_tappet_task_rules)] := rfl
  rw [e, MakeChecks.laidMetH_plain _ _ _ (by rfl)] at h
  obtain ⟨ps, ⟨g', t', cs, fuel, p, q, hg', ht', hvar, hd, _, _⟩, _⟩ := h
  obtain rfl := Option.some.inj (gRul.1.symm.trans hg')
  obtain rfl := Option.some.inj (gRul.2.symm.trans ht')
  have hc := rules_cells hd
  unfold World.var? at hvar
  rw [gRul.1] at hvar
  simp only [Option.bind_some] at hvar
  split at hvar
  · rename_i cs' t'' fr hq
    refine ⟨t'', fr, ?_⟩
    rw [hq]
    have : cs' = rulC := by
      have := Option.some.inj hvar
      rw [this]
      exact Array.toList_inj.1 hc
    rw [this]
  · cases hvar
theorem door_met (os : Os) (args : Array Value) : laidMetH Tryz.prog laid1 ((World.doorLaid Tryz.prog 400 os).forCall (fun _ _ => 0) ⟨#[], args, []⟩).memory :=
  laidMetH_of_parts3 (fuel := 8) (laidMet_of_run' 8 (by kernel_rfl) (by kernel_rfl)) (by kernel_rfl) (by kernel_rfl)
theorem own : ownKnob Tryz.prog.godebug = none := by kernel_rfl
theorem laidOut : laidOutB Tryz.prog = true := by kernel_rfl
end Go.Proofs.YtglnfifdjlgbcaaGreatDoor.Tk
