import Derived.Test.YtnmknnkpkkefoaaGreatDoorFau
namespace Go.Proofs.YtnmknnkpkkefoaaGreatDoor
open Go.RowKit
set_option linter.unusedVariables false
structure VarG (w : World) (b : Nat) : Prop where
  y0 : w.cell? ⟨b, 0, none⟩ = some (.int .i64 0)
  y1 : w.cell? ⟨b, 1, none⟩ = some (.int .i64 0)
  y2 : w.cell? ⟨b, 2, none⟩ = some (.int .i64 0)
  y3 : w.cell? ⟨b, 3, none⟩ = some (.int .i64 0)
  y4 : w.cell? ⟨b, 4, none⟩ = some (.string ⟨#[]⟩)
  fz : ∀ i, w.frozen? ⟨b, i, none⟩ = false
theorem varG {w : World} {b : Nat} (h : w.heap[b]? = some (.cells zero5 27 (0, 0))) : VarG w b := by
  have a1 := fun i => cell_of_row w b i _ _ (0, 0) h
  exact ⟨a1 0, a1 1, a1 2, a1 3, a1 4, fun i => frozen_of_row w b i _ _ h⟩
theorem fault_nil (w : World) :
    Calls Tryz.prog 9 #[.nilIface] w fun e w' => e = .returned (.agg #[.int .i64 0, .int .i64 0, .int .i64 0, .int .i64 0, .string ⟨#[]⟩]) ∧ Below w.heap.size w w' := by
  go_enter Tryz.func9, Tryz.ntmps9
  go_wp2_with (go_at_call 19; refine (as_nil_at _).mono ?_; rintro e w1 ⟨rfl, hb1, hv1⟩; obtain ⟨y0, y1, y2, y3, y4, fz⟩ := varG hv1)
  exact fin_flt Tryz.results9 w w1 _ _ _ _ _ _ hv1 hb1 rfl
theorem set5_cell (w : World) (b : Nat) (v0 v1 v2 v3 v4 : Value) (g i : Nat) (h : g ≠ b) : (set5 w b v0 v1 v2 v3 v4).cell? ⟨g, i, none⟩ = w.cell? ⟨g, i, none⟩ := by
  unfold set5
  rw [cell_set_other _ _ _ _ _ _ h, cell_set_other _ _ _ _ _ _ h, cell_set_other _ _ _ _ _ _ h, cell_set_other _ _ _ _ _ _ h, cell_set_other _ _ _ _ _ _ h]
theorem ErrAt.below {B : Nat} {w w' : World} {q : Nat} {v : Value} {t : List UInt8} {a : Nat} (h : ErrAt w q v t a) (hb : Below B w w') (hq : q < B) : ErrAt w' q v t a := (hb.block q hq).trans h
set_option maxHeartbeats 2000000 in
set_option maxRecDepth 100000 in
theorem fault_err {B : Nat} {p : Nat → Addr} {w : World} {q c : Nat} {t : List UInt8} {a : Nat} (hE : Env B p w) (hF : EnvF B p w) (hc : 20 ≤ c ∧ c ≤ 24)
    (hErr : ErrAt w q (.iface 192 (.pointer (some (p c)))) t a) :
    Calls Tryz.prog 9 #[.iface 57 (.pointer (some ⟨q, 0, none⟩))] w fun e w' => e = .returned (.agg #[.int .i64 (c : Int), .int .i64 (a : Int), .int .i64 (lineN t a : Int), .int .i64 (colN t a : Int), .string ⟨#[]⟩]) ∧ Below w.heap.size w w' := by
  have hsz : 16 ≤ w.heap.size := Nat.le_trans hE.globs hE.size
  have hql := heap_lt hErr
  have et := hF.et
  have ck : ∀ w2, Below w.heap.size w w2 → Calls Tryz.prog 20 #[.iface 57 (.pointer (some ⟨q, 0, none⟩))] w2 fun e w' => e = .returned (.int .i64 (c : Int)) ∧ w2 = w' := fun w2 hb =>
    code_any (hE.below (hb.mono hE.size)) (hF.below hE (hb.mono hE.size)) hc (ErrAt.below hErr hb hql)
  have er : ∀ w2, Below w.heap.size w w2 → w2.cell? ⟨q, 1, none⟩ = some (.int .i64 (a : Int)) ∧ w2.cell? ⟨q, 2, none⟩ = some (.int .i64 (lineN t a : Int)) ∧ w2.cell? ⟨q, 3, none⟩ = some (.int .i64 (colN t a : Int)) := fun w2 hb => by
    have a1 := fun i => cell_of_row w2 q i _ _ (0, 0) (ErrAt.below hErr hb hql)
    exact ⟨a1 1, a1 2, a1 3⟩
  clear hErr hF hE hc
  go_enter Tryz.func9, Tryz.ntmps9
  go_wp2_with (go_at_call 19; refine (as_at et hsz).mono ?_; rintro e w1 ⟨rfl, hb1, hv1, ht1⟩)
  have c1 := ck (w1.drewN 1) (below_drewN hb1 1)
  obtain ⟨x1, x2, x3⟩ := er w1 hb1
  have q1 : q ≠ w.heap.size := by omega
  have q2 : w.heap.size + 1 ≠ w.heap.size := by omega
  obtain ⟨y0, y1, y2, y3, y4, fz⟩ := varG hv1
  clear ck er et
  go_region_held_law (fun w' => w'.cell? ⟨w.heap.size + 1, 0, none⟩ = some (.pointer (some ⟨q, 0, none⟩)) ∧ w'.cell? ⟨q, 1, none⟩ = some (.int .i64 (a : Int)) ∧ w'.cell? ⟨q, 2, none⟩ = some (.int .i64 (lineN t a : Int)) ∧ w'.cell? ⟨q, 3, none⟩ = some (.int .i64 (colN t a : Int)))
    (first | (rw [cell_set_other _ _ _ _ _ _ q2, cell_set_other _ _ _ _ _ _ q2, cell_set_other _ _ _ _ _ _ q2, cell_set_other _ _ _ _ _ _ q2, cell_set_other _ _ _ _ _ _ q2, cell_set_other _ _ _ _ _ _ q1, cell_set_other _ _ _ _ _ _ q1, cell_set_other _ _ _ _ _ _ q1, cell_set_other _ _ _ _ _ _ q1, cell_set_other _ _ _ _ _ _ q1, cell_set_other _ _ _ _ _ _ q1, cell_set_other _ _ _ _ _ _ q1, cell_set_other _ _ _ _ _ _ q1, cell_set_other _ _ _ _ _ _ q1, cell_set_other _ _ _ _ _ _ q1, cell_set_other _ _ _ _ _ _ q1, cell_set_other _ _ _ _ _ _ q1, cell_set_other _ _ _ _ _ _ q1, cell_set_other _ _ _ _ _ _ q1, cell_set_other _ _ _ _ _ _ q1]; exact ⟨ht1, x1, x2, x3⟩) | (go_keep; done))
    (first | (go_at_call 20; refine c1.mono ?_; rintro e w7 ⟨rfl, rfl⟩))
  all_goals
    go_wp2
    exact fin_flt Tryz.results9 w (w1.drewN 1) _ _ _ _ _ _ hv1 (below_drewN hb1 1) rfl
end Go.Proofs.YtnmknnkpkkefoaaGreatDoor
