import Derived.Test.YtlbgppijeoonjaaGreatDoorEX
import Derived.Deep.RegionHeld3
import Derived.Test.YtlbgppijeoonjaaGreatDoorScaX
import Derived.Test.YtlbgppijeoonjaaGreatDoorAtr
import Derived.Test.YtlbgppijeoonjaaGreatDoorListX
namespace Go.Proofs.YtlbgppijeoonjaaGreatDoor
open Go.RowKit
set_option linter.unusedVariables false

/-- What else stands in the package's variables: what errors.As and errors.Is ask. -/
structure EnvF (B : Nat) (p : Nat → Addr) (w : World) : Prop where
  et : w.cell? ⟨1, 0, none⟩ = some (.iface 164 (.agg #[.pointer (some ⟨15, 112, none⟩)]))
  sen : ∀ c, ∃ ca ta, w.heap[(p c).block]? = some (.cells ca ta (0, 0))
theorem EnvF.below {B : Nat} {p : Nat → Addr} {w w' : World} (h : EnvF B p w) (hE : Env B p w) (hb : Below B w w') : EnvF B p w' := by
  have g := hE.globs
  refine ⟨by rw [cell_below hb _ _ (by omega)]; exact h.et, fun c => ?_⟩
  obtain ⟨ca, ta, hs⟩ := h.sen c
  exact ⟨ca, ta, (hb.block _ (hE.kept c)).trans hs⟩
theorem err_cell {w : World} {q : Nat} {v : Value} {t : List UInt8} {a : Nat} (h : ErrAt w q v t a) : w.cell? ⟨q, 0, none⟩ = some v := by
  rw [cell_of_row w q 0 _ _ (0, 0) h]; rfl
theorem is_code {B : Nat} {p : Nat → Addr} {w : World} {q c d : Nat} {t : List UInt8} {a : Nat} (hE : Env B p w) (hF : EnvF B p w) (hc : 20 ≤ c ∧ c ≤ 24) (hd : 20 ≤ d ∧ d ≤ 24)
    (hErr : ErrAt w q (.iface 224 (.pointer (some (p c)))) t a) (b : Bool) (hb : b = decide (c = d)) :
    Calls Tryz.prog 102 #[.iface 139 (.pointer (some ⟨q, 0, none⟩)), .iface 224 (.pointer (some (p d)))] w fun e w' => e = .returned (.bool b) ∧ w = w' := by
  subst hb
  by_cases h : c = d
  · subst h
    rw [decide_eq_true rfl]
    exact (is_wrap_same q 0 (p c) w (err_cell hErr)).mono fun e w' ⟨x, y⟩ => ⟨x, y.symm⟩
  · rw [decide_eq_false h]
    obtain ⟨ca, ta, h1⟩ := hF.sen c
    obtain ⟨cb, tb, h2⟩ := hF.sen d
    exact (is_wrap_other q 0 (p d) (p c) ca cb ta tb w (err_cell hErr) (fun e => h (hE.apart c d hc.1 hc.2 hd.1 hd.2 e)) h1 h2).mono fun e w' ⟨x, y⟩ => ⟨x, y.symm⟩
set_option maxHeartbeats 2000000 in
set_option maxRecDepth 100000 in
theorem code_any {B : Nat} {p : Nat → Addr} {w : World} {q c : Nat} {t : List UInt8} {a : Nat} (hE : Env B p w) (hF : EnvF B p w) (hc : 20 ≤ c ∧ c ≤ 24)
    (hErr : ErrAt w q (.iface 224 (.pointer (some (p c)))) t a) :
    Calls Tryz.prog 82 #[.iface 139 (.pointer (some ⟨q, 0, none⟩))] w fun e w' => e = .returned (.int .i64 (c : Int)) ∧ w = w' := by
  have l1 := hE.comment
  have l2 := hE.long
  have l3 := hE.number
  have l4 := hE.string
  have hcc : c = 20 ∨ c = 21 ∨ c = 22 ∨ c = 23 ∨ c = 24 := by omega
  have k1 := fun b (h : b = decide (c = 23)) => is_code hE hF hc (d := 23) (by omega) hErr b h
  have k2 := fun b (h : b = decide (c = 24)) => is_code hE hF hc (d := 24) (by omega) hErr b h
  have k3 := fun b (h : b = decide (c = 21)) => is_code hE hF hc (d := 21) (by omega) hErr b h
  have k4 := fun b (h : b = decide (c = 22)) => is_code hE hF hc (d := 22) (by omega) hErr b h
  clear hErr hF hE hc
  rcases hcc with rfl | rfl | rfl | rfl | rfl
  · have m1 := k1 false rfl; have m2 := k2 false rfl; have m3 := k3 false rfl; have m4 := k4 false rfl
    clear k1 k2 k3 k4
    go_enter Tryz.func82, Tryz.ntmps82
    go_wp2_with fail
    refine m1.mono ?_
    rintro e w' ⟨rfl, rfl⟩
    go_wp2_with fail
    refine m2.mono ?_
    rintro e w' ⟨rfl, rfl⟩
    go_wp2_with fail
    refine m3.mono ?_
    rintro e w' ⟨rfl, rfl⟩
    go_wp2_with fail
    refine m4.mono ?_
    rintro e w' ⟨rfl, rfl⟩
    go_wp2_with fail
    go_ret
    exact ⟨rfl, rfl⟩
  · have m1 := k1 false rfl; have m2 := k2 false rfl; have m3 := k3 true rfl
    clear k1 k2 k3 k4
    go_enter Tryz.func82, Tryz.ntmps82
    go_wp2_with fail
    refine m1.mono ?_
    rintro e w' ⟨rfl, rfl⟩
    go_wp2_with fail
    refine m2.mono ?_
    rintro e w' ⟨rfl, rfl⟩
    go_wp2_with fail
    refine m3.mono ?_
    rintro e w' ⟨rfl, rfl⟩
    go_wp2_with fail
    go_ret
    exact ⟨rfl, rfl⟩
  · have m1 := k1 false rfl; have m2 := k2 false rfl; have m3 := k3 false rfl; have m4 := k4 true rfl
    clear k1 k2 k3 k4
    go_enter Tryz.func82, Tryz.ntmps82
    go_wp2_with fail
    refine m1.mono ?_
    rintro e w' ⟨rfl, rfl⟩
    go_wp2_with fail
    refine m2.mono ?_
    rintro e w' ⟨rfl, rfl⟩
    go_wp2_with fail
    refine m3.mono ?_
    rintro e w' ⟨rfl, rfl⟩
    go_wp2_with fail
    refine m4.mono ?_
    rintro e w' ⟨rfl, rfl⟩
    go_wp2_with fail
    go_ret
    exact ⟨rfl, rfl⟩
  · have m1 := k1 true rfl
    clear k1 k2 k3 k4
    go_enter Tryz.func82, Tryz.ntmps82
    go_wp2_with fail
    refine m1.mono ?_
    rintro e w' ⟨rfl, rfl⟩
    go_wp2_with fail
    go_ret
    exact ⟨rfl, rfl⟩
  · have m1 := k1 false rfl; have m2 := k2 true rfl
    clear k1 k2 k3 k4
    go_enter Tryz.func82, Tryz.ntmps82
    go_wp2_with fail
    refine m1.mono ?_
    rintro e w' ⟨rfl, rfl⟩
    go_wp2_with fail
    refine m2.mono ?_
    rintro e w' ⟨rfl, rfl⟩
    go_wp2_with fail
    go_ret
    exact ⟨rfl, rfl⟩
end Go.Proofs.YtlbgppijeoonjaaGreatDoor

namespace Go.Proofs.YtlbgppijeoonjaaGreatDoor
open Go.RowKit
set_option linter.unusedVariables false

/-- A fault, laid anew. -/
theorem res_flt {fn : Func} (hf : fn.results = #[.cell 2 60]) (tmps : Array Value) (b : Nat) (w : World) (v0 v1 v2 v3 v4 : Value)
    (h2 : tmps[2]? = some (.pointer (some ⟨b, 0, none⟩))) (hk : w.heap[b]? = some (.cells #[v0, v1, v2, v3, v4] 60 (0, 0))) :
    (results fn tmps).run Tryz.prog w = .ok (.agg #[v0, v1, v2, v3, v4]) w := by
  have a1 := fun i => cell_of_row w b i _ _ (0, 0) hk
  have z0 := a1 0; have z1 := a1 1; have z2 := a1 2; have z3 := a1 3; have z4 := a1 4
  simp at z0 z1 z2 z3 z4
  simp [results, hf, go_sem, h2, z0, z1, z2, z3, z4]
def set5 (w : World) (b : Nat) (v0 v1 v2 v3 v4 : Value) : World :=
  ((((w.setCell ⟨b, 0, none⟩ v0).setCell ⟨b, 1, none⟩ v1).setCell ⟨b, 2, none⟩ v2).setCell ⟨b, 3, none⟩ v3).setCell ⟨b, 4, none⟩ v4
theorem set5_at (w : World) (b : Nat) (t : TypeId) (o0 o1 o2 o3 o4 v0 v1 v2 v3 v4 : Value) (k : w.heap[b]? = some (.cells #[o0, o1, o2, o3, o4] t (0, 0))) :
    (set5 w b v0 v1 v2 v3 v4).heap[b]? = some (.cells #[v0, v1, v2, v3, v4] t (0, 0)) := by
  unfold set5
  have h0 : (w.setCell ⟨b, 0, none⟩ v0).heap[b]? = some (.cells #[v0, o1, o2, o3, o4] t (0, 0)) := heap_setCell_same _ b 0 _ t _ k
  generalize w.setCell ⟨b, 0, none⟩ v0 = w0 at *
  have h1 : (w0.setCell ⟨b, 1, none⟩ v1).heap[b]? = some (.cells #[v0, v1, o2, o3, o4] t (0, 0)) := heap_setCell_same _ b 1 _ t _ h0
  generalize w0.setCell ⟨b, 1, none⟩ v1 = w1 at *
  have h2 : (w1.setCell ⟨b, 2, none⟩ v2).heap[b]? = some (.cells #[v0, v1, v2, o3, o4] t (0, 0)) := heap_setCell_same _ b 2 _ t _ h1
  generalize w1.setCell ⟨b, 2, none⟩ v2 = w2 at *
  have h3 : (w2.setCell ⟨b, 3, none⟩ v3).heap[b]? = some (.cells #[v0, v1, v2, v3, o4] t (0, 0)) := heap_setCell_same _ b 3 _ t _ h2
  generalize w2.setCell ⟨b, 3, none⟩ v3 = w3 at *
  exact heap_setCell_same _ b 4 _ t _ h3
theorem set5_grown (w : World) (b : Nat) (v0 v1 v2 v3 v4 : Value) : w.grownBy (set5 w b v0 v1 v2 v3 v4) (some b) :=
  grown_trans (grown_set _ _ _ _) (grown_trans (grown_set _ _ _ _) (grown_trans (grown_set _ _ _ _) (grown_trans (grown_set _ _ _ _) (grown_set _ _ _ _))))
theorem fin_flt {fn : Func} (hf : fn.results = #[.cell 2 60]) (w w3 : World) (v0 v1 v2 v3 v4 : Value) (tmps : Array Value)
    (hv : w3.heap[w.heap.size]? = some (.cells zero5 60 (0, 0))) (hb : Below w.heap.size w w3)
    (h2 : tmps[2]? = some (.pointer (some ⟨w.heap.size, 0, none⟩))) :
    bodyPost Tryz.prog fn (fun e w' => e = .returned (.agg #[v0, v1, v2, v3, v4]) ∧ Below w.heap.size w w') .ret { tmps := tmps, defers := [] } (set5 w3 w.heap.size v0 v1 v2 v3 v4) := by
  refine bodyPost_ret (res_flt hf tmps w.heap.size _ _ _ _ _ _ h2 (set5_at w3 w.heap.size _ _ _ _ _ _ _ _ _ _ _ hv)) rfl ?_
  exact ⟨rfl, hb.trans (below_of_grown (set5_grown w3 w.heap.size v0 v1 v2 v3 v4) (Nat.le_refl _) hb.size)⟩
theorem as_nil_at {w : World} (v : Value) :
    Calls Tryz.prog 65 #[.nilIface, v] ((w.alloc (.cells zero5 60)).alloc (.cells #[.pointer none] 139)) fun e w' => e = .returned (.bool false) ∧ Below w.heap.size w w' ∧ w'.heap[w.heap.size]? = some (.cells zero5 60 (0, 0)) := by
  refine (as_nil _ _).mono ?_
  rintro e w' ⟨rfl, rfl⟩
  refine ⟨rfl, ((Below.refl _ _).alloc (Nat.le_refl _) _).alloc (by simp) _, ?_⟩
  show ((w.heap.push _).push _)[w.heap.size]? = _
  rw [push_lt _ _ _ (by simp)]
  exact push_at w.heap _
theorem as_at {w : World} {q : Nat} (hg : w.cell? ⟨1, 0, none⟩ = some (.iface 164 (.agg #[.pointer (some ⟨15, 112, none⟩)]))) (hs : 16 ≤ w.heap.size) :
    Calls Tryz.prog 65 #[.iface 139 (.pointer (some ⟨q, 0, none⟩)), .iface 140 (.pointer (some ⟨w.heap.size + 1, 0, none⟩))] ((w.alloc (.cells zero5 60)).alloc (.cells #[.pointer none] 139)) fun e w' => e = .returned (.bool true) ∧ Below w.heap.size w w' ∧ w'.heap[w.heap.size]? = some (.cells zero5 60 (0, 0)) ∧ w'.cell? ⟨w.heap.size + 1, 0, none⟩ = some (.pointer (some ⟨q, 0, none⟩)) := by
  have b2 : Below w.heap.size w ((w.alloc (.cells zero5 60)).alloc (.cells #[.pointer none] 139)) := ((Below.refl _ _).alloc (Nat.le_refl _) _).alloc (by simp) _
  have hv : ((w.alloc (.cells zero5 60)).alloc (.cells #[.pointer none] 139)).heap[w.heap.size]? = some (.cells zero5 60 (0, 0)) := by
    show ((w.heap.push _).push _)[w.heap.size]? = _
    rw [push_lt _ _ _ (by simp)]
    exact push_at w.heap _
  have ht : ((w.alloc (.cells zero5 60)).alloc (.cells #[.pointer none] 139)).heap[w.heap.size + 1]? = some (.cells #[.pointer none] 139 (0, 0)) := by
    have := push_at (w.heap.push (.cells zero5 60)) (.cells #[.pointer none] 139)
    rwa [Array.size_push] at this
  generalize ((w.alloc (.cells zero5 60)).alloc (.cells #[.pointer none] 139)) = w0 at *
  refine (as_hit ⟨q, 0, none⟩ ⟨w.heap.size + 1, 0, none⟩ (.pointer none) w0 (by rw [cell_below b2 _ _ (by omega)]; exact hg) (by rw [cell_of_row w0 _ 0 _ _ (0, 0) ht]; rfl) (frozen_of_row w0 _ 0 _ _ ht)).mono ?_
  rintro e w' ⟨rfl, rfl⟩
  have hl := heap_lt ht
  have b3 := ((((Below.refl w0.heap.size w0).alloc (Nat.le_refl _) (.cells #[.pointer (some ⟨w.heap.size + 1, 0, none⟩)] 140)).alloc (by simp) (.cells #[.pointer (some ⟨15, 140, none⟩), .pointer (some ⟨w0.heap.size, 0, none⟩), .int .u64 150] 147)).alloc (by simp; omega) (.cells #[.pointer (some ⟨15, 140, none⟩), .pointer (some ⟨w0.heap.size, 0, none⟩), .int .u64 150] 147)).alloc (by simp; omega) (.cells #[.pointer (some ⟨q, 0, none⟩)] 139)
  generalize ((((w0.alloc (.cells #[.pointer (some ⟨w.heap.size + 1, 0, none⟩)] 140)).alloc (.cells #[.pointer (some ⟨15, 140, none⟩), .pointer (some ⟨w0.heap.size, 0, none⟩), .int .u64 150] 147)).alloc (.cells #[.pointer (some ⟨15, 140, none⟩), .pointer (some ⟨w0.heap.size, 0, none⟩), .int .u64 150] 147)).alloc (.cells #[.pointer (some ⟨q, 0, none⟩)] 139)) = w4 at *
  have ht4 := (b3.block _ hl).trans ht
  have hv4 := (b3.block _ (heap_lt hv)).trans hv
  have g4 := grown_set w4 (w.heap.size + 1) 0 (.pointer (some ⟨q, 0, none⟩))
  have b4 : Below w.heap.size w w4 := b2.trans (b3.mono b2.size)
  refine ⟨rfl, b4.trans (below_of_grown g4 (by omega) b4.size), (g4.block _ (heap_lt hv4) (fun e => absurd (Option.some.inj e) (by omega))).trans hv4, ?_⟩
  rw [cell_of_row _ _ 0 _ _ (0, 0) (heap_setCell_same w4 (w.heap.size + 1) 0 _ _ _ ht4)]
  rfl
end Go.Proofs.YtlbgppijeoonjaaGreatDoor

namespace Go.Proofs.YtlbgppijeoonjaaGreatDoor
open Go.RowKit
set_option linter.unusedVariables false
structure VarG (w : World) (b : Nat) : Prop where
  y0 : w.cell? ⟨b, 0, none⟩ = some (.int .i64 0)
  y1 : w.cell? ⟨b, 1, none⟩ = some (.int .i64 0)
  y2 : w.cell? ⟨b, 2, none⟩ = some (.int .i64 0)
  y3 : w.cell? ⟨b, 3, none⟩ = some (.int .i64 0)
  y4 : w.cell? ⟨b, 4, none⟩ = some (.string ⟨#[]⟩)
  fz : ∀ i, w.frozen? ⟨b, i, none⟩ = false
theorem varG {w : World} {b : Nat} (h : w.heap[b]? = some (.cells zero5 60 (0, 0))) : VarG w b := by
  have a1 := fun i => cell_of_row w b i _ _ (0, 0) h
  exact ⟨a1 0, a1 1, a1 2, a1 3, a1 4, fun i => frozen_of_row w b i _ _ h⟩
theorem fault_nil (w : World) :
    Calls Tryz.prog 64 #[.nilIface] w fun e w' => e = .returned (.agg #[.int .i64 0, .int .i64 0, .int .i64 0, .int .i64 0, .string ⟨#[]⟩]) ∧ Below w.heap.size w w' := by
  go_enter Tryz.func64, Tryz.ntmps64
  go_wp2_with (go_at_call 65; refine (as_nil_at _).mono ?_; rintro e w1 ⟨rfl, hb1, hv1⟩; obtain ⟨y0, y1, y2, y3, y4, fz⟩ := varG hv1)
  exact fin_flt Tryz.results64 w w1 _ _ _ _ _ _ hv1 hb1 rfl
theorem set5_cell (w : World) (b : Nat) (v0 v1 v2 v3 v4 : Value) (g i : Nat) (h : g ≠ b) : (set5 w b v0 v1 v2 v3 v4).cell? ⟨g, i, none⟩ = w.cell? ⟨g, i, none⟩ := by
  unfold set5
  rw [cell_set_other _ _ _ _ _ _ h, cell_set_other _ _ _ _ _ _ h, cell_set_other _ _ _ _ _ _ h, cell_set_other _ _ _ _ _ _ h, cell_set_other _ _ _ _ _ _ h]
theorem ErrAt.below {B : Nat} {w w' : World} {q : Nat} {v : Value} {t : List UInt8} {a : Nat} (h : ErrAt w q v t a) (hb : Below B w w') (hq : q < B) : ErrAt w' q v t a := (hb.block q hq).trans h
set_option maxHeartbeats 2000000 in
set_option maxRecDepth 100000 in
theorem fault_err {B : Nat} {p : Nat → Addr} {w : World} {q c : Nat} {t : List UInt8} {a : Nat} (hE : Env B p w) (hF : EnvF B p w) (hc : 20 ≤ c ∧ c ≤ 24)
    (hErr : ErrAt w q (.iface 224 (.pointer (some (p c)))) t a) :
    Calls Tryz.prog 64 #[.iface 139 (.pointer (some ⟨q, 0, none⟩))] w fun e w' => e = .returned (.agg #[.int .i64 (c : Int), .int .i64 (a : Int), .int .i64 (lineN t a : Int), .int .i64 (colN t a : Int), .string ⟨#[]⟩]) ∧ Below w.heap.size w w' := by
  have hsz : 16 ≤ w.heap.size := by have := hE.globs; have := hE.size; omega
  have hql := heap_lt hErr
  have et := hF.et
  have ck : ∀ w2, Below w.heap.size w w2 → Calls Tryz.prog 82 #[.iface 139 (.pointer (some ⟨q, 0, none⟩))] w2 fun e w' => e = .returned (.int .i64 (c : Int)) ∧ w2 = w' := fun w2 hb =>
    code_any (hE.below (hb.mono hE.size)) (hF.below hE (hb.mono hE.size)) hc (ErrAt.below hErr hb hql)
  have er : ∀ w2, Below w.heap.size w w2 → w2.cell? ⟨q, 1, none⟩ = some (.int .i64 (a : Int)) ∧ w2.cell? ⟨q, 2, none⟩ = some (.int .i64 (lineN t a : Int)) ∧ w2.cell? ⟨q, 3, none⟩ = some (.int .i64 (colN t a : Int)) := fun w2 hb => by
    have a1 := fun i => cell_of_row w2 q i _ _ (0, 0) (ErrAt.below hErr hb hql)
    exact ⟨a1 1, a1 2, a1 3⟩
  clear hErr hF hE hc
  go_enter Tryz.func64, Tryz.ntmps64
  go_wp2_with (go_at_call 65; refine (as_at et hsz).mono ?_; rintro e w1 ⟨rfl, hb1, hv1, ht1⟩)
  have c1 := ck (w1.drewN 1) (below_drewN hb1 1)
  obtain ⟨x1, x2, x3⟩ := er w1 hb1
  have q1 : q ≠ w.heap.size := by omega
  have q2 : w.heap.size + 1 ≠ w.heap.size := by omega
  obtain ⟨y0, y1, y2, y3, y4, fz⟩ := varG hv1
  clear ck er et
  go_region_held_law (fun w' => w'.cell? ⟨w.heap.size + 1, 0, none⟩ = some (.pointer (some ⟨q, 0, none⟩)) ∧ w'.cell? ⟨q, 1, none⟩ = some (.int .i64 (a : Int)) ∧ w'.cell? ⟨q, 2, none⟩ = some (.int .i64 (lineN t a : Int)) ∧ w'.cell? ⟨q, 3, none⟩ = some (.int .i64 (colN t a : Int)))
    (first | (rw [cell_set_other _ _ _ _ _ _ q2, cell_set_other _ _ _ _ _ _ q2, cell_set_other _ _ _ _ _ _ q2, cell_set_other _ _ _ _ _ _ q2, cell_set_other _ _ _ _ _ _ q2, cell_set_other _ _ _ _ _ _ q1, cell_set_other _ _ _ _ _ _ q1, cell_set_other _ _ _ _ _ _ q1, cell_set_other _ _ _ _ _ _ q1, cell_set_other _ _ _ _ _ _ q1, cell_set_other _ _ _ _ _ _ q1, cell_set_other _ _ _ _ _ _ q1, cell_set_other _ _ _ _ _ _ q1, cell_set_other _ _ _ _ _ _ q1, cell_set_other _ _ _ _ _ _ q1, cell_set_other _ _ _ _ _ _ q1, cell_set_other _ _ _ _ _ _ q1, cell_set_other _ _ _ _ _ _ q1, cell_set_other _ _ _ _ _ _ q1, cell_set_other _ _ _ _ _ _ q1]; exact ⟨ht1, x1, x2, x3⟩) | (go_keep; done))
    (first | (go_at_call 82; refine c1.mono ?_; rintro e w7 ⟨rfl, rfl⟩))
  all_goals
    go_wp2
    exact fin_flt Tryz.results64 w (w1.drewN 1) _ _ _ _ _ _ hv1 (below_drewN hb1 1) rfl
end Go.Proofs.YtlbgppijeoonjaaGreatDoor

namespace Go.Proofs.YtlbgppijeoonjaaGreatDoor
open Go.RowKit
set_option linter.unusedVariables false

theorem res_scan {fn : Func} (hf : fn.results = #[.tmp 2, .cell 3 60]) (tmps : Array Value) (b : Nat) (e : Value) (w : World) (v0 v1 v2 v3 v4 : Value)
    (h2 : tmps[2]? = some e) (h3 : tmps[3]? = some (.pointer (some ⟨b, 0, none⟩))) (hk : w.heap[b]? = some (.cells #[v0, v1, v2, v3, v4] 60 (0, 0))) :
    (results fn tmps).run Tryz.prog w = .ok (.tuple #[e, .agg #[v0, v1, v2, v3, v4]]) w := by
  have a1 := fun i => cell_of_row w b i _ _ (0, 0) hk
  have z0 := a1 0; have z1 := a1 1; have z2 := a1 2; have z3 := a1 3; have z4 := a1 4
  simp at z0 z1 z2 z3 z4
  simp [results, hf, go_sem, h2, h3, z0, z1, z2, z3, z4]
set_option maxHeartbeats 1000000 in
theorem Scan_any (B0 : Nat) (p : Nat → Addr) (s : ByteArray) (w : World) (hE : Env B0 p w) (hF : EnvF B0 p w) (hs : s.size < 4611686018427387904) :
    Calls Tryz.prog 45 #[.string s] w fun e w' => SPost w s.data.toList (scanA s.data.toList) e w' := by
  have ba : Below w.heap.size w (w.alloc (.cells zero5 60)) := (Below.refl _ _).alloc (Nat.le_refl _) _
  have cs := scan_any B0 p s (w.alloc (.cells zero5 60)) (hE.below (ba.mono hE.size)) hs
  have hv0 : (w.alloc (.cells zero5 60)).heap[w.heap.size]? = some (.cells zero5 60 (0, 0)) := push_at w.heap _
  have hz0 : (w.alloc (.cells zero5 60)).heap.size = w.heap.size + 1 := by simp
  obtain ⟨x, hx⟩ : ∃ x, x = scanA s.data.toList := ⟨_, rfl⟩
  have hxr : ∀ c a, x = .inr (c, a) → 20 ≤ c ∧ c ≤ 24 := fun c a e => by rw [hx] at e; have := scanA_bad e; omega
  rw [← hx] at cs ⊢
  clear hx
  go_enter Tryz.func45, Tryz.ntmps45
  go_wp2_with fail
  cases x with
  | inl ts =>
    refine cs.mono ?_
    rintro e w1 ⟨v, rfl, hO, hb1⟩
    obtain ⟨av, cv, rfl⟩ := own_shape7 hO
    have hv1 := (hb1.block _ (by rw [hz0]; omega)).trans hv0
    have hbw := ba.trans (hb1.mono ba.size)
    rw [hz0] at hO
    have cf := fault_nil w1
    clear cs hb1 hv0 hxr
    go_wp2_with (go_at_call 64; refine cf.mono ?_; rintro e w2 ⟨rfl, hb2⟩; have hv2 := (hb2.block _ (heap_lt hv1)).trans hv1; obtain ⟨y0, y1, y2, y3, y4, fz⟩ := varG hv2)
    have hk := set5_at w2 w.heap.size _ _ _ _ _ _ (.int .i64 0) (.int .i64 0) (.int .i64 0) (.int .i64 0) (.string ⟨#[]⟩) hv2
    have hg := set5_grown w2 w.heap.size (.int .i64 0) (.int .i64 0) (.int .i64 0) (.int .i64 0) (.string ⟨#[]⟩)
    refine bodyPost_ret (res_scan Tryz.results45 _ w.heap.size _ _ _ _ _ _ _ rfl rfl hk) rfl ⟨_, rfl, ?_, ?_⟩
    · exact own_base (own_grown (own_below hO hb2) hg (Nat.lt_succ_self _)) (Nat.le_succ _)
    · exact (hbw.trans (hb2.mono hbw.size)).trans (below_of_grown hg (Nat.le_refl _) (Nat.le_trans hbw.size hb2.size))
  | inr ca =>
    obtain ⟨c, a⟩ := ca
    refine cs.mono ?_
    rintro e w1 ⟨q, rfl, hq, hErr, hb1⟩
    have hv1 := (hb1.block _ (by rw [hz0]; omega)).trans hv0
    have hbw := ba.trans (hb1.mono ba.size)
    have cf := fault_err (hE.below (hbw.mono hE.size)) (hF.below hE (hbw.mono hE.size)) (hxr c a rfl) hErr
    clear cs hb1 hv0 hxr
    go_wp2_with (go_at_call 64; refine cf.mono ?_; rintro e w2 ⟨rfl, hb2⟩; have hv2 := (hb2.block _ (heap_lt hv1)).trans hv1; obtain ⟨y0, y1, y2, y3, y4, fz⟩ := varG hv2)
    have hk := set5_at w2 w.heap.size _ _ _ _ _ _ (.int .i64 (c : Int)) (.int .i64 (a : Int)) (.int .i64 (lineN s.data.toList a : Int)) (.int .i64 (colN s.data.toList a : Int)) (.string ⟨#[]⟩) hv2
    have hg := set5_grown w2 w.heap.size (.int .i64 (c : Int)) (.int .i64 (a : Int)) (.int .i64 (lineN s.data.toList a : Int)) (.int .i64 (colN s.data.toList a : Int)) (.string ⟨#[]⟩)
    refine bodyPost_ret (res_scan Tryz.results45 _ w.heap.size _ _ _ _ _ _ _ rfl rfl hk) rfl ⟨rfl, ?_⟩
    exact (hbw.trans (hb2.mono hbw.size)).trans (below_of_grown hg (Nat.le_refl _) (Nat.le_trans hbw.size hb2.size))
end Go.Proofs.YtlbgppijeoonjaaGreatDoor

