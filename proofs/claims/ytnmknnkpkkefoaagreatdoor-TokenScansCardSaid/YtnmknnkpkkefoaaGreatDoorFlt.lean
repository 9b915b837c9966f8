import Derived.Test.YtnmknnkpkkefoaaGreatDoorEas
import Derived.Test.YtnmknnkpkkefoaaGreatDoorEis
namespace Go.Proofs.YtnmknnkpkkefoaaGreatDoor
open Go.RowKit
set_option linter.unusedVariables false

/-- What else stands in the package's variables: what errors.As and errors.Is ask. -/
structure EnvF (B : Nat) (p : Nat → Addr) (w : World) : Prop where
  et : w.cell? ⟨2, 0, none⟩ = some (.iface 110 (.agg #[.pointer (some ⟨16, 38, none⟩)]))
  sen : ∀ c, ∃ ca ta, w.heap[(p c).block]? = some (.cells ca ta (0, 0))
theorem EnvF.below {B : Nat} {p : Nat → Addr} {w w' : World} (h : EnvF B p w) (hE : Env B p w) (hb : Below B w w') : EnvF B p w' := by
  have g := hE.globs
  refine ⟨by rw [cell_below hb _ _ (by omega)]; exact h.et, fun c => ?_⟩
  obtain ⟨ca, ta, hs⟩ := h.sen c
  exact ⟨ca, ta, (hb.block _ (hE.kept c)).trans hs⟩
theorem err_cell {w : World} {q : Nat} {v : Value} {t : List UInt8} {a : Nat} (h : ErrAt w q v t a) : w.cell? ⟨q, 0, none⟩ = some v := by
  rw [cell_of_row w q 0 _ _ (0, 0) h]; rfl
theorem is_code {B : Nat} {p : Nat → Addr} {w : World} {q c d : Nat} {t : List UInt8} {a : Nat} (hE : Env B p w) (hF : EnvF B p w) (hc : 20 ≤ c ∧ c ≤ 24) (hd : 20 ≤ d ∧ d ≤ 24)
    (hErr : ErrAt w q (.iface 192 (.pointer (some (p c)))) t a) (b : Bool) (hb : b = decide (c = d)) :
    Calls Tryz.prog 47 #[.iface 57 (.pointer (some ⟨q, 0, none⟩)), .iface 192 (.pointer (some (p d)))] w fun e w' => e = .returned (.bool b) ∧ w = w' := by
  subst hb
  by_cases h : c = d
  · subst h
    rw [decide_eq_true rfl]
    exact (is_wrap_same q 0 (p c) w (err_cell hErr)).mono fun e w' ⟨x, y⟩ => ⟨x, y.symm⟩
  · rw [decide_eq_false h]
    obtain ⟨ca, ta, h1⟩ := hF.sen c
    obtain ⟨cb, tb, h2⟩ := hF.sen d
    exact (is_wrap_other q 0 (p d) (p c) ca cb ta tb w (err_cell hErr) (fun e => h (hE.apart c d hc.1 hc.2 hd.1 hd.2 e)) h1 h2).mono fun e w' ⟨x, y⟩ => ⟨x, y.symm⟩
set_option maxHeartbeats 2000000 in
set_option maxRecDepth 100000 in
theorem code_any {B : Nat} {p : Nat → Addr} {w : World} {q c : Nat} {t : List UInt8} {a : Nat} (hE : Env B p w) (hF : EnvF B p w) (hc : 20 ≤ c ∧ c ≤ 24)
    (hErr : ErrAt w q (.iface 192 (.pointer (some (p c)))) t a) :
    Calls Tryz.prog 20 #[.iface 57 (.pointer (some ⟨q, 0, none⟩))] w fun e w' => e = .returned (.int .i64 (c : Int)) ∧ w = w' := by
  have l1 := hE.comment
  have l2 := hE.long
  have l3 := hE.number
  have l4 := hE.string
  have hcc : c = 20 ∨ c = 21 ∨ c = 22 ∨ c = 23 ∨ c = 24 := by omega
  have k1 := fun b (h : b = decide (c = 23)) => is_code hE hF hc (d := 23) (by omega) hErr b h
  have k2 := fun b (h : b = decide (c = 24)) => is_code hE hF hc (d := 24) (by omega) hErr b h
  have k3 := fun b (h : b = decide (c = 21)) => is_code hE hF hc (d := 21) (by omega) hErr b h
  have k4 := fun b (h : b = decide (c = 22)) => is_code hE hF hc (d := 22) (by omega) hErr b h
  clear hErr hF hE hc
  rcases hcc with rfl | rfl | rfl | rfl | rfl
  · have m1 := k1 false rfl; have m2 := k2 false rfl; have m3 := k3 false rfl; have m4 := k4 false rfl
    clear k1 k2 k3 k4
    go_enter Tryz.func20, Tryz.ntmps20
    go_wp2_with fail
    refine m1.mono ?_
    rintro e w' ⟨rfl, rfl⟩
    go_wp2_with fail
    refine m2.mono ?_
    rintro e w' ⟨rfl, rfl⟩
    go_wp2_with fail
    refine m3.mono ?_
    rintro e w' ⟨rfl, rfl⟩
    go_wp2_with fail
    refine m4.mono ?_
    rintro e w' ⟨rfl, rfl⟩
    go_wp2_with fail
    go_ret
    exact ⟨rfl, rfl⟩
  · have m1 := k1 false rfl; have m2 := k2 false rfl; have m3 := k3 true rfl
    clear k1 k2 k3 k4
    go_enter Tryz.func20, Tryz.ntmps20
    go_wp2_with fail
    refine m1.mono ?_
    rintro e w' ⟨rfl, rfl⟩
    go_wp2_with fail
    refine m2.mono ?_
    rintro e w' ⟨rfl, rfl⟩
    go_wp2_with fail
    refine m3.mono ?_
    rintro e w' ⟨rfl, rfl⟩
    go_wp2_with fail
    go_ret
    exact ⟨rfl, rfl⟩
  · have m1 := k1 false rfl; have m2 := k2 false rfl; have m3 := k3 false rfl; have m4 := k4 true rfl
    clear k1 k2 k3 k4
    go_enter Tryz.func20, Tryz.ntmps20
    go_wp2_with fail
    refine m1.mono ?_
    rintro e w' ⟨rfl, rfl⟩
    go_wp2_with fail
    refine m2.mono ?_
    rintro e w' ⟨rfl, rfl⟩
    go_wp2_with fail
    refine m3.mono ?_
    rintro e w' ⟨rfl, rfl⟩
    go_wp2_with fail
    refine m4.mono ?_
    rintro e w' ⟨rfl, rfl⟩
    go_wp2_with fail
    go_ret
    exact ⟨rfl, rfl⟩
  · have m1 := k1 true rfl
    clear k1 k2 k3 k4
    go_enter Tryz.func20, Tryz.ntmps20
    go_wp2_with fail
    refine m1.mono ?_
    rintro e w' ⟨rfl, rfl⟩
    go_wp2_with fail
    go_ret
    exact ⟨rfl, rfl⟩
  · have m1 := k1 false rfl; have m2 := k2 true rfl
    clear k1 k2 k3 k4
    go_enter Tryz.func20, Tryz.ntmps20
    go_wp2_with fail
    refine m1.mono ?_
    rintro e w' ⟨rfl, rfl⟩
    go_wp2_with fail
    refine m2.mono ?_
    rintro e w' ⟨rfl, rfl⟩
    go_wp2_with fail
    go_ret
    exact ⟨rfl, rfl⟩
end Go.Proofs.YtnmknnkpkkefoaaGreatDoor
