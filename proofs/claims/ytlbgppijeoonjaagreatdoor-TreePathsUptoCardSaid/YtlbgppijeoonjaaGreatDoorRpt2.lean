import Derived.Test.YtlbgppijeoonjaaGreatDoorTie
import Derived.Test.YtlbgppijeoonjaaGreatDoorCards
import Derived.Test.YtlbgppijeoonjaaGreatDoorWitX
import Derived.Test.YtlbgppijeoonjaaGreatDoorOpg
import Derived.Test.YtlbgppijeoonjaaGreatDoorPrs
import Derived.Deep.Slices
import Derived.OpenShut
import Derived.ShutString
import Derived.ChangeOld
import Derived.SizedLaws
import Derived.SevenTiedAt
namespace Go.Proofs.YtlbgppijeoonjaaGreatDoor
open Go.ChangeShapes Go.WideShapes Go.ChangeAt Go.RowKit Go.Deep
open Go.ChangeMaps (open_string shut_string)
set_option linter.unusedVariables false

theorem laidOutP : laidOutB Tryz.prog = true := by kernel_rfl
set_option maxRecDepth 100000 in
theorem paths_contract (H : Type) (enc : TypeId × Value → H) (W : World) (base : Nat) (args : Array Value) (ds gs : List (DataW H)) (before : List MemPlace)
    (hval : ∀ (j : Nat) t v, Tryz.f4.params[j]? = some t → args[j]? = some v → Value.okWide Tryz.prog W .any base t v)
    (hW : DataW.Whole enc Tryz.prog Tryz.f4.params.toList Rows.treePathsSpec.vars false W args.toList ds gs before) (hk : Rows.uptoSmall H (ds ++ gs) = true) (hL : laidMetH Tryz.prog laidT W) (hSh : W.ShapedOpen Tryz.prog) :
    Calls Tryz.prog 4 args W fun e W' => ∃ v, e = .returned v ∧ Rows.treePathsSpec.post enc Tryz.prog Tryz.f4 false true false false W args v W' := by
  have hW' := hW
  obtain ⟨p, q, hA0, hV, rfl, hfz, hnd⟩ := hW
  have hA : DataW.TrodAll enc Tryz.prog W 0 (fun _ => true) true Tryz.f4.params.toList args.toList ds p := hA0
  rw [Tryz.params4] at hA hval
  obtain ⟨v0, vs0, d0, ds0, p0, q0, hargs, rfl, rfl, h0, r0⟩ := trodAll_cons hA
  obtain ⟨v1, vs1, d1, ds1, p1, q1, rfl, rfl, rfl, h1, r1⟩ := trodAll_cons r0
  obtain ⟨rfl, rfl, rfl⟩ := trodAll_nil r1
  obtain rfl : args = #[v0, v1] := by cases args; simp_all
  obtain ⟨rfl, rfl⟩ := trodVars_none hV
  have hb : Rows.uptoBulkAll ([d0, d1] ++ []) ≤ 1048576 := of_decide_eq_true hk
  simp only [List.append_nil, Rows.uptoBulkAll, Nat.add_zero] at hb
  have k0 := h0
  have lt0 : ∀ x ∈ p0, x.block < W.heap.size := by obtain ⟨m, hm⟩ := k0; exact DataW.trod_lt m _ _ _ hm
  obtain ⟨t, pv, rfl, hO, hfit, hof, hM⟩ := Cnt.tree_openB (hval 0 24 v0 rfl rfl) h0 (by omega)
  obtain ⟨a1, rfl, rfl, rfl, w1⟩ := open_int Tryz.underlying3 (hval 1 3 v1 rfl rfl) h1
  clear hA0
  obtain ⟨pp, hEW⟩ := env_of hL hSh
  have hcn := pathsO_cnt t.objs 0
  have hM2 : (Cnt.objsT t.objs).length + 1 ≤ 11 * 1048576 := by unfold Cnt.treeT at hM; simpa using hM
  refine (lawpaths_objs W t pv hO (by omega) a1 (fun W2 hW2 => heads_any W.heap.size pp W2 (hEW.e.below (hW2.mono hEW.e.size)) (hEW.f.below hEW.e (hW2.mono hEW.e.size)))).mono fun e W' ⟨he, bel⟩ => ?_
  subst he
  exact ⟨_, rfl, _, _, _, [], _, [], hW', trodAll_mk1 (shut_bool Tryz.underlying4 _), (trodAll_cons_mk (Below.trod laidOutP (by kernel_rfl) (of_decide_eq_true (by kernel_rfl)) k0 bel lt0) (trodAll_cons_mk (shut_int Tryz.underlying3 w1) trodAll_mk0)), rfl, bel.frame _, fun h => by cases h⟩
set_option maxRecDepth 100000 in
theorem paths_lifted (os : Os) (started : os.Started) (H : Type) (enc : TypeId × Value → H) (F : Stop.Interp) :
    ReturnsInHanded {} Tryz.checked os 4 .any (fun w args => ((Rows.OpenSpec.upto Rows.treePathsSpec).pre enc Tryz.prog Tryz.f4 [] false w args ∧ laidMetH Tryz.prog laidT w) ∧ sizedMet enc Tryz.prog Tryz.f4 (Rows.OpenSpec.upto Rows.treePathsSpec) false w args)
      (((Rows.OpenSpec.upto Rows.treePathsSpec).at F).post enc Tryz.prog Tryz.f4 false true false false) := by
  refine lift_cond (C := Tryz.checked) (s := Rows.OpenSpec.upto Rows.treePathsSpec) (k := Rows.uptoSmall) rfl (X := fun w => laidMetH Tryz.prog laidT w) (fun _ _ hh h => h.of_heap hh) own started (by kernel_rfl) Tryz.func4
    (wit_cond (enc := enc) (C := Tryz.checked) (s := Rows.OpenSpec.upto Rows.treePathsSpec) (k := Rows.uptoSmall) rfl (X := fun w => laidMetH Tryz.prog laidT w) (witW os) #[.agg #[.string ⟨#[]⟩, .string ⟨#[]⟩, .slice none 0 0, .bool false, .string ⟨#[]⟩], .int .i64 0] 8 (witW_os os) (wit_shaped os _) (by kernel_rfl) (x := ([.agg [.lit (.string []), .lit (.string []), .nil, .lit (.bool false), .lit (.string [])], .lit (.int .i64 0)], [], [])) (by kernel_rfl) (by kernel_rfl) (by kernel_rfl) (wit_met os _)) ?_
  intro W base args ds gs before hval hW hk hL hSh
  exact paths_contract H enc W base args ds gs before hval hW hk hL hSh
theorem paths_over : Rows.TreePathsUptoSaid :=
  OpenClaim.holds_of_cond 4 Tryz.f4 rfl rfl rfl rfl rfl rfl rfl ⟨rfl, rfl, rfl, rfl, rfl⟩ rfl rfl rfl rfl rfl (by kernel_rfl) Tryz.func4 (by kernel_rfl)
    (of_decide_eq_true (by kernel_rfl)) (by unfold Func.isWrapper; first | (rw [if_pos (by decide +kernel)]; kernel_rfl) | (rw [if_neg (by decide +kernel)]; exact ⟨rfl, rfl⟩))
    (fun os started H enc _ F => paths_lifted os started H enc F)
end Go.Proofs.YtlbgppijeoonjaaGreatDoor
