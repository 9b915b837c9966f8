import Derived.Test.YtphafnfmkhhamaaRows
import Derived.Test.YtphafnfmkhhamaaVv
import Derived.ProofKit
import Derived.OpenShut
import Derived.ShutString
import Derived.ChangeOld
import Derived.SizedLaws
namespace Go.Proofs.Ytphafnfmkhhamaa
open Go.ChangeShapes Go.WideShapes Go.ChangeAt Go.RowKit
set_option linter.unusedVariables false

theorem ownVrp : ownKnob Try.prog.godebug = none := by kernel_rfl
theorem laidOutVrp : laidOutB Try.prog = true := by kernel_rfl
set_option maxRecDepth 100000 in
theorem eventPlays_lifted (os : Os) (started : os.Started) (H : Type) (enc : TypeId × Value → H) :
    ReturnsInHanded {} Try.checked os 5 .any (Rows.eventPlaysSpec.pre6 enc Try.prog Try.f5 Rows.eventPlaysRow.domain false) (Rows.eventPlaysSpec.post enc Try.prog Try.f5 false true false false) := by
  refine returnsInHanded_of_change_sized (C := Try.checked) ownVrp started (by kernel_rfl) Try.func5
    (ChangeSpec.witness6 (enc := enc) (C := Try.checked) false ⟨#[], #[.slice none 0 0, .slice none 0 0], []⟩ 8 (by kernel_rfl) (by kernel_rfl) (by kernel_rfl) (by kernel_rfl)) ?_
  intro W base args ds gs before hval0 hW hcnd hsz0 _
  have hval : ∀ (j : Nat) t v, Try.f5.params[j]? = some t → args[j]? = some v → Value.okWide Try.prog W .any base t v := hval0
  have hsz : (DataW.weightsEach Try.prog (Try.f5.params.toList ++ Rows.eventPlaysSpec.plain.varTypes Try.prog) (ds ++ gs)).all (· ≤ reachBytes) = true := hsz0
  have hW' := hW
  obtain ⟨p, q, hA0, hV, rfl, hfz, hnd⟩ := hW
  have hA : DataW.TrodAll enc Try.prog W 0 (fun _ => true) true Try.f5.params.toList args.toList ds p := hA0
  rw [Try.params5] at hA hval hsz
  obtain ⟨v0, vs0, d0, ds0, p0, q0, hargs, rfl, rfl, h0, r0⟩ := trodAll_cons hA
  obtain ⟨v1, vs1, d1, ds1, p1, q1, rfl, rfl, rfl, h1, r1⟩ := trodAll_cons r0
  obtain ⟨rfl, rfl, rfl⟩ := trodAll_nil r1
  obtain rfl : args = #[v0, v1] := by cases args; simp_all
  obtain ⟨rfl, rfl⟩ := trodVars_none hV
  have k0 := h0
  have lt0 : ∀ x ∈ p0, x.block < W.heap.size := by obtain ⟨m, hm⟩ := k0; exact DataW.trod_lt m _ _ _ hm
  have z0 : Sized (d0.weights Try.prog 28) := fun n hn => sized_of_all hsz n (DataW.weights_mem_each (j := 0) rfl rfl n hn)
  obtain ⟨aa0, nn0, cc0, rfl⟩ := okWide_slice Try.underlying28 (hval 0 28 v0 rfl rfl)
  obtain ⟨fu0, hfu0⟩ := h0
  obtain ⟨⟨sa0, sn0, sc0⟩, l0, e0, hr0, hz0⟩ := rows_open ⟨0⟩ (by omega) Try.underlying28 p_u32 hfu0 one_u32
  cases e0
  have hzz0 := hz0 z0
  rw [show Try.prog.bytesOf 22 = 4 by kernel_rfl] at hzz0
  unfold reachBytes at hzz0
  have k1 := h1
  have lt1 : ∀ x ∈ p1, x.block < W.heap.size := by obtain ⟨m, hm⟩ := k1; exact DataW.trod_lt m _ _ _ hm
  have z1 : Sized (d1.weights Try.prog 23) := fun n hn => sized_of_all hsz n (DataW.weights_mem_each (j := 1) rfl rfl n hn)
  obtain ⟨aa1, nn1, cc1, rfl⟩ := okWide_slice Try.underlying23 (hval 1 23 v1 rfl rfl)
  obtain ⟨fu1, hfu1⟩ := h1
  obtain ⟨⟨sa1, sn1, sc1⟩, l1, e1, hr1, hz1⟩ := rows_open ⟨(0, 0, 0)⟩ (by omega) Try.underlying23 p_call hfu1 one_call
  cases e1
  have hzz1 := hz1 z1
  rw [show Try.prog.bytesOf 34 = 24 by kernel_rfl] at hzz1
  unfold reachBytes at hzz1
  clear hA0 hval0
  refine (plays_law W ⟨sa0, sn0, sc0⟩ l0 hr0 (by omega) ⟨sa1, sn1, sc1⟩ l1 hr1 (by omega)).mono fun e W' ⟨he, bel⟩ => ?_
  subst he
  exact ⟨_, rfl, _, _, _, [], _, [], hW', trodAll_mk1 (shut_bool Try.underlying4 _), (trodAll_cons_mk (Below.trod laidOutVrp (by kernel_rfl) (of_decide_eq_true (by kernel_rfl)) k0 bel lt0) (trodAll_cons_mk (Below.trod laidOutVrp (by kernel_rfl) (of_decide_eq_true (by kernel_rfl)) k1 bel lt1) trodAll_mk0)), rfl, bel.frame _, fun h => by cases h⟩
theorem eventPlays_over : Rows.eventPlaysRow.holds Try.pinned (OpenSpec.ofChange Rows.eventPlaysSpec) :=
  OpenClaim.holds_of_wide 5 Try.f5 rfl rfl rfl rfl rfl rfl rfl ⟨rfl, rfl, rfl, rfl, rfl⟩ rfl rfl rfl rfl rfl (by kernel_rfl) Try.func5 (by kernel_rfl)
    (of_decide_eq_true (by kernel_rfl)) (by unfold Func.isWrapper; first | (rw [if_pos (by decide +kernel)]; kernel_rfl) | (rw [if_neg (by decide +kernel)]; exact ⟨rfl, rfl⟩))
    (fun os started H enc _ => eventPlays_lifted os started H enc)
theorem eventPlays_holds : Rows.EventPlaysSaid := eventPlays_over
#print axioms eventPlays_holds
end Go.Proofs.Ytphafnfmkhhamaa
