import Derived.Test.YtpoekphebmonnabRows
import Derived.Test.YtpoekphebmonnabUzh
import Derived.ProofKit
import Derived.OpenShut
import Derived.ShutString
import Derived.ChangeOld
import Derived.SizedLaws
namespace Go.Proofs.Ytpoekphebmonnab
open Go.ChangeShapes Go.WideShapes Go.ChangeAt Go.RowKit
set_option linter.unusedVariables false

theorem ownUra : ownKnob Try.prog.godebug = none := by kernel_rfl
theorem laidOutUra : laidOutB Try.prog = true := by kernel_rfl
set_option maxRecDepth 100000 in
theorem clockApart_lifted (os : Os) (started : os.Started) (H : Type) (enc : TypeId × Value → H) :
    ReturnsInHanded {} Try.checked os 3 .any (Rows.clockApartSpec.pre6 enc Try.prog Try.f3 Rows.clockApartRow.domain false) (Rows.clockApartSpec.post enc Try.prog Try.f3 false true false false) := by
  refine returnsInHanded_of_change_sized (C := Try.checked) ownUra started (by kernel_rfl) Try.func3
    (ChangeSpec.witness6 (enc := enc) (C := Try.checked) false ⟨#[], #[.agg #[.string ⟨#[]⟩, .int .u32 0, .int .u32 0, .int .u32 0], .slice none 0 0, .slice none 0 0], []⟩ 8 (by kernel_rfl) (by kernel_rfl) (by kernel_rfl) (by kernel_rfl)) ?_
  intro W base args ds gs before hval0 hW hcnd hsz0 _
  have hval : ∀ (j : Nat) t v, Try.f3.params[j]? = some t → args[j]? = some v → Value.okWide Try.prog W .any base t v := hval0
  have hsz : (DataW.weightsEach Try.prog (Try.f3.params.toList ++ Rows.clockApartSpec.plain.varTypes Try.prog) (ds ++ gs)).all (· ≤ reachBytes) = true := hsz0
  have hW' := hW
  obtain ⟨p, q, hA0, hV, rfl, hfz, hnd⟩ := hW
  have hA : DataW.TrodAll enc Try.prog W 0 (fun _ => true) true Try.f3.params.toList args.toList ds p := hA0
  rw [Try.params3] at hA hval hsz
  obtain ⟨v0, vs0, d0, ds0, p0, q0, hargs, rfl, rfl, h0, r0⟩ := trodAll_cons hA
  obtain ⟨v1, vs1, d1, ds1, p1, q1, rfl, rfl, rfl, h1, r1⟩ := trodAll_cons r0
  obtain ⟨v2, vs2, d2, ds2, p2, q2, rfl, rfl, rfl, h2, r2⟩ := trodAll_cons r1
  obtain ⟨rfl, rfl, rfl⟩ := trodAll_nil r2
  obtain rfl : args = #[v0, v1, v2] := by cases args; simp_all
  obtain ⟨rfl, rfl⟩ := trodVars_none hV
  have k0 := h0
  have lt0 : ∀ x ∈ p0, x.block < W.heap.size := by obtain ⟨m, hm⟩ := k0; exact DataW.trod_lt m _ _ _ hm
  obtain ⟨cs0, cx0, cb0, cn0, rfl, ch0, ci0, cj0⟩ := ctr_open (hval 0 24 v0 rfl rfl) h0
  have k1 := h1
  have lt1 : ∀ x ∈ p1, x.block < W.heap.size := by obtain ⟨m, hm⟩ := k1; exact DataW.trod_lt m _ _ _ hm
  have z1 : Sized (d1.weights Try.prog 25) := fun n hn => sized_of_all hsz n (DataW.weights_mem_each (j := 1) rfl rfl n hn)
  obtain ⟨aa1, nn1, cc1, rfl⟩ := okWide_slice Try.underlying25 (hval 1 25 v1 rfl rfl)
  obtain ⟨fu1, hfu1⟩ := h1
  obtain ⟨⟨sa1, sn1, sc1⟩, l1, e1, hr1, hz1⟩ := rows_open ⟨(0, 0, 0, 0)⟩ (by omega) Try.underlying25 p_act hfu1 one_act
  cases e1
  have hzz1 := hz1 z1
  rw [show Try.prog.bytesOf 36 = 24 by kernel_rfl] at hzz1
  unfold reachBytes at hzz1
  have k2 := h2
  have lt2 : ∀ x ∈ p2, x.block < W.heap.size := by obtain ⟨m, hm⟩ := k2; exact DataW.trod_lt m _ _ _ hm
  have z2 : Sized (d2.weights Try.prog 25) := fun n hn => sized_of_all hsz n (DataW.weights_mem_each (j := 2) rfl rfl n hn)
  obtain ⟨aa2, nn2, cc2, rfl⟩ := okWide_slice Try.underlying25 (hval 2 25 v2 rfl rfl)
  obtain ⟨fu2, hfu2⟩ := h2
  obtain ⟨⟨sa2, sn2, sc2⟩, l2, e2, hr2, hz2⟩ := rows_open ⟨(0, 0, 0, 0)⟩ (by omega) Try.underlying25 p_act hfu2 one_act
  cases e2
  have hzz2 := hz2 z2
  rw [show Try.prog.bytesOf 36 = 24 by kernel_rfl] at hzz2
  unfold reachBytes at hzz2
  clear hA0 hval0
  refine (apart_law W cs0 cx0 cb0 cn0 ch0 ci0 cj0 ⟨sa1, sn1, sc1⟩ l1 hr1 (by omega) ⟨sa2, sn2, sc2⟩ l2 hr2 (by omega)).mono fun e W' ⟨he, bel⟩ => ?_
  subst he
  exact ⟨_, rfl, _, _, _, [], _, [], hW', trodAll_mk1 (shut_bool Try.underlying4 _), (trodAll_cons_mk (Below.trod laidOutUra (by kernel_rfl) (of_decide_eq_true (by kernel_rfl)) k0 bel lt0) (trodAll_cons_mk (Below.trod laidOutUra (by kernel_rfl) (of_decide_eq_true (by kernel_rfl)) k1 bel lt1) (trodAll_cons_mk (Below.trod laidOutUra (by kernel_rfl) (of_decide_eq_true (by kernel_rfl)) k2 bel lt2) trodAll_mk0))), rfl, bel.frame _, fun h => by cases h⟩
theorem clockApart_over : Rows.clockApartRow.holds Try.pinned (OpenSpec.ofChange Rows.clockApartSpec) :=
  OpenClaim.holds_of_wide 3 Try.f3 rfl rfl rfl rfl rfl rfl rfl ⟨rfl, rfl, rfl, rfl, rfl⟩ rfl rfl rfl rfl rfl (by kernel_rfl) Try.func3 (by kernel_rfl)
    (of_decide_eq_true (by kernel_rfl)) (by unfold Func.isWrapper; first | (rw [if_pos (by decide +kernel)]; kernel_rfl) | (rw [if_neg (by decide +kernel)]; exact ⟨rfl, rfl⟩))
    (fun os started H enc _ => clockApart_lifted os started H enc)
theorem clockApart_holds : Rows.ClockApartSaid := clockApart_over
#print axioms clockApart_holds
end Go.Proofs.Ytpoekphebmonnab
