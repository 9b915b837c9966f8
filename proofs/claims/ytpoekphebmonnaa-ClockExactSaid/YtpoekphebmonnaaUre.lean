import Derived.Test.YtpoekphebmonnaaRows
import Derived.Test.YtpoekphebmonnaaUyl
import Derived.ProofKit
import Derived.OpenShut
import Derived.ShutString
import Derived.ChangeOld
import Derived.SizedLaws
namespace Go.Proofs.Ytpoekphebmonnaa
open Go.ChangeShapes Go.WideShapes Go.ChangeAt Go.RowKit
set_option linter.unusedVariables false

theorem ownUre : ownKnob Try.prog.godebug = none := by kernel_rfl
theorem laidOutUre : laidOutB Try.prog = true := by kernel_rfl
set_option maxRecDepth 100000 in
theorem clockExact_lifted (os : Os) (started : os.Started) (H : Type) (enc : TypeId × Value → H) :
    ReturnsInHanded {} Try.checked os 4 .any (Rows.clockExactSpec.pre6 enc Try.prog Try.f4 Rows.clockExactRow.domain false) (Rows.clockExactSpec.post enc Try.prog Try.f4 false true false false) := by
  refine returnsInHanded_of_change_sized (C := Try.checked) ownUre started (by kernel_rfl) Try.func4
    (ChangeSpec.witness6 (enc := enc) (C := Try.checked) false ⟨#[], #[.agg #[.string ⟨#[]⟩, .int .u32 0, .int .u32 0, .int .u32 0], .int .u16 0, .bool false, .int .u32 0, .int .u32 0, .slice none 0 0, .int .u16 0], []⟩ 8 (by kernel_rfl) (by kernel_rfl) (by kernel_rfl) (by kernel_rfl)) ?_
  intro W base args ds gs before hval0 hW hcnd hsz0 _
  have hval : ∀ (j : Nat) t v, Try.f4.params[j]? = some t → args[j]? = some v → Value.okWide Try.prog W .any base t v := hval0
  have hsz : (DataW.weightsEach Try.prog (Try.f4.params.toList ++ Rows.clockExactSpec.plain.varTypes Try.prog) (ds ++ gs)).all (· ≤ reachBytes) = true := hsz0
  have hW' := hW
  obtain ⟨p, q, hA0, hV, rfl, hfz, hnd⟩ := hW
  have hA : DataW.TrodAll enc Try.prog W 0 (fun _ => true) true Try.f4.params.toList args.toList ds p := hA0
  rw [Try.params4] at hA hval hsz
  obtain ⟨v0, vs0, d0, ds0, p0, q0, hargs, rfl, rfl, h0, r0⟩ := trodAll_cons hA
  obtain ⟨v1, vs1, d1, ds1, p1, q1, rfl, rfl, rfl, h1, r1⟩ := trodAll_cons r0
  obtain ⟨v2, vs2, d2, ds2, p2, q2, rfl, rfl, rfl, h2, r2⟩ := trodAll_cons r1
  obtain ⟨v3, vs3, d3, ds3, p3, q3, rfl, rfl, rfl, h3, r3⟩ := trodAll_cons r2
  obtain ⟨v4, vs4, d4, ds4, p4, q4, rfl, rfl, rfl, h4, r4⟩ := trodAll_cons r3
  obtain ⟨v5, vs5, d5, ds5, p5, q5, rfl, rfl, rfl, h5, r5⟩ := trodAll_cons r4
  obtain ⟨v6, vs6, d6, ds6, p6, q6, rfl, rfl, rfl, h6, r6⟩ := trodAll_cons r5
  obtain ⟨rfl, rfl, rfl⟩ := trodAll_nil r6
  obtain rfl : args = #[v0, v1, v2, v3, v4, v5, v6] := by cases args; simp_all
  obtain ⟨rfl, rfl⟩ := trodVars_none hV
  have k0 := h0
  have lt0 : ∀ x ∈ p0, x.block < W.heap.size := by obtain ⟨m, hm⟩ := k0; exact DataW.trod_lt m _ _ _ hm
  obtain ⟨cs0, cx0, cb0, cn0, rfl, ch0, ci0, cj0⟩ := ctr_open (hval 0 30 v0 rfl rfl) h0
  obtain ⟨a1, rfl, rfl, rfl, w1⟩ := open_int Try.underlying31 (hval 1 31 v1 rfl rfl) h1
  have wb1 := w1
  obtain ⟨m1, rfl⟩ := Int.eq_ofNat_of_zero_le (bounds_u16 wb1).1
  have hb1 : m1 < 65536 := by have := (bounds_u16 wb1).2; omega
  obtain ⟨a2, rfl, rfl, rfl⟩ := open_bool Try.underlying4 (hval 2 4 v2 rfl rfl) h2
  obtain ⟨a3, rfl, rfl, rfl, w3⟩ := open_int Try.underlying22 (hval 3 22 v3 rfl rfl) h3
  have wb3 := w3
  obtain ⟨m3, rfl⟩ := Int.eq_ofNat_of_zero_le (bounds_u32 wb3).1
  have hb3 : m3 < 4294967296 := by have := (bounds_u32 wb3).2; omega
  obtain ⟨a4, rfl, rfl, rfl, w4⟩ := open_int Try.underlying22 (hval 4 22 v4 rfl rfl) h4
  have wb4 := w4
  obtain ⟨m4, rfl⟩ := Int.eq_ofNat_of_zero_le (bounds_u32 wb4).1
  have hb4 : m4 < 4294967296 := by have := (bounds_u32 wb4).2; omega
  have k5 := h5
  have lt5 : ∀ x ∈ p5, x.block < W.heap.size := by obtain ⟨m, hm⟩ := k5; exact DataW.trod_lt m _ _ _ hm
  have z5 : Sized (d5.weights Try.prog 32) := fun n hn => sized_of_all hsz n (DataW.weights_mem_each (j := 5) rfl rfl n hn)
  obtain ⟨aa5, nn5, cc5, rfl⟩ := okWide_slice Try.underlying32 (hval 5 32 v5 rfl rfl)
  obtain ⟨fu5, hfu5⟩ := h5
  obtain ⟨⟨sa5, sn5, sc5⟩, l5, e5, hr5, hz5⟩ := rows_open ⟨(0, 0, 0, 0)⟩ (by omega) Try.underlying32 p_act hfu5 one_act
  cases e5
  have hzz5 := hz5 z5
  rw [show Try.prog.bytesOf 46 = 24 by kernel_rfl] at hzz5
  unfold reachBytes at hzz5
  obtain ⟨a6, rfl, rfl, rfl, w6⟩ := open_int Try.underlying31 (hval 6 31 v6 rfl rfl) h6
  have wb6 := w6
  obtain ⟨m6, rfl⟩ := Int.eq_ofNat_of_zero_le (bounds_u16 wb6).1
  have hb6 : m6 < 65536 := by have := (bounds_u16 wb6).2; omega
  clear hA0 hval0
  refine (exact_law W cs0 cx0 cb0 cn0 ch0 ci0 cj0 m1 hb1 a2 m3 hb3 m4 hb4 ⟨sa5, sn5, sc5⟩ l5 hr5 (by omega) m6 hb6).mono fun e W' ⟨he, bel⟩ => ?_
  subst he
  exact ⟨_, rfl, _, _, _, [], _, [], hW', trodAll_mk1 (shut_bool Try.underlying4 _), (trodAll_cons_mk (Below.trod laidOutUre (by kernel_rfl) (of_decide_eq_true (by kernel_rfl)) k0 bel lt0) (trodAll_cons_mk (shut_int Try.underlying31 w1) (trodAll_cons_mk (shut_bool Try.underlying4 _) (trodAll_cons_mk (shut_int Try.underlying22 w3) (trodAll_cons_mk (shut_int Try.underlying22 w4) (trodAll_cons_mk (Below.trod laidOutUre (by kernel_rfl) (of_decide_eq_true (by kernel_rfl)) k5 bel lt5) (trodAll_cons_mk (shut_int Try.underlying31 w6) trodAll_mk0))))))), rfl, bel.frame _, fun h => by cases h⟩
theorem clockExact_over : Rows.clockExactRow.holds Try.pinned (OpenSpec.ofChange Rows.clockExactSpec) :=
  OpenClaim.holds_of_wide 4 Try.f4 rfl rfl rfl rfl rfl rfl rfl ⟨rfl, rfl, rfl, rfl, rfl⟩ rfl rfl rfl rfl rfl (by kernel_rfl) Try.func4 (by kernel_rfl)
    (of_decide_eq_true (by kernel_rfl)) (by unfold Func.isWrapper; first | (rw [if_pos (by decide +kernel)]; kernel_rfl) | (rw [if_neg (by decide +kernel)]; exact ⟨rfl, rfl⟩))
    (fun os started H enc _ => clockExact_lifted os started H enc)
theorem clockExact_holds : Rows.ClockExactSaid := clockExact_over
#print axioms clockExact_holds
end Go.Proofs.Ytpoekphebmonnaa
