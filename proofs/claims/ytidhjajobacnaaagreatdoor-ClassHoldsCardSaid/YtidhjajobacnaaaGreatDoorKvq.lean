import Derived.Test.YtidhjajobacnaaaGreatDoorKvp
namespace Go.Proofs.YtidhjajobacnaaaGreatDoor
open Go.RowKit
set_option linter.unusedVariables false

set_option maxHeartbeats 40000000 in
set_option maxRecDepth 100000 in
theorem tail2 (w w1 : World) (c : Cf) (v : Vs) (C : Array Value) (HM : Hid (May c)) (HC : Hid (CfAt w c v)) (hE : EnvE w) (hC : C = cfC c v) (hbw1 : Below w.heap.size w w1) (hV1 : w1.heap[w.heap.size]? = some (.cells C 33 (0, 0)))
    (t0 t2 t3 t4 t5 t6 t7 t8 t9 t10 t11 t12 t13 t14 t15 t16 t17 t18 t19 t20 t21 t22 t23 t24 t25 t26 t27 t28 t29 t30 t31 t32 t33 t34 t35 t36 t37 t38 t39 t40 t41 t42 t43 t44 t45 t46 t47 t48 t49 t50 t51 t52 t53 t54 t55 t56 t57 t58 t59 t60 t61 t62 t63 t64 t65 t66 t67 t68 t69 t70 t71 t72 t73 t74 t75 t76 t77 t78 t79 t80 t81 t82 t83 t84 t85 t86 t87 t88 t89 t90 t91 t92 t93 t94 t95 t96 t97 t98 t99 t100 t101 t102 t103 t104 t105 t106 t107 t108 t109 t110 t111 t112 t113 t114 t115 t116 t117 t118 t119 t120 t121 t122 t123 t124 t125 t126 t127 t128 t129 t130 t131 t132 t133 t134 t135 t136 t137 t138 t139 t140 t141 t142 t143 t144 t145 t146 t147 t148 t149 t150 t151 t152 t153 t154 t155 t156 t157 t158 t159 t160 t161 t162 t163 t164 t165 t166 t167 t168 t169 t170 t171 t172 t173 t174 t175 t176 t177 t178 t179 t180 t181 t182 t183 t184 t185 t186 t187 t188 t189 t190 t191 t192 t193 t194 t195 t196 t197 t198 t199 t200 t201 t202 t203 t204 t205 t206 t207 t208 t209 t210 t211 t212 t213 t214 t215 t216 t217 t218 t219 t220 t221 t222 t223 t224 t225 t226 t227 t228 t229 t230 t231 t232 t233 t234 t235 t236 t237 t238 t239 t240 t241 t242 t243 t244 t245 t246 t247 t248 t249 t250 t251 t252 t253 t254 t255 t256 t257 t258 t259 : Value) (wr : World) (HB : Hid (Below w1.heap.size w1 wr)) (K2 K1 : Act → World → Prop)
    (hK2 : ∀ a w', Code.wp Tryz.prog (seqR (seqL rest2)) (Exit.then K1 (bodyPost Tryz.prog Tryz.f3 (fun e w' => Ans w true e w'))) a w' → K2 a w')
    (hK1 : ∀ a w', Code.wp Tryz.prog (seqR rest2) (bodyPost Tryz.prog Tryz.f3 (fun e w' => Ans w true e w')) a w' → K1 a w') :
    Code.wp Tryz.prog (seqL (seqL rest2)) (Exit.then K2 (Exit.then K1 (bodyPost Tryz.prog Tryz.f3 (fun e w' => Ans w true e w')))) { tmps := #[t0, .pointer (some ⟨w.heap.size, 0, none⟩), t2, t3, t4, t5, t6, t7, t8, t9, t10, t11, t12, t13, t14, t15, t16, t17, t18, t19, t20, t21, t22, t23, t24, t25, t26, t27, t28, t29, t30, t31, t32, t33, t34, t35, t36, t37, t38, t39, t40, t41, t42, t43, t44, t45, t46, t47, t48, t49, t50, t51, t52, t53, t54, t55, t56, t57, t58, t59, t60, t61, t62, t63, t64, t65, t66, t67, t68, t69, t70, t71, t72, t73, t74, t75, t76, t77, t78, t79, t80, t81, t82, t83, t84, t85, t86, t87, t88, t89, t90, t91, t92, t93, t94, t95, t96, t97, t98, t99, t100, t101, t102, t103, t104, t105, t106, t107, t108, t109, t110, t111, t112, t113, t114, t115, t116, t117, t118, t119, t120, t121, t122, t123, t124, t125, t126, t127, t128, t129, t130, t131, t132, t133, t134, t135, t136, t137, t138, t139, t140, t141, t142, t143, t144, t145, t146, t147, t148, t149, t150, t151, t152, t153, t154, t155, t156, t157, t158, t159, t160, t161, t162, t163, t164, t165, t166, t167, t168, t169, t170, t171, t172, t173, t174, t175, t176, t177, t178, t179, t180, t181, t182, t183, t184, t185, t186, t187, t188, t189, t190, t191, t192, t193, t194, t195, t196, t197, t198, t199, t200, t201, t202, t203, t204, t205, t206, t207, t208, t209, t210, t211, t212, t213, t214, t215, t216, t217, t218, t219, t220, t221, t222, t223, t224, t225, t226, t227, t228, t229, t230, t231, t232, t233, t234, t235, t236, t237, t238, t239, t240, t241, t242, t243, t244, t245, t246, t247, t248, t249, t250, t251, t252, t253, t254, t255, t256, t257, t258, t259], defers := [] } wr := by
  have kh := fun W (hW : Below w.heap.size w W) => heads_any W (hE.below hW)
  have HNk : Hid (v.k.n = c.ctrs.length) := HC.out.k.n
  have HNa : Hid (v.a.n = c.als.length) := HC.out.a.n
  have HNi : Hid (v.i.n = c.isrs.length) := HC.out.i.n
  have ha1 : v.a.n ≤ 64 := by have := HM.out.a.1; rw [← HNa.out] at this; simp [inR] at this; omega
  have hi1 : v.i.n ≤ 32 := by have := HM.out.i.1; rw [← HNi.out] at this; simp [inR] at this; omega
  have hcc : Hid (∀ W : World, W.heap[w.heap.size]? = some (.cells C 33 (0, 0)) → W.cell? ⟨w.heap.size, 10, none⟩ = some (.slice v.m.a v.m.n v.m.c) ∧ W.cell? ⟨w.heap.size, 11, none⟩ = some (.slice v.t.a v.t.n v.t.c) ∧ W.cell? ⟨w.heap.size, 12, none⟩ = some (.slice v.r.a v.r.n v.r.c) ∧ W.cell? ⟨w.heap.size, 13, none⟩ = some (.slice v.e.a v.e.n v.e.c) ∧ W.cell? ⟨w.heap.size, 14, none⟩ = some (.slice v.k.a v.k.n v.k.c) ∧ W.cell? ⟨w.heap.size, 15, none⟩ = some (.slice v.a.a v.a.n v.a.c) ∧ W.cell? ⟨w.heap.size, 16, none⟩ = some (.slice v.i.a v.i.n v.i.c)) := fun W hW => cells_c (by rw [hC] at hW; exact hW)
  have hgr := heap_lt hV1
  unfold rest2 at *
  simp only [seqL, seqR, Tryz.f3, Option.getD_some] at hK1 hK2 ⊢
  go_wp2
  go_loopw [11, 12, 13, 14] (fun iv _ _ _ wr => ∃ i : Nat, i ≤ v.i.n ∧ iv = .int .i64 i ∧ Hid (Below w1.heap.size w1 wr)) (fun iv _ _ _ _ => v.i.n - (intOf iv).toNat)
  case atStart => exact ⟨0, by omega, rfl, HB.out⟩
  case round =>
    clear HB
    obtain ⟨i, hi, rfl, HBi⟩ := hrel
    rename_i wi _
    have hVi := (HBi.out.block _ (heap_lt hV1)).trans hV1
    obtain ⟨z10, z11, z12, z13, z14, z15, z16⟩ := hcc.out _ hVi
    clear z10 z11 z12 z13 z14
    by_cases hii : i < v.i.n
    · have hii' : (i : Int) < v.i.n := by omega
      obtain ⟨xa, hxa⟩ : ∃ x, c.isrs[i]? = some x := ⟨_, List.getElem?_eq_getElem (by rw [← HNi.out]; exact hii)⟩
      have HXA : Hid (c.isrs[i]? = some xa) := hxa
      clear hxa
      go_wp2
      clear z15 z16
      go_loopw [12, 13, 14] (fun kv _ _ wr => ∃ k : Nat, k ≤ v.i.n ∧ kv = .int .i64 k ∧ Hid (Below w1.heap.size w1 wr)) (fun kv _ _ _ => v.i.n - (intOf kv).toNat)
      case atStart => exact ⟨0, by omega, rfl, HBi.out⟩
      case round =>
        clear HBi hVi
        obtain ⟨k, hk, rfl, HBk⟩ := hrel
        rename_i wk _
        have hVk := (HBk.out.block _ (heap_lt hV1)).trans hV1
        obtain ⟨z10, z11, z12, z13, z14, z15, z16⟩ := hcc.out _ hVk
        clear z10 z11 z12 z13 z14 z15
        by_cases hkk : k < v.i.n
        · have hkk' : (k : Int) < v.i.n := by omega
          obtain ⟨xb, hxb⟩ : ∃ x, c.isrs[k]? = some x := ⟨_, List.getElem?_eq_getElem (by rw [← HNi.out]; exact hkk)⟩
          obtain ⟨hq1, hq2⟩ := may_isrs HM.out HXA.out hxb
          have hbk := hbw1.trans (HBk.out.mono hbw1.size)
          obtain ⟨ga, oa, s3, s4, ea, hga, a0, a1, a2, a3, a4, _, _⟩ := is_at (HC.out.below hbk) HXA.out
          obtain ⟨gb, ob, t3, t4, eb, hgb, b0, b1, b2, b3, b4, _, _⟩ := is_at (HC.out.below hbk) hxb
          rw [ea] at eb
          obtain ⟨rfl, rfl⟩ : ga = gb ∧ oa = ob := by cases eb; exact ⟨rfl, rfl⟩
          rw [ea] at z16
          have hgk : w.heap.size < _ := heap_lt hVk
          have hP : (((i : Int) != k) = true ∧ (xa.prio == xb.prio) = false) ∨ ((i : Int) != k) = false := by
            by_cases e : i = k
            · subst e; exact .inr (by simp)
            · refine .inl ⟨by simp; omega, ?_⟩
              simpa using hq1 e
          have hQ : (xa.cat == 1) = false ∨ ((xa.cat == 1) = true ∧ (xb.cat == 2) = false) ∨ ((xa.cat == 1) = true ∧ (xb.cat == 2) = true ∧ ¬ xa.prio < xb.prio) := by
            cases e1 : xa.cat == 1 with
            | false => exact .inl rfl
            | true =>
              cases e2 : xb.cat == 2 with
              | false => exact .inr (.inl ⟨rfl, rfl⟩)
              | true => exact .inr (.inr ⟨rfl, rfl, hq2 (by simpa using e1) (by simpa using e2)⟩)
          have HPQ : Hid (((((i : Int) != k) = true ∧ (xa.prio == xb.prio) = false) ∨ ((i : Int) != k) = false) ∧ ((xa.cat == 1) = false ∨ ((xa.cat == 1) = true ∧ (xb.cat == 2) = false) ∨ ((xa.cat == 1) = true ∧ (xb.cat == 2) = true ∧ ¬ xa.prio < xb.prio))) := ⟨hP, hQ⟩
          clear eb hxb ea hVk hbk hq1 hq2 hP hQ
          go_wp2
          go_big_region
          all_goals
            obtain ⟨hP, hQ⟩ := HPQ.out
            clear HPQ a0 a1 a2 a3 a4 b0 b1 b2 b3 b4 z16
            rcases hP with ⟨hP1, hP2⟩ | hP1 <;> rcases hQ with hQ1 | ⟨hQ1, hQ2⟩ | ⟨hQ1, hQ2, hQ3⟩ <;>
            (go_wp2
             go_roundw
             case rel => exact ⟨k + 1, by omega, by go_num, below_ab HBk.out HBk.out.size _ _⟩
             case measure => simp [intOf]; omega)
        · obtain rfl : k = v.i.n := by omega
          have hkk' : ¬ ((v.i.n : Nat) : Int) < (v.i.n : Nat) := by omega
          go_wp2
          go_roundw
          case rel => exact ⟨i + 1, by omega, by go_num, HBk⟩
          case measure => simp [intOf]; omega
    · obtain rfl : i = v.i.n := by omega
      have hii' : ¬ ((v.i.n : Nat) : Int) < (v.i.n : Nat) := by omega
      go_upto_region 40 with fail
      exact tail3 w w1 c v C HM HC hE hC hbw1 hV1 _ _ _ _ _ _ _ _ _ _ _ _ _ _ _ _ _ _ _ _ _ _ _ _ _ _ _ _ _ _ _ _ _ _ _ _ _ _ _ _ _ _ _ _ _ _ _ _ _ _ _ _ _ _ _ _ _ _ _ _ _ _ _ _ _ _ _ _ _ _ _ _ _ _ _ _ _ _ _ _ _ _ _ _ _ _ _ _ _ _ _ _ _ _ _ _ _ _ _ _ _ _ _ _ _ _ _ _ _ _ _ _ _ _ _ _ _ _ _ _ _ _ _ _ _ _ _ _ _ _ _ _ _ _ _ _ _ _ _ _ _ _ _ _ _ _ _ _ _ _ _ _ _ _ _ _ _ _ _ _ _ _ _ _ _ _ _ _ _ _ _ _ _ _ _ _ _ _ _ _ _ _ _ _ _ _ _ _ _ _ _ _ _ _ _ _ _ _ _ _ _ _ _ _ _ _ _ _ _ _ _ _ _ _ _ _ _ _ _ _ _ _ _ _ _ _ _ _ _ _ _ _ _ _ _ _ _ _ _ _ _ _ _ _ _ _ _ _ _ _ _ _ _ _ _ _ _ _ _ _ HBi _ _ (by assumption) (by assumption)
end Go.Proofs.YtidhjajobacnaaaGreatDoor
