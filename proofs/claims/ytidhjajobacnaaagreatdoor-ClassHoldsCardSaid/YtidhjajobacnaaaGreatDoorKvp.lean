import Derived.Test.YtidhjajobacnaaaGreatDoorKvo
import Derived.Deep.Cut
namespace Go.Proofs.YtidhjajobacnaaaGreatDoor
open Go.RowKit
set_option linter.unusedVariables false

/-! ### ClassHolds: its code, loop by loop -/
def seqR : Code → Code
  | .seq _ b => b
  | c => c
def seqL : Code → Code
  | .seq a _ => a
  | c => c
noncomputable def rest2 : Code := seqR (seqR (seqR (seqR (Tryz.f3.body.getD Code.skip))))
noncomputable def rest3 : Code := seqR (seqR (seqR (seqR (seqR (Tryz.f3.body.getD Code.skip)))))
theorem below_ab {B : Nat} {w W : World} (h : Below B w W) (hs : B ≤ W.heap.size) (o o' : Obj) : Below B w ((W.alloc o).alloc o').drew := by
  have h1 := below_alloc W o
  have h2 := h1.trans ((below_alloc (W.alloc o) o').mono h1.size)
  exact (h.trans (h2.mono hs)).drew
theorem cells_c {W : World} {b : Nat} {c : Cf} {v : Vs} (h : W.heap[b]? = some (.cells (cfC c v) 33 (0, 0))) :
    W.cell? ⟨b, 10, none⟩ = some (.slice v.m.a v.m.n v.m.c) ∧ W.cell? ⟨b, 11, none⟩ = some (.slice v.t.a v.t.n v.t.c) ∧ W.cell? ⟨b, 12, none⟩ = some (.slice v.r.a v.r.n v.r.c) ∧ W.cell? ⟨b, 13, none⟩ = some (.slice v.e.a v.e.n v.e.c) ∧ W.cell? ⟨b, 14, none⟩ = some (.slice v.k.a v.k.n v.k.c) ∧ W.cell? ⟨b, 15, none⟩ = some (.slice v.a.a v.a.n v.a.c) ∧ W.cell? ⟨b, 16, none⟩ = some (.slice v.i.a v.i.n v.i.c) := by
  obtain ⟨_, h10, h11, h12, h13, h14, h15, h16, _⟩ := var18_all h
  exact ⟨h10, h11, h12, h13, h14, h15, h16⟩
set_option maxHeartbeats 40000000 in
set_option maxRecDepth 100000 in
theorem tail3 (w w1 : World) (c : Cf) (v : Vs) (C : Array Value) (HM : Hid (May c)) (HC : Hid (CfAt w c v)) (hE : EnvE w) (hC : C = cfC c v) (hbw1 : Below w.heap.size w w1) (hV1 : w1.heap[w.heap.size]? = some (.cells C 33 (0, 0)))
    (t0 t2 t3 t4 t5 t6 t7 t8 t9 t10 t11 t12 t13 t14 t15 t16 t17 t18 t19 t20 t21 t22 t23 t24 t25 t26 t27 t28 t29 t30 t31 t32 t33 t34 t35 t36 t37 t38 t39 t40 t41 t42 t43 t44 t45 t46 t47 t48 t49 t50 t51 t52 t53 t54 t55 t56 t57 t58 t59 t60 t61 t62 t63 t64 t65 t66 t67 t68 t69 t70 t71 t72 t73 t74 t75 t76 t77 t78 t79 t80 t81 t82 t83 t84 t85 t86 t87 t88 t89 t90 t91 t92 t93 t94 t95 t96 t97 t98 t99 t100 t101 t102 t103 t104 t105 t106 t107 t108 t109 t110 t111 t112 t113 t114 t115 t116 t117 t118 t119 t120 t121 t122 t123 t124 t125 t126 t127 t128 t129 t130 t131 t132 t133 t134 t135 t136 t137 t138 t139 t140 t141 t142 t143 t144 t145 t146 t147 t148 t149 t150 t151 t152 t153 t154 t155 t156 t157 t158 t159 t160 t161 t162 t163 t164 t165 t166 t167 t168 t169 t170 t171 t172 t173 t174 t175 t176 t177 t178 t179 t180 t181 t182 t183 t184 t185 t186 t187 t188 t189 t190 t191 t192 t193 t194 t195 t196 t197 t198 t199 t200 t201 t202 t203 t204 t205 t206 t207 t208 t209 t210 t211 t212 t213 t214 t215 t216 t217 t218 t219 t220 t221 t222 t223 t224 t225 t226 t227 t228 t229 t230 t231 t232 t233 t234 t235 t236 t237 t238 t239 t240 t241 t242 t243 t244 t245 t246 t247 t248 t249 t250 t251 t252 t253 t254 t255 t256 t257 t258 t259 : Value) (wr : World) (HB : Hid (Below w1.heap.size w1 wr)) (K2 K1 : Act → World → Prop)
    (hK2 : ∀ a w', Code.wp Tryz.prog (seqR (seqL rest3)) (Exit.then K1 (bodyPost Tryz.prog Tryz.f3 (fun e w' => Ans w true e w'))) a w' → K2 a w')
    (hK1 : ∀ a w', Code.wp Tryz.prog (seqR rest3) (bodyPost Tryz.prog Tryz.f3 (fun e w' => Ans w true e w')) a w' → K1 a w') :
    Code.wp Tryz.prog (seqL (seqL rest3)) (Exit.then K2 (Exit.then K1 (bodyPost Tryz.prog Tryz.f3 (fun e w' => Ans w true e w')))) { tmps := #[t0, .pointer (some ⟨w.heap.size, 0, none⟩), t2, t3, t4, t5, t6, t7, t8, t9, t10, t11, t12, t13, t14, t15, t16, t17, t18, t19, t20, t21, t22, t23, t24, t25, t26, t27, t28, t29, t30, t31, t32, t33, t34, t35, t36, t37, t38, t39, t40, t41, t42, t43, t44, t45, t46, t47, t48, t49, t50, t51, t52, t53, t54, t55, t56, t57, t58, t59, t60, t61, t62, t63, t64, t65, t66, t67, t68, t69, t70, t71, t72, t73, t74, t75, t76, t77, t78, t79, t80, t81, t82, t83, t84, t85, t86, t87, t88, t89, t90, t91, t92, t93, t94, t95, t96, t97, t98, t99, t100, t101, t102, t103, t104, t105, t106, t107, t108, t109, t110, t111, t112, t113, t114, t115, t116, t117, t118, t119, t120, t121, t122, t123, t124, t125, t126, t127, t128, t129, t130, t131, t132, t133, t134, t135, t136, t137, t138, t139, t140, t141, t142, t143, t144, t145, t146, t147, t148, t149, t150, t151, t152, t153, t154, t155, t156, t157, t158, t159, t160, t161, t162, t163, t164, t165, t166, t167, t168, t169, t170, t171, t172, t173, t174, t175, t176, t177, t178, t179, t180, t181, t182, t183, t184, t185, t186, t187, t188, t189, t190, t191, t192, t193, t194, t195, t196, t197, t198, t199, t200, t201, t202, t203, t204, t205, t206, t207, t208, t209, t210, t211, t212, t213, t214, t215, t216, t217, t218, t219, t220, t221, t222, t223, t224, t225, t226, t227, t228, t229, t230, t231, t232, t233, t234, t235, t236, t237, t238, t239, t240, t241, t242, t243, t244, t245, t246, t247, t248, t249, t250, t251, t252, t253, t254, t255, t256, t257, t258, t259], defers := [] } wr := by
  have kh := fun W (hW : Below w.heap.size w W) => heads_any W (hE.below hW)
  have HNk : Hid (v.k.n = c.ctrs.length) := HC.out.k.n
  have HNa : Hid (v.a.n = c.als.length) := HC.out.a.n
  have HNi : Hid (v.i.n = c.isrs.length) := HC.out.i.n
  have ha1 : v.a.n ≤ 64 := by have := HM.out.a.1; rw [← HNa.out] at this; simp [inR] at this; omega
  have hi1 : v.i.n ≤ 32 := by have := HM.out.i.1; rw [← HNi.out] at this; simp [inR] at this; omega
  have hcc : Hid (∀ W : World, W.heap[w.heap.size]? = some (.cells C 33 (0, 0)) → W.cell? ⟨w.heap.size, 10, none⟩ = some (.slice v.m.a v.m.n v.m.c) ∧ W.cell? ⟨w.heap.size, 11, none⟩ = some (.slice v.t.a v.t.n v.t.c) ∧ W.cell? ⟨w.heap.size, 12, none⟩ = some (.slice v.r.a v.r.n v.r.c) ∧ W.cell? ⟨w.heap.size, 13, none⟩ = some (.slice v.e.a v.e.n v.e.c) ∧ W.cell? ⟨w.heap.size, 14, none⟩ = some (.slice v.k.a v.k.n v.k.c) ∧ W.cell? ⟨w.heap.size, 15, none⟩ = some (.slice v.a.a v.a.n v.a.c) ∧ W.cell? ⟨w.heap.size, 16, none⟩ = some (.slice v.i.a v.i.n v.i.c)) := fun W hW => cells_c (by rw [hC] at hW; exact hW)
  have hgr := heap_lt hV1
  unfold rest3 at *
  simp only [seqL, seqR, Tryz.f3, Option.getD_some] at hK1 hK2 ⊢
  go_wp2
  go_loopw [15, 16] (fun iv _ wr => ∃ i : Nat, i ≤ v.a.n ∧ iv = .int .i64 i ∧ Hid (Below w1.heap.size w1 wr)) (fun iv _ _ => v.a.n - (intOf iv).toNat)
  case atStart => exact ⟨0, by omega, rfl, HB.out⟩
  case round =>
    clear HB
    obtain ⟨i, hi, rfl, HBi⟩ := hrel
    rename_i wa _
    have hVi := (HBi.out.block _ (heap_lt hV1)).trans hV1
    have hbi := hbw1.trans (HBi.out.mono hbw1.size)
    obtain ⟨z10, z11, z12, z13, z14, z15, z16⟩ := hcc.out _ hVi
    clear z10 z11 z12 z13 z16
    have hgi := heap_lt hVi
    by_cases hia : i < v.a.n
    · have hia' : (i : Int) < v.a.n := by omega
      obtain ⟨x, hx⟩ : ∃ x, c.als[i]? = some x := ⟨_, List.getElem?_eq_getElem (by rw [← HNa.out]; exact hia)⟩
      obtain ⟨p, y, hp, hy, htm⟩ := may_alarm HM.out hx
      obtain ⟨g, off, s6, e, hg, a0, a1, a2, a3, a4, a5, a6, a7, a8, r6⟩ := al_at (HC.out.below hbi) hx
      obtain ⟨gc, oc, ec, hgc, d0, d1, d2, d3⟩ := ct_at (HC.out.below hbi) hy
      rw [hp] at a1
      have hn6 : s6.n = x.auto.length := r6.n
      have hsplit : (s6.n : Int) > 0 ∧ ¬ (x.time : Int) < 1 ∧ ¬ (x.time : Int) > y.max ∨ ¬ (s6.n : Int) > 0 := by
        rcases Nat.eq_zero_or_pos s6.n with h0 | h0
        · exact .inr (by omega)
        · have := htm (by omega)
          exact .inl ⟨by omega, by omega, by omega⟩
      have hpl : p < c.ctrs.length := (List.getElem?_eq_some_iff.1 hy).1
      have hp0 : ¬ (p : Int) < 0 := by omega
      have hp1 : ¬ v.k.n ≤ p := by have := HNk.out; omega
      have hp2 : (p : Int) < v.k.n := by omega
      have hst : (storeCells ⟨wr.heap.size, 0, none⟩ [S x.name, I (p : Int), I x.ac.kind, I x.ac.task, I x.ac.event, S x.ac.name, .slice s6.a s6.n s6.c, .int .u32 (x.time : Int), .int .u32 (x.cycle : Int)] 0).run Tryz.prog (wr.alloc (.cells #[.string ⟨#[]⟩, .int .i64 0, .int .i64 0, .int .i64 0, .int .i64 0, .string ⟨#[]⟩, .slice none 0 0, .int .u32 0, .int .u32 0] 52)) = .ok () (wr.alloc (.cells #[S x.name, I (p : Int), I x.ac.kind, I x.ac.task, I x.ac.event, S x.ac.name, .slice s6.a s6.n s6.c, .int .u32 (x.time : Int), .int .u32 (x.cycle : Int)] 52)) :=
        run_storeCells_new (P := Tryz.prog) wr 52 #[.string ⟨#[]⟩, .int .i64 0, .int .i64 0, .int .i64 0, .int .i64 0, .string ⟨#[]⟩, .slice none 0 0, .int .u32 0, .int .u32 0] #[S x.name, I (p : Int), I x.ac.kind, I x.ac.task, I x.ac.event, S x.ac.name, .slice s6.a s6.n s6.c, .int .u32 (x.time : Int), .int .u32 (x.cycle : Int)] (by kernel_rfl) rfl (by simp [Value.oneCell'])
      have hal := below_alloc wr (.cells #[S x.name, I (p : Int), I x.ac.kind, I x.ac.task, I x.ac.event, S x.ac.name, .slice s6.a s6.n s6.c, .int .u32 (x.time : Int), .int .u32 (x.cycle : Int)] 52)
      have HB2 : Hid (Below w1.heap.size w1 (wr.alloc (.cells #[S x.name, I (p : Int), I x.ac.kind, I x.ac.task, I x.ac.event, S x.ac.name, .slice s6.a s6.n s6.c, .int .u32 (x.time : Int), .int .u32 (x.cycle : Int)] 52))) := HBi.out.trans (hal.mono HBi.out.size)
      have hgne : g ≠ wr.heap.size := Nat.ne_of_lt hg
      have hgcn : gc ≠ wr.heap.size := Nat.ne_of_lt hgc
      rw [e] at z15
      rw [ec] at z14
      clear hx hy hp htm e ec hn6 hpl hal r6 hVi hbi d0 d2 d3
      rcases hsplit with ⟨hs0, hs1, hs2⟩ | hs0
      · go_wp2
        have hp3 : ¬ (p : Int) < 0 := by omega
        have hp4 : ¬ v.k.n ≤ p := by omega
        have hs3 : ¬ (x.time : Int) < 1 := by omega
        have hs4 : ¬ (x.time : Int) > y.max := by omega
        have hs5 : 0 < s6.n := by omega
        have hs6 : (s6.n : Int) > 0 := by omega
        have hs7 : ¬ x.time < 1 := by omega
        have hs8 : ¬ y.max < x.time := by omega
        have hs9 : ¬ x.time = 0 := by omega
        go_big_quiet (fail)
        go_wp2
        go_roundw
        case rel => exact ⟨i + 1, by omega, by go_num, below_drewN HB2.out _⟩
        case measure => simp [intOf]; omega
      · go_wp2
        have hp3 : ¬ (p : Int) < 0 := by omega
        have hp4 : ¬ v.k.n ≤ p := by omega
        have hs3 : ¬ (s6.n : Int) > 0 := by omega
        have hs5 : ¬ 0 < s6.n := by omega
        go_big_quiet (fail)
        go_wp2
        go_roundw
        case rel => exact ⟨i + 1, by omega, by go_num, below_drewN HB2.out _⟩
        case measure => simp [intOf]; omega
    · obtain rfl : i = v.a.n := by omega
      have hia' : ¬ ((v.a.n : Nat) : Int) < (v.a.n : Nat) := by omega
      go_wp2_with (go_at_call 8; refine (kh _ hbi).mono ?_; rintro e w7 ⟨rfl, hb7⟩)
      go_ret
      exact ⟨rfl, hbi.trans (hb7.mono hbi.size)⟩
end Go.Proofs.YtidhjajobacnaaaGreatDoor
