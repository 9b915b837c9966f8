import Derived.Test.YtapfbinaocaclaaEmX
import Derived.Test.YtapfbinaocaclaaLge8
import Derived.Deep.Cut
namespace Go.Proofs.Ytapfbinaocaclaa
open Go.RowKit Go.Sort
set_option linter.unusedVariables false
set_option linter.unusedSimpArgs false

/-! ### CeilOwn: what stands behind the calls -/
def seqR : Code → Code
  | .seq _ b => b
  | c => c
def seqL : Code → Code
  | .seq a _ => a
  | c => c
noncomputable def restO : Code := seqR (seqR (seqR (seqR (seqR (seqR (seqR (seqR (seqR (seqR (Try.f7.body.getD Code.skip))))))))))
theorem wpList_id {P : Program} {ops : Array Oper} {Q : Exit → Act → World → Prop} {l : List Oper} {a : Act} {w : World} (h : wpList P ops Q l a w) : wpList P ops Q l a w := h
set_option maxHeartbeats 40000000 in
set_option maxRecDepth 100000 in
theorem own_tail (w A9 : World) (c : Cf) (X : Ce) (E : Int) (C CI : Array Value) (y0 y2 y3 y4 t0 t2 t3 t4 sb sg tt tr ti : Sl) (L1 : List Int) (us : List Sl) (ls : List (List Int)) (B D X2 X6 X8 : Nat)
    (hi5 : (Try.prog.info? 36).map (·.size) = some 5) (hi18 : (Try.prog.info? 33).map (·.size) = some C.size) (hi18' : (Try.prog.info? 33).map (·.size) = some CI.size)
    (K8 : Hid (∀ W s0 s2 s3 s4 t0 t2 t3 t4, CeAt W X s0 s2 s3 s4 → CeAt W X t0 t2 t3 t4 → Calls Try.prog 18 #[.agg (ceC X.sch s0 s2 s3 s4), .agg (ceC X.sch t0 t2 t3 t4)] W fun e w' => e = .returned (.bool true) ∧ Below W.heap.size W w'))
    (K7' : Hid (∀ W, Below w.heap.size w W → CfAt W (cpyC c) (cpV tt tr ti) → Calls Try.prog 19 #[.agg C, .agg CI] W fun e w' => e = .returned (.bool true) ∧ Below W.heap.size W w'))
    (HK : Hid (∀ W, Frm us A9 W → (W.heap[w.heap.size]? = some (.cells C 33 (0, 0)) ∧ Below w.heap.size w W) ∧ W.heap[X2]? = some (.cells #[.slice y0.a y0.n y0.c, I X.sch, .slice y2.a y2.n y2.c, .slice y3.a y3.n y3.c, .slice y4.a y4.n y4.c] 36 (0, 0)) ∧ W.heap[X6]? = some (.cells #[.slice t0.a t0.n t0.c, I X.sch, .slice t2.a t2.n t2.c, .slice t3.a t3.n t3.c, .slice t4.a t4.n t4.c] 36 (0, 0)) ∧ W.heap[X8]? = some (.cells CI 33 (0, 0)) ∧ CeAt W X y0 y2 y3 y4 ∧ CeAt W X t0 t2 t3 t4 ∧ RowsAt W 1 intP sb L1 ∧ RowsAt W 1 intP sg L1 ∧ CfAt W (cpyC c) (cpV tt tr ti) ∧ ∀ i s, us[i]? = some s → W.cell? ⟨D, i, none⟩ = some (slV s)))
    (HU : Hid (∀ i, i < 7 → ∃ s l, us[i]? = some s ∧ ls[i]? = some l ∧ s.n = l.length ∧ s.n ≤ s.c ∧ s.c ≤ maxLen ∧ l.length ≤ 8796093022208 ∧ (0 < s.n → ∃ g, s.a = some ⟨g, 0, none⟩)))
    (HBW : Hid (B ≤ A9.heap.size)) (HS : Hid (Sev B us ls A9 A9))
    (m0 m1 m3 m5 m8 m9 m10 m12 m13 m14 m15 m17 m19 m22 m23 m24 m25 m26 m27 m28 m29 m30 m31 m32 m33 m34 m35 m36 m37 m38 m39 m40 m41 m42 m43 m44 m45 m46 m47 m48 m49 m50 m51 m52 m53 m54 m55 m56 m57 m58 m59 m60 m61 m62 m63 m64 m65 m66 m67 m68 m69 m70 m71 m72 m73 m74 m75 m76 m77 m78 m79 m80 m81 m82 m83 m84 m85 m86 m87 m88 m89 m90 m91 m92 m93 m94 m95 m96 m97 m98 m99 m100 m101 m102 m103 m104 m105 m106 m107 m108 m109 m110 m111 m112 m113 m114 m115 m116 m117 m118 m119 m120 m121 m122 m123 m124 m125 m126 m127 m128 m129 m130 m131 m132 m133 m134 m135 m136 m137 m138 m139 m140 m141 m142 m143 m144 m145 m146 m147 m148 m149 m150 m151 m152 m153 m154 m155 m156 m157 m158 m159 m160 m161 m162 m163 m164 m165 m166 m167 m168 m169 m170 m171 : Value) (K2 K1 : Act → World → Prop)
    (hK2 : ∀ a w', Code.wp Try.prog (seqR (seqL restO)) (Exit.then K1 (bodyPost Try.prog Try.f7 (fun e w' => e = .returned (.bool true) ∧ Below w.heap.size w w'))) a w' → K2 a w')
    (hK1 : ∀ a w', Code.wp Try.prog (seqR restO) (bodyPost Try.prog Try.f7 (fun e w' => e = .returned (.bool true) ∧ Below w.heap.size w w')) a w' → K1 a w') :
    Code.wp Try.prog (seqL (seqL restO)) (Exit.then K2 (Exit.then K1 (bodyPost Try.prog Try.f7 (fun e w' => e = .returned (.bool true) ∧ Below w.heap.size w w')))) { tmps := #[m0, m1, .pointer (some ⟨w.heap.size, 0, none⟩), m3, .bool false, m5, I E, .pointer (some ⟨X2, 0, none⟩), m8, m9, m10, .slice sb.a sb.n sb.c, m12, m13, m14, m15, .pointer (some ⟨X6, 0, none⟩), m17, .slice sg.a sg.n sg.c, m19, .pointer (some ⟨X8, 0, none⟩), .slice (some ⟨D, 0, none⟩) 7 7, m22, m23, m24, m25, m26, m27, m28, m29, m30, m31, m32, m33, m34, m35, m36, m37, m38, m39, m40, m41, m42, m43, m44, m45, m46, m47, m48, m49, m50, m51, m52, m53, m54, m55, m56, m57, m58, m59, m60, m61, m62, m63, m64, m65, m66, m67, m68, m69, m70, m71, m72, m73, m74, m75, m76, m77, m78, m79, m80, m81, m82, m83, m84, m85, m86, m87, m88, m89, m90, m91, m92, m93, m94, m95, m96, m97, m98, m99, m100, m101, m102, m103, m104, m105, m106, m107, m108, m109, m110, m111, m112, m113, m114, m115, m116, m117, m118, m119, m120, m121, m122, m123, m124, m125, m126, m127, m128, m129, m130, m131, m132, m133, m134, m135, m136, m137, m138, m139, m140, m141, m142, m143, m144, m145, m146, m147, m148, m149, m150, m151, m152, m153, m154, m155, m156, m157, m158, m159, m160, m161, m162, m163, m164, m165, m166, m167, m168, m169, m170, m171], defers := [] } A9 := by
  unfold restO at *
  simp only [seqL, seqR, Try.f7, Option.getD_some] at hK1 hK2 ⊢
  go_wp2
  go_loopw [22, 23] (fun iv _ wr => ∃ i : Nat, i ≤ 7 ∧ iv = .int .i64 i ∧ Hid (Sev B us (stL ls i 0) A9 wr)) (fun iv _ _ => 7 - (intOf iv).toNat)
  case atStart => exact ⟨0, by omega, rfl, by rw [stL_zero]; exact HS.out⟩
  case round =>
    obtain ⟨i, hi, rfl, HJ⟩ := hrel
    clear HS
    by_cases hlt : i < 7
    · have hlt' : (i : Int) < 7 := by omega
      obtain ⟨s, l, hs, hl, hsn, hsc, hsm, hle, hga⟩ := HU.out i hlt
      have HX : Hid (us[i]? = some s ∧ ls[i]? = some l ∧ s.n = l.length ∧ (0 < s.n → ∃ g, s.a = some ⟨g, 0, none⟩)) := ⟨hs, hl, hsn, hga⟩
      have hle' : s.n ≤ 8796093022208 := by omega
      unfold maxLen at hsm
      clear hs hl hsn hga hle
      go_wp2
      go_loopw [23] (fun kv wr => ∃ k : Nat, k ≤ s.n ∧ kv = .int .i64 k ∧ Hid (Sev B us (stL ls i k) A9 wr)) (fun kv _ => s.n - (intOf kv).toNat)
      case atStart => exact ⟨0, by omega, rfl, HJ.out⟩
      case round =>
        clear HJ
        obtain ⟨k, hk, rfl, HQ⟩ := hrel
        have zi : wr.cell? ⟨D, i, none⟩ = some (.slice s.a s.n s.c) := (HK.out _ HQ.out.f).2.2.2.2.2.2.2.2.2 _ _ HX.out.1
        by_cases hkt : k < s.n
        · have hkt' : (k : Int) < s.n := by omega
          obtain ⟨g, hg⟩ := HX.out.2.2.2 (by omega)
          obtain ⟨⟨u, zk⟩, fz⟩ := HQ.out.cellAt HX.out.1 (stL_at HX.out.2.1 i k) hg (by rw [stR_len]; exact HX.out.2.2.1) (k := k) (by rw [stR_len, ← HX.out.2.2.1]; exact hkt)
          have HN : Hid (Sev B us (stL ls i (k + 1)) A9 (wr.setCell ⟨g, k, none⟩ (I (1000 * (i : Int) + (k : Int))))) := by
            have h9 := HQ.out.store HX.out.1 (stL_at HX.out.2.1 i k) hg (by rw [stR_len]; exact HX.out.2.2.1) k (1000 * (i : Int) + (k : Int))
            rw [stL_set HX.out.2.1 (by rw [← HX.out.2.2.1]; exact hkt)] at h9
            exact h9
          rw [hg] at zi
          clear hg HQ
          go_wp2
          go_roundw
          case rel => exact ⟨k + 1, by omega, by go_num, HN.out⟩
          case measure => simp [intOf]; omega
        · obtain rfl : k = s.n := by omega
          have hkt' : ¬ ((s.n : Nat) : Int) < (s.n : Nat) := by omega
          have HN : Hid (Sev B us (stL ls (i + 1) 0) A9 wr) := by
            have h9 := HQ.out
            rw [HX.out.2.2.1, stL_next HX.out.2.1] at h9
            exact h9
          clear HQ
          go_wp2
          go_roundw
          case rel => exact ⟨i + 1, by omega, by go_num, HN.out⟩
          case measure => simp [intOf]; omega
    · have hi7 : i = 7 := by omega
      have HM : Hid (Mx B us (stL ls 7 0) 0 A9 wr) := by have h9 := HJ.out.mx; rw [hi7] at h9; exact h9
      have hlt' : ¬ (i : Int) < 7 := by omega
      clear HJ hi7 hlt hi
      go_wp2
      go_loopw [24, 25] (fun nv iv wr => ∃ i m : Nat, i ≤ 7 ∧ iv = .int .i64 i ∧ nv = .int .i64 m ∧ 40 * i ≤ m ∧ m ≤ i * 8796093022248 ∧ Hid (Mx B us (stL ls 7 0) i A9 wr)) (fun _ iv _ => 7 - (intOf iv).toNat)
      case atStart => exact ⟨0, 0, by omega, rfl, rfl, by omega, by omega, HM.out⟩
      case round =>
        clear HM
        obtain ⟨i, m, hi, rfl, rfl, hm1, hm2, HJ⟩ := hrel
        by_cases hlt : i < 7
        · have hlt' : (i : Int) < 7 := by omega
          obtain ⟨s, l, hs, hl, hsn, hsc, hsm, hle, hga⟩ := HU.out i hlt
          have zi : wr.cell? ⟨D, i, none⟩ = some (.slice s.a s.n s.c) := (HK.out _ HJ.out.h.f).2.2.2.2.2.2.2.2.2 _ _ hs
          have kg := grown_any wr B s (stR i 7 0 l) (HJ.out.o i s _ (Nat.le_refl _) hs (stL_at hl 7 0)) (by rw [stR_len]; exact hle) (Nat.le_trans HBW.out HJ.out.h.f.size) (-7)
          have HX : Hid (us[i]? = some s ∧ (stL ls 7 0)[i]? = some (stR i 7 0 l)) := ⟨hs, stL_at hl 7 0⟩
          rw [stR_len] at kg
          generalize l.length = nl at *
          unfold maxLen at hsm
          clear hs hl hga hsn
          go_wp2_with (go_at_call 25; refine kg.mono ?_; clear kg; rintro e w5 ⟨rfl, hgw⟩; have HN : Hid (Mx B us (stL ls 7 0) (i + 1) A9 w5) := HJ.out.step HX.out.1 HX.out.2 hgw; clear hgw HJ)
          go_roundw
          case rel => exact ⟨i + 1, m + (nl + 40), by omega, by go_num, by go_num, by omega, by omega, HN.out⟩
          case measure => simp [intOf]; omega
        · have hlt' : ¬ (i : Int) < 7 := by omega
          have HH : Hid (Hld us (stL ls 7 0) A9 wr) := HJ.out.h
          have hm3 : (280 : Int) ≤ m := by omega
          clear HJ hm1 hm2 hlt hi
          go_wp2
          go_loopw [26, 27] (fun iv _ wr => ∃ i : Nat, i ≤ 7 ∧ iv = .int .i64 i ∧ Hid (Hld us (stL ls 7 0) A9 wr)) (fun iv _ _ => 7 - (intOf iv).toNat)
          case atStart => exact ⟨0, by omega, rfl, HH.out⟩
          case round =>
            clear HH
            obtain ⟨i, hi, rfl, HJ⟩ := hrel
            by_cases hlt : i < 7
            · have hlt' : (i : Int) < 7 := by omega
              obtain ⟨s, l, hs, hl, hsn, hsc, hsm, hle, hga⟩ := HU.out i hlt
              have HX : Hid (us[i]? = some s ∧ ls[i]? = some l ∧ s.n = l.length ∧ (0 < s.n → ∃ g, s.a = some ⟨g, 0, none⟩)) := ⟨hs, hl, hsn, hga⟩
              have hle' : s.n ≤ 8796093022208 := by omega
              unfold maxLen at hsm
              clear hs hl hsn hga hle
              go_wp2
              go_loopw [27] (fun kv wr => ∃ k : Nat, k ≤ s.n ∧ kv = .int .i64 k ∧ Hid (Hld us (stL ls 7 0) A9 wr)) (fun kv _ => s.n - (intOf kv).toNat)
              case atStart => exact ⟨0, by omega, rfl, HJ.out⟩
              case round =>
                clear HJ
                obtain ⟨k, hk, rfl, HQ⟩ := hrel
                have zi : wr.cell? ⟨D, i, none⟩ = some (.slice s.a s.n s.c) := (HK.out _ HQ.out.f).2.2.2.2.2.2.2.2.2 _ _ HX.out.1
                by_cases hkt : k < s.n
                · have hkt' : (k : Int) < s.n := by omega
                  obtain ⟨g, hg⟩ := HX.out.2.2.2 (by omega)
                  have zk : wr.cell? ⟨g, k, none⟩ = some (I (1000 * (i : Int) + (k : Int))) := HQ.out.c i s _ HX.out.1 (stL_at HX.out.2.1 7 0) g (by unfold slV; rw [hg]; rfl) k _ (stL_full (stL_at HX.out.2.1 7 0) hlt (by rw [stR_len, ← HX.out.2.2.1]; exact hkt))
                  rw [hg] at zi
                  clear hg
                  go_wp2
                  go_roundw
                  case rel => exact ⟨k + 1, by omega, by go_num, HQ.out⟩
                  case measure => simp [intOf]; omega
                · obtain rfl : k = s.n := by omega
                  have hkt' : ¬ ((s.n : Nat) : Int) < (s.n : Nat) := by omega
                  go_wp2
                  go_roundw
                  case rel => exact ⟨i + 1, by omega, by go_num, HQ.out⟩
                  case measure => simp [intOf]; omega
            · have hlt' : ¬ (i : Int) < 7 := by omega
              clear hlt hi
              have HZ : Hid (∀ W, Below wr.heap.size wr W → Frm us A9 W) := fun W hW => HJ.out.f.below hW
              obtain ⟨⟨hVc, hbw⟩, hV2, hV6, hV8, c1, c2, r1, r2, cf, _⟩ := HK.out _ HJ.out.f
              have kn := num_any wr E
              clear HJ HU
              by_cases hE : E = 0
              · subst hE
                have k8 := K8.out wr y0 y2 y3 y4 t0 t2 t3 t4 c1 c2
                unfold ceC at k8
                obtain ⟨z0, z1, z2, z3, z4⟩ := row5 hV2
                obtain ⟨p0, p1, p2, p3, p4⟩ := row5 hV6
                clear c1 c2 r1 r2 cf hbw K8 hV2 hV6
                go_wp2_with (first | (go_at_call 10; refine kn.mono ?_; clear kn; rintro e w' ⟨rfl, rfl⟩) | (go_at_call 18; refine k8.mono ?_; clear k8; rintro e w10 ⟨rfl, hb10⟩; have HB10 : Hid (Below wr.heap.size wr w10) := hb10; have ki := ints_same w10 sb sg L1 (HK.out _ (HZ.out _ hb10)).2.2.2.2.2.2.1 (HK.out _ (HZ.out _ hb10)).2.2.2.2.2.2.2.1; clear hb10 hVc hV8 z0 z1 z2 z3 z4 p0 p1 p2 p3 p4) | (go_at_call 21; refine ki.mono ?_; clear ki; rintro e w11 ⟨rfl, hb11⟩; have HB11 : Hid (Below wr.heap.size wr w11) := HB10.out.trans (hb11.mono HB10.out.size); obtain ⟨⟨hVc, hbw⟩, _, _, hV8, _, _, _, _, cf, _⟩ := HK.out _ (HZ.out _ HB11.out); have k7 := K7'.out w11 hbw cf; clear hb11 HB10 hbw cf) | (with_reducible refine wpList_id ?_; refine wpList_load_row_g 33 _ rfl w.heap.size rfl 33 _ (0, 0) _ hVc Try.underlying33 rfl hi18 (by kernel_rfl) ?_; simp only [Act.put, List.setIfInBounds_toArray, List.set_cons_succ, List.set_cons_zero]) | (with_reducible refine wpList_id ?_; refine wpList_load_row_g 33 _ rfl X8 rfl 33 _ (0, 0) _ hV8 Try.underlying33 rfl hi18' (by kernel_rfl) ?_; simp only [Act.put, List.setIfInBounds_toArray, List.set_cons_succ, List.set_cons_zero]) | (go_at_call 19; refine k7.mono ?_; clear k7; rintro e w12 ⟨rfl, hb12⟩; have HB12 : Hid (Below wr.heap.size wr w12) := HB11.out.trans (hb12.mono HB11.out.size); clear hb12 HB11 hVc hV8) | (go_at_call 12; refine (alive_any _).mono ?_; rintro e w13 ⟨rfl, hb13⟩; have HB13 : Hid (Below wr.heap.size wr w13) := HB12.out.trans (hb13.mono HB12.out.size); clear hb13 HB12))
                go_ret
                exact ⟨rfl, (HK.out _ (HZ.out _ HB13.out)).1.2⟩
              · have hE' : (E != 0) = true := by simpa using hE
                clear hE
                have k7 := K7'.out wr hbw cf
                clear c1 c2 r1 r2 cf hbw K8 hV2 hV6
                go_wp2_with (first | (go_at_call 10; refine kn.mono ?_; clear kn; rintro e w' ⟨rfl, rfl⟩) | (with_reducible refine wpList_id ?_; refine wpList_load_row_g 33 _ rfl w.heap.size rfl 33 _ (0, 0) _ hVc Try.underlying33 rfl hi18 (by kernel_rfl) ?_; simp only [Act.put, List.setIfInBounds_toArray, List.set_cons_succ, List.set_cons_zero]) | (with_reducible refine wpList_id ?_; refine wpList_load_row_g 33 _ rfl X8 rfl 33 _ (0, 0) _ hV8 Try.underlying33 rfl hi18' (by kernel_rfl) ?_; simp only [Act.put, List.setIfInBounds_toArray, List.set_cons_succ, List.set_cons_zero]) | (go_at_call 19; refine k7.mono ?_; clear k7; rintro e w12 ⟨rfl, hb12⟩; have HB12 : Hid (Below wr.heap.size wr w12) := hb12; clear hb12 hVc hV8) | (go_at_call 12; refine (alive_any _).mono ?_; rintro e w13 ⟨rfl, hb13⟩; have HB13 : Hid (Below wr.heap.size wr w13) := HB12.out.trans (hb13.mono HB12.out.size); clear hb13 HB12))
                go_ret
                exact ⟨rfl, (HK.out _ (HZ.out _ HB13.out)).1.2⟩
end Go.Proofs.Ytapfbinaocaclaa
