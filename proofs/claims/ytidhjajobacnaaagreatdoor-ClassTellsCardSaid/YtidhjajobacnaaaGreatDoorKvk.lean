import Derived.Test.YtidhjajobacnaaaGreatDoorVjX
namespace Go.Proofs.YtidhjajobacnaaaGreatDoor
open Go.RowKit
set_option linter.unusedVariables false

theorem hst18 (w1 : World) (C : Array Value) (hC : C.size = 18) (h1 : C.all (·.oneCell') = true) :
    (storeCells ⟨w1.heap.size, 0, none⟩ C.toList 0).run Tryz.prog (w1.alloc (.cells #[.string ⟨#[]⟩, .string ⟨#[]⟩, .bool false, .bool false, .bool false, .bool false, .bool false, .bool false, .bool false, .bool false, .slice none 0 0, .slice none 0 0, .slice none 0 0, .slice none 0 0, .slice none 0 0, .slice none 0 0, .slice none 0 0, .slice none 0 0] 33)) = .ok () (w1.alloc (.cells C 33)) :=
  run_storeCells_new (P := Tryz.prog) w1 33 _ C (by rw [hC]; kernel_rfl) (by rw [hC]; rfl) h1
theorem keep_app {W W' : World} {g bc b : Nat} {o : Obj} {v : Value} (hg : W.grownBy W' (some g)) (hb : W.heap[b]? = some o) (n1 : b ≠ g) (n2 : b ≠ bc) : (W'.setCell ⟨bc, 11, none⟩ v).heap[b]? = some o := by
  rw [heap_setCell_other _ _ _ _ (fun e => n2 e)]
  exact (hg.block _ (heap_lt hb) (fun e => n1 (Option.some.inj e))).trans hb
theorem keep_ren {W : World} {g b : Nat} {o o' : Obj} {v : Value} (hb : W.heap[b]? = some o) (n1 : b ≠ g) : ((W.setCell ⟨g, 8, none⟩ v).alloc o').heap[b]? = some o := by
  have h1 : (W.setCell ⟨g, 8, none⟩ v).heap[b]? = some o := by rw [heap_setCell_other _ _ _ _ (fun e => n1 e)]; exact hb
  exact ((below_alloc _ o').block _ (heap_lt h1)).trans h1
theorem cell3 {W : World} {b : Nat} {v0 v1 v2 : Value} {t : TypeId} (h : W.heap[b]? = some (.cells #[v0, v1, v2] t (0, 0))) : W.cell? ⟨b, 0, none⟩ = some v0 ∧ W.cell? ⟨b, 1, none⟩ = some v1 ∧ W.cell? ⟨b, 2, none⟩ = some v2 := by
  have a1 := fun i => cell_of_row W b i _ _ (0, 0) h
  exact ⟨a1 0, a1 1, a1 2⟩
theorem HS.c11 {w W : World} {bc bm g g' cap : Nat} {cur : Array Value} {l : List UInt8} (h : HS w W bc bm g' (cS bm g cap l) cur) : W.cell? ⟨bc, 11, none⟩ = some (.slice (some ⟨g, 0, none⟩) l.length cap) ∧ W.frozen? ⟨bc, 11, none⟩ = false :=
  ⟨by rw [cell_of_row W bc 11 _ _ (0, 0) h.hc]; rfl, frozen_of_row W bc 11 _ _ h.hc⟩
theorem new_cells (W : World) (l : List Value) (t : TypeId) : ∀ j u, l[j]? = some u → (W.alloc (.cells l.toArray t)).cell? ((⟨W.heap.size, 0, none⟩ : Addr).add j) = some u := by
  intro j u hj
  rw [add_row, Nat.zero_add, cell_of_row _ W.heap.size j _ _ (0, 0) (heap_alloc_new W _)]
  simpa using hj
theorem cS_one (bm g cap : Nat) (l : List UInt8) : (cS bm g cap l).all (·.oneCell') = true := by simp [cS, cfC, Value.oneCell']
theorem ext3 : extL (cfS ([116, 117].map tkS)) 0 = false := by rfl
theorem tk_one : ∀ u ∈ tkC 116, u.oneCell' = true := by simp [tkC, Value.oneCell']
theorem cells18 {W : World} {b bm g cap : Nat} (h : W.heap[b]? = some (.cells (cS bm g cap [116, 117]) 33 (0, 0))) :
    (W.cell? ⟨b, 0, none⟩ = some (S [99]) ∧ W.cell? ⟨b, 1, none⟩ = some (S [111]) ∧ W.cell? ⟨b, 2, none⟩ = some (.bool false) ∧ W.cell? ⟨b, 3, none⟩ = some (.bool false) ∧ W.cell? ⟨b, 4, none⟩ = some (.bool false) ∧ W.cell? ⟨b, 5, none⟩ = some (.bool false) ∧ W.cell? ⟨b, 6, none⟩ = some (.bool false) ∧ W.cell? ⟨b, 7, none⟩ = some (.bool false) ∧ W.cell? ⟨b, 8, none⟩ = some (.bool false) ∧ W.cell? ⟨b, 9, none⟩ = some (.bool false)) ∧
    (W.cell? ⟨b, 10, none⟩ = some (.slice (some ⟨bm, 0, none⟩) 1 1) ∧ W.cell? ⟨b, 11, none⟩ = some (.slice (some ⟨g, 0, none⟩) 2 cap) ∧ W.cell? ⟨b, 12, none⟩ = some (.slice none 0 0) ∧ W.cell? ⟨b, 13, none⟩ = some (.slice none 0 0) ∧ W.cell? ⟨b, 14, none⟩ = some (.slice none 0 0) ∧ W.cell? ⟨b, 15, none⟩ = some (.slice none 0 0) ∧ W.cell? ⟨b, 16, none⟩ = some (.slice none 0 0) ∧ W.cell? ⟨b, 17, none⟩ = some (.slice none 0 0)) := var18_all h
theorem cur8 {cur : Array Value} (h : cur.toList.take 16 = [116, 116].flatMap tkC) : cur[8]? = some (S [116]) := by
  rw [← Array.getElem?_toList, ← List.getElem?_take_of_lt (show 8 < 16 by omega), h]
  rfl
theorem size_set (w : World) (a : Addr) (v : Value) : (w.setCell a v).heap.size = w.heap.size := by simp
set_option maxHeartbeats 4000000 in
set_option maxRecDepth 100000 in
theorem heads_any (w : World) (hE : EnvE w) : Calls Tryz.prog 8 #[] w fun e w' => Ans w true e w' := by
  have kS := small_any w
  obtain ⟨i0, hi0, hz, hs, hby⟩ := infoTk
  go_enter Tryz.func8, Tryz.ntmps8
  go_wp2_with (first
    | (go_at_call 18; refine kS.mono ?_; rintro e w1 ⟨bm, g, he, hb1, hg1, hm1, ht1⟩; obtain rfl : e = .returned (.agg (cS bm g 1 [116])) := he; have H2 := HS.start hb1 hg1 hm1 ht1; have hst := hst18 w1 (cS bm g 1 [116]) rfl (cS_one _ _ _ _); have k2 := H2.check hE (by decide) (by decide) (by unfold maxLen; omega) rfl none all1)
    | (refine wpList_load_row rfl 33 _ rfl w1.heap.size rfl 33 _ (0, 0) _ H2.hc Tryz.underlying33 rfl (info18 _ rfl) ?_)
    | (go_at_call 7; refine k2.mono ?_; rintro e w3 ⟨he, hb3⟩; obtain rfl : e = .returned (.agg #[I 0, S [], I 0]) := he; have H4 := (H2.step hb3).step (below_alloc w3 (.cells #[I 0, S [], I 0] 36)); have V4 := heap_alloc_new w3 (.cells #[I 0, S [], I 0] 36); have k4 := H4.cls (by decide) (by decide) (by unfold maxLen; omega) rfl (1, 0) cls1; clear k2 hst)
    | (refine wpList_load_row rfl 33 _ rfl w1.heap.size rfl 33 _ (0, 0) _ H4.hc Tryz.underlying33 rfl (info18 _ rfl) ?_)
    | (go_at_call 11; refine k4.mono ?_; rintro e w5 ⟨he, hb5⟩; obtain rfl : e = .returned (.tuple #[I 1, I 0]) := he; have H5 := H4.step hb5; have V5 := (hb5.block _ (heap_lt V4)).trans V4; obtain ⟨y11, _⟩ := H5.c11; have hlt5 := heap_lt H5.hc; have hne5 : w1.heap.size ≠ w5.heap.size := Nat.ne_of_lt hlt5; have H6 := H5.step (below_alloc w5 (.cells (tkC 116).toArray 41)); have V6 := ((below_alloc w5 (.cells (tkC 116).toArray 41)).block _ (heap_lt V5)).trans V5; have own6 := H6.own; have new6 := new_cells w5 (tkC 116) 41; have hbs6 := H6.below.size; clear k4)
    | (at_builtin; refine wpList_append_own_wide _ rfl _ _ 25 rfl w.heap.size 41 i0 _ 8 136 Tryz.underlying25 hi0 hz hs hby rfl (by decide) _ 1 (tkC 116) rfl own6 ⟨w5.heap.size, 0, none⟩ 1 1 (tkC 116) rfl rfl new6 tk_one (by unfold maxLen; omega) (by omega) hbs6 ?_; intro v' W7 ho hg' _; obtain ⟨g2, cap, cur, rfl, hcap, hcm, hcs, htk, hc7, H8⟩ := H6.app ho hg'; have V8 := keep_app (v := .slice (some ⟨g2, 0, none⟩) 2 cap) hg' V6 (apart_at V6 H6.ht (by simp)) (apart_at V6 H6.hc (by simp)); have y7 := cell_of_row W7 w1.heap.size 11 _ _ (0, 0) hc7; rw [show (cS bm g 1 [116])[11]? = some (.slice (some ⟨g, 0, none⟩) 1 1) from rfl] at y7; have z7 := frozen_of_row W7 w1.heap.size 11 _ _ hc7; have k8 := H8.check hE (by decide) hcap hcm htk (some (72, [84, 65, 83, 75], 1)) all2; clear own6 new6 ho hg' V6 V5 V4 y11)
    | (refine wpList_load_row rfl 33 _ rfl w1.heap.size rfl 33 _ (0, 0) _ H8.hc Tryz.underlying33 rfl (info18 _ rfl) ?_)
    | (go_at_call 7; refine k8.mono ?_; rintro e w9 ⟨he, hb9⟩; obtain rfl : e = .returned (.agg #[I 72, S [84, 65, 83, 75], I 1]) := he; have H9 := H8.step hb9; have V9 := (hb9.block _ (heap_lt V8)).trans V8; have y9 : w9.cell? ⟨w1.heap.size, 11, none⟩ = some (.slice (some ⟨g2, 0, none⟩) 2 cap) := H9.c11.1; have hl9 := heap_lt H9.hc; have hlg9 := heap_lt H9.ht; have hne9 : w1.heap.size ≠ w9.heap.size := Nat.ne_of_lt (heap_lt H9.hc); have hng9 : g2 ≠ w9.heap.size := Nat.ne_of_lt (heap_lt H9.ht); have x9 := cell_of_row w9 g2 8 _ _ (0, 0) H9.ht; have z9 := frozen_of_row w9 g2 8 _ _ H9.ht; rw [cur8 htk] at x9; have H11 : HS w _ w1.heap.size bm g2 (cS bm g2 cap [116, 117]) _ := H9.rename (cap := cap) (o := .cells #[I 72, S [84, 65, 83, 75], I 1] 36); have V11 := keep_ren (v := S [117]) (o' := .cells #[I 72, S [84, 65, 83, 75], I 1] 36) V9 (apart_at V9 H9.ht (by simp)); have W11 := heap_alloc_new (w9.setCell ⟨g2, 8, none⟩ (S [117])) (.cells #[I 72, S [84, 65, 83, 75], I 1] 36); rw [size_set w9] at W11; have k11 := H11.cls (by decide) hcap hcm (take_ren hcs htk) (2, 0) cls3; clear k8 y7 z7)
    | (refine wpList_load_row rfl 33 _ rfl w1.heap.size rfl 33 _ (0, 0) _ H11.hc Tryz.underlying33 rfl (info18 _ rfl) ?_)
    | (go_at_call 11; refine k11.mono ?_; rintro e w12 ⟨he, hb12⟩; obtain rfl : e = .returned (.tuple #[I 2, I 0]) := he; have H12 := H11.step hb12; obtain ⟨p0, p1, p2⟩ := cell3 ((hb12.block _ (heap_lt V11)).trans V11); obtain ⟨q0, q1, q2⟩ := cell3 ((hb12.block _ (heap_lt W11)).trans W11); have k12 := extended_any w12 _ _ (small_at H12.hm H12.ht [116, 117] hcap hcm (take_ren hcs htk)) 0; rw [ext3] at k12; obtain ⟨⟨r0, r1, r2, r3, r4, r5, r6, r7, r8, r9⟩, r10, r11, r12, r13, r14, r15, r16, r17⟩ := cells18 H12.hc; clear k11)
    | (go_at_call 13; refine k12.mono ?_; rintro e w13 ⟨rfl, hb13⟩; have H13 := H12.step hb13))
  go_ret
  exact ⟨rfl, H13.below⟩
end Go.Proofs.YtidhjajobacnaaaGreatDoor
