import Derived.Test.YticgikbnlpgnkaaYi
namespace Go.Proofs.Yticgikbnlpgnkaa
open Go.RowKit Go.Shelf
set_option linter.unusedVariables false
set_option linter.unusedSimpArgs false
attribute [local go_sem] Oper.semAt_some

/-! ### The law's all -/
theorem seq_some13 (W : World) (f : Fn) (a b : Array Value) : (binOp .eql 47 (.func f a b) Value.nilFunc).run Try.prog W = .ok (.bool false) W := by kernel_rfl
theorem Mbox.al {c : Nat} {W : World} {o : Obj} {b : Nat} (hc : c < W.heap.size) (h : Mbox c (W.alloc o) b) : Mbox c W b := by
  rcases h with e | ⟨u, hu, e⟩
  · exact .inl e
  · exact .inr ⟨u, by rw [← hu]; exact (World.cell?_of_block ((below_alloc W o).block c hc)).symm, e⟩
theorem Kq.alloc {M : World → Nat → Prop} {W : World} {o : Obj} (h : ∀ b, M (W.alloc o) b → M W b) : Kq M W (W.alloc o) := ⟨by simp, fun b cs ty hm hb => ⟨heap_over _ _ hb, fun e => hm (h b e)⟩⟩
set_option maxRecDepth 100000 in
set_option maxHeartbeats 4000000 in
theorem qall_o (w : World) (q : Option Addr) (xs : List (Int × Int)) (hL : ∀ W, Below w.heap.size w W → Calls Try.prog 40 #[.pointer q] W fun e w' => ∃ v, e = .returned v ∧ w'.ownsRow W.heap.size 35 2 v xs.length (pairsC xs) ∧ Below W.heap.size W w') (hxl : xs.length ≤ 4194304) : Calls Try.prog 11 #[.pointer q] w fun e w' => ∃ v, e = .returned v ∧ w'.ownsRow w.heap.size 35 2 v xs.length (pairsC xs) ∧ Below w.heap.size w w' := by
  obtain ⟨i0, hi0, hz0, hz1, hz2⟩ := info_parts qinfo
  have hse := seq_some13
  refine (callsIn_wide (n := 3)).1 ?_
  refine callsIn_of_wp_marks Try.func11 rfl trivial ?_ rfl
  simp only [Try.ntmps11, List.size_toArray, List.length_cons, List.length_nil, Nat.reduceAdd, Nat.reduceSub, Array.replicate_succ, Array.replicate_zero, List.push_toArray, List.append_toArray, List.nil_append, List.cons_append]
  gi_wp2_with (first
    | (refine ⟨trivial, ?_⟩; gi_at_call 19; refine (callsIn_wide.2 (qAll_ptr q _)).mono ?_; rintro e w1 ⟨rfl, rfl⟩))
  have bO := Boxed.new w 29 (.slice none 0 0)
  have bN := Boxed.new (w.alloc (.cells #[.slice none 0 0] 29)) 24 (.pointer q)
  rw [World.size_alloc] at bN
  have hB0 : Below w.heap.size w ((w.alloc (.cells #[.slice none 0 0] 29)).alloc (.cells #[.pointer q] 24)) := ((Below.refl _ w).alloc (Nat.le_refl _) _).alloc (by simp) _
  have bO2 := bO.alloc (.cells #[.pointer q] 24)
  refine wpIn_rangeFunc_ownH rfl (by omega) (gf := 39) (lb := #[.pointer (some ⟨w.heap.size + 1, 0, none⟩)]) rfl trivial (enters_of Try.func39 (by kernel_rfl) rfl)
    (qAll_stops (3 - 1) (by omega) (w.heap.size + 1) (Mbox w.heap.size) xs (.pointer q) _ (by simp) bN.cell (fun W hW => hL W (hB0.trans (hW.mono hB0.size))) hxl (fun W' b hb hm => by
      rcases hm with e | ⟨u, hu, e⟩
      · simp; omega
      · rw [hb.cell (p := ⟨w.heap.size, 0, none⟩) (by simp; omega), bO2.cell] at hu
        cases hu
        cases e) (fun W' o b hs hm => Mbox.al (by simp at hs; omega) hm)) Kq.trans (Kq.put (fun W l o b hl hm => by
      have hne : w.heap.size ≠ l := by simp at hl; omega
      rcases hm with e | ⟨u, hu, e⟩
      · exact .inl e
      · exact .inr ⟨u, by rw [← hu]; exact (World.cell?_of_block (World.putObj_heap_other hne)).symm, e⟩)) (Below.refl _ _) (fun _ => rfl)
    (fun pre W => (∃ v, Boxed W w.heap.size 29 v ∧ W.ownsRow w.heap.size 35 2 v pre.length (pairsC pre) ∧ True) ∧ Below w.heap.size w W)
    (fun _ _ _ => False)
    (OwnFrom.and (Own.from (holdsRow_own w.heap.size w.heap.size 29 35 2 (fun pre => List.length pre) (fun pre => pairsC pre) (fun pre v => True)) _) (ownFrom_below (Nat.le_refl _) (by simp; omega)))
    (fun _ _ _ _ _ hs _ _ => hs)
    ⟨⟨_, bO2, World.ownsRow_nil _ _ _ _, trivial⟩, hB0⟩
    (fun x a' W => ∃ Bx, W.heap[Bx]? = some (.cells #[I x.1, I x.2] 35) ∧ a' = { tmps := #[.pointer q, undef, .slice none 0 0, .pointer (some ⟨w.heap.size, 0, none⟩), .func (.func 39) #[] #[.pointer (some ⟨w.heap.size + 1, 0, none⟩)], .pointer (some ⟨Bx, 0, none⟩), .pointer q, .func (.func 39) #[] #[.pointer (some ⟨w.heap.size + 1, 0, none⟩)], .func (.func 39) #[] #[.pointer (some ⟨w.heap.size + 1, 0, none⟩)], .bool false, undef, undef, .func (.func 39) #[] #[.pointer (some ⟨w.heap.size + 1, 0, none⟩)], .agg #[I x.1, I x.2], undef, undef, undef, undef, undef], defers := [] })
    (fun x a' s W W' row hs hg hr => by
      obtain ⟨Bx, h1, h2⟩ := hs
      refine ⟨Bx, (hg.block Bx (heap_lt h1) (fun e => ?_)).trans h1, h2⟩
      obtain ⟨_, o, ho, hc⟩ := hr Bx e.symm
      rw [h1] at ho
      cases ho
      cases hc) ?assign ?body ?done ?stop
  case assign =>
    rintro l pre ⟨x1, x2⟩ W K ⟨⟨v, hv, hrow, _⟩, hB⟩ hK
    have hst := run_storeCells_new (P := Try.prog) W 35 #[.int .i64 0, .int .i64 0] #[I x1, I x2] (by kernel_rfl) rfl (by simp [Value.oneCell'])
    gi_wp2
    exact hK _ _ ((KeepsOthers.alloc _ _).from _) (Kq.alloc (fun b hm => Mbox.al hv.lt hm)) ⟨⟨v, hv.alloc _, hrow.alloc _, trivial⟩, hB.alloc hB.size _⟩ ⟨W.heap.size, heap_alloc_new W _, rfl⟩
  case body =>
    rintro l pre ⟨x1, x2⟩ a' W hl ⟨r, hr⟩ ⟨⟨v, hv, hrow, _⟩, hB⟩ ⟨Bx, hX, rfl⟩ hlt
    have hc := hv.cell
    have y0 : W.cell? ⟨Bx, 0, none⟩ = some (I x1) := by rw [cell_of_row _ _ _ _ _ (0, 0) hX]; rfl
    have y1 : W.cell? ⟨Bx, 1, none⟩ = some (I x2) := by rw [cell_of_row _ _ _ _ _ (0, 0) hX]; rfl
    clear hr hX
    gi_wp2_with (gi_at_builtin; refine wpListIn_append_own_at _ rfl _ _ 29 rfl w.heap.size 35 i0 (.agg #[.int .i64 0, .int .i64 0]) 2 16 Try.underlying29 hi0 hz0 hz1 hz2 rfl (by decide) _ _ _ rfl (hrow.alloc _) ⟨W.heap.size, 0, none⟩ 1 1 [I x1, I x2] rfl rfl (cell_two_new _ _ _ _) (by simp [Value.oneCell']) (by unfold maxLen; omega) (by omega) (by have := hB.size; simp; omega) ?_; intro v' w1 hown' hgrow _ hat; obtain ⟨g', cap', rfl⟩ := ownsRow_succ hown'; obtain ⟨hv1, hv2, hr2, hk2, hb2⟩ := hv.appended (by decide) hrow hB.size (Nat.le_refl _) hown' hgrow; have hc1 := hv1.cell; have hf1 := hv1.frozen; have hKq := Mbox.app hv hv2 hgrow hat)
    have hr3 : (w1.setCell ⟨w.heap.size, 0, none⟩ (.slice (some ⟨g', 0, none⟩) (pre.length + 1) cap')).ownsRow w.heap.size 35 2 (.slice (some ⟨g', 0, none⟩) (pre.length + 1) cap') (pre ++ [(x1, x2)]).length (pairsC (pre ++ [(x1, x2)])) := by
      rw [pairsC_app, List.length_append]
      exact hr2
    refine ⟨hk2.from _, hKq, ⟨_, hv2, ?_⟩, hB.trans hb2⟩
    first | exact hr3 | exact ⟨hr3, trivial⟩
  case done =>
    rintro D ys W hD rfl ⟨⟨v, hv, hrow, _⟩, hB⟩ hK
    have hc := hv.cell
    gi_wp2
    refine ⟨by simp, .inl ⟨_, _, rfl, run_takeDeferred hK, ?_⟩⟩
    exact ⟨_, results_tmp rfl _ _ _, v, rfl, ownsRow_putObj hrow _ hK rfl, hB.trans (belowK_b (w := w) (Nat.le_refl _) W D _ _ (by simp at hD; omega) hK rfl rfl)⟩
  case stop =>
    rintro D c pre W _ _ h _
    exact h.elim
section
variable {w : World} {Q F : Nat} {f : RS}
theorem dn_le (h : Qm w Q F f) : (dnF f 64).length ≤ 4194304 := by
  rw [dnF_len]
  have := h.sum 64
  omega
theorem qall_any (h : Qm w Q F f) : Calls Try.prog 11 #[qP Q] w fun e w' => ∃ v, e = .returned v ∧ w'.ownsRow w.heap.size 35 2 v (dnF f 64).length (pairsC (dnF f 64)) ∧ Below w.heap.size w w' :=
  qall_o w _ (dnF f 64) (fun W hb => qlist_any (h.below hb)) (dn_le h)
theorem qall_none {q : Option Addr} (hN : ∀ W, Below w.heap.size w W → Calls Try.prog 33 #[.pointer q] W fun e w' => e = .returned (.bool true) ∧ W = w') : Calls Try.prog 11 #[.pointer q] w fun e w' => ∃ v, e = .returned v ∧ w'.ownsRow w.heap.size 35 2 v 0 [] ∧ Below w.heap.size w w' :=
  qall_o w q [] (fun W hb => qlist_none (fun W' hb' => hN W' (hb.trans (hb'.mono hb.size)))) (by simp)
end
end Go.Proofs.Yticgikbnlpgnkaa
