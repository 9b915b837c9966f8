import Derived.Test.YtapfbinaocaclaaEer
namespace Go.Proofs.Ytapfbinaocaclaa
open Go.RowKit Go.Maps
set_option linter.unusedVariables false
set_option linter.unusedSimpArgs false

/-! ### Users: the closure over all users -/
def BoxF (w : World) (b f : Nat) (caps : Array Value) : Prop := w.heap[b]? = some (.cells #[.func (.func f) #[] caps] 81 (0, 0))
set_option maxHeartbeats 8000000 in
set_option maxRecDepth 100000 in
theorem users2_any (W : World) (isr : Bool) (id : Nat) (prio : Int) (s : Sl) (l : List Int) (hl : RowsAt W 1 intP s l) (f : Nat) (caps : Array Value) (eg : ∀ args W, (callFunc f args).run Try.prog W = .ok (.enter f args) W) (p : Int → Bool) (bo bi bt base : Nat) (hbo : BoxF W bo f caps)
    (hf : ∀ W', Below W.heap.size W W' → ∀ x ∈ l, Calls Try.prog f (#[I x] ++ caps) W' fun e w' => e = .returned (.bool (p x)) ∧ Below W'.heap.size W' w')
    (ui ut : Value) (li lt : List Int) (h2 : Two W base bi bt ui ut li lt) (hni : li.length ≤ 8796093022208) (hnt : lt.length ≤ 8796093022208) :
    Calls Try.prog 35 #[.agg (usC isr id prio s), .pointer (some ⟨bo, 0, none⟩), .pointer (some ⟨bi, 0, none⟩), .pointer (some ⟨bt, 0, none⟩)] W fun e w' => e = .returned (.tuple #[]) ∧ Fr2 base bi bt W w' ∧ ∃ ui' ut', Two w' base bi bt ui' ut' (if (l.any p && isr) = true then li ++ [(id : Int)] else li) (if (l.any p && !isr) = true then lt ++ [(id : Int)] else lt) := by
  obtain ⟨i0, hi0, hz0, hz1, hz2⟩ := info_parts Try.infoInt
  have hb := below_alloc W (.cells (usC isr id prio s) 84)
  have kt := contains_any _ s l (hl.below hb (fun _ _ _ _ h => h)) f caps eg p (fun W' hW => hf W' (hb.trans (hW.mono hb.size)))
  have z1 : (W.alloc (.cells (usC isr id prio s) 84)).cell? ⟨bo, 0, none⟩ = some (.func (.func f) #[] caps) := by rw [cell_of_row _ _ 0 _ _ (0, 0) (heap_over _ _ hbo)]; rfl
  have hnc : bo ≠ W.heap.size := Nat.ne_of_lt (heap_lt hbo)
  have hzu := heap_alloc_new W (.cells (usC isr id prio s) 84)
  have HF : Hid (∀ w', Below (W.alloc (.cells (usC isr id prio s) 84)).heap.size (W.alloc (.cells (usC isr id prio s) 84)) w' → Two w' base bi bt ui ut li lt ∧ w'.cell? ⟨W.heap.size, 0, none⟩ = some (.bool isr) ∧ w'.cell? ⟨W.heap.size, 1, none⟩ = some (I (id : Int)) ∧ w'.cell? ⟨bi, 0, none⟩ = some ui ∧ w'.cell? ⟨bt, 0, none⟩ = some ut ∧ Below W.heap.size W w') := fun w' hW => by
    have hbW := hb.trans (hW.mono hb.size)
    have ht := h2.below hbW
    refine ⟨ht, ?_, ?_, ?_, ?_, hbW⟩
    · rw [cell_of_row w' _ 0 _ _ (0, 0) ((hW.block _ (heap_lt hzu)).trans hzu)]; rfl
    · rw [cell_of_row w' _ 1 _ _ (0, 0) ((hW.block _ (heap_lt hzu)).trans hzu)]; rfl
    · rw [cell_of_row w' _ 0 _ _ (0, 0) ht.x1]; rfl
    · rw [cell_of_row w' _ 0 _ _ (0, 0) ht.x2]; rfl
  have HSZ : Hid (base ≤ W.heap.size) := h2.sz
  have HF2 : Hid (∀ w', Below W.heap.size W w' → Fr2 base bi bt W w') := fun w' hb => Fr2.of hb h2.sz ⟨rfl, rfl, rfl, Nat.le_refl _, fun _ _ _ _ => rfl⟩
  generalize l.any p = A at *
  unfold usC at *
  clear hl hbo hf h2 hb hzu eg
  cases A with
  | false =>
    simp only [Bool.false_and, Bool.false_eq_true, if_false]
    go_enter Try.func35, Try.ntmps35
    go_wp2_with (go_at_call 36; refine kt.mono ?_; clear kt; rintro e w2 ⟨rfl, hb2⟩; obtain ⟨hTw, q0, q1, qi, qt, hbW⟩ := HF.out _ hb2; have HEN : Hid (Fr2 base bi bt W w2 ∧ ∃ ui' ut', Two w2 base bi bt ui' ut' li lt) := ⟨HF2.out _ hbW, _, _, hTw⟩; clear hb2 hTw hbW)
    (try simp only [Exit.inBlock, Exit.then])
    refine bodyPost_end (v := .tuple #[]) ?_ rfl ?_
    · simp [results, Try.results35, go_sem]
    exact ⟨rfl, HEN.out⟩
  | true =>
    cases isr with
    | true =>
      simp only [Bool.and_self, Bool.not_true, Bool.and_false, Bool.false_eq_true, if_false, if_true]
      go_enter Try.func35, Try.ntmps35
      go_wp2_with (first | (go_at_call 36; refine kt.mono ?_; clear kt; rintro e w2 ⟨rfl, hb2⟩; obtain ⟨hTw, q0, q1, qi, qt, hbW⟩ := HF.out _ hb2; have hO2 := hTw.o1.alloc (.cells #[I (id : Int)] 3); have hsz2 := hTw.sz; clear hb2) | (at_builtin; refine wpList_append_own_at _ rfl (.tmp 19) (.tmp 22) 34 rfl base 3 i0 (.int .i64 0) 1 8 Try.underlying34 hi0 hz0 hz1 hz2 rfl (by decide) _ _ _ rfl hO2 ⟨w2.heap.size, 0, none⟩ 1 1 [I (id : Int)] rfl rfl (cell_one_new _ _ _) (by intro u hu; simp at hu; subst hu; rfl) (by unfold maxLen; omega) (by omega) (by simp; omega) ?_))
      intro v6 w6 ho6 hg6 _ hw6
      obtain ⟨s6, rfl, hs6⟩ := slice_of_own ho6
      clear hs6
      have e2 := two_app hTw (.cells #[I (id : Int)] 3) (id : Int) ho6 hg6 hw6
      obtain ⟨x6, t6, f6⟩ := e2
      have z6 : w6.cell? ⟨bi, 0, none⟩ = some ui := by rw [cell_of_row w6 _ 0 _ _ (0, 0) x6]; rfl
      have fz6 : w6.frozen? ⟨bi, 0, none⟩ = false := frozen_of_row w6 _ 0 _ _ x6
      have HEN : Hid (Fr2 base bi bt W (w6.setCell ⟨bi, 0, none⟩ (.slice s6.a s6.n s6.c)) ∧ ∃ ui' ut', Two (w6.setCell ⟨bi, 0, none⟩ (.slice s6.a s6.n s6.c)) base bi bt ui' ut' (li ++ [(id : Int)]) lt) := ⟨Fr2.of hbW HSZ.out f6, _, _, t6⟩
      clear ho6 hg6 hw6 hTw x6 t6 f6 hbW hO2
      go_wp2
      (try simp only [Exit.inBlock, Exit.then])
      refine bodyPost_end (v := .tuple #[]) ?_ rfl ?_
      · simp [results, Try.results35, go_sem]
      exact ⟨rfl, HEN.out⟩
    | false =>
      simp only [Bool.and_self, Bool.not_false, Bool.and_false, Bool.false_eq_true, if_false, if_true]
      go_enter Try.func35, Try.ntmps35
      go_wp2_with (first | (go_at_call 36; refine kt.mono ?_; clear kt; rintro e w2 ⟨rfl, hb2⟩; obtain ⟨hTw, q0, q1, qi, qt, hbW⟩ := HF.out _ hb2; have hO2 := hTw.o2.alloc (.cells #[I (id : Int)] 3); have hsz2 := hTw.sz; clear hb2) | (at_builtin; refine wpList_append_own_at _ rfl (.tmp 5) (.tmp 8) 34 rfl base 3 i0 (.int .i64 0) 1 8 Try.underlying34 hi0 hz0 hz1 hz2 rfl (by decide) _ _ _ rfl hO2 ⟨w2.heap.size, 0, none⟩ 1 1 [I (id : Int)] rfl rfl (cell_one_new _ _ _) (by intro u hu; simp at hu; subst hu; rfl) (by unfold maxLen; omega) (by omega) (by simp; omega) ?_))
      intro v6 w6 ho6 hg6 _ hw6
      obtain ⟨s6, rfl, hs6⟩ := slice_of_own ho6
      clear hs6
      have e2 := two_app hTw.swap (.cells #[I (id : Int)] 3) (id : Int) ho6 hg6 hw6
      obtain ⟨x6, t6, f6⟩ := e2
      have z6 : w6.cell? ⟨bt, 0, none⟩ = some ut := by rw [cell_of_row w6 _ 0 _ _ (0, 0) x6]; rfl
      have fz6 : w6.frozen? ⟨bt, 0, none⟩ = false := frozen_of_row w6 _ 0 _ _ x6
      have HEN : Hid (Fr2 base bi bt W (w6.setCell ⟨bt, 0, none⟩ (.slice s6.a s6.n s6.c)) ∧ ∃ ui' ut', Two (w6.setCell ⟨bt, 0, none⟩ (.slice s6.a s6.n s6.c)) base bi bt ui' ut' li (lt ++ [(id : Int)])) := ⟨Fr2.of hbW HSZ.out f6.swap, _, _, t6.swap⟩
      clear ho6 hg6 hw6 hTw x6 t6 f6 hbW hO2
      go_wp2
      (try simp only [Exit.inBlock, Exit.then])
      refine bodyPost_end (v := .tuple #[]) ?_ rfl ?_
      · simp [results, Try.results35, go_sem]
      exact ⟨rfl, HEN.out⟩
end Go.Proofs.Ytapfbinaocaclaa
