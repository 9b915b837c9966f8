import Derived.Test.YtapfbinaocaclaaEeq
namespace Go.Proofs.Ytapfbinaocaclaa
open Go.RowKit Go.Maps
set_option linter.unusedVariables false
set_option linter.unusedSimpArgs false

/-! ### slices.IndexFunc, ContainsFunc of ints -/
def idxI (p : Int → Bool) (l : List Int) : Int := match l.findIdx? p with | some i => (i : Int) | none => -1
theorem idxI_hit {p : Int → Bool} {l : List Int} {j : Nat} {x : Int} (h : (l.take j).any p = false) (hx : l[j]? = some x) (hp : p x = true) : idxI p l = (j : Int) := by
  unfold idxI
  have : l.findIdx? p = some j := by
    rw [List.findIdx?_eq_some_iff_getElem]
    obtain ⟨hj, rfl⟩ := List.getElem?_eq_some_iff.1 hx
    refine ⟨hj, hp, fun k hk => ?_⟩
    rw [List.any_eq_false] at h
    have := h l[k] (List.mem_iff_getElem?.2 ⟨k, by rw [List.getElem?_take, if_pos hk]; exact List.getElem?_eq_getElem (by omega)⟩)
    simpa using this
  rw [this]
theorem idxI_none {p : Int → Bool} {l : List Int} (h : l.any p = false) : idxI p l = -1 := by
  unfold idxI
  have : l.findIdx? p = none := by
    rw [List.findIdx?_eq_none_iff]
    intro x hx
    rw [List.any_eq_false] at h
    simpa using h x hx
  rw [this]
theorem idxI_any (p : Int → Bool) (l : List Int) : decide (0 ≤ idxI p l) = l.any p := by
  unfold idxI
  cases h : l.findIdx? p with
  | none =>
    rw [List.findIdx?_eq_none_iff] at h
    have : l.any p = false := by
      rw [List.any_eq_false]
      intro x hx
      simpa using h x hx
    rw [this]
    rfl
  | some i =>
    rw [List.findIdx?_eq_some_iff_getElem] at h
    obtain ⟨hi, hp, _⟩ := h
    have : l.any p = true := List.any_eq_true.2 ⟨_, List.getElem_mem hi, hp⟩
    rw [this]
    simp
set_option maxHeartbeats 4000000 in
set_option maxRecDepth 100000 in
theorem index_any (w : World) (s : Sl) (l : List Int) (hl : RowsAt w 1 intP s l) (f : Nat) (caps : Array Value) (eg : ∀ args W, (callFunc f args).run Try.prog W = .ok (.enter f args) W) (p : Int → Bool)
    (hf : ∀ W, Below w.heap.size w W → ∀ x ∈ l, Calls Try.prog f (#[I x] ++ caps) W fun e w' => e = .returned (.bool (p x)) ∧ Below W.heap.size W w') :
    Calls Try.prog 56 #[.slice s.a s.n s.c, .func (.func f) #[] caps] w fun e w' => e = .returned (I (idxI p l)) ∧ Below w.heap.size w w' := by
  have HS : Hid (s.n = l.length) := hl.n
  have hsc : s.n ≤ s.c := hl.c
  have hsm : s.c ≤ maxLen := hl.m
  unfold maxLen at hsm
  have HH : Hid (RowsAt w 1 intP s l) := hl
  have HFF : Hid (∀ W, Below w.heap.size w W → ∀ x ∈ l, Calls Try.prog f (#[I x] ++ caps) W fun e w' => e = .returned (.bool (p x)) ∧ Below W.heap.size W w') := hf
  obtain ⟨R, hR⟩ : ∃ R, R = idxI p l := ⟨_, rfl⟩
  rw [← hR]
  have HR : Hid (R = idxI p l) := hR
  clear hl hR hf
  go_enter Try.func56, Try.ntmps56
  go_wp2
  go_loopw [5, 8] (fun _ iv wr => ∃ j : Nat, j ≤ s.n ∧ iv = .int .i64 j ∧ Hid ((l.take j).any p = false ∧ Below w.heap.size w wr)) (fun _ iv _ => s.n - (intOf iv).toNat)
  case atStart => exact ⟨0, by omega, rfl, by simp, Below.refl _ _⟩
  case round =>
    obtain ⟨j, hj, rfl, HJ⟩ := hrel
    by_cases hlt : j < s.n
    · have hlt' : (j : Int) < s.n := by omega
      obtain ⟨x, hx⟩ : ∃ x, l[j]? = some x := ⟨_, List.getElem?_eq_getElem (by rw [← HS.out]; exact hlt)⟩
      obtain ⟨g5, o5, e5, hg5, b5⟩ := ints_at (HH.out.below HJ.out.2 (fun _ _ _ _ h => h)) hx
      have cx := HFF.out _ HJ.out.2 x (List.mem_of_getElem? hx)
      have HA : Hid ((l.take (j + 1)).any p = p x) := by show _ = _; rw [any_take _ _ j _ hx, HJ.out.1, Bool.false_or]
      have HT : Hid (p x = true → R = (j : Int)) := fun ht => by rw [HR.out]; exact idxI_hit HJ.out.1 hx ht
      have HB : Hid (Below w.heap.size w wr) := HJ.out.2
      rw [e5]
      clear hx e5 HJ
      cases he : p x with
      | true =>
        rw [he] at cx
        have HE : Hid (R = (j : Int)) := HT.out he
        clear HT HA
        go_wp2
        refine cx.mono ?_
        clear cx
        rintro e7 w7 ⟨rfl, hb7⟩
        have HB7 : Hid (Below w.heap.size w w7) := HB.out.trans (hb7.mono HB.out.size)
        clear hb7
        go_wp2
        go_ret
        exact ⟨ret_int HE.out.symm, HB7.out⟩
      | false =>
        rw [he] at cx
        have HA2 : Hid ((l.take (j + 1)).any p = false) := by show _ = _; rw [HA.out, he]
        clear HT HA
        go_wp2
        refine cx.mono ?_
        clear cx
        rintro e7 w7 ⟨rfl, hb7⟩
        have HB7 : Hid (Below w.heap.size w w7) := HB.out.trans (hb7.mono HB.out.size)
        clear hb7
        go_wp2
        go_roundw
        case rel => exact ⟨j + 1, by omega, by go_num, HA2.out, HB7.out⟩
        case measure => simp [intOf]; omega
    · obtain rfl : j = s.n := by omega
      have hlt' : ¬ ((s.n : Nat) : Int) < (s.n : Nat) := by omega
      have HE : Hid (R = -1) := by
        show _ = _
        rw [HR.out]
        refine idxI_none ?_
        have := HJ.out.1
        rwa [List.take_of_length_le (by rw [HS.out]; exact Nat.le_refl _)] at this
      have HB : Hid (Below w.heap.size w wr) := HJ.out.2
      clear HR HJ
      go_wp2
      go_ret
      exact ⟨ret_int HE.out.symm, HB.out⟩
set_option maxHeartbeats 4000000 in
set_option maxRecDepth 100000 in
theorem contains_any (w : World) (s : Sl) (l : List Int) (hl : RowsAt w 1 intP s l) (f : Nat) (caps : Array Value) (eg : ∀ args W, (callFunc f args).run Try.prog W = .ok (.enter f args) W) (p : Int → Bool)
    (hf : ∀ W, Below w.heap.size w W → ∀ x ∈ l, Calls Try.prog f (#[I x] ++ caps) W fun e w' => e = .returned (.bool (p x)) ∧ Below W.heap.size W w') :
    Calls Try.prog 36 #[.slice s.a s.n s.c, .func (.func f) #[] caps] w fun e w' => e = .returned (.bool (l.any p)) ∧ Below w.heap.size w w' := by
  have kx := index_any w s l hl f caps eg p hf
  have HA : Hid (decide (0 ≤ idxI p l) = l.any p) := idxI_any p l
  generalize idxI p l = R at *
  clear hl hf eg
  go_enter Try.func36, Try.ntmps36
  go_wp2_with (go_at_call 56; refine kx.mono ?_; clear kx; rintro e w1 ⟨rfl, hb1⟩)
  go_ret
  exact ⟨ret_bool (by rw [← HA.out]), hb1⟩
/-! ### Users: the closures -/
set_option maxHeartbeats 4000000 in
set_option maxRecDepth 100000 in
theorem users1_any (W : World) (c : Cf) (hn : c.ress.length ≤ 8796093022208) (b bf br : Nat) (h2 : BoxM W bf b 72) (j q : Nat) (hr : W.cell? ⟨br, 0, none⟩ = some (I (q : Int))) (hE : EndsAt W b c) (hjn : j < c.ress.length) (hq : q < c.ress.length) :
    Calls Try.prog 33 #[I (j : Int), .pointer (some ⟨bf, 0, none⟩), .pointer (some ⟨br, 0, none⟩)] W fun e w' => e = .returned (.bool (rootN c (j : Int) == rootN c (q : Int))) ∧ Below W.heap.size W w' := by
  have z1 := h2.cell
  have HB : Hid (Below W.heap.size W W) := Below.refl _ _
  obtain ⟨R, hR⟩ : ∃ R, R = (rootN c (j : Int) == rootN c (q : Int)) := ⟨_, rfl⟩
  rw [← hR]
  have HR : Hid (R = (rootN c (j : Int) == rootN c (q : Int))) := hR
  clear hR h2
  go_enter Try.func33, Try.ntmps33
  go_wp2_with (first | (at_lookup; refine wpList_find_g _ _ 72 rfl Try.underlying72 b c rfl hE hn j hjn rfl (by kernel_rfl) ?_; intro e7 HX7; clear hjn) | (at_lookup; refine wpList_find_g _ _ 72 rfl Try.underlying72 b c rfl hE hn q hq rfl (by kernel_rfl) ?_; intro e8 HX8; clear hq))
  go_ret
  refine ⟨ret_bool ?_, HB.out⟩
  rw [HR.out, ← HX7.out, ← HX8.out]
end Go.Proofs.Ytapfbinaocaclaa

namespace Go.Proofs.Ytapfbinaocaclaa
open Go.RowKit Go.Maps
set_option linter.unusedVariables false
set_option linter.unusedSimpArgs false

/-! ### Users: the closure over all users -/
def BoxF (w : World) (b f : Nat) (caps : Array Value) : Prop := w.heap[b]? = some (.cells #[.func (.func f) #[] caps] 81 (0, 0))
set_option maxHeartbeats 8000000 in
set_option maxRecDepth 100000 in
theorem users2_any (W : World) (isr : Bool) (id : Nat) (prio : Int) (s : Sl) (l : List Int) (hl : RowsAt W 1 intP s l) (f : Nat) (caps : Array Value) (eg : ∀ args W, (callFunc f args).run Try.prog W = .ok (.enter f args) W) (p : Int → Bool) (bo bi bt base : Nat) (hbo : BoxF W bo f caps)
    (hf : ∀ W', Below W.heap.size W W' → ∀ x ∈ l, Calls Try.prog f (#[I x] ++ caps) W' fun e w' => e = .returned (.bool (p x)) ∧ Below W'.heap.size W' w')
    (ui ut : Value) (li lt : List Int) (h2 : Two W base bi bt ui ut li lt) (hni : li.length ≤ 8796093022208) (hnt : lt.length ≤ 8796093022208) :
    Calls Try.prog 35 #[.agg (usC isr id prio s), .pointer (some ⟨bo, 0, none⟩), .pointer (some ⟨bi, 0, none⟩), .pointer (some ⟨bt, 0, none⟩)] W fun e w' => e = .returned (.tuple #[]) ∧ Fr2 base bi bt W w' ∧ ∃ ui' ut', Two w' base bi bt ui' ut' (if (l.any p && isr) = true then li ++ [(id : Int)] else li) (if (l.any p && !isr) = true then lt ++ [(id : Int)] else lt) := by
  obtain ⟨i0, hi0, hz0, hz1, hz2⟩ := info_parts Try.infoInt
  have hb := below_alloc W (.cells (usC isr id prio s) 84)
  have kt := contains_any _ s l (hl.below hb (fun _ _ _ _ h => h)) f caps eg p (fun W' hW => hf W' (hb.trans (hW.mono hb.size)))
  have z1 : (W.alloc (.cells (usC isr id prio s) 84)).cell? ⟨bo, 0, none⟩ = some (.func (.func f) #[] caps) := by rw [cell_of_row _ _ 0 _ _ (0, 0) (heap_over _ _ hbo)]; rfl
  have hnc : bo ≠ W.heap.size := Nat.ne_of_lt (heap_lt hbo)
  have hzu := heap_alloc_new W (.cells (usC isr id prio s) 84)
  have HF : Hid (∀ w', Below (W.alloc (.cells (usC isr id prio s) 84)).heap.size (W.alloc (.cells (usC isr id prio s) 84)) w' → Two w' base bi bt ui ut li lt ∧ w'.cell? ⟨W.heap.size, 0, none⟩ = some (.bool isr) ∧ w'.cell? ⟨W.heap.size, 1, none⟩ = some (I (id : Int)) ∧ w'.cell? ⟨bi, 0, none⟩ = some ui ∧ w'.cell? ⟨bt, 0, none⟩ = some ut ∧ Below W.heap.size W w') := fun w' hW => by
    have hbW := hb.trans (hW.mono hb.size)
    have ht := h2.below hbW
    refine ⟨ht, ?_, ?_, ?_, ?_, hbW⟩
    · rw [cell_of_row w' _ 0 _ _ (0, 0) ((hW.block _ (heap_lt hzu)).trans hzu)]; rfl
    · rw [cell_of_row w' _ 1 _ _ (0, 0) ((hW.block _ (heap_lt hzu)).trans hzu)]; rfl
    · rw [cell_of_row w' _ 0 _ _ (0, 0) ht.x1]; rfl
    · rw [cell_of_row w' _ 0 _ _ (0, 0) ht.x2]; rfl
  have HSZ : Hid (base ≤ W.heap.size) := h2.sz
  have HF2 : Hid (∀ w', Below W.heap.size W w' → Fr2 base bi bt W w') := fun w' hb => Fr2.of hb h2.sz ⟨rfl, rfl, rfl, Nat.le_refl _, fun _ _ _ _ => rfl⟩
  generalize l.any p = A at *
  unfold usC at *
  clear hl hbo hf h2 hb hzu eg
  cases A with
  | false =>
    simp only [Bool.false_and, Bool.false_eq_true, if_false]
    go_enter Try.func35, Try.ntmps35
    go_wp2_with (go_at_call 36; refine kt.mono ?_; clear kt; rintro e w2 ⟨rfl, hb2⟩; obtain ⟨hTw, q0, q1, qi, qt, hbW⟩ := HF.out _ hb2; have HEN : Hid (Fr2 base bi bt W w2 ∧ ∃ ui' ut', Two w2 base bi bt ui' ut' li lt) := ⟨HF2.out _ hbW, _, _, hTw⟩; clear hb2 hTw hbW)
    (try simp only [Exit.inBlock, Exit.then])
    refine bodyPost_end (v := .tuple #[]) ?_ rfl ?_
    · simp [results, Try.results35, go_sem]
    exact ⟨rfl, HEN.out⟩
  | true =>
    cases isr with
    | true =>
      simp only [Bool.and_self, Bool.not_true, Bool.and_false, Bool.false_eq_true, if_false, if_true]
      go_enter Try.func35, Try.ntmps35
      go_wp2_with (first | (go_at_call 36; refine kt.mono ?_; clear kt; rintro e w2 ⟨rfl, hb2⟩; obtain ⟨hTw, q0, q1, qi, qt, hbW⟩ := HF.out _ hb2; have hO2 := hTw.o1.alloc (.cells #[I (id : Int)] 3); have hsz2 := hTw.sz; clear hb2) | (at_builtin; refine wpList_append_own_at _ rfl (.tmp 19) (.tmp 22) 34 rfl base 3 i0 (.int .i64 0) 1 8 Try.underlying34 hi0 hz0 hz1 hz2 rfl (by decide) _ _ _ rfl hO2 ⟨w2.heap.size, 0, none⟩ 1 1 [I (id : Int)] rfl rfl (cell_one_new _ _ _) (by intro u hu; simp at hu; subst hu; rfl) (by unfold maxLen; omega) (by omega) (by simp; omega) ?_))
      intro v6 w6 ho6 hg6 _ hw6
      obtain ⟨s6, rfl, hs6⟩ := slice_of_own ho6
      clear hs6
      have e2 := two_app hTw (.cells #[I (id : Int)] 3) (id : Int) ho6 hg6 hw6
      obtain ⟨x6, t6, f6⟩ := e2
      have z6 : w6.cell? ⟨bi, 0, none⟩ = some ui := by rw [cell_of_row w6 _ 0 _ _ (0, 0) x6]; rfl
      have fz6 : w6.frozen? ⟨bi, 0, none⟩ = false := frozen_of_row w6 _ 0 _ _ x6
      have HEN : Hid (Fr2 base bi bt W (w6.setCell ⟨bi, 0, none⟩ (.slice s6.a s6.n s6.c)) ∧ ∃ ui' ut', Two (w6.setCell ⟨bi, 0, none⟩ (.slice s6.a s6.n s6.c)) base bi bt ui' ut' (li ++ [(id : Int)]) lt) := ⟨Fr2.of hbW HSZ.out f6, _, _, t6⟩
      clear ho6 hg6 hw6 hTw x6 t6 f6 hbW hO2
      go_wp2
      (try simp only [Exit.inBlock, Exit.then])
      refine bodyPost_end (v := .tuple #[]) ?_ rfl ?_
      · simp [results, Try.results35, go_sem]
      exact ⟨rfl, HEN.out⟩
    | false =>
      simp only [Bool.and_self, Bool.not_false, Bool.and_false, Bool.false_eq_true, if_false, if_true]
      go_enter Try.func35, Try.ntmps35
      go_wp2_with (first | (go_at_call 36; refine kt.mono ?_; clear kt; rintro e w2 ⟨rfl, hb2⟩; obtain ⟨hTw, q0, q1, qi, qt, hbW⟩ := HF.out _ hb2; have hO2 := hTw.o2.alloc (.cells #[I (id : Int)] 3); have hsz2 := hTw.sz; clear hb2) | (at_builtin; refine wpList_append_own_at _ rfl (.tmp 5) (.tmp 8) 34 rfl base 3 i0 (.int .i64 0) 1 8 Try.underlying34 hi0 hz0 hz1 hz2 rfl (by decide) _ _ _ rfl hO2 ⟨w2.heap.size, 0, none⟩ 1 1 [I (id : Int)] rfl rfl (cell_one_new _ _ _) (by intro u hu; simp at hu; subst hu; rfl) (by unfold maxLen; omega) (by omega) (by simp; omega) ?_))
      intro v6 w6 ho6 hg6 _ hw6
      obtain ⟨s6, rfl, hs6⟩ := slice_of_own ho6
      clear hs6
      have e2 := two_app hTw.swap (.cells #[I (id : Int)] 3) (id : Int) ho6 hg6 hw6
      obtain ⟨x6, t6, f6⟩ := e2
      have z6 : w6.cell? ⟨bt, 0, none⟩ = some ut := by rw [cell_of_row w6 _ 0 _ _ (0, 0) x6]; rfl
      have fz6 : w6.frozen? ⟨bt, 0, none⟩ = false := frozen_of_row w6 _ 0 _ _ x6
      have HEN : Hid (Fr2 base bi bt W (w6.setCell ⟨bt, 0, none⟩ (.slice s6.a s6.n s6.c)) ∧ ∃ ui' ut', Two (w6.setCell ⟨bt, 0, none⟩ (.slice s6.a s6.n s6.c)) base bi bt ui' ut' li (lt ++ [(id : Int)])) := ⟨Fr2.of hbW HSZ.out f6.swap, _, _, t6.swap⟩
      clear ho6 hg6 hw6 hTw x6 t6 f6 hbW hO2
      go_wp2
      (try simp only [Exit.inBlock, Exit.then])
      refine bodyPost_end (v := .tuple #[]) ?_ rfl ?_
      · simp [results, Try.results35, go_sem]
      exact ⟨rfl, HEN.out⟩
end Go.Proofs.Ytapfbinaocaclaa

