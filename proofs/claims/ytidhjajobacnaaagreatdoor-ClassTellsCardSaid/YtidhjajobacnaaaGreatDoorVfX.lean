import Derived.Test.YtidhjajobacnaaaGreatDoorRbX
import Derived.Test.YtidhjajobacnaaaGreatDoorKve
import Derived.Test.YtidhjajobacnaaaGreatDoorKvd
import Derived.Test.YtidhjajobacnaaaGreatDoorKqb
namespace Go.Proofs.YtidhjajobacnaaaGreatDoor
open Go.RowKit
set_option linter.unusedVariables false

/-- Is one of the tasks extended? -/
def extAny (c : Cf) : Bool := c.tasks.any (fun x => decide (0 < (x.evs.length : Int)))
theorem any_take {α : Type} (p : α → Bool) (l : List α) (j : Nat) (x : α) (hx : l[j]? = some x) : (l.take (j + 1)).any p = ((l.take j).any p || p x) := by
  rw [List.take_add_one, hx, Option.toList_some, List.any_append]
  simp
set_option maxHeartbeats 2000000 in
set_option maxRecDepth 100000 in
theorem anyExtended_any (w : World) (c : Cf) (v : Vs) (h : CfAt w c v) : Calls Tryz.prog 23 #[.agg (cfC c v)] w fun e w' => Ans w (extAny c) e w' := by
  have hb := below_alloc w
  have HN : Hid (v.t.n = c.tasks.length) := h.t.n
  have hc : v.t.n ≤ v.t.c := h.t.c
  have hm : v.t.c ≤ maxLen := h.t.m
  unfold maxLen at hm
  have hi18 : (Tryz.prog.info? 33).map (·.size) = some (cfC c v).size := by rw [show (cfC c v).size = 18 from rfl]; kernel_rfl
  have hV0 := heap_alloc_new w (.cells (cfC c v) 33)
  have hbw := hb (.cells (cfC c v) 33)
  have ce : ∀ W, Below w.heap.size w W → ∀ t, Calls Tryz.prog 13 #[.agg (cfC c v), I t] W fun e w' => Ans W (extL c t) e w' := fun W hW t => extended_any W c v (h.below hW) t
  have f11 : ∀ h : 11 < (cfC c v).size, (cfC c v)[11] = .slice v.t.a v.t.n v.t.c := fun _ => rfl
  have hs18 : (cfC c v).size = 18 := rfl
  generalize cfC c v = C at *
  replace f11 := f11 (by omega)
  go_enter Tryz.func23, Tryz.ntmps23
  go_wp2
  generalize w.alloc (.cells C 33) = W0 at *
  go_loopw [3, 7] (fun _ iv wr => ∃ j : Nat, j ≤ v.t.n ∧ iv = .int .i64 j ∧ Hid (Below W0.heap.size W0 wr ∧ (c.tasks.take j).any (fun x => decide (0 < (x.evs.length : Int))) = false)) (fun _ iv _ => v.t.n - (intOf iv).toNat)
  case atStart => exact ⟨0, by omega, rfl, Below.refl _ _, by simp⟩
  case round =>
    obtain ⟨j, hj, rfl, HJ⟩ := hrel
    obtain ⟨hB, hA⟩ := HJ.out
    have HA : Hid ((c.tasks.take j).any (fun x => decide (0 < (x.evs.length : Int))) = false) := hA
    clear HJ hA
    have hbr := hbw.trans (hB.mono hbw.size)
    by_cases hlt : j < v.t.n
    · have hlt' : (j : Int) < v.t.n := by omega
      have hjl : j < c.tasks.length := by rw [← HN.out]; exact hlt
      obtain ⟨x, hx⟩ : ∃ x, c.tasks[j]? = some x := ⟨_, List.getElem?_eq_getElem hjl⟩
      have HT := any_take (fun x => decide (0 < (x.evs.length : Int))) c.tasks j x hx
      have HX : Hid (extL c j = decide (0 < (x.evs.length : Int))) := by show _ = _; unfold extL; simp [isId, hx]; omega
      have HT2 : Hid ((c.tasks.take (j + 1)).any (fun x => decide (0 < (x.evs.length : Int))) = extL c j) := by show _ = _; rw [HT, HA.out, Bool.false_or, HX.out]
      have HF : Hid (extL c j = true → extAny c = true) := fun hh => by
        show List.any _ _ = true
        rw [List.any_eq_true]
        exact ⟨x, List.mem_of_getElem? hx, by rw [← HX.out]; exact hh⟩
      have c1 := ce wr hbr j
      have hVr := (hB.block _ (heap_lt hV0)).trans hV0
      clear HT HX hx hjl HA
      generalize extL c j = b at *
      cases b with
      | true =>
        have HG : Hid (extAny c = true) := HF.out rfl
        clear HF HT2
        go_wp2_with (refine wpList_load_row rfl 33 _ rfl w.heap.size rfl 33 _ (0, 0) _ hVr Tryz.underlying33 rfl hi18 ?_)
        refine c1.mono ?_
        rintro e w2 ⟨rfl, hb2⟩
        clear c1
        go_wp2
        go_ret
        exact ⟨ret_bool HG.out.symm, hbr.trans (hb2.mono hbr.size)⟩
      | false =>
        clear HF
        go_wp2_with (refine wpList_load_row rfl 33 _ rfl w.heap.size rfl 33 _ (0, 0) _ hVr Tryz.underlying33 rfl hi18 ?_)
        refine c1.mono ?_
        rintro e w2 ⟨rfl, hb2⟩
        clear c1
        go_wp2
        go_roundw
        case rel => exact ⟨j + 1, by omega, by go_num, hB.trans (hb2.mono hB.size), HT2.out⟩
        case measure => simp [intOf]; omega
    · obtain rfl : j = v.t.n := by omega
      have hlt' : ¬ ((v.t.n : Nat) : Int) < (v.t.n : Nat) := by omega
      have HG : Hid (extAny c = false) := by
        have := HA.out
        rw [List.take_of_length_le (by rw [HN.out]; exact Nat.le_refl _)] at this
        exact this
      clear HA
      go_wp2
      go_ret
      exact ⟨ret_bool HG.out.symm, hbr⟩
end Go.Proofs.YtidhjajobacnaaaGreatDoor

namespace Go.Proofs.YtidhjajobacnaaaGreatDoor
open Go.RowKit
set_option linter.unusedVariables false

/-! ### The class of a configuration -/
def sgL : List Int → List Tk → Bool
  | _, [] => true
  | ps, x :: r => x.act == 1 && !hasL ps x.prio && sgL (x.prio :: ps) r
/-- An array that says which numbers of 0 to 63 are in a list. -/
def Marks (ps : List Int) (a : Array Value) : Prop := a.size = 64 ∧ ∀ i : Nat, i < 64 → a[i]? = some (.bool (hasL ps i))
theorem marks_set {ps : List Int} {a : Array Value} (h : Marks ps a) (p : Nat) (hp : p < 64) : Marks ((p : Int) :: ps) (a.setIfInBounds p (.bool true)) := by
  refine ⟨by simpa using h.1, fun i hi => ?_⟩
  rw [Array.getElem?_setIfInBounds]
  by_cases e : p = i
  · subst e
    rw [if_pos rfl, if_pos (by rw [h.1]; exact hp)]
    simp [hasL]
  · rw [if_neg e, h.2 i hi]
    have : hasL ((p : Int) :: ps) i = hasL ps i := by
      simp only [hasL, List.any_cons]
      rw [show ((i : Int) == (p : Int)) = false by simp; omega]
      rfl
    rw [this]
set_option maxHeartbeats 2000000 in
set_option maxRecDepth 100000 in
theorem allSingle_any (w : World) (c : Cf) (v : Vs) (h : CfAt w c v) (hp : ∀ x ∈ c.tasks, 0 ≤ x.prio ∧ x.prio ≤ 63) : Calls Tryz.prog 24 #[.agg (cfC c v)] w fun e w' => Ans w (sgL [] c.tasks) e w' := by
  have hn : v.t.n = c.tasks.length := h.t.n
  have HN : Hid (v.t.n = c.tasks.length) := hn
  have hcap : v.t.n ≤ v.t.c := h.t.c
  have hmax : v.t.c ≤ maxLen := h.t.m
  unfold maxLen at hmax
  obtain ⟨R, hR⟩ : ∃ R, R = sgL [] c.tasks := ⟨_, rfl⟩
  rw [← hR]
  have hb := below_alloc w
  have hb2 := fun o o' => (hb o).trans ((below_alloc (w.alloc o) o').mono (hb o).size)
  have hz := heap_two w
  have f11 : ∀ h : 11 < (cfC c v).size, (cfC c v)[11] = .slice v.t.a v.t.n v.t.c := fun _ => rfl
  have hs18 : (cfC c v).size = 18 := rfl
  generalize cfC c v = C at *
  replace f11 := f11 (by omega)
  clear hn
  go_enter Tryz.func24, Tryz.ntmps24
  go_wp2
  go_loopw [5, 9] (fun _ iv wr => ∃ (j : Nat) (ps : List Int) (a : Array Value), j ≤ v.t.n ∧ iv = .int .i64 j ∧ Hid (Below w.heap.size w wr ∧ wr.heap[w.heap.size + 1]? = some (.cells a 90 (0, 0)) ∧ Marks ps a ∧ R = sgL ps (c.tasks.drop j))) (fun _ iv _ => v.t.n - (intOf iv).toNat)
  case atStart =>
    refine ⟨0, [], _, by omega, rfl, hb2 _ _, hz _ _, ⟨rfl, fun i hi => ?_⟩, hR⟩
    show (Array.replicate 64 (Value.bool false))[i]? = _
    rw [Array.getElem?_replicate, if_pos hi]
    rfl
  case round =>
    obtain ⟨j, ps, a, hj, rfl, HJ⟩ := hrel
    obtain ⟨hB, hA, hM, hRj⟩ := HJ.out
    have HRj : Hid (R = sgL ps (c.tasks.drop j)) := hRj
    have HM : Hid (Marks ps a) := hM
    clear HJ hRj hM hR
    by_cases hlt : j < v.t.n
    · have hlt' : (j : Int) < v.t.n := by omega
      have hjl : j < c.tasks.length := by rw [← HN.out]; exact hlt
      obtain ⟨x, hx⟩ : ∃ x, c.tasks[j]? = some x := ⟨_, List.getElem?_eq_getElem hjl⟩
      have hpx := hp x (List.mem_of_getElem? hx)
      obtain ⟨g, off, s4, s5, s6, s7, e, hg, a0, a1, a2, a3, a4, a5, a6, a7, r4, r5, r6, r7⟩ := tk_at (h.below hB) hx
      obtain ⟨p, hpe⟩ := Int.eq_ofNat_of_zero_le hpx.1
      have HD : Hid (R = (x.act == 1 && !hasL ps x.prio && sgL (x.prio :: ps) (c.tasks.drop (j + 1)))) := by
        show _ = _
        rw [HRj.out, List.drop_eq_getElem_cons hjl, sgL]
        rw [List.getElem?_eq_getElem hjl] at hx
        rw [Option.some.inj hx]
      rw [hpe] at a1 HD hpx
      have hp64 : (p : Int) < 64 := by omega
      have hp64n : p < 64 := by omega
      have hst : (storeCells ⟨wr.heap.size, 0, none⟩ [S x.name, I (p : Int), .bool x.full, I x.act, .slice s4.a s4.n s4.c, .slice s5.a s5.n s5.c, .slice s6.a s6.n s6.c, .slice s7.a s7.n s7.c] 0).run Tryz.prog (wr.alloc (.cells #[.string ⟨#[]⟩, .int .i64 0, .bool false, .int .i64 0, .slice none 0 0, .slice none 0 0, .slice none 0 0, .slice none 0 0] 41)) = .ok () (wr.alloc (.cells #[S x.name, I (p : Int), .bool x.full, I x.act, .slice s4.a s4.n s4.c, .slice s5.a s5.n s5.c, .slice s6.a s6.n s6.c, .slice s7.a s7.n s7.c] 41)) :=
        run_storeCells_new (P := Tryz.prog) wr 41 #[.string ⟨#[]⟩, .int .i64 0, .bool false, .int .i64 0, .slice none 0 0, .slice none 0 0, .slice none 0 0, .slice none 0 0] #[S x.name, I (p : Int), .bool x.full, I x.act, .slice s4.a s4.n s4.c, .slice s5.a s5.n s5.c, .slice s6.a s6.n s6.c, .slice s7.a s7.n s7.c] (by kernel_rfl) rfl (by simp [Value.oneCell'])
      have hal := below_alloc wr (.cells #[S x.name, I (p : Int), .bool x.full, I x.act, .slice s4.a s4.n s4.c, .slice s5.a s5.n s5.c, .slice s6.a s6.n s6.c, .slice s7.a s7.n s7.c] 41)
      have hB2 : Hid (Below w.heap.size w (wr.alloc (.cells #[S x.name, I (p : Int), .bool x.full, I x.act, .slice s4.a s4.n s4.c, .slice s5.a s5.n s5.c, .slice s6.a s6.n s6.c, .slice s7.a s7.n s7.c] 41))) := hB.trans (hal.mono hB.size)
      have hA2 : Hid ((wr.alloc (.cells #[S x.name, I (p : Int), .bool x.full, I x.act, .slice s4.a s4.n s4.c, .slice s5.a s5.n s5.c, .slice s6.a s6.n s6.c, .slice s7.a s7.n s7.c] 41)).heap[w.heap.size + 1]? = some (.cells a 90 (0, 0))) := (hal.block _ (heap_lt hA)).trans hA
      have hxn := heap_alloc_new wr (.cells #[S x.name, I (p : Int), .bool x.full, I x.act, .slice s4.a s4.n s4.c, .slice s5.a s5.n s5.c, .slice s6.a s6.n s6.c, .slice s7.a s7.n s7.c] 41)
      have hAl := heap_lt hA
      have hne : w.heap.size + 1 ≠ wr.heap.size := by omega
      have hgne : g ≠ wr.heap.size := by omega
      have hq : wr.cell? ⟨w.heap.size + 1, p, none⟩ = some (.bool (hasL ps p)) := by rw [cell_of_row _ _ p _ _ (0, 0) hA]; exact HM.out.2 p hp64n
      have hfz : wr.frozen? ⟨w.heap.size + 1, p, none⟩ = false := frozen_of_row wr _ p _ _ hA
      have HQ : Hid (∀ o, Below w.heap.size w ((wr.setCell ⟨w.heap.size + 1, p, none⟩ (.bool true)).alloc o) ∧ ((wr.setCell ⟨w.heap.size + 1, p, none⟩ (.bool true)).alloc o).heap[w.heap.size + 1]? = some (.cells (a.setIfInBounds p (.bool true)) 90 (0, 0))) := fun o => by
        have q1 := below_set (k := p) (v := .bool true) hB (b := w.heap.size + 1) (by omega) hB.size
        have q2 := below_alloc (wr.setCell ⟨w.heap.size + 1, p, none⟩ (.bool true)) o
        have q3 := heap_setCell_same wr (w.heap.size + 1) p a 90 (.bool true) hA
        exact ⟨q1.trans (q2.mono q1.size), (q2.block _ (heap_lt q3)).trans q3⟩
      rw [e] at *
      clear hx hjl hal hA HRj hpx hpe hxn r4 r5 r6 r7 hb hb2 hz
      cases ha : x.act == 1 with
      | false =>
        have HE : Hid (R = false) := by show _ = _; rw [HD.out, ha]; rfl
        have hnb : (x.act != 1) = true := by simp [bne, ha]
        go_wp2
        go_ret
        exact ⟨ret_bool HE.out.symm, hB2.out⟩
      | true =>
        have hnb : (x.act != 1) = false := by simp [bne, ha]
        generalize hqb : hasL ps p = b at *
        cases b with
        | true =>
          have HE : Hid (R = false) := by show _ = _; rw [HD.out, ha]; rfl
          go_wp2
          go_ret
          exact ⟨ret_bool HE.out.symm, hB2.out⟩
        | false =>
          have HE : Hid (R = sgL ((p : Int) :: ps) (c.tasks.drop (j + 1))) := by show _ = _; rw [HD.out, ha]; rfl
          go_wp2
          go_roundw
          case rel => exact ⟨j + 1, (p : Int) :: ps, _, by omega, by go_num, (HQ.out _).1, (HQ.out _).2, marks_set HM.out p hp64n, HE.out⟩
          case measure => simp [intOf]; omega
    · obtain rfl : j = v.t.n := by omega
      have hlt' : ¬ ((v.t.n : Nat) : Int) < (v.t.n : Nat) := by omega
      have HE : Hid (R = true) := by show _ = _; rw [HRj.out, List.drop_eq_nil_of_le (by rw [HN.out]; exact Nat.le_refl _), sgL]
      go_wp2
      go_ret
      exact ⟨ret_bool HE.out.symm, hB⟩
end Go.Proofs.YtidhjajobacnaaaGreatDoor

namespace Go.Proofs.YtidhjajobacnaaaGreatDoor
set_option linter.unusedVariables false

/-! ### What it says that nothing was found -/
theorem first_none {cs : List Ck} {k : Nat} {B : Nat → Bool} (h : firstF cs k B = none) : ∀ i, i < cs.length → B (k + i) = true := by
  induction cs generalizing k with
  | nil => intro i hi; exact absurd hi (Nat.not_lt_zero _)
  | cons x r ih =>
    intro i hi
    rw [firstF] at h
    split at h
    · rename_i hb
      cases i with
      | zero => exact hb
      | succ i =>
        have := ih h i (by simpa using hi)
        rwa [show k + (i + 1) = k + 1 + i by omega]
    · cases h
theorem looks_none {E : Nat → Option Int} {m j : Nat} (h : looksF E m j = none) : ∀ i, i < m → E (j + i) = none := by
  induction m generalizing j with
  | zero => intro i hi; exact absurd hi (Nat.not_lt_zero _)
  | succ m ih =>
    intro i hi
    rw [looksF] at h
    split at h
    · cases h
    · rename_i he
      cases i with
      | zero => exact he
      | succ i =>
        have := ih h i (by omega)
        rwa [show j + (i + 1) = j + 1 + i by omega]
theorem lookL_none {names : List (List UInt8)} {lo hi : Int} {cs : List Ck} {B : Nat → Nat → Bool} (h : lookL names lo hi cs B = none) :
    inR names.length lo hi = true ∧ ∀ (j : Nat) (nm : List UInt8), names[j]? = some nm → isNm nm = true ∧ hasS (names.take j) nm = false ∧ ∀ k, k < cs.length → B k j = true := by
  unfold lookL at h
  split at h
  · rename_i hin
    refine ⟨hin, fun j nm hj => ?_⟩
    have hE := looks_none h j (List.getElem?_eq_some_iff.1 hj).1
    rw [Nat.zero_add] at hE
    unfold objF at hE
    rw [hj] at hE
    simp only at hE
    split at hE
    · cases hE
    · rename_i hb
      have h2 : isNm nm = true ∧ hasS (names.take j) nm = false := by
        cases h3 : isNm nm <;> cases h4 : hasS (names.take j) nm <;> simp [h3, h4] at hb ⊢
      exact ⟨h2.1, h2.2, fun k hk => by have := first_none hE k hk; rwa [Nat.zero_add] at this⟩
  · cases h
theorem kind_none {α : Type} {l : List α} {f : α → List UInt8} {lo hi : Int} {cs : List Ck} {Q : Nat → α → Nat → Bool} (h : lookL (l.map f) lo hi cs (byB l Q) = none) :
    inR l.length lo hi = true ∧ ∀ (j : Nat) (x : α), l[j]? = some x → isNm (f x) = true ∧ hasS ((l.map f).take j) (f x) = false ∧ ∀ k, k < cs.length → Q j x k = true := by
  obtain ⟨h1, h2⟩ := lookL_none h
  rw [List.length_map] at h1
  refine ⟨h1, fun j x hj => ?_⟩
  obtain ⟨a, b, d⟩ := h2 j (f x) (by rw [List.getElem?_map, hj]; rfl)
  exact ⟨a, b, fun k hk => by rw [← byB_at (B := Q) hj]; exact d k hk⟩
theorem lookAll_none {l : List (List UInt8 × Option (Int × Int))} (h : lookAll l = none) : ∀ x ∈ l, x.2 = none := by
  induction l with
  | nil => intro x hx; cases hx
  | cons y r ih =>
    obtain ⟨wd, o⟩ := y
    rw [lookAll] at h
    cases o with
    | some p => obtain ⟨a, b⟩ := p; cases h
    | none =>
      intro x hx
      rcases List.mem_cons.1 hx with rfl | hx
      · rfl
      · exact ih h x hx
/-- What a configuration has that may be. -/
structure May (c : Cf) : Prop where
  m : inR c.modes.length 1 8 = true ∧ ∀ (j : Nat) (nm : List UInt8), c.modes[j]? = some nm → isNm nm = true ∧ hasS (c.modes.take j) nm = false
  r : inR c.ress.length 0 64 = true ∧ ∀ (j : Nat) (x : Rs), c.ress[j]? = some x → isNm x.name = true ∧ hasS ((c.ress.map fun x => x.name).take j) x.name = false ∧ ∀ k, k < 4 → resQ c j x k = true
  e : inR c.evs.length 0 256 = true ∧ ∀ (j : Nat) (x : Ev), c.evs[j]? = some x → isNm x.name = true ∧ hasS ((c.evs.map fun x => x.name).take j) x.name = false ∧ ∀ k, k < 1 → evQ c j x k = true
  t : inR c.tasks.length 1 256 = true ∧ ∀ (j : Nat) (x : Tk), c.tasks[j]? = some x → isNm x.name = true ∧ hasS ((c.tasks.map fun x => x.name).take j) x.name = false ∧ ∀ k, k < 6 → tkQ c j x k = true
  k : inR c.ctrs.length 0 16 = true ∧ ∀ (j : Nat) (x : Ct), c.ctrs[j]? = some x → isNm x.name = true ∧ hasS ((c.ctrs.map fun x => x.name).take j) x.name = false ∧ ∀ k, k < 1 → ctQ c j x k = true
  a : inR c.als.length 0 64 = true ∧ ∀ (j : Nat) (x : Al), c.als[j]? = some x → isNm x.name = true ∧ hasS ((c.als.map fun x => x.name).take j) x.name = false ∧ ∀ k, k < 8 → alQ c j x k = true
  i : inR c.isrs.length 0 32 = true ∧ ∀ (j : Nat) (x : Is), c.isrs[j]? = some x → isNm x.name = true ∧ hasS ((c.isrs.map fun x => x.name).take j) x.name = false ∧ ∀ k, k < 5 → isQ c j x k = true
  s : inR c.msgs.length 0 64 = true ∧ ∀ (j : Nat) (x : Ms), c.msgs[j]? = some x → isNm x.name = true ∧ hasS ((c.msgs.map fun x => x.name).take j) x.name = false ∧ ∀ k, k < 8 → msQ c j x k = true
theorem may_of {c : Cf} (h : allF c = none) : May c := by
  have H := lookAll_none h
  unfold tenR at H
  simp only [List.forall_mem_cons] at H
  obtain ⟨h0, h1, h2, h3, h4, h5, h6, h7, h8, h9, _⟩ := H
  have hm := lookL_none h2
  exact ⟨⟨hm.1, fun j nm hj => ⟨(hm.2 j nm hj).1, (hm.2 j nm hj).2.1⟩⟩, kind_none h3, kind_none h4, kind_none h5, kind_none h6, kind_none h7, kind_none h8, kind_none h9⟩
theorem may_prio {c : Cf} (h : allF c = none) : ∀ x ∈ c.tasks, 0 ≤ x.prio ∧ x.prio ≤ 63 := by
  intro x hx
  obtain ⟨j, hj⟩ := List.getElem?_of_mem hx
  have hq := ((may_of h).t.2 j x hj).2.2 0 (by omega)
  have hq2 : (inR x.prio 0 63 && inR x.act 1 255) = true := hq
  have := (and2 hq2).1
  unfold inR at this
  simpa using this
end Go.Proofs.YtidhjajobacnaaaGreatDoor

namespace Go.Proofs.YtidhjajobacnaaaGreatDoor
open Go.RowKit Go.Sort
set_option linter.unusedVariables false

/-! ### Class -/
def clsK (ext single : Bool) : Int := if ext then (if single then 3 else 4) else (if single then 1 else 2)
def clsL (c : Cf) : Int × Int := match allF c with
  | none => (clsK (extAny c) (sgL [] c.tasks), 0)
  | some _ => (0, 2)
def ClsPost (w : World) (p : Int × Int) (e : Ending) (w' : World) : Prop := e = .returned (.tuple #[I p.1, I p.2]) ∧ Below w.heap.size w w'
set_option maxHeartbeats 2000000 in
set_option maxRecDepth 100000 in
theorem class_any (w : World) (c : Cf) (v : Vs) (h : CfAt w c v) (hl : LensOK c) : Calls Tryz.prog 11 #[.agg (cfC c v)] w fun e w' => ClsPost w (clsL c) e w' := by
  have hi18 : (Tryz.prog.info? 33).map (·.size) = some (cfC c v).size := by rw [show (cfC c v).size = 18 from rfl]; kernel_rfl
  have hV0 := heap_alloc_new w (.cells (cfC c v) 33)
  have hbw := below_alloc w (.cells (cfC c v) 33)
  have cl := look_all (w.alloc (.cells (cfC c v) 33)) c v (h.below hbw) hl
  cases ho : allF c with
  | some r =>
    obtain ⟨cd, wd, ix⟩ := r
    rw [ho] at cl
    rw [show clsL c = (0, 2) by unfold clsL; rw [ho]]
    generalize cfC c v = C at *
    go_enter Tryz.func11, Tryz.ntmps11
    go_wp2_with (first | (refine wpList_load_row rfl 33 _ rfl w.heap.size rfl 33 _ (0, 0) _ hV0 Tryz.underlying33 rfl hi18 ?_) | (go_at_call 17; refine cl.mono ?_; rintro e w1 ⟨b, rfl, hr1, hr2, hb3⟩))
    go_ret2
    exact ⟨rfl, hbw.trans (hb3.mono hbw.size)⟩
  | none =>
    rw [ho] at cl
    rw [show clsL c = (clsK (extAny c) (sgL [] c.tasks), 0) by unfold clsL; rw [ho]]
    have hp := may_prio ho
    have ca := fun W (hW : Below w.heap.size w W) => anyExtended_any W c v (h.below hW)
    have cs := fun W (hW : Below w.heap.size w W) => allSingle_any W c v (h.below hW) hp
    generalize cfC c v = C at *
    generalize extAny c = be at *
    generalize sgL [] c.tasks = bs at *
    go_enter Tryz.func11, Tryz.ntmps11
    go_wp2_with (first | (refine wpList_load_row rfl 33 _ rfl w.heap.size rfl 33 _ (0, 0) _ hV0 Tryz.underlying33 rfl hi18 ?_) | (go_at_call 17; refine cl.mono ?_; rintro e w1 ⟨rfl, hb3⟩))
    have hbw1 := hbw.trans (hb3.mono hbw.size)
    have hV1 := (hb3.block _ (heap_lt hV0)).trans hV0
    have c1 : ∀ d os, Calls Tryz.prog 23 #[.agg C] (grow (redrawn w1 d) os) fun e w'' => e = .returned (.bool be) ∧ ∃ p : Regrown, w'' = grow (redrawn w1 p.d) p.os := fun d os => Calls.regrown_of (ca _ (hbw1.trans ((below_regrown _ d os).mono hbw1.size)))
    have c2 : ∀ d os, Calls Tryz.prog 24 #[.agg C] (grow (redrawn w1 d) os) fun e w'' => e = .returned (.bool bs) ∧ ∃ p : Regrown, w'' = grow (redrawn w1 p.d) p.os := fun d os => Calls.regrown_of (cs _ (hbw1.trans ((below_regrown _ d os).mono hbw1.size)))
    clear ca cs cl
    refine wp_region_quiet_below (by kernel_rfl) (by kernel_rfl) ?_
    refine wpQuiet_load_row rfl 33 _ rfl w.heap.size rfl 33 _ (0, 0) _ (heap_regrown hV1) Tryz.underlying33 rfl hi18 ?_
    quiet_step (exact c1 _ _)
    refine wpQuiet_load_row rfl 33 _ rfl w.heap.size rfl 33 _ (0, 0) _ (heap_regrown hV1) Tryz.underlying33 rfl hi18 ?_
    repeat (quiet_step (first | exact c1 _ _ | exact c2 _ _))
    refine wpQuiet_nil ?_
    intro _ hw'
    obtain ⟨⟨dq, osq⟩, hw''⟩ := hw'
    subst hw''
    cases be <;> cases bs <;> (go_wp2; go_ret2; exact ⟨rfl, hbw1.trans ((below_regrown w1 dq osq).mono hbw1.size)⟩)
end Go.Proofs.YtidhjajobacnaaaGreatDoor

