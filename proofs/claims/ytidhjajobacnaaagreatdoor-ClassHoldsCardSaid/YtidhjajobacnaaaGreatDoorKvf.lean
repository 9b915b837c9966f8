import Derived.Test.YtidhjajobacnaaaGreatDoorKve
import Derived.Test.YtidhjajobacnaaaGreatDoorKsg
namespace Go.Proofs.YtidhjajobacnaaaGreatDoor
open Go.RowKit
set_option linter.unusedVariables false

/-! ### The class of a configuration -/
def sgL : List Int → List Tk → Bool
  | _, [] => true
  | ps, x :: r => x.act == 1 && !hasL ps x.prio && sgL (x.prio :: ps) r
/-- An array that says which numbers of 0 to 63 are in a list. -/
def Marks (ps : List Int) (a : Array Value) : Prop := a.size = 64 ∧ ∀ i : Nat, i < 64 → a[i]? = some (.bool (hasL ps i))
theorem marks_set {ps : List Int} {a : Array Value} (h : Marks ps a) (p : Nat) (hp : p < 64) : Marks ((p : Int) :: ps) (a.setIfInBounds p (.bool true)) := by
  refine ⟨by simpa using h.1, fun i hi => ?_⟩
  rw [Array.getElem?_setIfInBounds]
  by_cases e : p = i
  · subst e
    rw [if_pos rfl, if_pos (by rw [h.1]; exact hp)]
    simp [hasL]
  · rw [if_neg e, h.2 i hi]
    have : hasL ((p : Int) :: ps) i = hasL ps i := by
      simp only [hasL, List.any_cons]
      rw [show ((i : Int) == (p : Int)) = false by simp; omega]
      rfl
    rw [this]
set_option maxHeartbeats 2000000 in
set_option maxRecDepth 100000 in
theorem allSingle_any (w : World) (c : Cf) (v : Vs) (h : CfAt w c v) (hp : ∀ x ∈ c.tasks, 0 ≤ x.prio ∧ x.prio ≤ 63) : Calls Tryz.prog 24 #[.agg (cfC c v)] w fun e w' => Ans w (sgL [] c.tasks) e w' := by
  have hn : v.t.n = c.tasks.length := h.t.n
  have HN : Hid (v.t.n = c.tasks.length) := hn
  have hcap : v.t.n ≤ v.t.c := h.t.c
  have hmax : v.t.c ≤ maxLen := h.t.m
  unfold maxLen at hmax
  obtain ⟨R, hR⟩ : ∃ R, R = sgL [] c.tasks := ⟨_, rfl⟩
  rw [← hR]
  have hb := below_alloc w
  have hb2 := fun o o' => (hb o).trans ((below_alloc (w.alloc o) o').mono (hb o).size)
  have hz := heap_two w
  have f11 : ∀ h : 11 < (cfC c v).size, (cfC c v)[11] = .slice v.t.a v.t.n v.t.c := fun _ => rfl
  have hs18 : (cfC c v).size = 18 := rfl
  generalize cfC c v = C at *
  replace f11 := f11 (by omega)
  clear hn
  go_enter Tryz.func24, Tryz.ntmps24
  go_wp2
  go_loopw [5, 9] (fun _ iv wr => ∃ (j : Nat) (ps : List Int) (a : Array Value), j ≤ v.t.n ∧ iv = .int .i64 j ∧ Hid (Below w.heap.size w wr ∧ wr.heap[w.heap.size + 1]? = some (.cells a 90 (0, 0)) ∧ Marks ps a ∧ R = sgL ps (c.tasks.drop j))) (fun _ iv _ => v.t.n - (intOf iv).toNat)
  case atStart =>
    refine ⟨0, [], _, by omega, rfl, hb2 _ _, hz _ _, ⟨rfl, fun i hi => ?_⟩, hR⟩
    show (Array.replicate 64 (Value.bool false))[i]? = _
    rw [Array.getElem?_replicate, if_pos hi]
    rfl
  case round =>
    obtain ⟨j, ps, a, hj, rfl, HJ⟩ := hrel
    obtain ⟨hB, hA, hM, hRj⟩ := HJ.out
    have HRj : Hid (R = sgL ps (c.tasks.drop j)) := hRj
    have HM : Hid (Marks ps a) := hM
    clear HJ hRj hM hR
    by_cases hlt : j < v.t.n
    · have hlt' : (j : Int) < v.t.n := by omega
      have hjl : j < c.tasks.length := by rw [← HN.out]; exact hlt
      obtain ⟨x, hx⟩ : ∃ x, c.tasks[j]? = some x := ⟨_, List.getElem?_eq_getElem hjl⟩
      have hpx := hp x (List.mem_of_getElem? hx)
      obtain ⟨g, off, s4, s5, s6, s7, e, hg, a0, a1, a2, a3, a4, a5, a6, a7, r4, r5, r6, r7⟩ := tk_at (h.below hB) hx
      obtain ⟨p, hpe⟩ := Int.eq_ofNat_of_zero_le hpx.1
      have HD : Hid (R = (x.act == 1 && !hasL ps x.prio && sgL (x.prio :: ps) (c.tasks.drop (j + 1)))) := by
        show _ = _
        rw [HRj.out, List.drop_eq_getElem_cons hjl, sgL]
        rw [List.getElem?_eq_getElem hjl] at hx
        rw [Option.some.inj hx]
      rw [hpe] at a1 HD hpx
      have hp64 : (p : Int) < 64 := by omega
      have hp64n : p < 64 := by omega
      have hst : (storeCells ⟨wr.heap.size, 0, none⟩ [S x.name, I (p : Int), .bool x.full, I x.act, .slice s4.a s4.n s4.c, .slice s5.a s5.n s5.c, .slice s6.a s6.n s6.c, .slice s7.a s7.n s7.c] 0).run Tryz.prog (wr.alloc (.cells #[.string ⟨#[]⟩, .int .i64 0, .bool false, .int .i64 0, .slice none 0 0, .slice none 0 0, .slice none 0 0, .slice none 0 0] 41)) = .ok () (wr.alloc (.cells #[S x.name, I (p : Int), .bool x.full, I x.act, .slice s4.a s4.n s4.c, .slice s5.a s5.n s5.c, .slice s6.a s6.n s6.c, .slice s7.a s7.n s7.c] 41)) :=
        run_storeCells_new (P := Tryz.prog) wr 41 #[.string ⟨#[]⟩, .int .i64 0, .bool false, .int .i64 0, .slice none 0 0, .slice none 0 0, .slice none 0 0, .slice none 0 0] #[S x.name, I (p : Int), .bool x.full, I x.act, .slice s4.a s4.n s4.c, .slice s5.a s5.n s5.c, .slice s6.a s6.n s6.c, .slice s7.a s7.n s7.c] (by kernel_rfl) rfl (by simp [Value.oneCell'])
      have hal := below_alloc wr (.cells #[S x.name, I (p : Int), .bool x.full, I x.act, .slice s4.a s4.n s4.c, .slice s5.a s5.n s5.c, .slice s6.a s6.n s6.c, .slice s7.a s7.n s7.c] 41)
      have hB2 : Hid (Below w.heap.size w (wr.alloc (.cells #[S x.name, I (p : Int), .bool x.full, I x.act, .slice s4.a s4.n s4.c, .slice s5.a s5.n s5.c, .slice s6.a s6.n s6.c, .slice s7.a s7.n s7.c] 41))) := hB.trans (hal.mono hB.size)
      have hA2 : Hid ((wr.alloc (.cells #[S x.name, I (p : Int), .bool x.full, I x.act, .slice s4.a s4.n s4.c, .slice s5.a s5.n s5.c, .slice s6.a s6.n s6.c, .slice s7.a s7.n s7.c] 41)).heap[w.heap.size + 1]? = some (.cells a 90 (0, 0))) := (hal.block _ (heap_lt hA)).trans hA
      have hxn := heap_alloc_new wr (.cells #[S x.name, I (p : Int), .bool x.full, I x.act, .slice s4.a s4.n s4.c, .slice s5.a s5.n s5.c, .slice s6.a s6.n s6.c, .slice s7.a s7.n s7.c] 41)
      have hAl := heap_lt hA
      have hne : w.heap.size + 1 ≠ wr.heap.size := by omega
      have hgne : g ≠ wr.heap.size := by omega
      have hq : wr.cell? ⟨w.heap.size + 1, p, none⟩ = some (.bool (hasL ps p)) := by rw [cell_of_row _ _ p _ _ (0, 0) hA]; exact HM.out.2 p hp64n
      have hfz : wr.frozen? ⟨w.heap.size + 1, p, none⟩ = false := frozen_of_row wr _ p _ _ hA
      have HQ : Hid (∀ o, Below w.heap.size w ((wr.setCell ⟨w.heap.size + 1, p, none⟩ (.bool true)).alloc o) ∧ ((wr.setCell ⟨w.heap.size + 1, p, none⟩ (.bool true)).alloc o).heap[w.heap.size + 1]? = some (.cells (a.setIfInBounds p (.bool true)) 90 (0, 0))) := fun o => by
        have q1 := below_set (k := p) (v := .bool true) hB (b := w.heap.size + 1) (by omega) hB.size
        have q2 := below_alloc (wr.setCell ⟨w.heap.size + 1, p, none⟩ (.bool true)) o
        have q3 := heap_setCell_same wr (w.heap.size + 1) p a 90 (.bool true) hA
        exact ⟨q1.trans (q2.mono q1.size), (q2.block _ (heap_lt q3)).trans q3⟩
      rw [e] at *
      clear hx hjl hal hA HRj hpx hpe hxn r4 r5 r6 r7 hb hb2 hz
      cases ha : x.act == 1 with
      | false =>
        have HE : Hid (R = false) := by show _ = _; rw [HD.out, ha]; rfl
        have hnb : (x.act != 1) = true := by simp [bne, ha]
        go_wp2
        go_ret
        exact ⟨ret_bool HE.out.symm, hB2.out⟩
      | true =>
        have hnb : (x.act != 1) = false := by simp [bne, ha]
        generalize hqb : hasL ps p = b at *
        cases b with
        | true =>
          have HE : Hid (R = false) := by show _ = _; rw [HD.out, ha]; rfl
          go_wp2
          go_ret
          exact ⟨ret_bool HE.out.symm, hB2.out⟩
        | false =>
          have HE : Hid (R = sgL ((p : Int) :: ps) (c.tasks.drop (j + 1))) := by show _ = _; rw [HD.out, ha]; rfl
          go_wp2
          go_roundw
          case rel => exact ⟨j + 1, (p : Int) :: ps, _, by omega, by go_num, (HQ.out _).1, (HQ.out _).2, marks_set HM.out p hp64n, HE.out⟩
          case measure => simp [intOf]; omega
    · obtain rfl : j = v.t.n := by omega
      have hlt' : ¬ ((v.t.n : Nat) : Int) < (v.t.n : Nat) := by omega
      have HE : Hid (R = true) := by show _ = _; rw [HRj.out, List.drop_eq_nil_of_le (by rw [HN.out]; exact Nat.le_refl _), sgL]
      go_wp2
      go_ret
      exact ⟨ret_bool HE.out.symm, hB⟩
end Go.Proofs.YtidhjajobacnaaaGreatDoor
