import Derived.Test.YtidhjajobacnaaaGreatDoorRbX
namespace Go.Proofs.YtidhjajobacnaaaGreatDoor
open Go.RowKit
set_option linter.unusedVariables false

/-- Is one of the tasks extended? -/
def extAny (c : Cf) : Bool := c.tasks.any (fun x => decide (0 < (x.evs.length : Int)))
theorem any_take {α : Type} (p : α → Bool) (l : List α) (j : Nat) (x : α) (hx : l[j]? = some x) : (l.take (j + 1)).any p = ((l.take j).any p || p x) := by
  rw [List.take_add_one, hx, Option.toList_some, List.any_append]
  simp
set_option maxHeartbeats 2000000 in
set_option maxRecDepth 100000 in
theorem anyExtended_any (w : World) (c : Cf) (v : Vs) (h : CfAt w c v) : Calls Tryz.prog 23 #[.agg (cfC c v)] w fun e w' => Ans w (extAny c) e w' := by
  have hb := below_alloc w
  have HN : Hid (v.t.n = c.tasks.length) := h.t.n
  have hc : v.t.n ≤ v.t.c := h.t.c
  have hm : v.t.c ≤ maxLen := h.t.m
  unfold maxLen at hm
  have hi18 : (Tryz.prog.info? 33).map (·.size) = some (cfC c v).size := by rw [show (cfC c v).size = 18 from rfl]; kernel_rfl
  have hV0 := heap_alloc_new w (.cells (cfC c v) 33)
  have hbw := hb (.cells (cfC c v) 33)
  have ce : ∀ W, Below w.heap.size w W → ∀ t, Calls Tryz.prog 13 #[.agg (cfC c v), I t] W fun e w' => Ans W (extL c t) e w' := fun W hW t => extended_any W c v (h.below hW) t
  have f11 : ∀ h : 11 < (cfC c v).size, (cfC c v)[11] = .slice v.t.a v.t.n v.t.c := fun _ => rfl
  have hs18 : (cfC c v).size = 18 := rfl
  generalize cfC c v = C at *
  replace f11 := f11 (by omega)
  go_enter Tryz.func23, Tryz.ntmps23
  go_wp2
  generalize w.alloc (.cells C 33) = W0 at *
  go_loopw [3, 7] (fun _ iv wr => ∃ j : Nat, j ≤ v.t.n ∧ iv = .int .i64 j ∧ Hid (Below W0.heap.size W0 wr ∧ (c.tasks.take j).any (fun x => decide (0 < (x.evs.length : Int))) = false)) (fun _ iv _ => v.t.n - (intOf iv).toNat)
  case atStart => exact ⟨0, by omega, rfl, Below.refl _ _, by simp⟩
  case round =>
    obtain ⟨j, hj, rfl, HJ⟩ := hrel
    obtain ⟨hB, hA⟩ := HJ.out
    have HA : Hid ((c.tasks.take j).any (fun x => decide (0 < (x.evs.length : Int))) = false) := hA
    clear HJ hA
    have hbr := hbw.trans (hB.mono hbw.size)
    by_cases hlt : j < v.t.n
    · have hlt' : (j : Int) < v.t.n := by omega
      have hjl : j < c.tasks.length := by rw [← HN.out]; exact hlt
      obtain ⟨x, hx⟩ : ∃ x, c.tasks[j]? = some x := ⟨_, List.getElem?_eq_getElem hjl⟩
      have HT := any_take (fun x => decide (0 < (x.evs.length : Int))) c.tasks j x hx
      have HX : Hid (extL c j = decide (0 < (x.evs.length : Int))) := by show _ = _; unfold extL; simp [isId, hx]; omega
      have HT2 : Hid ((c.tasks.take (j + 1)).any (fun x => decide (0 < (x.evs.length : Int))) = extL c j) := by show _ = _; rw [HT, HA.out, Bool.false_or, HX.out]
      have HF : Hid (extL c j = true → extAny c = true) := fun hh => by
        show List.any _ _ = true
        rw [List.any_eq_true]
        exact ⟨x, List.mem_of_getElem? hx, by rw [← HX.out]; exact hh⟩
      have c1 := ce wr hbr j
      have hVr := (hB.block _ (heap_lt hV0)).trans hV0
      clear HT HX hx hjl HA
      generalize extL c j = b at *
      cases b with
      | true =>
        have HG : Hid (extAny c = true) := HF.out rfl
        clear HF HT2
        go_wp2_with (refine wpList_load_row rfl 33 _ rfl w.heap.size rfl 33 _ (0, 0) _ hVr Tryz.underlying33 rfl hi18 ?_)
        refine c1.mono ?_
        rintro e w2 ⟨rfl, hb2⟩
        clear c1
        go_wp2
        go_ret
        exact ⟨ret_bool HG.out.symm, hbr.trans (hb2.mono hbr.size)⟩
      | false =>
        clear HF
        go_wp2_with (refine wpList_load_row rfl 33 _ rfl w.heap.size rfl 33 _ (0, 0) _ hVr Tryz.underlying33 rfl hi18 ?_)
        refine c1.mono ?_
        rintro e w2 ⟨rfl, hb2⟩
        clear c1
        go_wp2
        go_roundw
        case rel => exact ⟨j + 1, by omega, by go_num, hB.trans (hb2.mono hB.size), HT2.out⟩
        case measure => simp [intOf]; omega
    · obtain rfl : j = v.t.n := by omega
      have hlt' : ¬ ((v.t.n : Nat) : Int) < (v.t.n : Nat) := by omega
      have HG : Hid (extAny c = false) := by
        have := HA.out
        rw [List.take_of_length_le (by rw [HN.out]; exact Nat.le_refl _)] at this
        exact this
      clear HA
      go_wp2
      go_ret
      exact ⟨ret_bool HG.out.symm, hbr⟩
end Go.Proofs.YtidhjajobacnaaaGreatDoor
