import Derived.Test.YtapfbinaocaclaaEcy8
import Derived.Test.YtapfbinaocaclaaLsX
namespace Go.Proofs.Ytapfbinaocaclaa
open Go.RowKit Go.Maps
set_option linter.unusedVariables false
set_option linter.unusedSimpArgs false

/-! ### The copy, one task's priority greater: memory -/
theorem grow_map (c : Cf) (k : Nat) (m : Int) : (growD c k m).tasks = (c.tasks.mapIdx (fun j x => if j = k then { x with prio := x.prio + m } else x)).map cpT := by
  apply List.ext_getElem?
  intro j
  rw [grow_tasks, List.getElem?_map, List.getElem?_mapIdx, Option.map_map]
  cases c.tasks[j]? with
  | none => rfl
  | some x =>
    simp only [Option.map_some, Function.comp]
    by_cases h : j = k
    · rw [if_pos h, if_pos h]; rfl
    · rw [if_neg h, if_neg h]
theorem CpO.grow {w : World} {c : Cf} {tt tr ti : Sl} {W : World} (h : CpO w c tt tr ti W) {k : Nat} {xk : Tk} (hk : c.tasks[k]? = some xk) (m : Int) :
    ∃ g, tt.a = some ⟨g, 0, none⟩ ∧ w.heap.size ≤ g ∧ g < W.heap.size ∧ tt.n = c.tasks.length ∧ tt.n ≤ tt.c ∧ tt.c ≤ maxLen ∧ W.cell? ⟨g, k * 8 + 1, none⟩ = some (I xk.prio) ∧ W.frozen? ⟨g, k * 8 + 1, none⟩ = false ∧ W.heap[g]? ≠ none ∧ (∃ cur, W.heap[g]? = some (.cells cur 47 (0, 0))) ∧ CfAt (W.setCell ⟨g, k * 8 + 1, none⟩ (I (xk.prio + m))) (growD c k m) (cpV tt tr ti) := by
  obtain ⟨xt, t1, t2⟩ := h.t
  obtain ⟨xr, r1, r2⟩ := h.r
  obtain ⟨xi, i1, i2⟩ := h.i
  have hkl := (List.getElem?_eq_some_iff.1 hk).1
  rcases t1.2 with ⟨_, h0⟩ | ⟨g, cap, cur, hv, hb, hg, hnc, hcm, hcs, htk⟩
  · omega
  injection hv with e1 e2 e3
  have t1' := t1
  rw [e1, e2, e3] at t1'
  obtain ⟨u1, hu1, hp1⟩ := t2.at' k xk hk 1 (by omega)
  have hp1' : u1 = I xk.prio := hp1
  subst hp1'
  have hlt : k * 8 + 1 < c.tasks.length * 8 := by have := (List.getElem?_eq_some_iff.1 hu1).1; rw [t2.n] at this; exact this
  have st := t1'.stored (k * 8 + 1) (I (xk.prio + m))
  have hgb : W.grownBy (W.setCell ⟨g, k * 8 + 1, none⟩ (I (xk.prio + m))) (Value.slice tt.a tt.n tt.c).ownBlock := by rw [e1]; exact st.2
  have ki : ∀ (n : Nat) (u : Value) (ys : List Value), W.ownsRow w.heap.size 3 1 u n ys → (W.setCell ⟨g, k * 8 + 1, none⟩ (I (xk.prio + m))).ownsRow w.heap.size 3 1 u n ys := fun n u ys ho => own_kept_ty ho t1 (by decide) hgb
  refine ⟨g, e1, hb, heap_lt hg, e2, by rw [e2, e3]; exact hnc, by rw [e3]; exact hcm, by rw [t1'.cellAt _ hlt]; exact hu1, t1'.frozenAt _, by rw [hg]; simp, ⟨cur, hg⟩, rows_nil _ _ _, ?_, RowsX.rows (own_kept_ty r1 t1 (by decide) hgb) r2, rows_nil _ _ _, rows_nil _ _ _, rows_nil _ _ _, ?_, rows_nil _ _ _⟩
  · rw [grow_map]
    refine RowsX.rows (xs := xt.set (k * 8 + 1) (I (xk.prio + m))) (by rw [List.length_map, List.length_mapIdx, show (cpV tt tr ti).t = tt from rfl, e1, e2, e3]; exact st.1) (RowsX.map cpT (P := tkO (W.setCell ⟨g, k * 8 + 1, none⟩ (I (xk.prio + m))) w.heap.size) ⟨by rw [List.length_set, t2.n, List.length_mapIdx], fun j y hj i hi => ?_⟩ (fun x i u hu => tkO_P hu))
    rw [List.getElem?_mapIdx] at hj
    obtain ⟨x, hx, rfl⟩ := Option.map_eq_some_iff.1 hj
    obtain ⟨u, h1, h2⟩ := t2.at' j x hx i hi
    by_cases hji : j = k ∧ i = 1
    · obtain ⟨rfl, rfl⟩ := hji
      rw [hx] at hk
      cases hk
      refine ⟨I (xk.prio + m), by rw [List.getElem?_set, if_pos rfl, if_pos (by rw [t2.n]; exact hlt)], ?_⟩
      rw [if_pos rfl]
      rfl
    · refine ⟨u, by rw [List.getElem?_set, if_neg (fun e => hji (by omega))]; exact h1, ?_⟩
      have h3 := tkO_mono ki x i u h2
      by_cases hjk : j = k
      · rw [if_pos hjk]
        have hi1 : i ≠ 1 := fun e => hji ⟨hjk, e⟩
        unfold tkO at h3 ⊢
        split at h3 <;> first | exact h3 | exact absurd rfl hi1
      · rw [if_neg hjk]
        exact h3
  · exact RowsX.rows (l := c.isrs.map cpI) (by rw [List.length_map]; exact own_kept_ty i1 t1 (by decide) hgb) ((i2.mono (isO_mono ki)).map cpI (fun x i u hu => isO_P hu))
end Go.Proofs.Ytapfbinaocaclaa
