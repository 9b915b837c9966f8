import Derived.Test.YtpoekphebmonnabUf
namespace Go.Proofs.Ytpoekphebmonnab
open Go.RowKit Go.Shelf Go.Sort
set_option linter.unusedVariables false
set_option linter.unusedSimpArgs false

/-! ### Ticks that go by -/
attribute [local go_sem 5000] min_two
theorem row_at {w : World} {b g n c k : Nat} {al : List Alm} {x : Alm} (h : w.ownsRow b 79 2 (.slice (some ⟨g, 0, none⟩) n c) n (flP al)) (hn : n = al.length) (hx : al[k]? = some x) : w.cell? ⟨g, k * 2, none⟩ = some (Q x.1) ∧ w.cell? ⟨g, k * 2 + 1, none⟩ = some (U x.2) ∧ ∀ j, w.frozen? ⟨g, j, none⟩ = false := by
  have hk : k < al.length := (List.getElem?_eq_some_iff.1 hx).1
  obtain ⟨e1, e2⟩ := flP_at hx
  exact ⟨by rw [h.cellAt _ (by omega)]; exact e1, by rw [h.cellAt _ (by omega)]; exact e2, h.frozenAt⟩
/-- one alarm: so many ticks go by -/
theorem spass_any (w : World) (b g n c k : Nat) (al : List Alm) (x : Alm) (t : Nat) (h : w.ownsRow b 79 2 (.slice (some ⟨g, 0, none⟩) n c) n (flP al)) (hn : n = al.length) (hx : al[k]? = some x) (ht : x.1 ≠ 0 → t ≤ x.1) (h1 : x.1 < 18446744073709551616) (h2 : x.2 < 4294967296) :
    Calls Try.prog 53 #[.pointer (some ⟨g, k * 2, none⟩), Q t] w fun e w' => e = .returned (.bool (dueA t x)) ∧ w'.ownsRow b 79 2 (.slice (some ⟨g, 0, none⟩) n c) n (flP (al.set k (psA t x))) ∧ Fz (fun b => b = g) w w' := by
  obtain ⟨c0, c1, fz⟩ := row_at h hn hx
  have hS := snone_any w g (k * 2) x.1 c0
  by_cases hz : x.1 = 0
  · rw [show decide (x.1 = 0) = true by simpa using hz] at hS
    rw [show dueA t x = false by simp [dueA, hz], show psA t x = x by simp [psA, hz], set_self hx]
    have H : Hid (w.ownsRow b 79 2 (.slice (some ⟨g, 0, none⟩) n c) n (flP al)) := h
    clear ht h1 hz h hn hx
    go_enter Try.func53, Try.ntmps53
    go_wp2_with (first | (go_at_call 50; refine hS.mono ?_; rintro e w1 ⟨rfl, rfl⟩))
    go_ret
    exact ⟨rfl, H.out, Fz.refl _ _⟩
  · rw [show decide (x.1 = 0) = false by simpa using hz] at hS
    have htx := ht hz
    clear ht
    by_cases hd : x.1 - t = 0
    · obtain rfl : t = x.1 := by omega
      rw [show dueA x.1 x = true by simp [dueA, hz], show psA x.1 x = (x.2, x.2) by simp [psA, hz]]
      have r1 : (w.setCell ⟨g, k * 2, none⟩ (Q 0)).ownsRow b 79 2 (.slice (some ⟨g, 0, none⟩) n c) n (flP (al.set k (0, x.2))) := row_left hx h 0
      have hk : k < al.length := (List.getElem?_eq_some_iff.1 hx).1
      have r2 := row_left (k := k) (x := (0, x.2)) (by rw [List.getElem?_set_self hk]) r1 x.2
      rw [List.set_set] at r2
      obtain ⟨d0, d1, fz1⟩ := row_at (k := k) (x := (0, x.2)) r1 (by simpa using hn) (by rw [List.getElem?_set_self hk])
      have d0' : (w.setCell ⟨g, k * 2, none⟩ (Q 0)).cell? ⟨g, k * 2, none⟩ = some (Q 0) := d0
      have HS : Hid (((w.setCell ⟨g, k * 2, none⟩ (Q 0)).setCell ⟨g, k * 2, none⟩ (Q x.2)).ownsRow b 79 2 (.slice (some ⟨g, 0, none⟩) n c) n (flP (al.set k (x.2, x.2)))) := r2
      clear hd hz htx r1 r2 h hn hx hk d0
      go_enter Try.func53, Try.ntmps53
      go_wp2_with (first | (go_at_call 50; refine hS.mono ?_; rintro e w1 ⟨rfl, rfl⟩))
      go_ret
      exact ⟨rfl, HS.out, fz_set2 _ _ _ _ _ _⟩
    · rw [show dueA t x = false by simp only [dueA, hd]; simp, show psA t x = (x.1 - t, x.2) by simp [psA, hz, hd]]
      have e1 : (x.1 : Int) - t = ((x.1 - t : Nat) : Int) := by omega
      have r1 := row_left hx h (x.1 - t)
      rw [← e1] at r1
      have d0 : (w.setCell ⟨g, k * 2, none⟩ (Q ((x.1 : Int) - t))).cell? ⟨g, k * 2, none⟩ = some (Q ((x.1 : Int) - t)) := cell_set_on c0
      have hp : (0 : Int) < (x.1 : Int) - t := by omega
      have HS : Hid ((w.setCell ⟨g, k * 2, none⟩ (Q ((x.1 : Int) - t))).ownsRow b 79 2 (.slice (some ⟨g, 0, none⟩) n c) n (flP (al.set k (x.1 - t, x.2)))) := r1
      clear hd hz e1 r1 h hn hx
      go_enter Try.func53, Try.ntmps53
      go_wp2_with (first | (go_at_call 50; refine hS.mono ?_; rintro e w1 ⟨rfl, rfl⟩))
      go_ret
      exact ⟨rfl, HS.out, (Fz.refl (fun b => b = g) w).set (.inl rfl) _ _⟩
def inL (l : List Nat) : List Value := l.map fun (i : Nat) => I (i : Int)
theorem cell_one_new (w : World) (v : Value) (t : TypeId) : ∀ (j : Nat) (u : Value), [v][j]? = some u → (w.alloc (.cells #[v] t)).cell? ((⟨w.heap.size, 0, none⟩ : Addr).add j) = some u := by
  intro j u hu
  match j, hu with
  | 0, hu => cases hu; rw [addr_add]; rw [cell_of_row _ _ _ _ _ (0, 0) (heap_alloc_new w _)]; rfl
set_option maxHeartbeats 4000000 in
set_option maxRecDepth 100000 in
theorem pass_any (w : World) (b g n c : Nat) (al : List Alm) (t G : Nat) (h : w.ownsRow b 79 2 (.slice (some ⟨g, 0, none⟩) n c) n (flP al)) (hn : n = al.length) (hl : al.length ≤ 64) (hG : G ≤ 2147483647) (hx : AlOK G al) (ht : ∀ x ∈ al, x.1 ≠ 0 → t ≤ x.1) :
    Calls Try.prog 39 #[.slice (some ⟨g, 0, none⟩) n c, Q t] w fun e w' => ∃ v, e = .returned v ∧ w'.ownsRow w.heap.size 3 1 v (dueF t 0 al).length (inL (dueF t 0 al)) ∧ w'.ownsRow b 79 2 (.slice (some ⟨g, 0, none⟩) n c) n (flP (al.map (psA t))) ∧ Fz (fun b => b = g) w w' := by
  obtain ⟨i0, hi0, hz0, hz1, hz2⟩ := info_parts iinfo
  have hgw : g < w.heap.size := (h.lt g rfl).2
  have HI : Hid (w.ownsRow w.heap.size 3 1 (.slice none 0 0) (dueF t 0 (al.take 0)).length (inL (dueF t 0 (al.take 0))) ∧ w.ownsRow b 79 2 (.slice (some ⟨g, 0, none⟩) n c) n (flP (mixL t al 0)) ∧ Fz (fun b => b = g) w w) := ⟨by simpa [dueF, inL] using World.ownsRow_nil w _ _ _, by rw [mixL_zero]; exact h, Fz.refl _ _⟩
  have HX : Hid (∀ (k : Nat) (x : Alm), al[k]? = some x → (x.1 ≠ 0 → t ≤ x.1) ∧ x.1 < 18446744073709551616 ∧ x.2 < 4294967296) := fun k x hk => by
    have hm := List.mem_of_getElem? hk
    have := hx x hm
    exact ⟨ht x hm, by omega, by omega⟩
  have HN : Hid (n = al.length) := hn
  have hn64 : n ≤ 64 := by omega
  clear h ht hx hG hn
  go_enter Try.func39, Try.ntmps39
  go_wp2
  go_loopw [4, 5, 8] (fun v4 _ v8 wr => ∃ k : Nat, k ≤ n ∧ v8 = I k ∧ Hid (wr.ownsRow w.heap.size 3 1 v4 (dueF t 0 (al.take k)).length (inL (dueF t 0 (al.take k))) ∧ wr.ownsRow b 79 2 (.slice (some ⟨g, 0, none⟩) n c) n (flP (mixL t al k)) ∧ Fz (fun b => b = g) w wr)) (fun _ _ v8 _ => n - (intOf v8).toNat)
  case atStart => exact ⟨0, by omega, rfl, HI.out⟩
  case round =>
    clear HI
    obtain ⟨k, hk, rfl, HJ⟩ := hrel
    by_cases hlt : k < n
    · have hltI : (k : Int) < n := by omega
      obtain ⟨x, hx⟩ : ∃ x, al[k]? = some x := ⟨_, List.getElem?_eq_getElem (by rw [← HN.out]; exact hlt)⟩
      obtain ⟨q1, q2, q3⟩ := HX.out k x hx
      have hS := spass_any wr b g n c k (mixL t al k) x t HJ.out.2.1 (by rw [mixL_len]; exact HN.out) (mixL_at hx) q1 q2 q3
      rw [← mixL_succ hx] at hS
      have HD : Hid (dueF t 0 (al.take (k + 1)) = dueF t 0 (al.take k) ++ (if dueA t x then [k] else [])) := by
        show _ = _
        rw [take_snoc hx, dueF_snoc, List.length_take, show min k al.length = k by have := HN.out; omega, Nat.zero_add]
      have H1 : Hid (wr.ownsRow w.heap.size 3 1 u4 (dueF t 0 (al.take k)).length (inL (dueF t 0 (al.take k))) ∧ Fz (fun b => b = g) w wr) := ⟨HJ.out.1, HJ.out.2.2⟩
      have hlen : (dueF t 0 (al.take k)).length ≤ 64 := by
        have := dueF_len (t := t) (al.take k) 0
        rw [List.length_take] at this
        omega
      clear HJ q1 q2 q3 hx
      cases hd : dueA t x with
      | false =>
        rw [hd] at hS HD
        have HD2 : Hid (dueF t 0 (al.take (k + 1)) = dueF t 0 (al.take k)) := by show _ = _; rw [HD.out]; simp
        clear HD hd
        go_wp2_with (first | (go_at_call 53; refine hS.mono ?_; clear hS; rintro e w1 ⟨rfl, o1, f1⟩; have H2 : Hid (w1.ownsRow b 79 2 (.slice (some ⟨g, 0, none⟩) n c) n (flP (mixL t al (k + 1))) ∧ Fz (fun b => b = g) wr w1) := ⟨o1, f1⟩; clear o1 f1))
        go_roundw
        case rel => exact ⟨k + 1, by omega, by go_num, by rw [HD2.out]; exact H2.out.2.own H1.out.1 (fun y e e2 => by have := (H1.out.1.lt y e).1; omega), H2.out.1, H1.out.2.trans H2.out.2⟩
        case measure => simp [intOf]; omega
      | true =>
        rw [hd] at hS HD
        have HD2 : Hid (dueF t 0 (al.take (k + 1)) = dueF t 0 (al.take k) ++ [k]) := by show _ = _; rw [HD.out]; simp
        clear HD hd
        go_wp2_with (first
          | (go_at_call 53; refine hS.mono ?_; clear hS; rintro e w1 ⟨rfl, o1, f1⟩; have H2 : Hid (w1.ownsRow b 79 2 (.slice (some ⟨g, 0, none⟩) n c) n (flP (mixL t al (k + 1))) ∧ Fz (fun b => b = g) wr w1) := ⟨o1, f1⟩; have hO2 := (f1.own H1.out.1 (fun y e e2 => by have := (H1.out.1.lt y e).1; omega)).alloc (.cells #[I (k : Int)] 3); have hsz : w.heap.size ≤ w1.heap.size := Nat.le_trans H1.out.2.size f1.size; clear o1 f1)
          | (at_builtin; refine wpList_append_own _ rfl (.tmp 16) (.tmp 18) 51 rfl w.heap.size 3 i0 (.int .i64 0) 1 8 Try.underlying51 hi0 hz0 hz1 hz2 rfl (by decide) _ _ _ rfl hO2 ⟨w1.heap.size, 0, none⟩ 1 1 [I (k : Int)] rfl rfl (cell_one_new _ _ _) (by intro u hu; simp at hu; subst hu; rfl) (by unfold maxLen; omega) (by omega) (by simp; omega) ?_))
        intro v6 w6 ho6 hg6 _
        have f6 : Fz (fun b => b = g) w w6 := ((H1.out.2.trans H2.out.2).alloc _).step (N := fun x => u4.ownBlock = some x) ⟨hg6.os, hg6.tape, hg6.output, hg6.size, fun i hi hne => hg6.block i hi (fun e => hne e.symm)⟩ (fun x e => .inr (H1.out.1.lt x e).1)
        have o6 := (H2.out.1.alloc (.cells #[I (k : Int)] 3)).kept hg6 (.inr (fun e => by have := (H1.out.1.lt g e.symm).1; omega))
        have H6 : Hid (w6.ownsRow w.heap.size 3 1 v6 (dueF t 0 (al.take (k + 1))).length (inL (dueF t 0 (al.take (k + 1)))) ∧ w6.ownsRow b 79 2 (.slice (some ⟨g, 0, none⟩) n c) n (flP (mixL t al (k + 1))) ∧ Fz (fun b => b = g) w w6) := by
          refine ⟨?_, o6, f6⟩
          rw [HD2.out, List.length_append]
          unfold inL
          rw [List.map_append]
          exact ho6
        clear ho6 hg6 f6 o6 hO2 H1 H2 HD2
        go_wp2
        go_roundw
        case rel => exact ⟨k + 1, by omega, by go_num, H6.out⟩
        case measure => simp [intOf]; omega
    · obtain rfl : k = n := by omega
      have hge : ¬ ((k : Int) < k) := by omega
      go_wp2
      go_ret
      refine ⟨_, rfl, ?_, ?_, HJ.out.2.2⟩
      · have := HJ.out.1
        rw [List.take_of_length_le (by rw [← HN.out]; exact Nat.le_refl _)] at this
        exact this
      · have := HJ.out.2.1
        rw [HN.out, mixL_all, ← HN.out] at this
        exact this
end Go.Proofs.Ytpoekphebmonnab
