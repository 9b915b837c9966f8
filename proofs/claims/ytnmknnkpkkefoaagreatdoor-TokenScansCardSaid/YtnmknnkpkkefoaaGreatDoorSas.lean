import Derived.Test.YtnmknnkpkkefoaaGreatDoorAlk
namespace Go.Proofs.YtnmknnkpkkefoaaGreatDoor
open Go.RowKit
set_option linter.unusedVariables false

set_option maxHeartbeats 4000000 in
set_option maxRecDepth 100000 in
theorem same_eq (w : World) (g off cap g' off' cap' n : Nat) (xs : List Tp) (hR : RowT w (.slice (some ⟨g, off, none⟩) n cap) xs) (hR' : RowT w (.slice (some ⟨g', off', none⟩) n cap') xs) (hx : xs.length = n) (hn : n < 4294967296) (hn0 : 0 < n) :
    Calls Tryz.prog 6 #[.slice (some ⟨g, off, none⟩) n cap, .slice (some ⟨g', off', none⟩) n cap'] w fun e w' => e = .returned (.bool true) ∧ Below w.heap.size w w' := by
  have hg : g < w.heap.size := by cases hR with | nil => omega | some h _ _ => exact h
  have hg' : g' < w.heap.size := by cases hR' with | nil => omega | some h _ _ => exact h
  have ck := alike_eq w g off cap g' off' cap' n xs xs hR hR' rfl hx hn hn0
  have HX : Hid (xs.length = n) := hx
  clear hx
  go_enter Tryz.func6, Tryz.ntmps6
  go_wp2_with (go_at_call 14; refine ck.mono ?_; rintro e w0 ⟨rfl, hb0⟩)
  go_loopw [5] (fun i wr => ∃ j : Nat, j ≤ n ∧ i = .int .i64 j ∧ Below w.heap.size w wr) (fun i _ => n - (intOf i).toNat)
  case atStart => exact ⟨0, by omega, rfl, hb0⟩
  case round =>
    obtain ⟨j, hj, rfl, hb⟩ := hrel
    by_cases hlt : j < n
    · have hlt' : (j : Int) < n := by omega
      obtain ⟨x, hxj⟩ : ∃ x, xs[j]? = some x := ⟨xs[j]'(by rw [HX.out]; exact hlt), List.getElem?_eq_getElem _⟩
      have hc : ∀ i, i < 7 → ∀ u, (tpL x)[i]? = some u → wr.cell? ⟨g, off + (j * 7 + i), none⟩ = some u := fun i hi u hu => by
        rw [cell_below hb _ _ hg]
        exact rowT_at hR _ _ (by rw [tps_at xs j x hxj i hi]; exact hu)
      have hc' : ∀ i, i < 7 → ∀ u, (tpL x)[i]? = some u → wr.cell? ⟨g', off' + (j * 7 + i), none⟩ = some u := fun i hi u hu => by
        rw [cell_below hb _ _ hg']
        exact rowT_at hR' _ _ (by rw [tps_at xs j x hxj i hi]; exact hu)
      obtain ⟨⟨kind, text, val, hex⟩, xo, xl, xc⟩ := x
      have x1 : wr.cell? ⟨g, off + j * 7 + 1, none⟩ = some (.int .i64 xo) := hc 1 (by omega) _ rfl
      have x2 : wr.cell? ⟨g, off + j * 7 + 2, none⟩ = some (.int .i64 xl) := hc 2 (by omega) _ rfl
      have x3 : wr.cell? ⟨g, off + j * 7 + 3, none⟩ = some (.int .i64 xc) := hc 3 (by omega) _ rfl
      have y1 : wr.cell? ⟨g', off' + j * 7 + 1, none⟩ = some (.int .i64 xo) := hc' 1 (by omega) _ rfl
      have y2 : wr.cell? ⟨g', off' + j * 7 + 2, none⟩ = some (.int .i64 xl) := hc' 2 (by omega) _ rfl
      have y3 : wr.cell? ⟨g', off' + j * 7 + 3, none⟩ = some (.int .i64 xc) := hc' 3 (by omega) _ rfl
      clear hc hc' hxj hR hR' ck
      go_wp2
      first
        | (go_quiet (fail)
           have hbq := below_drewN hb nq
           generalize (wr.drewN nq) = w6 at *
           go_wp2
           go_roundw
           case rel => exact ⟨j + 1, by omega, by go_num, hbq⟩
           case measure => simp [intOf]; omega)
        | (go_roundw
           case rel => exact ⟨j + 1, by omega, by go_num, hb⟩
           case measure => simp [intOf]; omega)
    · have hlt' : ¬ (j : Int) < n := by omega
      go_wp2
      go_ret
      exact ⟨rfl, hb⟩
theorem alike_zero (w : World) (a a' : Option Addr) (cap cap' : Nat) : Calls Tryz.prog 14 #[.slice a 0 cap, .slice a' 0 cap'] w fun e w' => e = .returned (.bool true) ∧ Below w.heap.size w w' := by
  go_enter Tryz.func14, Tryz.ntmps14
  go_wp2
  go_loopw [5] (fun i wr => i = .int .i64 0 ∧ Below w.heap.size w wr) (fun _ _ => 0)
  case atStart => exact ⟨rfl, Below.refl _ _⟩
  case round =>
    obtain ⟨rfl, hb⟩ := hrel
    go_wp2
    go_ret
    exact ⟨rfl, hb⟩
set_option maxHeartbeats 1000000 in
theorem same_zero (w : World) (a a' : Option Addr) (cap cap' : Nat) : Calls Tryz.prog 6 #[.slice a 0 cap, .slice a' 0 cap'] w fun e w' => e = .returned (.bool true) ∧ Below w.heap.size w w' := by
  go_enter Tryz.func6, Tryz.ntmps6
  go_wp2_with (go_at_call 14; refine (alike_zero _ _ _ _ _).mono ?_; rintro e w0 ⟨rfl, hb0⟩)
  go_loopw [5] (fun i wr => i = .int .i64 0 ∧ Below w.heap.size w wr) (fun _ _ => 0)
  case atStart => exact ⟨rfl, hb0⟩
  case round =>
    obtain ⟨rfl, hb⟩ := hrel
    go_wp2
    go_ret
    exact ⟨rfl, hb⟩
end Go.Proofs.YtnmknnkpkkefoaaGreatDoor
