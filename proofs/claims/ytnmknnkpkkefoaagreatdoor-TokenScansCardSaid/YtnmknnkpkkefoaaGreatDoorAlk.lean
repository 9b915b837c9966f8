import Derived.Test.YtnmknnkpkkefoaaGreatDoorAlv
namespace Go.Proofs.YtnmknnkpkkefoaaGreatDoor
open Go.RowKit
set_option linter.unusedVariables false

set_option maxHeartbeats 4000000 in
set_option maxRecDepth 100000 in
theorem alike_eq (w : World) (g off cap g' off' cap' n : Nat) (xs ys : List Tp) (hR : RowT w (.slice (some ⟨g, off, none⟩) n cap) xs) (hR' : RowT w (.slice (some ⟨g', off', none⟩) n cap') ys) (hxy : xs.map (·.z) = ys.map (·.z)) (hx : xs.length = n) (hn : n < 4294967296) (hn0 : 0 < n) :
    Calls Tryz.prog 14 #[.slice (some ⟨g, off, none⟩) n cap, .slice (some ⟨g', off', none⟩) n cap'] w fun e w' => e = .returned (.bool true) ∧ Below w.heap.size w w' := by
  have hg : g < w.heap.size := by cases hR with | nil => omega | some h _ _ => exact h
  have hg' : g' < w.heap.size := by cases hR' with | nil => omega | some h _ _ => exact h
  have HX : Hid (xs.length = n ∧ xs.map (·.z) = ys.map (·.z)) := ⟨hx, hxy⟩
  clear hx hxy
  go_enter Tryz.func14, Tryz.ntmps14
  go_wp2
  go_loopw [5] (fun i wr => ∃ j : Nat, j ≤ n ∧ i = .int .i64 j ∧ Below w.heap.size w wr) (fun i _ => n - (intOf i).toNat)
  case atStart => exact ⟨0, by omega, rfl, Below.refl _ _⟩
  case round =>
    obtain ⟨j, hj, rfl, hb⟩ := hrel
    by_cases hlt : j < n
    · have hlt' : (j : Int) < n := by omega
      obtain ⟨x, hxj⟩ : ∃ x, xs[j]? = some x := ⟨xs[j]'(by rw [HX.out.1]; exact hlt), List.getElem?_eq_getElem _⟩
      obtain ⟨y, hyj, hz⟩ : ∃ y, ys[j]? = some y ∧ y.z = x.z := by
        have := congrArg (fun l => l[j]?) HX.out.2
        simp only [List.getElem?_map, hxj, Option.map_some] at this
        cases hy : ys[j]? with
        | none => rw [hy] at this; cases this
        | some y => rw [hy] at this; exact ⟨y, rfl, (Option.some.inj this).symm⟩
      have hc : ∀ i, i < 7 → ∀ u, (tpL x)[i]? = some u → wr.cell? ⟨g, off + (j * 7 + i), none⟩ = some u := fun i hi u hu => by
        rw [cell_below hb _ _ hg]
        exact rowT_at hR _ _ (by rw [tps_at xs j x hxj i hi]; exact hu)
      have hc' : ∀ i, i < 7 → ∀ u, (tpL y)[i]? = some u → wr.cell? ⟨g', off' + (j * 7 + i), none⟩ = some u := fun i hi u hu => by
        rw [cell_below hb _ _ hg']
        exact rowT_at hR' _ _ (by rw [tps_at ys j y hyj i hi]; exact hu)
      obtain ⟨⟨kind, text, val, hex⟩, xo, xl, xc⟩ := x
      obtain ⟨yz, yo, yl, yc⟩ := y
      simp only at hz
      subst hz
      have x0 : wr.cell? ⟨g, off + j * 7, none⟩ = some (.int .i64 kind) := hc 0 (by omega) _ rfl
      have x1 : wr.cell? ⟨g, off + j * 7 + 1, none⟩ = some (.int .i64 xo) := hc 1 (by omega) _ rfl
      have x2 : wr.cell? ⟨g, off + j * 7 + 2, none⟩ = some (.int .i64 xl) := hc 2 (by omega) _ rfl
      have x3 : wr.cell? ⟨g, off + j * 7 + 3, none⟩ = some (.int .i64 xc) := hc 3 (by omega) _ rfl
      have x4 : wr.cell? ⟨g, off + j * 7 + 4, none⟩ = some (.string ⟨text.toArray⟩) := hc 4 (by omega) _ rfl
      have x5 : wr.cell? ⟨g, off + j * 7 + 5, none⟩ = some (.int .u32 (val : Int)) := hc 5 (by omega) _ rfl
      have x6 : wr.cell? ⟨g, off + j * 7 + 6, none⟩ = some (.bool hex) := hc 6 (by omega) _ rfl
      have y0 : wr.cell? ⟨g', off' + j * 7, none⟩ = some (.int .i64 kind) := hc' 0 (by omega) _ rfl
      have y1 : wr.cell? ⟨g', off' + j * 7 + 1, none⟩ = some (.int .i64 yo) := hc' 1 (by omega) _ rfl
      have y2 : wr.cell? ⟨g', off' + j * 7 + 2, none⟩ = some (.int .i64 yl) := hc' 2 (by omega) _ rfl
      have y3 : wr.cell? ⟨g', off' + j * 7 + 3, none⟩ = some (.int .i64 yc) := hc' 3 (by omega) _ rfl
      have y4 : wr.cell? ⟨g', off' + j * 7 + 4, none⟩ = some (.string ⟨text.toArray⟩) := hc' 4 (by omega) _ rfl
      have y5 : wr.cell? ⟨g', off' + j * 7 + 5, none⟩ = some (.int .u32 (val : Int)) := hc' 5 (by omega) _ rfl
      have y6 : wr.cell? ⟨g', off' + j * 7 + 6, none⟩ = some (.bool hex) := hc' 6 (by omega) _ rfl
      have hsz := hb.size
      have hb2 := (hb.alloc hsz (.cells #[.int .i64 kind, .int .i64 xo, .int .i64 xl, .int .i64 xc, .string ⟨text.toArray⟩, .int .u32 (val : Int), .bool hex] 34)).alloc (by simp; omega) (.cells #[.int .i64 kind, .int .i64 yo, .int .i64 yl, .int .i64 yc, .string ⟨text.toArray⟩, .int .u32 (val : Int), .bool hex] 34)
      have hgr : g < wr.heap.size := by omega
      have hgr' : g' < wr.heap.size := by omega
      have al1 : ∀ o i, (wr.alloc o).cell? ⟨g, i, none⟩ = wr.cell? ⟨g, i, none⟩ := fun o i => cell_below ((Below.refl wr.heap.size wr).alloc (Nat.le_refl _) o) _ _ hgr
      have al1' : ∀ o i, (wr.alloc o).cell? ⟨g', i, none⟩ = wr.cell? ⟨g', i, none⟩ := fun o i => cell_below ((Below.refl wr.heap.size wr).alloc (Nat.le_refl _) o) _ _ hgr'
      have al2 : ∀ o o' i, ((wr.alloc o).alloc o').cell? ⟨g, i, none⟩ = wr.cell? ⟨g, i, none⟩ := fun o o' i => cell_below (((Below.refl wr.heap.size wr).alloc (Nat.le_refl _) o).alloc (by simp) o') _ _ hgr
      have al2' : ∀ o o' i, ((wr.alloc o).alloc o').cell? ⟨g', i, none⟩ = wr.cell? ⟨g', i, none⟩ := fun o o' i => cell_below (((Below.refl wr.heap.size wr).alloc (Nat.le_refl _) o).alloc (by simp) o') _ _ hgr'
      clear hc hc' hxj hyj hR hR'
      go_wp2
      go_region
      all_goals
        try go_wp2
        refine ⟨⟨j + 1, by omega, by go_num, ?_⟩, by simp [intOf]; omega⟩
        exact below_drewN ((hb.alloc hsz _).alloc (by simp; omega) _) 1
    · have hlt' : ¬ (j : Int) < n := by omega
      go_wp2
      go_ret
      exact ⟨rfl, hb⟩
end Go.Proofs.YtnmknnkpkkefoaaGreatDoor
