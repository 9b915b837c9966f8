import Derived.Test.YtlbgppijeoonjaaGreatDoorAtb
namespace Go.Proofs.YtlbgppijeoonjaaGreatDoor
open Go.RowKit
set_option linter.unusedVariables false

/-! ### slices.Clone, copied: whatever the depth -/
/-- No list is longer than n, in all depths. -/
inductive LenB (n : Nat) : List At → Prop
  | mk {l : List At} : l.length ≤ n → (∀ a, a ∈ l → LenB n a.params) → LenB n l
theorem LenB.len {n : Nat} {l : List At} (h : LenB n l) : l.length ≤ n := by cases h; assumption
theorem LenB.par {n : Nat} {l : List At} (h : LenB n l) {a : At} (ha : a ∈ l) : LenB n a.params := by cases h with | mk _ h2 => exact h2 a ha
theorem rowsA_len (ps : List (At × Value)) : (rowsA ps).length = ps.length * 12 := by
  induction ps with
  | nil => rfl
  | cons p ps ih =>
    have hs : (atC p.1 p.2).toList.length = 12 := by obtain ⟨a, b⟩ := p; cases a; rfl
    show ((atC p.1 p.2).toList ++ rowsA ps).length = _
    rw [List.length_append, hs, ih, List.length_cons]
    omega
theorem rowsA_one {ps : List (At × Value)} (h : ∀ p, p ∈ ps → ∃ a n c, p.2 = .slice a n c) : ∀ u ∈ rowsA ps, u.oneCell' = true := by
  intro u hu
  obtain ⟨p, hp, hu⟩ := List.mem_flatMap.1 hu
  obtain ⟨pa, pn, pc, e⟩ := h p hp
  obtain ⟨⟨name, o, l, c, ⟨vk, vt, vn, vh⟩, br, prm, nd, nt⟩, pv⟩ := p
  dsimp only at e
  subst e
  exact one12 _ _ _ _ _ _ _ _ _ _ _ _ _ _ u hu
set_option maxHeartbeats 2000000 in
set_option maxRecDepth 100000 in
theorem clone_row (w : World) (g off N cap : Nat) (ps : List (At × Value)) (hl : ps.length = N) (hN : N ≤ 1099511627776) (hg : g < w.heap.size) (hc : ∀ j u, (rowsA ps)[j]? = some u → w.cell? ⟨g, off + j, none⟩ = some u) (h1 : ∀ p, p ∈ ps → ∃ a n c, p.2 = .slice a n c) :
    Calls Tryz.prog 59 #[.slice (some ⟨g, off, none⟩) N cap] w fun e w' => ∃ v', e = .returned v' ∧ w'.ownsRow w.heap.size 34 12 v' N (rowsA ps) ∧ Below w.heap.size w w' := by
  have hq : ∀ (w : World) (a : Option Addr) (n c n' c' : Nat), (binOp .eql 32 (.slice a n c) (.slice none n' c')).run Tryz.prog w = .ok (.bool a.isNone) w := fun w a n c n' c' => Lib.run_eql_slice_nil w _ _ a n c n' c' Tryz.underlying32
  obtain ⟨i0, hi0, hz0, hz1, hz2⟩ := info_parts Tryz.info34
  have hown := World.ownsRow_lit (base := w.heap.size) (e := 34) (size := 12) w #[] 0 (Nat.le_refl _) (Nat.zero_le _) rfl
  have hnl : (rowsA ps).length = N * 12 := by rw [rowsA_len, hl]
  have hcl : ∀ j u, (rowsA ps)[j]? = some u → (w.alloc (.cells #[] 34)).cell? ((⟨g, off, none⟩ : Addr).add j) = some u := fun j u hj => by
    have h := hc j u hj
    rw [Lib.add_plain, cell_below ((Below.refl w.heap.size w).alloc (Nat.le_refl _) _) _ _ hg]
    exact h
  have ho := rowsA_one h1
  have HL : Hid (ps.length = N) := hl
  clear hl hc h1
  go_enter Tryz.func59, Tryz.ntmps59
  go_wp2_with (at_builtin; refine wpList_append_own_at _ rfl (.tmp 5) (.tmp 6) 32 rfl w.heap.size 34 i0 (.agg zero12) 12 128 Tryz.underlying32 hi0 hz0 hz1 hz2 rfl (by decide) _ 0 _ rfl hown ⟨g, off, none⟩ N cap (rowsA ps) rfl hnl hcl ho (by unfold maxLen; omega) (by omega) (by simp) ?_)
  intro v6 w6 ho6 hg6 _ hat6
  obtain ⟨av6, cv6, rfl⟩ := own_shape12 ho6
  have hb6 : Below w.heap.size w w6 := ((Below.refl w.heap.size w).alloc (Nat.le_refl _) _).grown hg6 (by simp) (fun k e => by simp [Value.ownBlock] at e; omega)
  have ho7 : w6.ownsRow w.heap.size 34 12 (.slice av6 N cv6) N (rowsA ps) := by simpa using ho6
  clear ho6 hg6 hat6 hown hcl ho
  go_wp2
  go_ret
  exact ⟨_, rfl, ho7, hb6⟩
end Go.Proofs.YtlbgppijeoonjaaGreatDoor
