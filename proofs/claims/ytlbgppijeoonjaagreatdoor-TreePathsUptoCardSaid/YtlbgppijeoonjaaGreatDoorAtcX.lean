import Derived.Test.YtlbgppijeoonjaaGreatDoorAtb
import Derived.Laws.OwnMore
namespace Go.Proofs.YtlbgppijeoonjaaGreatDoor
open Go.RowKit
set_option linter.unusedVariables false

/-! ### slices.Clone, copied: whatever the depth -/
/-- No list is longer than n, in all depths. -/
inductive LenB (n : Nat) : List At → Prop
  | mk {l : List At} : l.length ≤ n → (∀ a, a ∈ l → LenB n a.params) → LenB n l
theorem LenB.len {n : Nat} {l : List At} (h : LenB n l) : l.length ≤ n := by cases h; assumption
theorem LenB.par {n : Nat} {l : List At} (h : LenB n l) {a : At} (ha : a ∈ l) : LenB n a.params := by cases h with | mk _ h2 => exact h2 a ha
theorem rowsA_len (ps : List (At × Value)) : (rowsA ps).length = ps.length * 12 := by
  induction ps with
  | nil => rfl
  | cons p ps ih =>
    have hs : (atC p.1 p.2).toList.length = 12 := by obtain ⟨a, b⟩ := p; cases a; rfl
    show ((atC p.1 p.2).toList ++ rowsA ps).length = _
    rw [List.length_append, hs, ih, List.length_cons]
    omega
theorem rowsA_one {ps : List (At × Value)} (h : ∀ p, p ∈ ps → ∃ a n c, p.2 = .slice a n c) : ∀ u ∈ rowsA ps, u.oneCell' = true := by
  intro u hu
  obtain ⟨p, hp, hu⟩ := List.mem_flatMap.1 hu
  obtain ⟨pa, pn, pc, e⟩ := h p hp
  obtain ⟨⟨name, o, l, c, ⟨vk, vt, vn, vh⟩, br, prm, nd, nt⟩, pv⟩ := p
  dsimp only at e
  subst e
  exact one12 _ _ _ _ _ _ _ _ _ _ _ _ _ _ u hu
set_option maxHeartbeats 2000000 in
set_option maxRecDepth 100000 in
theorem clone_row (w : World) (g off N cap : Nat) (ps : List (At × Value)) (hl : ps.length = N) (hN : N ≤ 1099511627776) (hg : g < w.heap.size) (hc : ∀ j u, (rowsA ps)[j]? = some u → w.cell? ⟨g, off + j, none⟩ = some u) (h1 : ∀ p, p ∈ ps → ∃ a n c, p.2 = .slice a n c) :
    Calls Tryz.prog 59 #[.slice (some ⟨g, off, none⟩) N cap] w fun e w' => ∃ v', e = .returned v' ∧ w'.ownsRow w.heap.size 34 12 v' N (rowsA ps) ∧ Below w.heap.size w w' := by
  have hq : ∀ (w : World) (a : Option Addr) (n c n' c' : Nat), (binOp .eql 32 (.slice a n c) (.slice none n' c')).run Tryz.prog w = .ok (.bool a.isNone) w := fun w a n c n' c' => Lib.run_eql_slice_nil w _ _ a n c n' c' Tryz.underlying32
  obtain ⟨i0, hi0, hz0, hz1, hz2⟩ := info_parts Tryz.info34
  have hown := World.ownsRow_lit (base := w.heap.size) (e := 34) (size := 12) w #[] 0 (Nat.le_refl _) (Nat.zero_le _) rfl
  have hnl : (rowsA ps).length = N * 12 := by rw [rowsA_len, hl]
  have hcl : ∀ j u, (rowsA ps)[j]? = some u → (w.alloc (.cells #[] 34)).cell? ((⟨g, off, none⟩ : Addr).add j) = some u := fun j u hj => by
    have h := hc j u hj
    rw [Lib.add_plain, cell_below ((Below.refl w.heap.size w).alloc (Nat.le_refl _) _) _ _ hg]
    exact h
  have ho := rowsA_one h1
  have HL : Hid (ps.length = N) := hl
  clear hl hc h1
  go_enter Tryz.func59, Tryz.ntmps59
  go_wp2_with (at_builtin; refine wpList_append_own_at _ rfl (.tmp 5) (.tmp 6) 32 rfl w.heap.size 34 i0 (.agg zero12) 12 128 Tryz.underlying32 hi0 hz0 hz1 hz2 rfl (by decide) _ 0 _ rfl hown ⟨g, off, none⟩ N cap (rowsA ps) rfl hnl hcl ho (by unfold maxLen; omega) (by omega) (by simp) ?_)
  intro v6 w6 ho6 hg6 _ hat6
  obtain ⟨av6, cv6, rfl⟩ := own_shape12 ho6
  have hb6 : Below w.heap.size w w6 := ((Below.refl w.heap.size w).alloc (Nat.le_refl _) _).grown hg6 (by simp) (fun k e => by simp [Value.ownBlock] at e; omega)
  have ho7 : w6.ownsRow w.heap.size 34 12 (.slice av6 N cv6) N (rowsA ps) := by simpa using ho6
  clear ho6 hg6 hat6 hown hcl ho
  go_wp2
  go_ret
  exact ⟨_, rfl, ho7, hb6⟩
end Go.Proofs.YtlbgppijeoonjaaGreatDoor

namespace Go.Proofs.YtlbgppijeoonjaaGreatDoor
open Go.RowKit
set_option linter.unusedVariables false

theorem atC_set (a : At) (pv pv' : Value) : (atC a pv).toList.set 9 pv' = (atC a pv').toList := by cases a; rfl
theorem rowsA_app (ps qs : List (At × Value)) : rowsA (ps ++ qs) = rowsA ps ++ rowsA qs := by simp [rowsA]
theorem rowsA_set (ps1 qs : List (At × Value)) (p : At × Value) (pv' : Value) (i : Nat) (hi : ps1.length = i) : (rowsA (ps1 ++ p :: qs)).set (i * 12 + 9) pv' = rowsA ((ps1 ++ [(p.1, pv')]) ++ qs) := by
  have e1 : rowsA (ps1 ++ p :: qs) = rowsA ps1 ++ ((atC p.1 p.2).toList ++ rowsA qs) := by rw [rowsA_app]; rfl
  have e2 : rowsA ((ps1 ++ [(p.1, pv')]) ++ qs) = rowsA ps1 ++ ((atC p.1 pv').toList ++ rowsA qs) := by rw [rowsA_app, rowsA_app, List.append_assoc]; simp [rowsA]
  have h1 := rowsA_len ps1
  have h2 : (atC p.1 p.2).toList.length = 12 := by obtain ⟨a, b⟩ := p; cases a; rfl
  rw [e1, e2, List.set_append, if_neg (by omega), List.set_append, if_pos (by omega), show i * 12 + 9 - (rowsA ps1).length = 9 by omega, atC_set]
set_option maxHeartbeats 4000000 in
set_option maxRecDepth 100000 in
theorem copied_row (W : World) (F : Nat → Prop) (g off N cap : Nat) (ps : List (At × Value)) (hl : ps.length = N) (hN0 : 0 < N) (hN : N ≤ 1099511627776) (hg : g < W.heap.size) (hc : ∀ j u, (rowsA ps)[j]? = some u → W.cell? ⟨g, off + j, none⟩ = some u)
    (hA : ∀ p, p ∈ ps → AttrsAt W F p.2 p.1.params) (hcop : ∀ p, p ∈ ps → CopC F p.1.params) :
    Calls Tryz.prog 27 #[.slice (some ⟨g, off, none⟩) N cap] W fun e w' => ∃ pv', e = .returned pv' ∧ AttrsAt w' (fun g => W.heap.size ≤ g) pv' (ps.map Prod.fst) ∧ Below W.heap.size W w' := by
  have cc := clone_row W g off N cap ps hl hN hg hc (fun p hp => attrsAt_shape (hA p hp))
  have HL : Hid (ps.length = N) := hl
  have hN2 : (N : Int) ≤ 1099511627776 := by omega
  clear hc hl
  go_enter Tryz.func27, Tryz.ntmps27
  go_wp2_with fail
  refine cc.mono ?_
  rintro e w1 ⟨v', rfl, hO1, hb1⟩
  obtain ⟨g', cap', rfl⟩ : ∃ g' cap', v' = .slice (some ⟨g', 0, none⟩) N cap' := by
    obtain ⟨_, ⟨_, h0⟩ | ⟨g', cap', cur, rfl, _⟩⟩ := hO1
    · omega
    · exact ⟨g', cap', rfl⟩
  have hg' : W.heap.size ≤ g' := (hO1.lt g' rfl).1
  clear cc
  go_wp2
  go_loopw [3, 8] (fun _ s8 wr => ∃ (i : Nat) (ps1 : List (At × Value)), i ≤ N ∧ s8 = .int .i64 (i : Int) ∧ Hid (ps1.length = i) ∧ Hid (ps1.map Prod.fst = (ps.take i).map Prod.fst) ∧ wr.ownsRow W.heap.size 34 12 (.slice (some ⟨g', 0, none⟩) N cap') N (rowsA (ps1 ++ ps.drop i)) ∧ (∀ p, p ∈ ps1 → AttrsAt wr (fun g => W.heap.size ≤ g ∧ g ≠ g') p.2 p.1.params) ∧ Below W.heap.size W wr) (fun _ s8 _ => N - (intOf s8).toNat)
  case atStart => exact ⟨0, [], by omega, rfl, rfl, rfl, hO1, (fun p hp => by cases hp), hb1⟩
  case round =>
    obtain ⟨i, ps1, hi, rfl, H1, H2, hO, hA1, hb⟩ := hrel
    clear hO1 hb1
    by_cases hlt : i < N
    · have hlt' : (i : Int) < (N : Int) := by omega
      have hi0 : (0 : Int) ≤ (i : Int) := by omega
      have hil : i < ps.length := by rw [HL.out]; exact hlt
      have hdr : ps.drop i = ps[i] :: ps.drop (i + 1) := List.drop_eq_getElem_cons hil
      have hmem : ps[i] ∈ ps := List.getElem_mem hil
      have hAp := hA _ hmem
      have hCp := hcop _ hmem
      have htk : ps.take (i + 1) = ps.take i ++ [ps[i]] := by rw [List.take_succ_eq_append_getElem hil]
      generalize ps[i] = p at *
      have hp : (ps1 ++ ps.drop i)[i]? = some p := by rw [hdr, List.getElem?_append_right (by rw [H1.out]; exact Nat.le_refl _), H1.out, Nat.sub_self]; rfl
      have hx9 : wr.cell? ⟨g', i * 12 + 9, none⟩ = some p.2 := by
        rw [hO.cellAt (i * 12 + 9) (by omega), rowsA_at _ i p hp 9 (by omega)]
        obtain ⟨a, b⟩ := p
        cases a
        rfl
      have hfz := hO.frozenAt
      have cr := hCp wr p.2 (attrsAt_below hb hAp)
      obtain ⟨pa, pn, pc, e9⟩ := attrsAt_shape hAp
      rw [e9] at hx9 cr
      have hg's : g' < wr.heap.size := (hO.lt g' rfl).2
      clear hAp hCp hmem
      go_wp2_with fail
      refine cr.mono ?_
      rintro e w2 ⟨pv', rfl, hA2, hb2⟩
      obtain ⟨qa, qn, qc, rfl⟩ := attrsAt_shape hA2
      have hO2 := own_below hO hb2
      have hfz2 := hO2.frozenAt
      have hx92 := (cell_below hb2 g' (i * 12 + 9) hg's).trans hx9
      obtain ⟨hO3, hg3⟩ := hO2.stored (i * 12 + 9) (.slice qa qn qc)
      have hO4 : (w2.setCell ⟨g', i * 12 + 9, none⟩ (.slice qa qn qc)).ownsRow W.heap.size 34 12 (.slice (some ⟨g', 0, none⟩) N cap') N (rowsA ((ps1 ++ [(p.1, .slice qa qn qc)]) ++ ps.drop (i + 1))) := by
        rw [hdr, rowsA_set ps1 (ps.drop (i + 1)) p (.slice qa qn qc) i H1.out] at hO3
        exact hO3
      have hA3 : ∀ x, x ∈ ps1 ++ [(p.1, Value.slice qa qn qc)] → AttrsAt (w2.setCell ⟨g', i * 12 + 9, none⟩ (.slice qa qn qc)) (fun g => W.heap.size ≤ g ∧ g ≠ g') x.2 x.1.params := fun x hx => by
        rcases List.mem_append.1 hx with hx | hx
        · exact attrsAt_grown hg3 (fun hF => hF.2 rfl) (attrsAt_below hb2 (hA1 x hx))
        · have hxe : x = _ := List.mem_singleton.1 hx
          subst hxe
          have hbs := hb.size
          exact attrsAt_move hg3.size (fun g hF hl => ⟨hg3.block g hl (fun e => by cases e; omega), by omega, by omega⟩) hA2
      have hb4 : Below W.heap.size W (w2.setCell ⟨g', i * 12 + 9, none⟩ (.slice qa qn qc)) := (hb.trans (hb2.mono hb.size)).trans (below_of_grown hg3 hg' (Nat.le_trans hb.size hb2.size))
      have H3 : Hid ((ps1 ++ [(p.1, Value.slice qa qn qc)]).length = i + 1) := by show _ = _; rw [List.length_append, H1.out]; rfl
      have H4 : Hid ((ps1 ++ [(p.1, Value.slice qa qn qc)]).map Prod.fst = (ps.take (i + 1)).map Prod.fst) := by show _ = _; rw [List.map_append, H2.out, htk, List.map_append]; rfl
      clear hO hO2 hO3 hA1 hA2 hb hb2 hg3 cr hfz hp hdr htk hx9
      generalize hw3 : w2.setCell ⟨g', i * 12 + 9, none⟩ (.slice qa qn qc) = w3 at hO4 hA3 hb4
      go_wp2
      go_roundw
      case rel => exact ⟨i + 1, ps1 ++ [(p.1, Value.slice qa qn qc)], by omega, by go_num, H3, H4, hO4, hA3, hb4⟩
      case measure => simp [intOf]; omega
    · obtain rfl : i = N := by omega
      have hlt' : ¬ (i : Int) < (i : Int) := by omega
      have e1 : ps.drop i = [] := List.drop_eq_nil_of_le (by rw [HL.out]; exact Nat.le_refl _)
      have e2 : ps.take i = ps := List.take_of_length_le (by rw [HL.out]; exact Nat.le_refl _)
      rw [e1, List.append_nil] at hO
      have hO5 : wr.ownsRow W.heap.size 34 12 (.slice (some ⟨g', 0, none⟩) i cap') ps1.length (rowsA ps1) := by rw [H1.out]; exact hO
      have hR := attrsAt_own hO5 (fun g hg => hg) (fun p hp => attrsAt_mono (fun g hF => hF.1) (hA1 p hp))
      rw [H2.out, e2] at hR
      clear hO hO5 hA1 H1 H2 e1 e2
      go_wp2
      go_ret
      exact ⟨_, rfl, hR, hb⟩
theorem copied_el {F : Nat → Prop} {l : List At} (hl : l.length ≤ 1099511627776) (h : ∀ a, a ∈ l → CopC F a.params) : CopC F l := by
  intro W lv hA
  by_cases h0 : l = []
  · subst h0
    exact copied_nil F W lv hA
  · cases hA with
    | nil => exact absurd rfl h0
    | @row g off cap ps hF hg hc hcap hA =>
      refine copied_row W F g off ps.length cap ps rfl ?_ (by simpa using hl) hg hc hA (fun p hp => h p.1 (List.mem_map.2 ⟨p, hp, rfl⟩))
      cases ps with
      | nil => exact absurd rfl h0
      | cons p ps => simp
/-- copied, of attributes that lie in memory. -/
theorem copied_any {F : Nat → Prop} {n : Nat} (hn : n ≤ 1099511627776) {l : List At} (h : LenB n l) : CopC F l := by
  induction h with
  | mk h1 h2 ih => exact copied_el (Nat.le_trans h1 hn) ih
end Go.Proofs.YtlbgppijeoonjaaGreatDoor

