import Derived.Test.YtmllocfeflhjoaaGreatXQdk
import Derived.Deep.CutBlock
import Derived.Laws.AppendOwnNone
namespace Go.Proofs.YtmllocfeflhjoaaGreat
open Go.RowKit Go.Maps Go.Shelf Go.Sort
open Go.Proofs.YtmllocfeflhjoaaGreat.St (Fx Fz iQ iP iV)
set_option linter.unusedVariables false
set_option linter.unusedSimpArgs false
set_option maxRecDepth 100000
set_option maxHeartbeats 8000000
theorem tinfo19 : (Tryz.prog.info? 134).map (fun i => (i.zero, i.size, i.bytes)) = some (some (.agg #[.bool false, .int .i64 0, .int .i64 0]), 3, 24) := by kernel_rfl
theorem neq_own19 (w : World) (x y : Own) : (binOp .neq 23 (.agg #[.bool x.isr, I x.id]) (.agg #[.bool y.isr, I y.id])).run Tryz.prog w = .ok (.bool (!decide (x = y))) w := by
  obtain ⟨b, n⟩ := x
  obtain ⟨c, m⟩ := y
  by_cases h1 : b = c <;> by_cases h2 : n = m <;> simp [go_sem, h1, h2]
theorem cell_three19 (w : World) (a b c : Value) (t : TypeId) : ∀ (j : Nat) (u : Value), [a, b, c][j]? = some u → (w.alloc (.cells #[a, b, c] t)).cell? ((⟨w.heap.size, 0, none⟩ : Addr).add j) = some u := by
  intro j u hu
  rw [St.addr_add, cell_of_row _ _ _ _ _ (0, 0) (heap_alloc_new w _)]
  match j, hu with
  | 0, hu => cases hu; rfl
  | 1, hu => cases hu; rfl
  | 2, hu => cases hu; rfl
theorem nodO_step {L : Tks} {o : Own} {k : Nat} {t : Own × Int} (h : L[k]? = some t) : nodO (L.take (k + 1)) o = if t.1 = o then nodO (L.take k) o else nodO (L.take k) o ++ [t] := by
  rw [List.take_add_one, h]
  by_cases e : t.1 = o <;> simp [nodO, e]
/-- what an owner took last -/
theorem la_hld (o : Own) (L : Tks) : ∀ k, k ≤ L.length → (hld (L.take k) o = [] ∧ laK o L k = -1) ∨ ∃ (j : Nat) (r : Int) (xs : List Int), j < k ∧ laK o L k = (j : Int) ∧ L[j]? = some (o, r) ∧ hld (L.take k) o = xs ++ [r]
  | 0, _ => .inl ⟨rfl, rfl⟩
  | k + 1, hk => by
    obtain ⟨t, ht⟩ : ∃ t, L[k]? = some t := ⟨_, List.getElem?_eq_getElem (by omega)⟩
    rw [hld_step ht, laK_eq ht]
    by_cases e : t.1 = o
    · rw [if_pos e, if_pos e]
      exact .inr ⟨k, t.2, _, by omega, rfl, by rw [ht, ← e], rfl⟩
    · rw [if_neg e, if_neg e]
      rcases la_hld o L k (by omega) with h | ⟨j, r, xs, h1, h2, h3, h4⟩
      · exact .inl h
      · exact .inr ⟨j, r, xs, by omega, h2, h3, h4⟩
section
variable {W0 w w' : World} {tb : Tb} {v : Ts} {P : Nat} {a b : Value} {L : Tks} {i : List Bool} {g : Gt}
theorem Dl.setL (h : Dl W0 w tb v P a b L i g) {a' : Value} {L' : Tks} (ha : w.ownsRow W0.heap.size 134 3 a' L'.length (flT L')) (hm : L'.length ≤ 65) : Dl W0 (w.setCell ⟨P, 13, none⟩ a') tb v P a' b L' i g ∧ Fz (fun x => x = P) w (w.setCell ⟨P, 13, none⟩ a') := by
  have hf : Fz (fun x => x = P) w (w.setCell ⟨P, 13, none⟩ a') := fz_set w P 13 _
  exact ⟨⟨heap_setCell_same _ P 13 _ _ _ h.o, h.t0, h.lo.trans (hf.below h.lo.size (fun x e => by rw [e]; exact h.p)), h.p, h.tk, hf.own ha (fun x e e2 => own_neP ha h.o (by decide) (by rw [← e2]; exact e)), hf.own h.r (fun x e e2 => own_neP h.r h.o (by decide) (by rw [← e2]; exact e)), h.n, hm⟩, hf⟩
theorem dDrop_none (h : Dl W0 w tb v P a b L i g) (o : Own) (ho : hld L o = []) : Calls Tryz.prog 45 #[lp P, .agg #[.bool o.isr, I o.id]] w fun e w' => e = .returned (.tuple #[I (-1), .bool false]) ∧ Below w.heap.size w w' := by
  have hb := below_alloc w (.cells #[.bool o.isr, I o.id] 23)
  obtain ⟨y0, y1⟩ := box_own w o
  have hT := dLast (h.below hb) o
  have e : laK o L L.length = -1 := by
    rcases la_hld o L L.length (Nat.le_refl _) with h | ⟨j, r, xs, -, -, -, h4⟩
    · exact h.2
    · rw [List.take_length, ho] at h4; simp at h4
  rw [e] at hT
  have HB : Hid (∀ w', Below (w.alloc (.cells #[.bool o.isr, I o.id] 23)).heap.size (w.alloc (.cells #[.bool o.isr, I o.id] 23)) w' → Below w.heap.size w w') := fun w' hb' => hb.trans (hb'.mono (by simp))
  clear h hb ho e
  go_enter Tryz.func45, Tryz.ntmps45
  go_upto_region 1 with fail
  generalize w.alloc (.cells #[.bool o.isr, I o.id] 23) = w1 at *
  go_wp2_with (first | (go_at_call 89; refine hT.mono ?_; clear hT; rintro e w2 ⟨rfl, hb2⟩))
  go_ret2
  exact ⟨rfl, HB.out _ hb2⟩
end
end Go.Proofs.YtmllocfeflhjoaaGreat

namespace Go.Proofs.YtmllocfeflhjoaaGreat
open Go.RowKit Go.Maps Go.Shelf Go.Sort
open Go.Proofs.YtmllocfeflhjoaaGreat.St (Fx Fz iQ iP iV)
set_option linter.unusedVariables false
set_option linter.unusedSimpArgs false
set_option maxRecDepth 100000
set_option maxHeartbeats 8000000
theorem nodO_le (L : Tks) (o : Own) (k : Nat) : (nodO (L.take k) o).length ≤ L.length := by
  unfold nodO
  exact Nat.le_trans (List.length_filter_le _ _) (by simp; omega)
section
variable {W0 w w' : World} {tb : Tb} {v : Ts} {P : Nat} {a b : Value} {L : Tks} {i : List Bool} {g : Gt}
theorem dDrop_ok (h : Dl W0 w tb v P a b L i g) (o : Own) {xs : List Int} {r : Int} (ho : hld L o = xs ++ [r]) : Calls Tryz.prog 45 #[lp P, .agg #[.bool o.isr, I o.id]] w fun e w' => e = .returned (.tuple #[I r, .bool true]) ∧ (∃ a', Dl W0 w' tb v P a' b (nodO L o) i g ∧ ∀ x, a'.ownBlock = some x → w.heap.size ≤ x) ∧ Fz (fun x => x = P) w w' := by
  obtain ⟨i0, hi0, hz0, hz1, hz2⟩ := info_parts tinfo19
  have hb := below_alloc w (.cells #[.bool o.isr, I o.id] 23)
  obtain ⟨y0, y1⟩ := box_own w o
  have h1 := h.below hb
  have hT := dLast h1 o
  obtain ⟨j, hj0, hj1, hj2⟩ : ∃ j : Nat, laK o L L.length = (j : Int) ∧ j < L.length ∧ L[j]? = some (o, r) := by
    rcases la_hld o L L.length (Nat.le_refl _) with ⟨h, -⟩ | ⟨j, r', xs', h1, h2, h3, h4⟩
    · rw [List.take_length, ho] at h; simp at h
    · rw [List.take_length, ho] at h4
      have := (List.append_inj' h4 rfl).2
      simp at this
      exact ⟨j, h2, h1, by rw [h3, this]⟩
  rw [hj0] at hT
  have hl : L.length ≤ 65 := h.m
  have hW0 : W0.heap.size ≤ w.heap.size := h.lo.size
  have HB : Hid (Below w.heap.size w (w.alloc (.cells #[.bool o.isr, I o.id] 23)) ∧ w.heap.size < (w.alloc (.cells #[.bool o.isr, I o.id] 23)).heap.size ∧ W0.heap.size ≤ w.heap.size) := ⟨hb, by simp, hW0⟩
  clear h hb ho hj0 hW0
  go_enter Tryz.func45, Tryz.ntmps45
  go_upto_region 1 with fail
  generalize w.alloc (.cells #[.bool o.isr, I o.id] 23) = w1 at *
  generalize hXe : w.heap.size = X at *
  have HXE : Hid (w.heap.size = X) := hXe
  clear hXe
  have HH : Hid (∀ W, Below w1.heap.size w1 W → Dl W0 W tb v P a b L i g ∧ W.cell? ⟨X, 0, none⟩ = some (.bool o.isr) ∧ W.cell? ⟨X, 1, none⟩ = some (I o.id)) := fun W hW => ⟨h1.below hW, (cell_below hW _ _ HB.out.2.1).trans y0, (cell_below hW _ _ HB.out.2.1).trans y1⟩
  obtain ⟨a2, cc, rfl⟩ := own_slk19 h1.q
  clear h1
  go_upto_region 4 with (first | (go_at_call 89; refine hT.mono ?_; clear hT; rintro e w2 ⟨rfl, b2⟩))
  clear y0 y1
  obtain ⟨h2, -, -⟩ := HH.out _ b2
  obtain ⟨-, -, -, c13, -, -, -, -⟩ := h2.cells
  obtain ⟨g1, k1, e1, -, -, q3⟩ := h2.at hj2
  cases e1
  have hjI : (j : Int) < L.length := by omega
  have B2 : Hid (Below w1.heap.size w1 w2) := b2
  simp only at q3
  clear h2 b2 hj2
  go_wp2
  clear c13 q3
  go_loopw [8, 9] (fun v8 v9 wr => ∃ k : Nat, k ≤ L.length ∧ v9 = I k ∧ Hid (wr.ownsRow w1.heap.size 134 3 v8 (nodO (L.take k) o).length (flT (nodO (L.take k) o)) ∧ Below w1.heap.size w1 wr)) (fun _ v9 _ => L.length - (intOf v9).toNat)
  case atStart => exact ⟨0, by omega, rfl, World.ownsRow_nil _ _ _ _, B2.out⟩
  case round =>
    obtain ⟨k, hk, rfl, HJ⟩ := hrel
    obtain ⟨h5, y0, y1⟩ := HH.out _ HJ.out.2
    obtain ⟨-, -, -, c13, -, -, -, -⟩ := h5.cells
    by_cases hlt : k < L.length
    · have hltI : (k : Int) < L.length := by omega
      obtain ⟨x, hx⟩ : ∃ x, L[k]? = some x := ⟨_, List.getElem?_eq_getElem hlt⟩
      obtain ⟨g1', k1, e1, q1, q2, q3⟩ := h5.at hx
      cases e1
      have hE := fun w => neq_own19 w x.1 o
      have HL := nodO_step (o := o) hx
      by_cases h0 : x.1 = o
      · rw [if_pos h0] at HL
        rw [decide_eq_true h0] at hE
        have HLh : Hid (nodO (L.take (k + 1)) o = nodO (L.take k) o) := HL
        clear HL h5 hx h0
        go_upto_region 9 with fail
        go_quiet (fail)
        go_wp2
        go_roundw
        case rel =>
          refine ⟨k + 1, by omega, by go_num, ?_⟩
          show _ ∧ _
          rw [HLh.out]
          exact ⟨own_below HJ.out.1 (St.below_drewN _ (Below.refl _ _)), St.below_drewN _ HJ.out.2⟩
        case measure => simp [intOf]; omega
      · rw [if_neg h0] at HL
        rw [decide_eq_false h0] at hE
        have HLh : Hid (nodO (L.take (k + 1)) o = nodO (L.take k) o ++ [x]) := HL
        clear HL h5 hx h0
        have HC : Hid (∀ m, (wr.drewN m).cell? ⟨P, 13, none⟩ = some (.slice (some ⟨g1, 0, none⟩) L.length cc) ∧ (wr.drewN m).cell? ⟨g1, k * 3, none⟩ = some (.bool x.1.isr) ∧ (wr.drewN m).cell? ⟨g1, k * 3 + 1, none⟩ = some (I x.1.id) ∧ (wr.drewN m).cell? ⟨g1, k * 3 + 2, none⟩ = some (I x.2)) := fun m => ⟨c13, q1, q2, q3⟩
        have HJ5 : Hid (∀ m, (wr.drewN m).ownsRow w1.heap.size 134 3 u8 (nodO (L.take k) o).length (flT (nodO (L.take k) o)) ∧ Below w1.heap.size w1 (wr.drewN m)) := fun m => ⟨own_below HJ.out.1 (St.below_drewN _ (Below.refl _ _)), St.below_drewN _ HJ.out.2⟩
        clear HJ
        go_upto_region 9 with fail
        go_quiet (fail)
        obtain ⟨c13', q1', q2', q3'⟩ := HC.out nq
        have HJ6 : Hid _ := HJ5.out nq
        clear HJ5 HC c13 q1 q2 q3 y0 y1
        generalize wr.drewN nq = w5 at *
        have hle := nodO_le L o k
        go_wp2_with (first | (at_builtin; refine wpList_append_own _ rfl (.tmp 42) (.tmp 50) 80 rfl w1.heap.size 134 i0 (.agg #[.bool false, .int .i64 0, .int .i64 0]) 3 24 Tryz.underlying80 hi0 hz0 hz1 hz2 rfl (by decide) _ _ _ rfl (own_below HJ6.out.1 (below_alloc _ _)) ⟨w5.heap.size, 0, none⟩ 1 1 [.bool x.1.isr, I x.1.id, I x.2] rfl rfl (cell_three19 _ _ _ _ _) (by simp [Value.oneCell']) (by unfold maxLen; omega) (by omega) (by have := HJ6.out.2.size; simp; omega) ?_; intro v' w' hown' hgrow hnil; have HN : Hid (w'.ownsRow w1.heap.size 134 3 v' ((nodO (L.take k) o).length + 1) (flT (nodO (L.take k) o) ++ [.bool x.1.isr, I x.1.id, I x.2]) ∧ Below w1.heap.size w1 w') := ⟨hown', (HJ6.out.2.trans ((below_alloc w5 _).mono HJ6.out.2.size)).grown hgrow (by have := HJ6.out.2.size; simp; omega) (fun q e => (HJ6.out.1.lt q e).1)⟩; clear hown' hgrow hnil HJ6))
        go_roundw
        case rel =>
          refine ⟨k + 1, by omega, by go_num, ?_⟩
          show _ ∧ _
          rw [HLh.out, List.length_append, flT_app]
          exact HN.out
        case measure => simp [intOf]; omega
    · obtain rfl : k = L.length := by omega
      have hge : ¬ ((L.length : Int) < L.length) := by omega
      have HJ2 := HJ.out
      rw [List.take_length] at HJ2
      obtain ⟨a8, c8, rfl⟩ := own_slk19 HJ2.1
      have fr := h5.frz 13
      have hs := HJ2.2.size
      have HF : Hid _ := h5.setL (own_down19 (by have := HB.out; omega) HJ2.1) (by have := nodO_le L o L.length; rw [List.take_length] at this; omega)
      have HK : Hid (∀ x, (Value.slice a8 (nodO L o).length c8).ownBlock = some x → X ≤ x) := fun x e => by have := (HJ2.1.lt x e).1; have := HB.out; omega
      have HBl : Hid (Below X w wr) := HB.out.1.trans (HJ2.2.mono (Nat.le_of_lt HB.out.2.1))
      clear h5 y0 y1 HJ HJ2 hs
      go_wp2
      go_ret2
      rw [HXE.out]
      refine ⟨rfl, ⟨_, HF.out.1, HK.out⟩, ?_⟩
      exact (Fz.of_below (by rw [HXE.out]; exact HBl.out)).trans HF.out.2
end
end Go.Proofs.YtmllocfeflhjoaaGreat

namespace Go.Proofs.YtmllocfeflhjoaaGreat
open Go.RowKit Go.Maps Go.Shelf Go.Sort
open Go.Proofs.YtmllocfeflhjoaaGreat.St (Fx Fz iQ iP iV)
set_option linter.unusedVariables false
set_option linter.unusedSimpArgs false
set_option maxRecDepth 100000
set_option maxHeartbeats 8000000
section
variable {W0 w w' : World} {tb : Tb} {v : Ts} {P : Nat} {a b : Value} {L : Tks} {i : List Bool} {g : Gt}
theorem dGet_no (h : Dl W0 w tb v P a b L i g) (o : Own) (r : Int) (hr : asks tb o r = false) : Calls Tryz.prog 43 #[lp P, .agg #[.bool o.isr, I o.id], I r] w fun e w' => e = .returned (I 3) ∧ Below w.heap.size w w' := by
  have hb := below_alloc w (.cells #[.bool o.isr, I o.id] 23)
  obtain ⟨y0, y1⟩ := box_own w o
  have hT := dKnown (h.below hb) o r
  rw [hr] at hT
  have HB : Hid (∀ w', Below (w.alloc (.cells #[.bool o.isr, I o.id] 23)).heap.size (w.alloc (.cells #[.bool o.isr, I o.id] 23)) w' → Below w.heap.size w w') := fun w' hb' => hb.trans (hb'.mono (by simp))
  clear h hb hr
  go_enter Tryz.func43, Tryz.ntmps43
  go_upto_region 1 with fail
  generalize w.alloc (.cells #[.bool o.isr, I o.id] 23) = w1 at *
  go_wp2_with (first | (go_at_call 86; refine hT.mono ?_; clear hT; rintro e w2 ⟨rfl, hb2⟩))
  go_ret
  exact ⟨rfl, HB.out _ hb2⟩
theorem dRelease_no (h : Dl W0 w tb v P a b L i g) (o : Own) (r : Int) (hr : asks tb o r = false) : Calls Tryz.prog 44 #[lp P, .agg #[.bool o.isr, I o.id], I r] w fun e w' => e = .returned (I 3) ∧ Below w.heap.size w w' := by
  have hb := below_alloc w (.cells #[.bool o.isr, I o.id] 23)
  obtain ⟨y0, y1⟩ := box_own w o
  have hT := dKnown (h.below hb) o r
  rw [hr] at hT
  have HB : Hid (∀ w', Below (w.alloc (.cells #[.bool o.isr, I o.id] 23)).heap.size (w.alloc (.cells #[.bool o.isr, I o.id] 23)) w' → Below w.heap.size w w') := fun w' hb' => hb.trans (hb'.mono (by simp))
  clear h hb hr
  go_enter Tryz.func44, Tryz.ntmps44
  go_upto_region 1 with fail
  generalize w.alloc (.cells #[.bool o.isr, I o.id] 23) = w1 at *
  go_wp2_with (first | (go_at_call 86; refine hT.mono ?_; clear hT; rintro e w2 ⟨rfl, hb2⟩))
  go_ret
  exact ⟨rfl, HB.out _ hb2⟩
theorem dRelease_bar (h : Dl W0 w tb v P a b L i g) (o : Own) (r : Int) (hr : asks tb o r = true) (hn : (hld L o).getLast? ≠ some r) : Calls Tryz.prog 44 #[lp P, .agg #[.bool o.isr, I o.id], I r] w fun e w' => e = .returned (I 5) ∧ Below w.heap.size w w' := by
  have hb := below_alloc w (.cells #[.bool o.isr, I o.id] 23)
  obtain ⟨y0, y1⟩ := box_own w o
  have h1 := h.below hb
  have hT := dKnown h1 o r
  rw [hr] at hT
  have hl : L.length ≤ 65 := h.m
  have HB : Hid (Below w.heap.size w (w.alloc (.cells #[.bool o.isr, I o.id] 23)) ∧ w.heap.size < (w.alloc (.cells #[.bool o.isr, I o.id] 23)).heap.size) := ⟨hb, by simp⟩
  have hla := la_hld o L L.length (Nat.le_refl _)
  rw [List.take_length] at hla
  clear h hb hr
  go_enter Tryz.func44, Tryz.ntmps44
  go_upto_region 1 with fail
  generalize w.alloc (.cells #[.bool o.isr, I o.id] 23) = w1 at *
  generalize hXe : w.heap.size = X at *
  have HXE : Hid (w.heap.size = X) := hXe
  clear hXe
  have HH : Hid (∀ W, Below w1.heap.size w1 W → Dl W0 W tb v P a b L i g ∧ W.cell? ⟨X, 0, none⟩ = some (.bool o.isr) ∧ W.cell? ⟨X, 1, none⟩ = some (I o.id)) := fun W hW => ⟨h1.below hW, (cell_below hW _ _ HB.out.2).trans y0, (cell_below hW _ _ HB.out.2).trans y1⟩
  clear h1
  go_upto_region 3 with (first | (go_at_call 86; refine hT.mono ?_; clear hT; rintro e w2 ⟨rfl, b2⟩))
  clear y0 y1
  obtain ⟨h2, y0, y1⟩ := HH.out _ b2
  have hLa := dLast h2 o
  have B2 : Hid (Below w1.heap.size w1 w2) := b2
  clear h2 b2
  rcases hla with ⟨-, e⟩ | ⟨j, r', xs, hj, e, e2, e3⟩
  · rw [e] at hLa
    clear e
    go_wp2_with (first | (go_at_call 89; refine hLa.mono ?_; clear hLa; rintro e w3 ⟨rfl, b3⟩))
    go_ret
    exact ⟨rfl, by rw [HXE.out]; exact HB.out.1.trans ((B2.out.trans (b3.mono B2.out.size)).mono (Nat.le_of_lt HB.out.2))⟩
  · rw [e] at hLa
    have hne : ¬ (r' = r) := fun e4 => hn (by rw [e3, e4]; simp)
    have hneb : (r' == r) = false := beq_eq_false_iff_ne.2 hne
    have hj0 : ¬ ((j : Int) < 0) := by omega
    have hnd : decide (r' = r) = false := decide_eq_false hne
    have hnx : (r' != r) = true := by simp [bne, hneb]
    have hny : decide (r' ≠ r) = true := decide_eq_true hne
    have hjI : (j : Int) < L.length := by omega
    have HE : Hid (L[j]? = some (o, r')) := e2
    clear e e2 e3 hn
    go_upto_region 4 with (first | (go_at_call 89; refine hLa.mono ?_; clear hLa; rintro e w3 ⟨rfl, b3⟩))
    have B3 : Hid (Below w1.heap.size w1 w3) := B2.out.trans (b3.mono B2.out.size)
    clear b3 B2 y0 y1
    obtain ⟨h3, -, -⟩ := HH.out _ B3.out
    obtain ⟨-, -, -, c13, -, -, -, -⟩ := h3.cells
    obtain ⟨g1, k1, e1, -, -, q3⟩ := h3.at HE.out
    rw [e1] at c13
    simp only at q3
    clear h3 e1
    go_wp2
    go_ret
    exact ⟨rfl, by rw [HXE.out]; exact HB.out.1.trans (B3.out.mono (Nat.le_of_lt HB.out.2))⟩
end
end Go.Proofs.YtmllocfeflhjoaaGreat

namespace Go.Proofs.YtmllocfeflhjoaaGreat
open Go.RowKit Go.Maps Go.Shelf Go.Sort
open Go.Proofs.YtmllocfeflhjoaaGreat.St (Fx Fz iQ iP iV)
set_option linter.unusedVariables false
set_option linter.unusedSimpArgs false
set_option maxRecDepth 100000
set_option maxHeartbeats 8000000
section
variable {W0 w w' : World} {tb : Tb} {v : Ts} {P : Nat} {a b : Value} {L : Tks} {i : List Bool} {g : Gt}
def anyK (l : List Int) (r : Int) (k : Nat) : Bool := (l.take k).any (fun x => x == r)
theorem anyK_step {l : List Int} {r : Int} {k : Nat} {y : Int} (h : l[k]? = some y) : anyK l r (k + 1) = (anyK l r k || (y == r)) := by
  unfold anyK
  rw [List.take_add_one, h]
  simp
theorem dGet_bar (h : Dl W0 w tb v P a b L i g) (o : Own) (r : Int) (hr : asks tb o r = true) {q : Ob} (hq : obs tb o = some q) (hn : hdr L r ≠ none ∨ q.own.any (fun x => x == r) = false) : Calls Tryz.prog 43 #[lp P, .agg #[.bool o.isr, I o.id], I r] w fun e w' => e = .returned (I 1) ∧ Below w.heap.size w w' := by
  have hb := below_alloc w (.cells #[.bool o.isr, I o.id] 23)
  obtain ⟨y0, y1⟩ := box_own w o
  have h1 := h.below hb
  have hT := dKnown h1 o r
  rw [hr] at hT
  have hl : L.length ≤ 65 := h.m
  have HB : Hid (Below w.heap.size w (w.alloc (.cells #[.bool o.isr, I o.id] 23)) ∧ w.heap.size < (w.alloc (.cells #[.bool o.isr, I o.id] 23)).heap.size) := ⟨hb, by simp⟩
  have HQ : Hid (obs tb o = some q ∧ (hdr L r ≠ none ∨ q.own.any (fun x => x == r) = false)) := ⟨hq, hn⟩
  have hol : q.own.length ≤ 65 := own_len h.tk hq
  clear h hb hr hn hq
  go_enter Tryz.func43, Tryz.ntmps43
  go_upto_region 1 with fail
  generalize w.alloc (.cells #[.bool o.isr, I o.id] 23) = w1 at *
  generalize hXe : w.heap.size = X at *
  have HXE : Hid (w.heap.size = X) := hXe
  clear hXe
  have HH : Hid (∀ W, Below w1.heap.size w1 W → Dl W0 W tb v P a b L i g ∧ W.cell? ⟨X, 0, none⟩ = some (.bool o.isr) ∧ W.cell? ⟨X, 1, none⟩ = some (I o.id)) := fun W hW => ⟨h1.below hW, (cell_below hW _ _ HB.out.2).trans y0, (cell_below hW _ _ HB.out.2).trans y1⟩
  clear h1
  go_upto_region 3 with (first | (go_at_call 86; refine hT.mono ?_; clear hT; rintro e w2 ⟨rfl, b2⟩))
  clear y0 y1
  obtain ⟨h2, y0, y1⟩ := HH.out _ b2
  have hBa := dBase h2 HQ.out.1
  have B2 : Hid (Below w1.heap.size w1 w2) := b2
  clear h2 b2
  go_upto_region 4 with (first | (go_at_call 87; refine hBa.mono ?_; clear hBa; rintro e w3 ⟨sl, rfl, hR, b3⟩))
  have B3 : Hid (Below w1.heap.size w1 w3) := B2.out.trans (b3.mono B2.out.size)
  have hsn : sl.n = q.own.length := hR.n
  have HRw : Hid (RowsAt w3 1 intP sl q.own) := hR
  have hsl : sl.n ≤ 65 := by omega
  have HSN : Hid (sl.n = q.own.length) := hsn
  clear b3 B2 y0 y1 hR hsn hol
  go_wp2
  go_loopw [9, 10] (fun v9 v10 wr => ∃ k : Nat, k ≤ sl.n ∧ v9 = .bool (anyK q.own r k) ∧ v10 = I k ∧ w3 = wr) (fun _ v10 _ => sl.n - (intOf v10).toNat)
  case atStart => exact ⟨0, by omega, rfl, rfl, rfl⟩
  case round =>
    obtain ⟨k, hk, rfl, rfl, rfl⟩ := hrel
    by_cases hlt : k < sl.n
    · have hltI : (k : Int) < sl.n := by omega
      obtain ⟨y, hy⟩ : ∃ y, q.own[k]? = some y := ⟨_, List.getElem?_eq_getElem (by have := HSN.out; omega)⟩
      obtain ⟨gg, off, e, -, hr⟩ := HRw.out.row k y hy
      obtain ⟨u0, a0, c0⟩ := hr 0 (by omega)
      have e0 : u0 = I y := c0
      rw [e0] at a0
      simp only [Nat.mul_one, Nat.add_zero] at a0
      have HS := anyK_step (r := r) hy
      cases hz : anyK q.own r k with
      | true =>
        rw [hz] at HS
        have HS1 : Hid (anyK q.own r (k + 1) = true) := by show _ = _; rw [HS]; rfl
        clear HS hy hr c0 e0 a0
        go_wp2
        go_roundw
        case rel => exact ⟨k + 1, by omega, by rw [HS1.out], by go_num, by first | exact trivial | exact rfl⟩
        case measure => simp [intOf]; omega
      | false =>
        rw [hz, Bool.false_or] at HS
        have HS1 : Hid (anyK q.own r (k + 1) = (y == r)) := HS
        clear HS hy hr c0 e0
        rw [e]
        go_wp2
        go_roundw
        case rel => exact ⟨k + 1, by omega, by rw [HS1.out], by go_num, by first | exact trivial | exact rfl⟩
        case measure => simp [intOf]; omega
    · obtain rfl : k = sl.n := by omega
      have hge : ¬ ((sl.n : Int) < sl.n) := by omega
      have hA : anyK q.own r sl.n = q.own.any (fun x => x == r) := by unfold anyK; rw [HSN.out, List.take_length]
      have HBl : Hid (Below w.heap.size w w3) := by
        show Below _ _ _
        rw [HXE.out]
        exact HB.out.1.trans (B3.out.mono (Nat.le_of_lt HB.out.2))
      cases hz : anyK q.own r sl.n with
      | false =>
        clear hA
        go_wp2
        go_ret
        exact ⟨rfl, HBl.out⟩
      | true =>
        have hH : hdr L r ≠ none := by
          rcases HQ.out.2 with h | h
          · exact h
          · rw [← hA, hz] at h; cases h
        have hHo := dHolderI (HH.out _ B3.out).1 r
        obtain ⟨m, hm⟩ : ∃ m : Nat, plR L r = (m : Int) := by
          rcases pl_hdr r L 0 with ⟨h, -⟩ | ⟨k, o, -, -, h3⟩
          · exact absurd h hH
          · exact ⟨_, by unfold plR; rw [h3, Nat.zero_add]⟩
        rw [hm] at hHo
        have hm0 : (0 : Int) ≤ m := by omega
        clear hA hH hm
        go_wp2_with (first | (go_at_call 88; refine hHo.mono ?_; clear hHo; rintro e w4 ⟨rfl, rfl⟩))
        go_ret
        exact ⟨rfl, HBl.out⟩
end
end Go.Proofs.YtmllocfeflhjoaaGreat

namespace Go.Proofs.YtmllocfeflhjoaaGreat
open Go.RowKit Go.Maps Go.Shelf Go.Sort
open Go.Proofs.YtmllocfeflhjoaaGreat.St (Fx Fz iQ iP iV)
set_option linter.unusedVariables false
set_option linter.unusedSimpArgs false
set_option maxRecDepth 100000
set_option maxHeartbeats 8000000
theorem step_append_at19 {P : Program} {ops : Array Oper} {o : Oper} {a : Act} {w : World} {K : Act → World → Prop} {Q : Exit → Act → World → Prop} {F : Prop}
    (hgd : o.guard = none) (s x : Operand) (t : TypeId) (ho : o.op = .call { callee := .builtin .append, args := #[s, x], argTypes := #[t, t] })
    (base : Nat) (e : TypeId) (i : TypeInfo) (z : Value) (size bytes : Nat) (ht : P.underlying t = some (.slice e)) (hi : P.info? e = some i) (hz : i.zero = some z)
    (hsize : i.size = size) (hby : i.bytes = bytes) (hzs : z.cells.size = size) (hsz : 0 < size)
    (v : Value) (n : Nat) (xs : List Value) (hs : a.eval s = v) (hown : w.ownsRow base e size v n xs)
    (ad : Addr) (m c : Nat) (news : List Value) (hx : a.eval x = .slice (some ad) m c) (hl : news.length = m * size) (hnews : ∀ j u, news[j]? = some u → w.cell? (ad.add j) = some u) (h1 : ∀ u ∈ news, u.oneCell' = true)
    (h63 : n + m ≤ maxLen) (hbytes : (n + m) * bytes ≤ 140737488355328) (hbase : base ≤ w.heap.size)
    (h : ∀ v' w', w'.ownsRow base e size v' (n + m) (xs ++ news) → w.grownBy w' v.ownBlock → (v'.ownBlock = v.ownBlock ∨ v'.ownBlock = some w.heap.size) → K (a.put o.dst v') w') :
    if Region.wanted o (yielded ops a.tmps) = true then Oper.wp P o a w K Q else F := by
  have hw : Region.wanted o (yielded ops a.tmps) = true := by simp [Region.wanted, hgd]
  rw [if_pos hw]
  obtain ⟨v', w', hr, h2, h3, h4, h5⟩ := run_append_own_at (P := P) w base t o.type e i z size bytes ht hi hz hsize hby hzs hsz v n xs hown ad m c news hl hnews h1 h63 hbytes hbase
  unfold Oper.wp execOp
  simp only [ho, resolve, invoke, builtin, Sem.run_bind, Sem.run_pure, Result.andThen_ok, List.map_toArray, List.map_cons, List.map_nil, hs, hx, hr]
  exact h v' w' h2 h3 h5
theorem fz_own19 {w w' : World} {v : Value} (h : w.grownBy w' v.ownBlock) : Fz (fun x => v.ownBlock = some x) w w' := ⟨h.os, h.tape, h.output, h.size, fun b hb hne => h.block b hb (fun e => hne e.symm)⟩
section
variable {W0 w w' : World} {tb : Tb} {v : Ts} {P : Nat} {a b : Value} {L : Tks} {i : List Bool} {g : Gt}
theorem Dl.mid (h : Dl W0 w tb v P a b L i g) {w2 : World} (hf : Fz (fun x => a.ownBlock = some x) w w2) : w2.heap[P]? = some (.cells (dC tb v a b g) 82) := hf.heap h.o (fun e => own_neP h.q h.o (by decide) e)
/-- takes are laid anew, or grow where they lie -/
theorem Dl.app (h : Dl W0 w tb v P a b L i g) {w2 : World} (hf : Fz (fun x => a.ownBlock = some x) w w2) {a' : Value} {L' : Tks} (ha : w2.ownsRow W0.heap.size 134 3 a' L'.length (flT L')) (hm : L'.length ≤ 65) : Dl W0 (w2.setCell ⟨P, 13, none⟩ a') tb v P a' b L' i g ∧ Fz (Dm P a b) w (w2.setCell ⟨P, 13, none⟩ a') := by
  have ho := h.mid hf
  have fs := fz_set w2 P 13 a'
  have b1 := h.lo.trans (hf.below h.lo.size (fun x e => (h.q.lt x e).1))
  have hr := hf.own h.r (fun x e e2 => own_ne19 h.r h.q (by decide) e e2)
  refine ⟨⟨heap_setCell_same w2 P 13 _ _ a' ho, h.t0, b1.trans (fs.below b1.size (fun x e => by rw [e]; exact h.p)), h.p, h.tk, fs.own ha (fun x e e2 => own_neP ha ho (by decide) (by rw [← e2]; exact e)), fs.own hr (fun x e e2 => own_neP hr ho (by decide) (by rw [← e2]; exact e)), h.n, hm⟩, ?_⟩
  exact (hf.mono (fun x e => .inr (.inl e))).trans (fs.mono (fun x e => .inl e))
end
end Go.Proofs.YtmllocfeflhjoaaGreat

namespace Go.Proofs.YtmllocfeflhjoaaGreat
open Go.RowKit Go.Maps Go.Shelf Go.Sort
open Go.Proofs.YtmllocfeflhjoaaGreat.St (Fx Fz iQ iP iV)
set_option linter.unusedVariables false
set_option linter.unusedSimpArgs false
set_option maxRecDepth 100000
set_option maxHeartbeats 8000000
section
variable {W0 w w' : World} {tb : Tb} {v : Ts} {P : Nat} {a b : Value} {L : Tks} {i : List Bool} {g : Gt}
theorem dGet_ok (h : Dl W0 w tb v P a b L i g) (o : Own) (r : Int) (hr : asks tb o r = true) {q : Ob} (hq : obs tb o = some q) (hn : hdr L r = none) (hm : q.own.any (fun x => x == r) = true) (hL : L.length + 1 ≤ 65) : Calls Tryz.prog 43 #[lp P, .agg #[.bool o.isr, I o.id], I r] w fun e w' => e = .returned (I 0) ∧ (∃ a', Dl W0 w' tb v P a' b (L ++ [(o, r)]) i g ∧ ∀ x, Dm P a' b x → Dm P a b x ∨ w.heap.size ≤ x) ∧ Fz (Dm P a b) w w' := by
  obtain ⟨i0, hi0, hz0, hz1, hz2⟩ := info_parts tinfo19
  obtain ⟨z, rn, rfl, hz, hpz⟩ : ∃ (z : RsR) (rn : Nat), r = (rn : Int) ∧ tb.ress[rn]? = some z ∧ q.prio ≤ z.ceil := by
    obtain ⟨x, hx, e⟩ := List.any_eq_true.1 hm
    have e' : x = r := by simpa using e
    subst e'
    obtain ⟨h0, z, h1, h2, h3⟩ := (h.tk.own o q hq).2 x hx
    exact ⟨z, x.toNat, by omega, h1, h3⟩
  obtain ⟨a2, cc, rfl⟩ := own_slk19 h.q
  have hb := below_alloc w (.cells #[.bool o.isr, I o.id] 23)
  obtain ⟨y0, y1⟩ := box_own w o
  have h1 := h.below hb
  have hT := dKnown h1 o rn
  rw [hr] at hT
  have hl : L.length ≤ 65 := h.m
  have HB : Hid (Below w.heap.size w (w.alloc (.cells #[.bool o.isr, I o.id] 23)) ∧ w.heap.size < (w.alloc (.cells #[.bool o.isr, I o.id] 23)).heap.size) := ⟨hb, by simp⟩
  have HQ : Hid (obs tb o = some q ∧ hdr L rn = none ∧ q.own.any (fun x => x == (rn : Int)) = true) := ⟨hq, hn, hm⟩
  have HZ : Hid (tb.ress[rn]? = some z) := hz
  have hol : q.own.length ≤ 65 := own_len h.tk hq
  clear h hb hr hn hq hm hz
  go_enter Tryz.func43, Tryz.ntmps43
  go_upto_region 1 with fail
  generalize w.alloc (.cells #[.bool o.isr, I o.id] 23) = w1 at *
  generalize hXe : w.heap.size = X at *
  have HXE : Hid (w.heap.size = X) := hXe
  clear hXe
  have HH : Hid (∀ W, Below w1.heap.size w1 W → Dl W0 W tb v P (.slice a2 L.length cc) b L i g ∧ W.cell? ⟨X, 0, none⟩ = some (.bool o.isr) ∧ W.cell? ⟨X, 1, none⟩ = some (I o.id)) := fun W hW => ⟨h1.below hW, (cell_below hW _ _ HB.out.2).trans y0, (cell_below hW _ _ HB.out.2).trans y1⟩
  clear h1
  go_upto_region 3 with (first | (go_at_call 86; refine hT.mono ?_; clear hT; rintro e w2 ⟨rfl, b2⟩))
  clear y0 y1
  obtain ⟨h2, y0, y1⟩ := HH.out _ b2
  have hBa := dBase h2 HQ.out.1
  have B2 : Hid (Below w1.heap.size w1 w2) := b2
  clear h2 b2
  go_upto_region 4 with (first | (go_at_call 87; refine hBa.mono ?_; clear hBa; rintro e w3 ⟨sl, rfl, hR, b3⟩))
  have B3 : Hid (Below w1.heap.size w1 w3) := B2.out.trans (b3.mono B2.out.size)
  have hsn : sl.n = q.own.length := hR.n
  have HRw : Hid (RowsAt w3 1 intP sl q.own) := hR
  have hsl : sl.n ≤ 65 := by omega
  have HSN : Hid (sl.n = q.own.length) := hsn
  clear b3 B2 y0 y1 hR hsn hol
  go_wp2
  go_loopw [9, 10] (fun v9 v10 wr => ∃ k : Nat, k ≤ sl.n ∧ v9 = .bool (anyK q.own rn k) ∧ v10 = I k ∧ w3 = wr) (fun _ v10 _ => sl.n - (intOf v10).toNat)
  case atStart => exact ⟨0, by omega, rfl, rfl, rfl⟩
  case round =>
    obtain ⟨k, hk, rfl, rfl, rfl⟩ := hrel
    by_cases hlt : k < sl.n
    · have hltI : (k : Int) < sl.n := by omega
      obtain ⟨y, hy⟩ : ∃ y, q.own[k]? = some y := ⟨_, List.getElem?_eq_getElem (by have := HSN.out; omega)⟩
      obtain ⟨gg, off, e, -, hr⟩ := HRw.out.row k y hy
      obtain ⟨u0, a0, c0⟩ := hr 0 (by omega)
      have e0 : u0 = I y := c0
      rw [e0] at a0
      simp only [Nat.mul_one, Nat.add_zero] at a0
      have HS := anyK_step (r := rn) hy
      cases hz : anyK q.own rn k with
      | true =>
        rw [hz] at HS
        have HS1 : Hid (anyK q.own rn (k + 1) = true) := by show _ = _; rw [HS]; rfl
        clear HS hy hr c0 e0 a0
        go_wp2
        go_roundw
        case rel => exact ⟨k + 1, by omega, by rw [HS1.out], by go_num, by first | exact trivial | exact rfl⟩
        case measure => simp [intOf]; omega
      | false =>
        rw [hz, Bool.false_or] at HS
        have HS1 : Hid (anyK q.own rn (k + 1) = (y == (rn : Int))) := HS
        clear HS hy hr c0 e0
        rw [e]
        go_wp2
        go_roundw
        case rel => exact ⟨k + 1, by omega, by rw [HS1.out], by go_num, by first | exact trivial | exact rfl⟩
        case measure => simp [intOf]; omega
    · obtain rfl : k = sl.n := by omega
      have hge : ¬ ((sl.n : Int) < sl.n) := by omega
      have hA : anyK q.own rn sl.n = true := by unfold anyK; rw [HSN.out, List.take_length]; exact HQ.out.2.2
      rw [hA]
      have h3 := (HH.out _ B3.out).1
      have hHo := dHolderI h3 rn
      have hpl : plR L rn = -1 := by
        rcases pl_hdr rn L 0 with ⟨-, h⟩ | ⟨k, o, -, h, -⟩
        · exact h
        · rw [HQ.out.2.1] at h; cases h
      rw [hpl] at hHo
      clear hA hpl
      obtain ⟨-, c4, -, -, -, -, -, -⟩ := h3.cells
      obtain ⟨gr, offr, er, -, -, zr⟩ := rsr_at h3.t HZ.out
      rw [er] at c4
      have hrl : (rn : Int) < v.r.n := by have := (List.getElem?_eq_some_iff.1 HZ.out).1; have := h3.ns; omega
      have hnp : ¬ (z.ceil < q.prio) := by omega
      clear h3 er
      go_upto_region 11 with (first | (go_at_call 88; refine hHo.mono ?_; clear hHo; rintro e w4 ⟨rfl, rfl⟩))
      clear c4 zr hnp hrl
      obtain ⟨h3, y0, y1⟩ := HH.out _ B3.out
      obtain ⟨-, -, -, c13, -, -, -, -⟩ := h3.cells
      have fr := h3.frz 13
      have c13a : ∀ o', (w3.alloc o').cell? ⟨P, 13, none⟩ = some (.slice a2 L.length cc) := fun o' => ((h3.below (below_alloc w3 o')).cells).2.2.2.1
      have Kd := h3.below ((Below.refl _ w3).drew)
      have hs3 : W0.heap.size ≤ w3.heap.size := h3.lo.size
      go_region_law (first
        | (refine step_append_at19 rfl (.tmp 62) (.tmp 66) 80 rfl W0.heap.size 134 i0 (.agg #[.bool false, .int .i64 0, .int .i64 0]) 3 24 Tryz.underlying80 hi0 hz0 hz1 hz2 rfl (by decide) (.slice a2 L.length cc) L.length (flT L) (by simp [Act.eval, Act.put]) (by first | exact own_below Kd.q (below_alloc _ _) | exact own_below h3.q ((below_alloc _ _).drew)) ⟨w3.heap.size, 0, none⟩ 1 1 [.bool o.isr, I o.id, I rn] (by simp [Act.eval, Act.put]) rfl (by first | exact cell_three19 _ _ _ _ _ | exact fun j u hu => cell_three19 w3 _ _ _ _ j u hu) (by simp [Value.oneCell']) (by unfold maxLen; omega) (by omega) (by simp; omega) ?_; intro v4 w4 h4 hg4 hat4; obtain ⟨a4, k4, rfl⟩ := own_slk19 h4; have F4 : Fz (fun x => (Value.slice a2 L.length cc).ownBlock = some x) w3 w4 := (by first | exact (((Fz.refl _ w3).drewN 1).alloc _).trans (fz_own19 hg4) | exact (((Fz.refl _ w3).alloc _).drewN 1).trans (fz_own19 hg4)); have hq := h3.mid F4; have q1 : w4.frozen? ⟨P, 13, none⟩ = false := frozen_of_row w4 _ _ _ _ hq; have q2 : w4.cell? ⟨P, 13, none⟩ = some (.slice a2 L.length cc) := (by rw [cell_of_row w4 _ _ _ _ (0, 0) hq]; rfl); have HY : Hid _ := h3.app F4 (L' := L ++ [(o, (rn : Int))]) (by rw [flT_app, List.length_append]; exact h4) (by simp; omega); have HA : Hid _ := hat4; clear h4 hg4 F4 hq hat4))
      all_goals
        clear h3 y0 y1 c13 c13a fr Kd
        go_wp2
        go_ret
        refine ⟨rfl, ⟨_, HY.out.1, ?_⟩, ?_⟩
        · rintro x (e | e | e)
          · exact .inl (.inl e)
          · rcases HA.out with e2 | e2
            · exact .inl (.inr (.inl (by rw [← e2]; exact e)))
            · rw [e2] at e
              have hx := Option.some.inj e
              refine .inr ?_
              have hsz := B3.out.size
              have hX := HB.out.2
              have he := HXE.out
              simp at hx
              omega
          · exact .inl (.inr (.inr e))
        · exact (Fz.of_below (by rw [HXE.out]; exact HB.out.1.trans (B3.out.mono (Nat.le_of_lt HB.out.2)))).trans HY.out.2
end
end Go.Proofs.YtmllocfeflhjoaaGreat

namespace Go.Proofs.YtmllocfeflhjoaaGreat
open Go.RowKit Go.Maps Go.Shelf Go.Sort
open Go.Proofs.YtmllocfeflhjoaaGreat.St (Fx Fz iQ iP iV)
set_option linter.unusedVariables false
set_option linter.unusedSimpArgs false
set_option maxRecDepth 100000
set_option maxHeartbeats 8000000
theorem nodR_at : ∀ {L : Tks} {j : Nat} {o : Own} {r : Int}, L[j]? = some (o, r) → (L.map (·.2)).Nodup → nodR L r = L.take j ++ L.drop (j + 1)
  | t :: l, 0, o, r, h, nd => by
    have e : t = (o, r) := by simpa using h
    subst e
    have h2 : r ∉ l.map (·.2) := (List.nodup_cons.1 nd).1
    have : nodR l r = l := List.filter_eq_self.2 (fun x hx => by simpa using fun e => h2 (List.mem_map.2 ⟨x, hx, e⟩))
    show List.filter _ _ = _
    rw [List.filter_cons, if_neg (by simp)]
    show nodR l r = _
    rw [this]
    simp
  | t :: l, j + 1, o, r, h, nd => by
    have h1 : l[j]? = some (o, r) := by simpa using h
    have h2 : t.2 ∉ l.map (·.2) := (List.nodup_cons.1 nd).1
    have hne : t.2 ≠ r := fun e => h2 (List.mem_map.2 ⟨(o, r), List.mem_of_getElem? h1, e.symm⟩)
    have ih := nodR_at h1 (List.nodup_cons.1 nd).2
    show List.filter _ _ = _
    rw [List.filter_cons, if_pos (by simpa using hne)]
    show t :: nodR l r = _
    rw [ih]
    simp
theorem flT_pre {L : Tks} {j k : Nat} {u : Value} (h : (flT (L.take j))[k]? = some u) : (flT L)[k]? = some u := by
  have e : flT L = flT (L.take j) ++ flT (L.drop j) := by rw [← flT_app, List.take_append_drop]
  rw [e, List.getElem?_append_left (List.getElem?_eq_some_iff.1 h).1]
  exact h
theorem flT_suf {L : Tks} {j k : Nat} {u : Value} (hj : j ≤ L.length) (h : (flT (L.drop j))[k]? = some u) : (flT L)[j * 3 + k]? = some u := by
  have e : flT L = flT (L.take j) ++ flT (L.drop j) := by rw [← flT_app, List.take_append_drop]
  have e2 : (flT (L.take j)).length = j * 3 := by rw [flT_len, List.length_take, Nat.min_eq_left hj]
  rw [e, List.getElem?_append_right (by omega), show j * 3 + k - (flT (L.take j)).length = k by omega]
  exact h
theorem flT_one : ∀ (L : Tks), ∀ u ∈ flT L, u.oneCell' = true
  | [], u, h => by cases h
  | t :: l, u, h => by
    simp only [flT, List.mem_cons] at h
    rcases h with rfl | rfl | rfl | h
    · rfl
    · rfl
    · rfl
    · exact flT_one l u h
section
variable {W0 w w' : World} {tb : Tb} {v : Ts} {P : Nat} {a b : Value} {L : Tks} {i : List Bool} {g : Gt}
theorem Dl.flat {a2 : Option Addr} {cc g1 : Nat} (h : Dl W0 w tb v P (.slice (some ⟨g1, 0, none⟩) L.length cc) b L i g) (j : Nat) (u : Value) (hu : (flT L)[j]? = some u) : w.cell? ⟨g1, j, none⟩ = some u := by
  have := h.q.cells rfl j u hu
  rwa [St.addr_add, Nat.zero_add] at this
theorem dRelease_ok (h : Dl W0 w tb v P a b L i g) (o : Own) (r : Int) (hr : asks tb o r = true) {xs : List Int} (ho : hld L o = xs ++ [r]) (nd : (L.map (·.2)).Nodup) : Calls Tryz.prog 44 #[lp P, .agg #[.bool o.isr, I o.id], I r] w fun e w' => e = .returned (I 0) ∧ (∃ a', Dl W0 w' tb v P a' b (nodR L r) i g ∧ ∀ x, a'.ownBlock = some x → w.heap.size ≤ x) ∧ Fz (fun x => x = P) w w' := by
  obtain ⟨i0, hi0, hz0, hz1, hz2⟩ := info_parts tinfo19
  have hb := below_alloc w (.cells #[.bool o.isr, I o.id] 23)
  obtain ⟨y0, y1⟩ := box_own w o
  have h1 := h.below hb
  have hT := dKnown h1 o r
  rw [hr] at hT
  have hl : L.length ≤ 65 := h.m
  have hW0 : W0.heap.size ≤ w.heap.size := h.lo.size
  have HB : Hid (Below w.heap.size w (w.alloc (.cells #[.bool o.isr, I o.id] 23)) ∧ w.heap.size < (w.alloc (.cells #[.bool o.isr, I o.id] 23)).heap.size ∧ W0.heap.size ≤ w.heap.size) := ⟨hb, by simp, hW0⟩
  obtain ⟨j, hj0, hj1, hj2⟩ : ∃ j : Nat, laK o L L.length = (j : Int) ∧ j < L.length ∧ L[j]? = some (o, r) := by
    rcases la_hld o L L.length (Nat.le_refl _) with ⟨h, -⟩ | ⟨j, r', xs', h1, h2, h3, h4⟩
    · rw [List.take_length, ho] at h; simp at h
    · rw [List.take_length, ho] at h4
      have := (List.append_inj' h4 rfl).2
      simp at this
      exact ⟨j, h2, h1, by rw [h3, this]⟩
  have HN : Hid (nodR L r = L.take j ++ L.drop (j + 1)) := nodR_at hj2 nd
  clear h hb hr ho nd hW0
  go_enter Tryz.func44, Tryz.ntmps44
  go_upto_region 1 with fail
  generalize w.alloc (.cells #[.bool o.isr, I o.id] 23) = w1 at *
  generalize hXe : w.heap.size = X at *
  have HXE : Hid (w.heap.size = X) := hXe
  clear hXe
  have HH : Hid (∀ W, Below w1.heap.size w1 W → Dl W0 W tb v P a b L i g ∧ W.cell? ⟨X, 0, none⟩ = some (.bool o.isr) ∧ W.cell? ⟨X, 1, none⟩ = some (I o.id)) := fun W hW => ⟨h1.below hW, (cell_below hW _ _ HB.out.2.1).trans y0, (cell_below hW _ _ HB.out.2.1).trans y1⟩
  clear h1
  go_upto_region 3 with (first | (go_at_call 86; refine hT.mono ?_; clear hT; rintro e w2 ⟨rfl, b2⟩))
  clear y0 y1
  obtain ⟨h2, y0, y1⟩ := HH.out _ b2
  have hLa := dLast h2 o
  have B2 : Hid (Below w1.heap.size w1 w2) := b2
  clear h2 b2
  rw [hj0] at hLa
  have hjn : ¬ ((j : Int) < 0) := by omega
  have hjI : (j : Int) < L.length := by omega
  have HE : Hid (L[j]? = some (o, r)) := hj2
  clear hj0 hj2
  go_upto_region 4 with (first | (go_at_call 89; refine hLa.mono ?_; clear hLa; rintro e w3 ⟨rfl, b3⟩))
  have B3 : Hid (Below w1.heap.size w1 w3) := B2.out.trans (b3.mono B2.out.size)
  clear b3 B2 y0 y1
  obtain ⟨h3, -, -⟩ := HH.out _ B3.out
  obtain ⟨g1, k1, e1, -, -, q3⟩ := h3.at HE.out
  subst e1
  obtain ⟨-, -, -, c13, -, -, -, -⟩ := h3.cells
  simp only at q3
  have hcc : L.length ≤ k1 := by
    rcases h3.q.2 with ⟨h, -⟩ | ⟨g, cap, cur, h, hh⟩
    · cases h
    · cases h; exact hh.2.2.1
  have HF1 : Hid (∀ (j' : Nat) (u : Value), (flT L)[j']? = some u → w3.cell? ⟨g1, j', none⟩ = some u) := fun j' u hu => h3.flat (a2 := none) j' u hu
  clear h3
  go_upto_region 7 with fail
  go_upto_region 8 with (first | (at_builtin; refine wpList_append_own _ rfl (.tmp 31) (.tmp 37) 80 rfl w1.heap.size 134 i0 (.agg #[.bool false, .int .i64 0, .int .i64 0]) 3 24 Tryz.underlying80 hi0 hz0 hz1 hz2 rfl (by decide) (.slice none 0 0) 0 [] rfl (World.ownsRow_nil _ _ _ _) ⟨g1, 0, none⟩ j k1 (flT (L.take j)) (by simp [Act.eval, Act.put]) (by rw [flT_len, List.length_take, Nat.min_eq_left (by omega)]) (fun k u hu => by rw [St.addr_add, Nat.zero_add]; exact HF1.out k u (flT_pre hu)) (flT_one _) (by unfold maxLen; omega) (by omega) B3.out.size ?_; intro v' w' hown' hgrow hnil; rw [Nat.zero_add, List.nil_append] at hown'; have B4 : Hid (Below w1.heap.size w1 w') := B3.out.grown hgrow B3.out.size (fun k e => by cases e); obtain ⟨a5, k5, rfl⟩ := own_slk19 hown'; have HO : Hid (w'.ownsRow w1.heap.size 134 3 (.slice a5 j k5) j (flT (L.take j))) := hown'; clear hown' hgrow hnil))
  clear c13 q3
  obtain ⟨h4, -, -⟩ := HH.out _ B4.out
  obtain ⟨-, -, -, c13, -, -, -, -⟩ := h4.cells
  have HF2 : Hid (∀ (j' : Nat) (u : Value), (flT L)[j']? = some u → w'.cell? ⟨g1, j', none⟩ = some u) := fun j' u hu => h4.flat (a2 := none) j' u hu
  clear h4
  have hj2 : ((j : Int) + 1) ≤ L.length := by omega
  obtain ⟨ad, HAd, HCl⟩ : ∃ ad : Addr, Hid (ad = if k1 = j + 1 then (⟨g1, 0, none⟩ : Addr) else ⟨g1, (j + 1) * 3, none⟩) ∧ Hid (∀ (k : Nat) (u : Value), (flT (L.drop (j + 1)))[k]? = some u → w'.cell? (ad.add k) = some u) := by
    refine ⟨_, rfl, ?_⟩
    intro k u hu
    by_cases hk : k1 = j + 1
    · have : L.drop (j + 1) = [] := List.drop_eq_nil_of_le (by omega)
      rw [this] at hu
      cases hu
    · rw [if_neg hk, St.addr_add]
      exact HF2.out _ u (flT_suf (by omega) hu)
  go_upto_region 9 with (first | (at_builtin; refine wpList_append_own _ rfl (.tmp 40) (.tmp 47) 80 rfl w1.heap.size 134 i0 (.agg #[.bool false, .int .i64 0, .int .i64 0]) 3 24 Tryz.underlying80 hi0 hz0 hz1 hz2 rfl (by decide) (.slice a5 j k5) j (flT (L.take j)) rfl HO.out ad (L.length - (j + 1)) (k1 - (j + 1)) (flT (L.drop (j + 1))) (by have e := HAd.out; simp [Act.eval, Act.put, e]; split <;> rfl) (by rw [flT_len, List.length_drop]) HCl.out (flT_one _) (by unfold maxLen; omega) (by omega) B4.out.size ?_; intro v2 w5 hown2 hgrow2 hnil2; have B5 := B4.out.grown hgrow2 B4.out.size (fun k e => (HO.out.lt k e).1); obtain ⟨h5, -, -⟩ := HH.out _ B5; obtain ⟨a8, k8, rfl⟩ := own_slk19 hown2; obtain ⟨-, -, -, c13', -, -, -, -⟩ := h5.cells; have fr' := h5.frz 13; have hj3 : j + (L.length - (j + 1)) = (nodR L r).length := (by rw [HN.out, List.length_append, List.length_take, List.length_drop, Nat.min_eq_left (by omega)]); have hw2 : w5.ownsRow w1.heap.size 134 3 (.slice a8 (j + (L.length - (j + 1))) k8) (nodR L r).length (flT (nodR L r)) := (by rw [← hj3, HN.out, flT_app]; exact hown2); have HF : Hid _ := h5.setL (own_down19 (by have := HB.out; omega) hw2) (by omega); have HKb : Hid (∀ x, (Value.slice a8 (j + (L.length - (j + 1))) k8).ownBlock = some x → X ≤ x) := (fun x e => by have := (hw2.lt x e).1; have := HB.out; omega); have HBl : Hid (Below X w w5) := HB.out.1.trans (B5.mono (Nat.le_of_lt HB.out.2.1)); clear h5 hown2 hgrow2 hnil2 B5 hj3 hw2))
  go_wp2
  all_goals
    go_ret
    rw [HXE.out]
    refine ⟨rfl, ⟨_, HF.out.1, HKb.out⟩, ?_⟩
    exact (Fz.of_below (by rw [HXE.out]; exact HBl.out)).trans HF.out.2
end
end Go.Proofs.YtmllocfeflhjoaaGreat

