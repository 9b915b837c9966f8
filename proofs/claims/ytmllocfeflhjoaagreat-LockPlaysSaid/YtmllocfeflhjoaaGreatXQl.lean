import Derived.RangeFuncNested
import Derived.RangeFuncBound
import Derived.RangeFuncCalls
import Derived.RangeFuncLeaves
import Derived.RangeFuncBox
import Derived.Shelf.Abstract
import Derived.Shelf.RegionOpen
import Derived.WalkKit
import Derived.OwnWalkIn
import Derived.TacticsInMore
import Derived.LoopNIn
import Derived.LoopIn
import Derived.Maps.OwnIn
import Derived.Maps.AppendAt
import Derived.Test.YtmllocfeflhjoaaGreatXQda
import Derived.Test.YtmllocfeflhjoaaGreatXZitl
import Derived.Deep.RegionLaw
namespace Go.Proofs.YtmllocfeflhjoaaGreat
open Go.RowKit Go.Maps Go.Shelf Go.Sort
open Go.Proofs.YtmllocfeflhjoaaGreat.St (Fx Fz iQ iP iV)
set_option linter.unusedVariables false
set_option linter.unusedSimpArgs false

attribute [local go_sem] Oper.semAt_some

/-! ### Collect, Reverse, Held -/
theorem iinfo9 : (Tryz.prog.info? 3).map (fun i => (i.zero, i.size, i.bytes)) = some (some (.int .i64 0), 1, 8) := by kernel_rfl
theorem cell_one9 (w : World) (v : Value) (t : TypeId) : ∀ (j : Nat) (u : Value), [v][j]? = some u → (w.alloc (.cells #[v] t)).cell? ((⟨w.heap.size, 0, none⟩ : Addr).add j) = some u := by
  intro j u hu
  match j, hu with
  | 0, hu => cases hu; rw [St.addr_add]; rw [cell_of_row _ _ _ _ _ (0, 0) (heap_alloc_new w _)]; rfl
abbrev seqV (Bn : Nat) : Value := .func (.func 94) #[] #[.pointer (some ⟨Bn, 0, none⟩)]
set_option maxRecDepth 100000 in
set_option maxHeartbeats 4000000 in
theorem appendSeq_any (w : World) (Bn B g m hi : Nat) (xs : List Int) (hBn : w.cell? ⟨Bn, 0, none⟩ = some (iP B)) (hL : iQ w B g m hi xs.reverse) : Calls Tryz.prog 93 #[.slice none 0 0, seqV Bn] w fun e w' => ∃ v, e = .returned v ∧ w'.ownsRow w.heap.size 3 1 v xs.length (iV xs) ∧ Below w.heap.size w w' := by
  obtain ⟨i0, hi0, hz0, hz1, hz2⟩ := info_parts iinfo9
  have hse := St.seq_some
  have hxl : xs.length ≤ 65536 := by have h1 := hL.le; have h2 := hL.m; rw [List.length_reverse] at h1; omega
  have hBl : Bn < w.heap.size := World.block_lt_of_cell? w _ hBn
  have hw0 : Bn < (w.alloc (.cells #[.slice none 0 0] 65)).heap.size := by simp; omega
  have hB0 := below_alloc w (.cells #[.slice none 0 0] 65)
  have hBn2 : (w.alloc (.cells #[.slice none 0 0] 65)).cell? ⟨Bn, 0, none⟩ = some (iP B) := (cell_below hB0 _ _ hBl).trans hBn
  refine (callsIn_wide (n := 3)).1 ?_
  refine callsIn_of_wp_marks Tryz.func93 rfl trivial ?_ rfl
  simp only [Tryz.ntmps93, List.size_toArray, List.length_cons, List.length_nil, Nat.reduceAdd, Nat.reduceSub, Array.replicate_succ, Array.replicate_zero, List.push_toArray, List.append_toArray, List.nil_append, List.cons_append]
  gi_wp2
  have bO2 := Boxed.new w 65 (.slice none 0 0)
  refine wpIn_rangeFunc_ownG rfl (by omega) (gf := 94) (lb := #[.pointer (some ⟨Bn, 0, none⟩)]) rfl trivial (enters_of Tryz.func94 (by kernel_rfl) rfl)
    (St.All_stops (3 - 1) (by omega) Bn (St.Mbox w.heap.size) xs B g m hi _ hw0 hBn2 (hL.below hB0) (fun W' b hb hm => by
      rcases hm with e | ⟨u, hu, e⟩
      · simp; omega
      · rw [hb.cell (p := ⟨w.heap.size, 0, none⟩) (by simp), bO2.cell] at hu
        cases hu
        cases e)) St.Kq.trans (St.Kq.put (fun W l o b hl hm => by
      have hne : w.heap.size ≠ l := by simp at hl; omega
      rcases hm with e | ⟨u, hu, e⟩
      · exact .inl e
      · exact .inr ⟨u, by rw [← hu]; exact (World.cell?_of_block (World.putObj_heap_other hne)).symm, e⟩)) (Below.refl _ _) (fun _ => rfl)
    (fun pre W => (∃ v, Boxed W w.heap.size 65 v ∧ W.ownsRow w.heap.size 3 1 v pre.length (iV pre) ∧ True) ∧ Below w.heap.size w W)
    (fun _ _ _ => False)
    (OwnFrom.and (Own.from (holdsRow_own w.heap.size w.heap.size 65 3 1 (fun pre => List.length pre) (fun pre => iV pre) (fun pre v => True)) _) (ownFrom_below (Nat.le_refl _) (by simp)))
    (fun _ _ _ _ _ hs _ _ => hs)
    ⟨⟨_, bO2, World.ownsRow_nil _ _ _ _, trivial⟩, hB0⟩
    (fun x => { tmps := #[.slice none 0 0, seqV Bn, .pointer (some ⟨w.heap.size, 0, none⟩), undef, .slice none 0 0, .int .i64 x, seqV Bn, .int .i64 x, undef, undef, undef, undef, undef], defers := [] }) ?assign ?body ?done ?stop
  case assign =>
    intro l x W K hK
    gi_wp2
    exact hK
  case body =>
    rintro l pre x W ⟨⟨v, hv, hrow, _⟩, hB⟩ hlt
    have hc := hv.cell
    gi_wp2_with (gi_at_builtin; refine wpListIn_append_own_at _ rfl _ _ 65 rfl w.heap.size 3 i0 (.int .i64 0) 1 8 Tryz.underlying65 hi0 hz0 hz1 hz2 rfl (by decide) _ _ _ rfl (hrow.alloc _) ⟨W.heap.size, 0, none⟩ 1 1 [.int .i64 x] rfl rfl (cell_one9 _ _ _) (by simp [Value.oneCell']) (by unfold maxLen; omega) (by omega) (by have := hB.size; simp; omega) ?_; intro v' w1 hown' hgrow _ hat; obtain ⟨g', cap', rfl⟩ := ownsRow_succ hown'; obtain ⟨hv1, hv2, hr2, hk2, hb2⟩ := hv.appended (by decide) hrow hB.size (Nat.le_refl _) hown' hgrow; have hc1 := hv1.cell; have hf1 := hv1.frozen; have hKq := St.Mbox.app hv hv2 hgrow hat)
    exact ⟨hk2.from _, hKq, ⟨_, hv2, by simpa [iV] using hr2, trivial⟩, hB.trans hb2⟩
  case done =>
    rintro D ys W hD rfl ⟨⟨v, hv, hrow, _⟩, hB⟩ hK
    have hc := hv.cell
    gi_wp2
    refine ⟨by simp, .inl ⟨_, _, rfl, run_takeDeferred hK, ?_⟩⟩
    exact ⟨_, results_tmp rfl _ _ _, v, rfl, ownsRow_putObj hrow _ hK rfl, hB.trans (belowK_b (w := w) (Nat.le_refl _) W D _ _ (by simp at hD; omega) hK rfl rfl)⟩
  case stop =>
    rintro D c pre W _ _ h _
    exact h.elim
set_option maxRecDepth 100000 in
theorem collect_any (w : World) (Bn B g m hi : Nat) (xs : List Int) (hBn : w.cell? ⟨Bn, 0, none⟩ = some (iP B)) (hL : iQ w B g m hi xs.reverse) : Calls Tryz.prog 61 #[seqV Bn] w fun e w' => ∃ v, e = .returned v ∧ w'.ownsRow w.heap.size 3 1 v xs.length (iV xs) ∧ Below w.heap.size w w' := by
  have hA := appendSeq_any w Bn B g m hi xs hBn hL
  clear hBn hL
  go_enter Tryz.func61, Tryz.ntmps61
  go_wp2_with (first | (go_at_call 93; refine hA.mono ?_; clear hA; rintro e w1 ⟨v, rfl, hO, hb⟩))
  go_ret
  exact ⟨v, rfl, hO, hb⟩
end Go.Proofs.YtmllocfeflhjoaaGreat

namespace Go.Proofs.YtmllocfeflhjoaaGreat
open Go.RowKit Go.Maps Go.Shelf Go.Sort
open Go.Proofs.YtmllocfeflhjoaaGreat.St (Fx Fz iQ iP iV)
set_option linter.unusedVariables false
set_option linter.unusedSimpArgs false

theorem rev_swap (a b mid : List Value) (x z : Value) (h : a.length = b.length) : ((b.reverse ++ (x :: (mid ++ [z])) ++ a.reverse).set a.length z).set (a.length + mid.length + 1) x = (z :: b).reverse ++ mid ++ (a ++ [x]).reverse := by
  have e1 : a.length = b.reverse.length := by simp [h]
  have e2 : (b.reverse ++ (x :: (mid ++ [z])) ++ a.reverse).set a.length z = b.reverse ++ (z :: (mid ++ [z])) ++ a.reverse := by
    rw [List.append_assoc, e1, List.set_append_right _ _ (Nat.le_refl _), Nat.sub_self]
    simp
  rw [e2]
  have e3 : b.reverse ++ (z :: (mid ++ [z])) ++ a.reverse = (b.reverse ++ z :: mid) ++ (z :: a.reverse) := by simp
  have e4 : a.length + mid.length + 1 = (b.reverse ++ z :: mid).length := by simp; omega
  rw [e3, e4, List.set_append_right _ _ (Nat.le_refl _), Nat.sub_self]
  simp
set_option maxRecDepth 100000 in
set_option maxHeartbeats 4000000 in
theorem reverse_any (w : World) (q n : Nat) (v : Value) (xs : List Value) (hO : w.ownsRow q 3 1 v n xs) (hv : ∀ x ∈ xs, ∃ i, x = I i) (hn : n ≤ 1048576) : Calls Tryz.prog 63 #[v] w fun e w' => e = .returned (.tuple #[]) ∧ w'.ownsRow q 3 1 v n xs.reverse ∧ Fz (fun b => v.ownBlock = some b) w w' := by
  obtain ⟨hl, h0 | ⟨g, cap, cur, rfl, hb, hh, r1, r2, r3, r4⟩⟩ := id hO
  · obtain ⟨rfl, rfl⟩ := h0
    have hx : xs = [] := List.length_eq_zero_iff.1 (by omega)
    subst hx
    go_enter Tryz.func63, Tryz.ntmps63
    go_wp2
    go_loopw [2, 3] (fun v2 v3 wr => v2 = I 0 ∧ v3 = I (-1) ∧ wr = w) (fun _ _ _ => 0)
    case atStart => exact ⟨rfl, rfl, rfl⟩
    case round =>
      obtain ⟨rfl, rfl, rfl⟩ := hrel
      go_wp2
      refine bodyPost_end (v := .tuple #[]) (by simp [results, Tryz.results63, go_sem]) rfl ?_
      exact ⟨rfl, hO, Fz.refl _ _⟩
  · have HI : Hid (w.ownsRow q 3 1 (.slice (some ⟨g, 0, none⟩) n cap) n xs ∧ Fz (fun b => b = g) w w) := ⟨hO, Fz.refl _ _⟩
    have hl1 : xs.length = n := by omega
    have HV : Hid (∀ x ∈ xs, ∃ i, x = I i) := hv
    unfold maxLen at r2
    clear hO hh r3 r4 hl hv
    go_enter Tryz.func63, Tryz.ntmps63
    go_wp2
    go_loopw [2, 3] (fun v2 v3 wr => ∃ i : Nat, v2 = I i ∧ v3 = I ((n : Int) - 1 - i) ∧ Hid (∃ (a b mid : List Value), a.length = i ∧ b.length = i ∧ xs = a ++ mid ++ b ∧ wr.ownsRow q 3 1 (.slice (some ⟨g, 0, none⟩) n cap) n (b.reverse ++ mid ++ a.reverse) ∧ Fz (fun b => b = g) w wr)) (fun v2 _ _ => n - (intOf v2).toNat)
    case atStart => exact ⟨0, rfl, by simp, [], [], xs, rfl, rfl, by simp, by simpa using HI.out.1, HI.out.2⟩
    case round =>
      clear HI
      obtain ⟨i, rfl, rfl, HJ⟩ := hrel
      obtain ⟨a, b, mid, ha, hb2, hxs, hO, hF⟩ := HJ.out
      clear HJ
      have hlen : n = i + mid.length + i := by rw [← hl1, hxs]; simp; omega
      by_cases hlt : 2 ≤ mid.length
      · obtain ⟨x, m2, rfl⟩ : ∃ x m2, mid = x :: m2 := by cases mid with | nil => simp at hlt | cons x m2 => exact ⟨x, m2, rfl⟩
        obtain ⟨m, z, rfl⟩ : ∃ m z, m2 = m ++ [z] := by
          rcases List.eq_nil_or_concat m2 with rfl | ⟨m, z, rfl⟩
          · simp at hlt
          · exact ⟨m, z, by rw [List.concat_eq_append]⟩
        obtain ⟨xi, rfl⟩ := HV.out x (by rw [hxs]; simp)
        obtain ⟨zi, rfl⟩ := HV.out z (by rw [hxs]; simp)
        obtain ⟨j, hj⟩ : ∃ j : Nat, j = i + m.length + 1 := ⟨_, rfl⟩
        have hjn : (n : Int) - 1 - i = j := by simp at hlen; omega
        have hltI : (i : Int) < j := by omega
        have ha1 : (i : Int) < n := by simp at hlen; omega
        have hj1 : (j : Int) < n := by simp at hlen; omega
        rw [hjn]
        have c1 : wr.cell? ⟨g, i, none⟩ = some (I xi) := by
          rw [hO.cellAt _ (by omega), List.append_assoc, List.getElem?_append_right (by simp; omega)]
          rw [show i - b.reverse.length = 0 by simp; omega]
          rfl
        have c2 : wr.cell? ⟨g, j, none⟩ = some (I zi) := by
          rw [hO.cellAt _ (by omega), hj]
          rw [show b.reverse ++ (I xi :: (m ++ [I zi])) ++ a.reverse = (b.reverse ++ I xi :: m) ++ (I zi :: a.reverse) by simp]
          rw [List.getElem?_append_right (by simp; omega)]
          rw [show i + m.length + 1 - (b.reverse ++ I xi :: m).length = 0 by simp; omega]
          rfl
        have f1 := hO.frozenAt
        have hne : ¬ (j = i) := by omega
        have hne2 : ¬ (i = j) := by omega
        have HN : Hid (∃ (a b mid : List Value), a.length = i + 1 ∧ b.length = i + 1 ∧ xs = a ++ mid ++ b ∧ ((wr.setCell ⟨g, i, none⟩ (I zi)).setCell ⟨g, j, none⟩ (I xi)).drew.ownsRow q 3 1 (.slice (some ⟨g, 0, none⟩) n cap) n (b.reverse ++ mid ++ a.reverse) ∧ Fz (fun b => b = g) w ((wr.setCell ⟨g, i, none⟩ (I zi)).setCell ⟨g, j, none⟩ (I xi)).drew) := by
          have hO2 := ((hO.stored i (I zi)).1.stored j (I xi)).1
          have hsw := rev_swap a b m (I xi) (I zi) (by omega)
          rw [ha, ← hj] at hsw
          rw [hsw] at hO2
          have hF2 : Fz (fun b => b = g) w ((wr.setCell ⟨g, i, none⟩ (I zi)).setCell ⟨g, j, none⟩ (I xi)) := (hF.set (.inl rfl) _ _).set (.inl rfl) _ _
          exact ⟨a ++ [I xi], I zi :: b, m, by simp; omega, by simp; omega, by rw [hxs]; simp, hO2.drew, hF2.drewN 1⟩
        have HJN : Hid ((j : Int) - 1 = (n : Int) - 1 - ((i + 1 : Nat) : Int)) := by show _ = _; omega
        clear hlen hlt hjn hj hxs ha hb2 hO hF
        go_upto_region 3 with fail
        go_region
        clear c1 c2 f1
        have HI1 : Hid ((i : Int) + 1 = ((i + 1 : Nat) : Int)) := by show _ = _; omega
        generalize ((wr.setCell ⟨g, i, none⟩ (I zi)).setCell ⟨g, j, none⟩ (I xi)).drew = w5 at *
        have hjn2 := HJN.out
        go_wp2
        go_roundw
        case rel => exact ⟨i + 1, by go_num, by rw [← hjn2]; go_num, HN.out⟩
        case measure => simp [intOf]; omega
      · have hge : ¬ ((i : Int) < (n : Int) - 1 - i) := by omega
        have hmid : mid.reverse = mid := by
          match mid, hlt with
          | [], _ => rfl
          | [x], _ => rfl
          | x :: y :: l, h => simp at h
        have HN : Hid (wr.ownsRow q 3 1 (.slice (some ⟨g, 0, none⟩) n cap) n xs.reverse ∧ Fz (fun b => b = g) w wr) := by
          refine ⟨?_, hF⟩
          rw [hxs]
          simp only [List.reverse_append, hmid]
          rw [← List.append_assoc]
          exact hO
        clear hO hF hxs ha hb2 hlen hlt hmid
        go_wp2
        refine bodyPost_end (v := .tuple #[]) (by simp [results, Tryz.results63, go_sem]) rfl ?_
        exact ⟨rfl, HN.out.1, HN.out.2.mono (by rintro x rfl; rfl)⟩
section
variable {w w' : World} {tb : Tb} {Z : Nat → Prop} {y : Ly} {B : Nat} {s : Ls}
theorem Lk.hld_none (h : Lk w tb Z y B s) {o : Own} (hp : y.p o = none) : hld s.L o = [] := by
  cases hh : hld s.L o with
  | nil => rfl
  | cons r l =>
    obtain ⟨b, hb, _⟩ := h.ok.own o r (mem_hld.1 (by rw [hh]; simp))
    obtain ⟨_, q, hq, _⟩ := h.ps o b hb
    rw [hp] at hq
    cases hq
theorem iV_rev (xs : List Int) : (iV xs).reverse = iV xs.reverse := by simp [iV]
set_option maxHeartbeats 4000000 in
set_option maxRecDepth 100000 in
theorem Held_any (h : Lk w tb Z y B s) (o : Own) (ho : o.wf) : Calls Tryz.prog 19 #[lp B, .agg #[.bool o.isr, I o.id]] w fun e w' => ∃ v, e = .returned v ∧ w'.ownsRow w.heap.size 3 1 v (hld s.L o).length (iV (hld s.L o)) ∧ Below w.heap.size w w' := by
  have hb := below_alloc w (.cells #[.bool o.isr, I o.id] 23)
  obtain ⟨y0, y1⟩ := box_own w o
  have h1 := h.below hb
  have hF := find_any h1 o ho
  have HL : Hid (∀ w', Below (w.alloc (.cells #[.bool o.isr, I o.id] 23)).heap.size (w.alloc (.cells #[.bool o.isr, I o.id] 23)) w' → Lk w' tb Z y B s) := fun w' hb' => h1.below hb'
  have HB : Hid (∀ w', Below (w.alloc (.cells #[.bool o.isr, I o.id] 23)).heap.size (w.alloc (.cells #[.bool o.isr, I o.id] 23)) w' → Below w.heap.size w w') := fun w' hb' => hb.trans (hb'.mono (by simp))
  clear h h1 hb
  go_enter Tryz.func19, Tryz.ntmps19
  go_upto_region 1 with fail
  generalize w.alloc (.cells #[.bool o.isr, I o.id] 23) = w1 at *
  go_upto_region 2 with (first | (go_at_call 58; refine hF.mono ?_; clear hF; rintro e w2 ⟨rfl, hb2⟩))
  have h2 := HL.out _ hb2
  have HB2 : Hid (Below w.heap.size w w2) := HB.out _ hb2
  clear HL HB hb2 y0 y1
  cases hp : y.p o with
  | none =>
    simp only [opV, Option.isSome_none]
    have HZ : Hid (hld s.L o = []) := h2.hld_none hp
    clear h2 hp
    go_wp2
    go_ret
    rw [HZ.out]
    exact ⟨_, rfl, World.ownsRow_nil _ _ _ _, HB2.out⟩
  | some q =>
    simp only [opV, Option.isSome_some]
    obtain ⟨b, -, -, hB, -⟩ := h2.pq hp
    obtain ⟨d0, d1, d2, d3, d4, d5⟩ := hB.cells
    obtain ⟨hi, hK⟩ := hB.k
    have hAl := St.All_any (y.sb o) w2
    have hbA := below_alloc w2 (.cells #[iP (y.sb o)] 89)
    have hcA : (w2.alloc (.cells #[iP (y.sb o)] 89)).cell? ⟨w2.heap.size, 0, none⟩ = some (iP (y.sb o)) := by rw [cell_of_row _ _ _ _ _ (0, 0) (heap_alloc_new w2 _)]; rfl
    have hlen : (hld s.L o).length ≤ 1024 := by have h1 := hK.le; have h2 := hK.m; omega
    have hCo := collect_any (w2.alloc (.cells #[iP (y.sb o)] 89)) w2.heap.size (y.sb o) (y.gb o) _ hi (hld s.L o).reverse hcA (by rw [List.reverse_reverse]; exact hK.below hbA)
    have HS : Hid (w.heap.size ≤ w2.heap.size) := HB2.out.size
    have HBA : Hid (∀ w', Below (w2.alloc (.cells #[iP (y.sb o)] 89)).heap.size (w2.alloc (.cells #[iP (y.sb o)] 89)) w' → Below w.heap.size w w') := fun w' hb' => HB2.out.trans ((hbA.trans (hb'.mono (by simp))).mono HB2.out.size)
    have HSA : Hid ((w2.alloc (.cells #[iP (y.sb o)] 89)).heap.size = w2.heap.size + 1) := by show _ = _; simp
    clear h2 hB hK hp hbA hcA HB2
    go_upto_region 5 with (first | (go_at_call 62; refine hAl.mono ?_; clear hAl; rintro e w3 ⟨rfl, rfl⟩) | (go_at_call 61; refine hCo.mono ?_; clear hCo; rintro e w3 ⟨v, rfl, hO, hb3⟩))
    have hR := reverse_any w3 _ _ v _ hO (by intro x hx; obtain ⟨i, _, rfl⟩ := List.mem_map.1 hx; exact ⟨i, rfl⟩) (by rw [List.length_reverse]; omega)
    rw [iV_rev, List.reverse_reverse, List.length_reverse] at hR
    have HO : Hid (∀ b, v.ownBlock = some b → w.heap.size ≤ b) := fun b hb => by have h1 := (hO.lt b hb).1; have h2 := HS.out; have h3 := HSA.out; omega
    have HB3 : Hid (Below w.heap.size w w3) := HBA.out _ hb3
    have HS3 : Hid (w.heap.size ≤ (w2.alloc (.cells #[iP (y.sb o)] 89)).heap.size) := by have h2 := HS.out; have h3 := HSA.out; show _ ≤ _; omega
    clear hO hb3 HBA
    go_wp2_with (first | (go_at_call 63; refine hR.mono ?_; clear hR; rintro e w4 ⟨rfl, hO4, hf4⟩))
    go_ret
    refine ⟨v, rfl, ?_, HB3.out.trans (hf4.below HB3.out.size HO.out)⟩
    obtain ⟨e1, e2 | ⟨g, cap, cur, e3, e4, e5⟩⟩ := hO4
    · exact ⟨e1, .inl e2⟩
    · exact ⟨e1, .inr ⟨g, cap, cur, e3, Nat.le_trans HS3.out e4, e5⟩⟩
end
end Go.Proofs.YtmllocfeflhjoaaGreat

namespace Go.Proofs.YtmllocfeflhjoaaGreat
open Go.RowKit Go.Maps Go.Shelf Go.Sort
open Go.Proofs.YtmllocfeflhjoaaGreat.St (Fx Fz iQ iP iV)
set_option linter.unusedVariables false
set_option linter.unusedSimpArgs false

/-! ### Holder, Enter, Leave, Has -/
section
variable {w w' : World} {tb : Tb} {Z : Nat → Prop} {y : Ly} {B : Nat} {s : Ls}
theorem box_own2 (w : World) (x : Bool) (i : Int) (t : TypeId) : (w.alloc (.cells #[.bool x, I i] t)).heap[w.heap.size]? = some (.cells #[.bool x, I i] t) := heap_alloc_new w _
theorem res_own2 {fn : Func} {n m : Nat} (hf : fn.results = #[.cell n 23, .tmp m]) (tmps : Array Value) (b : Nat) (u : Value) (w : World) (v0 v1 : Value)
    (h2 : tmps[n]? = some (.pointer (some ⟨b, 0, none⟩))) (h3 : tmps[m]? = some u) (hk : w.heap[b]? = some (.cells #[v0, v1] 23 (0, 0))) : (results fn tmps).run Tryz.prog w = .ok (.tuple #[.agg #[v0, v1], u]) w := by
  have a1 := fun i => cell_of_row w b i _ _ (0, 0) hk
  have z0 := a1 0; have z1 := a1 1
  simp at z0 z1
  simp [results, hf, go_sem, h2, h3, z0, z1]
theorem res_gate {fn : Func} {n : Nat} (hf : fn.results = #[.cell n 25]) (tmps : Array Value) (b : Nat) (w : World) (v0 v1 v2 : Value)
    (h2 : tmps[n]? = some (.pointer (some ⟨b, 0, none⟩))) (hk : w.heap[b]? = some (.cells #[v0, v1, v2] 25 (0, 0))) : (results fn tmps).run Tryz.prog w = .ok (.agg #[v0, v1, v2]) w := by
  have a1 := fun i => cell_of_row w b i _ _ (0, 0) hk
  have z0 := a1 0; have z1 := a1 1; have z2 := a1 2
  simp at z0 z1 z2
  simp [results, hf, go_sem, h2, z0, z1, z2]
set_option maxHeartbeats 4000000 in
set_option maxRecDepth 100000 in
theorem Holder_any (h : Lk w tb Z y B s) (r : Int) (hr : (Lit.int .i64 r).wf = true) : Calls Tryz.prog 18 #[lp B, I r] w fun e w' => e = .returned (.tuple #[ozV (hdr s.L r), .bool (hdr s.L r).isSome]) ∧ Below w.heap.size w w' := by
  have hb := below_alloc w (.cells #[.bool false, I 0] 23)
  have h1 := h.below hb
  have hN := none_any h1
  have hl := h1.h.look r hr
  obtain ⟨pz, hpz⟩ := ozV_agg s.L r
  rw [hpz] at hl ⊢
  obtain ⟨c0, c1, c2, c3, c4, c5⟩ := h1.cells
  have k0 : (w.alloc (.cells #[.bool false, I 0] 23)).cell? ⟨w.heap.size, 0, none⟩ = some (.bool false) := by rw [cell_of_row _ _ _ _ _ (0, 0) (heap_alloc_new w _)]; rfl
  have k1 : (w.alloc (.cells #[.bool false, I 0] 23)).cell? ⟨w.heap.size, 1, none⟩ = some (I 0) := by rw [cell_of_row _ _ _ _ _ (0, 0) (heap_alloc_new w _)]; rfl
  have k2 : ∀ j, (w.alloc (.cells #[.bool false, I 0] 23)).frozen? ⟨w.heap.size, j, none⟩ = false := fun j => frozen_of_row _ _ j _ _ (heap_alloc_new w _)
  have HB : Hid (Below w.heap.size w (w.alloc (.cells #[.bool false, I 0] 23))) := hb
  have KH : Hid ((w.alloc (.cells #[.bool false, I 0] 23)).heap[w.heap.size]? = some (.cells #[.bool false, I 0] 23)) := heap_alloc_new w _
  have hX : w.heap.size < (w.alloc (.cells #[.bool false, I 0] 23)).heap.size := by simp
  clear h h1 hb hpz
  go_enter Tryz.func18, Tryz.ntmps18
  go_upto_region 1 with fail
  have HX : Hid (w.heap.size < (w.alloc (.cells #[.bool false, I 0] 23)).heap.size) := hX
  clear hX
  generalize hw1 : w.alloc (.cells #[.bool false, I 0] 23) = w1 at *
  clear hw1
  generalize hXe : w.heap.size = X at *
  have HXE : Hid (w.heap.size = X) := hXe
  clear hXe
  go_upto_region 4 with (first | (go_at_call 35; refine hN.mono ?_; clear hN; rintro e w2 ⟨rfl, rfl⟩))
  have hb2 := below_alloc w2 (.cells #[.bool pz.isr, I pz.id] 23)
  have m0 := (cell_below hb2 X 0 HX.out).trans k0
  have m1 := (cell_below hb2 X 1 HX.out).trans k1
  have m2 : ∀ j, (w2.alloc (.cells #[.bool pz.isr, I pz.id] 23)).frozen? ⟨X, j, none⟩ = false := fun j => by rw [World.frozen?_alloc_old _ _ _ (by have := HX.out; simp; omega)]; exact k2 j
  obtain ⟨m3, m4⟩ := box_own w2 pz
  have HK : Hid ((w2.alloc (.cells #[.bool pz.isr, I pz.id] 23)).heap[X]? = some (.cells #[.bool false, I 0] 23)) := (hb2.block X HX.out).trans KH.out
  have HB2 : Hid (Below X w (w2.alloc (.cells #[.bool pz.isr, I pz.id] 23))) := HB.out.trans (hb2.mono (Nat.le_of_lt HX.out))
  have hne : ¬ (X = w2.heap.size) := by have := HX.out; omega
  clear k0 k1 k2 c0 c1 c2 c3 c4 c5 hl hb2 HB
  generalize hw3 : w2.alloc (.cells #[.bool pz.isr, I pz.id] 23) = w3 at *
  clear hw3
  have k3 : w3.heap[X]? = some (.cells #[.bool false, I 0] 23) := HK.out
  have HZ : Hid (∀ u v, Below X w ((w3.setCell ⟨X, 0, none⟩ u).setCell ⟨X, 1, none⟩ v) ∧ ((w3.setCell ⟨X, 0, none⟩ u).setCell ⟨X, 1, none⟩ v).heap[X]? = some (.cells #[u, v] 23)) := fun u v => ⟨(HB2.out.setCell (Nat.le_refl _) _).setCell (Nat.le_refl _) _, heap_setCell_same _ X 1 _ _ _ (heap_setCell_same _ X 0 _ _ _ k3)⟩
  clear k3
  go_wp2
  refine bodyPost_ret (res_own2 Tryz.results18 _ X _ _ _ _ rfl rfl (HZ.out _ _).2) rfl ⟨rfl, ?_⟩
  have := (HZ.out (.bool pz.isr) (I pz.id)).1
  rw [← HXE.out] at this ⊢
  exact this
/-- The lock whose owner o is in its internal resource, or is not. -/
def insF (f : Own → Bool) (o : Own) (x : Bool) : Own → Bool := fun z => if z = o then x else f z
theorem Lk.ins (h : Lk w tb Z y B s) {o : Own} {b : Ob} {q : Nat} (hob : obs tb o = some b) (hq : y.p o = some q) (x : Bool) (hx : x = true → b.inner ≠ -1) : Lk (w.setCell ⟨q, 4, none⟩ (.bool x)) tb Z y B ⟨s.L, insF s.i o x, s.g⟩ ∧ Fz (y.M B) w (w.setCell ⟨q, 4, none⟩ (.bool x)) := by
  have ha := h.apt hq
  have hf : Fz (fun b => b = q) w (w.setCell ⟨q, 4, none⟩ (.bool x)) := (Fz.refl (fun b => b = q) w).set (.inl rfl) _ _
  have hfz : Fz (y.M B) w (w.setCell ⟨q, 4, none⟩ (.bool x)) := hf.mono (by rintro z rfl; exact .inr (.inr (.inr ⟨o, z, hq, .inl rfl⟩)))
  have hZ : ∀ b, Z b → b < w.heap.size → (w.setCell ⟨q, 4, none⟩ (.bool x)).heap[b]? = w.heap[b]? := fun b hb hlt => hfz.block b hlt (h.z b hb)
  have ok : OKl tb ⟨s.L, insF s.i o x, s.g⟩ := ⟨h.ok.nd, h.ok.own, fun z hz => by
    by_cases e : z = o
    · subst e
      refine ⟨b, hob, hx ?_⟩
      simpa [insF] using hz
    · exact h.ok.i z (by simpa [insF, e] using hz), h.ok.g⟩
  refine ⟨⟨ok, h.tk, hf.heap h.o ha.a.1.symm, rows_kept h.r h.zr hZ hf.size, h.zr, h.m.kept (hf.block _ h.m.lt ha.b.1.symm), h.n, h.h.kept (hf.block _ h.h.lt ha.c.1.symm), h.ne, h.pn, fun z bz hz => ?_, h.inj, h.z⟩, hfz⟩
  obtain ⟨hw, qz, hqz, hB, hzz⟩ := h.ps z bz hz
  refine ⟨hw, qz, hqz, ?_, hzz⟩
  obtain ⟨hi, hk⟩ := hB.k
  have hc := h.apt hqz
  by_cases e : z = o
  · subst e
    rw [hq] at hqz
    cases hqz
    refine ⟨?_, rows_kept hB.r hzz hZ hf.size, hi, hk.keptZ hf hc.d.1.symm hc.d.2.1.symm⟩
    have := heap_setCell_same _ q 4 _ _ (.bool x) hB.o
    simpa [insF] using this
  · have h2 := h.ap2 hqz hq e
    refine ⟨?_, rows_kept hB.r hzz hZ hf.size, hi, hk.keptZ hf (fun k => h2 _ (.inr (.inl rfl)) (.inl k)) (fun k => h2 _ (.inr (.inr rfl)) (.inl k))⟩
    have := hf.heap hB.o (fun k => h2 _ (.inl rfl) (.inl k))
    simpa [insF, e] using this
theorem Lk.own (h : Lk w tb Z y B s) (o : Own) : (y.p o = none ∧ obs tb o = none) ∨ ∃ q b, y.p o = some q ∧ obs tb o = some b := by
  cases ho : obs tb o with
  | none => exact .inl ⟨h.pn o ho, rfl⟩
  | some b => obtain ⟨_, q, hq, _⟩ := h.ps o b ho; exact .inr ⟨q, b, hq, rfl⟩
/-- of a task -/
abbrev tkO (i : Int) : Own := ⟨false, i⟩
set_option maxHeartbeats 4000000 in
set_option maxRecDepth 100000 in
theorem lay_no (h : Lk w tb Z y B s) (i : Int) (hi : (tkO i).wf) (hn : obs tb (tkO i) = none) (x : Bool) : Calls Tryz.prog 41 #[lp B, I i, .bool x] w fun e w' => e = .returned (I 2) ∧ Below w.heap.size w w' := by
  have hN := none_any h
  have hF := find_any h (tkO i) hi
  rw [h.pn _ hn] at hF
  clear h hn
  go_enter Tryz.func41, Tryz.ntmps41
  go_wp2_with (first | (go_at_call 35; refine hN.mono ?_; clear hN; rintro e w1 ⟨rfl, rfl⟩) | (go_at_call 58; refine hF.mono ?_; clear hF; rintro e w2 ⟨rfl, hb2⟩; simp only [opV, Option.isSome_none]))
  go_ret
  exact ⟨rfl, hb2⟩
set_option maxHeartbeats 4000000 in
set_option maxRecDepth 100000 in
theorem lay_ok (h : Lk w tb Z y B s) (i : Int) (hi : (tkO i).wf) (b : Ob) (hob : obs tb (tkO i) = some b) (x : Bool) : Calls Tryz.prog 41 #[lp B, I i, .bool x] w fun e w' => e = .returned (I 0) ∧ Lk w' tb Z y B ⟨s.L, insF s.i (tkO i) (x && (b.inner != -1)), s.g⟩ ∧ Fz (y.M B) w w' := by
  have hN := none_any h
  have hF := find_any h (tkO i) hi
  obtain ⟨-, q, hq, -, -⟩ := h.ps _ b hob
  rw [hq] at hF
  have H : Hid (Lk w tb Z y B s) := h
  have HQ : Hid (y.p (tkO i) = some q) := hq
  have HO : Hid (obs tb (tkO i) = some b) := hob
  clear h hq hob
  go_enter Tryz.func41, Tryz.ntmps41
  go_upto_region 4 with (first | (go_at_call 35; refine hN.mono ?_; clear hN; rintro e w1 ⟨rfl, hw1⟩; cases hw1.symm) | (go_at_call 58; refine hF.mono ?_; clear hF; rintro e w2 ⟨rfl, hb2⟩; simp only [opV, Option.isSome_some]))
  have h2 := H.out.below hb2
  obtain ⟨b', hob', -, hB, -⟩ := h2.pq HQ.out
  rw [HO.out] at hob'
  cases hob'
  obtain ⟨d0, d1, d2, d3, d4, d5⟩ := hB.cells
  have df := hB.frz 4
  have HN : Hid (∀ z : Bool, (z = true → b.inner ≠ -1) → Lk (w2.setCell ⟨q, 4, none⟩ (.bool z)) tb Z y B ⟨s.L, insF s.i (tkO i) z, s.g⟩ ∧ Fz (y.M B) w (w2.setCell ⟨q, 4, none⟩ (.bool z))) := fun z hz => by
    obtain ⟨k1, k2⟩ := h2.ins HO.out HQ.out z hz
    exact ⟨k1, (Fz.of_below hb2).trans k2⟩
  clear h2 hB hb2
  cases x with
  | false =>
    go_wp2
    go_ret
    exact ⟨rfl, HN.out false (fun e => by cases e)⟩
  | true =>
    by_cases hin : b.inner = -1
    · have h1 : (b.inner != -1) = false := by simp [hin]
      rw [hin] at d3
      have HI : Hid (b.inner = -1) := hin
      clear hin h1
      go_wp2
      go_ret
      refine ⟨rfl, ?_⟩
      rw [show (true && (b.inner != -1)) = false by simp [HI.out]]
      exact HN.out false (fun e => by cases e)
    · have h1 : (b.inner == -1) = false := beq_eq_false_iff_ne.2 hin
      have HI : Hid (b.inner ≠ -1) := hin
      go_wp2
      go_ret
      refine ⟨rfl, ?_⟩
      rw [show (b.inner != -1) = true by simp [HI.out]]
      exact HN.out true (fun _ => HI.out)
set_option maxHeartbeats 4000000 in
set_option maxRecDepth 100000 in
theorem Enter_no (h : Lk w tb Z y B s) (i : Int) (hi : (tkO i).wf) (hn : obs tb (tkO i) = none) : Calls Tryz.prog 12 #[lp B, I i] w fun e w' => e = .returned (I 2) ∧ Below w.heap.size w w' := by
  have hL := lay_no h i hi hn true
  clear h hn
  go_enter Tryz.func12, Tryz.ntmps12
  go_wp2_with (first | (go_at_call 41; refine hL.mono ?_; clear hL; rintro e w2 ⟨rfl, hb2⟩))
  go_ret
  exact ⟨rfl, hb2⟩
set_option maxHeartbeats 4000000 in
set_option maxRecDepth 100000 in
theorem Leave_no (h : Lk w tb Z y B s) (i : Int) (hi : (tkO i).wf) (hn : obs tb (tkO i) = none) : Calls Tryz.prog 24 #[lp B, I i] w fun e w' => e = .returned (I 2) ∧ Below w.heap.size w w' := by
  have hL := lay_no h i hi hn false
  clear h hn
  go_enter Tryz.func24, Tryz.ntmps24
  go_wp2_with (first | (go_at_call 41; refine hL.mono ?_; clear hL; rintro e w2 ⟨rfl, hb2⟩))
  go_ret
  exact ⟨rfl, hb2⟩
set_option maxHeartbeats 4000000 in
set_option maxRecDepth 100000 in
theorem Enter_ok (h : Lk w tb Z y B s) (i : Int) (hi : (tkO i).wf) (b : Ob) (hob : obs tb (tkO i) = some b) : Calls Tryz.prog 12 #[lp B, I i] w fun e w' => e = .returned (I 0) ∧ Lk w' tb Z y B ⟨s.L, insF s.i (tkO i) (b.inner != -1), s.g⟩ ∧ Fz (y.M B) w w' := by
  have hL := lay_ok h i hi b hob true
  rw [Bool.true_and] at hL
  clear h hob
  go_enter Tryz.func12, Tryz.ntmps12
  go_wp2_with (first | (go_at_call 41; refine hL.mono ?_; clear hL; rintro e w2 ⟨rfl, hb2⟩))
  go_ret
  exact ⟨rfl, hb2⟩
set_option maxHeartbeats 4000000 in
set_option maxRecDepth 100000 in
theorem Leave_ok (h : Lk w tb Z y B s) (i : Int) (hi : (tkO i).wf) (b : Ob) (hob : obs tb (tkO i) = some b) : Calls Tryz.prog 24 #[lp B, I i] w fun e w' => e = .returned (I 0) ∧ Lk w' tb Z y B ⟨s.L, insF s.i (tkO i) false, s.g⟩ ∧ Fz (y.M B) w w' := by
  have hL := lay_ok h i hi b hob false
  rw [Bool.false_and] at hL
  clear h hob
  go_enter Tryz.func24, Tryz.ntmps24
  go_wp2_with (first | (go_at_call 41; refine hL.mono ?_; clear hL; rintro e w2 ⟨rfl, hb2⟩))
  go_ret
  exact ⟨rfl, hb2⟩
theorem Lk.i_none (h : Lk w tb Z y B s) {o : Own} (ho : obs tb o = none) : s.i o = false := by
  cases hh : s.i o with
  | false => rfl
  | true => obtain ⟨b, hb, _⟩ := h.ok.i o hh; rw [ho] at hb; cases hb
set_option maxHeartbeats 4000000 in
set_option maxRecDepth 100000 in
theorem Has_any (h : Lk w tb Z y B s) (i : Int) (hi : (tkO i).wf) : Calls Tryz.prog 21 #[lp B, I i] w fun e w' => e = .returned (.bool (s.i (tkO i))) ∧ Below w.heap.size w w' := by
  have hF := find_any h (tkO i) hi
  have H : Hid (Lk w tb Z y B s) := h
  clear h
  go_enter Tryz.func21, Tryz.ntmps21
  go_upto_region 2 with (first | (go_at_call 58; refine hF.mono ?_; clear hF; rintro e w2 ⟨rfl, hb2⟩))
  have h2 := H.out.below hb2
  have HB : Hid (Below w.heap.size w w2) := hb2
  rcases h2.own (tkO i) with ⟨hp, ho⟩ | ⟨q, b, hp, ho⟩
  · have HI : Hid (s.i (tkO i) = false) := h2.i_none ho
    rw [hp]
    simp only [opV, Option.isSome_none]
    clear h2 hp ho hb2
    go_wp2
    go_ret
    refine ⟨?_, HB.out⟩
    rw [HI.out]
    rfl
  · obtain ⟨b', -, -, hB, -⟩ := h2.pq hp
    obtain ⟨d0, d1, d2, d3, d4, d5⟩ := hB.cells
    rw [hp]
    simp only [opV, Option.isSome_some]
    clear h2 hp ho hb2 hB
    go_wp2
    go_ret
    exact ⟨rfl, HB.out⟩
end
end Go.Proofs.YtmllocfeflhjoaaGreat

