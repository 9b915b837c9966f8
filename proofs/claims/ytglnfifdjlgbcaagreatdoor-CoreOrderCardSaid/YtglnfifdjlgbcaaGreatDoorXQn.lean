import Derived.Test.YtglnfifdjlgbcaaGreatDoorXQj
import Derived.Deep.RegionLaw
import Derived.Sort.CutIn
namespace Go.Proofs.YtglnfifdjlgbcaaGreatDoor
open Go.RowKit Go.Maps Go.Shelf Go.Sort
open Go.Proofs.YtglnfifdjlgbcaaGreatDoor.St (Fx Fz iQ iP iV)
set_option linter.unusedVariables false
set_option linter.unusedSimpArgs false

theorem rev_swap (a b mid : List Value) (x z : Value) (h : a.length = b.length) : ((b.reverse ++ (x :: (mid ++ [z])) ++ a.reverse).set a.length z).set (a.length + mid.length + 1) x = (z :: b).reverse ++ mid ++ (a ++ [x]).reverse := by
  have e1 : a.length = b.reverse.length := by simp [h]
  have e2 : (b.reverse ++ (x :: (mid ++ [z])) ++ a.reverse).set a.length z = b.reverse ++ (z :: (mid ++ [z])) ++ a.reverse := by
    rw [List.append_assoc, e1, List.set_append_right _ _ (Nat.le_refl _), Nat.sub_self]
    simp
  rw [e2]
  have e3 : b.reverse ++ (z :: (mid ++ [z])) ++ a.reverse = (b.reverse ++ z :: mid) ++ (z :: a.reverse) := by simp
  have e4 : a.length + mid.length + 1 = (b.reverse ++ z :: mid).length := by simp; omega
  rw [e3, e4, List.set_append_right _ _ (Nat.le_refl _), Nat.sub_self]
  simp
set_option maxRecDepth 100000 in
set_option maxHeartbeats 4000000 in
theorem reverse_any (w : World) (q n : Nat) (v : Value) (xs : List Value) (hO : w.ownsRow q 3 1 v n xs) (hv : ∀ x ∈ xs, ∃ i, x = I i) (hn : n ≤ 1048576) : Calls Tryz.prog 73 #[v] w fun e w' => e = .returned (.tuple #[]) ∧ w'.ownsRow q 3 1 v n xs.reverse ∧ Fz (fun b => v.ownBlock = some b) w w' := by
  obtain ⟨hl, h0 | ⟨g, cap, cur, rfl, hb, hh, r1, r2, r3, r4⟩⟩ := id hO
  · obtain ⟨rfl, rfl⟩ := h0
    have hx : xs = [] := List.length_eq_zero_iff.1 (by omega)
    subst hx
    go_enter Tryz.func73, Tryz.ntmps73
    go_wp2
    go_loopw [2, 3] (fun v2 v3 wr => v2 = I 0 ∧ v3 = I (-1) ∧ wr = w) (fun _ _ _ => 0)
    case atStart => exact ⟨rfl, rfl, rfl⟩
    case round =>
      obtain ⟨rfl, rfl, rfl⟩ := hrel
      go_wp2
      refine bodyPost_end (v := .tuple #[]) (by simp [results, Tryz.results73, go_sem]) rfl ?_
      exact ⟨rfl, hO, Fz.refl _ _⟩
  · have HI : Hid (w.ownsRow q 3 1 (.slice (some ⟨g, 0, none⟩) n cap) n xs ∧ Fz (fun b => b = g) w w) := ⟨hO, Fz.refl _ _⟩
    have hl1 : xs.length = n := by omega
    have HV : Hid (∀ x ∈ xs, ∃ i, x = I i) := hv
    unfold maxLen at r2
    clear hO hh r3 r4 hl hv
    go_enter Tryz.func73, Tryz.ntmps73
    go_wp2
    go_loopw [2, 3] (fun v2 v3 wr => ∃ i : Nat, v2 = I i ∧ v3 = I ((n : Int) - 1 - i) ∧ Hid (∃ (a b mid : List Value), a.length = i ∧ b.length = i ∧ xs = a ++ mid ++ b ∧ wr.ownsRow q 3 1 (.slice (some ⟨g, 0, none⟩) n cap) n (b.reverse ++ mid ++ a.reverse) ∧ Fz (fun b => b = g) w wr)) (fun v2 _ _ => n - (intOf v2).toNat)
    case atStart => exact ⟨0, rfl, by simp, [], [], xs, rfl, rfl, by simp, by simpa using HI.out.1, HI.out.2⟩
    case round =>
      clear HI
      obtain ⟨i, rfl, rfl, HJ⟩ := hrel
      obtain ⟨a, b, mid, ha, hb2, hxs, hO, hF⟩ := HJ.out
      clear HJ
      have hlen : n = i + mid.length + i := by rw [← hl1, hxs]; simp; omega
      by_cases hlt : 2 ≤ mid.length
      · obtain ⟨x, m2, rfl⟩ : ∃ x m2, mid = x :: m2 := by cases mid with | nil => simp at hlt | cons x m2 => exact ⟨x, m2, rfl⟩
        obtain ⟨m, z, rfl⟩ : ∃ m z, m2 = m ++ [z] := by
          rcases List.eq_nil_or_concat m2 with rfl | ⟨m, z, rfl⟩
          · simp at hlt
          · exact ⟨m, z, by rw [List.concat_eq_append]⟩
        obtain ⟨xi, rfl⟩ := HV.out x (by rw [hxs]; simp)
        obtain ⟨zi, rfl⟩ := HV.out z (by rw [hxs]; simp)
        obtain ⟨j, hj⟩ : ∃ j : Nat, j = i + m.length + 1 := ⟨_, rfl⟩
        have hjn : (n : Int) - 1 - i = j := by simp at hlen; omega
        have hltI : (i : Int) < j := by omega
        have ha1 : (i : Int) < n := by simp at hlen; omega
        have hj1 : (j : Int) < n := by simp at hlen; omega
        rw [hjn]
        have c1 : wr.cell? ⟨g, i, none⟩ = some (I xi) := by
          rw [hO.cellAt _ (by omega), List.append_assoc, List.getElem?_append_right (by simp; omega)]
          rw [show i - b.reverse.length = 0 by simp; omega]
          rfl
        have c2 : wr.cell? ⟨g, j, none⟩ = some (I zi) := by
          rw [hO.cellAt _ (by omega), hj]
          rw [show b.reverse ++ (I xi :: (m ++ [I zi])) ++ a.reverse = (b.reverse ++ I xi :: m) ++ (I zi :: a.reverse) by simp]
          rw [List.getElem?_append_right (by simp; omega)]
          rw [show i + m.length + 1 - (b.reverse ++ I xi :: m).length = 0 by simp; omega]
          rfl
        have f1 := hO.frozenAt
        have hne : ¬ (j = i) := by omega
        have hne2 : ¬ (i = j) := by omega
        have HN : Hid (∃ (a b mid : List Value), a.length = i + 1 ∧ b.length = i + 1 ∧ xs = a ++ mid ++ b ∧ ((wr.setCell ⟨g, i, none⟩ (I zi)).setCell ⟨g, j, none⟩ (I xi)).drew.ownsRow q 3 1 (.slice (some ⟨g, 0, none⟩) n cap) n (b.reverse ++ mid ++ a.reverse) ∧ Fz (fun b => b = g) w ((wr.setCell ⟨g, i, none⟩ (I zi)).setCell ⟨g, j, none⟩ (I xi)).drew) := by
          have hO2 := ((hO.stored i (I zi)).1.stored j (I xi)).1
          have hsw := rev_swap a b m (I xi) (I zi) (by omega)
          rw [ha, ← hj] at hsw
          rw [hsw] at hO2
          have hF2 : Fz (fun b => b = g) w ((wr.setCell ⟨g, i, none⟩ (I zi)).setCell ⟨g, j, none⟩ (I xi)) := (hF.set (.inl rfl) _ _).set (.inl rfl) _ _
          exact ⟨a ++ [I xi], I zi :: b, m, by simp; omega, by simp; omega, by rw [hxs]; simp, hO2.drew, hF2.drewN 1⟩
        have HJN : Hid ((j : Int) - 1 = (n : Int) - 1 - ((i + 1 : Nat) : Int)) := by show _ = _; omega
        clear hlen hlt hjn hj hxs ha hb2 hO hF
        go_upto_region 3 with fail
        go_region
        clear c1 c2 f1
        have HI1 : Hid ((i : Int) + 1 = ((i + 1 : Nat) : Int)) := by show _ = _; omega
        generalize ((wr.setCell ⟨g, i, none⟩ (I zi)).setCell ⟨g, j, none⟩ (I xi)).drew = w5 at *
        have hjn2 := HJN.out
        go_wp2
        go_roundw
        case rel => exact ⟨i + 1, by go_num, by rw [← hjn2]; go_num, HN.out⟩
        case measure => simp [intOf]; omega
      · have hge : ¬ ((i : Int) < (n : Int) - 1 - i) := by omega
        have hmid : mid.reverse = mid := by
          match mid, hlt with
          | [], _ => rfl
          | [x], _ => rfl
          | x :: y :: l, h => simp at h
        have HN : Hid (wr.ownsRow q 3 1 (.slice (some ⟨g, 0, none⟩) n cap) n xs.reverse ∧ Fz (fun b => b = g) w wr) := by
          refine ⟨?_, hF⟩
          rw [hxs]
          simp only [List.reverse_append, hmid]
          rw [← List.append_assoc]
          exact hO
        clear hO hF hxs ha hb2 hlen hlt hmid
        go_wp2
        refine bodyPost_end (v := .tuple #[]) (by simp [results, Tryz.results73, go_sem]) rfl ?_
        exact ⟨rfl, HN.out.1, HN.out.2.mono (by rintro x rfl; rfl)⟩
section
variable {w w' : World} {tb : Tb} {Z : Nat → Prop} {y : Ly} {B : Nat} {s : Ls}
theorem Lk.hld_none (h : Lk w tb Z y B s) {o : Own} (hp : y.p o = none) : hld s.L o = [] := by
  cases hh : hld s.L o with
  | nil => rfl
  | cons r l =>
    obtain ⟨b, hb, _⟩ := h.ok.own o r (mem_hld.1 (by rw [hh]; simp))
    obtain ⟨_, q, hq, _⟩ := h.ps o b hb
    rw [hp] at hq
    cases hq
theorem iV_rev (xs : List Int) : (iV xs).reverse = iV xs.reverse := by simp [iV]
set_option maxHeartbeats 4000000 in
set_option maxRecDepth 100000 in
theorem Held_any (h : Lk w tb Z y B s) (o : Own) (ho : o.wf) : Calls Tryz.prog 145 #[lp B, .agg #[.bool o.isr, I o.id]] w fun e w' => ∃ v, e = .returned v ∧ w'.ownsRow w.heap.size 3 1 v (hld s.L o).length (iV (hld s.L o)) ∧ Below w.heap.size w w' := by
  have hb := below_alloc w (.cells #[.bool o.isr, I o.id] 109)
  obtain ⟨y0, y1⟩ := box_own w o
  have h1 := h.below hb
  have hF := find_any h1 o ho
  have HL : Hid (∀ w', Below (w.alloc (.cells #[.bool o.isr, I o.id] 109)).heap.size (w.alloc (.cells #[.bool o.isr, I o.id] 109)) w' → Lk w' tb Z y B s) := fun w' hb' => h1.below hb'
  have HB : Hid (∀ w', Below (w.alloc (.cells #[.bool o.isr, I o.id] 109)).heap.size (w.alloc (.cells #[.bool o.isr, I o.id] 109)) w' → Below w.heap.size w w') := fun w' hb' => hb.trans (hb'.mono (by simp))
  clear h h1 hb
  go_enter Tryz.func145, Tryz.ntmps145
  go_upto_region 1 with fail
  generalize w.alloc (.cells #[.bool o.isr, I o.id] 109) = w1 at *
  go_upto_region 2 with (first | (go_at_call 219; refine hF.mono ?_; clear hF; rintro e w2 ⟨rfl, hb2⟩))
  have h2 := HL.out _ hb2
  have HB2 : Hid (Below w.heap.size w w2) := HB.out _ hb2
  clear HL HB hb2 y0 y1
  cases hp : y.p o with
  | none =>
    simp only [opV, Option.isSome_none]
    have HZ : Hid (hld s.L o = []) := h2.hld_none hp
    clear h2 hp
    go_wp2
    go_ret
    rw [HZ.out]
    exact ⟨_, rfl, World.ownsRow_nil _ _ _ _, HB2.out⟩
  | some q =>
    simp only [opV, Option.isSome_some]
    obtain ⟨b, -, -, hB, -⟩ := h2.pq hp
    obtain ⟨d0, d1, d2, d3, d4, d5⟩ := hB.cells
    obtain ⟨hi, hK⟩ := hB.k
    have hAl := St.All_any (y.sb o) w2
    have hbA := below_alloc w2 (.cells #[iP (y.sb o)] 83)
    have hcA : (w2.alloc (.cells #[iP (y.sb o)] 83)).cell? ⟨w2.heap.size, 0, none⟩ = some (iP (y.sb o)) := by rw [cell_of_row _ _ _ _ _ (0, 0) (heap_alloc_new w2 _)]; rfl
    have hlen : (hld s.L o).length ≤ 1024 := by have h1 := hK.le; have h2 := hK.m; omega
    have hCo := collect_any (w2.alloc (.cells #[iP (y.sb o)] 83)) w2.heap.size (y.sb o) (y.gb o) _ hi (hld s.L o).reverse hcA (by rw [List.reverse_reverse]; exact hK.below hbA)
    have HS : Hid (w.heap.size ≤ w2.heap.size) := HB2.out.size
    have HBA : Hid (∀ w', Below (w2.alloc (.cells #[iP (y.sb o)] 83)).heap.size (w2.alloc (.cells #[iP (y.sb o)] 83)) w' → Below w.heap.size w w') := fun w' hb' => HB2.out.trans ((hbA.trans (hb'.mono (by simp))).mono HB2.out.size)
    have HSA : Hid ((w2.alloc (.cells #[iP (y.sb o)] 83)).heap.size = w2.heap.size + 1) := by show _ = _; simp
    clear h2 hB hK hp hbA hcA HB2
    go_upto_region 5 with (first | (go_at_call 72; refine hAl.mono ?_; clear hAl; rintro e w3 ⟨rfl, rfl⟩) | (go_at_call 233; refine hCo.mono ?_; clear hCo; rintro e w3 ⟨v, rfl, hO, hb3⟩))
    have hR := reverse_any w3 _ _ v _ hO (by intro x hx; obtain ⟨i, _, rfl⟩ := List.mem_map.1 hx; exact ⟨i, rfl⟩) (by rw [List.length_reverse]; omega)
    rw [iV_rev, List.reverse_reverse, List.length_reverse] at hR
    have HO : Hid (∀ b, v.ownBlock = some b → w.heap.size ≤ b) := fun b hb => by have h1 := (hO.lt b hb).1; have h2 := HS.out; have h3 := HSA.out; omega
    have HB3 : Hid (Below w.heap.size w w3) := HBA.out _ hb3
    have HS3 : Hid (w.heap.size ≤ (w2.alloc (.cells #[iP (y.sb o)] 83)).heap.size) := by have h2 := HS.out; have h3 := HSA.out; show _ ≤ _; omega
    clear hO hb3 HBA
    go_wp2_with (first | (go_at_call 73; refine hR.mono ?_; clear hR; rintro e w4 ⟨rfl, hO4, hf4⟩))
    go_ret
    refine ⟨v, rfl, ?_, HB3.out.trans (hf4.below HB3.out.size HO.out)⟩
    obtain ⟨e1, e2 | ⟨g, cap, cur, e3, e4, e5⟩⟩ := hO4
    · exact ⟨e1, .inl e2⟩
    · exact ⟨e1, .inr ⟨g, cap, cur, e3, Nat.le_trans HS3.out e4, e5⟩⟩
end
end Go.Proofs.YtglnfifdjlgbcaaGreatDoor

namespace Go.Proofs.YtglnfifdjlgbcaaGreatDoor
open Go.RowKit Go.Maps Go.Shelf Go.Sort
open Go.Proofs.YtglnfifdjlgbcaaGreatDoor.St (Fx Fz iQ iP iV)
set_option linter.unusedVariables false
set_option linter.unusedSimpArgs false

/-! ### Holder, Enter, Leave, Has -/
section
variable {w w' : World} {tb : Tb} {Z : Nat → Prop} {y : Ly} {B : Nat} {s : Ls}
theorem box_own2 (w : World) (x : Bool) (i : Int) (t : TypeId) : (w.alloc (.cells #[.bool x, I i] t)).heap[w.heap.size]? = some (.cells #[.bool x, I i] t) := heap_alloc_new w _
theorem res_own2 {fn : Func} {n m : Nat} (hf : fn.results = #[.cell n 109, .tmp m]) (tmps : Array Value) (b : Nat) (u : Value) (w : World) (v0 v1 : Value)
    (h2 : tmps[n]? = some (.pointer (some ⟨b, 0, none⟩))) (h3 : tmps[m]? = some u) (hk : w.heap[b]? = some (.cells #[v0, v1] 109 (0, 0))) : (results fn tmps).run Tryz.prog w = .ok (.tuple #[.agg #[v0, v1], u]) w := by
  have a1 := fun i => cell_of_row w b i _ _ (0, 0) hk
  have z0 := a1 0; have z1 := a1 1
  simp at z0 z1
  simp [results, hf, go_sem, h2, h3, z0, z1]
theorem res_gate {fn : Func} {n : Nat} (hf : fn.results = #[.cell n 173]) (tmps : Array Value) (b : Nat) (w : World) (v0 v1 v2 : Value)
    (h2 : tmps[n]? = some (.pointer (some ⟨b, 0, none⟩))) (hk : w.heap[b]? = some (.cells #[v0, v1, v2] 173 (0, 0))) : (results fn tmps).run Tryz.prog w = .ok (.agg #[v0, v1, v2]) w := by
  have a1 := fun i => cell_of_row w b i _ _ (0, 0) hk
  have z0 := a1 0; have z1 := a1 1; have z2 := a1 2
  simp at z0 z1 z2
  simp [results, hf, go_sem, h2, z0, z1, z2]
/-- The lock whose owner o is in its internal resource, or is not. -/
def insF (f : Own → Bool) (o : Own) (x : Bool) : Own → Bool := fun z => if z = o then x else f z
theorem Lk.ins (h : Lk w tb Z y B s) {o : Own} {b : Ob} {q : Nat} (hob : obs tb o = some b) (hq : y.p o = some q) (x : Bool) (hx : x = true → b.inner ≠ -1) : Lk (w.setCell ⟨q, 4, none⟩ (.bool x)) tb Z y B ⟨s.L, insF s.i o x, s.g⟩ ∧ Fz (y.M B) w (w.setCell ⟨q, 4, none⟩ (.bool x)) := by
  have ha := h.apt hq
  have hf : Fz (fun b => b = q) w (w.setCell ⟨q, 4, none⟩ (.bool x)) := (Fz.refl (fun b => b = q) w).set (.inl rfl) _ _
  have hfz : Fz (y.M B) w (w.setCell ⟨q, 4, none⟩ (.bool x)) := hf.mono (by rintro z rfl; exact .inr (.inr (.inr ⟨o, z, hq, .inl rfl⟩)))
  have hZ : ∀ b, Z b → b < w.heap.size → (w.setCell ⟨q, 4, none⟩ (.bool x)).heap[b]? = w.heap[b]? := fun b hb hlt => hfz.block b hlt (h.z b hb)
  have ok : OKl tb ⟨s.L, insF s.i o x, s.g⟩ := ⟨h.ok.nd, h.ok.own, fun z hz => by
    by_cases e : z = o
    · subst e
      refine ⟨b, hob, hx ?_⟩
      simpa [insF] using hz
    · exact h.ok.i z (by simpa [insF, e] using hz), h.ok.g⟩
  refine ⟨⟨ok, h.tk, hf.heap h.o ha.a.1.symm, rows_kept h.r h.zr hZ hf.size, h.zr, h.m.kept (hf.block _ h.m.lt ha.b.1.symm), h.n, h.h.kept (hf.block _ h.h.lt ha.c.1.symm), h.ne, h.pn, fun z bz hz => ?_, h.inj, h.z⟩, hfz⟩
  obtain ⟨hw, qz, hqz, hB, hzz⟩ := h.ps z bz hz
  refine ⟨hw, qz, hqz, ?_, hzz⟩
  obtain ⟨hi, hk⟩ := hB.k
  have hc := h.apt hqz
  by_cases e : z = o
  · subst e
    rw [hq] at hqz
    cases hqz
    refine ⟨?_, rows_kept hB.r hzz hZ hf.size, hi, hk.keptZ hf hc.d.1.symm hc.d.2.1.symm⟩
    have := heap_setCell_same _ q 4 _ _ (.bool x) hB.o
    simpa [insF] using this
  · have h2 := h.ap2 hqz hq e
    refine ⟨?_, rows_kept hB.r hzz hZ hf.size, hi, hk.keptZ hf (fun k => h2 _ (.inr (.inl rfl)) (.inl k)) (fun k => h2 _ (.inr (.inr rfl)) (.inl k))⟩
    have := hf.heap hB.o (fun k => h2 _ (.inl rfl) (.inl k))
    simpa [insF, e] using this
theorem Lk.own (h : Lk w tb Z y B s) (o : Own) : (y.p o = none ∧ obs tb o = none) ∨ ∃ q b, y.p o = some q ∧ obs tb o = some b := by
  cases ho : obs tb o with
  | none => exact .inl ⟨h.pn o ho, rfl⟩
  | some b => obtain ⟨_, q, hq, _⟩ := h.ps o b ho; exact .inr ⟨q, b, hq, rfl⟩
/-- of a task -/
abbrev tkO (i : Int) : Own := ⟨false, i⟩
set_option maxHeartbeats 4000000 in
set_option maxRecDepth 100000 in
theorem lay_no (h : Lk w tb Z y B s) (i : Int) (hi : (tkO i).wf) (hn : obs tb (tkO i) = none) (x : Bool) : Calls Tryz.prog 123 #[lp B, I i, .bool x] w fun e w' => e = .returned (I 2) ∧ Below w.heap.size w w' := by
  have hN := none_any h
  have hF := find_any h (tkO i) hi
  rw [h.pn _ hn] at hF
  clear h hn
  go_enter Tryz.func123, Tryz.ntmps123
  go_wp2_with (first | (go_at_call 177; refine hN.mono ?_; clear hN; rintro e w1 ⟨rfl, rfl⟩) | (go_at_call 219; refine hF.mono ?_; clear hF; rintro e w2 ⟨rfl, hb2⟩; simp only [opV, Option.isSome_none]))
  go_ret
  exact ⟨rfl, hb2⟩
set_option maxHeartbeats 4000000 in
set_option maxRecDepth 100000 in
theorem lay_ok (h : Lk w tb Z y B s) (i : Int) (hi : (tkO i).wf) (b : Ob) (hob : obs tb (tkO i) = some b) (x : Bool) : Calls Tryz.prog 123 #[lp B, I i, .bool x] w fun e w' => e = .returned (I 0) ∧ Lk w' tb Z y B ⟨s.L, insF s.i (tkO i) (x && (b.inner != -1)), s.g⟩ ∧ Fz (y.M B) w w' := by
  have hN := none_any h
  have hF := find_any h (tkO i) hi
  obtain ⟨-, q, hq, -, -⟩ := h.ps _ b hob
  rw [hq] at hF
  have H : Hid (Lk w tb Z y B s) := h
  have HQ : Hid (y.p (tkO i) = some q) := hq
  have HO : Hid (obs tb (tkO i) = some b) := hob
  clear h hq hob
  go_enter Tryz.func123, Tryz.ntmps123
  go_upto_region 4 with (first | (go_at_call 177; refine hN.mono ?_; clear hN; rintro e w1 ⟨rfl, hw1⟩; cases hw1.symm) | (go_at_call 219; refine hF.mono ?_; clear hF; rintro e w2 ⟨rfl, hb2⟩; simp only [opV, Option.isSome_some]))
  have h2 := H.out.below hb2
  obtain ⟨b', hob', -, hB, -⟩ := h2.pq HQ.out
  rw [HO.out] at hob'
  cases hob'
  obtain ⟨d0, d1, d2, d3, d4, d5⟩ := hB.cells
  have df := hB.frz 4
  have HN : Hid (∀ z : Bool, (z = true → b.inner ≠ -1) → Lk (w2.setCell ⟨q, 4, none⟩ (.bool z)) tb Z y B ⟨s.L, insF s.i (tkO i) z, s.g⟩ ∧ Fz (y.M B) w (w2.setCell ⟨q, 4, none⟩ (.bool z))) := fun z hz => by
    obtain ⟨k1, k2⟩ := h2.ins HO.out HQ.out z hz
    exact ⟨k1, (Fz.of_below hb2).trans k2⟩
  clear h2 hB hb2
  cases x with
  | false =>
    go_wp2
    go_ret
    exact ⟨rfl, HN.out false (fun e => by cases e)⟩
  | true =>
    by_cases hin : b.inner = -1
    · have h1 : (b.inner != -1) = false := by simp [hin]
      rw [hin] at d3
      have HI : Hid (b.inner = -1) := hin
      clear hin h1
      go_wp2
      go_ret
      refine ⟨rfl, ?_⟩
      rw [show (true && (b.inner != -1)) = false by simp [HI.out]]
      exact HN.out false (fun e => by cases e)
    · have h1 : (b.inner == -1) = false := beq_eq_false_iff_ne.2 hin
      have HI : Hid (b.inner ≠ -1) := hin
      go_wp2
      go_ret
      refine ⟨rfl, ?_⟩
      rw [show (b.inner != -1) = true by simp [HI.out]]
      exact HN.out true (fun _ => HI.out)
set_option maxHeartbeats 4000000 in
set_option maxRecDepth 100000 in
theorem Enter_no (h : Lk w tb Z y B s) (i : Int) (hi : (tkO i).wf) (hn : obs tb (tkO i) = none) : Calls Tryz.prog 45 #[lp B, I i] w fun e w' => e = .returned (I 2) ∧ Below w.heap.size w w' := by
  have hL := lay_no h i hi hn true
  clear h hn
  go_enter Tryz.func45, Tryz.ntmps45
  go_wp2_with (first | (go_at_call 123; refine hL.mono ?_; clear hL; rintro e w2 ⟨rfl, hb2⟩))
  go_ret
  exact ⟨rfl, hb2⟩
set_option maxHeartbeats 4000000 in
set_option maxRecDepth 100000 in
theorem Leave_no (h : Lk w tb Z y B s) (i : Int) (hi : (tkO i).wf) (hn : obs tb (tkO i) = none) : Calls Tryz.prog 220 #[lp B, I i] w fun e w' => e = .returned (I 2) ∧ Below w.heap.size w w' := by
  have hL := lay_no h i hi hn false
  clear h hn
  go_enter Tryz.func220, Tryz.ntmps220
  go_wp2_with (first | (go_at_call 123; refine hL.mono ?_; clear hL; rintro e w2 ⟨rfl, hb2⟩))
  go_ret
  exact ⟨rfl, hb2⟩
set_option maxHeartbeats 4000000 in
set_option maxRecDepth 100000 in
theorem Enter_ok (h : Lk w tb Z y B s) (i : Int) (hi : (tkO i).wf) (b : Ob) (hob : obs tb (tkO i) = some b) : Calls Tryz.prog 45 #[lp B, I i] w fun e w' => e = .returned (I 0) ∧ Lk w' tb Z y B ⟨s.L, insF s.i (tkO i) (b.inner != -1), s.g⟩ ∧ Fz (y.M B) w w' := by
  have hL := lay_ok h i hi b hob true
  rw [Bool.true_and] at hL
  clear h hob
  go_enter Tryz.func45, Tryz.ntmps45
  go_wp2_with (first | (go_at_call 123; refine hL.mono ?_; clear hL; rintro e w2 ⟨rfl, hb2⟩))
  go_ret
  exact ⟨rfl, hb2⟩
set_option maxHeartbeats 4000000 in
set_option maxRecDepth 100000 in
theorem Leave_ok (h : Lk w tb Z y B s) (i : Int) (hi : (tkO i).wf) (b : Ob) (hob : obs tb (tkO i) = some b) : Calls Tryz.prog 220 #[lp B, I i] w fun e w' => e = .returned (I 0) ∧ Lk w' tb Z y B ⟨s.L, insF s.i (tkO i) false, s.g⟩ ∧ Fz (y.M B) w w' := by
  have hL := lay_ok h i hi b hob false
  rw [Bool.false_and] at hL
  clear h hob
  go_enter Tryz.func220, Tryz.ntmps220
  go_wp2_with (first | (go_at_call 123; refine hL.mono ?_; clear hL; rintro e w2 ⟨rfl, hb2⟩))
  go_ret
  exact ⟨rfl, hb2⟩
theorem Lk.i_none (h : Lk w tb Z y B s) {o : Own} (ho : obs tb o = none) : s.i o = false := by
  cases hh : s.i o with
  | false => rfl
  | true => obtain ⟨b, hb, _⟩ := h.ok.i o hh; rw [ho] at hb; cases hb
set_option maxHeartbeats 4000000 in
set_option maxRecDepth 100000 in
theorem Has_any (h : Lk w tb Z y B s) (i : Int) (hi : (tkO i).wf) : Calls Tryz.prog 168 #[lp B, I i] w fun e w' => e = .returned (.bool (s.i (tkO i))) ∧ Below w.heap.size w w' := by
  have hF := find_any h (tkO i) hi
  have H : Hid (Lk w tb Z y B s) := h
  clear h
  go_enter Tryz.func168, Tryz.ntmps168
  go_upto_region 2 with (first | (go_at_call 219; refine hF.mono ?_; clear hF; rintro e w2 ⟨rfl, hb2⟩))
  have h2 := H.out.below hb2
  have HB : Hid (Below w.heap.size w w2) := hb2
  rcases h2.own (tkO i) with ⟨hp, ho⟩ | ⟨q, b, hp, ho⟩
  · have HI : Hid (s.i (tkO i) = false) := h2.i_none ho
    rw [hp]
    simp only [opV, Option.isSome_none]
    clear h2 hp ho hb2
    go_wp2
    go_ret
    refine ⟨?_, HB.out⟩
    rw [HI.out]
    rfl
  · obtain ⟨b', -, -, hB, -⟩ := h2.pq hp
    obtain ⟨d0, d1, d2, d3, d4, d5⟩ := hB.cells
    rw [hp]
    simp only [opV, Option.isSome_some]
    clear h2 hp ho hb2 hB
    go_wp2
    go_ret
    exact ⟨rfl, HB.out⟩
end
end Go.Proofs.YtglnfifdjlgbcaaGreatDoor

namespace Go.Proofs.YtglnfifdjlgbcaaGreatDoor
open Go.RowKit Go.Maps Go.Shelf Go.Sort
open Go.Proofs.YtglnfifdjlgbcaaGreatDoor.St (Fx Fz iQ iP iV)
set_option linter.unusedVariables false
set_option linter.unusedSimpArgs false
attribute [local go_sem] Oper.semAt_some

/-! ### Priority -/
/-- the greatest of a number and of the ceilings of what is named -/
def ceilOf (tb : Tb) (r : Int) : Int := match tb.ress[r.toNat]? with | some x => x.ceil | none => 0
def topC (tb : Tb) (p : Int) (l : List Int) : Int := l.foldl (fun p r => max p (ceilOf tb r)) p
theorem topC_snoc (tb : Tb) (p : Int) (l : List Int) (r : Int) : topC tb p (l ++ [r]) = max (topC tb p l) (ceilOf tb r) := by simp [topC]
theorem topC_le (tb : Tb) : ∀ (l : List Int) (p x : Int), topC tb p l ≤ x ↔ p ≤ x ∧ ∀ r ∈ l, ceilOf tb r ≤ x
  | [], p, x => by simp [topC]
  | r :: l, p, x => by
    show topC tb (max p (ceilOf tb r)) l ≤ x ↔ _
    rw [topC_le tb l, Int.max_le]
    simp only [List.mem_cons, forall_eq_or_imp, and_assoc]
theorem topC_perm {tb : Tb} {p : Int} {l m : List Int} (h : ∀ r, r ∈ l ↔ r ∈ m) : topC tb p l = topC tb p m := by
  apply Int.le_antisymm
  · exact (topC_le tb l p _).2 (by have := (topC_le tb m p _).1 (Int.le_refl _); exact ⟨this.1, fun r hr => this.2 r ((h r).1 hr)⟩)
  · exact (topC_le tb m p _).2 (by have := (topC_le tb l p _).1 (Int.le_refl _); exact ⟨this.1, fun r hr => this.2 r ((h r).2 hr)⟩)
/-- an owner's current priority -/
def prioO (tb : Tb) (s : Ls) (o : Own) : Int := match obs tb o with
  | some b => if s.i o = true then max (topC tb b.prio (hld s.L o)) b.inner else topC tb b.prio (hld s.L o)
  | none => -1
def mx19 (a b : Int) : Int := max a b
theorem max_two19 (ats : Array TypeId) (ty : TypeId) (a b : Int) : Builtin.max_ ats ty #[.int .i64 a, .int .i64 b] = pure (.int .i64 (mx19 a b)) := by
  show (do let s ← Builtin.max2 (.int .i64 a) (.int .i64 b); pure s : Sem Value) = _
  simp only [Builtin.max2]
  show (pure _ : Sem Value) = _
  congr 2
  unfold mx19
  split <;> omega
attribute [local go_sem 5000] max_two19
theorem box_own_one {β : Type} (c : Nat) (t : TypeId) (f : β → Value) : Go.Own (fun (pre : β) W => Boxed W c t (f pre)) := by
  intro s X Y row hv hg hrow
  refine hv.kept hg (fun e' => ?_)
  obtain ⟨o, ho, hc⟩ := hrow c e'.symm
  rw [show X.heap[c]? = _ from hv] at ho
  cases ho
  cases hc
theorem Kq_one (c : Nat) (W W' : World) (v : Value) (hW : W'.heap = (W.setCell ⟨c, 0, none⟩ v).heap) : St.Kq (fun _ b => b = c) W W' :=
  ⟨by rw [hW]; simp, fun b cs ty hm hb => ⟨by rw [hW, heap_setCell_other W ⟨c, 0, none⟩ b _ hm]; exact hb, hm⟩⟩
set_option maxRecDepth 100000 in
set_option maxHeartbeats 4000000 in
/-- The iterator, for every loop body that keeps what is none of M's. -/
theorem All1_g {α : Type} (v : α → Int) (n : Nat) (hn : 1 ≤ n) (l Bn : Nat) (M : World → Nat → Prop) (xs : List α) (B g m hi : Nat) (J Jx : List α → World → Prop)
    (W : World) (hBn : W.cell? ⟨Bn, 0, none⟩ = some (iP B)) (hL : iQ W B g m hi (xs.map v).reverse) (hMW : ∀ W' b, Below W.heap.size W W' → M W' b → b < W.heap.size) (hJ : AbidesFrom W.heap.size J)
    (hY : ∀ pre x W, J pre W → pre.length < xs.length → YieldAt Fence.wide (n - 1) Tryz.prog l #[.int .i64 (v x)] W fun e W' =>
      (e = .returned (.bool true) ∧ J (pre ++ [x]) W' ∧ St.Kq M W W') ∨ (e = .returned (.bool false) ∧ Jx (pre ++ [x]) W'))
    (h0 : J [] W) :
    CallsIn Fence.wide n Tryz.prog 172 #[.func (.yield l) #[] #[], .pointer (some ⟨Bn, 0, none⟩)] W fun e W' => (∃ v, e = .returned v) ∧
      ((∃ ys, ys = xs ∧ J ys W') ∨ (∃ pre, pre <+: xs ∧ Jx pre W')) := by
  have hLi := St.list_any hL
  simp only [List.length_map] at hLi
  have hle := hL.le
  rw [List.length_reverse, List.length_map] at hle
  obtain ⟨R, hR⟩ := hL
  have hN := St.inone_any hR
  have hm := hR.m
  refine callsIn_of_wp Tryz.func172 rfl trivial ?_ rfl
  simp only [Tryz.ntmps172, List.size_toArray, List.length_cons, List.length_nil, Nat.reduceAdd, Nat.reduceSub, Array.replicate_succ, Array.replicate_zero, List.push_toArray, List.append_toArray, List.nil_append, List.cons_append]
  gi_wp2_with (first
    | (refine ⟨trivial, ?_⟩; gi_at_call 130; refine (callsIn_wide.2 hN).mono ?_; rintro e w1 ⟨rfl, rfl⟩)
    | (refine ⟨trivial, ?_⟩; gi_at_call 173; refine (callsIn_wide.2 hLi).mono ?_; rintro e w1 ⟨X, cap, rfl, ho, hb⟩))
  have hX := ho.lt X rfl
  obtain ⟨cur, hcur⟩ : ∃ cur, w1.heap[X]? = some (.cells cur 3) := by
    rcases ho.2 with ⟨h1, _⟩ | ⟨g', cap', cur, h1, _, hh, _⟩
    · cases h1
    · cases h1; exact ⟨cur, hh⟩
  have hxs : ∀ k x, xs[k]? = some x → cur[k]? = some (I (v x)) := fun k x hk => by
    have hkl := (List.getElem?_eq_some_iff.1 hk).1
    have := ho.cellAt k (by simp [iV]; exact hkl)
    rw [cell_of_row w1 X k _ _ (0, 0) hcur] at this
    rw [this]
    simp [iV, hk]
  have HR : Hid (J [] w1 ∧ w1.heap[X]? = some (.cells cur 3) ∧ ¬ M w1 X) := ⟨hJ [] W w1 none h0 (grown_of_below hb) (fun r e => by cases e), hcur, fun e => by have := hMW w1 X hb e; omega⟩
  clear hcur ho hLi hN hR h0
  gi_loopw [10] (fun i wr => ∃ k : Nat, k ≤ xs.length ∧ i = .int .i64 k ∧ Hid (J (xs.take k) wr ∧ wr.heap[X]? = some (.cells cur 3) ∧ ¬ M wr X))
    (fun i _ => xs.length - (intOf i).toNat)
  case atStart => exact ⟨0, Nat.zero_le _, rfl, HR.out⟩
  case round =>
    clear HR
    obtain ⟨k, hk, rfl, HJ⟩ := hrel
    obtain ⟨hJs, hcu, hMx⟩ := HJ.out
    by_cases hlt : k < xs.length
    · obtain ⟨x, hx⟩ : ∃ x, xs[k]? = some x := ⟨_, List.getElem?_eq_getElem hlt⟩
      have hltI : (k : Int) < xs.length := by omega
      obtain ⟨fn, tmps, assign, body, hy, hRR⟩ := hY _ x wr hJs (by simp; omega)
      have hcx : wr.cell? ⟨X, k, none⟩ = some (I (v x)) := by rw [cell_of_row wr X k _ _ (0, 0) hcu]; exact hxs k x hx
      have htk : Hid (xs.take (k + 1) = xs.take k ++ [x]) := by
        show _ = _
        rw [List.take_add_one, hx]; rfl
      clear HJ
      gi_wp2
      refine hRR.mono ?_
      rintro e W3 (⟨rfl, hJ3, hk3⟩ | ⟨rfl, hJx3⟩)
      · have H9 : Hid (J (xs.take (k + 1)) W3 ∧ W3.heap[X]? = some (.cells cur 3) ∧ ¬ M W3 X) := by
          rw [htk.out]
          exact ⟨hJ3, hk3.same X _ _ hMx hcu⟩
        clear hJ3 hk3 hcu hMx hJs hcx htk
        gi_wp2
        go_roundw
        case rel => exact ⟨k + 1, by omega, by go_num, H9.out⟩
        case measure => simp [intOf]; omega
      · gi_wp2
        refine bodyPost_ret (results_none rfl _ _ _) rfl ?_
        exact ⟨⟨_, rfl⟩, .inr ⟨_, ⟨xs.drop (k + 1), by rw [← htk.out]; exact List.take_append_drop _ _⟩, hJx3⟩⟩
    · obtain rfl : k = xs.length := by omega
      have hge : ¬ ((xs.length : Int) < xs.length) := by omega
      gi_wp2
      go_end0
      rw [List.take_length] at hJs
      exact ⟨⟨_, rfl⟩, .inl (by simpa using hJs)⟩
/-- r.All() hands back a value that 'SeqStopsK'. -/
theorem All_stopsG {α : Type} (v : α → Int) (n : Nat) (hn : 1 ≤ n) (Bn : Nat) (M : World → Nat → Prop) (xs : List α) (B g m hi : Nat) (w : World) (hBl : Bn < w.heap.size) (hBn : w.cell? ⟨Bn, 0, none⟩ = some (iP B)) (hL : iQ w B g m hi (xs.map v).reverse) (hMW : ∀ W' b, Below w.heap.size w W' → M W' b → b < w.heap.size) :
    SeqStopsK Fence.wide n Tryz.prog 172 #[.pointer (some ⟨Bn, 0, none⟩)] (fun x : α => #[Value.int .i64 (v x)]) (St.Kq M) (fun ys => ys = xs) (fun pre => pre <+: xs) xs.length w := fun l J Jx W hW hJ _ hY h0 =>
  All1_g v n hn l Bn M xs B g m hi J Jx W ((hW.cell (p := ⟨Bn, 0, none⟩) hBl).trans hBn) (hL.below hW) (fun W' b hb hm => Nat.lt_of_lt_of_le (hMW W' b (hW.trans (hb.mono hW.size)) hm) hW.size) hJ hY h0
section
variable {w w' : World} {tb : Tb} {Z : Nat → Prop} {y : Ly} {B : Nat} {s : Ls}
set_option maxHeartbeats 4000000 in
set_option maxRecDepth 100000 in
theorem Priority_ok (h : Lk w tb Z y B s) (o : Own) (ho : o.wf) (b : Ob) (hob : obs tb o = some b) : Calls Tryz.prog 137 #[lp B, .agg #[.bool o.isr, I o.id]] w fun e w' => e = .returned (I (prioO tb s o)) ∧ Below w.heap.size w w' := by
  have hse := St.seq_some
  obtain ⟨-, q, hq, -, -⟩ := h.ps o b hob
  have hb0 := below_alloc w (.cells #[lp B] 78)
  have hbw : Below w.heap.size w ((w.alloc (.cells #[lp B] 78)).alloc (.cells #[.bool o.isr, I o.id] 109)) := hb0.trans ((below_alloc _ _).mono (by simp))
  have h1 := h.below hbw
  have hF := find_any h1 o ho
  rw [hq] at hF
  have hbox : ((w.alloc (.cells #[lp B] 78)).alloc (.cells #[.bool o.isr, I o.id] 109)).cell? ⟨w.heap.size, 0, none⟩ = some (lp B) := ((Boxed.new w 78 (lp B)).alloc _).cell
  have y0 : ((w.alloc (.cells #[lp B] 78)).alloc (.cells #[.bool o.isr, I o.id] 109)).cell? ⟨w.heap.size + 1, 0, none⟩ = some (.bool o.isr) := by
    have := (box_own (w.alloc (.cells #[lp B] 78)) o).1
    rwa [World.size_alloc] at this
  have y1 : ((w.alloc (.cells #[lp B] 78)).alloc (.cells #[.bool o.isr, I o.id] 109)).cell? ⟨w.heap.size + 1, 1, none⟩ = some (I o.id) := by
    have := (box_own (w.alloc (.cells #[lp B] 78)) o).2
    rwa [World.size_alloc] at this
  refine (callsIn_wide (n := 3)).1 ?_
  refine callsIn_of_wp_marks Tryz.func137 rfl trivial ?_ rfl
  simp only [Tryz.ntmps137, List.size_toArray, List.length_cons, List.length_nil, Nat.reduceAdd, Nat.reduceSub, Array.replicate_succ, Array.replicate_zero, List.push_toArray, List.append_toArray, List.nil_append, List.cons_append]
  have HL : Hid (Lk w tb Z y B s) := h
  clear h h1
  gi_upto_region 1 with fail
  have HB1 : Hid (∀ w', Below ((w.alloc (.cells #[lp B] 78)).alloc (.cells #[.bool o.isr, I o.id] 109)).heap.size ((w.alloc (.cells #[lp B] 78)).alloc (.cells #[.bool o.isr, I o.id] 109)) w' → Below w.heap.size w w' ∧ w'.cell? ⟨w.heap.size, 0, none⟩ = some (lp B)) := fun w' hb' => ⟨hbw.trans (hb'.mono (by simp; omega)), (cell_below hb' _ _ (by simp; omega)).trans hbox⟩
  have HO : Hid (obs tb o = some b) := hob
  have HQ : Hid (y.p o = some q) := hq
  clear hbw hob hq hb0
  generalize (w.alloc (.cells #[lp B] 78)).alloc (.cells #[.bool o.isr, I o.id] 109) = w1 at *
  gi_upto_region 2 with (first | (refine ⟨trivial, ?_⟩; gi_at_call 219; refine (callsIn_wide.2 hF).mono ?_; clear hF; rintro e w2 ⟨rfl, hb2⟩; simp only [opV, Option.isSome_some]))
  obtain ⟨bw2, cl2⟩ := HB1.out _ hb2
  have h2 := HL.out.below bw2
  have HBW : Hid (Below w.heap.size w w2) := bw2
  obtain ⟨b', hob', -, hB, -⟩ := h2.pq HQ.out
  rw [HO.out] at hob'
  cases hob'
  obtain ⟨d0, d1, d2, d3, d4, d5⟩ := hB.cells
  have H2 : Hid (Lk w2 tb Z y B s) := h2
  clear hB bw2 hb2 HB1 y0 y1 h2 hbox
  gi_upto_region 5 with fail
  have hp0 := Boxed.new w2 3 (I b.prio)
  have hbp := below_alloc w2 (.cells #[I b.prio] 3)
  have h3 := H2.out.below hbp
  have cl3 := (cell_below hbp _ 0 (World.block_lt_of_cell? w2 _ cl2)).trans cl2
  have hS3 : (w2.alloc (.cells #[I b.prio] 3)).heap.size = w2.heap.size + 1 := by simp
  have HCL : Hid (w2.cell? ⟨w.heap.size, 0, none⟩ = some (lp B)) := cl2
  clear d0 d1 d2 d3 d4 d5 cl2
  obtain ⟨b', hob', -, hB, -⟩ := h3.pq HQ.out
  rw [HO.out] at hob'
  cases hob'
  obtain ⟨d0, d1, d2, d3, d4, d5⟩ := hB.cells
  obtain ⟨hi, hK⟩ := hB.k
  have hAl := St.All_any (y.sb o) (w2.alloc (.cells #[I b.prio] 3))
  have hbA := below_alloc (w2.alloc (.cells #[I b.prio] 3)) (.cells #[iP (y.sb o)] 83)
  have hK4 := hK.below hbA
  have hp4 := hp0.alloc (.cells #[iP (y.sb o)] 83)
  have bN := Boxed.new (w2.alloc (.cells #[I b.prio] 3)) 83 (iP (y.sb o))
  rw [hS3] at bN
  have hb24 : Below w2.heap.size w2 ((w2.alloc (.cells #[I b.prio] 3)).alloc (.cells #[iP (y.sb o)] 83)) := hbp.trans (hbA.mono (by simp))
  clear hB h3 hbp hbA hp0 hK hS3
  gi_wp2_with (first | (refine ⟨trivial, ?_⟩; gi_at_call 72; refine (callsIn_wide.2 hAl).mono ?_; clear hAl; rintro e w4 ⟨rfl, rfl⟩))
  refine wpIn_rangeFunc_ownG rfl (by omega) (gf := 172) (lb := #[.pointer (some ⟨w2.heap.size + 1, 0, none⟩)]) rfl trivial (enters_of Tryz.func172 (by kernel_rfl) rfl)
    (All_stopsG (fun x : {r : Int // r ∈ hld s.L o} => x.1) (3 - 1) (by omega) (w2.heap.size + 1) (fun _ x => x = w2.heap.size) (hld s.L o).attach.reverse (y.sb o) (y.gb o) b.own.length hi _ (by simp) bN.cell (by rw [← List.map_reverse, List.reverse_reverse, List.attach_map_subtype_val]; exact hK4) (fun W' x hb hm => by subst hm; simp; omega)) St.Kq.trans (St.Kq.put (fun W l o x hl hm => hm)) (Below.refl _ _) (fun _ => rfl)
    (fun pre W => Boxed W w2.heap.size 3 (I (topC tb b.prio (pre.map (·.1)))) ∧ Below w2.heap.size w2 W)
    (fun _ _ _ => False)
    (OwnFrom.and (Own.from (box_own_one w2.heap.size 3 (fun (pre : List {r : Int // r ∈ hld s.L o}) => I (topC tb b.prio (pre.map (·.1))))) _) (ownFrom_below (Nat.le_refl _) (by simp; omega)))
    (fun _ _ _ _ _ hs _ _ => hs)
    ⟨hp4, hb24⟩
    ?a1 ?assign ?body ?done ?stop
  case assign =>
    intro l x W K hK
    gi_wp2
    exact hK
  case body =>
    rintro l pre ⟨x, hx⟩ W ⟨hv, hB⟩ hlt
    have h9 := H2.out.below hB
    obtain ⟨b', hb', hxo⟩ := h9.ok.own o x (mem_hld.1 hx)
    obtain ⟨hx0, r, hr, -, -⟩ := (h9.tk.own o b' hb').2 x hxo
    obtain ⟨k, rfl⟩ := Int.eq_ofNat_of_zero_le hx0
    rw [Int.toNat_natCast] at hr
    obtain ⟨g, off, e1, hg, q0, q1⟩ := h9.res hr
    obtain ⟨n1, n2, n3⟩ := h9.rn
    obtain ⟨c0, c1, c2, c3, c4, c5⟩ := h9.cells
    rw [e1] at c0
    have hk0 : k < tb.ress.length := (List.getElem?_eq_some_iff.1 hr).1
    have hk1 : (k : Int) < y.rs.n := by omega
    have hcb := (cell_below hB _ 0 (World.block_lt_of_cell? w2 _ HCL.out)).trans HCL.out
    have hc := hv.cell
    have hf := hv.frozen
    have HV : Hid (Boxed W w2.heap.size 3 (I (topC tb b.prio (pre.map (·.1)))) ∧ Below w2.heap.size w2 W) := ⟨hv, hB⟩
    have HC : Hid (ceilOf tb (k : Int) = r.ceil) := by show _ = _; unfold ceilOf; rw [Int.toNat_natCast, hr]
    clear h9 hb' hxo hx0 hr e1 n1 hk0 c1 c2 c3 c4 c5 hv hB
    have HP : Hid (∀ W' : World, W'.heap = (W.setCell ⟨w2.heap.size, 0, none⟩ (I (mx19 (topC tb b.prio pre.unattach) r.ceil))).heap → W'.os = W.os → W'.tape = W.tape → W'.output = W.output → KeepsFrom ((w2.alloc (.cells #[I b.prio] 3)).alloc (.cells #[iP (y.sb o)] 83)).heap.size W W' ∧ St.Kq (fun _ x => x = w2.heap.size) W W' ∧ Boxed W' w2.heap.size 3 (I (topC tb b.prio ((pre ++ [(⟨(k : Int), hx⟩ : {r : Int // r ∈ hld s.L o})]).map (fun z => z.1)))) ∧ Below w2.heap.size w2 W') := by
      intro W' e1 e2 e3 e4
      obtain ⟨hv, hB⟩ := HV.out
      have hg0 := grown_set W w2.heap.size 0 (I (mx19 (topC tb b.prio pre.unattach) r.ceil))
      have hg : W.grownBy W' (some w2.heap.size) := ⟨e2, e3, e4, by rw [e1]; exact hg0.size, fun i hi hn => by rw [e1]; exact hg0.block i hi hn⟩
      refine ⟨KeepsFrom.of_grownBy hg (fun j e => by cases e; simp; omega), Kq_one _ W W' _ e1, ?_, hB.trans (below_of_grown hg (Nat.le_refl _) hB.size)⟩
      have := hv.set (I (mx19 (topC tb b.prio pre.unattach) r.ceil))
      show W'.heap[w2.heap.size]? = _
      rw [e1, List.map_append, List.map_singleton, topC_snoc, HC.out]
      exact this
    gi_wp2
    gi_region
    all_goals (simp only [Exit.inBlock]; exact HP.out _ rfl rfl rfl rfl)
  case done =>
    rintro D ys W hD rfl ⟨hv, hB⟩ hK
    have h9 := H2.out.below hB
    obtain ⟨b', hob', -, hB9, -⟩ := h9.pq HQ.out
    rw [HO.out] at hob'
    cases hob'
    obtain ⟨d0, d1, d2, d3, d4, d5⟩ := hB9.cells
    have hm : topC tb b.prio ((hld s.L o).attach.reverse.map (·.1)) = topC tb b.prio (hld s.L o) := topC_perm (fun r => by rw [List.map_reverse, List.mem_reverse, List.attach_map_subtype_val])
    rw [hm] at hv
    have hc := hv.cell
    have hf := hv.frozen
    have HV : Hid (Boxed W w2.heap.size 3 (I (topC tb b.prio (hld s.L o))) ∧ Below w2.heap.size w2 W) := ⟨hv, hB⟩
    have HK : Hid (W.heap[D]? = some (.deferred (some [])) ∧ w2.heap.size < D) := ⟨hK, by simp at hD; omega⟩
    clear h9 hB9 hv hB hK hm
    have HP : Hid (∀ W' : World, Below w2.heap.size w2 W' → W'.heap[D]? = some (.deferred (some [])) → Below w.heap.size w (W'.putObj D (.deferred none))) := by
      intro W' hb hK
      have := hb.trans (belowK_b (w := w2) (Nat.le_refl _) W' D _ (.deferred none) (by have := HK.out.2; omega) hK rfl rfl)
      exact HBW.out.trans (this.mono HBW.out.size)
    cases hi0 : s.i o with
    | false =>
      rw [hi0] at d4
      gi_wp2
      refine ⟨by simp, .inl ⟨_, _, rfl, run_takeDeferred HK.out.1, ?_⟩⟩
      refine ⟨_, results_tmp rfl _ _ _, ?_, HP.out W HV.out.2 HK.out.1⟩
      unfold prioO
      rw [HO.out]
      simp [hi0]
    | true =>
      rw [hi0] at d4
      have HZ : Hid (∀ W' : World, W'.heap = (W.setCell ⟨w2.heap.size, 0, none⟩ (I (mx19 (topC tb b.prio (hld s.L o)) b.inner))).heap → W'.os = W.os → W'.tape = W.tape → W'.output = W.output → W'.cell? ⟨w2.heap.size, 0, none⟩ = some (I (mx19 (topC tb b.prio (hld s.L o)) b.inner)) ∧ Below w2.heap.size w2 W' ∧ W'.heap[D]? = some (.deferred (some []))) := by
        intro W' e1 e2 e3 e4
        obtain ⟨hv, hB⟩ := HV.out
        have hg0 := grown_set W w2.heap.size 0 (I (mx19 (topC tb b.prio (hld s.L o)) b.inner))
        have hg : W.grownBy W' (some w2.heap.size) := ⟨e2, e3, e4, by rw [e1]; exact hg0.size, fun i hi hn => by rw [e1]; exact hg0.block i hi hn⟩
        have h3 : Boxed W' w2.heap.size 3 (I (mx19 (topC tb b.prio (hld s.L o)) b.inner)) := by
          show W'.heap[w2.heap.size]? = _
          rw [e1]
          exact hv.set _
        refine ⟨h3.cell, hB.trans (below_of_grown hg (Nat.le_refl _) hB.size), ?_⟩
        rw [hg.block D (heap_lt HK.out.1) (fun e => by have := HK.out.2; cases e; omega)]
        exact HK.out.1
      gi_wp2
      gi_region
      obtain ⟨k1, k2, k3⟩ := HZ.out ((W.setCell ⟨w2.heap.size, 0, none⟩ (I (mx19 (topC tb b.prio (hld s.L o)) b.inner))).drew) rfl rfl rfl rfl
      have HF : Hid (Below w2.heap.size w2 ((W.setCell ⟨w2.heap.size, 0, none⟩ (I (mx19 (topC tb b.prio (hld s.L o)) b.inner))).drew) ∧ ((W.setCell ⟨w2.heap.size, 0, none⟩ (I (mx19 (topC tb b.prio (hld s.L o)) b.inner))).drew).heap[D]? = some (.deferred (some []))) := ⟨k2, k3⟩
      clear hc hf d0 d1 d2 d3 d4 d5 k2 k3 HZ
      generalize (W.setCell ⟨w2.heap.size, 0, none⟩ (I (mx19 (topC tb b.prio (hld s.L o)) b.inner))).drew = W5 at *
      gi_wp2
      refine ⟨by simp, .inl ⟨_, _, rfl, run_takeDeferred HF.out.2, ?_⟩⟩
      refine ⟨_, results_tmp rfl _ _ _, ?_, HP.out W5 HF.out.1 HF.out.2⟩
      unfold prioO
      rw [HO.out]
      simp [hi0, mx19]
  case stop =>
    rintro D c pre W _ _ h _
    exact h.elim
end
end Go.Proofs.YtglnfifdjlgbcaaGreatDoor

namespace Go.Proofs.YtglnfifdjlgbcaaGreatDoor
open Go.RowKit Go.Maps Go.Shelf Go.Sort
open Go.Proofs.YtglnfifdjlgbcaaGreatDoor.St (Fx Fz iQ iP iV)
set_option linter.unusedVariables false
set_option linter.unusedSimpArgs false

section
variable {w w' : World} {tb : Tb} {Z : Nat → Prop} {y : Ly} {B : Nat} {s : Ls}
set_option maxHeartbeats 4000000 in
set_option maxRecDepth 100000 in
theorem Priority_no (h : Lk w tb Z y B s) (o : Own) (ho : o.wf) (hob : obs tb o = none) : Calls Tryz.prog 137 #[lp B, .agg #[.bool o.isr, I o.id]] w fun e w' => e = .returned (I (prioO tb s o)) ∧ Below w.heap.size w w' := by
  have hb0 := below_alloc w (.cells #[lp B] 78)
  have hbw : Below w.heap.size w ((w.alloc (.cells #[lp B] 78)).alloc (.cells #[.bool o.isr, I o.id] 109)) := hb0.trans ((below_alloc _ _).mono (by simp))
  have h1 := h.below hbw
  have hF := find_any h1 o ho
  rw [h.pn _ hob] at hF
  have hbox : ((w.alloc (.cells #[lp B] 78)).alloc (.cells #[.bool o.isr, I o.id] 109)).cell? ⟨w.heap.size, 0, none⟩ = some (lp B) := ((Boxed.new w 78 (lp B)).alloc _).cell
  have y0 : ((w.alloc (.cells #[lp B] 78)).alloc (.cells #[.bool o.isr, I o.id] 109)).cell? ⟨w.heap.size + 1, 0, none⟩ = some (.bool o.isr) := by
    have := (box_own (w.alloc (.cells #[lp B] 78)) o).1
    rwa [World.size_alloc] at this
  have y1 : ((w.alloc (.cells #[lp B] 78)).alloc (.cells #[.bool o.isr, I o.id] 109)).cell? ⟨w.heap.size + 1, 1, none⟩ = some (I o.id) := by
    have := (box_own (w.alloc (.cells #[lp B] 78)) o).2
    rwa [World.size_alloc] at this
  have HB1 : Hid (∀ w', Below ((w.alloc (.cells #[lp B] 78)).alloc (.cells #[.bool o.isr, I o.id] 109)).heap.size ((w.alloc (.cells #[lp B] 78)).alloc (.cells #[.bool o.isr, I o.id] 109)) w' → Below w.heap.size w w') := fun w' hb' => hbw.trans (hb'.mono (by simp; omega))
  have HO : Hid (obs tb o = none) := hob
  clear h h1 hbw hb0 hob
  go_enter Tryz.func137, Tryz.ntmps137
  go_upto_region 1 with fail
  generalize (w.alloc (.cells #[lp B] 78)).alloc (.cells #[.bool o.isr, I o.id] 109) = w1 at *
  go_wp2_with (first | (go_at_call 219; refine hF.mono ?_; clear hF; rintro e w2 ⟨rfl, hb2⟩; simp only [opV, Option.isSome_none]))
  go_ret
  refine ⟨?_, HB1.out _ hb2⟩
  unfold prioO
  rw [HO.out]
  rfl
theorem Priority_any (h : Lk w tb Z y B s) (o : Own) (ho : o.wf) : Calls Tryz.prog 137 #[lp B, .agg #[.bool o.isr, I o.id]] w fun e w' => e = .returned (I (prioO tb s o)) ∧ Below w.heap.size w w' := by
  cases hob : obs tb o with
  | none => exact Priority_no h o ho hob
  | some b => exact Priority_ok h o ho b hob
end
end Go.Proofs.YtglnfifdjlgbcaaGreatDoor

