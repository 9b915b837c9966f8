import Derived.Test.YtmllocfeflhjoaaGreatXQh
import Derived.RangeFuncNested
import Derived.RangeFuncBound
import Derived.RangeFuncCalls
import Derived.RangeFuncLeaves
import Derived.RangeFuncBox
import Derived.Shelf.Abstract
import Derived.Shelf.RegionOpen
import Derived.WalkKit
import Derived.OwnWalkIn
import Derived.TacticsInMore
import Derived.LoopNIn
import Derived.LoopIn
import Derived.Maps.OwnIn
import Derived.Maps.AppendAt
import Derived.Test.YtmllocfeflhjoaaGreatXQb
import Derived.Deep.RegionLaw
namespace Go.Proofs.YtmllocfeflhjoaaGreat
open Go.RowKit Go.Maps Go.Shelf Go.Sort
open Go.Proofs.YtmllocfeflhjoaaGreat.St (Fx Fz iQ iP iV)
set_option linter.unusedVariables false
set_option linter.unusedSimpArgs false

/-! ### Drop -/
def nodS (L : Tks) (D : List Int) : Tks := L.filter fun t => decide (t.2 ∉ D)
def nodO (L : Tks) (o : Own) : Tks := L.filter fun t => decide (t.1 ≠ o)
theorem nodS_nil (L : Tks) : nodS L [] = L := List.filter_eq_self.2 (fun x _ => by simp)
theorem nodS_snoc (L : Tks) (D : List Int) (r : Int) : nodR (nodS L D) r = nodS L (D ++ [r]) := by
  unfold nodR nodS
  rw [List.filter_filter]
  apply List.filter_congr
  intro t _
  simp [not_or, Bool.and_comm]
theorem nodS_own {L : Tks} (hn : (L.map (·.2)).Nodup) (o : Own) : nodS L (hld L o).reverse = nodO L o := by
  unfold nodS nodO
  apply List.filter_congr
  intro t ht
  have : t.2 ∈ (hld L o).reverse ↔ t.1 = o := by
    rw [List.mem_reverse, mem_hld]
    constructor
    · intro h
      have h1 := hdr_mem hn h
      have h2 := hdr_mem hn (show (t.1, t.2) ∈ L from ht)
      rw [h1] at h2
      injection h2 with h2
      exact h2.symm
    · rintro rfl
      exact ht
  simp [this]
theorem hld_nodO (L : Tks) (o x : Own) : hld (nodO L o) x = if x = o then [] else hld L x := by
  unfold hld nodO
  rw [List.filter_filter]
  by_cases e : x = o
  · rw [if_pos e]
    have : L.filter (fun t => decide (t.1 = x) && decide (t.1 ≠ o)) = [] := List.filter_eq_nil_iff.2 (fun t _ => by simp [e])
    rw [this]
    rfl
  · rw [if_neg e]
    congr 1
    apply List.filter_congr
    intro t _
    by_cases h : t.1 = x
    · simp [h, e]
    · simp [h]
theorem ok_nodO {tb : Tb} {s : Ls} (ok : OKl tb s) (o : Own) : OKl tb ⟨nodO s.L o, s.i, s.g⟩ := by
  refine ⟨ok.nd.sublist (List.filter_sublist.map _), fun x z hx => ok.own x z (List.mem_filter.1 hx).1, ok.i, ok.g⟩
theorem row_at {w : World} {b e n X cap : Nat} {xs : List Value} (h : w.ownsRow b e 1 (.slice (some ⟨X, 0, none⟩) n cap) n xs) : b ≤ X ∧ X < w.heap.size ∧ n ≤ cap ∧ cap ≤ maxLen ∧ ∀ j v, xs[j]? = some v → w.cell? ⟨X, j, none⟩ = some v := by
  obtain ⟨hl, ⟨h1, _⟩ | ⟨g, cap', cur, hv, hb, hh, h1, h2, h3, h4⟩⟩ := h
  · cases h1
  · cases hv
    refine ⟨hb, heap_lt hh, h1, h2, fun j v hj => ?_⟩
    rw [cell_of_row w _ j _ _ (0, 0) hh, ← Array.getElem?_toList]
    have hlt := (List.getElem?_eq_some_iff.1 hj).1
    rw [← h4] at hj hlt
    rw [List.length_take] at hlt
    rw [List.getElem?_take_of_lt (by omega)] at hj
    exact hj
section
variable {w w' : World} {tb : Tb} {Z : Nat → Prop} {y : Ly} {B : Nat} {s : Ls}
theorem Lk.wfr (h : Lk w tb Z y B s) {o : Own} {r : Int} (hr : r ∈ hld s.L o) : (Lit.int .i64 r).wf = true := by
  obtain ⟨b, hb, hr⟩ := h.ok.own o r (mem_hld.1 hr)
  exact own_wf h.tk hb hr
set_option maxHeartbeats 4000000 in
set_option maxRecDepth 100000 in
theorem Drop_none (h : Lk w tb Z y B s) (o : Own) (ho : o.wf) (hl : hld s.L o = []) : Calls Tryz.prog 17 #[lp B, .agg #[.bool o.isr, I o.id]] w fun e w' => e = .returned (.tuple #[I (-1), .bool false]) ∧ Below w.heap.size w w' := by
  have hb := below_alloc w (.cells #[.bool o.isr, I o.id] 23)
  obtain ⟨y0, y1⟩ := box_own w o
  have h1 := h.below hb
  have hF := find_any h1 o ho
  have HL : Hid (∀ w', Below (w.alloc (.cells #[.bool o.isr, I o.id] 23)).heap.size (w.alloc (.cells #[.bool o.isr, I o.id] 23)) w' → Lk w' tb Z y B s) := fun w' hb' => h1.below hb'
  have HB : Hid (∀ w', Below (w.alloc (.cells #[.bool o.isr, I o.id] 23)).heap.size (w.alloc (.cells #[.bool o.isr, I o.id] 23)) w' → Below w.heap.size w w') := fun w' hb' => hb.trans (hb'.mono (by simp))
  have HLL : Hid (hld s.L o = []) := hl
  clear h h1 hb hl
  go_enter Tryz.func17, Tryz.ntmps17
  go_upto_region 1 with fail
  generalize w.alloc (.cells #[.bool o.isr, I o.id] 23) = w1 at *
  go_upto_region 2 with (first | (go_at_call 58; refine hF.mono ?_; clear hF; rintro e w2 ⟨rfl, hb2⟩))
  have h2 := HL.out _ hb2
  have HB2 : Hid (Below w.heap.size w w2) := HB.out _ hb2
  clear HL HB hb2 y0 y1
  cases hp : y.p o with
  | none =>
    simp only [opV, Option.isSome_none]
    clear h2 hp
    go_wp2
    go_ret2
    exact ⟨rfl, HB2.out⟩
  | some q =>
    simp only [opV, Option.isSome_some]
    obtain ⟨b, -, -, hB, -⟩ := h2.pq hp
    obtain ⟨d0, d1, d2, d3, d4, d5⟩ := hB.cells
    obtain ⟨hi, hK⟩ := hB.k
    rw [HLL.out] at hK
    have hT := St.iLenQ hK
    simp only [List.length_nil, Int.ofNat_zero] at hT
    clear h2 hB hK hp
    go_wp2_with (first | (go_at_call 59; refine hT.mono ?_; clear hT; rintro e w3 ⟨rfl, rfl⟩))
    go_ret2
    exact ⟨rfl, HB2.out⟩
set_option maxHeartbeats 4000000 in
set_option maxRecDepth 100000 in
theorem Drop_ok (h : Lk w tb Z y B s) (o : Own) (ho : o.wf) (xs : List Int) (r : Int) (hl : hld s.L o = xs ++ [r]) : Calls Tryz.prog 17 #[lp B, .agg #[.bool o.isr, I o.id]] w fun e w' => e = .returned (.tuple #[I r, .bool true]) ∧ Lk w' tb Z y B ⟨nodO s.L o, s.i, s.g⟩ ∧ Fz (y.M B) w w' := by
  have hb := below_alloc w (.cells #[.bool o.isr, I o.id] 23)
  obtain ⟨y0, y1⟩ := box_own w o
  have h1 := h.below hb
  have hF := find_any h1 o ho
  obtain ⟨b, hob, -⟩ := h.ok.own o r (mem_hld.1 (by rw [hl]; simp))
  obtain ⟨-, q, hq, -, -⟩ := h.ps o b hob
  rw [hq] at hF
  have HL : Hid (∀ w', Below (w.alloc (.cells #[.bool o.isr, I o.id] 23)).heap.size (w.alloc (.cells #[.bool o.isr, I o.id] 23)) w' → Lk w' tb Z y B s) := fun w' hb' => h1.below hb'
  have HB : Hid (∀ w', Below (w.alloc (.cells #[.bool o.isr, I o.id] 23)).heap.size (w.alloc (.cells #[.bool o.isr, I o.id] 23)) w' → Below w.heap.size w w') := fun w' hb' => hb.trans (hb'.mono (by simp))
  have HLL : Hid (hld s.L o = xs ++ [r]) := hl
  have HQ : Hid (y.p o = some q) := hq
  have HO : Hid (obs tb o = some b) := hob
  clear h h1 hb hl hq hob
  go_enter Tryz.func17, Tryz.ntmps17
  go_upto_region 1 with fail
  generalize w.alloc (.cells #[.bool o.isr, I o.id] 23) = w1 at *
  go_upto_region 2 with (first | (go_at_call 58; refine hF.mono ?_; clear hF; rintro e w2 ⟨rfl, hb2⟩))
  have h2 := HL.out _ hb2
  have HB2 : Hid (Below w.heap.size w w2) := HB.out _ hb2
  have H2 : Hid (Lk w2 tb Z y B s) := h2
  clear HL HB hb2 y0 y1
  simp only [opV, Option.isSome_some]
  obtain ⟨b', hob', -, hB, -⟩ := h2.pq HQ.out
  rw [HO.out] at hob'
  cases hob'
  obtain ⟨d0, d1, d2, d3, d4, d5⟩ := hB.cells
  obtain ⟨hi, hK⟩ := hB.k
  have hT := St.iLenQ hK
  have hCt := St.iCutQ hK 0 (Nat.zero_le _)
  simp only [Nat.sub_zero, List.drop_zero, List.take_zero, Int.ofNat_zero] at hCt
  have hlen : ¬ (((hld s.L o).length : Int) = 0) := by rw [HLL.out]; simp; omega
  have hlen2 : (((hld s.L o).length : Int) == 0) = false := beq_eq_false_iff_ne.2 hlen
  clear h2 hB hK
  go_upto_region 5 with (first | (go_at_call 59; refine hT.mono ?_; clear hT; rintro e w3 ⟨rfl, rfl⟩) | (go_at_call 60; refine hCt.mono ?_; clear hCt; rintro e w3 ⟨X, cap, rfl, hO3, hk3, hf3⟩))
  have ha := H2.out.apt HQ.out
  have hBn : B ∉ [y.sb o, y.gb o] := by
    simp only [List.mem_cons, List.not_mem_nil, or_false, not_or]
    exact ⟨ha.a.2.1.symm, ha.a.2.2.symm⟩
  have hmn : y.mh ∉ [y.sb o, y.gb o] := by
    simp only [List.mem_cons, List.not_mem_nil, or_false, not_or]
    exact ⟨ha.c.2.1.symm, ha.c.2.2.symm⟩
  have k2 := hf3.cell H2.out.cells.2.2.1 hBn
  have hm3 := H2.out.h.kept (hf3.block _ H2.out.h.lt hmn)
  obtain ⟨r1, r2, r3, r4, r5⟩ := row_at hO3
  unfold maxLen at r4
  have hXm : X ≠ y.mh := by have := H2.out.h.lt; omega
  have HR : Hid (∀ j z, (hld s.L o).reverse[j]? = some z → w3.cell? ⟨X, j, none⟩ = some (I z)) := fun j z hj => r5 j _ (by show (List.map _ _)[j]? = _; rw [List.getElem?_map, hj]; rfl)
  have HK3 : Hid (iQ w3 (y.sb o) (y.gb o) b.own.length hi [] ∧ Fx [y.sb o, y.gb o] w2 w3) := ⟨hk3, hf3⟩
  have HI : Hid (HdM w3 y.mh (nodS s.L ((hld s.L o).reverse.take 0)) ∧ Fx [y.mh] w3 w3) := ⟨by rw [List.take_zero, nodS_nil]; exact hm3, Fx.refl _ _⟩
  have HK2 : Hid (w3.cell? ⟨B, 2, none⟩ = some (.map (some y.mh)) ∧ B ≠ y.mh ∧ X ≠ y.mh) := ⟨k2, H2.out.h.ne H2.out.o, hXm⟩
  generalize hN : (hld s.L o).length = N at *
  have HN : Hid ((hld s.L o).length = N) := hN
  clear hk3 hf3 ha hBn hmn d0 d1 d2 d3 d4 d5 hm3 r1 r2 r5 hO3 hXm k2 hlen hlen2 hN
  go_wp2
  go_loopw [11, 38] (fun _ v38 wr => ∃ k : Nat, k ≤ N ∧ v38 = I k ∧ Hid (HdM wr y.mh (nodS s.L ((hld s.L o).reverse.take k)) ∧ Fx [y.mh] w3 wr)) (fun _ v38 _ => N - (intOf v38).toNat)
  case atStart => exact ⟨0, by omega, rfl, HI.out⟩
  case round =>
    clear HI
    obtain ⟨k, hk, rfl, HJ⟩ := hrel
    by_cases hlt : k < N
    · have hltI : (k : Int) < N := by omega
      obtain ⟨x, hx⟩ : ∃ x, (hld s.L o).reverse[k]? = some x := ⟨_, List.getElem?_eq_getElem (by rw [List.length_reverse, HN.out]; exact hlt)⟩
      have q0 := HJ.out.2.cell (HR.out k x hx) (by simp only [List.mem_singleton]; exact HK2.out.2.2)
      have k2 := HJ.out.2.cell HK2.out.1 (by simp only [List.mem_singleton]; exact HK2.out.2.1)
      have hm4 := HJ.out.1
      have hnd : ((nodS s.L ((hld s.L o).reverse.take k)).map (·.2)).Nodup := H2.out.ok.nd.sublist (List.filter_sublist.map _)
      have hrm : (Lit.int .i64 x).wf = true := H2.out.wfr (List.mem_reverse.1 (List.mem_of_getElem? hx))
      have HX : Hid ((hld s.L o).reverse[k]? = some x) := hx
      clear hx
      go_wp2_with (first | (at_delete; refine wpList_del rfl (.tmp 45) (.tmp 46) rfl y.mh _ rfl hm4 hnd x hrm rfl ?_; clear hm4 hnd hrm k2 q0; intro w5 hm5 hf5))
      go_roundw
      case rel => exact ⟨k + 1, by omega, by go_num, by rw [List.take_add_one, HX.out, Option.toList_some, ← nodS_snoc]; exact hm5, HJ.out.2.trans hf5⟩
      case measure => simp [intOf]; omega
    · have hkN : k = N := by omega
      subst hkN
      have hbr : ¬ ((k : Int) < k) := by omega
      obtain ⟨hm4, hf4⟩ := HJ.out
      have q0 := hf4.cell (HR.out 0 r (by rw [HLL.out]; simp)) (by simp only [List.mem_singleton]; exact HK2.out.2.2)
      have hkp : (0 : Int) < k := by have := HN.out; rw [HLL.out] at this; simp at this; omega
      have HJ2 : Hid (HdM wr y.mh (nodO s.L o) ∧ Fx [y.mh] w3 wr) := ⟨by rw [List.take_of_length_le (by rw [List.length_reverse, HN.out]; exact Nat.le_refl _), nodS_own H2.out.ok.nd] at hm4; exact hm4, hf4⟩
      clear hm4 hf4 HJ hlt
      go_wp2
      go_ret2
      obtain ⟨m5, f5⟩ := HJ2.out
      obtain ⟨k3, f3⟩ := HK3.out
      have ha := H2.out.apt HQ.out
      have hs1 : y.sb o ∉ [y.mh] := by simp only [List.mem_singleton]; exact ha.c.2.1
      have hs2 : y.gb o ∉ [y.mh] := by simp only [List.mem_singleton]; exact ha.c.2.2
      have f25 : Fx [y.sb o, y.gb o, y.mh] w2 wr := (f3.mono (by intro x hx; simp only [List.mem_cons, List.not_mem_nil, or_false] at hx ⊢; rcases hx with h | h <;> simp [h])).trans (f5.mono (by intro x hx; simp only [List.mem_singleton] at hx; simp [hx]))
      obtain ⟨hn, hf⟩ := H2.out.turn HO.out HQ.out (L' := nodO s.L o) (fun x hx => by rw [hld_nodO, if_neg hx]) (ok_nodO H2.out.ok o) f25 ⟨_, by rw [hld_nodO, if_pos rfl]; exact k3.keptZ (Fz.of_fx (M := fun b => b ∈ [y.mh]) f5 (fun _ h => h)) hs1 hs2⟩ m5
      exact ⟨rfl, hn, (Fz.of_below HB2.out).trans hf⟩
end
end Go.Proofs.YtmllocfeflhjoaaGreat


namespace Go.Proofs.YtmllocfeflhjoaaGreat.St
open Go.RowKit Go.Shelf
set_option linter.unusedVariables false
set_option linter.unusedSimpArgs false
attribute [local go_sem] Oper.semAt_some

/-! ### Ranging over a ring of ints -/
/-- What a round keeps: cells that are none of M's; and none of them becomes M's. -/
structure Kq (M : World → Nat → Prop) (W W' : World) : Prop where
  size : W.heap.size ≤ W'.heap.size
  same : ∀ (b : Nat) (cs : Array Value) (ty : TypeId), ¬ M W b → W.heap[b]? = some (.cells cs ty) → W'.heap[b]? = some (.cells cs ty) ∧ ¬ M W' b
theorem Kq.trans {M : World → Nat → Prop} {A B C : World} (h : Kq M A B) (k : Kq M B C) : Kq M A C :=
  ⟨Nat.le_trans h.size k.size, fun b cs ty hm hb => k.same b cs ty (h.same b cs ty hm hb).2 (h.same b cs ty hm hb).1⟩
theorem Kq.refl (M : World → Nat → Prop) (A : World) : Kq M A A := ⟨Nat.le_refl _, fun b cs ty hm hb => ⟨hb, hm⟩⟩
theorem Kq.put {M : World → Nat → Prop} {w : World} (hM : ∀ W l o b, w.heap.size ≤ l → M (W.putObj l o) b → M W b) (W : World) (l : Nat) (o o' : Obj) (hl : w.heap.size ≤ l) (h : W.heap[l]? = some o) (hc : o.isCells = false) (_ : o.isWalk = false) : Kq M W (W.putObj l o') := by
  have hg := grownBy_putObj' W l o'
  refine ⟨hg.size, fun b cs ty hm hb => ⟨(hg.block b (heap_lt hb) (fun e => ?_)).trans hb, fun e => hm (hM W l o' b hl e)⟩⟩
  cases e
  rw [h] at hb
  cases hb
  cases hc
theorem All_any (B : Nat) (w : World) : Calls Tryz.prog 62 #[iP B] w fun e w' => e = .returned (.func (.func 94) #[] #[.pointer (some ⟨w.heap.size, 0, none⟩)]) ∧ w' = w.alloc (.cells #[iP B] 89) := by
  go_enter Tryz.func62, Tryz.ntmps62
  go_wp2
  go_ret
  exact ⟨rfl, rfl⟩
theorem list_any {w : World} {B g n hi : Nat} {xs : List Int} (h : iQ w B g n hi xs.reverse) : Calls Tryz.prog 92 #[iP B, I 0] w fun e w' => ∃ X cap, e = .returned (.slice (some ⟨X, 0, none⟩) xs.length cap) ∧ w'.ownsRow w.heap.size 3 1 (.slice (some ⟨X, 0, none⟩) xs.length cap) xs.length (iV xs) ∧ Below w.heap.size w w' := by
  obtain ⟨R, h⟩ := h
  have := above_any h 0 (Nat.zero_le _)
  simpa using this
set_option maxRecDepth 100000 in
set_option maxHeartbeats 4000000 in
/-- The iterator, for every loop body that keeps what is none of M's. -/
theorem All1_in (n : Nat) (hn : 1 ≤ n) (l Bn : Nat) (M : World → Nat → Prop) (xs : List Int) (B g m hi : Nat) (J Jx : List Int → World → Prop)
    (W : World) (hBn : W.cell? ⟨Bn, 0, none⟩ = some (iP B)) (hL : iQ W B g m hi xs.reverse) (hMW : ∀ W' b, Below W.heap.size W W' → M W' b → b < W.heap.size) (hJ : AbidesFrom W.heap.size J)
    (hY : ∀ pre x W, J pre W → pre.length < xs.length → YieldAt Fence.wide (n - 1) Tryz.prog l #[.int .i64 x] W fun e W' =>
      (e = .returned (.bool true) ∧ J (pre ++ [x]) W' ∧ Kq M W W') ∨ (e = .returned (.bool false) ∧ Jx (pre ++ [x]) W'))
    (h0 : J [] W) :
    CallsIn Fence.wide n Tryz.prog 94 #[.func (.yield l) #[] #[], .pointer (some ⟨Bn, 0, none⟩)] W fun e W' => (∃ v, e = .returned v) ∧
      ((∃ ys, ys = xs ∧ J ys W') ∨ (∃ pre, pre <+: xs ∧ Jx pre W')) := by
  have hLi := list_any hL
  have hle := hL.le
  rw [List.length_reverse] at hle
  obtain ⟨R, hR⟩ := hL
  have hN := inone_any hR
  have hm := hR.m
  refine callsIn_of_wp Tryz.func94 rfl trivial ?_ rfl
  simp only [Tryz.ntmps94, List.size_toArray, List.length_cons, List.length_nil, Nat.reduceAdd, Nat.reduceSub, Array.replicate_succ, Array.replicate_zero, List.push_toArray, List.append_toArray, List.nil_append, List.cons_append]
  gi_wp2_with (first
    | (refine ⟨trivial, ?_⟩; gi_at_call 84; refine (callsIn_wide.2 hN).mono ?_; rintro e w1 ⟨rfl, rfl⟩)
    | (refine ⟨trivial, ?_⟩; gi_at_call 92; refine (callsIn_wide.2 hLi).mono ?_; rintro e w1 ⟨X, cap, rfl, ho, hb⟩))
  have hX := ho.lt X rfl
  obtain ⟨cur, hcur⟩ : ∃ cur, w1.heap[X]? = some (.cells cur 3) := by
    rcases ho.2 with ⟨h1, _⟩ | ⟨g', cap', cur, h1, _, hh, _⟩
    · cases h1
    · cases h1; exact ⟨cur, hh⟩
  have hxs : ∀ k x, xs[k]? = some x → cur[k]? = some (I x) := fun k x hk => by
    have hkl := (List.getElem?_eq_some_iff.1 hk).1
    have := ho.cellAt k (by simp [iV]; exact hkl)
    rw [cell_of_row w1 X k _ _ (0, 0) hcur] at this
    rw [this]
    simp [iV, hk]
  have HR : Hid (J [] w1 ∧ w1.heap[X]? = some (.cells cur 3) ∧ ¬ M w1 X) := ⟨hJ [] W w1 none h0 (grown_of_below hb) (fun r e => by cases e), hcur, fun e => by have := hMW w1 X hb e; omega⟩
  clear hcur ho hLi hN hR h0
  gi_loopw [10] (fun i wr => ∃ k : Nat, k ≤ xs.length ∧ i = .int .i64 k ∧ Hid (J (xs.take k) wr ∧ wr.heap[X]? = some (.cells cur 3) ∧ ¬ M wr X))
    (fun i _ => xs.length - (intOf i).toNat)
  case atStart => exact ⟨0, Nat.zero_le _, rfl, HR.out⟩
  case round =>
    clear HR
    obtain ⟨k, hk, rfl, HJ⟩ := hrel
    obtain ⟨hJs, hcu, hMx⟩ := HJ.out
    by_cases hlt : k < xs.length
    · obtain ⟨x, hx⟩ : ∃ x, xs[k]? = some x := ⟨_, List.getElem?_eq_getElem hlt⟩
      have hltI : (k : Int) < xs.length := by omega
      obtain ⟨fn, tmps, assign, body, hy, hRR⟩ := hY _ x wr hJs (by simp; omega)
      have hcx : wr.cell? ⟨X, k, none⟩ = some (I x) := by rw [cell_of_row wr X k _ _ (0, 0) hcu]; exact hxs k x hx
      have htk : Hid (xs.take (k + 1) = xs.take k ++ [x]) := by
        show _ = _
        rw [List.take_add_one, hx]; rfl
      clear HJ
      gi_wp2
      refine hRR.mono ?_
      rintro e W3 (⟨rfl, hJ3, hk3⟩ | ⟨rfl, hJx3⟩)
      · have H9 : Hid (J (xs.take (k + 1)) W3 ∧ W3.heap[X]? = some (.cells cur 3) ∧ ¬ M W3 X) := by
          rw [htk.out]
          exact ⟨hJ3, hk3.same X _ _ hMx hcu⟩
        clear hJ3 hk3 hcu hMx hJs hcx htk
        gi_wp2
        go_roundw
        case rel => exact ⟨k + 1, by omega, by go_num, H9.out⟩
        case measure => simp [intOf]; omega
      · gi_wp2
        refine bodyPost_ret (results_none rfl _ _ _) rfl ?_
        exact ⟨⟨_, rfl⟩, .inr ⟨_, ⟨xs.drop (k + 1), by rw [← htk.out]; exact List.take_append_drop _ _⟩, hJx3⟩⟩
    · obtain rfl : k = xs.length := by omega
      have hge : ¬ ((xs.length : Int) < xs.length) := by omega
      gi_wp2
      go_end0
      rw [List.take_length] at hJs
      exact ⟨⟨_, rfl⟩, .inl (by simpa using hJs)⟩
/-- r.All() hands back a value that 'SeqStopsK'. -/
theorem All_stops (n : Nat) (hn : 1 ≤ n) (Bn : Nat) (M : World → Nat → Prop) (xs : List Int) (B g m hi : Nat) (w : World) (hBl : Bn < w.heap.size) (hBn : w.cell? ⟨Bn, 0, none⟩ = some (iP B)) (hL : iQ w B g m hi xs.reverse) (hMW : ∀ W' b, Below w.heap.size w W' → M W' b → b < w.heap.size) :
    SeqStopsK Fence.wide n Tryz.prog 94 #[.pointer (some ⟨Bn, 0, none⟩)] (fun x : Int => #[Value.int .i64 x]) (Kq M) (fun ys => ys = xs) (fun pre => pre <+: xs) xs.length w := fun l J Jx W hW hJ _ hY h0 =>
  All1_in n hn l Bn M xs B g m hi J Jx W ((hW.cell (p := ⟨Bn, 0, none⟩) hBl).trans hBn) (hL.below hW) (fun W' b hb hm => Nat.lt_of_lt_of_le (hMW W' b (hW.trans (hb.mono hW.size)) hm) hW.size) hJ hY h0
/-- M for a caller that appends to a row in a box: the box itself, and the row. -/
def Mbox (c : Nat) (W : World) (b : Nat) : Prop := b = c ∨ ∃ v, W.cell? ⟨c, 0, none⟩ = some v ∧ v.ownBlock = some b
theorem Mbox.app {W w1 : World} {c : Nat} {v v' : Value} {O : Obj} {t : TypeId} (hv : Boxed W c t v) (hv2 : Boxed (w1.setCell ⟨c, 0, none⟩ v') c t v') (hg : (W.alloc O).grownBy w1 v.ownBlock) (hat : v'.ownBlock = v.ownBlock ∨ v'.ownBlock = some (W.alloc O).heap.size) : Kq (Mbox c) W (w1.setCell ⟨c, 0, none⟩ v') := by
  have hs := hg.size
  rw [World.size_alloc] at hs
  refine ⟨by have := (grown_set w1 c 0 v').size; omega, fun b cs ty hm hb => ?_⟩
  have hlt := heap_lt hb
  have hbc : b ≠ c := fun e => hm (.inl e)
  have hbv : v.ownBlock ≠ some b := fun e => hm (.inr ⟨v, hv.cell, e⟩)
  refine ⟨?_, ?_⟩
  · rw [heap_setCell_other w1 ⟨c, 0, none⟩ b _ hbc, hg.block b (by simp; omega) (fun e => hbv e.symm)]
    exact heap_over _ _ hb
  · rintro (e | ⟨u, hu, e⟩)
    · exact hbc e
    · rw [hv2.cell] at hu
      cases hu
      rcases hat with h9 | h9
      · exact hbv (h9.symm.trans e)
      · rw [h9] at e
        simp at e
        omega
theorem seq_some (W : World) (f : Fn) (a b : Array Value) : (binOp .eql 108 (.func f a b) Value.nilFunc).run Tryz.prog W = .ok (.bool false) W := by kernel_rfl
end Go.Proofs.YtmllocfeflhjoaaGreat.St

namespace Go.Proofs.YtmllocfeflhjoaaGreat
open Go.RowKit Go.Maps Go.Shelf Go.Sort
open Go.Proofs.YtmllocfeflhjoaaGreat.St (Fx Fz iQ iP iV)
set_option linter.unusedVariables false
set_option linter.unusedSimpArgs false

attribute [local go_sem] Oper.semAt_some

/-! ### Collect, Reverse, Held -/
theorem iinfo9 : (Tryz.prog.info? 3).map (fun i => (i.zero, i.size, i.bytes)) = some (some (.int .i64 0), 1, 8) := by kernel_rfl
theorem cell_one9 (w : World) (v : Value) (t : TypeId) : ∀ (j : Nat) (u : Value), [v][j]? = some u → (w.alloc (.cells #[v] t)).cell? ((⟨w.heap.size, 0, none⟩ : Addr).add j) = some u := by
  intro j u hu
  match j, hu with
  | 0, hu => cases hu; rw [St.addr_add]; rw [cell_of_row _ _ _ _ _ (0, 0) (heap_alloc_new w _)]; rfl
abbrev seqV (Bn : Nat) : Value := .func (.func 94) #[] #[.pointer (some ⟨Bn, 0, none⟩)]
set_option maxRecDepth 100000 in
set_option maxHeartbeats 4000000 in
theorem appendSeq_any (w : World) (Bn B g m hi : Nat) (xs : List Int) (hBn : w.cell? ⟨Bn, 0, none⟩ = some (iP B)) (hL : iQ w B g m hi xs.reverse) : Calls Tryz.prog 93 #[.slice none 0 0, seqV Bn] w fun e w' => ∃ v, e = .returned v ∧ w'.ownsRow w.heap.size 3 1 v xs.length (iV xs) ∧ Below w.heap.size w w' := by
  obtain ⟨i0, hi0, hz0, hz1, hz2⟩ := info_parts iinfo9
  have hse := St.seq_some
  have hxl : xs.length ≤ 65536 := by have h1 := hL.le; have h2 := hL.m; rw [List.length_reverse] at h1; omega
  have hBl : Bn < w.heap.size := World.block_lt_of_cell? w _ hBn
  have hw0 : Bn < (w.alloc (.cells #[.slice none 0 0] 65)).heap.size := by simp; omega
  have hB0 := below_alloc w (.cells #[.slice none 0 0] 65)
  have hBn2 : (w.alloc (.cells #[.slice none 0 0] 65)).cell? ⟨Bn, 0, none⟩ = some (iP B) := (cell_below hB0 _ _ hBl).trans hBn
  refine (callsIn_wide (n := 3)).1 ?_
  refine callsIn_of_wp_marks Tryz.func93 rfl trivial ?_ rfl
  simp only [Tryz.ntmps93, List.size_toArray, List.length_cons, List.length_nil, Nat.reduceAdd, Nat.reduceSub, Array.replicate_succ, Array.replicate_zero, List.push_toArray, List.append_toArray, List.nil_append, List.cons_append]
  gi_wp2
  have bO2 := Boxed.new w 65 (.slice none 0 0)
  refine wpIn_rangeFunc_ownG rfl (by omega) (gf := 94) (lb := #[.pointer (some ⟨Bn, 0, none⟩)]) rfl trivial (enters_of Tryz.func94 (by kernel_rfl) rfl)
    (St.All_stops (3 - 1) (by omega) Bn (St.Mbox w.heap.size) xs B g m hi _ hw0 hBn2 (hL.below hB0) (fun W' b hb hm => by
      rcases hm with e | ⟨u, hu, e⟩
      · simp; omega
      · rw [hb.cell (p := ⟨w.heap.size, 0, none⟩) (by simp), bO2.cell] at hu
        cases hu
        cases e)) St.Kq.trans (St.Kq.put (fun W l o b hl hm => by
      have hne : w.heap.size ≠ l := by simp at hl; omega
      rcases hm with e | ⟨u, hu, e⟩
      · exact .inl e
      · exact .inr ⟨u, by rw [← hu]; exact (World.cell?_of_block (World.putObj_heap_other hne)).symm, e⟩)) (Below.refl _ _) (fun _ => rfl)
    (fun pre W => (∃ v, Boxed W w.heap.size 65 v ∧ W.ownsRow w.heap.size 3 1 v pre.length (iV pre) ∧ True) ∧ Below w.heap.size w W)
    (fun _ _ _ => False)
    (OwnFrom.and (Own.from (holdsRow_own w.heap.size w.heap.size 65 3 1 (fun pre => List.length pre) (fun pre => iV pre) (fun pre v => True)) _) (ownFrom_below (Nat.le_refl _) (by simp)))
    (fun _ _ _ _ _ hs _ _ => hs)
    ⟨⟨_, bO2, World.ownsRow_nil _ _ _ _, trivial⟩, hB0⟩
    (fun x => { tmps := #[.slice none 0 0, seqV Bn, .pointer (some ⟨w.heap.size, 0, none⟩), undef, .slice none 0 0, .int .i64 x, seqV Bn, .int .i64 x, undef, undef, undef, undef, undef], defers := [] }) ?assign ?body ?done ?stop
  case assign =>
    intro l x W K hK
    gi_wp2
    exact hK
  case body =>
    rintro l pre x W ⟨⟨v, hv, hrow, _⟩, hB⟩ hlt
    have hc := hv.cell
    gi_wp2_with (gi_at_builtin; refine wpListIn_append_own_at _ rfl _ _ 65 rfl w.heap.size 3 i0 (.int .i64 0) 1 8 Tryz.underlying65 hi0 hz0 hz1 hz2 rfl (by decide) _ _ _ rfl (hrow.alloc _) ⟨W.heap.size, 0, none⟩ 1 1 [.int .i64 x] rfl rfl (cell_one9 _ _ _) (by simp [Value.oneCell']) (by unfold maxLen; omega) (by omega) (by have := hB.size; simp; omega) ?_; intro v' w1 hown' hgrow _ hat; obtain ⟨g', cap', rfl⟩ := ownsRow_succ hown'; obtain ⟨hv1, hv2, hr2, hk2, hb2⟩ := hv.appended (by decide) hrow hB.size (Nat.le_refl _) hown' hgrow; have hc1 := hv1.cell; have hf1 := hv1.frozen; have hKq := St.Mbox.app hv hv2 hgrow hat)
    exact ⟨hk2.from _, hKq, ⟨_, hv2, by simpa [iV] using hr2, trivial⟩, hB.trans hb2⟩
  case done =>
    rintro D ys W hD rfl ⟨⟨v, hv, hrow, _⟩, hB⟩ hK
    have hc := hv.cell
    gi_wp2
    refine ⟨by simp, .inl ⟨_, _, rfl, run_takeDeferred hK, ?_⟩⟩
    exact ⟨_, results_tmp rfl _ _ _, v, rfl, ownsRow_putObj hrow _ hK rfl, hB.trans (belowK_b (w := w) (Nat.le_refl _) W D _ _ (by simp at hD; omega) hK rfl rfl)⟩
  case stop =>
    rintro D c pre W _ _ h _
    exact h.elim
set_option maxRecDepth 100000 in
theorem collect_any (w : World) (Bn B g m hi : Nat) (xs : List Int) (hBn : w.cell? ⟨Bn, 0, none⟩ = some (iP B)) (hL : iQ w B g m hi xs.reverse) : Calls Tryz.prog 61 #[seqV Bn] w fun e w' => ∃ v, e = .returned v ∧ w'.ownsRow w.heap.size 3 1 v xs.length (iV xs) ∧ Below w.heap.size w w' := by
  have hA := appendSeq_any w Bn B g m hi xs hBn hL
  clear hBn hL
  go_enter Tryz.func61, Tryz.ntmps61
  go_wp2_with (first | (go_at_call 93; refine hA.mono ?_; clear hA; rintro e w1 ⟨v, rfl, hO, hb⟩))
  go_ret
  exact ⟨v, rfl, hO, hb⟩
end Go.Proofs.YtmllocfeflhjoaaGreat

namespace Go.Proofs.YtmllocfeflhjoaaGreat
open Go.RowKit Go.Maps Go.Shelf Go.Sort
open Go.Proofs.YtmllocfeflhjoaaGreat.St (Fx Fz iQ iP iV)
set_option linter.unusedVariables false
set_option linter.unusedSimpArgs false

theorem rev_swap (a b mid : List Value) (x z : Value) (h : a.length = b.length) : ((b.reverse ++ (x :: (mid ++ [z])) ++ a.reverse).set a.length z).set (a.length + mid.length + 1) x = (z :: b).reverse ++ mid ++ (a ++ [x]).reverse := by
  have e1 : a.length = b.reverse.length := by simp [h]
  have e2 : (b.reverse ++ (x :: (mid ++ [z])) ++ a.reverse).set a.length z = b.reverse ++ (z :: (mid ++ [z])) ++ a.reverse := by
    rw [List.append_assoc, e1, List.set_append_right _ _ (Nat.le_refl _), Nat.sub_self]
    simp
  rw [e2]
  have e3 : b.reverse ++ (z :: (mid ++ [z])) ++ a.reverse = (b.reverse ++ z :: mid) ++ (z :: a.reverse) := by simp
  have e4 : a.length + mid.length + 1 = (b.reverse ++ z :: mid).length := by simp; omega
  rw [e3, e4, List.set_append_right _ _ (Nat.le_refl _), Nat.sub_self]
  simp
set_option maxRecDepth 100000 in
set_option maxHeartbeats 4000000 in
theorem reverse_any (w : World) (q n : Nat) (v : Value) (xs : List Value) (hO : w.ownsRow q 3 1 v n xs) (hv : ∀ x ∈ xs, ∃ i, x = I i) (hn : n ≤ 1048576) : Calls Tryz.prog 63 #[v] w fun e w' => e = .returned (.tuple #[]) ∧ w'.ownsRow q 3 1 v n xs.reverse ∧ Fz (fun b => v.ownBlock = some b) w w' := by
  obtain ⟨hl, h0 | ⟨g, cap, cur, rfl, hb, hh, r1, r2, r3, r4⟩⟩ := id hO
  · obtain ⟨rfl, rfl⟩ := h0
    have hx : xs = [] := List.length_eq_zero_iff.1 (by omega)
    subst hx
    go_enter Tryz.func63, Tryz.ntmps63
    go_wp2
    go_loopw [2, 3] (fun v2 v3 wr => v2 = I 0 ∧ v3 = I (-1) ∧ wr = w) (fun _ _ _ => 0)
    case atStart => exact ⟨rfl, rfl, rfl⟩
    case round =>
      obtain ⟨rfl, rfl, rfl⟩ := hrel
      go_wp2
      refine bodyPost_end (v := .tuple #[]) (by simp [results, Tryz.results63, go_sem]) rfl ?_
      exact ⟨rfl, hO, Fz.refl _ _⟩
  · have HI : Hid (w.ownsRow q 3 1 (.slice (some ⟨g, 0, none⟩) n cap) n xs ∧ Fz (fun b => b = g) w w) := ⟨hO, Fz.refl _ _⟩
    have hl1 : xs.length = n := by omega
    have HV : Hid (∀ x ∈ xs, ∃ i, x = I i) := hv
    unfold maxLen at r2
    clear hO hh r3 r4 hl hv
    go_enter Tryz.func63, Tryz.ntmps63
    go_wp2
    go_loopw [2, 3] (fun v2 v3 wr => ∃ i : Nat, v2 = I i ∧ v3 = I ((n : Int) - 1 - i) ∧ Hid (∃ (a b mid : List Value), a.length = i ∧ b.length = i ∧ xs = a ++ mid ++ b ∧ wr.ownsRow q 3 1 (.slice (some ⟨g, 0, none⟩) n cap) n (b.reverse ++ mid ++ a.reverse) ∧ Fz (fun b => b = g) w wr)) (fun v2 _ _ => n - (intOf v2).toNat)
    case atStart => exact ⟨0, rfl, by simp, [], [], xs, rfl, rfl, by simp, by simpa using HI.out.1, HI.out.2⟩
    case round =>
      clear HI
      obtain ⟨i, rfl, rfl, HJ⟩ := hrel
      obtain ⟨a, b, mid, ha, hb2, hxs, hO, hF⟩ := HJ.out
      clear HJ
      have hlen : n = i + mid.length + i := by rw [← hl1, hxs]; simp; omega
      by_cases hlt : 2 ≤ mid.length
      · obtain ⟨x, m2, rfl⟩ : ∃ x m2, mid = x :: m2 := by cases mid with | nil => simp at hlt | cons x m2 => exact ⟨x, m2, rfl⟩
        obtain ⟨m, z, rfl⟩ : ∃ m z, m2 = m ++ [z] := by
          rcases List.eq_nil_or_concat m2 with rfl | ⟨m, z, rfl⟩
          · simp at hlt
          · exact ⟨m, z, by rw [List.concat_eq_append]⟩
        obtain ⟨xi, rfl⟩ := HV.out x (by rw [hxs]; simp)
        obtain ⟨zi, rfl⟩ := HV.out z (by rw [hxs]; simp)
        obtain ⟨j, hj⟩ : ∃ j : Nat, j = i + m.length + 1 := ⟨_, rfl⟩
        have hjn : (n : Int) - 1 - i = j := by simp at hlen; omega
        have hltI : (i : Int) < j := by omega
        have ha1 : (i : Int) < n := by simp at hlen; omega
        have hj1 : (j : Int) < n := by simp at hlen; omega
        rw [hjn]
        have c1 : wr.cell? ⟨g, i, none⟩ = some (I xi) := by
          rw [hO.cellAt _ (by omega), List.append_assoc, List.getElem?_append_right (by simp; omega)]
          rw [show i - b.reverse.length = 0 by simp; omega]
          rfl
        have c2 : wr.cell? ⟨g, j, none⟩ = some (I zi) := by
          rw [hO.cellAt _ (by omega), hj]
          rw [show b.reverse ++ (I xi :: (m ++ [I zi])) ++ a.reverse = (b.reverse ++ I xi :: m) ++ (I zi :: a.reverse) by simp]
          rw [List.getElem?_append_right (by simp; omega)]
          rw [show i + m.length + 1 - (b.reverse ++ I xi :: m).length = 0 by simp; omega]
          rfl
        have f1 := hO.frozenAt
        have hne : ¬ (j = i) := by omega
        have hne2 : ¬ (i = j) := by omega
        have HN : Hid (∃ (a b mid : List Value), a.length = i + 1 ∧ b.length = i + 1 ∧ xs = a ++ mid ++ b ∧ ((wr.setCell ⟨g, i, none⟩ (I zi)).setCell ⟨g, j, none⟩ (I xi)).drew.ownsRow q 3 1 (.slice (some ⟨g, 0, none⟩) n cap) n (b.reverse ++ mid ++ a.reverse) ∧ Fz (fun b => b = g) w ((wr.setCell ⟨g, i, none⟩ (I zi)).setCell ⟨g, j, none⟩ (I xi)).drew) := by
          have hO2 := ((hO.stored i (I zi)).1.stored j (I xi)).1
          have hsw := rev_swap a b m (I xi) (I zi) (by omega)
          rw [ha, ← hj] at hsw
          rw [hsw] at hO2
          have hF2 : Fz (fun b => b = g) w ((wr.setCell ⟨g, i, none⟩ (I zi)).setCell ⟨g, j, none⟩ (I xi)) := (hF.set (.inl rfl) _ _).set (.inl rfl) _ _
          exact ⟨a ++ [I xi], I zi :: b, m, by simp; omega, by simp; omega, by rw [hxs]; simp, hO2.drew, hF2.drewN 1⟩
        have HJN : Hid ((j : Int) - 1 = (n : Int) - 1 - ((i + 1 : Nat) : Int)) := by show _ = _; omega
        clear hlen hlt hjn hj hxs ha hb2 hO hF
        go_upto_region 3 with fail
        go_region
        clear c1 c2 f1
        have HI1 : Hid ((i : Int) + 1 = ((i + 1 : Nat) : Int)) := by show _ = _; omega
        generalize ((wr.setCell ⟨g, i, none⟩ (I zi)).setCell ⟨g, j, none⟩ (I xi)).drew = w5 at *
        have hjn2 := HJN.out
        go_wp2
        go_roundw
        case rel => exact ⟨i + 1, by go_num, by rw [← hjn2]; go_num, HN.out⟩
        case measure => simp [intOf]; omega
      · have hge : ¬ ((i : Int) < (n : Int) - 1 - i) := by omega
        have hmid : mid.reverse = mid := by
          match mid, hlt with
          | [], _ => rfl
          | [x], _ => rfl
          | x :: y :: l, h => simp at h
        have HN : Hid (wr.ownsRow q 3 1 (.slice (some ⟨g, 0, none⟩) n cap) n xs.reverse ∧ Fz (fun b => b = g) w wr) := by
          refine ⟨?_, hF⟩
          rw [hxs]
          simp only [List.reverse_append, hmid]
          rw [← List.append_assoc]
          exact hO
        clear hO hF hxs ha hb2 hlen hlt hmid
        go_wp2
        refine bodyPost_end (v := .tuple #[]) (by simp [results, Tryz.results63, go_sem]) rfl ?_
        exact ⟨rfl, HN.out.1, HN.out.2.mono (by rintro x rfl; rfl)⟩
section
variable {w w' : World} {tb : Tb} {Z : Nat → Prop} {y : Ly} {B : Nat} {s : Ls}
theorem Lk.hld_none (h : Lk w tb Z y B s) {o : Own} (hp : y.p o = none) : hld s.L o = [] := by
  cases hh : hld s.L o with
  | nil => rfl
  | cons r l =>
    obtain ⟨b, hb, _⟩ := h.ok.own o r (mem_hld.1 (by rw [hh]; simp))
    obtain ⟨_, q, hq, _⟩ := h.ps o b hb
    rw [hp] at hq
    cases hq
theorem iV_rev (xs : List Int) : (iV xs).reverse = iV xs.reverse := by simp [iV]
set_option maxHeartbeats 4000000 in
set_option maxRecDepth 100000 in
theorem Held_any (h : Lk w tb Z y B s) (o : Own) (ho : o.wf) : Calls Tryz.prog 19 #[lp B, .agg #[.bool o.isr, I o.id]] w fun e w' => ∃ v, e = .returned v ∧ w'.ownsRow w.heap.size 3 1 v (hld s.L o).length (iV (hld s.L o)) ∧ Below w.heap.size w w' := by
  have hb := below_alloc w (.cells #[.bool o.isr, I o.id] 23)
  obtain ⟨y0, y1⟩ := box_own w o
  have h1 := h.below hb
  have hF := find_any h1 o ho
  have HL : Hid (∀ w', Below (w.alloc (.cells #[.bool o.isr, I o.id] 23)).heap.size (w.alloc (.cells #[.bool o.isr, I o.id] 23)) w' → Lk w' tb Z y B s) := fun w' hb' => h1.below hb'
  have HB : Hid (∀ w', Below (w.alloc (.cells #[.bool o.isr, I o.id] 23)).heap.size (w.alloc (.cells #[.bool o.isr, I o.id] 23)) w' → Below w.heap.size w w') := fun w' hb' => hb.trans (hb'.mono (by simp))
  clear h h1 hb
  go_enter Tryz.func19, Tryz.ntmps19
  go_upto_region 1 with fail
  generalize w.alloc (.cells #[.bool o.isr, I o.id] 23) = w1 at *
  go_upto_region 2 with (first | (go_at_call 58; refine hF.mono ?_; clear hF; rintro e w2 ⟨rfl, hb2⟩))
  have h2 := HL.out _ hb2
  have HB2 : Hid (Below w.heap.size w w2) := HB.out _ hb2
  clear HL HB hb2 y0 y1
  cases hp : y.p o with
  | none =>
    simp only [opV, Option.isSome_none]
    have HZ : Hid (hld s.L o = []) := h2.hld_none hp
    clear h2 hp
    go_wp2
    go_ret
    rw [HZ.out]
    exact ⟨_, rfl, World.ownsRow_nil _ _ _ _, HB2.out⟩
  | some q =>
    simp only [opV, Option.isSome_some]
    obtain ⟨b, -, -, hB, -⟩ := h2.pq hp
    obtain ⟨d0, d1, d2, d3, d4, d5⟩ := hB.cells
    obtain ⟨hi, hK⟩ := hB.k
    have hAl := St.All_any (y.sb o) w2
    have hbA := below_alloc w2 (.cells #[iP (y.sb o)] 89)
    have hcA : (w2.alloc (.cells #[iP (y.sb o)] 89)).cell? ⟨w2.heap.size, 0, none⟩ = some (iP (y.sb o)) := by rw [cell_of_row _ _ _ _ _ (0, 0) (heap_alloc_new w2 _)]; rfl
    have hlen : (hld s.L o).length ≤ 1024 := by have h1 := hK.le; have h2 := hK.m; omega
    have hCo := collect_any (w2.alloc (.cells #[iP (y.sb o)] 89)) w2.heap.size (y.sb o) (y.gb o) _ hi (hld s.L o).reverse hcA (by rw [List.reverse_reverse]; exact hK.below hbA)
    have HS : Hid (w.heap.size ≤ w2.heap.size) := HB2.out.size
    have HBA : Hid (∀ w', Below (w2.alloc (.cells #[iP (y.sb o)] 89)).heap.size (w2.alloc (.cells #[iP (y.sb o)] 89)) w' → Below w.heap.size w w') := fun w' hb' => HB2.out.trans ((hbA.trans (hb'.mono (by simp))).mono HB2.out.size)
    have HSA : Hid ((w2.alloc (.cells #[iP (y.sb o)] 89)).heap.size = w2.heap.size + 1) := by show _ = _; simp
    clear h2 hB hK hp hbA hcA HB2
    go_upto_region 5 with (first | (go_at_call 62; refine hAl.mono ?_; clear hAl; rintro e w3 ⟨rfl, rfl⟩) | (go_at_call 61; refine hCo.mono ?_; clear hCo; rintro e w3 ⟨v, rfl, hO, hb3⟩))
    have hR := reverse_any w3 _ _ v _ hO (by intro x hx; obtain ⟨i, _, rfl⟩ := List.mem_map.1 hx; exact ⟨i, rfl⟩) (by rw [List.length_reverse]; omega)
    rw [iV_rev, List.reverse_reverse, List.length_reverse] at hR
    have HO : Hid (∀ b, v.ownBlock = some b → w.heap.size ≤ b) := fun b hb => by have h1 := (hO.lt b hb).1; have h2 := HS.out; have h3 := HSA.out; omega
    have HB3 : Hid (Below w.heap.size w w3) := HBA.out _ hb3
    have HS3 : Hid (w.heap.size ≤ (w2.alloc (.cells #[iP (y.sb o)] 89)).heap.size) := by have h2 := HS.out; have h3 := HSA.out; show _ ≤ _; omega
    clear hO hb3 HBA
    go_wp2_with (first | (go_at_call 63; refine hR.mono ?_; clear hR; rintro e w4 ⟨rfl, hO4, hf4⟩))
    go_ret
    refine ⟨v, rfl, ?_, HB3.out.trans (hf4.below HB3.out.size HO.out)⟩
    obtain ⟨e1, e2 | ⟨g, cap, cur, e3, e4, e5⟩⟩ := hO4
    · exact ⟨e1, .inl e2⟩
    · exact ⟨e1, .inr ⟨g, cap, cur, e3, Nat.le_trans HS3.out e4, e5⟩⟩
end
end Go.Proofs.YtmllocfeflhjoaaGreat

