import Derived.RangeFuncNested
import Derived.RangeFuncBound
import Derived.RangeFuncCalls
import Derived.RangeFuncLeaves
import Derived.RangeFuncBox
import Derived.Shelf.Abstract
import Derived.Shelf.RegionOpen
import Derived.WalkKit
import Derived.OwnWalkIn
import Derived.TacticsInMore
import Derived.LoopNIn
import Derived.LoopIn
import Derived.Maps.OwnIn
import Derived.Maps.AppendAt
import Derived.Test.YtckmdkdhnhkdhaaZki
import Derived.Test.YtckmdkdhnhkdhaaZjb
namespace Go.Proofs.Ytckmdkdhnhkdhaa
open Go.RowKit Go.Shelf
set_option linter.unusedVariables false
set_option linter.unusedSimpArgs false
attribute [local go_sem] Oper.semAt_some

/-! ### Ranging over a ring of ints -/
/-- What a round keeps: cells that are none of M's; and none of them becomes M's. -/
structure Kq (M : World → Nat → Prop) (W W' : World) : Prop where
  size : W.heap.size ≤ W'.heap.size
  same : ∀ (b : Nat) (cs : Array Value) (ty : TypeId), ¬ M W b → W.heap[b]? = some (.cells cs ty) → W'.heap[b]? = some (.cells cs ty) ∧ ¬ M W' b
theorem Kq.trans {M : World → Nat → Prop} {A B C : World} (h : Kq M A B) (k : Kq M B C) : Kq M A C :=
  ⟨Nat.le_trans h.size k.size, fun b cs ty hm hb => k.same b cs ty (h.same b cs ty hm hb).2 (h.same b cs ty hm hb).1⟩
theorem Kq.refl (M : World → Nat → Prop) (A : World) : Kq M A A := ⟨Nat.le_refl _, fun b cs ty hm hb => ⟨hb, hm⟩⟩
theorem Kq.put {M : World → Nat → Prop} {w : World} (hM : ∀ W l o b, w.heap.size ≤ l → M (W.putObj l o) b → M W b) (W : World) (l : Nat) (o o' : Obj) (hl : w.heap.size ≤ l) (h : W.heap[l]? = some o) (hc : o.isCells = false) (_ : o.isWalk = false) : Kq M W (W.putObj l o') := by
  have hg := grownBy_putObj' W l o'
  refine ⟨hg.size, fun b cs ty hm hb => ⟨(hg.block b (heap_lt hb) (fun e => ?_)).trans hb, fun e => hm (hM W l o' b hl e)⟩⟩
  cases e
  rw [h] at hb
  cases hb
  cases hc
theorem All_any (B : Nat) (w : World) : Calls Try.prog 27 #[iP B] w fun e w' => e = .returned (.func (.func 53) #[] #[.pointer (some ⟨w.heap.size, 0, none⟩)]) ∧ w' = w.alloc (.cells #[iP B] 23) := by
  go_enter Try.func27, Try.ntmps27
  go_wp2
  go_ret
  exact ⟨rfl, rfl⟩
theorem list_any {w : World} {B g n hi : Nat} {xs : List Int} (h : iQ w B g n hi xs.reverse) : Calls Try.prog 36 #[iP B, I 0] w fun e w' => ∃ X cap, e = .returned (.slice (some ⟨X, 0, none⟩) xs.length cap) ∧ w'.ownsRow w.heap.size 3 1 (.slice (some ⟨X, 0, none⟩) xs.length cap) xs.length (iV xs) ∧ Below w.heap.size w w' := by
  obtain ⟨R, h⟩ := h
  have := above_any h 0 (Nat.zero_le _)
  simpa using this
set_option maxRecDepth 100000 in
set_option maxHeartbeats 4000000 in
/-- The iterator, for every loop body that keeps what is none of M's. -/
theorem All1_in (n : Nat) (hn : 1 ≤ n) (l Bn : Nat) (M : World → Nat → Prop) (xs : List Int) (B g m hi : Nat) (J Jx : List Int → World → Prop)
    (W : World) (hBn : W.cell? ⟨Bn, 0, none⟩ = some (iP B)) (hL : iQ W B g m hi xs.reverse) (hMW : ∀ W' b, Below W.heap.size W W' → M W' b → b < W.heap.size) (hJ : AbidesFrom W.heap.size J)
    (hY : ∀ pre x W, J pre W → pre.length < xs.length → YieldAt Fence.wide (n - 1) Try.prog l #[.int .i64 x] W fun e W' =>
      (e = .returned (.bool true) ∧ J (pre ++ [x]) W' ∧ Kq M W W') ∨ (e = .returned (.bool false) ∧ Jx (pre ++ [x]) W'))
    (h0 : J [] W) :
    CallsIn Fence.wide n Try.prog 53 #[.func (.yield l) #[] #[], .pointer (some ⟨Bn, 0, none⟩)] W fun e W' => (∃ v, e = .returned v) ∧
      ((∃ ys, ys = xs ∧ J ys W') ∨ (∃ pre, pre <+: xs ∧ Jx pre W')) := by
  have hLi := list_any hL
  have hle := hL.le
  rw [List.length_reverse] at hle
  obtain ⟨R, hR⟩ := hL
  have hN := inone_any hR
  have hm := hR.m
  refine callsIn_of_wp Try.func53 rfl trivial ?_ rfl
  simp only [Try.ntmps53, List.size_toArray, List.length_cons, List.length_nil, Nat.reduceAdd, Nat.reduceSub, Array.replicate_succ, Array.replicate_zero, List.push_toArray, List.append_toArray, List.nil_append, List.cons_append]
  gi_wp2_with (first
    | (refine ⟨trivial, ?_⟩; gi_at_call 34; refine (callsIn_wide.2 hN).mono ?_; rintro e w1 ⟨rfl, rfl⟩)
    | (refine ⟨trivial, ?_⟩; gi_at_call 36; refine (callsIn_wide.2 hLi).mono ?_; rintro e w1 ⟨X, cap, rfl, ho, hb⟩))
  have hX := ho.lt X rfl
  obtain ⟨cur, hcur⟩ : ∃ cur, w1.heap[X]? = some (.cells cur 3) := by
    rcases ho.2 with ⟨h1, _⟩ | ⟨g', cap', cur, h1, _, hh, _⟩
    · cases h1
    · cases h1; exact ⟨cur, hh⟩
  have hxs : ∀ k x, xs[k]? = some x → cur[k]? = some (I x) := fun k x hk => by
    have hkl := (List.getElem?_eq_some_iff.1 hk).1
    have := ho.cellAt k (by simp [iV]; exact hkl)
    rw [cell_of_row w1 X k _ _ (0, 0) hcur] at this
    rw [this]
    simp [iV, hk]
  have HR : Hid (J [] w1 ∧ w1.heap[X]? = some (.cells cur 3) ∧ ¬ M w1 X) := ⟨hJ [] W w1 none h0 (grown_of_below hb) (fun r e => by cases e), hcur, fun e => by have := hMW w1 X hb e; omega⟩
  clear hcur ho hLi hN hR h0
  gi_loopw [10] (fun i wr => ∃ k : Nat, k ≤ xs.length ∧ i = .int .i64 k ∧ Hid (J (xs.take k) wr ∧ wr.heap[X]? = some (.cells cur 3) ∧ ¬ M wr X))
    (fun i _ => xs.length - (intOf i).toNat)
  case atStart => exact ⟨0, Nat.zero_le _, rfl, HR.out⟩
  case round =>
    clear HR
    obtain ⟨k, hk, rfl, HJ⟩ := hrel
    obtain ⟨hJs, hcu, hMx⟩ := HJ.out
    by_cases hlt : k < xs.length
    · obtain ⟨x, hx⟩ : ∃ x, xs[k]? = some x := ⟨_, List.getElem?_eq_getElem hlt⟩
      have hltI : (k : Int) < xs.length := by omega
      obtain ⟨fn, tmps, assign, body, hy, hRR⟩ := hY _ x wr hJs (by simp; omega)
      have hcx : wr.cell? ⟨X, k, none⟩ = some (I x) := by rw [cell_of_row wr X k _ _ (0, 0) hcu]; exact hxs k x hx
      have htk : Hid (xs.take (k + 1) = xs.take k ++ [x]) := by
        show _ = _
        rw [List.take_add_one, hx]; rfl
      clear HJ
      gi_wp2
      refine hRR.mono ?_
      rintro e W3 (⟨rfl, hJ3, hk3⟩ | ⟨rfl, hJx3⟩)
      · have H9 : Hid (J (xs.take (k + 1)) W3 ∧ W3.heap[X]? = some (.cells cur 3) ∧ ¬ M W3 X) := by
          rw [htk.out]
          exact ⟨hJ3, hk3.same X _ _ hMx hcu⟩
        clear hJ3 hk3 hcu hMx hJs hcx htk
        gi_wp2
        go_roundw
        case rel => exact ⟨k + 1, by omega, by go_num, H9.out⟩
        case measure => simp [intOf]; omega
      · gi_wp2
        refine bodyPost_ret (results_none rfl _ _ _) rfl ?_
        exact ⟨⟨_, rfl⟩, .inr ⟨_, ⟨xs.drop (k + 1), by rw [← htk.out]; exact List.take_append_drop _ _⟩, hJx3⟩⟩
    · obtain rfl : k = xs.length := by omega
      have hge : ¬ ((xs.length : Int) < xs.length) := by omega
      gi_wp2
      go_end0
      rw [List.take_length] at hJs
      exact ⟨⟨_, rfl⟩, .inl (by simpa using hJs)⟩
/-- r.All() hands back a value that 'SeqStopsK'. -/
theorem All_stops (n : Nat) (hn : 1 ≤ n) (Bn : Nat) (M : World → Nat → Prop) (xs : List Int) (B g m hi : Nat) (w : World) (hBl : Bn < w.heap.size) (hBn : w.cell? ⟨Bn, 0, none⟩ = some (iP B)) (hL : iQ w B g m hi xs.reverse) (hMW : ∀ W' b, Below w.heap.size w W' → M W' b → b < w.heap.size) :
    SeqStopsK Fence.wide n Try.prog 53 #[.pointer (some ⟨Bn, 0, none⟩)] (fun x : Int => #[Value.int .i64 x]) (Kq M) (fun ys => ys = xs) (fun pre => pre <+: xs) xs.length w := fun l J Jx W hW hJ _ hY h0 =>
  All1_in n hn l Bn M xs B g m hi J Jx W ((hW.cell (p := ⟨Bn, 0, none⟩) hBl).trans hBn) (hL.below hW) (fun W' b hb hm => Nat.lt_of_lt_of_le (hMW W' b (hW.trans (hb.mono hW.size)) hm) hW.size) hJ hY h0
/-- M for a caller that appends to a row in a box: the box itself, and the row. -/
def Mbox (c : Nat) (W : World) (b : Nat) : Prop := b = c ∨ ∃ v, W.cell? ⟨c, 0, none⟩ = some v ∧ v.ownBlock = some b
theorem Mbox.app {W w1 : World} {c : Nat} {v v' : Value} {O : Obj} {t : TypeId} (hv : Boxed W c t v) (hv2 : Boxed (w1.setCell ⟨c, 0, none⟩ v') c t v') (hg : (W.alloc O).grownBy w1 v.ownBlock) (hat : v'.ownBlock = v.ownBlock ∨ v'.ownBlock = some (W.alloc O).heap.size) : Kq (Mbox c) W (w1.setCell ⟨c, 0, none⟩ v') := by
  have hs := hg.size
  rw [World.size_alloc] at hs
  refine ⟨by have := (grown_set w1 c 0 v').size; omega, fun b cs ty hm hb => ?_⟩
  have hlt := heap_lt hb
  have hbc : b ≠ c := fun e => hm (.inl e)
  have hbv : v.ownBlock ≠ some b := fun e => hm (.inr ⟨v, hv.cell, e⟩)
  refine ⟨?_, ?_⟩
  · rw [heap_setCell_other w1 ⟨c, 0, none⟩ b _ hbc, hg.block b (by simp; omega) (fun e => hbv e.symm)]
    exact heap_over _ _ hb
  · rintro (e | ⟨u, hu, e⟩)
    · exact hbc e
    · rw [hv2.cell] at hu
      cases hu
      rcases hat with h9 | h9
      · exact hbv (h9.symm.trans e)
      · rw [h9] at e
        simp at e
        omega
theorem seq_some (W : World) (f : Fn) (a b : Array Value) : (binOp .eql 65 (.func f a b) Value.nilFunc).run Try.prog W = .ok (.bool false) W := by kernel_rfl
set_option maxRecDepth 100000 in
set_option maxHeartbeats 4000000 in
theorem all_any (w : World) (B g m hi : Nat) (xs : List Int) (hL : iQ w B g m hi xs.reverse) : Calls Try.prog 54 #[iP B] w fun e w' => ∃ v, e = .returned v ∧ w'.ownsRow w.heap.size 3 1 v xs.length (iV xs) ∧ Below w.heap.size w w' := by
  obtain ⟨i0, hi0, hz0, hz1, hz2⟩ := info_parts iinfo
  have hse := seq_some
  have hxl : xs.length ≤ 65536 := by have h1 := hL.le; have h2 := hL.m; rw [List.length_reverse] at h1; omega
  refine (callsIn_wide (n := 3)).1 ?_
  refine callsIn_of_wp_marks Try.func54 rfl trivial ?_ rfl
  simp only [Try.ntmps54, List.size_toArray, List.length_cons, List.length_nil, Nat.reduceAdd, Nat.reduceSub, Array.replicate_succ, Array.replicate_zero, List.push_toArray, List.append_toArray, List.nil_append, List.cons_append]
  gi_wp2_with (first
    | (refine ⟨trivial, ?_⟩; gi_at_call 27; refine (callsIn_wide.2 (All_any B _)).mono ?_; rintro e w1 ⟨rfl, rfl⟩))
  have bO := Boxed.new w 22 (.slice none 0 0)
  have bN := Boxed.new (w.alloc (.cells #[.slice none 0 0] 22)) 23 (iP B)
  rw [World.size_alloc] at bN
  have hB0 : Below w.heap.size w ((w.alloc (.cells #[.slice none 0 0] 22)).alloc (.cells #[iP B] 23)) := ((Below.refl _ w).alloc (Nat.le_refl _) _).alloc (by simp) _
  have bO2 := bO.alloc (.cells #[iP B] 23)
  refine wpIn_rangeFunc_ownG rfl (by omega) (gf := 53) (lb := #[.pointer (some ⟨w.heap.size + 1, 0, none⟩)]) rfl trivial (enters_of Try.func53 (by kernel_rfl) rfl)
    (All_stops (3 - 1) (by omega) (w.heap.size + 1) (Mbox w.heap.size) xs B g m hi _ (by simp) bN.cell (hL.below hB0) (fun W' b hb hm => by
      rcases hm with e | ⟨u, hu, e⟩
      · simp; omega
      · rw [hb.cell (p := ⟨w.heap.size, 0, none⟩) (by simp; omega), bO2.cell] at hu
        cases hu
        cases e)) Kq.trans (Kq.put (fun W l o b hl hm => by
      have hne : w.heap.size ≠ l := by simp at hl; omega
      rcases hm with e | ⟨u, hu, e⟩
      · exact .inl e
      · exact .inr ⟨u, by rw [← hu]; exact (World.cell?_of_block (World.putObj_heap_other hne)).symm, e⟩)) (Below.refl _ _) (fun _ => rfl)
    (fun pre W => (∃ v, Boxed W w.heap.size 22 v ∧ W.ownsRow w.heap.size 3 1 v pre.length (iV pre) ∧ True) ∧ Below w.heap.size w W)
    (fun _ _ _ => False)
    (OwnFrom.and (Own.from (holdsRow_own w.heap.size w.heap.size 22 3 1 (fun pre => List.length pre) (fun pre => iV pre) (fun pre v => True)) _) (ownFrom_below (Nat.le_refl _) (by simp; omega)))
    (fun _ _ _ _ _ hs _ _ => hs)
    ⟨⟨_, bO2, World.ownsRow_nil _ _ _ _, trivial⟩, hB0⟩
    (fun x => { tmps := #[iP B, undef, .slice none 0 0, .pointer (some ⟨w.heap.size, 0, none⟩), .func (.func 53) #[] #[.pointer (some ⟨w.heap.size + 1, 0, none⟩)], .int .i64 x, iP B, .func (.func 53) #[] #[.pointer (some ⟨w.heap.size + 1, 0, none⟩)], .func (.func 53) #[] #[.pointer (some ⟨w.heap.size + 1, 0, none⟩)], .bool false, .func (.func 53) #[] #[.pointer (some ⟨w.heap.size + 1, 0, none⟩)], .int .i64 x, undef, undef, undef, undef, undef], defers := [] }) ?assign ?body ?done ?stop
  case assign =>
    intro l x W K hK
    gi_wp2
    exact hK
  case body =>
    rintro l pre x W ⟨⟨v, hv, hrow, _⟩, hB⟩ hlt
    have hc := hv.cell
    gi_wp2_with (gi_at_builtin; refine wpListIn_append_own_at _ rfl _ _ 22 rfl w.heap.size 3 i0 (.int .i64 0) 1 8 Try.underlying22 hi0 hz0 hz1 hz2 rfl (by decide) _ _ _ rfl (hrow.alloc _) ⟨W.heap.size, 0, none⟩ 1 1 [.int .i64 x] rfl rfl (cell_one_new _ _ _) (by simp [Value.oneCell']) (by unfold maxLen; omega) (by omega) (by have := hB.size; simp; omega) ?_; intro v' w1 hown' hgrow _ hat; obtain ⟨g', cap', rfl⟩ := ownsRow_succ hown'; obtain ⟨hv1, hv2, hr2, hk2, hb2⟩ := hv.appended (by decide) hrow hB.size (Nat.le_refl _) hown' hgrow; have hc1 := hv1.cell; have hf1 := hv1.frozen; have hKq := Mbox.app hv hv2 hgrow hat)
    exact ⟨hk2.from _, hKq, ⟨_, hv2, by simpa [iV] using hr2, trivial⟩, hB.trans hb2⟩
  case done =>
    rintro D ys W hD rfl ⟨⟨v, hv, hrow, _⟩, hB⟩ hK
    have hc := hv.cell
    gi_wp2
    refine ⟨by simp, .inl ⟨_, _, rfl, run_takeDeferred hK, ?_⟩⟩
    exact ⟨_, results_tmp rfl _ _ _, v, rfl, ownsRow_putObj hrow _ hK rfl, hB.trans (belowK_b (w := w) (Nat.le_refl _) W D _ _ (by simp at hD; omega) hK rfl rfl)⟩
  case stop =>
    rintro D c pre W _ _ h _
    exact h.elim
end Go.Proofs.Ytckmdkdhnhkdhaa
