import Derived.RangeFuncNested
import Derived.RangeFuncBound
import Derived.RangeFuncCalls
import Derived.RangeFuncLeaves
import Derived.RangeFuncBox
import Derived.Shelf.Abstract
import Derived.Shelf.RegionOpen
import Derived.WalkKit
import Derived.OwnWalkIn
import Derived.TacticsInMore
import Derived.LoopNIn
import Derived.LoopIn
import Derived.Maps.OwnIn
import Derived.Maps.AppendAt
import Derived.Test.YticgikbnlpgnkaaRpa
namespace Go.Proofs.Yticgikbnlpgnkaa
open Go.RowKit Go.Shelf
set_option linter.unusedVariables false
set_option linter.unusedSimpArgs false
attribute [local go_sem] Oper.semAt_some

/-! ### Ranging over a ring of ints -/
/-- What a round keeps: cells that are none of M's; and none of them becomes M's. -/
structure Kq (M : World → Nat → Prop) (W W' : World) : Prop where
  size : W.heap.size ≤ W'.heap.size
  same : ∀ (b : Nat) (cs : Array Value) (ty : TypeId), ¬ M W b → W.heap[b]? = some (.cells cs ty) → W'.heap[b]? = some (.cells cs ty) ∧ ¬ M W' b
theorem Kq.trans {M : World → Nat → Prop} {A B C : World} (h : Kq M A B) (k : Kq M B C) : Kq M A C :=
  ⟨Nat.le_trans h.size k.size, fun b cs ty hm hb => k.same b cs ty (h.same b cs ty hm hb).2 (h.same b cs ty hm hb).1⟩
theorem Kq.refl (M : World → Nat → Prop) (A : World) : Kq M A A := ⟨Nat.le_refl _, fun b cs ty hm hb => ⟨hb, hm⟩⟩
theorem Kq.put {M : World → Nat → Prop} {w : World} (hM : ∀ W l o b, w.heap.size ≤ l → M (W.putObj l o) b → M W b) (W : World) (l : Nat) (o o' : Obj) (hl : w.heap.size ≤ l) (h : W.heap[l]? = some o) (hc : o.isCells = false) (_ : o.isWalk = false) : Kq M W (W.putObj l o') := by
  have hg := grownBy_putObj' W l o'
  refine ⟨hg.size, fun b cs ty hm hb => ⟨(hg.block b (heap_lt hb) (fun e => ?_)).trans hb, fun e => hm (hM W l o' b hl e)⟩⟩
  cases e
  rw [h] at hb
  cases hb
  cases hc
theorem All_any (B : Nat) (w : World) : Calls Try.prog 60 #[iP B] w fun e w' => e = .returned (.func (.func 63) #[] #[.pointer (some ⟨w.heap.size, 0, none⟩)]) ∧ w' = w.alloc (.cells #[iP B] 53) := by
  go_enter Try.func60, Try.ntmps60
  go_wp2
  go_ret
  exact ⟨rfl, rfl⟩
def intsV (l : List Int) : List Value := l.map fun x => I x
theorem ones2 (l : List Int) : ∀ u ∈ intsV l, u.oneCell' = true := fun u hu => by
  obtain ⟨x, _, rfl⟩ := List.mem_map.1 hu
  rfl
set_option maxRecDepth 100000 in
set_option maxHeartbeats 4000000 in
/-- The iterator, for every loop body that keeps what is none of M's. -/
theorem All1_in (n : Nat) (hn : 1 ≤ n) (l Bn : Nat) (M : World → Nat → Prop) (xs : List Int) (B g m hi : Nat) (J Jx : List Int → World → Prop)
    (W : World) (hBn : W.cell? ⟨Bn, 0, none⟩ = some (iP B)) (hL : iQ W B g m hi (intsV xs)) (hMW : ∀ W' b, Below W.heap.size W W' → M W' b → b < W.heap.size) (hJ : AbidesFrom W.heap.size J)
    (hY : ∀ pre x W, J pre W → pre.length < xs.length → YieldAt Fence.wide (n - 1) Try.prog l #[.int .i64 x] W fun e W' =>
      (e = .returned (.bool true) ∧ J (pre ++ [x]) W' ∧ Kq M W W') ∨ (e = .returned (.bool false) ∧ Jx (pre ++ [x]) W'))
    (h0 : J [] W) :
    CallsIn Fence.wide n Try.prog 63 #[.func (.yield l) #[] #[], .pointer (some ⟨Bn, 0, none⟩)] W fun e W' => (∃ v, e = .returned v) ∧
      ((∃ ys, ys = xs ∧ J ys W') ∨ (∃ pre, pre <+: xs ∧ Jx pre W')) := by
  obtain ⟨f, R, hR⟩ := hL
  have hN := inone_any hR
  have hLi := list_any hR (ones2 xs)
  have hle := hR.lle
  have hm := hR.m
  refine callsIn_of_wp Try.func63 rfl trivial ?_ rfl
  simp only [Try.ntmps63, List.size_toArray, List.length_cons, List.length_nil, Nat.reduceAdd, Nat.reduceSub, Array.replicate_succ, Array.replicate_zero, List.push_toArray, List.append_toArray, List.nil_append, List.cons_append]
  gi_wp2_with (first
    | (refine ⟨trivial, ?_⟩; gi_at_call 58; refine (callsIn_wide.2 hN).mono ?_; rintro e w1 ⟨rfl, rfl⟩)
    | (refine ⟨trivial, ?_⟩; gi_at_call 64; refine (callsIn_wide.2 hLi).mono ?_; rintro e w1 ⟨X, cap, rfl, ho, hb⟩))
  have hX := ho.lt X rfl
  obtain ⟨cur, hcur⟩ : ∃ cur, w1.heap[X]? = some (.cells cur 3) := by
    rcases ho.2 with ⟨h1, _⟩ | ⟨g', cap', cur, h1, _, hh, _⟩
    · cases h1
    · cases h1; exact ⟨cur, hh⟩
  have hxs : ∀ k x, xs[k]? = some x → cur[k]? = some (I x) := fun k x hk => by
    have hkl := (List.getElem?_eq_some_iff.1 hk).1
    have := ho.cellAt k (by simp [intsV]; exact hkl)
    rw [cell_of_row w1 X k _ _ (0, 0) hcur] at this
    rw [this]
    simp [intsV, hk]
  have hlen : (intsV xs).length = xs.length := by simp [intsV]
  have HR : Hid (J [] w1 ∧ w1.heap[X]? = some (.cells cur 3) ∧ ¬ M w1 X) := ⟨hJ [] W w1 none h0 (grown_of_below hb) (fun r e => by cases e), hcur, fun e => by have := hMW w1 X hb e; omega⟩
  rw [hlen] at hle
  simp only [hlen]
  clear hcur ho hLi hN hR h0
  gi_loopw [10] (fun i wr => ∃ k : Nat, k ≤ xs.length ∧ i = .int .i64 k ∧ Hid (J (xs.take k) wr ∧ wr.heap[X]? = some (.cells cur 3) ∧ ¬ M wr X))
    (fun i _ => xs.length - (intOf i).toNat)
  case atStart => exact ⟨0, Nat.zero_le _, rfl, HR.out⟩
  case round =>
    clear HR
    obtain ⟨k, hk, rfl, HJ⟩ := hrel
    obtain ⟨hJs, hcu, hMx⟩ := HJ.out
    by_cases hlt : k < xs.length
    · obtain ⟨x, hx⟩ : ∃ x, xs[k]? = some x := ⟨_, List.getElem?_eq_getElem hlt⟩
      have hltI : (k : Int) < xs.length := by omega
      obtain ⟨fn, tmps, assign, body, hy, hRR⟩ := hY _ x wr hJs (by simp; omega)
      have hcx : wr.cell? ⟨X, k, none⟩ = some (I x) := by rw [cell_of_row wr X k _ _ (0, 0) hcu]; exact hxs k x hx
      have htk : Hid (xs.take (k + 1) = xs.take k ++ [x]) := by
        show _ = _
        rw [List.take_add_one, hx]; rfl
      clear HJ
      gi_wp2
      refine hRR.mono ?_
      rintro e W3 (⟨rfl, hJ3, hk3⟩ | ⟨rfl, hJx3⟩)
      · have H9 : Hid (J (xs.take (k + 1)) W3 ∧ W3.heap[X]? = some (.cells cur 3) ∧ ¬ M W3 X) := by
          rw [htk.out]
          exact ⟨hJ3, hk3.same X _ _ hMx hcu⟩
        clear hJ3 hk3 hcu hMx hJs hcx htk
        gi_wp2
        go_roundw
        case rel => exact ⟨k + 1, by omega, by go_num, H9.out⟩
        case measure => simp [intOf]; omega
      · gi_wp2
        refine bodyPost_ret (results_none rfl _ _ _) rfl ?_
        exact ⟨⟨_, rfl⟩, .inr ⟨_, ⟨xs.drop (k + 1), by rw [← htk.out]; exact List.take_append_drop _ _⟩, hJx3⟩⟩
    · obtain rfl : k = xs.length := by omega
      have hge : ¬ ((xs.length : Int) < xs.length) := by omega
      gi_wp2
      go_end0
      rw [List.take_length] at hJs
      exact ⟨⟨_, rfl⟩, .inl (by simpa using hJs)⟩
/-- r.All() hands back a value that 'SeqStopsK'. -/
theorem All_stops (n : Nat) (hn : 1 ≤ n) (Bn : Nat) (M : World → Nat → Prop) (xs : List Int) (B g m hi : Nat) (w : World) (hBl : Bn < w.heap.size) (hBn : w.cell? ⟨Bn, 0, none⟩ = some (iP B)) (hL : iQ w B g m hi (intsV xs)) (hMW : ∀ W' b, Below w.heap.size w W' → M W' b → b < w.heap.size) :
    SeqStopsK Fence.wide n Try.prog 63 #[.pointer (some ⟨Bn, 0, none⟩)] (fun x : Int => #[Value.int .i64 x]) (Kq M) (fun ys => ys = xs) (fun pre => pre <+: xs) xs.length w := fun l J Jx W hW hJ _ hY h0 =>
  All1_in n hn l Bn M xs B g m hi J Jx W ((hW.cell (p := ⟨Bn, 0, none⟩) hBl).trans hBn) (hL.below hW) (fun W' b hb hm => Nat.lt_of_lt_of_le (hMW W' b (hW.trans (hb.mono hW.size)) hm) hW.size) hJ hY h0
/-- M for a caller that appends to a row in a box: the box itself, and the row. -/
def Mbox (c : Nat) (W : World) (b : Nat) : Prop := b = c ∨ ∃ v, W.cell? ⟨c, 0, none⟩ = some v ∧ v.ownBlock = some b
theorem Mbox.app {W w1 : World} {c : Nat} {v v' : Value} {O : Obj} {t : TypeId} (hv : Boxed W c t v) (hv2 : Boxed (w1.setCell ⟨c, 0, none⟩ v') c t v') (hg : (W.alloc O).grownBy w1 v.ownBlock) (hat : v'.ownBlock = v.ownBlock ∨ v'.ownBlock = some (W.alloc O).heap.size) : Kq (Mbox c) W (w1.setCell ⟨c, 0, none⟩ v') := by
  have hs := hg.size
  rw [World.size_alloc] at hs
  refine ⟨by have := (grown_set w1 c 0 v').size; omega, fun b cs ty hm hb => ?_⟩
  have hlt := heap_lt hb
  have hbc : b ≠ c := fun e => hm (.inl e)
  have hbv : v.ownBlock ≠ some b := fun e => hm (.inr ⟨v, hv.cell, e⟩)
  refine ⟨?_, ?_⟩
  · rw [heap_setCell_other w1 ⟨c, 0, none⟩ b _ hbc, hg.block b (by simp; omega) (fun e => hbv e.symm)]
    exact heap_over _ _ hb
  · rintro (e | ⟨u, hu, e⟩)
    · exact hbc e
    · rw [hv2.cell] at hu
      cases hu
      rcases hat with h9 | h9
      · exact hbv (h9.symm.trans e)
      · rw [h9] at e
        simp at e
        omega
theorem seq_some (W : World) (f : Fn) (a b : Array Value) : (binOp .eql 92 (.func f a b) Value.nilFunc).run Try.prog W = .ok (.bool false) W := by kernel_rfl
end Go.Proofs.Yticgikbnlpgnkaa
