import Derived.Test.YtmllocfeflhjoaaXZgi
import Derived.RangeFuncNested
import Derived.RangeFuncBound
import Derived.RangeFuncCalls
import Derived.RangeFuncLeaves
import Derived.RangeFuncBox
import Derived.Shelf.Abstract
import Derived.Shelf.RegionOpen
import Derived.WalkKit
import Derived.OwnWalkIn
import Derived.TacticsInMore
import Derived.LoopNIn
import Derived.LoopIn
import Derived.Maps.OwnIn
import Derived.Maps.AppendAt
namespace Go.Proofs.Ytmllocfeflhjoaa.St
open Go.RowKit
set_option linter.unusedVariables false
set_option linter.unusedSimpArgs false

/-! ### Stacks of ints: Copy -/
theorem step_copy_fx {P : Program} {ops : Array Oper} {o : Oper} {a : Act} {w : World} {K : Act → World → Prop} {Q : Exit → Act → World → Prop} {E : Prop} (hgd : o.guard = none) (d s : Operand) (dT sT : TypeId)
    (ho : o.op = .call { callee := .builtin .copy, args := #[d, s], argTypes := #[dT, sT] }) (elem : TypeId) (hu : P.underlying dT = some (.slice elem)) (hsz : (P.info? elem).map (·.size) = some 1)
    (dp sp : Option Addr) (dLen dCap sLen sCap : Nat) (hd : a.eval d = .slice dp dLen dCap) (hs : a.eval s = .slice sp sLen sCap)
    (g off : Nat) (cur : List Value) (t : TypeId) (hg : w.heap[g]? = some (.cells cur.toArray t (0, 0))) (cs : List Value) (hn : cs.length = Nat.min sLen dLen)
    (hpos : 0 < cs.length → dp = some ⟨g, off, none⟩ ∧ ∃ ad, sp = some ad ∧ ∀ j v, cs[j]? = some v → w.cell? (ad.add j) = some v)
    (hfit : off + cs.length ≤ cur.length) (h1 : ∀ v ∈ cs, v.oneCell' = true) (vr : Value) (hvr : vr = goInt cs.length)
    (h : ∀ w', Hid (w'.heap[g]? = some (.cells (splice cur off cs).toArray t (0, 0))) → Fx [g] w w' → K (a.put o.dst vr) w') :
    if Region.wanted o (yielded ops a.tmps) = true then Oper.wp P o a w K Q else E := by
  subst hvr
  have hw : Region.wanted o (yielded ops a.tmps) = true := by simp [Region.wanted, hgd]
  rw [if_pos hw]
  by_cases h0 : cs.length = 0
  · obtain rfl : cs = [] := List.eq_nil_of_length_eq_zero h0
    have hrun := run_copy_none (P := P) w dT sT o.type elem dp sp dLen dCap sLen sCap hu hsz (by simpa using hn.symm)
    unfold Oper.wp
    simp [execOp, ho, resolve, invoke, builtin, hd, hs, hrun, Result.andThen]
    exact h w (show _ = _ by simpa [splice] using hg) (Fx.refl _ _)
  · obtain ⟨rfl, ad, rfl, hsrc⟩ := hpos (by omega)
    have hrun := run_copy_row (P := P) w dT sT o.type elem g off dLen dCap ad sLen sCap cur.toArray t cs hu hsz hg hn hsrc (by simpa using hfit) h1
    unfold Oper.wp
    simp [execOp, ho, resolve, invoke, builtin, hd, hs, hrun, Result.andThen]
    refine h _ (show _ = _ by simpa [splice] using setRow_heap w g _ _ t _ hg) ⟨rfl, rfl, rfl, by simp [World.setRow], fun k _ hk => setRow_other w g k _ (by simpa using hk)⟩
theorem splice_all (z : Value) (R : List Value) (n : Nat) (h : R.length = n) : splice (List.replicate n z) 0 R = R := by
  unfold splice
  simp [h]
section
variable {w : World} {B g n hi : Nat} {R l : List Value}
end
end Go.Proofs.Ytmllocfeflhjoaa.St

namespace Go.Proofs.Ytmllocfeflhjoaa.St
open Go.RowKit
set_option linter.unusedVariables false
set_option linter.unusedSimpArgs false

/-! ### Stacks of int: their face -/
def iQ (w : World) (B g n hi : Nat) (xs : List Int) : Prop := ∃ R, iSk w B g n hi R (iV xs)
section
variable {w : World} {B g n hi : Nat} {xs : List Int}
theorem iQ.keptZ (h : iQ w B g n hi xs) {M : Nat → Prop} {w' : World} (hf : Fz M w w') (h1 : ¬ M B) (h2 : ¬ M g) : iQ w' B g n hi xs := by
  obtain ⟨R, h⟩ := h
  exact ⟨R, h.keptZ hf h1 h2⟩
theorem iQ.below (h : iQ w B g n hi xs) {w' : World} (hf : Below w.heap.size w w') : iQ w' B g n hi xs := h.keptZ (M := fun _ => False) (Fz.of_below hf) id id
theorem iQ.le (h : iQ w B g n hi xs) : xs.length ≤ n := by obtain ⟨R, h⟩ := h; have := h.lle; rwa [iV_len] at this
theorem iQ.hle (h : iQ w B g n hi xs) : xs.length ≤ hi ∧ hi ≤ n := by obtain ⟨R, h⟩ := h; have := h.y; rwa [iV_len] at this
theorem iQ.m (h : iQ w B g n hi xs) : n ≤ 1024 := by obtain ⟨R, h⟩ := h; exact h.m
theorem iQ.lts (h : iQ w B g n hi xs) : B < w.heap.size ∧ g < w.heap.size := by obtain ⟨R, h⟩ := h; exact h.lts
theorem iQ.ne (h : iQ w B g n hi xs) : B ≠ g := by obtain ⟨R, h⟩ := h; exact h.ne
theorem iQ.ty (h : iQ w B g n hi xs) : ∃ cs, w.heap[B]? = some (.cells cs 96) := by obtain ⟨R, h⟩ := h; exact ⟨_, h.o⟩
theorem iQ.tyg (h : iQ w B g n hi xs) : ∃ cs, w.heap[g]? = some (.cells cs 3) := by obtain ⟨R, h⟩ := h; exact ⟨_, h.q⟩
theorem iNewQ (w : World) (n : Nat) (hn : n ≤ 1024) : Calls Try.prog 75 #[I n] w fun e w' => e = .returned (.tuple #[iP (w.heap.size + 1), I 0]) ∧ iQ w' (w.heap.size + 1) w.heap.size n 0 [] ∧ Below w.heap.size w w' :=
  (iNew_ok w n hn).mono (fun e w' k => ⟨k.1, ⟨_, k.2.1⟩, k.2.2⟩)
theorem iPushQ (h : iQ w B g n hi xs) (hc : xs.length < n) (x : Int) : Calls Try.prog 24 #[iP B, (Value.int .i64 x)] w fun e w' => e = .returned (I 0) ∧ iQ w' B g n (max hi (xs.length + 1)) (xs ++ [x]) ∧ Fx [B, g] w w' := by
  obtain ⟨R, h⟩ := h
  refine (iPush_ok h (by rw [iV_len]; exact hc) x).mono ?_
  rintro e w' ⟨k, q, f⟩
  rw [iV_len, show iV xs ++ [(Value.int .i64 x)] = iV (xs ++ [x]) by simp [iV]] at q
  exact ⟨k, ⟨_, q⟩, f⟩
theorem iPushF (h : iQ w B g n hi xs) (hc : xs.length = n) (x : Int) : Calls Try.prog 24 #[iP B, (Value.int .i64 x)] w fun e w' => e = .returned (I 141) ∧ Below w.heap.size w w' := by
  obtain ⟨R, h⟩ := h
  exact iPush_full h (by rw [iV_len]; exact hc) x
theorem iPopQ (x : Int) (h : iQ w B g n hi (xs ++ [x])) : Calls Try.prog 19 #[iP B] w fun e w' => e = .returned (.tuple #[(Value.int .i64 x), I 0]) ∧ iQ w' B g n hi xs ∧ Fx [B, g] w w' := by
  obtain ⟨R, h⟩ := h
  rw [show iV (xs ++ [x]) = iV xs ++ [(Value.int .i64 x)] by simp [iV]] at h
  exact iPop_ok x h
theorem iPopN (h : iQ w B g n hi []) : Calls Try.prog 19 #[iP B] w fun e w' => e = .returned (.tuple #[(Value.int .i64 0), I 142]) ∧ w = w' := by
  obtain ⟨R, h⟩ := h
  exact iPop_no h
theorem iLenQ (h : iQ w B g n hi xs) : Calls Try.prog 38 #[iP B] w fun e w' => e = .returned (I xs.length) ∧ w = w' := by
  obtain ⟨R, h⟩ := h
  have := iLen_any h
  rwa [iV_len] at this
theorem iTopQ (x : Int) (h : iQ w B g n hi (xs ++ [x])) : Calls Try.prog 18 #[iP B] w fun e w' => e = .returned (.tuple #[I x, .bool true]) ∧ Below w.heap.size w w' := by
  obtain ⟨R, h⟩ := h
  rw [show iV (xs ++ [x]) = iV xs ++ [I x] by simp [iV]] at h
  exact iTop_ok x h
theorem iTopN (h : iQ w B g n hi []) : Calls Try.prog 18 #[iP B] w fun e w' => e = .returned (.tuple #[I 0, .bool false]) ∧ w = w' := by
  obtain ⟨R, h⟩ := h
  exact iTop_no h
theorem iCutN (h : iQ w B g n hi xs) (m : Int) (hm : m < 0) : Calls Try.prog 39 #[iP B, I m] w fun e w' => e = .returned (.tuple #[.slice none 0 0, I 2]) ∧ w = w' := by
  obtain ⟨R, h⟩ := h
  exact Cut_neg h m hm
theorem iCutO (h : iQ w B g n hi xs) (m : Int) (hm : (xs.length : Int) < m) : Calls Try.prog 39 #[iP B, I m] w fun e w' => e = .returned (.tuple #[.slice none 0 0, I 142]) ∧ w = w' := by
  obtain ⟨R, h⟩ := h
  exact Cut_over h m (by rw [iV_len]; exact hm)
theorem iCutQ (h : iQ w B g n hi xs) (m : Nat) (hm : m ≤ xs.length) : Calls Try.prog 39 #[iP B, I m] w fun e w' => ∃ X cap, e = .returned (.tuple #[.slice (some ⟨X, 0, none⟩) (xs.length - m) cap, I 0]) ∧ w'.ownsRow w.heap.size 3 1 (.slice (some ⟨X, 0, none⟩) (xs.length - m) cap) (xs.length - m) (iV (xs.drop m).reverse) ∧ iQ w' B g n hi (xs.take m) ∧ Fx [B, g] w w' := by
  obtain ⟨R, h⟩ := h
  exact Cut_ok h m hm
end
end Go.Proofs.Ytmllocfeflhjoaa.St


namespace Go.Proofs.Ytmllocfeflhjoaa.St
open Go.RowKit Go.Shelf
set_option linter.unusedVariables false
set_option linter.unusedSimpArgs false
attribute [local go_sem] Oper.semAt_some

/-! ### Ranging over a ring of ints -/
/-- What a round keeps: cells that are none of M's; and none of them becomes M's. -/
structure Kq (M : World → Nat → Prop) (W W' : World) : Prop where
  size : W.heap.size ≤ W'.heap.size
  same : ∀ (b : Nat) (cs : Array Value) (ty : TypeId), ¬ M W b → W.heap[b]? = some (.cells cs ty) → W'.heap[b]? = some (.cells cs ty) ∧ ¬ M W' b
theorem Kq.trans {M : World → Nat → Prop} {A B C : World} (h : Kq M A B) (k : Kq M B C) : Kq M A C :=
  ⟨Nat.le_trans h.size k.size, fun b cs ty hm hb => k.same b cs ty (h.same b cs ty hm hb).2 (h.same b cs ty hm hb).1⟩
theorem Kq.refl (M : World → Nat → Prop) (A : World) : Kq M A A := ⟨Nat.le_refl _, fun b cs ty hm hb => ⟨hb, hm⟩⟩
theorem Kq.put {M : World → Nat → Prop} {w : World} (hM : ∀ W l o b, w.heap.size ≤ l → M (W.putObj l o) b → M W b) (W : World) (l : Nat) (o o' : Obj) (hl : w.heap.size ≤ l) (h : W.heap[l]? = some o) (hc : o.isCells = false) (_ : o.isWalk = false) : Kq M W (W.putObj l o') := by
  have hg := grownBy_putObj' W l o'
  refine ⟨hg.size, fun b cs ty hm hb => ⟨(hg.block b (heap_lt hb) (fun e => ?_)).trans hb, fun e => hm (hM W l o' b hl e)⟩⟩
  cases e
  rw [h] at hb
  cases hb
  cases hc
theorem All_any (B : Nat) (w : World) : Calls Try.prog 22 #[iP B] w fun e w' => e = .returned (.func (.func 42) #[] #[.pointer (some ⟨w.heap.size, 0, none⟩)]) ∧ w' = w.alloc (.cells #[iP B] 72) := by
  go_enter Try.func22, Try.ntmps22
  go_wp2
  go_ret
  exact ⟨rfl, rfl⟩
theorem list_any {w : World} {B g n hi : Nat} {xs : List Int} (h : iQ w B g n hi xs.reverse) : Calls Try.prog 43 #[iP B, I 0] w fun e w' => ∃ X cap, e = .returned (.slice (some ⟨X, 0, none⟩) xs.length cap) ∧ w'.ownsRow w.heap.size 3 1 (.slice (some ⟨X, 0, none⟩) xs.length cap) xs.length (iV xs) ∧ Below w.heap.size w w' := by
  obtain ⟨R, h⟩ := h
  have := above_any h 0 (Nat.zero_le _)
  simpa using this
set_option maxRecDepth 100000 in
set_option maxHeartbeats 4000000 in
/-- The iterator, for every loop body that keeps what is none of M's. -/
theorem All1_in (n : Nat) (hn : 1 ≤ n) (l Bn : Nat) (M : World → Nat → Prop) (xs : List Int) (B g m hi : Nat) (J Jx : List Int → World → Prop)
    (W : World) (hBn : W.cell? ⟨Bn, 0, none⟩ = some (iP B)) (hL : iQ W B g m hi xs.reverse) (hMW : ∀ W' b, Below W.heap.size W W' → M W' b → b < W.heap.size) (hJ : AbidesFrom W.heap.size J)
    (hY : ∀ pre x W, J pre W → pre.length < xs.length → YieldAt Fence.wide (n - 1) Try.prog l #[.int .i64 x] W fun e W' =>
      (e = .returned (.bool true) ∧ J (pre ++ [x]) W' ∧ Kq M W W') ∨ (e = .returned (.bool false) ∧ Jx (pre ++ [x]) W'))
    (h0 : J [] W) :
    CallsIn Fence.wide n Try.prog 42 #[.func (.yield l) #[] #[], .pointer (some ⟨Bn, 0, none⟩)] W fun e W' => (∃ v, e = .returned v) ∧
      ((∃ ys, ys = xs ∧ J ys W') ∨ (∃ pre, pre <+: xs ∧ Jx pre W')) := by
  have hLi := list_any hL
  have hle := hL.le
  rw [List.length_reverse] at hle
  obtain ⟨R, hR⟩ := hL
  have hN := inone_any hR
  have hm := hR.m
  refine callsIn_of_wp Try.func42 rfl trivial ?_ rfl
  simp only [Try.ntmps42, List.size_toArray, List.length_cons, List.length_nil, Nat.reduceAdd, Nat.reduceSub, Array.replicate_succ, Array.replicate_zero, List.push_toArray, List.append_toArray, List.nil_append, List.cons_append]
  gi_wp2_with (first
    | (refine ⟨trivial, ?_⟩; gi_at_call 40; refine (callsIn_wide.2 hN).mono ?_; rintro e w1 ⟨rfl, rfl⟩)
    | (refine ⟨trivial, ?_⟩; gi_at_call 43; refine (callsIn_wide.2 hLi).mono ?_; rintro e w1 ⟨X, cap, rfl, ho, hb⟩))
  have hX := ho.lt X rfl
  obtain ⟨cur, hcur⟩ : ∃ cur, w1.heap[X]? = some (.cells cur 3) := by
    rcases ho.2 with ⟨h1, _⟩ | ⟨g', cap', cur, h1, _, hh, _⟩
    · cases h1
    · cases h1; exact ⟨cur, hh⟩
  have hxs : ∀ k x, xs[k]? = some x → cur[k]? = some (I x) := fun k x hk => by
    have hkl := (List.getElem?_eq_some_iff.1 hk).1
    have := ho.cellAt k (by simp [iV]; exact hkl)
    rw [cell_of_row w1 X k _ _ (0, 0) hcur] at this
    rw [this]
    simp [iV, hk]
  have HR : Hid (J [] w1 ∧ w1.heap[X]? = some (.cells cur 3) ∧ ¬ M w1 X) := ⟨hJ [] W w1 none h0 (grown_of_below hb) (fun r e => by cases e), hcur, fun e => by have := hMW w1 X hb e; omega⟩
  clear hcur ho hLi hN hR h0
  gi_loopw [10] (fun i wr => ∃ k : Nat, k ≤ xs.length ∧ i = .int .i64 k ∧ Hid (J (xs.take k) wr ∧ wr.heap[X]? = some (.cells cur 3) ∧ ¬ M wr X))
    (fun i _ => xs.length - (intOf i).toNat)
  case atStart => exact ⟨0, Nat.zero_le _, rfl, HR.out⟩
  case round =>
    clear HR
    obtain ⟨k, hk, rfl, HJ⟩ := hrel
    obtain ⟨hJs, hcu, hMx⟩ := HJ.out
    by_cases hlt : k < xs.length
    · obtain ⟨x, hx⟩ : ∃ x, xs[k]? = some x := ⟨_, List.getElem?_eq_getElem hlt⟩
      have hltI : (k : Int) < xs.length := by omega
      obtain ⟨fn, tmps, assign, body, hy, hRR⟩ := hY _ x wr hJs (by simp; omega)
      have hcx : wr.cell? ⟨X, k, none⟩ = some (I x) := by rw [cell_of_row wr X k _ _ (0, 0) hcu]; exact hxs k x hx
      have htk : Hid (xs.take (k + 1) = xs.take k ++ [x]) := by
        show _ = _
        rw [List.take_add_one, hx]; rfl
      clear HJ
      gi_wp2
      refine hRR.mono ?_
      rintro e W3 (⟨rfl, hJ3, hk3⟩ | ⟨rfl, hJx3⟩)
      · have H9 : Hid (J (xs.take (k + 1)) W3 ∧ W3.heap[X]? = some (.cells cur 3) ∧ ¬ M W3 X) := by
          rw [htk.out]
          exact ⟨hJ3, hk3.same X _ _ hMx hcu⟩
        clear hJ3 hk3 hcu hMx hJs hcx htk
        gi_wp2
        go_roundw
        case rel => exact ⟨k + 1, by omega, by go_num, H9.out⟩
        case measure => simp [intOf]; omega
      · gi_wp2
        refine bodyPost_ret (results_none rfl _ _ _) rfl ?_
        exact ⟨⟨_, rfl⟩, .inr ⟨_, ⟨xs.drop (k + 1), by rw [← htk.out]; exact List.take_append_drop _ _⟩, hJx3⟩⟩
    · obtain rfl : k = xs.length := by omega
      have hge : ¬ ((xs.length : Int) < xs.length) := by omega
      gi_wp2
      go_end0
      rw [List.take_length] at hJs
      exact ⟨⟨_, rfl⟩, .inl (by simpa using hJs)⟩
/-- r.All() hands back a value that 'SeqStopsK'. -/
theorem All_stops (n : Nat) (hn : 1 ≤ n) (Bn : Nat) (M : World → Nat → Prop) (xs : List Int) (B g m hi : Nat) (w : World) (hBl : Bn < w.heap.size) (hBn : w.cell? ⟨Bn, 0, none⟩ = some (iP B)) (hL : iQ w B g m hi xs.reverse) (hMW : ∀ W' b, Below w.heap.size w W' → M W' b → b < w.heap.size) :
    SeqStopsK Fence.wide n Try.prog 42 #[.pointer (some ⟨Bn, 0, none⟩)] (fun x : Int => #[Value.int .i64 x]) (Kq M) (fun ys => ys = xs) (fun pre => pre <+: xs) xs.length w := fun l J Jx W hW hJ _ hY h0 =>
  All1_in n hn l Bn M xs B g m hi J Jx W ((hW.cell (p := ⟨Bn, 0, none⟩) hBl).trans hBn) (hL.below hW) (fun W' b hb hm => Nat.lt_of_lt_of_le (hMW W' b (hW.trans (hb.mono hW.size)) hm) hW.size) hJ hY h0
/-- M for a caller that appends to a row in a box: the box itself, and the row. -/
def Mbox (c : Nat) (W : World) (b : Nat) : Prop := b = c ∨ ∃ v, W.cell? ⟨c, 0, none⟩ = some v ∧ v.ownBlock = some b
theorem Mbox.app {W w1 : World} {c : Nat} {v v' : Value} {O : Obj} {t : TypeId} (hv : Boxed W c t v) (hv2 : Boxed (w1.setCell ⟨c, 0, none⟩ v') c t v') (hg : (W.alloc O).grownBy w1 v.ownBlock) (hat : v'.ownBlock = v.ownBlock ∨ v'.ownBlock = some (W.alloc O).heap.size) : Kq (Mbox c) W (w1.setCell ⟨c, 0, none⟩ v') := by
  have hs := hg.size
  rw [World.size_alloc] at hs
  refine ⟨by have := (grown_set w1 c 0 v').size; omega, fun b cs ty hm hb => ?_⟩
  have hlt := heap_lt hb
  have hbc : b ≠ c := fun e => hm (.inl e)
  have hbv : v.ownBlock ≠ some b := fun e => hm (.inr ⟨v, hv.cell, e⟩)
  refine ⟨?_, ?_⟩
  · rw [heap_setCell_other w1 ⟨c, 0, none⟩ b _ hbc, hg.block b (by simp; omega) (fun e => hbv e.symm)]
    exact heap_over _ _ hb
  · rintro (e | ⟨u, hu, e⟩)
    · exact hbc e
    · rw [hv2.cell] at hu
      cases hu
      rcases hat with h9 | h9
      · exact hbv (h9.symm.trans e)
      · rw [h9] at e
        simp at e
        omega
theorem seq_some (W : World) (f : Fn) (a b : Array Value) : (binOp .eql 82 (.func f a b) Value.nilFunc).run Try.prog W = .ok (.bool false) W := by kernel_rfl
end Go.Proofs.Ytmllocfeflhjoaa.St

