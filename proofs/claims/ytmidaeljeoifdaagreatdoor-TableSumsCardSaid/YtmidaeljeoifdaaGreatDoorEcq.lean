import Derived.Test.YtmidaeljeoifdaaGreatDoorEcp
namespace Go.Proofs.YtmidaeljeoifdaaGreatDoor.Ce
set_option maxRecDepth 100000
set_option maxHeartbeats 16000000
open Go.RowKit Go.Maps
set_option linter.unusedVariables false
def endsB (c : Cf) : Bool := (List.range c.ress.length).all (fun i => decide (0 ≤ rootN c (i : Int)))
theorem endsB_of {c : Cf} (h : ∀ i, i < c.ress.length → 0 ≤ rootN c (i : Int)) : endsB c = true := by
 unfold endsB
 rw [List.all_eq_true]
 intro i hi
 simpa using h i (List.mem_range.1 hi)
theorem endsB_not {c : Cf} {i : Nat} (hi : i < c.ress.length) (h : rootN c (i : Int) = -1) : endsB c = false := by
 unfold endsB
 rw [List.all_eq_false]
 exact ⟨i, List.mem_range.2 hi, by rw [h]; decide⟩
theorem endsB_at {c : Cf} (h : endsB c = true) {i : Nat} (hi : i < c.ress.length) : 0 ≤ rootN c (i : Int) := by
 unfold endsB at h
 simpa using List.all_eq_true.1 h i (List.mem_range.2 hi)
def EndsAt (w : World) (b : Nat) (c : Cf) : Prop := ∃ ks, MapOf w b c.ress.length ks (fun k => rootN c k) ∧ ∀ i, i < c.ress.length → i ∈ ks
theorem EndsAt.below {w w' : World} {b : Nat} {c : Cf} (h : EndsAt w b c) (hb : Below w.heap.size w w') : EndsAt w' b c := by
 obtain ⟨ks, h1, h2⟩ := h
 exact ⟨ks, h1.below hb, h2⟩
theorem EndsAt.kept {w w' : World} {b : Nat} {c : Cf} {row : Option Nat} (h : EndsAt w b c) (hg : w.grownBy w' row) (hne : some b ≠ row) : EndsAt w' b c := by
 obtain ⟨ks, h1, h2⟩ := h
 exact ⟨ks, h1.kept hg hne, h2⟩
def EndsPost (c : Cf) (w : World) (e : Ending) (w' : World) : Prop := Below w.heap.size w w' ∧ (if endsB c = true then ∃ b, e = .returned (.tuple #[.map (some b), .bool true]) ∧ w.heap.size ≤ b ∧ EndsAt w' b c else e = .returned (.tuple #[.map none, .bool false]))
theorem endsOf_any (w : World) (c : Cf) (v : Vs) (h : CfAt w c v) (hn : c.ress.length ≤ 8796093022208) (hlk : ∀ x ∈ c.ress, x.kind = 2 → isId x.link c.ress.length = true) :
  Calls Tryz.prog 127 #[.slice v.r.a v.r.n v.r.c] w fun e w' => EndsPost c w e w' := by
 have hmm := @run_makeMap Tryz.prog
 have HN : Hid (v.r.n = c.ress.length) := h.r.n
 have HH : Hid (CfAt w c v) := h
 have hc : v.r.n ≤ v.r.c := h.r.c
 have hm : v.r.c ≤ maxLen := h.r.m
 unfold maxLen at hm
 have HM0 : Hid (MapOf (w.alloc (.map #[] 0)) w.heap.size c.ress.length [] (fun k => rootN c k)) := MapOf.made w c.ress.length _
 have HB0 : Hid (Below w.heap.size w (w.alloc (.map #[] 0))) := below_alloc w _
 have HL : Hid (∀ x ∈ c.ress, x.kind = 2 → isId x.link c.ress.length = true) := hlk
 clear h hlk
 go_enter Tryz.func127, Tryz.ntmps127
 go_wp2
 clear hmm
 go_loopw [5, 9] (fun _ iv wr => ∃ (j : Nat) (ks : List Nat), j ≤ v.r.n ∧ iv = .int .i64 j ∧ Hid (MapOf wr w.heap.size c.ress.length ks (fun k => rootN c k) ∧ (∀ k ∈ ks, 0 ≤ rootN c k) ∧ (∀ i, i < j → i ∈ ks) ∧ Below w.heap.size w wr)) (fun _ iv _ => v.r.n - (intOf iv).toNat)
 case atStart => exact ⟨0, [], by omega, rfl, HM0.out, (fun k hk => by cases hk), (fun i hi => absurd hi (Nat.not_lt_zero _)), HB0.out⟩
 case round =>
  clear HM0 HB0
  obtain ⟨j, ks, hj, rfl, HJ⟩ := hrel
  by_cases hlt : j < v.r.n
  ·have hlt' : (j : Int) < v.r.n := by omega
   have hjn : j < c.ress.length := by rw [← HN.out]; exact hlt
   have kf := find_any wr c v (HH.out.below HJ.out.2.2.2) hn HL.out w.heap.size ks HJ.out.1 HJ.out.2.1 j hjn
   obtain ⟨r, hr⟩ : ∃ r, r = rootN c (j : Int) := ⟨_, rfl⟩
   have Hr : Hid (r = rootN c (j : Int)) := hr
   have HK : Hid (∀ w', wr.grownBy w' (some w.heap.size) → Below w.heap.size w w') := fun w' hg => HJ.out.2.2.2.grown hg HJ.out.2.2.2.size (fun k e => by cases e; exact Nat.le_refl _)
   unfold FindPost at kf
   rw [← hr] at kf
   clear hr
   cases h1 : r == -1 with
   | true =>
    have HE : Hid (endsB c = false) := endsB_not hjn (by rw [← Hr.out]; simpa using h1)
    go_wp2_with (go_at_call 200; refine kf.mono ?_; clear kf; rintro e w1 ⟨rfl, hg1, _, _⟩)
    go_ret2
    refine ⟨HK.out _ hg1, ?_⟩
    rw [HE.out, if_neg (by decide)]
    rfl
   | false =>
    have hr0 : 0 ≤ rootN c (j : Int) := by
     rcases root_range c (j : Int) with h2 | h2
     ·rw [← Hr.out] at h2; rw [h2] at h1; cases h1
     ·exact h2.1
    have Hr0 : Hid (0 ≤ rootN c (j : Int)) := hr0
    clear hr0
    go_wp2_with (go_at_call 200; refine kf.mono ?_; clear kf; rintro e w1 ⟨rfl, hg1, _, ks', hm1, hj1, hsub, hnew⟩)
    have HJ2 : Hid (MapOf w1 w.heap.size c.ress.length ks' (fun k => rootN c k) ∧ (∀ k ∈ ks', 0 ≤ rootN c k) ∧ (∀ i, i < j + 1 → i ∈ ks') ∧ Below w.heap.size w w1) := ⟨hm1, fun k hk => by
      rcases hnew k hk with h2 | h2
      ·exact HJ.out.2.1 k h2
      ·rw [h2, Hr.out]; exact Hr0.out, fun i hi => by
      by_cases hij : i = j
      ·rw [hij]; exact hj1
      ·exact hsub i (HJ.out.2.2.1 i (by omega)), HK.out _ hg1⟩
    clear hg1 hm1 hj1 hsub hnew HJ
    go_roundw
    case rel => exact ⟨j + 1, ks', by omega, by go_num, HJ2.out⟩
    case measure => simp [intOf]; omega
  ·obtain rfl : j = v.r.n := by omega
   have hlt' : ¬ ((v.r.n : Nat) : Int) < (v.r.n : Nat) := by omega
   have HE : Hid (endsB c = true) := endsB_of (fun i hi => HJ.out.2.1 i (HJ.out.2.2.1 i (by rw [HN.out]; exact hi)))
   go_wp2
   go_ret2
   refine ⟨HJ.out.2.2.2, ?_⟩
   rw [HE.out, if_pos rfl]
   exact ⟨w.heap.size, rfl, Nat.le_refl _, ks, HJ.out.1, fun i hi => HJ.out.2.2.1 i (by rw [HN.out]; exact hi)⟩
theorem wpList_find_g {w : World} {ops : Array Oper} {rest : List Oper} {o : Oper} {a : Act} {Q : Exit → Act → World → Prop} (m x : Operand) (t : TypeId) (hop : o.op = Op.lookup t m x false) (ht : Tryz.prog.underlying t = some (.map 3 3)) (b : Nat) (c : Cf)
  (hm : a.eval m = .map (some b)) (h : EndsAt w b c) (hn : c.ress.length ≤ 8796093022208) (j : Nat) (hj : j < c.ress.length) (hx : a.eval x = .int .i64 (j : Int)) (hgd : Region.wanted o (yielded ops a.tmps) = true)
  (hK : ∀ e : Int, Hid (e = rootN c (j : Int)) → wpList Tryz.prog ops Q rest (a.put o.dst (.int .i64 e)) w) : wpList Tryz.prog ops Q (o :: rest) a w := by
 obtain ⟨ks, hM, hall⟩ := h
 obtain ⟨D, hD, hs, h2⟩ := hM.ex
 refine wpList_step fun K hKK => ?_
 rw [if_pos hgd]
 obtain ⟨e, hrun, hat, _⟩ := hD.lookup_int keyI ht Tryz.underlying3 (zeroI w) (keyOf_int_mk Tryz.underlying3 (wf_nat (j := j) (by omega)))
 rw [(h2 j).2, if_pos (hall j hj)] at hat
 have he : e = rootN c (j : Int) := by cases hat; rfl
 unfold Oper.wp
 simp [execOp, hop, hm, hx, hrun, Result.andThen]
 exact hKK _ _ (hK e he)
def lfB (c : Cf) (i : Nat) : Bool := !(rkind c (i : Int) == 2 && rkind c (rootN c (i : Int)) == 3)
def linksB (c : Cf) : Bool := (List.range c.ress.length).all (lfB c)
theorem range_take {n j : Nat} (hj : j < n) (p : Nat → Bool) : ((List.range n).take (j + 1)).all p = (((List.range n).take j).all p && p j) := all_take p _ j j (by rw [List.getElem?_range hj])
theorem linksFit_any (w : World) (c : Cf) (v : Vs) (h : CfAt w c v) (hn : c.ress.length ≤ 8796093022208) (b : Nat) (hE : EndsAt w b c) (hends : endsB c = true) :
  Calls Tryz.prog 128 #[.slice v.r.a v.r.n v.r.c, .map (some b)] w fun e w' => Ans w (linksB c) e w' := by
 have HN : Hid (v.r.n = c.ress.length) := h.r.n
 have HH : Hid (CfAt w c v) := h
 have HE : Hid (EndsAt w b c) := hE
 have HNB : Hid (endsB c = true) := hends
 have hc : v.r.n ≤ v.r.c := h.r.c
 have hm : v.r.c ≤ maxLen := h.r.m
 unfold maxLen at hm
 obtain ⟨R, hR⟩ : ∃ R, R = linksB c := ⟨_, rfl⟩
 rw [← hR]
 have HR : Hid (R = linksB c) := hR
 clear hR h hE hends
 go_enter Tryz.func128, Tryz.ntmps128
 go_wp2
 go_loopw [5, 6, 9] (fun _ _ iv wr => ∃ j : Nat, j ≤ v.r.n ∧ iv = .int .i64 j ∧ Hid (Below w.heap.size w wr ∧ ((List.range c.ress.length).take j).all (lfB c) = true)) (fun _ _ iv _ => v.r.n - (intOf iv).toNat)
 case atStart => exact ⟨0, by omega, rfl, Below.refl _ _, by simp⟩
 case round =>
  obtain ⟨j, hj, rfl, HJ⟩ := hrel
  have hbr := HJ.out.1
  by_cases hlt : j < v.r.n
  ·have hlt' : (j : Int) < v.r.n := by omega
   have hjn : j < c.ress.length := by rw [← HN.out]; exact hlt
   obtain ⟨x, hx⟩ : ∃ x, c.ress[j]? = some x := ⟨_, List.getElem?_eq_getElem hjn⟩
   obtain ⟨g, off, e, hg, a0, a1, a2⟩ := rs_at (HH.out.below hbr) hx
   have hng : g ≠ wr.heap.size := Nat.ne_of_lt hg
   have hr0 := endsB_at HNB.out hjn
   have hrl := rootF_lt c c.ress.length (j : Int)
   obtain ⟨q, hq⟩ := Int.eq_ofNat_of_zero_le hr0
   have hqn : (q : Int) < v.r.n := by have : rootN c (j : Int) < c.ress.length := hrl; have := HN.out; omega
   have hql : q < c.ress.length := by have := HN.out; omega
   obtain ⟨y, hy⟩ : ∃ y, c.ress[q]? = some y := ⟨_, List.getElem?_eq_getElem hql⟩
   obtain ⟨g', off', e', hg', b0, b1, b2⟩ := rs_at (HH.out.below hbr) hy
   rw [e] at e'
   obtain ⟨rfl, rfl⟩ : g = g' ∧ off = off' := by cases e'; exact ⟨rfl, rfl⟩
   have HB : Hid (lfB c j = !(x.kind == 2 && y.kind == 3)) := by show _ = _; unfold lfB; rw [rkind_at hx, hq, rkind_at hy]
   have HT : Hid (((List.range c.ress.length).take (j + 1)).all (lfB c) = lfB c j) := by show _ = _; rw [range_take hjn, HJ.out.2, Bool.true_and]
   have HF : Hid (lfB c j = false → R = false) := fun hf => by
    rw [HR.out, linksB, List.all_eq_false]
    exact ⟨j, List.mem_range.2 hjn, by rw [hf]; decide⟩
   have hst : (storeCells ⟨wr.heap.size, 0, none⟩ [S x.name, I x.kind, I x.link] 0).run Tryz.prog (wr.alloc (.cells #[.string ⟨#[]⟩, .int .i64 0, .int .i64 0] 106)) = .ok () (wr.alloc (.cells #[S x.name, I x.kind, I x.link] 106)) :=
    run_storeCells_new (P := Tryz.prog) wr 106 #[.string ⟨#[]⟩, .int .i64 0, .int .i64 0] #[S x.name, I x.kind, I x.link] (by kernel_rfl) rfl (by simp [Value.oneCell'])
   have Hal : Hid (∀ o, Below w.heap.size w (wr.alloc o)) := fun o => hbr.trans ((below_alloc wr o).mono hbr.size)
   have hEn : EndsAt (wr.alloc (.cells #[S x.name, I x.kind, I x.link] 106)) b c := HE.out.below (Hal.out _)
   have Hq : Hid (rootN c (j : Int) = (q : Int)) := hq
   rw [e]
   clear hx hbr HR e' hy hr0 hrl hq b0 b2
   generalize lfB c j = B at *
   cases hk : x.kind == 2 with
   | false =>
    have HT2 : Hid (((List.range c.ress.length).take (j + 1)).all (lfB c) = true) := by show _ = _; rw [HT.out, HB.out, hk]; rfl
    clear HT HB HF
    go_wp2
    go_roundw
    case rel => exact ⟨j + 1, by omega, by go_num, Hal.out _, HT2.out⟩
    case measure => simp [intOf]; omega
   | true =>
    cases hk3 : y.kind == 3 with
    | true =>
     have HE1 : Hid (R = false) := HF.out (by rw [HB.out, hk, hk3]; rfl)
     clear HT HB HF
     go_wp2_with (at_lookup; refine wpList_find_g _ _ 152 rfl Tryz.underlying152 b c rfl hEn hn j hjn rfl (by kernel_rfl) ?_; intro e7 HX7; have h7 := HX7.out; rw [Hq.out] at h7; subst h7)
     go_ret
     exact ⟨ret_bool HE1.out.symm, Hal.out _⟩
    | false =>
     have HT2 : Hid (((List.range c.ress.length).take (j + 1)).all (lfB c) = true) := by show _ = _; rw [HT.out, HB.out, hk, hk3]; rfl
     clear HT HB HF
     go_wp2_with (at_lookup; refine wpList_find_g _ _ 152 rfl Tryz.underlying152 b c rfl hEn hn j hjn rfl (by kernel_rfl) ?_; intro e7 HX7; have h7 := HX7.out; rw [Hq.out] at h7; subst h7)
     go_roundw
     case rel => exact ⟨j + 1, by omega, by go_num, Hal.out _, HT2.out⟩
     case measure => simp [intOf]; omega
  ·obtain rfl : j = v.r.n := by omega
   have hlt' : ¬ ((v.r.n : Nat) : Int) < (v.r.n : Nat) := by omega
   have HE1 : Hid (R = true) := by show _ = _; rw [HR.out, linksB, ← HJ.out.2, List.take_of_length_le (by rw [List.length_range, HN.out]; exact Nat.le_refl _)]
   clear HR
   go_wp2
   go_ret
   exact ⟨ret_bool HE1.out.symm, hbr⟩
end Go.Proofs.YtmidaeljeoifdaaGreatDoor.Ce
