import Derived.Test.YtpbnpmeigdjfdaaGreatDoorXEcw
namespace Go.Proofs.YtpbnpmeigdjfdaaGreatDoor.Ce
open Go.Maps Go.RowKit
set_option linter.unusedSimpArgs false
set_option linter.unusedVariables false
set_option maxHeartbeats 16000000
set_option maxRecDepth 100000
def BoxM (w : World) (bx m : Nat) (t : TypeId) : Prop := w.heap[bx]? = some (.cells #[.map (some m)] t (0, 0))
theorem BoxM.cell {w : World} {bx m : Nat} {t : TypeId} (h : BoxM w bx m t) : w.cell? ⟨bx, 0, none⟩ = some (.map (some m)) := by rw [cell_of_row w bx 0 _ _ (0, 0) h]; rfl
theorem ceilings1_any (W : World) (c : Cf) (v : Vs) (hn : c.ress.length ≤ 8796093022208) (hends : endsB c = true) (isr : Bool) (id : Nat) (prio : Int) (s : Sl) (l : List Int) (hl : RowsAt W 1 intP s l) (hid : ∀ x ∈ l, isId x c.ress.length = true)
  (bt bf mt b : Nat) (ks : List Nat) (f : Nat → Option Int) (h1 : BoxM W bt mt 178) (h2 : BoxM W bf b 132) (hM : MapT W mt c.ress.length ks f) (hE : EndsAt W b c) (hbm : b ≠ mt) :
  Calls Tryz.prog 104 #[.agg (usC isr id prio s), .pointer (some ⟨bt, 0, none⟩), .pointer (some ⟨bf, 0, none⟩)] W fun e w' => e = .returned (.tuple #[]) ∧ W.grownBy w' (some mt) ∧ ∃ ks', MapT w' mt c.ress.length ks' (addL c prio l f) := by
 have HS : Hid (s.n = l.length) := hl.n
 have hsc : s.n ≤ s.c := hl.c
 have hsm : s.c ≤ maxLen := hl.m
 unfold maxLen at hsm
 have HMN : Hid (∀ x m t, BoxM W x m t → x ≠ mt) := fun x m t hx e => by
  obtain ⟨D, ⟨es, clock, hb, _⟩, _⟩ := hM.ex
  unfold BoxM at hx
  rw [e, hb] at hx
  cases hx
 have hb := below_alloc W (.cells (usC isr id prio s) 181)
 have hU := heap_alloc_new W (.cells (usC isr id prio s) 181)
 have hmtl := hM.block
 have HG0 : Hid (W.grownBy (W.alloc (.cells (usC isr id prio s) 181)) (some mt)) := World.grownBy_alloc W _ _
 have HM0 : Hid (MapT (W.alloc (.cells (usC isr id prio s) 181)) mt c.ress.length ks f) := hM.below hb
 have HF : Hid (∀ W', (W.alloc (.cells (usC isr id prio s) 181)).grownBy W' (some mt) → W'.cell? ⟨bt, 0, none⟩ = some (.map (some mt)) ∧ W'.cell? ⟨bf, 0, none⟩ = some (.map (some b)) ∧ W'.cell? ⟨W.heap.size, 2, none⟩ = some (I prio) ∧ EndsAt W' b c ∧ RowsAt W' 1 intP s l ∧ W'.cell? ⟨W.heap.size, 3, none⟩ = some (.slice s.a s.n s.c)) := fun W' hg => by
  have q1 : BoxM W' bt mt 178 := heap_kept (heap_over _ _ h1) hg (fun e => HMN.out _ _ _ h1 (Option.some.inj e))
  have q2 : BoxM W' bf b 132 := heap_kept (heap_over _ _ h2) hg (fun e => HMN.out _ _ _ h2 (Option.some.inj e))
  have q3 := heap_kept hU hg (fun e => by have := Option.some.inj e; omega)
  have hk : Keeps (W.alloc (.cells (usC isr id prio s) 181)) W' := by
   obtain ⟨D, ⟨es, clock, hbk, _⟩, _⟩ := HM0.out.ex
   refine ⟨hg.size, fun g i u e => hg.cell e (fun q => ?_)⟩
   have q2 : g = mt := Option.some.inj q
   subst q2
   simp [World.cell?, hbk] at e
  refine ⟨q1.cell, q2.cell, ?_, (hE.below hb).kept hg (fun e => hbm (Option.some.inj e)), (hl.below hb (fun _ _ _ _ h => h)).keeps hk (fun _ _ _ _ h => h), ?_⟩
  ·rw [cell_of_row W' _ 2 _ _ (0, 0) q3]; rfl
  ·rw [cell_of_row W' _ 3 _ _ (0, 0) q3]; rfl
 have HID : Hid (∀ x ∈ l, isId x c.ress.length = true) := hid
 have HEN : Hid (endsB c = true) := hends
 unfold usC at *
 clear hl hid hE h1 h2 hb hU hends HMN hM
 go_enter Tryz.func104, Tryz.ntmps104
 go_wp2
 generalize hW0 : W.alloc (.cells #[.bool isr, I (id : Int), I prio, .slice s.a s.n s.c] 181) = W0 at *
 clear hW0
 go_loopw [5, 9] (fun _ iv wr => ∃ (j : Nat) (ks1 : List Nat), j ≤ s.n ∧ iv = .int .i64 j ∧ Hid (MapT wr mt c.ress.length ks1 (addL c prio (l.take j) f) ∧ W0.grownBy wr (some mt))) (fun _ iv _ => s.n - (intOf iv).toNat)
 case atStart => exact ⟨0, ks, by omega, rfl, HM0.out, grown_refl _ _⟩
 case round =>
  clear HM0
  obtain ⟨j, ks1, hj, rfl, HJ⟩ := hrel
  obtain ⟨y1, y2, y3, hE, hl, _⟩ := HF.out _ HJ.out.2
  by_cases hlt : j < s.n
  ·have hlt' : (j : Int) < s.n := by omega
   obtain ⟨xi, hx⟩ : ∃ x, l[j]? = some x := ⟨_, List.getElem?_eq_getElem (by rw [← HS.out]; exact hlt)⟩
   have hbd : 0 ≤ xi ∧ xi < c.ress.length := by simpa [isId] using HID.out xi (List.mem_of_getElem? hx)
   obtain ⟨x, rfl⟩ := Int.eq_ofNat_of_zero_le hbd.1
   have hxn : x < c.ress.length := by omega
   obtain ⟨g5, o5, e5, hg5, b5⟩ := ints_at hl hx
   have hr0 := endsB_at HEN.out hxn
   have hrl := rootF_lt c c.ress.length (x : Int)
   obtain ⟨q, hq⟩ := Int.eq_ofNat_of_zero_le hr0
   have hqn : q < c.ress.length := by have : rootN c (x : Int) < c.ress.length := hrl; omega
   have hq63 : q < 9223372036854775808 := by omega
   have Hq : Hid (rootN c (x : Int) = (q : Int)) := hq
   have HAd : Hid (addL c prio (l.take (j + 1)) f = setT (addL c prio (l.take j) f) q (topAdd (addL c prio (l.take j) f q) prio)) := addL_snoc hx hq f
   rw [e5]
   clear hx hbd e5 hl hr0 hrl hq
   go_wp2
   have hgd : wr.grownBy wr.drew none := ⟨rfl, rfl, rfl, Nat.le_refl _, fun _ _ _ => rfl⟩
   have hEd : EndsAt wr.drew b c := hE.kept hgd (by simp)
   have hMd := HJ.out.1.kept hgd (by simp)
   refine wp_region_held_drew (S := fun W' => W'.cell? ⟨bt, 0, none⟩ = some (.map (some mt)) ∧ W'.cell? ⟨bf, 0, none⟩ = some (.map (some b)) ∧ W'.cell? ⟨W.heap.size, 2, none⟩ = some (I prio) ∧ EndsAt W' b c) (by kernel_rfl) ⟨y1, y2, y3, hEd⟩ (fun hHeld => ?_)
   refine wpAnyH_take (i := 0) (v := ?_) rfl (by kernel_rfl) (by kernel_rfl) (by kernel_rfl) (fun _ _ _ h => h) (Or.inl ⟨by rfl, ?_⟩) hHeld ?_
   rotate_left
   ·intro w' hSw
    obtain ⟨hS0, hS1, hS2, _⟩ := hSw
    go_simp
    try with_reducible rfl
   try simp only [Act.put, q7a, q7b, q7c, q7d, q7e, q7f]
   refine wpAnyH_take (i := 1) (v := ?_) rfl (by kernel_rfl) (by kernel_rfl) (by kernel_rfl) (fun _ _ _ h => h) (Or.inl ⟨by rfl, ?_⟩) hHeld ?_
   rotate_left
   ·intro w' hSw
    obtain ⟨hS0, hS1, hS2, _⟩ := hSw
    go_simp
    try with_reducible rfl
   try simp only [Act.put, q7a, q7b, q7c, q7d, q7e, q7f]
   refine wpAnyH_take (i := 2) (v := ?_) rfl (by kernel_rfl) (by kernel_rfl) (by kernel_rfl) (fun _ _ _ h => h) (Or.inl ⟨by rfl, ?_⟩) hHeld ?_
   rotate_left
   ·intro w' hSw
    obtain ⟨hS0, hS1, hS2, _⟩ := hSw
    go_simp
    try with_reducible rfl
   try simp only [Act.put, q7a, q7b, q7c, q7d, q7e, q7f]
   refine wpAnyH_take (i := 3) (v := .int .i64 (q : Int)) rfl (by kernel_rfl) (by kernel_rfl) (by kernel_rfl) (fun _ _ _ h => h) (yieldsIf_find (by rfl) _ _ 132 rfl Tryz.underlying132 b c rfl (fun _ hw => hw.2.2.2) hn x hxn rfl Hq.out) hHeld ?_
   try simp only [Act.put, q7a, q7b, q7c, q7d, q7e, q7f]
   refine wpAnyH_take (i := 4) (v := ?_) rfl (by kernel_rfl) (by kernel_rfl) (by kernel_rfl) (fun _ _ _ h => h) (Or.inl ⟨by rfl, ?_⟩) hHeld ?_
   rotate_left
   ·intro w' hSw
    obtain ⟨hS0, hS1, hS2, _⟩ := hSw
    go_simp
    try with_reducible rfl
   try simp only [Act.put, q7a, q7b, q7c, q7d, q7e, q7f]
   refine wpAnyH_take (i := 5) (v := ?_) rfl (by kernel_rfl) (by kernel_rfl) (by kernel_rfl) (fun _ _ _ h => h) (Or.inl ⟨by rfl, ?_⟩) hHeld ?_
   rotate_left
   ·intro w' hSw
    obtain ⟨hS0, hS1, hS2, _⟩ := hSw
    go_simp
    try with_reducible rfl
   try simp only [Act.put, q7a, q7b, q7c, q7d, q7e, q7f]
   refine wpAnyH_take (i := 6) (v := ?_) rfl (by kernel_rfl) (by kernel_rfl) (by kernel_rfl) (fun _ _ _ h => h) (Or.inl ⟨by rfl, ?_⟩) hHeld ?_
   rotate_left
   ·intro w' hSw
    obtain ⟨hS0, hS1, hS2, _⟩ := hSw
    go_simp
    try with_reducible rfl
   try simp only [Act.put, q7a, q7b, q7c, q7d, q7e, q7f]
   refine wpAnyH_take (i := 7) (v := .int .i64 (q : Int)) rfl (by kernel_rfl) (by kernel_rfl) (by kernel_rfl) (fun _ _ _ h => h) (yieldsIf_find (by rfl) _ _ 132 rfl Tryz.underlying132 b c rfl (fun _ hw => hw.2.2.2) hn x hxn rfl Hq.out) hHeld ?_
   try simp only [Act.put, q7a, q7b, q7c, q7d, q7e, q7f]
   refine wpAnyH_take (i := 9) (v := ?_) rfl (by kernel_rfl) (by kernel_rfl) (by kernel_rfl) (fun _ _ _ h => h) (Or.inl ⟨by rfl, ?_⟩) hHeld ?_
   rotate_left
   ·intro w' hSw
    obtain ⟨hS0, hS1, hS2, _⟩ := hSw
    go_simp
    try with_reducible rfl
   try simp only [Act.put, q7a, q7b, q7c, q7d, q7e, q7f]
   refine wpAnyH_take (i := 10) (v := ?_) rfl (by kernel_rfl) (by kernel_rfl) (by kernel_rfl) (fun _ _ _ h => h) (Or.inl ⟨by rfl, ?_⟩) hHeld ?_
   rotate_left
   ·intro w' hSw
    obtain ⟨hS0, hS1, hS2, _⟩ := hSw
    go_simp
    try with_reducible rfl
   try simp only [Act.put, q7a, q7b, q7c, q7d, q7e, q7f]
   refine wpAnyH_ready (rs := [8]) (by kernel_rfl) (by simp) ?_
   refine AllReadyH.cons rfl (fun K hK => ?_) AllReadyH.nil
   rw [if_pos (by rfl)]
   refine wp_top_at _ _ 178 rfl Tryz.underlying178 mt c.ress.length ks1 (addL c prio (l.take j) f) rfl hMd q hq63 rfl ?_
   refine hK.out _ _ ⟨y1, y2, y3, hEd⟩ (fun hHeld => ?_)
   clear hK K
   try simp only [Act.put, q7a, q7b, q7c, q7d, q7e, q7f]
   refine wpAnyH_ready (rs := [11]) (by kernel_rfl) (by simp) ?_
   refine AllReadyH.cons rfl (fun K hK => ?_) AllReadyH.nil
   go_simp
   go_wp2_with (go_at_call 105; refine (with_any _ (addL c prio (l.take j) f q) prio).mono ?_; rintro e w2 ⟨rfl, hb2⟩)
   have hB2 : Below wr.heap.size wr w2 := ⟨hb2.os, hb2.tape, hb2.output, hb2.size, hb2.block⟩
   have hG2 := grown_same HJ.out.2 (grown_of_below hB2)
   have hM2 := HJ.out.1.below hB2
   obtain ⟨u1, u2, u3, hE2, _, _⟩ := HF.out _ hG2
   refine hK.out _ _ ⟨u1, u2, u3, hE2⟩ (fun hHeld => ?_)
   clear hK K
   try simp only [Act.put, q7a, q7b, q7c, q7d, q7e, q7f]
   refine wpAnyH_ready (rs := [12]) (by kernel_rfl) (by simp) ?_
   refine AllReadyH.cons rfl (fun K hK => ?_) AllReadyH.nil
   rw [if_pos (by rfl)]
   refine wp_top_put _ _ _ 178 rfl Tryz.underlying178 mt c.ress.length ks1 (addL c prio (l.take j) f) rfl hM2 hn q hqn rfl (topAdd (addL c prio (l.take j) f q) prio) rfl ?_
   intro w3 hM3 hg3
   have hG3 := grown_same hG2 hg3
   obtain ⟨v1, v2, v3, hE3, _, _⟩ := HF.out _ hG3
   refine hK.out _ _ ⟨v1, v2, v3, hE3⟩ (fun hHeld => ?_)
   clear hK K
   have HJ3 : Hid (MapT w3 mt c.ress.length (insK ks1 q) (addL c prio (l.take (j + 1)) f) ∧ W0.grownBy w3 (some mt)) := ⟨by rw [HAd.out]; exact hM3, hG3⟩
   clear hHeld hM3 hG3 hM2 hG2 hg3 hb2 hB2 hE3 hE2 hEd hMd hgd HJ u1 u2 u3 v1 v2 v3 hE y1 y2 y3
   refine wpAnyH_done (by kernel_rfl) ?_ _
   try simp only [Act.put, q7a, q7b, q7c, q7d, q7e, q7f]
   go_wp2
   go_roundw
   case rel => exact ⟨j + 1, _, by omega, by go_num, HJ3.out⟩
   case measure => simp [intOf]; omega
  ·obtain rfl : j = s.n := by omega
   have hlt' : ¬ ((s.n : Nat) : Int) < (s.n : Nat) := by omega
   have HM9 : Hid (MapT wr mt c.ress.length ks1 (addL c prio l f)) := by
    have := HJ.out.1
    rw [List.take_of_length_le (by rw [HS.out]; exact Nat.le_refl _)] at this
    exact this
   have HG9 : Hid (W.grownBy wr (some mt)) := grown_same HG0.out HJ.out.2
   clear hl hE y1 y2 y3
   go_wp2
   refine bodyPost_end (v := .tuple #[]) (by simp [results, Tryz.results104, go_sem]) rfl ?_
   exact ⟨rfl, HG9.out, ks1, HM9.out⟩
theorem wpList_top_at {w : World} {ops : Array Oper} {rest : List Oper} {o : Oper} {a : Act} {Q : Exit → Act → World → Prop} (hg : o.guard = none) (m x : Operand) (t : TypeId) (hop : o.op = Op.lookup t m x false) (ht : Tryz.prog.underlying t = some (.map 3 183)) (b n : Nat) (ks : List Nat) (f : Nat → Option Int)
  (hm : a.eval m = .map (some b)) (h : MapT w b n ks f) (j : Nat) (hj : j < 9223372036854775808) (hx : a.eval x = .int .i64 (j : Int)) (hK : wpList Tryz.prog ops Q rest (a.put o.dst (.agg (topC (f j)))) w) : wpList Tryz.prog ops Q (o :: rest) a w :=
 wpList_plain hg fun K hKK => wp_top_at m x t hop ht b n ks f hm h j hj hx (hKK _ _ hK)
def topT (c : Cf) (k : Nat) : Nat → Option Int := (c.tasks.take k).foldl (fun f x => addL c x.prio x.res f) (fun _ => none)
def topI (c : Cf) (k : Nat) : Nat → Option Int := (c.isrs.take k).foldl (fun f x => addL c x.prio x.res f) (topT c c.tasks.length)
theorem topT_succ {c : Cf} {k : Nat} {x : Tk} (h : c.tasks[k]? = some x) : topT c (k + 1) = addL c x.prio x.res (topT c k) := by
 unfold topT
 rw [List.take_add_one, h, Option.toList_some, List.foldl_append]
 rfl
theorem topI_succ {c : Cf} {k : Nat} {x : Is} (h : c.isrs[k]? = some x) : topI c (k + 1) = addL c x.prio x.res (topI c k) := by
 unfold topI
 rw [List.take_add_one, h, Option.toList_some, List.foldl_append]
 rfl
def ceilE (c : Cf) (i : Nat) : Int := toldI (topI c c.isrs.length (rootN c (i : Int)).toNat)
def ceilL (c : Cf) : List Int := (List.range c.ress.length).map (ceilE c)
def OwnI (w : World) (l : List Int) (e : Ending) (w' : World) : Prop := ∃ u, e = .returned u ∧ w'.ownsRow w.heap.size 3 1 u l.length (l.map fun x => I x) ∧ Below w.heap.size w w'
def rowJ (c : Cf) (j : Nat) : List Value := (List.range c.ress.length).map (fun i => if i < j then I (ceilE c i) else I 0)
theorem rowJ_set (c : Cf) (j : Nat) : (rowJ c j).set j (I (ceilE c j)) = rowJ c (j + 1) := by
 unfold rowJ
 apply List.ext_getElem?
 intro i
 rw [List.getElem?_set]
 by_cases hij : j = i
 ·subst hij
  by_cases hl : j < c.ress.length
  ·simp [hl]
  ·simp [hl]
 ·rw [if_neg hij]
  by_cases hl : i < c.ress.length
  ·simp only [List.getElem?_map, List.getElem?_range hl, Option.map_some]
   by_cases h1 : i < j
   ·rw [if_pos h1, if_pos (by omega)]
   ·rw [if_neg h1, if_neg (by omega)]
  ·simp [hl]
theorem rowJ_end (c : Cf) : rowJ c c.ress.length = (ceilL c).map fun x => I x := by
 unfold rowJ ceilL
 rw [List.map_map]
 apply List.map_congr_left
 intro i hi
 rw [if_pos (List.mem_range.1 hi)]
 rfl
theorem rowJ_zero (c : Cf) : rowJ c 0 = List.replicate c.ress.length (.int .i64 0) := by
 unfold rowJ
 apply List.ext_getElem?
 intro i
 by_cases hl : i < c.ress.length
 ·simp [hl]
 ·simp [hl]
theorem users_tops (w : World) (c : Cf) (v : Vs) (h : CfAt w c v) (hn : c.ress.length ≤ 8796093022208) (hmt : meetB c = true) (hends : endsB c = true) (b : Nat) (hE : EndsAt w b c) (W4 : World) (hs4 : W4.heap.size = w.heap.size + 4) (hb4 : Below w.heap.size w W4)
  (q1 : BoxM W4 (w.heap.size + 3) (w.heap.size + 2) 178) (q2 : BoxM W4 (w.heap.size + 1) b 132) (q3 : BoxC W4 w.heap.size c v) (q4 : MapT W4 (w.heap.size + 2) c.ress.length [] (fun _ => none)) :
  Calls Tryz.prog 103 #[.agg (cfC c v), .func (.func 104) #[] #[.pointer (some ⟨w.heap.size + 3, 0, none⟩), .pointer (some ⟨w.heap.size + 1, 0, none⟩)]] W4 fun e w' => e = .returned (.tuple #[]) ∧
   (BoxM w' (w.heap.size + 3) (w.heap.size + 2) 178 ∧ BoxM w' (w.heap.size + 1) b 132 ∧ BoxC w' w.heap.size c v ∧ EndsAt w' b c ∧ Below w.heap.size w w' ∧ ∃ ks, MapT w' (w.heap.size + 2) c.ress.length ks (topI c c.isrs.length)) := by
 have hbl : b < w.heap.size := by obtain ⟨ks, hM, _⟩ := hE; exact hM.block
 refine (eachUser_any W4 c v 104 _ (enters_of Tryz.func104 (by kernel_rfl) rfl)
  (fun j W => BoxM W (w.heap.size + 3) (w.heap.size + 2) 178 ∧ BoxM W (w.heap.size + 1) b 132 ∧ BoxC W w.heap.size c v ∧ EndsAt W b c ∧ Below w.heap.size w W ∧ ∃ ks, MapT W (w.heap.size + 2) c.ress.length ks (topT c j))
  (fun j W => BoxM W (w.heap.size + 3) (w.heap.size + 2) 178 ∧ BoxM W (w.heap.size + 1) b 132 ∧ BoxC W w.heap.size c v ∧ EndsAt W b c ∧ Below w.heap.size w W ∧ ∃ ks, MapT W (w.heap.size + 2) c.ress.length ks (topI c j))
  ?_ ?_ (fun j W hI => h.below hI.2.2.2.2.1) (fun j W hI => h.below hI.2.2.2.2.1) ⟨q1, q2, q3, hE.below hb4, hb4, [], q4⟩ (fun W hI => hI) ?_ ?_)
 ·rintro j W W' ⟨h1, h2, h3, h4, h5, ks, h6⟩ hb
  exact ⟨(hb.block _ (heap_lt h1)).trans h1, (hb.block _ (heap_lt h2)).trans h2, (hb.block _ (heap_lt h3)).trans h3, h4.below hb, h5.trans (hb.mono h5.size), ks, h6.below hb⟩
 ·rintro j W W' ⟨h1, h2, h3, h4, h5, ks, h6⟩ hb
  exact ⟨(hb.block _ (heap_lt h1)).trans h1, (hb.block _ (heap_lt h2)).trans h2, (hb.block _ (heap_lt h3)).trans h3, h4.below hb, h5.trans (hb.mono h5.size), ks, h6.below hb⟩
 ·rintro j x s W hx hr ⟨h1, h2, h3, h4, h5, ks, h6⟩ hlt
  obtain ⟨hid, hlen⟩ := meet_task hmt hn (List.mem_of_getElem? hx)
  refine (ceilings1_any W c v hn hends false j x.prio s x.res hr hid _ _ _ b ks _ h1 h2 h6 h4 (by omega)).mono ?_
  rintro e w' ⟨rfl, hg, ks', hM⟩
  refine ⟨rfl, ⟨heap_kept h1 hg (fun e => by have := Option.some.inj e; omega), heap_kept h2 hg (fun e => by have := Option.some.inj e; omega), heap_kept h3 hg (fun e => by have := Option.some.inj e; omega), h4.kept hg (fun e => by have := Option.some.inj e; omega), h5.grown hg h5.size (fun k e => by cases e; omega), ks', by rw [topT_succ hx]; exact hM⟩, ?_, hg.size⟩
  exact hg.block _ hlt (fun e => by have := Option.some.inj e; omega)
 ·rintro j x s W hx hr ⟨h1, h2, h3, h4, h5, ks, h6⟩ hlt
  obtain ⟨hid, hlen⟩ := meet_isr hmt hn (List.mem_of_getElem? hx)
  refine (ceilings1_any W c v hn hends true j x.prio s x.res hr hid _ _ _ b ks _ h1 h2 h6 h4 (by omega)).mono ?_
  rintro e w' ⟨rfl, hg, ks', hM⟩
  refine ⟨rfl, ⟨heap_kept h1 hg (fun e => by have := Option.some.inj e; omega), heap_kept h2 hg (fun e => by have := Option.some.inj e; omega), heap_kept h3 hg (fun e => by have := Option.some.inj e; omega), h4.kept hg (fun e => by have := Option.some.inj e; omega), h5.grown hg h5.size (fun k e => by cases e; omega), ks', by rw [topI_succ hx]; exact hM⟩, ?_, hg.size⟩
  exact hg.block _ hlt (fun e => by have := Option.some.inj e; omega)
end Go.Proofs.YtpbnpmeigdjfdaaGreatDoor.Ce
