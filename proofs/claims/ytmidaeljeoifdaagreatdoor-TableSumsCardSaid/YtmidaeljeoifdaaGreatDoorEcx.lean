import Derived.Test.YtmidaeljeoifdaaGreatDoorEcw
namespace Go.Proofs.YtmidaeljeoifdaaGreatDoor.Ce
set_option maxRecDepth 100000
set_option maxHeartbeats 16000000
open Go.RowKit Go.Maps
set_option linter.unusedVariables false
set_option linter.unusedSimpArgs false
def BoxM (w : World) (bx m : Nat) (t : TypeId) : Prop := w.heap[bx]? = some (.cells #[.map (some m)] t (0, 0))
theorem BoxM.cell {w : World} {bx m : Nat} {t : TypeId} (h : BoxM w bx m t) : w.cell? ⟨bx, 0, none⟩ = some (.map (some m)) := by rw [cell_of_row w bx 0 _ _ (0, 0) h]; rfl
theorem ceilings1_any (W : World) (c : Cf) (v : Vs) (hn : c.ress.length ≤ 8796093022208) (hends : endsB c = true) (isr : Bool) (id : Nat) (prio : Int) (s : Sl) (l : List Int) (hl : RowsAt W 1 intP s l) (hid : ∀ x ∈ l, isId x c.ress.length = true)
  (bt bf mt b : Nat) (ks : List Nat) (f : Nat → Option Int) (h1 : BoxM W bt mt 204) (h2 : BoxM W bf b 152) (hM : MapT W mt c.ress.length ks f) (hE : EndsAt W b c) (hbm : b ≠ mt) :
  Calls Tryz.prog 131 #[.agg (usC isr id prio s), .pointer (some ⟨bt, 0, none⟩), .pointer (some ⟨bf, 0, none⟩)] W fun e w' => e = .returned (.tuple #[]) ∧ W.grownBy w' (some mt) ∧ ∃ ks', MapT w' mt c.ress.length ks' (addL c prio l f) := by
 have HS : Hid (s.n = l.length) := hl.n
 have hsc : s.n ≤ s.c := hl.c
 have hsm : s.c ≤ maxLen := hl.m
 unfold maxLen at hsm
 have HMN : Hid (∀ x m t, BoxM W x m t → x ≠ mt) := fun x m t hx e => by
  obtain ⟨D, ⟨es, clock, hb, _⟩, _⟩ := hM.ex
  unfold BoxM at hx
  rw [e, hb] at hx
  cases hx
 have hb := below_alloc W (.cells (usC isr id prio s) 207)
 have hU := heap_alloc_new W (.cells (usC isr id prio s) 207)
 have hmtl := hM.block
 have HG0 : Hid (W.grownBy (W.alloc (.cells (usC isr id prio s) 207)) (some mt)) := World.grownBy_alloc W _ _
 have HM0 : Hid (MapT (W.alloc (.cells (usC isr id prio s) 207)) mt c.ress.length ks f) := hM.below hb
 have HF : Hid (∀ W', (W.alloc (.cells (usC isr id prio s) 207)).grownBy W' (some mt) → W'.cell? ⟨bt, 0, none⟩ = some (.map (some mt)) ∧ W'.cell? ⟨bf, 0, none⟩ = some (.map (some b)) ∧ W'.cell? ⟨W.heap.size, 2, none⟩ = some (I prio) ∧ EndsAt W' b c ∧ RowsAt W' 1 intP s l ∧ W'.cell? ⟨W.heap.size, 3, none⟩ = some (.slice s.a s.n s.c)) := fun W' hg => by
  have q1 : BoxM W' bt mt 204 := heap_kept (heap_over _ _ h1) hg (fun e => HMN.out _ _ _ h1 (Option.some.inj e))
  have q2 : BoxM W' bf b 152 := heap_kept (heap_over _ _ h2) hg (fun e => HMN.out _ _ _ h2 (Option.some.inj e))
  have q3 := heap_kept hU hg (fun e => by have := Option.some.inj e; omega)
  have hk : Keeps (W.alloc (.cells (usC isr id prio s) 207)) W' := by
   obtain ⟨D, ⟨es, clock, hbk, _⟩, _⟩ := HM0.out.ex
   refine ⟨hg.size, fun g i u e => hg.cell e (fun q => ?_)⟩
   have q2 : g = mt := Option.some.inj q
   subst q2
   simp [World.cell?, hbk] at e
  refine ⟨q1.cell, q2.cell, ?_, (hE.below hb).kept hg (fun e => hbm (Option.some.inj e)), (hl.below hb (fun _ _ _ _ h => h)).keeps hk (fun _ _ _ _ h => h), ?_⟩
  ·rw [cell_of_row W' _ 2 _ _ (0, 0) q3]; rfl
  ·rw [cell_of_row W' _ 3 _ _ (0, 0) q3]; rfl
 have HID : Hid (∀ x ∈ l, isId x c.ress.length = true) := hid
 have HEN : Hid (endsB c = true) := hends
 unfold usC at *
 clear hl hid hE h1 h2 hb hU hends HMN hM
 go_enter Tryz.func131, Tryz.ntmps131
 go_wp2
 generalize hW0 : W.alloc (.cells #[.bool isr, I (id : Int), I prio, .slice s.a s.n s.c] 207) = W0 at *
 clear hW0
 go_loopw [5, 9] (fun _ iv wr => ∃ (j : Nat) (ks1 : List Nat), j ≤ s.n ∧ iv = .int .i64 j ∧ Hid (MapT wr mt c.ress.length ks1 (addL c prio (l.take j) f) ∧ W0.grownBy wr (some mt))) (fun _ iv _ => s.n - (intOf iv).toNat)
 case atStart => exact ⟨0, ks, by omega, rfl, HM0.out, grown_refl _ _⟩
 case round =>
  clear HM0
  obtain ⟨j, ks1, hj, rfl, HJ⟩ := hrel
  obtain ⟨y1, y2, y3, hE, hl, _⟩ := HF.out _ HJ.out.2
  by_cases hlt : j < s.n
  ·have hlt' : (j : Int) < s.n := by omega
   obtain ⟨xi, hx⟩ : ∃ x, l[j]? = some x := ⟨_, List.getElem?_eq_getElem (by rw [← HS.out]; exact hlt)⟩
   have hbd : 0 ≤ xi ∧ xi < c.ress.length := by simpa [isId] using HID.out xi (List.mem_of_getElem? hx)
   obtain ⟨x, rfl⟩ := Int.eq_ofNat_of_zero_le hbd.1
   have hxn : x < c.ress.length := by omega
   obtain ⟨g5, o5, e5, hg5, b5⟩ := ints_at hl hx
   have hr0 := endsB_at HEN.out hxn
   have hrl := rootF_lt c c.ress.length (x : Int)
   obtain ⟨q, hq⟩ := Int.eq_ofNat_of_zero_le hr0
   have hqn : q < c.ress.length := by have : rootN c (x : Int) < c.ress.length := hrl; omega
   have hq63 : q < 9223372036854775808 := by omega
   have Hq : Hid (rootN c (x : Int) = (q : Int)) := hq
   have HAd : Hid (addL c prio (l.take (j + 1)) f = setT (addL c prio (l.take j) f) q (topAdd (addL c prio (l.take j) f q) prio)) := addL_snoc hx hq f
   rw [e5]
   clear hx hbd e5 hl hr0 hrl hq
   go_wp2
   have hgd : wr.grownBy wr.drew none := ⟨rfl, rfl, rfl, Nat.le_refl _, fun _ _ _ => rfl⟩
   have hEd : EndsAt wr.drew b c := hE.kept hgd (by simp)
   have hMd := HJ.out.1.kept hgd (by simp)
   refine wp_region_held_drew (S := fun W' => W'.cell? ⟨bt, 0, none⟩ = some (.map (some mt)) ∧ W'.cell? ⟨bf, 0, none⟩ = some (.map (some b)) ∧ W'.cell? ⟨W.heap.size, 2, none⟩ = some (I prio) ∧ EndsAt W' b c) (by kernel_rfl) ⟨y1, y2, y3, hEd⟩ (fun hHeld => ?_)
   refine wpAnyH_take (i := 0) (v := ?_) rfl (by kernel_rfl) (by kernel_rfl) (by kernel_rfl) (fun _ _ _ h => h) (Or.inl ⟨by rfl, ?_⟩) hHeld ?_
   rotate_left
   ·intro w' hSw
    obtain ⟨hS0, hS1, hS2, _⟩ := hSw
    go_simp
    try with_reducible rfl
   try simp only [Act.put, List.getElem_toArray, List.getElem_cons_succ, List.getElem_cons_zero, List.setIfInBounds_toArray, List.set_cons_zero, List.set_cons_succ]
   refine wpAnyH_take (i := 1) (v := ?_) rfl (by kernel_rfl) (by kernel_rfl) (by kernel_rfl) (fun _ _ _ h => h) (Or.inl ⟨by rfl, ?_⟩) hHeld ?_
   rotate_left
   ·intro w' hSw
    obtain ⟨hS0, hS1, hS2, _⟩ := hSw
    go_simp
    try with_reducible rfl
   try simp only [Act.put, List.getElem_toArray, List.getElem_cons_succ, List.getElem_cons_zero, List.setIfInBounds_toArray, List.set_cons_zero, List.set_cons_succ]
   refine wpAnyH_take (i := 2) (v := ?_) rfl (by kernel_rfl) (by kernel_rfl) (by kernel_rfl) (fun _ _ _ h => h) (Or.inl ⟨by rfl, ?_⟩) hHeld ?_
   rotate_left
   ·intro w' hSw
    obtain ⟨hS0, hS1, hS2, _⟩ := hSw
    go_simp
    try with_reducible rfl
   try simp only [Act.put, List.getElem_toArray, List.getElem_cons_succ, List.getElem_cons_zero, List.setIfInBounds_toArray, List.set_cons_zero, List.set_cons_succ]
   refine wpAnyH_take (i := 3) (v := .int .i64 (q : Int)) rfl (by kernel_rfl) (by kernel_rfl) (by kernel_rfl) (fun _ _ _ h => h) (yieldsIf_find (by rfl) _ _ 152 rfl Tryz.underlying152 b c rfl (fun _ hw => hw.2.2.2) hn x hxn rfl Hq.out) hHeld ?_
   try simp only [Act.put, List.getElem_toArray, List.getElem_cons_succ, List.getElem_cons_zero, List.setIfInBounds_toArray, List.set_cons_zero, List.set_cons_succ]
   refine wpAnyH_take (i := 4) (v := ?_) rfl (by kernel_rfl) (by kernel_rfl) (by kernel_rfl) (fun _ _ _ h => h) (Or.inl ⟨by rfl, ?_⟩) hHeld ?_
   rotate_left
   ·intro w' hSw
    obtain ⟨hS0, hS1, hS2, _⟩ := hSw
    go_simp
    try with_reducible rfl
   try simp only [Act.put, List.getElem_toArray, List.getElem_cons_succ, List.getElem_cons_zero, List.setIfInBounds_toArray, List.set_cons_zero, List.set_cons_succ]
   refine wpAnyH_take (i := 5) (v := ?_) rfl (by kernel_rfl) (by kernel_rfl) (by kernel_rfl) (fun _ _ _ h => h) (Or.inl ⟨by rfl, ?_⟩) hHeld ?_
   rotate_left
   ·intro w' hSw
    obtain ⟨hS0, hS1, hS2, _⟩ := hSw
    go_simp
    try with_reducible rfl
   try simp only [Act.put, List.getElem_toArray, List.getElem_cons_succ, List.getElem_cons_zero, List.setIfInBounds_toArray, List.set_cons_zero, List.set_cons_succ]
   refine wpAnyH_take (i := 6) (v := ?_) rfl (by kernel_rfl) (by kernel_rfl) (by kernel_rfl) (fun _ _ _ h => h) (Or.inl ⟨by rfl, ?_⟩) hHeld ?_
   rotate_left
   ·intro w' hSw
    obtain ⟨hS0, hS1, hS2, _⟩ := hSw
    go_simp
    try with_reducible rfl
   try simp only [Act.put, List.getElem_toArray, List.getElem_cons_succ, List.getElem_cons_zero, List.setIfInBounds_toArray, List.set_cons_zero, List.set_cons_succ]
   refine wpAnyH_take (i := 7) (v := .int .i64 (q : Int)) rfl (by kernel_rfl) (by kernel_rfl) (by kernel_rfl) (fun _ _ _ h => h) (yieldsIf_find (by rfl) _ _ 152 rfl Tryz.underlying152 b c rfl (fun _ hw => hw.2.2.2) hn x hxn rfl Hq.out) hHeld ?_
   try simp only [Act.put, List.getElem_toArray, List.getElem_cons_succ, List.getElem_cons_zero, List.setIfInBounds_toArray, List.set_cons_zero, List.set_cons_succ]
   refine wpAnyH_take (i := 9) (v := ?_) rfl (by kernel_rfl) (by kernel_rfl) (by kernel_rfl) (fun _ _ _ h => h) (Or.inl ⟨by rfl, ?_⟩) hHeld ?_
   rotate_left
   ·intro w' hSw
    obtain ⟨hS0, hS1, hS2, _⟩ := hSw
    go_simp
    try with_reducible rfl
   try simp only [Act.put, List.getElem_toArray, List.getElem_cons_succ, List.getElem_cons_zero, List.setIfInBounds_toArray, List.set_cons_zero, List.set_cons_succ]
   refine wpAnyH_take (i := 10) (v := ?_) rfl (by kernel_rfl) (by kernel_rfl) (by kernel_rfl) (fun _ _ _ h => h) (Or.inl ⟨by rfl, ?_⟩) hHeld ?_
   rotate_left
   ·intro w' hSw
    obtain ⟨hS0, hS1, hS2, _⟩ := hSw
    go_simp
    try with_reducible rfl
   try simp only [Act.put, List.getElem_toArray, List.getElem_cons_succ, List.getElem_cons_zero, List.setIfInBounds_toArray, List.set_cons_zero, List.set_cons_succ]
   refine wpAnyH_ready (rs := [8]) (by kernel_rfl) (by simp) ?_
   refine AllReadyH.cons rfl (fun K hK => ?_) AllReadyH.nil
   rw [if_pos (by rfl)]
   refine wp_top_at _ _ 204 rfl Tryz.underlying204 mt c.ress.length ks1 (addL c prio (l.take j) f) rfl hMd q hq63 rfl ?_
   refine hK.out _ _ ⟨y1, y2, y3, hEd⟩ (fun hHeld => ?_)
   clear hK K
   try simp only [Act.put, List.getElem_toArray, List.getElem_cons_succ, List.getElem_cons_zero, List.setIfInBounds_toArray, List.set_cons_zero, List.set_cons_succ]
   refine wpAnyH_ready (rs := [11]) (by kernel_rfl) (by simp) ?_
   refine AllReadyH.cons rfl (fun K hK => ?_) AllReadyH.nil
   go_simp
   go_wp2_with (go_at_call 132; refine (with_any _ (addL c prio (l.take j) f q) prio).mono ?_; rintro e w2 ⟨rfl, hb2⟩)
   have hB2 : Below wr.heap.size wr w2 := ⟨hb2.os, hb2.tape, hb2.output, hb2.size, hb2.block⟩
   have hG2 := grown_same HJ.out.2 (grown_of_below hB2)
   have hM2 := HJ.out.1.below hB2
   obtain ⟨u1, u2, u3, hE2, _, _⟩ := HF.out _ hG2
   refine hK.out _ _ ⟨u1, u2, u3, hE2⟩ (fun hHeld => ?_)
   clear hK K
   try simp only [Act.put, List.getElem_toArray, List.getElem_cons_succ, List.getElem_cons_zero, List.setIfInBounds_toArray, List.set_cons_zero, List.set_cons_succ]
   refine wpAnyH_ready (rs := [12]) (by kernel_rfl) (by simp) ?_
   refine AllReadyH.cons rfl (fun K hK => ?_) AllReadyH.nil
   rw [if_pos (by rfl)]
   refine wp_top_put _ _ _ 204 rfl Tryz.underlying204 mt c.ress.length ks1 (addL c prio (l.take j) f) rfl hM2 hn q hqn rfl (topAdd (addL c prio (l.take j) f q) prio) rfl ?_
   intro w3 hM3 hg3
   have hG3 := grown_same hG2 hg3
   obtain ⟨v1, v2, v3, hE3, _, _⟩ := HF.out _ hG3
   refine hK.out _ _ ⟨v1, v2, v3, hE3⟩ (fun hHeld => ?_)
   clear hK K
   have HJ3 : Hid (MapT w3 mt c.ress.length (insK ks1 q) (addL c prio (l.take (j + 1)) f) ∧ W0.grownBy w3 (some mt)) := ⟨by rw [HAd.out]; exact hM3, hG3⟩
   clear hHeld hM3 hG3 hM2 hG2 hg3 hb2 hB2 hE3 hE2 hEd hMd hgd HJ u1 u2 u3 v1 v2 v3 hE y1 y2 y3
   refine wpAnyH_done (by kernel_rfl) ?_ _
   try simp only [Act.put, List.getElem_toArray, List.getElem_cons_succ, List.getElem_cons_zero, List.setIfInBounds_toArray, List.set_cons_zero, List.set_cons_succ]
   go_wp2
   go_roundw
   case rel => exact ⟨j + 1, _, by omega, by go_num, HJ3.out⟩
   case measure => simp [intOf]; omega
  ·obtain rfl : j = s.n := by omega
   have hlt' : ¬ ((s.n : Nat) : Int) < (s.n : Nat) := by omega
   have HM9 : Hid (MapT wr mt c.ress.length ks1 (addL c prio l f)) := by
    have := HJ.out.1
    rw [List.take_of_length_le (by rw [HS.out]; exact Nat.le_refl _)] at this
    exact this
   have HG9 : Hid (W.grownBy wr (some mt)) := grown_same HG0.out HJ.out.2
   clear hl hE y1 y2 y3
   go_wp2
   refine bodyPost_end (v := .tuple #[]) (by simp [results, Tryz.results131, go_sem]) rfl ?_
   exact ⟨rfl, HG9.out, ks1, HM9.out⟩
end Go.Proofs.YtmidaeljeoifdaaGreatDoor.Ce
