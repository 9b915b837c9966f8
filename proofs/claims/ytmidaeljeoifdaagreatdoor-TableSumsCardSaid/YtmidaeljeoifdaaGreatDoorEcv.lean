import Derived.Test.YtmidaeljeoifdaaGreatDoorEcu
namespace Go.Proofs.YtmidaeljeoifdaaGreatDoor.Ce
set_option maxRecDepth 100000
set_option maxHeartbeats 16000000
open Go.RowKit Go.Maps
set_option linter.unusedVariables false
set_option linter.unusedSimpArgs false
def topC : Option Int → Array Value
 | none => #[.bool false, I 0]
 | some p => #[.bool true, I p]
def topAdd (t : Option Int) (p : Int) : Option Int := some (match t with | none => p | some q => max p q)
def toldI (t : Option Int) : Int := match t with | none => -1 | some p => p
theorem res_top {fn : Func} {n : Nat} (hf : fn.results = #[.cell n 209]) (tmps : Array Value) (b : Nat) (w : World) (v0 v1 : Value)
  (h2 : tmps[n]? = some (.pointer (some ⟨b, 0, none⟩))) (hk : w.heap[b]? = some (.cells #[v0, v1] 209 (0, 0))) :
  (results fn tmps).run Tryz.prog w = .ok (.agg #[v0, v1]) w := by
 have a1 := fun i => cell_of_row w b i _ _ (0, 0) hk
 have z0 := a1 0; have z1 := a1 1
 simp at z0 z1
 simp [results, hf, go_sem, h2, z0, z1]
theorem with_any (w : World) (t : Option Int) (p : Int) : Calls Tryz.prog 132 #[.agg (topC t), I p] w fun e w' => e = .returned (.agg (topC (topAdd t p))) ∧ Below w.heap.size w w' := by
 have hb2 : ∀ o o', Below w.heap.size w ((w.alloc o).alloc o') := fun o o' => ((Below.refl w.heap.size w).alloc (Nat.le_refl _) _).alloc (by simp) _
 have hh := heap_two w
 cases t with
 | none =>
  show Calls _ _ #[.agg #[.bool false, I 0], I p] _ (fun e w' => e = .returned (.agg #[.bool true, I p]) ∧ Below w.heap.size w w')
  go_enter Tryz.func132, Tryz.ntmps132
  go_wp2
  refine bodyPost_ret (res_top Tryz.results132 _ (w.heap.size + 1) _ _ _ rfl (hh _ _)) rfl ⟨rfl, hb2 _ _⟩
 | some q =>
  show Calls _ _ #[.agg #[.bool true, I q], I p] _ (fun e w' => e = .returned (.agg #[.bool true, I (max p q)]) ∧ Below w.heap.size w w')
  obtain ⟨m, hm⟩ : ∃ m, m = max p q := ⟨_, rfl⟩
  rw [← hm]
  have HM : Hid (m = max p q) := hm
  clear hm
  go_enter Tryz.func132, Tryz.ntmps132
  go_wp2
  all_goals
   refine bodyPost_ret (res_top Tryz.results132 _ (w.heap.size + 1) _ _ _ rfl (hh _ _)) rfl ⟨?_, hb2 _ _⟩
   rw [HM.out]
   first
    | (rw [show max p q = q by omega])
    | (rw [show max p q = p by omega])
theorem told_any (w : World) (t : Option Int) : Calls Tryz.prog 133 #[.agg (topC t)] w fun e w' => e = .returned (I (toldI t)) ∧ Below w.heap.size w w' := by
 have hb := below_alloc w
 cases t with
 | none =>
  show Calls _ _ #[.agg #[.bool false, I 0]] _ (fun e w' => e = .returned (I (-1)) ∧ Below w.heap.size w w')
  go_enter Tryz.func133, Tryz.ntmps133
  go_wp2
  go_ret
  exact ⟨rfl, hb _⟩
 | some q =>
  show Calls _ _ #[.agg #[.bool true, I q]] _ (fun e w' => e = .returned (I q) ∧ Below w.heap.size w w')
  go_enter Tryz.func133, Tryz.ntmps133
  go_wp2
  go_ret
  exact ⟨rfl, hb _⟩
def schT (c : Cf) (k : Nat) : Option Int := (c.tasks.take k).foldl (fun t x => topAdd t x.prio) none
theorem schT_succ {c : Cf} {k : Nat} {x : Tk} (h : c.tasks[k]? = some x) : schT c (k + 1) = topAdd (schT c k) x.prio := by
 unfold schT
 rw [List.take_add_one, h, Option.toList_some, List.foldl_append]
 rfl
theorem topC_two (t : Option Int) : ∃ s q, topC t = #[.bool s, I q] := by
 cases t with
 | none => exact ⟨false, 0, rfl⟩
 | some p => exact ⟨true, p, rfl⟩
def schE (c : Cf) : Int := toldI (schT c c.tasks.length)
theorem set2_at (w : World) (b : Nat) (t : TypeId) (o0 o1 v0 v1 : Value) (k : w.heap[b]? = some (.cells #[o0, o1] t (0, 0))) : ((w.setCell ⟨b, 0, none⟩ v0).setCell ⟨b, 1, none⟩ v1).heap[b]? = some (.cells #[v0, v1] t (0, 0)) := by
 have h0 : (w.setCell ⟨b, 0, none⟩ v0).heap[b]? = some (.cells #[v0, o1] t (0, 0)) := heap_setCell_same _ b 0 _ t _ k
 generalize w.setCell ⟨b, 0, none⟩ v0 = w0 at *
 exact heap_setCell_same _ b 1 _ t _ h0
theorem grown_set2 (w : World) (b : Nat) (v0 v1 : Value) : w.grownBy ((w.setCell ⟨b, 0, none⟩ v0).setCell ⟨b, 1, none⟩ v1) (some b) := grown_same (grown_set w b 0 v0) (grown_set _ b 1 v1)
theorem scheduler_any (w : World) (c : Cf) (v : Vs) (h : CfAt w c v) : Calls Tryz.prog 80 #[.agg (cfC c v)] w fun e w' => e = .returned (I (schE c)) ∧ Below w.heap.size w w' := by
 have HN : Hid (v.t.n = c.tasks.length) := h.t.n
 have HH : Hid (CfAt w c v) := h
 have hct : v.t.n ≤ v.t.c := h.t.c
 have hmt : v.t.c ≤ maxLen := h.t.m
 unfold maxLen at hmt
 have f11 : ∀ h : 11 < (cfC c v).size, (cfC c v)[11] = .slice v.t.a v.t.n v.t.c := fun _ => rfl
 have hs18 : (cfC c v).size = 18 := rfl
 generalize cfC c v = C at *
 replace f11 := f11 (by omega)
 have hb2 : Below w.heap.size w ((w.alloc (.cells C 47)).alloc (.cells #[.bool false, I 0] 209)) := ((Below.refl w.heap.size w).alloc (Nat.le_refl _) _).alloc (by simp) _
 have hT2 := heap_two w (.cells C 47) (.cells #[.bool false, I 0] 209)
 have HB2 : Hid (Below w.heap.size w ((w.alloc (.cells C 47)).alloc (.cells #[.bool false, I 0] 209))) := hb2
 have HT2 : Hid (((w.alloc (.cells C 47)).alloc (.cells #[.bool false, I 0] 209)).heap[w.heap.size + 1]? = some (.cells (topC (schT c 0)) 209 (0, 0))) := hT2
 have hiT : (Tryz.prog.info? 209).map (·.size) = some 2 := by kernel_rfl
 clear h hb2 hT2
 go_enter Tryz.func80, Tryz.ntmps80
 go_wp2
 clear f11
 go_loopw [5, 9] (fun _ iv wr => ∃ j : Nat, j ≤ v.t.n ∧ iv = .int .i64 j ∧ Hid (Below w.heap.size w wr ∧ wr.heap[w.heap.size + 1]? = some (.cells (topC (schT c j)) 209 (0, 0)))) (fun _ iv _ => v.t.n - (intOf iv).toNat)
 case atStart => exact ⟨0, by omega, rfl, HB2.out, HT2.out⟩
 case round =>
  clear HB2 HT2
  obtain ⟨j, hj, rfl, HJ⟩ := hrel
  have hbr := HJ.out.1
  by_cases hlt : j < v.t.n
  ·have hlt' : (j : Int) < v.t.n := by omega
   obtain ⟨x, hx⟩ : ∃ x, c.tasks[j]? = some x := ⟨_, List.getElem?_eq_getElem (by rw [← HN.out]; exact hlt)⟩
   obtain ⟨g, off, s4, s5, s6, s7, e, hg, a0, a1, a2, a3, a4, a5, a6, a7, r4, r5, r6, r7⟩ := tk_at (HH.out.below hbr) hx
   have hng : g ≠ wr.heap.size := Nat.ne_of_lt hg
   have hst : (storeCells ⟨wr.heap.size, 0, none⟩ [S x.name, I x.prio, .bool x.full, I x.act, .slice s4.a s4.n s4.c, .slice s5.a s5.n s5.c, .slice s6.a s6.n s6.c, .slice s7.a s7.n s7.c] 0).run Tryz.prog (wr.alloc (.cells #[.string ⟨#[]⟩, .int .i64 0, .bool false, .int .i64 0, .slice none 0 0, .slice none 0 0, .slice none 0 0, .slice none 0 0] 58)) = .ok () (wr.alloc (.cells #[S x.name, I x.prio, .bool x.full, I x.act, .slice s4.a s4.n s4.c, .slice s5.a s5.n s5.c, .slice s6.a s6.n s6.c, .slice s7.a s7.n s7.c] 58)) :=
    run_storeCells_new (P := Tryz.prog) wr 58 #[.string ⟨#[]⟩, .int .i64 0, .bool false, .int .i64 0, .slice none 0 0, .slice none 0 0, .slice none 0 0, .slice none 0 0] #[S x.name, I x.prio, .bool x.full, I x.act, .slice s4.a s4.n s4.c, .slice s5.a s5.n s5.c, .slice s6.a s6.n s6.c, .slice s7.a s7.n s7.c] (by kernel_rfl) rfl (by simp [Value.oneCell'])
   have hal := below_alloc wr (.cells #[S x.name, I x.prio, .bool x.full, I x.act, .slice s4.a s4.n s4.c, .slice s5.a s5.n s5.c, .slice s6.a s6.n s6.c, .slice s7.a s7.n s7.c] 58)
   have HTn : Hid (schT c (j + 1) = topAdd (schT c j) x.prio) := schT_succ hx
   have kw := with_any (wr.alloc (.cells #[S x.name, I x.prio, .bool x.full, I x.act, .slice s4.a s4.n s4.c, .slice s5.a s5.n s5.c, .slice s6.a s6.n s6.c, .slice s7.a s7.n s7.c] 58)) (schT c j) x.prio
   have hT := HJ.out.2
   have hTl := heap_lt hT
   have hTa := heap_over wr (.cells #[S x.name, I x.prio, .bool x.full, I x.act, .slice s4.a s4.n s4.c, .slice s5.a s5.n s5.c, .slice s6.a s6.n s6.c, .slice s7.a s7.n s7.c] 58) hT
   rw [← HTn.out] at kw
   obtain ⟨s0, q0, ht0⟩ := topC_two (schT c j)
   obtain ⟨s1, q1, ht1⟩ := topC_two (schT c (j + 1))
   rw [ht0] at kw hT hTa
   rw [ht1] at kw
   have y0 : wr.cell? ⟨w.heap.size + 1, 0, none⟩ = some (.bool s0) := by rw [cell_of_row wr _ 0 _ _ (0, 0) hT]; rfl
   have y1 : wr.cell? ⟨w.heap.size + 1, 1, none⟩ = some (I q0) := by rw [cell_of_row wr _ 1 _ _ (0, 0) hT]; rfl
   have HF : Hid (∀ w2, Below (wr.alloc (.cells #[S x.name, I x.prio, .bool x.full, I x.act, .slice s4.a s4.n s4.c, .slice s5.a s5.n s5.c, .slice s6.a s6.n s6.c, .slice s7.a s7.n s7.c] 58)).heap.size (wr.alloc (.cells #[S x.name, I x.prio, .bool x.full, I x.act, .slice s4.a s4.n s4.c, .slice s5.a s5.n s5.c, .slice s6.a s6.n s6.c, .slice s7.a s7.n s7.c] 58)) w2 → w2.heap[w.heap.size + 1]? = some (.cells #[.bool s0, I q0] 209 (0, 0)) ∧ Below w.heap.size w w2) := fun w2 h2 => by
    have b1 := hbr.trans (hal.mono hbr.size)
    exact ⟨(h2.block _ (heap_lt hTa)).trans hTa, b1.trans (h2.mono b1.size)⟩
   have Ht1 : Hid (topC (schT c (j + 1)) = #[.bool s1, I q1]) := ht1
   rw [e]
   clear hx e HJ hal r4 r5 r6 r7 hbr HTn hT hTa ht0 ht1
   go_wp2_with (go_at_call 132; refine kw.mono ?_; clear kw; rintro e5 w2 ⟨rfl, hb2⟩; obtain ⟨hT2, hbw2⟩ := HF.out _ hb2; have z0 : w2.cell? ⟨w.heap.size + 1, 0, none⟩ = some (.bool s0) := (by rw [cell_of_row w2 _ 0 _ _ (0, 0) hT2]; rfl); have z1 : w2.cell? ⟨w.heap.size + 1, 1, none⟩ = some (I q0) := (by rw [cell_of_row w2 _ 1 _ _ (0, 0) hT2]; rfl); have fz : ∀ i, w2.frozen? ⟨w.heap.size + 1, i, none⟩ = false := (fun i => frozen_of_row w2 _ i _ _ hT2); have HT2 : Hid (w2.heap[w.heap.size + 1]? = some (.cells #[.bool s0, I q0] 209 (0, 0))) := hT2; have Hb2 : Hid (Below w.heap.size w w2) := hbw2; clear hb2 hT2 hbw2)
   have HJ2 : Hid (Below w.heap.size w ((w2.setCell ⟨w.heap.size + 1, 0, none⟩ (.bool s1)).setCell ⟨w.heap.size + 1, 1, none⟩ (I q1)) ∧ ((w2.setCell ⟨w.heap.size + 1, 0, none⟩ (.bool s1)).setCell ⟨w.heap.size + 1, 1, none⟩ (I q1)).heap[w.heap.size + 1]? = some (.cells (topC (schT c (j + 1))) 209 (0, 0))) := ⟨Hb2.out.grown (grown_set2 w2 _ _ _) Hb2.out.size (fun k e => by cases e; omega), by rw [Ht1.out]; exact set2_at w2 _ _ _ _ _ _ HT2.out⟩
   go_roundw
   case rel => exact ⟨j + 1, by omega, by go_num, HJ2.out⟩
   case measure => simp [intOf]; omega
  ·obtain rfl : j = v.t.n := by omega
   have hlt' : ¬ ((v.t.n : Nat) : Int) < (v.t.n : Nat) := by omega
   have kt := told_any wr (schT c v.t.n)
   have hT := HJ.out.2
   obtain ⟨s0, q0, ht0⟩ := topC_two (schT c v.t.n)
   have HE : Hid (toldI (schT c v.t.n) = schE c) := by show _ = _; rw [HN.out]; rfl
   rw [HE.out, ht0] at kt
   rw [ht0] at hT
   have y0 : wr.cell? ⟨w.heap.size + 1, 0, none⟩ = some (.bool s0) := by rw [cell_of_row wr _ 0 _ _ (0, 0) hT]; rfl
   have y1 : wr.cell? ⟨w.heap.size + 1, 1, none⟩ = some (I q0) := by rw [cell_of_row wr _ 1 _ _ (0, 0) hT]; rfl
   clear hT ht0 HE
   go_wp2_with (go_at_call 133; refine kt.mono ?_; clear kt; rintro e5 w2 ⟨rfl, hb2⟩)
   go_ret
   exact ⟨rfl, hbr.trans (hb2.mono hbr.size)⟩
end Go.Proofs.YtmidaeljeoifdaaGreatDoor.Ce
