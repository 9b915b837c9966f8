import Derived.Test.YtpbnpmeigdjfdaaGreatDoorEcu
namespace Go.Proofs.YtpbnpmeigdjfdaaGreatDoor.Ce
open Go.Maps Go.RowKit
set_option linter.unusedSimpArgs false
set_option linter.unusedVariables false
set_option maxHeartbeats 16000000
set_option maxRecDepth 100000
def topC : Option Int → Array Value
 | none => #[.bool false, I 0]
 | some p => #[.bool true, I p]
def topAdd (t : Option Int) (p : Int) : Option Int := some (match t with | none => p | some q => max p q)
def toldI (t : Option Int) : Int := match t with | none => -1 | some p => p
theorem res_top {fn : Func} {n : Nat} (hf : fn.results = #[.cell n 183]) (tmps : Array Value) (b : Nat) (w : World) (v0 v1 : Value)
  (h2 : tmps[n]? = some (.pointer (some ⟨b, 0, none⟩))) (hk : w.heap[b]? = some (.cells #[v0, v1] 183 (0, 0))) :
  (results fn tmps).run Tryz.prog w = .ok (.agg #[v0, v1]) w := by
 have a1 := fun i => cell_of_row w b i _ _ (0, 0) hk
 have z0 := a1 0; have z1 := a1 1
 simp at z0 z1
 simp [results, hf, go_sem, h2, z0, z1]
theorem with_any (w : World) (t : Option Int) (p : Int) : Calls Tryz.prog 105 #[.agg (topC t), I p] w fun e w' => e = .returned (.agg (topC (topAdd t p))) ∧ Below w.heap.size w w' := by
 have hb2 : ∀ o o', Below w.heap.size w ((w.alloc o).alloc o') := fun o o' => ((Below.refl w.heap.size w).alloc (Nat.le_refl _) _).alloc (by simp) _
 have hh := heap_two w
 cases t with
 | none =>
  show Calls _ _ #[.agg #[.bool false, I 0], I p] _ (fun e w' => e = .returned (.agg #[.bool true, I p]) ∧ Below w.heap.size w w')
  go_enter Tryz.func105, Tryz.ntmps105
  go_wp2
  refine bodyPost_ret (res_top Tryz.results105 _ (w.heap.size + 1) _ _ _ rfl (hh _ _)) rfl ⟨rfl, hb2 _ _⟩
 | some q =>
  show Calls _ _ #[.agg #[.bool true, I q], I p] _ (fun e w' => e = .returned (.agg #[.bool true, I (max p q)]) ∧ Below w.heap.size w w')
  obtain ⟨m, hm⟩ : ∃ m, m = max p q := ⟨_, rfl⟩
  rw [← hm]
  have HM : Hid (m = max p q) := hm
  clear hm
  go_enter Tryz.func105, Tryz.ntmps105
  go_wp2
  all_goals
   refine bodyPost_ret (res_top Tryz.results105 _ (w.heap.size + 1) _ _ _ rfl (hh _ _)) rfl ⟨?_, hb2 _ _⟩
   rw [HM.out]
   first
    | (rw [show max p q = q by omega])
    | (rw [show max p q = p by omega])
theorem told_any (w : World) (t : Option Int) : Calls Tryz.prog 106 #[.agg (topC t)] w fun e w' => e = .returned (I (toldI t)) ∧ Below w.heap.size w w' := by
 have hb := below_alloc w
 cases t with
 | none =>
  show Calls _ _ #[.agg #[.bool false, I 0]] _ (fun e w' => e = .returned (I (-1)) ∧ Below w.heap.size w w')
  go_enter Tryz.func106, Tryz.ntmps106
  go_wp2
  go_ret
  exact ⟨rfl, hb _⟩
 | some q =>
  show Calls _ _ #[.agg #[.bool true, I q]] _ (fun e w' => e = .returned (I q) ∧ Below w.heap.size w w')
  go_enter Tryz.func106, Tryz.ntmps106
  go_wp2
  go_ret
  exact ⟨rfl, hb _⟩
def schT (c : Cf) (k : Nat) : Option Int := (c.tasks.take k).foldl (fun t x => topAdd t x.prio) none
theorem schT_succ {c : Cf} {k : Nat} {x : Tk} (h : c.tasks[k]? = some x) : schT c (k + 1) = topAdd (schT c k) x.prio := by
 unfold schT
 rw [List.take_add_one, h, Option.toList_some, List.foldl_append]
 rfl
theorem topC_two (t : Option Int) : ∃ s q, topC t = #[.bool s, I q] := by
 cases t with
 | none => exact ⟨false, 0, rfl⟩
 | some p => exact ⟨true, p, rfl⟩
def schE (c : Cf) : Int := toldI (schT c c.tasks.length)
theorem set2_at (w : World) (b : Nat) (t : TypeId) (o0 o1 v0 v1 : Value) (k : w.heap[b]? = some (.cells #[o0, o1] t (0, 0))) : ((w.setCell ⟨b, 0, none⟩ v0).setCell ⟨b, 1, none⟩ v1).heap[b]? = some (.cells #[v0, v1] t (0, 0)) := by
 have h0 : (w.setCell ⟨b, 0, none⟩ v0).heap[b]? = some (.cells #[v0, o1] t (0, 0)) := heap_setCell_same _ b 0 _ t _ k
 generalize w.setCell ⟨b, 0, none⟩ v0 = w0 at *
 exact heap_setCell_same _ b 1 _ t _ h0
theorem grown_set2 (w : World) (b : Nat) (v0 v1 : Value) : w.grownBy ((w.setCell ⟨b, 0, none⟩ v0).setCell ⟨b, 1, none⟩ v1) (some b) := grown_same (grown_set w b 0 v0) (grown_set _ b 1 v1)
theorem scheduler_any (w : World) (c : Cf) (v : Vs) (h : CfAt w c v) : Calls Tryz.prog 60 #[.agg (cfC c v)] w fun e w' => e = .returned (I (schE c)) ∧ Below w.heap.size w w' := by
 have HN : Hid (v.t.n = c.tasks.length) := h.t.n
 have HH : Hid (CfAt w c v) := h
 have hct : v.t.n ≤ v.t.c := h.t.c
 have hmt : v.t.c ≤ maxLen := h.t.m
 unfold maxLen at hmt
 have f11 : ∀ h : 11 < (cfC c v).size, (cfC c v)[11] = .slice v.t.a v.t.n v.t.c := fun _ => rfl
 have hs18 : (cfC c v).size = 18 := rfl
 generalize cfC c v = C at *
 replace f11 := f11 (by omega)
 have hb2 : Below w.heap.size w ((w.alloc (.cells C 33)).alloc (.cells #[.bool false, I 0] 183)) := ((Below.refl w.heap.size w).alloc (Nat.le_refl _) _).alloc (by simp) _
 have hT2 := heap_two w (.cells C 33) (.cells #[.bool false, I 0] 183)
 have HB2 : Hid (Below w.heap.size w ((w.alloc (.cells C 33)).alloc (.cells #[.bool false, I 0] 183))) := hb2
 have HT2 : Hid (((w.alloc (.cells C 33)).alloc (.cells #[.bool false, I 0] 183)).heap[w.heap.size + 1]? = some (.cells (topC (schT c 0)) 183 (0, 0))) := hT2
 have hiT : (Tryz.prog.info? 183).map (·.size) = some 2 := by kernel_rfl
 clear h hb2 hT2
 go_enter Tryz.func60, Tryz.ntmps60
 go_wp2
 clear f11
 go_loopw [5, 9] (fun _ iv wr => ∃ j : Nat, j ≤ v.t.n ∧ iv = .int .i64 j ∧ Hid (Below w.heap.size w wr ∧ wr.heap[w.heap.size + 1]? = some (.cells (topC (schT c j)) 183 (0, 0)))) (fun _ iv _ => v.t.n - (intOf iv).toNat)
 case atStart => exact ⟨0, by omega, rfl, HB2.out, HT2.out⟩
 case round =>
  clear HB2 HT2
  obtain ⟨j, hj, rfl, HJ⟩ := hrel
  have hbr := HJ.out.1
  by_cases hlt : j < v.t.n
  ·have hlt' : (j : Int) < v.t.n := by omega
   obtain ⟨x, hx⟩ : ∃ x, c.tasks[j]? = some x := ⟨_, List.getElem?_eq_getElem (by rw [← HN.out]; exact hlt)⟩
   obtain ⟨g, off, s4, s5, s6, s7, e, hg, a0, a1, a2, a3, a4, a5, a6, a7, r4, r5, r6, r7⟩ := tk_at (HH.out.below hbr) hx
   have hng : g ≠ wr.heap.size := Nat.ne_of_lt hg
   have hst : (storeCells ⟨wr.heap.size, 0, none⟩ [S x.name, I x.prio, .bool x.full, I x.act, .slice s4.a s4.n s4.c, .slice s5.a s5.n s5.c, .slice s6.a s6.n s6.c, .slice s7.a s7.n s7.c] 0).run Tryz.prog (wr.alloc (.cells #[.string ⟨#[]⟩, .int .i64 0, .bool false, .int .i64 0, .slice none 0 0, .slice none 0 0, .slice none 0 0, .slice none 0 0] 79)) = .ok () (wr.alloc (.cells #[S x.name, I x.prio, .bool x.full, I x.act, .slice s4.a s4.n s4.c, .slice s5.a s5.n s5.c, .slice s6.a s6.n s6.c, .slice s7.a s7.n s7.c] 79)) :=
    run_storeCells_new (P := Tryz.prog) wr 79 #[.string ⟨#[]⟩, .int .i64 0, .bool false, .int .i64 0, .slice none 0 0, .slice none 0 0, .slice none 0 0, .slice none 0 0] #[S x.name, I x.prio, .bool x.full, I x.act, .slice s4.a s4.n s4.c, .slice s5.a s5.n s5.c, .slice s6.a s6.n s6.c, .slice s7.a s7.n s7.c] (by kernel_rfl) rfl (by simp [Value.oneCell'])
   have hal := below_alloc wr (.cells #[S x.name, I x.prio, .bool x.full, I x.act, .slice s4.a s4.n s4.c, .slice s5.a s5.n s5.c, .slice s6.a s6.n s6.c, .slice s7.a s7.n s7.c] 79)
   have HTn : Hid (schT c (j + 1) = topAdd (schT c j) x.prio) := schT_succ hx
   have kw := with_any (wr.alloc (.cells #[S x.name, I x.prio, .bool x.full, I x.act, .slice s4.a s4.n s4.c, .slice s5.a s5.n s5.c, .slice s6.a s6.n s6.c, .slice s7.a s7.n s7.c] 79)) (schT c j) x.prio
   have hT := HJ.out.2
   have hTl := heap_lt hT
   have hTa := heap_over wr (.cells #[S x.name, I x.prio, .bool x.full, I x.act, .slice s4.a s4.n s4.c, .slice s5.a s5.n s5.c, .slice s6.a s6.n s6.c, .slice s7.a s7.n s7.c] 79) hT
   rw [← HTn.out] at kw
   obtain ⟨s0, q0, ht0⟩ := topC_two (schT c j)
   obtain ⟨s1, q1, ht1⟩ := topC_two (schT c (j + 1))
   rw [ht0] at kw hT hTa
   rw [ht1] at kw
   have y0 : wr.cell? ⟨w.heap.size + 1, 0, none⟩ = some (.bool s0) := by rw [cell_of_row wr _ 0 _ _ (0, 0) hT]; rfl
   have y1 : wr.cell? ⟨w.heap.size + 1, 1, none⟩ = some (I q0) := by rw [cell_of_row wr _ 1 _ _ (0, 0) hT]; rfl
   have HF : Hid (∀ w2, Below (wr.alloc (.cells #[S x.name, I x.prio, .bool x.full, I x.act, .slice s4.a s4.n s4.c, .slice s5.a s5.n s5.c, .slice s6.a s6.n s6.c, .slice s7.a s7.n s7.c] 79)).heap.size (wr.alloc (.cells #[S x.name, I x.prio, .bool x.full, I x.act, .slice s4.a s4.n s4.c, .slice s5.a s5.n s5.c, .slice s6.a s6.n s6.c, .slice s7.a s7.n s7.c] 79)) w2 → w2.heap[w.heap.size + 1]? = some (.cells #[.bool s0, I q0] 183 (0, 0)) ∧ Below w.heap.size w w2) := fun w2 h2 => by
    have b1 := hbr.trans (hal.mono hbr.size)
    exact ⟨(h2.block _ (heap_lt hTa)).trans hTa, b1.trans (h2.mono b1.size)⟩
   have Ht1 : Hid (topC (schT c (j + 1)) = #[.bool s1, I q1]) := ht1
   rw [e]
   clear hx e HJ hal r4 r5 r6 r7 hbr HTn hT hTa ht0 ht1
   go_wp2_with (go_at_call 105; refine kw.mono ?_; clear kw; rintro e5 w2 ⟨rfl, hb2⟩; obtain ⟨hT2, hbw2⟩ := HF.out _ hb2; have z0 : w2.cell? ⟨w.heap.size + 1, 0, none⟩ = some (.bool s0) := (by rw [cell_of_row w2 _ 0 _ _ (0, 0) hT2]; rfl); have z1 : w2.cell? ⟨w.heap.size + 1, 1, none⟩ = some (I q0) := (by rw [cell_of_row w2 _ 1 _ _ (0, 0) hT2]; rfl); have fz : ∀ i, w2.frozen? ⟨w.heap.size + 1, i, none⟩ = false := (fun i => frozen_of_row w2 _ i _ _ hT2); have HT2 : Hid (w2.heap[w.heap.size + 1]? = some (.cells #[.bool s0, I q0] 183 (0, 0))) := hT2; have Hb2 : Hid (Below w.heap.size w w2) := hbw2; clear hb2 hT2 hbw2)
   have HJ2 : Hid (Below w.heap.size w ((w2.setCell ⟨w.heap.size + 1, 0, none⟩ (.bool s1)).setCell ⟨w.heap.size + 1, 1, none⟩ (I q1)) ∧ ((w2.setCell ⟨w.heap.size + 1, 0, none⟩ (.bool s1)).setCell ⟨w.heap.size + 1, 1, none⟩ (I q1)).heap[w.heap.size + 1]? = some (.cells (topC (schT c (j + 1))) 183 (0, 0))) := ⟨Hb2.out.grown (grown_set2 w2 _ _ _) Hb2.out.size (fun k e => by cases e; omega), by rw [Ht1.out]; exact set2_at w2 _ _ _ _ _ _ HT2.out⟩
   go_roundw
   case rel => exact ⟨j + 1, by omega, by go_num, HJ2.out⟩
   case measure => simp [intOf]; omega
  ·obtain rfl : j = v.t.n := by omega
   have hlt' : ¬ ((v.t.n : Nat) : Int) < (v.t.n : Nat) := by omega
   have kt := told_any wr (schT c v.t.n)
   have hT := HJ.out.2
   obtain ⟨s0, q0, ht0⟩ := topC_two (schT c v.t.n)
   have HE : Hid (toldI (schT c v.t.n) = schE c) := by show _ = _; rw [HN.out]; rfl
   rw [HE.out, ht0] at kt
   rw [ht0] at hT
   have y0 : wr.cell? ⟨w.heap.size + 1, 0, none⟩ = some (.bool s0) := by rw [cell_of_row wr _ 0 _ _ (0, 0) hT]; rfl
   have y1 : wr.cell? ⟨w.heap.size + 1, 1, none⟩ = some (I q0) := by rw [cell_of_row wr _ 1 _ _ (0, 0) hT]; rfl
   clear hT ht0 HE
   go_wp2_with (go_at_call 106; refine kt.mono ?_; clear kt; rintro e5 w2 ⟨rfl, hb2⟩)
   go_ret
   exact ⟨rfl, hbr.trans (hb2.mono hbr.size)⟩
def topR : Value → Option (DataW Unit × List MemPlace)
 | .agg a => match a.toList with
  | [.bool b, .int .i64 p] => some (.agg [.lit (.bool b), .lit (.int .i64 p)], [])
  | _ => none
 | _ => none
def topD : Option Int → DataW Unit
 | none => .agg [.lit (.bool false), .lit (.int .i64 0)]
 | some p => .agg [.lit (.bool true), .lit (.int .i64 p)]
theorem topR_mk (t : Option Int) : topR (.agg (topC t)) = some (topD t, []) := by cases t <;> rfl
theorem topR_inv {v : Value} {t : Option Int} {ps : List MemPlace} (h : topR v = some (topD t, ps)) : v = .agg (topC t) := by
 unfold topR at h
 split at h
 ·rename_i a
  split at h
  ·rename_i b p hl
   have ha : a = #[.bool b, .int .i64 p] := by cases a; simp at hl; rw [hl]
   rw [ha]
   cases t with
   | none => simp [topD] at h; obtain ⟨⟨rfl, rfl⟩, _⟩ := h; rfl
   | some q => simp [topD] at h; obtain ⟨⟨rfl, rfl⟩, _⟩ := h; rfl
  ·cases h
 ·cases h
theorem zeroT (w : World) : (zeroValue 183).run Tryz.prog w = .ok (.agg (topC none)) w := by kernel_rfl
structure MapT (w : World) (b n : Nat) (ks : List Nat) (f : Nat → Option Int) : Prop where
 nd : ks.Nodup
 lt : ∀ k ∈ ks, k < n
 ex : ∃ D : DataW Unit, w.ownsMap Tryz.prog 3 topR b ks.length D ∧ Maps.size D = ks.length ∧ ∀ j : Nat, Maps.has D (.int .i64 j) = decide (j ∈ ks) ∧ D.atKey (.int .i64 j) (topD none) = topD (f j)
theorem MapT.made (w : World) (n : Nat) : MapT (w.alloc (.map #[] 0)) w.heap.size n [] (fun _ => none) :=
 ⟨List.nodup_nil, (fun k hk => by cases hk), .map [], World.ownsMap_made _ _ _ _, rfl, fun j => ⟨by simp [Maps.has], by simp [DataW.atKey]⟩⟩
theorem MapT.block {w : World} {b n : Nat} {ks : List Nat} {f : Nat → Option Int} (h : MapT w b n ks f) : b < w.heap.size := by
 obtain ⟨D, hD, _⟩ := h.ex
 exact hD.lt
theorem MapT.kept {w w' : World} {b n : Nat} {ks : List Nat} {f : Nat → Option Int} {row : Option Nat} (h : MapT w b n ks f) (hg : w.grownBy w' row) (hne : some b ≠ row) : MapT w' b n ks f := by
 obtain ⟨D, hD, h2⟩ := h.ex
 exact ⟨h.nd, h.lt, D, hD.kept hg hne, h2⟩
theorem MapT.below {w w' : World} {b n : Nat} {ks : List Nat} {f : Nat → Option Int} (h : MapT w b n ks f) (hb : Below w.heap.size w w') : MapT w' b n ks f := h.kept (grown_of_below (r := none) hb) (by simp)
def setT (f : Nat → Option Int) (j : Nat) (e : Option Int) (i : Nat) : Option Int := if i = j then e else f i
section
variable {w : World} {o : Oper} {a : Act} {K : Act → World → Prop} {Q : Exit → Act → World → Prop}
theorem wp_top_at (m x : Operand) (t : TypeId) (hop : o.op = Op.lookup t m x false) (ht : Tryz.prog.underlying t = some (.map 3 183)) (b n : Nat) (ks : List Nat) (f : Nat → Option Int)
  (hm : a.eval m = .map (some b)) (h : MapT w b n ks f) (j : Nat) (hj : j < 9223372036854775808) (hx : a.eval x = .int .i64 (j : Int)) (hK : K (a.put o.dst (.agg (topC (f j)))) w) : Oper.wp Tryz.prog o a w K Q := by
 obtain ⟨D, hD, hs, h2⟩ := h.ex
 obtain ⟨v, ps, hrun, hv⟩ := hD.lookup keyI ht (zeroT w) (topR_mk none) (keyOf_int_mk Tryz.underlying3 (wf_nat hj))
 rw [(h2 j).2] at hv
 obtain rfl := topR_inv hv
 unfold Oper.wp
 simp [execOp, hop, hm, hx, hrun, Result.andThen]
 exact hK
theorem wp_top_put (m x u : Operand) (t : TypeId) (hop : o.op = Op.mapUpdate t m x u) (ht : Tryz.prog.underlying t = some (.map 3 183)) (b n : Nat) (ks : List Nat) (f : Nat → Option Int)
  (hm : a.eval m = .map (some b)) (h : MapT w b n ks f) (hn : n ≤ 8796093022208) (j : Nat) (hj : j < n) (hx : a.eval x = .int .i64 (j : Int)) (e : Option Int) (hu : a.eval u = .agg (topC e))
  (hK : ∀ w', MapT w' b n (insK ks j) (setT f j e) → w.grownBy w' (some b) → K (a.put o.dst undef) w') : Oper.wp Tryz.prog o a w K Q := by
 have hlen : ks.length ≤ n := nodup_len h.nd h.lt
 obtain ⟨D, hD, hs, h2⟩ := h.ex
 have hT := hD.tidy keyI
 have hkl : WideAt.IsKeyLit (.int .i64 (j : Int)) := trivial
 obtain ⟨w', hrun, hown, hgr⟩ := hD.update keyI ht (by unfold maxLen; omega) (keyOf_int_mk Tryz.underlying3 (wf_nat (j := j) (by omega))) (topR_mk e)
 unfold Oper.wp
 simp [execOp, hop, hm, hx, hu, hrun, Result.andThen]
 refine hK w' ?_ hgr
 have hsz : Maps.size (D.put (.int .i64 (j : Int)) (topD e)) = (insK ks j).length := by
  rw [Maps.size_put hT, (h2 j).1, hs]
  unfold insK
  by_cases hm : j ∈ ks <;> simp [hm]
 refine ⟨?_, ?_, _, by rw [← hsz]; exact own_tight hown, hsz, fun i => ?_⟩
 ·unfold insK
  by_cases hm : j ∈ ks
  ·rw [if_pos hm]; exact h.nd
  ·rw [if_neg hm]; exact List.nodup_cons.2 ⟨hm, h.nd⟩
 ·intro k hk
  rcases mem_insK.1 hk with rfl | hk
  ·exact hj
  ·exact h.lt k hk
 ·by_cases hij : i = j
  ·subst hij
   refine ⟨by rw [Maps.has_put_same hT.isMap hkl]; simp [mem_insK], ?_⟩
   rw [Maps.atKey_put_same hT.isMap hkl, setT, if_pos rfl]
  ·have hne : (Lit.int .i64 (i : Int)) ≠ .int .i64 (j : Int) := fun e => by
    have : (i : Int) = j := by injection e
    omega
   refine ⟨by rw [Maps.has_put_other hne, (h2 i).1]; simp [mem_insK, hij], ?_⟩
   rw [Maps.atKey_put_other hne, (h2 i).2, setT, if_neg hij]
end
theorem yieldsIf_find {ops : Array Oper} {S : World → Prop} {o : Oper} {a : Act} (hgd : Region.wanted o (yielded ops a.tmps) = true) (m x : Operand) (t : TypeId) (hop : o.op = Op.lookup t m x false) (ht : Tryz.prog.underlying t = some (.map 3 3)) (b : Nat) (c : Cf)
  (hm : a.eval m = .map (some b)) (h : ∀ w, S w → EndsAt w b c) (hn : c.ress.length ≤ 8796093022208) (j : Nat) (hj : j < c.ress.length) (hx : a.eval x = .int .i64 (j : Int)) {q : Int} (hq : rootN c (j : Int) = q) : YieldsIf Tryz.prog ops S o (.int .i64 q) a :=
 .inl ⟨hgd, fun w hw => by
  obtain ⟨ks, hM, hall⟩ := h w hw
  obtain ⟨D, hD, hs, h2⟩ := hM.ex
  obtain ⟨e, hrun, hat, _⟩ := hD.lookup_int keyI ht Tryz.underlying3 (zeroI w) (keyOf_int_mk Tryz.underlying3 (wf_nat (j := j) (by omega)))
  rw [(h2 j).2, if_pos (hall j hj), hq] at hat
  have he : e = q := by cases hat; rfl
  rw [he] at hrun
  unfold execOp
  simp [hop, hm, hx, hrun, Result.andThen]⟩
def addL (c : Cf) (p : Int) (l : List Int) (f : Nat → Option Int) (k : Nat) : Option Int := (l.filter (fun id => rootN c id == (k : Int))).foldl (fun t _ => topAdd t p) (f k)
theorem addL_snoc {c : Cf} {p : Int} {l : List Int} {j : Nat} {x : Int} {q : Nat} (hx : l[j]? = some x) (hq : rootN c x = (q : Int)) (f : Nat → Option Int) : addL c p (l.take (j + 1)) f = setT (addL c p (l.take j) f) q (topAdd (addL c p (l.take j) f q) p) := by
 funext k
 unfold addL setT
 rw [List.take_add_one, hx, Option.toList_some, List.filter_append, List.foldl_append]
 by_cases hk : k = q
 ·subst hk
  rw [if_pos rfl]
  simp [List.filter_cons, hq]
 ·rw [if_neg hk]
  have : ((q : Int) == (k : Int)) = false := by rw [beq_eq_false_iff_ne]; omega
  simp [List.filter_cons, hq, this]
end Go.Proofs.YtpbnpmeigdjfdaaGreatDoor.Ce
