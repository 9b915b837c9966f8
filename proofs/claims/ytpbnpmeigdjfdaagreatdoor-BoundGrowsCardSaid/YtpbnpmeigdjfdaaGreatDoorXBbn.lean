import Derived.Test.YtpbnpmeigdjfdaaGreatDoorXBbl
namespace Go.Proofs.YtpbnpmeigdjfdaaGreatDoor
open Go.RowKit Go.Sort
set_option linter.unusedSimpArgs false
set_option linter.unusedVariables false
set_option maxHeartbeats 16000000
set_option maxRecDepth 100000
def z18 : Array Value := #[S [], S [], .bool false, .bool false, .bool false, .bool false, .bool false, .bool false, .bool false, .bool false, .slice none 0 0, .slice none 0 0, .slice none 0 0, .slice none 0 0, .slice none 0 0, .slice none 0 0, .slice none 0 0, .slice none 0 0]
def z5 : Array Value := #[.slice none 0 0, .slice none 0 0, .slice none 0 0, .slice none 0 0, .slice none 0 0]
def t24 : Array Value := #[S [97], I 3, .bool true, I 1, .slice none 0 0, .slice none 0 0, .slice none 0 0, .slice none 0 0, S [98], I 2, .bool true, I 1, .slice none 0 0, .slice none 0 0, .slice none 0 0, .slice none 0 0, S [99], I 1, .bool false, I 1, .slice none 0 0, .slice none 0 0, .slice none 0 0, .slice none 0 0]
def slB (g n : Nat) : Sl := ⟨some ⟨g, 0, none⟩, n, n⟩
def noX : Sl := ⟨none, 0, 0⟩
def v3 (m t : Nat) : Vs := ⟨slB m 1, slB t 3, noX, noX, noX, noX, noX, noX⟩
def vf3 (a b : Nat) : Vf := ⟨slB a 3, slB b 3, noX, noX, noX⟩
theorem noX_at {α : Type} {w : World} {k : Nat} {P : α → Nat → Value → Prop} : RowsAt w k P noX [] := ⟨rfl, Nat.le_refl _, Nat.zero_le _, fun j x hj => by simp at hj⟩
theorem rows_litB {α : Type} {w : World} {g k : Nat} {P : α → Nat → Value → Prop} {cs : Array Value} {ty : TypeId} {l : List α} (h : w.heap[g]? = some (.cells cs ty (0, 0))) (hm : l.length ≤ maxLen) (hc : ∀ (j : Nat) (x : α), l[j]? = some x → ∀ i, i < k → ∃ u, cs[j * k + i]? = some u ∧ P x i u) : RowsAt w k P (slB g l.length) l := by
 refine ⟨rfl, Nat.le_refl _, hm, fun j x hj => ⟨g, 0, rfl, heap_lt h, fun i hi => ?_⟩⟩
 obtain ⟨u, h1, h2⟩ := hc j x hj i hi
 exact ⟨u, by rw [Nat.zero_add, cell_at3 h]; exact h1, h2⟩
theorem nil_ints {w : World} : IntsV w [] (.slice none 0 0) := ⟨noX, rfl, noX_at⟩
theorem cf3_at {w : World} {m t : Nat} (hm : w.heap[m]? = some (.cells #[S [109]] 9 (0, 0))) (ht : w.heap[t]? = some (.cells t24 79 (0, 0))) : CfAt w cf3 (v3 m t) := by
  refine ⟨rows_litB (l := [[109]]) hm (by decide) (fun j x hj i hi => ?_), rows_litB (l := cf3.tasks) ht (by decide) (fun j x hj i hi => ?_), noX_at, noX_at, noX_at, noX_at, noX_at, noX_at⟩
  · match j, hj with
    | 0, hj => obtain rfl := Option.some.inj hj; obtain rfl : i = 0 := by omega
               exact ⟨_, rfl, rfl⟩
  · match j, hj with
    | 0, hj => obtain rfl := Option.some.inj hj
               match i, hi with
               | 0, _ | 1, _ | 2, _ | 3, _ => exact ⟨_, rfl, rfl⟩
               | 4, _ | 5, _ | 6, _ | 7, _ => exact ⟨_, rfl, nil_ints⟩
    | 1, hj => obtain rfl := Option.some.inj hj
               match i, hi with
               | 0, _ | 1, _ | 2, _ | 3, _ => exact ⟨_, rfl, rfl⟩
               | 4, _ | 5, _ | 6, _ | 7, _ => exact ⟨_, rfl, nil_ints⟩
    | 2, hj => obtain rfl := Option.some.inj hj
               match i, hi with
               | 0, _ | 1, _ | 2, _ | 3, _ => exact ⟨_, rfl, rfl⟩
               | 4, _ | 5, _ | 6, _ | 7, _ => exact ⟨_, rfl, nil_ints⟩
theorem u3_at {w : World} {g a b c : Nat} (h : w.heap[g]? = some (.cells #[U a, U b, U c] 38 (0, 0))) : RowsAt w 1 uP (slB g 3) [a, b, c] := by
 refine rows_litB (l := [a, b, c]) h (by simp [maxLen]) (fun j x hj i hi => ?_)
 obtain rfl : i = 0 := by omega
 match j, hj with
 | 0, hj => obtain rfl := Option.some.inj hj; exact ⟨_, rfl, rfl⟩
 | 1, hj => obtain rfl := Option.some.inj hj; exact ⟨_, rfl, rfl⟩
 | 2, hj => obtain rfl := Option.some.inj hj; exact ⟨_, rfl, rfl⟩
theorem fg3_at {w : World} {a b : Nat} (ha : w.heap[a]? = some (.cells #[U 2, U 3, U 4] 38 (0, 0))) (hb : w.heap[b]? = some (.cells #[U 10, U 15, U 50] 38 (0, 0))) : FgAt w fg3 (vf3 a b) := ⟨u3_at ha, u3_at hb, noX_at, noX_at, noX_at⟩
def ThP (w : World) (e : Ending) (w' : World) : Prop := ∃ (v : Vs) (vf : Vf), e = .returned (.tuple #[.agg (cfC cf3 v), .agg (fgC vf)]) ∧ CfAt w' cf3 v ∧ FgAt w' fg3 vf ∧ Below w.heap.size w w'
theorem res_th {fn : Func} {n m : Nat} (hf : fn.results = #[.cell n 33, .cell m 37]) (tmps : Array Value) (b d : Nat) (w : World) (C F : Array Value) (h2 : tmps[n]? = some (.pointer (some ⟨b, 0, none⟩))) (h3 : tmps[m]? = some (.pointer (some ⟨d, 0, none⟩)))
  (hk : w.heap[b]? = some (.cells C 33 (0, 0))) (hd : w.heap[d]? = some (.cells F 37 (0, 0))) (hC : C.size = 18) (hF : F.size = 5) : (results fn tmps).run Tryz.prog w = .ok (.tuple #[.agg C, .agg F]) w := by
 have h18 : (Tryz.prog.info? 33).map (·.size) = some C.size := by rw [hC]; kernel_rfl
 have h5 : (Tryz.prog.info? 37).map (·.size) = some F.size := by rw [hF]; kernel_rfl
 have r1 := run_loadVar_row (P := Tryz.prog) w b 33 33 C (0, 0) _ hk Tryz.underlying33 rfl h18
 have r2 := run_loadVar_row (P := Tryz.prog) w d 37 37 F (0, 0) _ hd Tryz.underlying37 rfl h5
 simp [results, hf, h2, h3, asAddr, r1, r2]
theorem new_at {w : World} {g : Nat} {o : Obj} (h : w.heap.size = g) : (w.alloc o).heap[g]? = some o := by subst h; exact heap_alloc_new _ _
theorem wp_worldB {P : Program} {c : Code} {Q : Exit → Act → World → Prop} {a : Act} (W : World) (h : Code.wp P c Q a W) : Code.wp P c Q a W := h
theorem three_any (w : World) : Calls Tryz.prog 21 #[] w fun e w' => ThP w e w' := by
 have hi18 : (Tryz.prog.info? 33).map (·.size) = some 18 := by kernel_rfl
 have hi5 : (Tryz.prog.info? 37).map (·.size) = some 5 := by kernel_rfl
 have q0 := heap_two0 w (.cells z18 33) (.cells z5 37)
 have q1 := heap_two w (.cells z18 33) (.cells z5 37)
 have hb : Below w.heap.size w ((w.alloc (.cells z18 33)).alloc (.cells z5 37)) := ((Below.refl w.heap.size w).alloc (Nat.le_refl _) _).alloc (by simp) _
 have hsz : w.heap.size + 1 < ((w.alloc (.cells z18 33)).alloc (.cells z5 37)).heap.size := by simp
 go_enter Tryz.func21, Tryz.ntmps21
 go_upto_region 1 with fail
 refine wp_worldB ((w.alloc (.cells z18 33)).alloc (.cells z5 37)) ?_
 generalize (w.alloc (.cells z18 33)).alloc (.cells z5 37) = W2 at *
 go_upto_region 2 with fail
 refine wp_worldB (((W2.alloc (.cells #[S [109]] 9)).alloc (.cells t24 79)).alloc (.cells (cfC cf3 (v3 W2.heap.size (W2.heap.size + 1))) 33)) ?_
 obtain ⟨C3, hC3⟩ : ∃ C, C = cfC cf3 (v3 W2.heap.size (W2.heap.size + 1)) := ⟨_, rfl⟩
 have hs3 : C3.size = 18 := by rw [hC3]; rfl
 have h13 : C3.all (·.oneCell') = true := by rw [hC3]; simp [cfC, Value.oneCell']
 have hiC : (Tryz.prog.info? 33).map (·.size) = some C3.size := by rw [hs3]; exact hi18
 rw [← hC3]
 have HC3 : Hid (C3 = cfC cf3 (v3 W2.heap.size (W2.heap.size + 1))) := hC3
 have p0 : (((W2.alloc (.cells #[S [109]] 9)).alloc (.cells t24 79)).alloc (.cells C3 33)).heap[w.heap.size]? = some (.cells z18 33 (0, 0)) := heap_over1 (heap_over1 (heap_over1 q0))
 have p1 : (((W2.alloc (.cells #[S [109]] 9)).alloc (.cells t24 79)).alloc (.cells C3 33)).heap[w.heap.size + 1]? = some (.cells z5 37 (0, 0)) := heap_over1 (heap_over1 (heap_over1 q1))
 have p2 : (((W2.alloc (.cells #[S [109]] 9)).alloc (.cells t24 79)).alloc (.cells C3 33)).heap[W2.heap.size]? = some (.cells #[S [109]] 9 (0, 0)) := heap_over1 (heap_over1 (heap_alloc_new _ _))
 have p3 : (((W2.alloc (.cells #[S [109]] 9)).alloc (.cells t24 79)).alloc (.cells C3 33)).heap[W2.heap.size + 1]? = some (.cells t24 79 (0, 0)) := heap_over1 (new_at (by simp))
 have p4 : (((W2.alloc (.cells #[S [109]] 9)).alloc (.cells t24 79)).alloc (.cells C3 33)).heap[W2.heap.size + 1 + 1]? = some (.cells C3 33 (0, 0)) := new_at (by simp)
 have hb2 : Below w.heap.size w (((W2.alloc (.cells #[S [109]] 9)).alloc (.cells t24 79)).alloc (.cells C3 33)) := ((hb.alloc hb.size _).alloc (by have := hb.size; simp; omega) _).alloc (by have := hb.size; simp; omega) _
 have hz2 : (((W2.alloc (.cells #[S [109]] 9)).alloc (.cells t24 79)).alloc (.cells C3 33)).heap.size = W2.heap.size + 3 := by simp
 clear q0 q1 hb hC3
 generalize ((W2.alloc (.cells #[S [109]] 9)).alloc (.cells t24 79)).alloc (.cells C3 33) = W5 at *
 generalize W2.heap.size = m at *
 have r0 : ∀ r1 r2 : Obj, ((W5.alloc r1).alloc r2).heap[w.heap.size]? = some (.cells z18 33 (0, 0)) := fun r1 r2 => heap_over1 (heap_over1 p0)
 have r1 : ∀ r1 r2 : Obj, (((W5.alloc r1).alloc r2).setRow w.heap.size C3).heap[w.heap.size + 1]? = some (.cells z5 37 (0, 0)) := fun r1 r2 => by rw [setRow_other _ _ _ _ (by omega)]; exact heap_over1 (heap_over1 p1)
 have f0 := r0 (.cells #[U 2, U 3, U 4] 38) (.cells #[U 10, U 15, U 50] 38)
 have f1 := r1 (.cells #[U 2, U 3, U 4] 38) (.cells #[U 10, U 15, U 50] 38)
 clear r0 r1
 go_wp2_with (first
  | (refine wpList_load_row rfl 33 _ rfl (m + 1 + 1) rfl 33 _ (0, 0) _ p4 Tryz.underlying33 rfl hiC ?_)
  | (refine wpList_store_row rfl 33 _ _ rfl w.heap.size _ rfl rfl 33 _ f0 hiC (by rw [hs3]; rfl) h13 ?_)
  | (refine wpList_store_row rfl 37 _ _ rfl (w.heap.size + 1) _ rfl rfl 37 _ f1 (by rw [hi5]; rfl) rfl (by simp [Value.oneCell']) ?_))
 have e0 := setRow_heap _ w.heap.size z18 C3 _ _ f0
 have e1 := setRow_heap _ (w.heap.size + 1) z5 (fgC (vf3 (m + 3) (m + 3 + 1))) _ _ f1
 have hF : ∀ (k : Nat) (o : Obj), k ≠ w.heap.size → k ≠ w.heap.size + 1 → ((W5.alloc (.cells #[U 2, U 3, U 4] 38)).alloc (.cells #[U 10, U 15, U 50] 38)).heap[k]? = some o → ((((W5.alloc (.cells #[U 2, U 3, U 4] 38)).alloc (.cells #[U 10, U 15, U 50] 38)).setRow w.heap.size C3).setRow (w.heap.size + 1) (fgC (vf3 (m + 3) (m + 3 + 1)))).heap[k]? = some o := fun k o h1 h2 h3 => by rw [setRow_other _ _ _ _ h2, setRow_other _ _ _ _ h1]; exact h3
 have hbA : Below w.heap.size w ((W5.alloc (.cells #[U 2, U 3, U 4] 38)).alloc (.cells #[U 10, U 15, U 50] 38)) := (hb2.alloc hb2.size _).alloc (by have := hb2.size; simp; omega) _
 have hbB := hbA.grown (Ce.grown_row _ w.heap.size C3) hbA.size (fun k e => by cases e; exact Nat.le_refl _)
 have hbC := hbB.grown (Ce.grown_row _ (w.heap.size + 1) (fgC (vf3 (m + 3) (m + 3 + 1)))) hbB.size (fun k e => by cases e; omega)
 have g2 := hF m _ (by omega) (by omega) (heap_over1 (heap_over1 p2))
 have g3 := hF (m + 1) _ (by omega) (by omega) (heap_over1 (heap_over1 p3))
 have g4 := hF (m + 3) _ (by omega) (by omega) (heap_over1 (new_at (o := .cells #[U 2, U 3, U 4] 38) hz2))
 have g5 := hF (m + 3 + 1) _ (by omega) (by omega) (new_at (by simp [hz2]))
 have e00 : ((((W5.alloc (.cells #[U 2, U 3, U 4] 38)).alloc (.cells #[U 10, U 15, U 50] 38)).setRow w.heap.size C3).setRow (w.heap.size + 1) (fgC (vf3 (m + 3) (m + 3 + 1)))).heap[w.heap.size]? = some (.cells C3 33 (0, 0)) := by rw [setRow_other _ _ _ _ (by omega)]; exact e0
 refine bodyPost_ret (res_th Tryz.results21 _ w.heap.size (w.heap.size + 1) _ C3 (fgC (vf3 (m + 3) (m + 3 + 1))) rfl rfl e00 e1 hs3 rfl) rfl ?_
 exact ⟨v3 m (m + 1), vf3 (m + 3) (m + 3 + 1), by rw [← HC3.out], cf3_at g2 g3, fg3_at g4 g5, hbC⟩
theorem lens3 : LensOK cf3 := ⟨by decide, by decide, by decide, by decide, by decide, by decide, by decide⟩
structure Ex (w W : World) (T : Nat) (v : Vs) (vf : Vf) : Prop where
 b : Below w.heap.size w W
 c : W.heap[T]? = some (.cells (cfC cf3 v) 33 (0, 0))
 f : W.heap[T + 1]? = some (.cells (fgC vf) 37 (0, 0))
 ca : CfAt W cf3 v
 fa : FgAt W fg3 vf
theorem Ex.below {w W W' : World} {T : Nat} {v : Vs} {vf : Vf} (h : Ex w W T v vf) (hb : Below W.heap.size W W') : Ex w W' T v vf := ⟨h.b.trans (hb.mono h.b.size), (hb.block _ (heap_lt h.c)).trans h.c, (hb.block _ (heap_lt h.f)).trans h.f, h.ca.below hb, h.fa.below hb⟩
theorem Ex.start {w w1 : World} {v : Vs} {vf : Vf} (hb : Below w.heap.size w w1) (hc : CfAt w1 cf3 v) (hf : FgAt w1 fg3 vf) (a b : Obj) : Ex w ((((w1.alloc (.cells z18 33)).alloc (.cells z5 37)).setRow w1.heap.size (cfC cf3 v)).setRow (w1.heap.size + 1) (fgC vf)) w1.heap.size v vf := by
 have q0 := heap_two0 w1 (.cells z18 33) (.cells z5 37)
 have q1 := heap_two w1 (.cells z18 33) (.cells z5 37)
 have hb2 : Below w1.heap.size w1 ((w1.alloc (.cells z18 33)).alloc (.cells z5 37)) := ((Below.refl w1.heap.size w1).alloc (Nat.le_refl _) _).alloc (by simp) _
 generalize (w1.alloc (.cells z18 33)).alloc (.cells z5 37) = W at *
 have e0 := setRow_heap W w1.heap.size z18 (cfC cf3 v) _ _ q0
 have q2 : (W.setRow w1.heap.size (cfC cf3 v)).heap[w1.heap.size + 1]? = some (.cells z5 37 (0, 0)) := by rw [setRow_other _ _ _ _ (by omega)]; exact q1
 have e1 := setRow_heap _ (w1.heap.size + 1) z5 (fgC vf) _ _ q2
 have e2 : ((W.setRow w1.heap.size (cfC cf3 v)).setRow (w1.heap.size + 1) (fgC vf)).heap[w1.heap.size]? = some (.cells (cfC cf3 v) 33 (0, 0)) := by rw [setRow_other _ _ _ _ (by omega)]; exact e0
 have hb3 := (hb2.grown (Ce.grown_row W w1.heap.size (cfC cf3 v)) hb2.size (fun k e => by cases e; exact Nat.le_refl _))
 have hb4 := hb3.grown (Ce.grown_row _ (w1.heap.size + 1) (fgC vf)) hb3.size (fun k e => by cases e; omega)
 exact ⟨hb.trans (hb4.mono hb.size), e2, e1, hc.below hb4, hf.below hb4⟩
theorem Ex.rk {w W : World} {T : Nat} {v : Vs} {vf : Vf} (h : Ex w W T v vf) (hE : EnvE w) (t : Int) (lim : Nat) (x : Rp) (hz : recZ cf3 fg3 t lim = 0) (hx : recR cf3 fg3 t lim = x) : Calls Tryz.prog 8 #[.agg (cfC cf3 v), .agg (fgC vf), I t, U lim] W fun e w' => e = .returned (.tuple #[.agg (rpC x), I 0]) ∧ Below W.heap.size W w' := by
 have := breckon_any W cf3 v h.ca lens3 (hE.below h.b) fg3 vf h.fa t lim
 rw [hz, hx] at this
 exact this
theorem Ex.bk {w W : World} {T : Nat} {v : Vs} {vf : Vf} (h : Ex w W T v vf) (hE : EnvE w) : Calls Tryz.prog 11 #[.agg (cfC cf3 v), .agg (fgC vf), I 0] W fun e w' => e = .returned (.tuple #[U 4, I 0]) ∧ Below W.heap.size W w' := by
 have := bblocked_any W cf3 v h.ca lens3 (hE.below h.b) fg3 vf h.fa 0
 rw [h3a.2.2.2, h3e] at this
 exact this
theorem fg_hi (v : Vf) : (Tryz.prog.info? 37).map (·.size) = some (fgC v).size := by rw [show (fgC v).size = 5 from rfl]; kernel_rfl
theorem cf_hi (c : Cf) (v : Vs) : (Tryz.prog.info? 33).map (·.size) = some (cfC c v).size := by rw [show (cfC c v).size = 18 from rfl]; kernel_rfl
theorem heads27_any (w : World) (hE : EnvE w) : Calls Tryz.prog 9 #[] w fun e w' => Ans w true e w' := by
 have k0 := three_any w
 have KX : Hid (∀ W T v vf, Ex w W T v vf → (∀ t lim x, recZ cf3 fg3 t lim = 0 → recR cf3 fg3 t lim = x → Calls Tryz.prog 8 #[.agg (cfC cf3 v), .agg (fgC vf), I t, U lim] W fun e w' => e = .returned (.tuple #[.agg (rpC x), I 0]) ∧ Below W.heap.size W w') ∧ Calls Tryz.prog 11 #[.agg (cfC cf3 v), .agg (fgC vf), I 0] W fun e w' => e = .returned (.tuple #[U 4, I 0]) ∧ Below W.heap.size W w') := fun W T v vf h => ⟨fun t lim x hz hx => h.rk hE t lim x hz hx, h.bk hE⟩
 clear hE
 go_enter Tryz.func9, Tryz.ntmps9
 go_upto_region 2 with (first
  | (
    go_at_call 21; refine k0.mono ?_; clear k0; rintro e w1 ⟨v, vf, rfl, hca, hfa, hb1⟩; have EX := Ex.start hb1 hca hfa (.cells z18 33) (.cells z5 37); have hi18 := cf_hi cf3 v; have hi5 := fg_hi vf; have o18 : (cfC cf3 v).all (·.oneCell') = true := by simp [cfC, Value.oneCell']
    have o5 : (fgC vf).all (·.oneCell') = true := by simp [fgC, Value.oneCell']
    have q0 := heap_two0 w1 (.cells z18 33) (.cells z5 37); have q1 : (((w1.alloc (.cells z18 33)).alloc (.cells z5 37)).setRow w1.heap.size (cfC cf3 v)).heap[w1.heap.size + 1]? = some (.cells z5 37 (0, 0)) := by rw [setRow_other _ _ _ _ (by omega)]; exact heap_two w1 (.cells z18 33) (.cells z5 37)
    have s18 : (cfC cf3 v).size = 18 := rfl
    have s5 : (fgC vf).size = 5 := rfl)
  | (refine wpList_store_row rfl 33 _ _ rfl w1.heap.size _ rfl rfl 33 _ q0 hi18 (by rw [s18]; rfl) o18 ?_)
  | (refine wpList_store_row rfl 37 _ _ rfl (w1.heap.size + 1) _ rfl rfl 37 _ q1 hi5 (by rw [s5]; rfl) o5 ?_))
 refine wp_worldB ((((w1.alloc (.cells z18 33)).alloc (.cells z5 37)).setRow w1.heap.size (cfC cf3 v)).setRow (w1.heap.size + 1) (fgC vf)) ?_
 have EX3 := EX
 clear EX q0 q1 o18 o5 s18 s5 hca hfa hb1
 generalize (((w1.alloc (.cells z18 33)).alloc (.cells z5 37)).setRow w1.heap.size (cfC cf3 v)).setRow (w1.heap.size + 1) (fgC vf) = W3 at *
 generalize w1.heap.size = T at *
 simp only [Act.put] at *
 have k2 : Calls Tryz.prog 8 #[.agg (cfC cf3 v), .agg (fgC vf), .int .i64 0, .int .u64 100] W3 fun e w' => e = .returned (.tuple #[.agg #[.int .u64 4, .int .u64 6, .bool true], .int .i64 0]) ∧ Below W3.heap.size W3 w' := (KX.out _ _ _ _ EX3).1 0 100 ⟨4, 6, true⟩ h3a.1 h3b
 have qc2 := EX3.c
 have qf2 := EX3.f
 go_upto_region 3 with (first
  | (refine wpList_load_row rfl 33 _ rfl T rfl 33 _ (0, 0) _ qc2 Tryz.underlying33 rfl hi18 ?_)
  | (refine wpList_load_row rfl 37 _ rfl (T + 1) rfl 37 _ (0, 0) _ qf2 Tryz.underlying37 rfl hi5 ?_)
  | (go_at_call 8; refine k2.mono ?_; clear k2; rintro e u2 ⟨rfl, hb2⟩))
 refine wp_worldB (u2.alloc (.cells #[.int .u64 4, .int .u64 6, .bool true] 40)) ?_
 have ha2 := below_alloc u2 (.cells #[.int .u64 4, .int .u64 6, .bool true] 40)
 have hbb2 := hb2.trans (ha2.mono hb2.size)
 have EX4 := EX3.below hbb2
 have A2 := heap_alloc_new u2 (.cells #[.int .u64 4, .int .u64 6, .bool true] 40)
 clear hb2 ha2 hbb2 qc2 qf2 EX3
 generalize u2.alloc (.cells #[.int .u64 4, .int .u64 6, .bool true] 40) = W4 at *
 generalize u2.heap.size = T2 at *
 have k3 : Calls Tryz.prog 8 #[.agg (cfC cf3 v), .agg (fgC vf), .int .i64 1, .int .u64 100] W4 fun e w' => e = .returned (.tuple #[.agg #[.int .u64 4, .int .u64 9, .bool true], .int .i64 0]) ∧ Below W4.heap.size W4 w' := (KX.out _ _ _ _ EX4).1 1 100 ⟨4, 9, true⟩ h3a.2.1 h3c
 have qc3 := EX4.c
 have qf3 := EX4.f
 go_upto_region 4 with (first
  | (refine wpList_load_row rfl 33 _ rfl T rfl 33 _ (0, 0) _ qc3 Tryz.underlying33 rfl hi18 ?_)
  | (refine wpList_load_row rfl 37 _ rfl (T + 1) rfl 37 _ (0, 0) _ qf3 Tryz.underlying37 rfl hi5 ?_)
  | (go_at_call 8; refine k3.mono ?_; clear k3; rintro e u3 ⟨rfl, hb3⟩))
 refine wp_worldB (u3.alloc (.cells #[.int .u64 4, .int .u64 9, .bool true] 40)) ?_
 have ha3 := below_alloc u3 (.cells #[.int .u64 4, .int .u64 9, .bool true] 40)
 have hbb3 := hb3.trans (ha3.mono hb3.size)
 have EX5 := EX4.below hbb3
 have A3 := heap_alloc_new u3 (.cells #[.int .u64 4, .int .u64 9, .bool true] 40)
 replace A2 := (hbb3.block _ (heap_lt A2)).trans A2
 clear hb3 ha3 hbb3 qc3 qf3 EX4
 generalize u3.alloc (.cells #[.int .u64 4, .int .u64 9, .bool true] 40) = W5 at *
 generalize u3.heap.size = T3 at *
 have k4 : Calls Tryz.prog 8 #[.agg (cfC cf3 v), .agg (fgC vf), .int .i64 1, .int .u64 8] W5 fun e w' => e = .returned (.tuple #[.agg #[.int .u64 4, .int .u64 0, .bool false], .int .i64 0]) ∧ Below W5.heap.size W5 w' := (KX.out _ _ _ _ EX5).1 1 8 ⟨4, 0, false⟩ h3a.2.2.1 h3d
 have qc4 := EX5.c
 have qf4 := EX5.f
 go_upto_region 5 with (first
  | (refine wpList_load_row rfl 33 _ rfl T rfl 33 _ (0, 0) _ qc4 Tryz.underlying33 rfl hi18 ?_)
  | (refine wpList_load_row rfl 37 _ rfl (T + 1) rfl 37 _ (0, 0) _ qf4 Tryz.underlying37 rfl hi5 ?_)
  | (go_at_call 8; refine k4.mono ?_; clear k4; rintro e u4 ⟨rfl, hb4⟩))
 refine wp_worldB (u4.alloc (.cells #[.int .u64 4, .int .u64 0, .bool false] 40)) ?_
 have ha4 := below_alloc u4 (.cells #[.int .u64 4, .int .u64 0, .bool false] 40)
 have hbb4 := hb4.trans (ha4.mono hb4.size)
 have EX6 := EX5.below hbb4
 have A4 := heap_alloc_new u4 (.cells #[.int .u64 4, .int .u64 0, .bool false] 40)
 replace A2 := (hbb4.block _ (heap_lt A2)).trans A2
 replace A3 := (hbb4.block _ (heap_lt A3)).trans A3
 clear hb4 ha4 hbb4 qc4 qf4 EX5
 generalize u4.alloc (.cells #[.int .u64 4, .int .u64 0, .bool false] 40) = W6 at *
 generalize u4.heap.size = T4 at *
 have k5 : Calls Tryz.prog 11 #[.agg (cfC cf3 v), .agg (fgC vf), .int .i64 0] W6 fun e w' => e = .returned (.tuple #[.int .u64 4, .int .i64 0]) ∧ Below W6.heap.size W6 w' := (KX.out _ _ _ _ EX6).2
 have qc5 := EX6.c
 have qf5 := EX6.f
 go_upto_region 6 with (first
  | (refine wpList_load_row rfl 33 _ rfl T rfl 33 _ (0, 0) _ qc5 Tryz.underlying33 rfl hi18 ?_)
  | (refine wpList_load_row rfl 37 _ rfl (T + 1) rfl 37 _ (0, 0) _ qf5 Tryz.underlying37 rfl hi5 ?_)
  | (go_at_call 11; refine k5.mono ?_; clear k5; rintro e W7 ⟨rfl, hb5⟩))
 replace A2 := (hb5.block _ (heap_lt A2)).trans A2
 replace A3 := (hb5.block _ (heap_lt A3)).trans A3
 replace A4 := (hb5.block _ (heap_lt A4)).trans A4
 have HB7 : Hid (Below w.heap.size w W7) := EX6.b.trans (hb5.mono EX6.b.size)
 clear hb5 EX6 KX qc5 qf5
 obtain ⟨x0, x1, x2⟩ : W7.cell? ⟨T2, 0, none⟩ = some (.int .u64 4) ∧ W7.cell? ⟨T2, 1, none⟩ = some (.int .u64 6) ∧ W7.cell? ⟨T2, 2, none⟩ = some (.bool true) := ⟨cell_at3 A2 0, cell_at3 A2 1, cell_at3 A2 2⟩
 obtain ⟨x3, x4, x5⟩ : W7.cell? ⟨T3, 0, none⟩ = some (.int .u64 4) ∧ W7.cell? ⟨T3, 1, none⟩ = some (.int .u64 9) ∧ W7.cell? ⟨T3, 2, none⟩ = some (.bool true) := ⟨cell_at3 A3 0, cell_at3 A3 1, cell_at3 A3 2⟩
 obtain ⟨x6, x7, x8⟩ : W7.cell? ⟨T4, 0, none⟩ = some (.int .u64 4) ∧ W7.cell? ⟨T4, 1, none⟩ = some (.int .u64 0) ∧ W7.cell? ⟨T4, 2, none⟩ = some (.bool false) := ⟨cell_at3 A4 0, cell_at3 A4 1, cell_at3 A4 2⟩
 clear A2 A3 A4
 go_wp2
 go_ret
 exact ⟨rfl, HB7.out⟩
end Go.Proofs.YtpbnpmeigdjfdaaGreatDoor
