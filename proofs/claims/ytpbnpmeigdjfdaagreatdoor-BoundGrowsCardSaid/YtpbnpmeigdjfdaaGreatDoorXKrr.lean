import Derived.Test.YtpbnpmeigdjfdaaGreatDoorXKrp
namespace Go.Proofs.YtpbnpmeigdjfdaaGreatDoor
open Go.RowKit
set_option linter.unusedSimpArgs false
set_option linter.unusedVariables false
set_option maxHeartbeats 16000000
set_option maxRecDepth 100000
def ActAns (w : World) (a : Ac) (lo hi : Int) (e : Ending) (w' : World) : Prop := e = .returned (.agg (actC a lo hi)) ∧ Below w.heap.size w w'
theorem res_act {fn : Func} {n : Nat} (hf : fn.results = #[.cell n 231]) (tmps : Array Value) (b : Nat) (w : World) (v0 v1 v2 v3 v4 v5 : Value)
  (h2 : tmps[n]? = some (.pointer (some ⟨b, 0, none⟩))) (hk : w.heap[b]? = some (.cells #[v0, v1, v2, v3, v4, v5] 231 (0, 0))) :
  (results fn tmps).run Tryz.prog w = .ok (.agg #[v0, v1, v2, v3, v4, v5]) w := by
 have a1 := fun i => cell_of_row w b i _ _ (0, 0) hk
 have z0 := a1 0; have z1 := a1 1; have z2 := a1 2; have z3 := a1 3; have z4 := a1 4; have z5 := a1 5
 simp at z0 z1 z2 z3 z4 z5
 simp [results, hf, go_sem, h2, z0, z1, z2, z3, z4, z5]
theorem heap_two (w : World) (a b : Obj) : ((w.alloc a).alloc b).heap[w.heap.size + 1]? = some b := by
 have := heap_alloc_new (w.alloc a) b
 rwa [show (w.alloc a).heap.size = w.heap.size + 1 by simp] at this
theorem heap_three (w : World) (a b c : Obj) : (((w.alloc a).alloc b).alloc c).heap[w.heap.size + 1]? = some b := by
 rw [heap_alloc_old ((w.alloc a).alloc b) c (by simp)]
 exact heap_two w a b
theorem alarmAct_any (w : World) (c : Cf) (v : Vs) (h : CfAt w c v) (i : Nat) (x : Al) (hi : c.als[i]? = some x) :
  Calls Tryz.prog 137 #[.agg (cfC c v), I i] w fun e w' => ActAns w x.ac 1 3 e w' := by
 have hn : v.a.n = c.als.length := h.a.n
 have hlt : (i : Int) < v.a.n := by have := (List.getElem?_eq_some_iff.1 hi).1; omega
 obtain ⟨g, off, s6, e, hg, a0, a1, a2, a3, a4, a5, a6, a7, a8, r6⟩ := al_at h hi
 have hne : g ≠ w.heap.size := by omega
 have hb := below_alloc w
 have hb2 := fun o o' => (hb o).trans ((below_alloc (w.alloc o) o').mono (hb o).size)
 have f15 : ∀ h : 15 < (cfC c v).size, (cfC c v)[15] = .slice v.a.a v.a.n v.a.c := fun _ => rfl
 have hs18 : (cfC c v).size = 18 := rfl
 generalize cfC c v = C at *
 replace f15 := f15 (by omega)
 rw [e] at f15
 clear hi hn
 go_enter Tryz.func137, Tryz.ntmps137
 go_wp2
 exact bodyPost_ret (v := .agg (actC x.ac 1 3)) (res_act Tryz.results137 _ (w.heap.size + 1) _ _ _ _ _ _ _ rfl (heap_two _ _ _)) rfl ⟨rfl, hb2 _ _⟩
theorem messageAct_any (w : World) (c : Cf) (v : Vs) (h : CfAt w c v) (i : Nat) (x : Ms) (hi : c.msgs[i]? = some x) :
  Calls Tryz.prog 152 #[.agg (cfC c v), I i] w fun e w' => ActAns w x.ac 0 (if x.kind == 1 then 0 else 4) e w' := by
 have hn : v.s.n = c.msgs.length := h.s.n
 have hlt : (i : Int) < v.s.n := by have := (List.getElem?_eq_some_iff.1 hi).1; omega
 obtain ⟨g, off, e, hg, a0, a1, a2, a3, a4, a5, a6, a7, a8, a9⟩ := ms_at h hi
 have hne : g ≠ w.heap.size := by omega
 have hb := below_alloc w
 have hb2 := fun o o' => (hb o).trans ((below_alloc (w.alloc o) o').mono (hb o).size)
 have hb3 := fun o o' o'' => (hb2 o o').trans ((below_alloc ((w.alloc o).alloc o') o'').mono (hb2 o o').size)
 have f17 : ∀ h : 17 < (cfC c v).size, (cfC c v)[17] = .slice v.s.a v.s.n v.s.c := fun _ => rfl
 have hs18 : (cfC c v).size = 18 := rfl
 generalize cfC c v = C at *
 replace f17 := f17 (by omega)
 rw [e] at f17
 clear hi hn
 cases hk : x.kind == 1 with
 | true =>
  rw [if_pos rfl]
  go_enter Tryz.func152, Tryz.ntmps152
  go_wp2
  all_goals exact bodyPost_ret (v := .agg (actC x.ac 0 0)) (res_act Tryz.results152 _ (w.heap.size + 1) _ _ _ _ _ _ _ rfl (heap_three _ _ _ _)) rfl ⟨rfl, hb3 _ _ _⟩
 | false =>
  rw [if_neg (by decide)]
  go_enter Tryz.func152, Tryz.ntmps152
  go_wp2
  all_goals exact bodyPost_ret (v := .agg (actC x.ac 0 4)) (res_act Tryz.results152 _ (w.heap.size + 1) _ _ _ _ _ _ _ rfl (heap_three _ _ _ _)) rfl ⟨rfl, hb3 _ _ _⟩
end Go.Proofs.YtpbnpmeigdjfdaaGreatDoor
namespace Go.Proofs.YtpbnpmeigdjfdaaGreatDoor
open Go.RowKit Go.Sort
set_option linter.unusedSimpArgs false
set_option linter.unusedVariables false
set_option maxHeartbeats 16000000
set_option maxRecDepth 100000
theorem fld_act (w : World) (a0 a1 a2 a3 a4 a5 : Value) : (Instr.field 231 (.agg #[a0, a1, a2, a3, a4, a5]) 0).run Tryz.prog w = .ok (.agg #[a0, a1, a2, a3]) w := by kernel_rfl
structure Of (w : World) (c : Cf) (v : Vs) (i : Nat) (bo fo : Nat) (a : Ac) (lo hi : Int) : Prop where
 cell : w.cell? ⟨bo, 0, none⟩ = some (.func (.func fo) #[] #[])
 lt : bo < w.heap.size
 enter : ∀ args W, (callFunc fo args).run Tryz.prog W = .ok (.enter fo args) W
 call : ∀ W, Below w.heap.size w W → Calls Tryz.prog fo #[.agg (cfC c v), I i] W fun e w' => ActAns W a lo hi e w'
theorem act1_any (w : World) (c : Cf) (v : Vs) (h : CfAt w c v) (i bo fo : Nat) (a : Ac) (lo hi : Int) (ho : Of w c v i bo fo a lo hi) :
  Calls Tryz.prog 172 #[.agg (cfC c v), I i, .pointer (some ⟨bo, 0, none⟩)] w fun e w' => Ans w (inR a.kind lo hi) e w' := by
 have hbo := ho.cell
 have hlt := ho.lt
 have hne : bo ≠ w.heap.size := by omega
 have eg := ho.enter
 have cf := ho.call
 have hfl := fld_act
 have hb := below_alloc w
 have hi18 : (Tryz.prog.info? 33).map (·.size) = some (cfC c v).size := by rw [show (cfC c v).size = 18 from rfl]; kernel_rfl
 have hV0 := heap_alloc_new w (.cells (cfC c v) 33)
 have hs18 : (cfC c v).size = 18 := rfl
 generalize cfC c v = C at *
 go_enter Tryz.func172, Tryz.ntmps172
 go_wp2_with (refine wpList_load_row rfl 33 _ rfl w.heap.size rfl 33 _ (0, 0) _ hV0 Tryz.underlying33 rfl hi18 ?_)
 refine (cf _ (hb _)).mono ?_
 rintro e w1 ⟨rfl, hb1⟩
 have hbw := (hb _).trans (hb1.mono (hb _).size)
 have c2 := hasKind_any a lo hi w1
 unfold acC at c2
 unfold actC at *
 clear hb1 cf hV0
 go_wp2_with (first | (go_at_call 173; refine c2.mono ?_; rintro e w2 ⟨rfl, hb2⟩))
 go_ret
 exact ⟨rfl, hbw.trans (hb2.mono hbw.size)⟩
theorem act2_any (w : World) (c : Cf) (v : Vs) (h : CfAt w c v) (i bo fo : Nat) (a : Ac) (lo hi : Int) (ho : Of w c v i bo fo a lo hi) :
  Calls Tryz.prog 174 #[.agg (cfC c v), I i, .pointer (some ⟨bo, 0, none⟩)] w fun e w' => Ans w (bareB a) e w' := by
 have hbo := ho.cell
 have hlt := ho.lt
 have hne : bo ≠ w.heap.size := by omega
 have eg := ho.enter
 have cf := ho.call
 have hfl := fld_act
 have hb := below_alloc w
 have hi18 : (Tryz.prog.info? 33).map (·.size) = some (cfC c v).size := by rw [show (cfC c v).size = 18 from rfl]; kernel_rfl
 have hV0 := heap_alloc_new w (.cells (cfC c v) 33)
 have hs18 : (cfC c v).size = 18 := rfl
 generalize cfC c v = C at *
 go_enter Tryz.func174, Tryz.ntmps174
 go_wp2_with (refine wpList_load_row rfl 33 _ rfl w.heap.size rfl 33 _ (0, 0) _ hV0 Tryz.underlying33 rfl hi18 ?_)
 refine (cf _ (hb _)).mono ?_
 rintro e w1 ⟨rfl, hb1⟩
 have hbw := (hb _).trans (hb1.mono (hb _).size)
 have c2 := isBare_any a w1
 unfold acC at c2
 unfold actC at *
 clear hb1 cf hV0
 go_wp2_with (first | (go_at_call 175; refine c2.mono ?_; rintro e w2 ⟨rfl, hb2⟩))
 go_ret
 exact ⟨rfl, hbw.trans (hb2.mono hbw.size)⟩
theorem act5_any (w : World) (c : Cf) (v : Vs) (h : CfAt w c v) (i bo fo : Nat) (a : Ac) (lo hi : Int) (ho : Of w c v i bo fo a lo hi) :
  Calls Tryz.prog 180 #[.agg (cfC c v), I i, .pointer (some ⟨bo, 0, none⟩)] w fun e w' => Ans w (calB a) e w' := by
 have hbo := ho.cell
 have hlt := ho.lt
 have hne : bo ≠ w.heap.size := by omega
 have eg := ho.enter
 have cf := ho.call
 have hfl := fld_act
 have hb := below_alloc w
 have hi18 : (Tryz.prog.info? 33).map (·.size) = some (cfC c v).size := by rw [show (cfC c v).size = 18 from rfl]; kernel_rfl
 have hV0 := heap_alloc_new w (.cells (cfC c v) 33)
 have hs18 : (cfC c v).size = 18 := rfl
 generalize cfC c v = C at *
 go_enter Tryz.func180, Tryz.ntmps180
 go_wp2_with (refine wpList_load_row rfl 33 _ rfl w.heap.size rfl 33 _ (0, 0) _ hV0 Tryz.underlying33 rfl hi18 ?_)
 refine (cf _ (hb _)).mono ?_
 rintro e w1 ⟨rfl, hb1⟩
 have hbw := (hb _).trans (hb1.mono (hb _).size)
 have c2 := isCalled_any a w1
 unfold acC at c2
 unfold actC at *
 clear hb1 cf hV0
 go_wp2_with (first | (go_at_call 181; refine c2.mono ?_; rintro e w2 ⟨rfl, hb2⟩))
 go_ret
 exact ⟨rfl, hbw.trans (hb2.mono hbw.size)⟩
theorem act3_any (w : World) (c : Cf) (v : Vs) (h : CfAt w c v) (i bo fo : Nat) (a : Ac) (lo hi : Int) (ho : Of w c v i bo fo a lo hi) :
  Calls Tryz.prog 176 #[.agg (cfC c v), I i, .pointer (some ⟨bo, 0, none⟩)] w fun e w' => Ans w (objB c a) e w' := by
 have hbo := ho.cell
 have hlt := ho.lt
 have hne : bo ≠ w.heap.size := by omega
 have eg := ho.enter
 have cf := ho.call
 have hfl := fld_act
 have hb := below_alloc w
 have hi18 : (Tryz.prog.info? 33).map (·.size) = some (cfC c v).size := by rw [show (cfC c v).size = 18 from rfl]; kernel_rfl
 have hV0 := heap_alloc_new w (.cells (cfC c v) 33)
 have h0 := h.below (hb (.cells (cfC c v) 33))
 have hbw := hb (.cells (cfC c v) 33)
 have c1 : ∀ d os, Calls Tryz.prog fo #[.agg (cfC c v), I i] (grow (redrawn (w.alloc (.cells (cfC c v) 33)) d) os) fun e w'' => e = .returned (.agg (actC a lo hi)) ∧ ∃ p : Regrown, w'' = grow (redrawn (w.alloc (.cells (cfC c v) 33)) p.d) p.os := fun d os => Calls.regrown_of (cf _ (hbw.trans ((below_regrown _ d os).mono hbw.size)))
 have c2 : ∀ d os, Calls Tryz.prog 177 #[.agg (cfC c v), .agg (acC a)] (grow (redrawn (w.alloc (.cells (cfC c v) 33)) d) os) fun e w'' => e = .returned (.bool (objB c a)) ∧ ∃ p : Regrown, w'' = grow (redrawn (w.alloc (.cells (cfC c v) 33)) p.d) p.os := fun d os => Calls.regrown_of (meetsObjects_any _ c v (h0.below (below_regrown _ d os)) a)
 have kbo : (w.alloc (.cells (cfC c v) 33)).cell? ⟨bo, 0, none⟩ = some (.func (.func fo) #[] #[]) := by rw [cell_below hbw _ _ hlt]; exact hbo
 have hs18 : (cfC c v).size = 18 := rfl
 generalize cfC c v = C at *
 go_enter Tryz.func176, Tryz.ntmps176
 go_wp2
 generalize w.alloc (.cells C 33) = W0 at *
 have k1 := cell_regrown kbo
 unfold actC at c1
 unfold acC at c2
 refine wp_region_quiet_below (by kernel_rfl) (by kernel_rfl) ?_
 refine wpQuiet_load_row rfl 33 _ rfl w.heap.size rfl 33 _ (0, 0) _ (heap_regrown hV0) Tryz.underlying33 rfl hi18 ?_
 quiet_step (fail)
 refine wpQuiet_load_row rfl 33 _ rfl w.heap.size rfl 33 _ (0, 0) _ (heap_regrown hV0) Tryz.underlying33 rfl hi18 ?_
 repeat (quiet_step (first | exact c1 _ _ | exact c2 _ _))
 refine wpQuiet_nil ?_
 intro _ hw'
 obtain ⟨⟨dq, osq⟩, hw''⟩ := hw'
 subst hw''
 go_wp2
 go_ret
 exact ⟨rfl, hbw.trans ((below_regrown W0 dq osq).mono hbw.size)⟩
theorem act4_any (w : World) (c : Cf) (v : Vs) (h : CfAt w c v) (i bo fo : Nat) (a : Ac) (lo hi : Int) (ho : Of w c v i bo fo a lo hi) (hv : uE a.kind = true → isId a.task v.t.n = true) :
  Calls Tryz.prog 178 #[.agg (cfC c v), I i, .pointer (some ⟨bo, 0, none⟩)] w fun e w' => Ans w (ownB c a) e w' := by
 have hbo := ho.cell
 have hlt := ho.lt
 have hne : bo ≠ w.heap.size := by omega
 have eg := ho.enter
 have cf := ho.call
 have hfl := fld_act
 have hb := below_alloc w
 have hi18 : (Tryz.prog.info? 33).map (·.size) = some (cfC c v).size := by rw [show (cfC c v).size = 18 from rfl]; kernel_rfl
 have hV0 := heap_alloc_new w (.cells (cfC c v) 33)
 have h0 := h.below (hb (.cells (cfC c v) 33))
 have hbw := hb (.cells (cfC c v) 33)
 have c1 : ∀ d os, Calls Tryz.prog fo #[.agg (cfC c v), I i] (grow (redrawn (w.alloc (.cells (cfC c v) 33)) d) os) fun e w'' => e = .returned (.agg (actC a lo hi)) ∧ ∃ p : Regrown, w'' = grow (redrawn (w.alloc (.cells (cfC c v) 33)) p.d) p.os := fun d os => Calls.regrown_of (cf _ (hbw.trans ((below_regrown _ d os).mono hbw.size)))
 have c2 : ∀ d os, Calls Tryz.prog 179 #[.agg (cfC c v), .agg (acC a)] (grow (redrawn (w.alloc (.cells (cfC c v) 33)) d) os) fun e w'' => e = .returned (.bool (ownB c a)) ∧ ∃ p : Regrown, w'' = grow (redrawn (w.alloc (.cells (cfC c v) 33)) p.d) p.os := fun d os => Calls.regrown_of (meetsOwner_any _ c v (h0.below (below_regrown _ d os)) a hv)
 have kbo : (w.alloc (.cells (cfC c v) 33)).cell? ⟨bo, 0, none⟩ = some (.func (.func fo) #[] #[]) := by rw [cell_below hbw _ _ hlt]; exact hbo
 have hs18 : (cfC c v).size = 18 := rfl
 generalize cfC c v = C at *
 go_enter Tryz.func178, Tryz.ntmps178
 go_wp2
 generalize w.alloc (.cells C 33) = W0 at *
 have k1 := cell_regrown kbo
 unfold actC at c1
 unfold acC at c2
 refine wp_region_quiet_below (by kernel_rfl) (by kernel_rfl) ?_
 refine wpQuiet_load_row rfl 33 _ rfl w.heap.size rfl 33 _ (0, 0) _ (heap_regrown hV0) Tryz.underlying33 rfl hi18 ?_
 quiet_step (fail)
 refine wpQuiet_load_row rfl 33 _ rfl w.heap.size rfl 33 _ (0, 0) _ (heap_regrown hV0) Tryz.underlying33 rfl hi18 ?_
 repeat (quiet_step (first | exact c1 _ _ | exact c2 _ _))
 refine wpQuiet_nil ?_
 intro _ hw'
 obtain ⟨⟨dq, osq⟩, hw''⟩ := hw'
 subst hw''
 go_wp2
 go_ret
 exact ⟨rfl, hbw.trans ((below_regrown W0 dq osq).mono hbw.size)⟩
end Go.Proofs.YtpbnpmeigdjfdaaGreatDoor
