import Derived.Test.YtmidaeljeoifdaaGreatDoorKrq
namespace Go.Proofs.YtmidaeljeoifdaaGreatDoor
set_option maxRecDepth 100000
set_option maxHeartbeats 16000000
open Go.RowKit Go.Sort
set_option linter.unusedVariables false
theorem fld_act (w : World) (a0 a1 a2 a3 a4 a5 : Value) : (Instr.field 312 (.agg #[a0, a1, a2, a3, a4, a5]) 0).run Tryz.prog w = .ok (.agg #[a0, a1, a2, a3]) w := by kernel_rfl
structure Of (w : World) (c : Cf) (v : Vs) (i : Nat) (bo fo : Nat) (a : Ac) (lo hi : Int) : Prop where
 cell : w.cell? ⟨bo, 0, none⟩ = some (.func (.func fo) #[] #[])
 lt : bo < w.heap.size
 enter : ∀ args W, (callFunc fo args).run Tryz.prog W = .ok (.enter fo args) W
 call : ∀ W, Below w.heap.size w W → Calls Tryz.prog fo #[.agg (cfC c v), I i] W fun e w' => ActAns W a lo hi e w'
theorem act1_any (w : World) (c : Cf) (v : Vs) (h : CfAt w c v) (i bo fo : Nat) (a : Ac) (lo hi : Int) (ho : Of w c v i bo fo a lo hi) :
  Calls Tryz.prog 279 #[.agg (cfC c v), I i, .pointer (some ⟨bo, 0, none⟩)] w fun e w' => Ans w (inR a.kind lo hi) e w' := by
 have hbo := ho.cell
 have hlt := ho.lt
 have hne : bo ≠ w.heap.size := by omega
 have eg := ho.enter
 have cf := ho.call
 have hfl := fld_act
 have hb := below_alloc w
 have hi18 : (Tryz.prog.info? 47).map (·.size) = some (cfC c v).size := by rw [show (cfC c v).size = 18 from rfl]; kernel_rfl
 have hV0 := heap_alloc_new w (.cells (cfC c v) 47)
 have hs18 : (cfC c v).size = 18 := rfl
 generalize cfC c v = C at *
 go_enter Tryz.func279, Tryz.ntmps279
 go_wp2_with (refine wpList_load_row rfl 47 _ rfl w.heap.size rfl 47 _ (0, 0) _ hV0 Tryz.underlying47 rfl hi18 ?_)
 refine (cf _ (hb _)).mono ?_
 rintro e w1 ⟨rfl, hb1⟩
 have hbw := (hb _).trans (hb1.mono (hb _).size)
 have c2 := hasKind_any a lo hi w1
 unfold acC at c2
 unfold actC at *
 clear hb1 cf hV0
 go_wp2_with (first | (go_at_call 280; refine c2.mono ?_; rintro e w2 ⟨rfl, hb2⟩))
 go_ret
 exact ⟨rfl, hbw.trans (hb2.mono hbw.size)⟩
theorem act2_any (w : World) (c : Cf) (v : Vs) (h : CfAt w c v) (i bo fo : Nat) (a : Ac) (lo hi : Int) (ho : Of w c v i bo fo a lo hi) :
  Calls Tryz.prog 281 #[.agg (cfC c v), I i, .pointer (some ⟨bo, 0, none⟩)] w fun e w' => Ans w (bareB a) e w' := by
 have hbo := ho.cell
 have hlt := ho.lt
 have hne : bo ≠ w.heap.size := by omega
 have eg := ho.enter
 have cf := ho.call
 have hfl := fld_act
 have hb := below_alloc w
 have hi18 : (Tryz.prog.info? 47).map (·.size) = some (cfC c v).size := by rw [show (cfC c v).size = 18 from rfl]; kernel_rfl
 have hV0 := heap_alloc_new w (.cells (cfC c v) 47)
 have hs18 : (cfC c v).size = 18 := rfl
 generalize cfC c v = C at *
 go_enter Tryz.func281, Tryz.ntmps281
 go_wp2_with (refine wpList_load_row rfl 47 _ rfl w.heap.size rfl 47 _ (0, 0) _ hV0 Tryz.underlying47 rfl hi18 ?_)
 refine (cf _ (hb _)).mono ?_
 rintro e w1 ⟨rfl, hb1⟩
 have hbw := (hb _).trans (hb1.mono (hb _).size)
 have c2 := isBare_any a w1
 unfold acC at c2
 unfold actC at *
 clear hb1 cf hV0
 go_wp2_with (first | (go_at_call 282; refine c2.mono ?_; rintro e w2 ⟨rfl, hb2⟩))
 go_ret
 exact ⟨rfl, hbw.trans (hb2.mono hbw.size)⟩
theorem act5_any (w : World) (c : Cf) (v : Vs) (h : CfAt w c v) (i bo fo : Nat) (a : Ac) (lo hi : Int) (ho : Of w c v i bo fo a lo hi) :
  Calls Tryz.prog 287 #[.agg (cfC c v), I i, .pointer (some ⟨bo, 0, none⟩)] w fun e w' => Ans w (calB a) e w' := by
 have hbo := ho.cell
 have hlt := ho.lt
 have hne : bo ≠ w.heap.size := by omega
 have eg := ho.enter
 have cf := ho.call
 have hfl := fld_act
 have hb := below_alloc w
 have hi18 : (Tryz.prog.info? 47).map (·.size) = some (cfC c v).size := by rw [show (cfC c v).size = 18 from rfl]; kernel_rfl
 have hV0 := heap_alloc_new w (.cells (cfC c v) 47)
 have hs18 : (cfC c v).size = 18 := rfl
 generalize cfC c v = C at *
 go_enter Tryz.func287, Tryz.ntmps287
 go_wp2_with (refine wpList_load_row rfl 47 _ rfl w.heap.size rfl 47 _ (0, 0) _ hV0 Tryz.underlying47 rfl hi18 ?_)
 refine (cf _ (hb _)).mono ?_
 rintro e w1 ⟨rfl, hb1⟩
 have hbw := (hb _).trans (hb1.mono (hb _).size)
 have c2 := isCalled_any a w1
 unfold acC at c2
 unfold actC at *
 clear hb1 cf hV0
 go_wp2_with (first | (go_at_call 288; refine c2.mono ?_; rintro e w2 ⟨rfl, hb2⟩))
 go_ret
 exact ⟨rfl, hbw.trans (hb2.mono hbw.size)⟩
theorem act3_any (w : World) (c : Cf) (v : Vs) (h : CfAt w c v) (i bo fo : Nat) (a : Ac) (lo hi : Int) (ho : Of w c v i bo fo a lo hi) :
  Calls Tryz.prog 283 #[.agg (cfC c v), I i, .pointer (some ⟨bo, 0, none⟩)] w fun e w' => Ans w (objB c a) e w' := by
 have hbo := ho.cell
 have hlt := ho.lt
 have hne : bo ≠ w.heap.size := by omega
 have eg := ho.enter
 have cf := ho.call
 have hfl := fld_act
 have hb := below_alloc w
 have hi18 : (Tryz.prog.info? 47).map (·.size) = some (cfC c v).size := by rw [show (cfC c v).size = 18 from rfl]; kernel_rfl
 have hV0 := heap_alloc_new w (.cells (cfC c v) 47)
 have h0 := h.below (hb (.cells (cfC c v) 47))
 have hbw := hb (.cells (cfC c v) 47)
 have c1 : ∀ d os, Calls Tryz.prog fo #[.agg (cfC c v), I i] (grow (redrawn (w.alloc (.cells (cfC c v) 47)) d) os) fun e w'' => e = .returned (.agg (actC a lo hi)) ∧ ∃ p : Regrown, w'' = grow (redrawn (w.alloc (.cells (cfC c v) 47)) p.d) p.os := fun d os => Calls.regrown_of (cf _ (hbw.trans ((below_regrown _ d os).mono hbw.size)))
 have c2 : ∀ d os, Calls Tryz.prog 284 #[.agg (cfC c v), .agg (acC a)] (grow (redrawn (w.alloc (.cells (cfC c v) 47)) d) os) fun e w'' => e = .returned (.bool (objB c a)) ∧ ∃ p : Regrown, w'' = grow (redrawn (w.alloc (.cells (cfC c v) 47)) p.d) p.os := fun d os => Calls.regrown_of (meetsObjects_any _ c v (h0.below (below_regrown _ d os)) a)
 have kbo : (w.alloc (.cells (cfC c v) 47)).cell? ⟨bo, 0, none⟩ = some (.func (.func fo) #[] #[]) := by rw [cell_below hbw _ _ hlt]; exact hbo
 have hs18 : (cfC c v).size = 18 := rfl
 generalize cfC c v = C at *
 go_enter Tryz.func283, Tryz.ntmps283
 go_wp2
 generalize w.alloc (.cells C 47) = W0 at *
 have k1 := cell_regrown kbo
 unfold actC at c1
 unfold acC at c2
 refine wp_region_quiet_below (by kernel_rfl) (by kernel_rfl) ?_
 refine wpQuiet_load_row rfl 47 _ rfl w.heap.size rfl 47 _ (0, 0) _ (heap_regrown hV0) Tryz.underlying47 rfl hi18 ?_
 quiet_step (fail)
 refine wpQuiet_load_row rfl 47 _ rfl w.heap.size rfl 47 _ (0, 0) _ (heap_regrown hV0) Tryz.underlying47 rfl hi18 ?_
 repeat (quiet_step (first | exact c1 _ _ | exact c2 _ _))
 refine wpQuiet_nil ?_
 intro _ hw'
 obtain ⟨⟨dq, osq⟩, hw''⟩ := hw'
 subst hw''
 go_wp2
 go_ret
 exact ⟨rfl, hbw.trans ((below_regrown W0 dq osq).mono hbw.size)⟩
theorem act4_any (w : World) (c : Cf) (v : Vs) (h : CfAt w c v) (i bo fo : Nat) (a : Ac) (lo hi : Int) (ho : Of w c v i bo fo a lo hi) (hv : uE a.kind = true → isId a.task v.t.n = true) :
  Calls Tryz.prog 285 #[.agg (cfC c v), I i, .pointer (some ⟨bo, 0, none⟩)] w fun e w' => Ans w (ownB c a) e w' := by
 have hbo := ho.cell
 have hlt := ho.lt
 have hne : bo ≠ w.heap.size := by omega
 have eg := ho.enter
 have cf := ho.call
 have hfl := fld_act
 have hb := below_alloc w
 have hi18 : (Tryz.prog.info? 47).map (·.size) = some (cfC c v).size := by rw [show (cfC c v).size = 18 from rfl]; kernel_rfl
 have hV0 := heap_alloc_new w (.cells (cfC c v) 47)
 have h0 := h.below (hb (.cells (cfC c v) 47))
 have hbw := hb (.cells (cfC c v) 47)
 have c1 : ∀ d os, Calls Tryz.prog fo #[.agg (cfC c v), I i] (grow (redrawn (w.alloc (.cells (cfC c v) 47)) d) os) fun e w'' => e = .returned (.agg (actC a lo hi)) ∧ ∃ p : Regrown, w'' = grow (redrawn (w.alloc (.cells (cfC c v) 47)) p.d) p.os := fun d os => Calls.regrown_of (cf _ (hbw.trans ((below_regrown _ d os).mono hbw.size)))
 have c2 : ∀ d os, Calls Tryz.prog 286 #[.agg (cfC c v), .agg (acC a)] (grow (redrawn (w.alloc (.cells (cfC c v) 47)) d) os) fun e w'' => e = .returned (.bool (ownB c a)) ∧ ∃ p : Regrown, w'' = grow (redrawn (w.alloc (.cells (cfC c v) 47)) p.d) p.os := fun d os => Calls.regrown_of (meetsOwner_any _ c v (h0.below (below_regrown _ d os)) a hv)
 have kbo : (w.alloc (.cells (cfC c v) 47)).cell? ⟨bo, 0, none⟩ = some (.func (.func fo) #[] #[]) := by rw [cell_below hbw _ _ hlt]; exact hbo
 have hs18 : (cfC c v).size = 18 := rfl
 generalize cfC c v = C at *
 go_enter Tryz.func285, Tryz.ntmps285
 go_wp2
 generalize w.alloc (.cells C 47) = W0 at *
 have k1 := cell_regrown kbo
 unfold actC at c1
 unfold acC at c2
 refine wp_region_quiet_below (by kernel_rfl) (by kernel_rfl) ?_
 refine wpQuiet_load_row rfl 47 _ rfl w.heap.size rfl 47 _ (0, 0) _ (heap_regrown hV0) Tryz.underlying47 rfl hi18 ?_
 quiet_step (fail)
 refine wpQuiet_load_row rfl 47 _ rfl w.heap.size rfl 47 _ (0, 0) _ (heap_regrown hV0) Tryz.underlying47 rfl hi18 ?_
 repeat (quiet_step (first | exact c1 _ _ | exact c2 _ _))
 refine wpQuiet_nil ?_
 intro _ hw'
 obtain ⟨⟨dq, osq⟩, hw''⟩ := hw'
 subst hw''
 go_wp2
 go_ret
 exact ⟨rfl, hbw.trans ((below_regrown W0 dq osq).mono hbw.size)⟩
end Go.Proofs.YtmidaeljeoifdaaGreatDoor
