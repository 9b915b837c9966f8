import Derived.Test.YtpbnpmeigdjfdaaGreatDoorBbd
import Derived.Test.YtpbnpmeigdjfdaaGreatDoorEeq
namespace Go.Proofs.YtpbnpmeigdjfdaaGreatDoor
open Go.RowKit Go.Sort
set_option linter.unusedSimpArgs false
set_option linter.unusedVariables false
set_option maxHeartbeats 16000000
set_option maxRecDepth 100000
structure Sy where
 c : Cf
 v : Vs
 f : Fg
 vf : Vf
 s0 : Sl
 s2 : Sl
 s3 : Sl
 s4 : Sl
def syC (y : Sy) : Array Value := #[S y.c.cpu, S y.c.osn, .bool y.c.o1, .bool y.c.o2, .bool y.c.o3, .bool y.c.o4, .bool y.c.o5, .bool y.c.o6, .bool y.c.o7, .bool y.c.o8,
 .slice y.v.m.a y.v.m.n y.v.m.c, .slice y.v.t.a y.v.t.n y.v.t.c, .slice y.v.r.a y.v.r.n y.v.r.c, .slice y.v.e.a y.v.e.n y.v.e.c, .slice y.v.k.a y.v.k.n y.v.k.c, .slice y.v.a.a y.v.a.n y.v.a.c, .slice y.v.i.a y.v.i.n y.v.i.c, .slice y.v.s.a y.v.s.n y.v.s.c,
 .slice y.vf.w.a y.vf.w.n y.vf.w.c, .slice y.vf.p.a y.vf.p.n y.vf.p.c, .slice y.vf.i.a y.vf.i.n y.vf.i.c, .slice y.vf.e.a y.vf.e.n y.vf.e.c, .slice y.vf.s.a y.vf.s.n y.vf.s.c,
 .slice y.s0.a y.s0.n y.s0.c, I (Ce.schE y.c), .slice y.s2.a y.s2.n y.s2.c, .slice y.s3.a y.s3.n y.s3.c, .slice y.s4.a y.s4.n y.s4.c]
structure SyAt (w : World) (y : Sy) : Prop where
 c : CfAt w y.c y.v
 f : FgAt w y.f y.vf
 r : RowsAt w 1 intP y.s0 (Ce.ceilL y.c)
 u : RowsAt w 1 intP y.s2 (y.c.tasks.map (Ce.runP y.c))
theorem SyAt.below {w w' : World} {y : Sy} (h : SyAt w y) (hb : Below w.heap.size w w') : SyAt w' y := ⟨h.c.below hb, h.f.below hb, h.r.belowS hb, h.u.belowS hb⟩
def syZ : Array Value := #[S [], S [], .bool false, .bool false, .bool false, .bool false, .bool false, .bool false, .bool false, .bool false,
 .slice none 0 0, .slice none 0 0, .slice none 0 0, .slice none 0 0, .slice none 0 0, .slice none 0 0, .slice none 0 0, .slice none 0 0,
 .slice none 0 0, .slice none 0 0, .slice none 0 0, .slice none 0 0, .slice none 0 0,
 .slice none 0 0, I 0, .slice none 0 0, .slice none 0 0, .slice none 0 0]
structure Fits (c : Cf) (f : Fg) : Prop where
 a : allF c = none
 t : timesB c f = true
 s : f.s.all (secB c f) = true
theorem fits_of {c : Cf} {f : Fg} (h : chkZ c f = 0) : Fits c f := by
 unfold chkZ at h
 cases ha : allF c with
 | some p => rw [ha] at h; simp at h
 | none =>
  rw [ha] at h
  cases h1 : timesB c f with
  | false => rw [h1] at h; simp at h
  | true =>
   cases h2 : f.s.all (secB c f) with
   | false => rw [h1, h2] at h; simp at h
   | true => exact ⟨ha, h1, h2⟩
def NewS (B : Nat) (y : Sy) : Prop := ∀ g o, (y.s0.a = some ⟨g, o, none⟩ → B ≤ g) ∧ (y.s2.a = some ⟨g, o, none⟩ → B ≤ g)
theorem rows_set {α : Type} {w : World} {k : Nat} {P : α → Nat → Value → Prop} {s : Sl} {l : List α} {X : Nat} {cs : Array Value} (h : RowsAt w k P s l) (hne : ∀ g o, s.a = some ⟨g, o, none⟩ → g ≠ X) : RowsAt (w.setRow X cs) k P s l := by
 refine ⟨h.n, h.c, h.m, fun j x hj => ?_⟩
 obtain ⟨g, off, e, hg, hr⟩ := h.row j x hj
 refine ⟨g, off, e, by simpa using hg, fun i hi => ?_⟩
 obtain ⟨u, h1, h2⟩ := hr i hi
 exact ⟨u, by rw [← h1]; exact World.cell?_of_block (setRow_other w X g cs (hne g off e)), h2⟩
def SysP (w : World) (c : Cf) (v : Vs) (f : Fg) (vf : Vf) (e : Ending) (w' : World) : Prop := ∃ y : Sy, y.c = c ∧ y.v = v ∧ y.f = f ∧ y.vf = vf ∧ e = .returned (.tuple #[.agg (syC y), I 0]) ∧ SyAt w' y ∧ NewS w.heap.size y ∧ Below w.heap.size w w'
theorem rck_sys {w w' : World} {c : Cf} {f : Fg} (hf : Fits c f) {e : Ending} (h : Ce.RckP w (Ce.rckX c) (Ce.lookE c) e w') : ∃ s0 s2 s3 s4 : Sl, e = .returned (.tuple #[.agg #[.slice s0.a s0.n s0.c, I (Ce.schE c), .slice s2.a s2.n s2.c, .slice s3.a s3.n s3.c, .slice s4.a s4.n s4.c], I 0]) ∧ w'.ownsRow w.heap.size 3 1 (.slice s0.a s0.n s0.c) (Ce.ceilL c).length ((Ce.ceilL c).map fun x => I x) ∧ w'.ownsRow w.heap.size 3 1 (.slice s2.a s2.n s2.c) (c.tasks.map (Ce.runP c)).length ((c.tasks.map (Ce.runP c)).map fun x => I x) ∧ Below w.heap.size w w' := by
 obtain ⟨s0, s2, s3, s4, he, hO, hb⟩ := h
 have h0 := look_may hf.a
 rw [h0] at he
 have hX : Ce.rckX c = ⟨Ce.ceilL c, Ce.schE c, c.tasks.map (Ce.runP c), Ce.cntT c c.tasks.length, Ce.cntI c c.isrs.length⟩ := by unfold Ce.rckX; rw [if_pos h0]
 rw [hX] at he hO
 exact ⟨s0, s2, s3, s4, he, hO.a, hO.b, hb⟩
theorem own_set {w : World} {B X n : Nat} {s : Sl} {l : List Int} {cs : Array Value} (h : w.ownsRow B 3 1 (.slice s.a s.n s.c) n (l.map fun x => I x)) (hn : n = l.length) (hX : X < B) : RowsAt (w.setRow X cs) 1 intP s l :=
 Ce.rows_ints_at (h.kept (Ce.grown_row w X cs) (.inr (fun e => by have := (h.lt _ e).1; omega))) rfl hn
theorem bresS {fn : Func} {n m : Nat} (hf : fn.results = #[.cell n 68, .tmp m]) (tmps : Array Value) (b : Nat) (w : World) (cs : Array Value) (v5 : Value)
  (h2 : tmps[n]? = some (.pointer (some ⟨b, 0, none⟩))) (h3 : tmps[m]? = some v5) (hk : w.heap[b]? = some (.cells cs 68 (0, 0))) (hs : cs.size = 28) :
  (results fn tmps).run Tryz.prog w = .ok (.tuple #[.agg cs, v5]) w := by
 have hi : (Tryz.prog.info? 68).map (·.size) = some cs.size := by rw [hs]; kernel_rfl
 have hl := run_loadVar_row (P := Tryz.prog) w b 68 68 cs (0, 0) _ hk Tryz.underlying68 rfl hi
 simp [results, hf, h2, h3, asAddr, hl]
theorem may_lens {c : Cf} (h : allF c = none) : c.tasks.length ≤ 256 ∧ c.ress.length ≤ 64 ∧ c.isrs.length ≤ 32 := by
 have M := may_of h
 have h1 := M.t.1
 have h2 := M.r.1
 have h3 := M.i.1
 unfold inR at h1 h2 h3
 simp at h1 h2 h3
 omega
theorem heap_over1 {w : World} {g : Nat} {o a : Obj} (h : w.heap[g]? = some o) : (w.alloc a).heap[g]? = some o := ((below_alloc w a).block g (heap_lt h)).trans h
theorem look_no (w : World) (c : Cf) (v : Vs) (h : CfAt w c v) (hl : LensOK c) (hE : EnvE w) (f : Fg) (vf : Vf) (hf : FgAt w f vf) (h0 : ¬ chkZ c f = 0) :
  Calls Tryz.prog 31 #[.agg (cfC c v), .agg (fgC vf)] w fun e w' => e = .returned (.tuple #[.agg syZ, I (chkZ c f)]) ∧ Below w.heap.size w w' := by
 have hi18 : (Tryz.prog.info? 33).map (·.size) = some (cfC c v).size := by rw [show (cfC c v).size = 18 from rfl]; kernel_rfl
 have hi5 : (Tryz.prog.info? 37).map (·.size) = some (fgC vf).size := by rw [show (fgC vf).size = 5 from rfl]; kernel_rfl
 have hi28 : (Tryz.prog.info? 68).map (·.size) = some syZ.size := by rw [show syZ.size = 28 from rfl]; kernel_rfl
 have hV0 := heap_over1 (a := .cells syZ 68) (heap_two0 w (.cells (cfC c v) 33) (.cells (fgC vf) 37))
 have hV1 := heap_over1 (a := .cells syZ 68) (heap_two w (.cells (cfC c v) 33) (.cells (fgC vf) 37))
 have hV2 := heap_two (w.alloc (.cells (cfC c v) 33)) (.cells (fgC vf) 37) (.cells syZ 68)
 have hb3 : Below w.heap.size w (((w.alloc (.cells (cfC c v) 33)).alloc (.cells (fgC vf) 37)).alloc (.cells syZ 68)) := (((Below.refl w.heap.size w).alloc (Nat.le_refl _) _).alloc (by simp) _).alloc (by simp; omega) _
 have k1 := bcheck_any _ c v (h.below hb3) hl (hE.below hb3) f vf (hf.below hb3)
 obtain ⟨z, hz⟩ : ∃ z, z = chkZ c f := ⟨_, rfl⟩
 rw [← hz] at k1 h0 ⊢
 have h0' : (z != 0) = true := by simpa using h0
 have hsz : (w.alloc (.cells (cfC c v) 33)).heap.size = w.heap.size + 1 := by simp
 rw [hsz] at hV2
 generalize cfC c v = C at *
 generalize fgC vf = F at *
 clear h hl hE hf hz h0 hsz
 go_enter Tryz.func31, Tryz.ntmps31
 go_upto_region 1 with fail
 rw [show (#[.string ⟨#[]⟩, .string ⟨#[]⟩, .bool false, .bool false, .bool false, .bool false, .bool false, .bool false, .bool false, .bool false, .slice none 0 0, .slice none 0 0, .slice none 0 0, .slice none 0 0, .slice none 0 0, .slice none 0 0, .slice none 0 0, .slice none 0 0, .slice none 0 0, .slice none 0 0, .slice none 0 0, .slice none 0 0, .slice none 0 0, .slice none 0 0, .int .i64 0, .slice none 0 0, .slice none 0 0, .slice none 0 0] : Array Value) = syZ from rfl]
 generalize ((w.alloc (.cells C 33)).alloc (.cells F 37)).alloc (.cells syZ 68) = W3 at *
 go_upto_region 3 with (first | (refine wpList_load_row rfl 33 _ rfl w.heap.size rfl 33 _ (0, 0) _ hV0 Tryz.underlying33 rfl hi18 ?_) | (refine wpList_load_row rfl 37 _ rfl (w.heap.size + 1) rfl 37 _ (0, 0) _ hV1 Tryz.underlying37 rfl hi5 ?_) | (go_at_call 13; refine k1.mono ?_; clear k1; rintro e w1 ⟨rfl, hb1⟩))
 have q2 := (hb1.block _ (heap_lt hV2)).trans hV2
 have hbw := hb3.trans (hb1.mono hb3.size)
 clear hb1 hb3 hV0 hV1 hV2
 go_wp2_with (first | (refine wpList_store_row rfl 68 _ _ rfl (w.heap.size + 1 + 1) _ rfl rfl 68 _ q2 hi28 rfl (by simp [Value.oneCell']) ?_))
 (try simp only [Exit.inBlock, Exit.then])
 have hs := setRow_heap w1 (w.heap.size + 1 + 1) syZ syZ _ _ q2
 refine bodyPost_ret (bresS Tryz.results31 _ (w.heap.size + 1 + 1) _ syZ _ rfl rfl hs rfl) rfl ?_
 exact ⟨rfl, hbw.grown (Ce.grown_row w1 _ _) hbw.size (fun k e => by cases e; omega)⟩
theorem look_ok (w : World) (c : Cf) (v : Vs) (h : CfAt w c v) (hl : LensOK c) (hE : EnvE w) (f : Fg) (vf : Vf) (hf : FgAt w f vf) (h0 : chkZ c f = 0) :
  Calls Tryz.prog 31 #[.agg (cfC c v), .agg (fgC vf)] w fun e w' => SysP w c v f vf e w' := by
 have hi18 : (Tryz.prog.info? 33).map (·.size) = some (cfC c v).size := by rw [show (cfC c v).size = 18 from rfl]; kernel_rfl
 have hi5 : (Tryz.prog.info? 37).map (·.size) = some (fgC vf).size := by rw [show (fgC vf).size = 5 from rfl]; kernel_rfl
 have hi28 : (Tryz.prog.info? 68).map (·.size) = some 28 := by kernel_rfl
 have hic : (Tryz.prog.info? 66).map (·.size) = some 5 := by kernel_rfl
 have hV0 := heap_over1 (a := .cells syZ 68) (heap_two0 w (.cells (cfC c v) 33) (.cells (fgC vf) 37))
 have hV1 := heap_over1 (a := .cells syZ 68) (heap_two w (.cells (cfC c v) 33) (.cells (fgC vf) 37))
 have hV2 := heap_two (w.alloc (.cells (cfC c v) 33)) (.cells (fgC vf) 37) (.cells syZ 68)
 have hb3 : Below w.heap.size w (((w.alloc (.cells (cfC c v) 33)).alloc (.cells (fgC vf) 37)).alloc (.cells syZ 68)) := (((Below.refl w.heap.size w).alloc (Nat.le_refl _) _).alloc (by simp) _).alloc (by simp; omega) _
 have hsz : (w.alloc (.cells (cfC c v) 33)).heap.size = w.heap.size + 1 := by simp
 rw [hsz] at hV2
 have k1 := bcheck_any _ c v (h.below hb3) hl (hE.below hb3) f vf (hf.below hb3)
 rw [h0] at k1
 have HFT : Hid (Fits c f) := fits_of h0
 have hle := may_lens HFT.out.a
 have KR : Hid (∀ W, Below w.heap.size w W → Calls Tryz.prog 45 #[.agg (cfC c v)] W fun e w' => Ce.RckP W (Ce.rckX c) (Ce.lookE c) e w') := fun W hW => Ce.reckon_any W c v (h.below hW) (by omega) (by omega) (by omega)
 have HC : Hid (CfAt w c v) := h
 have HG : Hid (FgAt w f vf) := hf
 clear h hl hE hf h0 hsz hle
 go_enter Tryz.func31, Tryz.ntmps31
 go_upto_region 1 with fail
 rw [show (#[.string ⟨#[]⟩, .string ⟨#[]⟩, .bool false, .bool false, .bool false, .bool false, .bool false, .bool false, .bool false, .bool false, .slice none 0 0, .slice none 0 0, .slice none 0 0, .slice none 0 0, .slice none 0 0, .slice none 0 0, .slice none 0 0, .slice none 0 0, .slice none 0 0, .slice none 0 0, .slice none 0 0, .slice none 0 0, .slice none 0 0, .slice none 0 0, .int .i64 0, .slice none 0 0, .slice none 0 0, .slice none 0 0] : Array Value) = syZ from rfl]
 generalize ((w.alloc (.cells (cfC c v) 33)).alloc (.cells (fgC vf) 37)).alloc (.cells syZ 68) = W3 at *
 have HX : Hid (∀ W, Below W3.heap.size W3 W → W.heap[w.heap.size]? = some (.cells (cfC c v) 33 (0, 0)) ∧ W.heap[w.heap.size + 1]? = some (.cells (fgC vf) 37 (0, 0)) ∧ W.heap[w.heap.size + 1 + 1]? = some (.cells syZ 68 (0, 0)) ∧ Below w.heap.size w W) := fun W hW => ⟨(hW.block _ (heap_lt hV0)).trans hV0, (hW.block _ (heap_lt hV1)).trans hV1, (hW.block _ (heap_lt hV2)).trans hV2, hb3.trans (hW.mono hb3.size)⟩
 go_upto_region 4 with (first | (refine wpList_load_row rfl 33 _ rfl w.heap.size rfl 33 _ (0, 0) _ hV0 Tryz.underlying33 rfl hi18 ?_) | (refine wpList_load_row rfl 37 _ rfl (w.heap.size + 1) rfl 37 _ (0, 0) _ hV1 Tryz.underlying37 rfl hi5 ?_) | (go_at_call 13; refine k1.mono ?_; clear k1; rintro e w1 ⟨rfl, hb1⟩))
 have HB1 : Hid (Below W3.heap.size W3 w1) := hb1
 obtain ⟨q0, _, q2', hbw⟩ := HX.out _ hb1
 have k2 := KR.out _ hbw
 clear hb1 hb3 hV0 hV1 hV2 KR hbw
 go_upto_region 5 with (first | (refine wpList_load_row rfl 33 _ rfl w.heap.size rfl 33 _ (0, 0) _ q0 Tryz.underlying33 rfl hi18 ?_) | (go_at_call 45; refine k2.mono ?_; clear k2; rintro e w2 hr2; obtain ⟨s0, s2, s3, s4, rfl, hr0, hru, hb2⟩ := rck_sys HFT.out hr2; have hst : (storeCells ⟨w2.heap.size, 0, none⟩ [.slice s0.a s0.n s0.c, I (Ce.schE c), .slice s2.a s2.n s2.c, .slice s3.a s3.n s3.c, .slice s4.a s4.n s4.c] 0).run Tryz.prog (w2.alloc (.cells #[.slice none 0 0, .int .i64 0, .slice none 0 0, .slice none 0 0, .slice none 0 0] 66)) = .ok () (w2.alloc (.cells #[.slice s0.a s0.n s0.c, I (Ce.schE c), .slice s2.a s2.n s2.c, .slice s3.a s3.n s3.c, .slice s4.a s4.n s4.c] 66)) := run_storeCells_new (P := Tryz.prog) w2 66 #[.slice none 0 0, .int .i64 0, .slice none 0 0, .slice none 0 0, .slice none 0 0] #[.slice s0.a s0.n s0.c, I (Ce.schE c), .slice s2.a s2.n s2.c, .slice s3.a s3.n s3.c, .slice s4.a s4.n s4.c] (by kernel_rfl) rfl (by simp [Value.oneCell'])))
 have hal := below_alloc w2 (.cells #[.slice s0.a s0.n s0.c, I (Ce.schE c), .slice s2.a s2.n s2.c, .slice s3.a s3.n s3.c, .slice s4.a s4.n s4.c] 66)
 have hT := heap_alloc_new w2 (.cells #[.slice s0.a s0.n s0.c, I (Ce.schE c), .slice s2.a s2.n s2.c, .slice s3.a s3.n s3.c, .slice s4.a s4.n s4.c] 66)
 have HB3 : Hid (Below W3.heap.size W3 (w2.alloc (.cells #[.slice s0.a s0.n s0.c, I (Ce.schE c), .slice s2.a s2.n s2.c, .slice s3.a s3.n s3.c, .slice s4.a s4.n s4.c] 66))) := (HB1.out.trans (hb2.mono HB1.out.size)).trans (hal.mono (HB1.out.trans (hb2.mono HB1.out.size)).size)
 replace hr0 := own_below hr0 hal
 replace hru := own_below hru hal
 clear hst hal hb2 q0
 generalize w2.alloc (.cells #[.slice s0.a s0.n s0.c, I (Ce.schE c), .slice s2.a s2.n s2.c, .slice s3.a s3.n s3.c, .slice s4.a s4.n s4.c] 66) = w4 at *
 generalize w2.heap.size = T at *
 obtain ⟨q0, q1, q2, hbw⟩ := HX.out _ HB3.out
 have HR : Hid (∀ cs, RowsAt (w4.setRow (w.heap.size + 1 + 1) cs) 1 intP s0 (Ce.ceilL c) ∧ RowsAt (w4.setRow (w.heap.size + 1 + 1) cs) 1 intP s2 (c.tasks.map (Ce.runP c))) := fun cs => by
  have := heap_lt q2'
  exact ⟨own_set hr0 rfl this, own_set hru rfl this⟩
 have HNW : Hid (∀ g o, (s0.a = some ⟨g, o, none⟩ → w.heap.size ≤ g) ∧ (s2.a = some ⟨g, o, none⟩ → w.heap.size ≤ g)) := fun g o => by
  have := heap_lt q2'
  exact ⟨fun e => by have := (hr0.lt g (by rw [e]; rfl)).1; omega, fun e => by have := (hru.lt g (by rw [e]; rfl)).1; omega⟩
 clear hr0 hru HX HB3 HB1
 generalize hy : Sy.mk c v f vf s0 s2 s3 s4 = y at *
 have hc : (syC y) = #[S c.cpu, S c.osn, .bool c.o1, .bool c.o2, .bool c.o3, .bool c.o4, .bool c.o5, .bool c.o6, .bool c.o7, .bool c.o8,
  .slice v.m.a v.m.n v.m.c, .slice v.t.a v.t.n v.t.c, .slice v.r.a v.r.n v.r.c, .slice v.e.a v.e.n v.e.c, .slice v.k.a v.k.n v.k.c, .slice v.a.a v.a.n v.a.c, .slice v.i.a v.i.n v.i.c, .slice v.s.a v.s.n v.s.c,
  .slice vf.w.a vf.w.n vf.w.c, .slice vf.p.a vf.p.n vf.p.c, .slice vf.i.a vf.i.n vf.i.c, .slice vf.e.a vf.e.n vf.e.c, .slice vf.s.a vf.s.n vf.s.c,
  .slice s0.a s0.n s0.c, I (Ce.schE c), .slice s2.a s2.n s2.c, .slice s3.a s3.n s3.c, .slice s4.a s4.n s4.c] := by rw [← hy]; rfl
 have HY : Hid (Sy.mk c v f vf s0 s2 s3 s4 = y) := hy
 clear hy
 unfold cfC fgC at *
 go_wp2_with (first | (refine wpList_load_row rfl 33 _ rfl w.heap.size rfl 33 _ (0, 0) _ q0 Tryz.underlying33 rfl hi18 ?_) | (refine wpList_load_row rfl 37 _ rfl (w.heap.size + 1) rfl 37 _ (0, 0) _ q1 Tryz.underlying37 rfl hi5 ?_) | (refine wpList_load_row rfl 66 _ rfl T rfl 66 _ (0, 0) _ hT Tryz.underlying66 rfl hic ?_) | (rw [← hc]; refine wpList_store_row rfl 68 _ _ rfl (w.heap.size + 1 + 1) _ rfl rfl 68 _ q2 (by rw [hi28, hc]; rfl) rfl (by rw [hc]; simp [Value.oneCell']) ?_))
 rw [← hc]
 have hs := setRow_heap w4 (w.heap.size + 1 + 1) syZ (syC y) _ _ q2
 have hbw9 := hbw.grown (Ce.grown_row w4 (w.heap.size + 1 + 1) (syC y)) hbw.size (fun k e => by cases e; omega)
 refine bodyPost_ret (bresS Tryz.results31 _ (w.heap.size + 1 + 1) _ (syC y) _ rfl rfl hs (by rw [hc]; rfl)) rfl ?_
 have hR := HR.out (syC y)
 refine ⟨y, by rw [← HY.out], by rw [← HY.out], by rw [← HY.out], by rw [← HY.out], rfl, ?_, by rw [← HY.out]; exact HNW.out, hbw9⟩
 have h1 := HC.out.below hbw9
 have h2 := HG.out.below hbw9
 generalize w4.setRow (w.heap.size + 1 + 1) (syC y) = w9 at *
 rw [← HY.out]
 exact ⟨h1, h2, hR.1, hR.2⟩
end Go.Proofs.YtpbnpmeigdjfdaaGreatDoor
