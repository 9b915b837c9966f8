import Derived.Test.YtmidaeljeoifdaaGreatDoorTiq
namespace Go.Proofs.YtmidaeljeoifdaaGreatDoor
open Go.RowKit Go.Shelf Go.Sort Go.Maps
set_option linter.unusedVariables false
set_option linter.unusedSimpArgs false
set_option maxHeartbeats 16000000
set_option maxRecDepth 100000
theorem res_mk9g {fn : Func} {n m : Nat} (hf : fn.results = #[.cell n 30, .tmp m]) (tmps : Array Value) (b : Nat) (w : World) (C : Array Value) (u : Value) (hi : (Tryz.prog.info? 30).map (·.size) = some C.size)
  (h2 : tmps[n]? = some (.pointer (some ⟨b, 0, none⟩))) (h3 : tmps[m]? = some u) (hk : w.heap[b]? = some (.cells C 30 (0, 0))) : (results fn tmps).run Tryz.prog w = .ok (.tuple #[.agg C, u]) w := by
 have hr := run_loadVar_row w b 30 30 C (0, 0) _ hk Tryz.underlying30 rfl hi
 simp [results, hf, h2, h3, asAddr, hr]
theorem fld_code9 (W : World) (k : Int) (s : List UInt8) (i : Int) : (Instr.field 79 (.agg #[I k, S s, I i]) 0).run Tryz.prog W = .ok (I k) W := by kernel_rfl
def zTb : Array Value := #[I 0, I 0, .slice none 0 0, .slice none 0 0, .slice none 0 0, .slice none 0 0, .slice none 0 0, .slice none 0 0, .slice none 0 0, I 0, I 0, I 0, I 0]
def tbX (c : Cf) : Tb := tbM c (Ce.ceilL c) (Ce.schE c) (zd9 c) (zf9 c) (ze9 c (Ce.ceilL c) (Ce.schE c)) (zc9 c (Ce.ceilL c) (Ce.schE c))
def SX (B : Nat) (W : World) (c : Cf) (u : Ts) : Prop := SM B W c (Ce.ceilL c) (Ce.schE c) u
theorem make_may (w : World) (c : Cf) (v : Vs) (h : CfAt w c v) (hl : LensOK c) (hE : EnvE w) (hm : ∀ x ∈ c.evs, x.mask < 4294967296) (ha : allF c = none) : Calls Tryz.prog 11 #[.agg (cfC c v)] w fun e w' => (∃ u : Ts, e = .returned (.tuple #[.agg (tbC (tbX c) u), I 0]) ∧ SX w.heap.size w' c u) ∧ Below w.heap.size w w' := by
 have hmy := may_of ha
 have ok := mk_ok hmy hm
 have hlk := look_may ha
 have hb : Below w.heap.size w ((w.alloc (.cells (cfC c v) 47)).alloc (.cells zTb 30)) := (below_alloc w _).trans ((below_alloc _ _).mono (by simp))
 have hV1 : ((w.alloc (.cells (cfC c v) 47)).alloc (.cells zTb 30)).heap[w.heap.size]? = some (.cells (cfC c v) 47) := by
  rw [heap_alloc_old _ _ (by simp)]; exact heap_alloc_new w _
 have hV2 : ((w.alloc (.cells (cfC c v) 47)).alloc (.cells zTb 30)).heap[w.heap.size + 1]? = some (.cells zTb 30) := heap_n2 _ _ _
 have hi18 : (Tryz.prog.info? 47).map (·.size) = some (cfC c v).size := by rw [show (cfC c v).size = 18 from rfl]; kernel_rfl
 have HF : Hid (∀ W, Below w.heap.size w W → Calls Tryz.prog 32 #[.agg (cfC c v)] W fun e w' => e = .returned (.agg #[I 0, S [], I 0]) ∧ Below W.heap.size W w') := fun W hW => by
  have := check_any7 W c v (h.below hW) hl (hE.below hW)
  rw [ha] at this
  exact this
 have HR : Hid (∀ W, Below w.heap.size w W → Calls Tryz.prog 33 #[.agg (cfC c v)] W fun e w' => ∃ s0 s2 s3 s4 : Sl, RowsAt w' 1 intP s0 (Ce.ceilL c) ∧ e = .returned (.tuple #[.agg #[.slice s0.a s0.n s0.c, I (Ce.schE c), .slice s2.a s2.n s2.c, .slice s3.a s3.n s3.c, .slice s4.a s4.n s4.c], I 0]) ∧ Below W.heap.size W w') := fun W hW => (Ce.reckon_any W c v (h.below hW) hl.r hl.t hl.i).mono (fun e w' hq => by
  obtain ⟨s0, s2, s3, s4, h1, h2, h3⟩ := hq
  have e0 : (Ce.rckX c).res = Ce.ceilL c := by unfold Ce.rckX; rw [if_pos hlk]
  have e1 : (Ce.rckX c).sch = Ce.schE c := by unfold Ce.rckX; rw [if_pos hlk]
  rw [hlk, e1] at h1
  refine ⟨s0, s2, s3, s4, ?_, h1, h3⟩
  have h4 := h2.a
  rw [e0] at h4
  exact rows_ints9 rfl h4)
 have HK : Hid (∀ W, Below w.heap.size w W → ∀ s0 s2 s3 s4 : Sl, RowsAt W 1 intP s0 (Ce.ceilL c) → Calls Tryz.prog 34 #[.agg (cfC c v), .agg #[.slice s0.a s0.n s0.c, I (Ce.schE c), .slice s2.a s2.n s2.c, .slice s3.a s3.n s3.c, .slice s4.a s4.n s4.c]] W fun e w' => (∃ u : Ts, e = .returned (.agg (tbC (tbX c) u)) ∧ SX W.heap.size w' c u) ∧ Below W.heap.size W w') := fun W hW s0 s2 s3 s4 h0 => tables_c W c v (h.below hW) hmy ok (Ce.schE c) s0 s2 s3 s4 (Ce.ceilL c) h0 (by unfold Ce.ceilL; simp)
 have HV : Hid (∀ W, Below ((w.alloc (.cells (cfC c v) 47)).alloc (.cells zTb 30)).heap.size ((w.alloc (.cells (cfC c v) 47)).alloc (.cells zTb 30)) W → W.heap[w.heap.size]? = some (.cells (cfC c v) 47 (0, 0)) ∧ W.heap[w.heap.size + 1]? = some (.cells zTb 30 (0, 0)) ∧ Below w.heap.size w W) := fun W hW => ⟨(hW.block _ (heap_lt hV1)).trans hV1, (hW.block _ (heap_lt hV2)).trans hV2, hb.trans (hW.mono hb.size)⟩
 generalize hsch : Ce.schE c = sch at HR HK
 generalize hcl : Ce.ceilL c = cl at HR HK
 clear hV1 hV2 hb h hE hsch hcl hmy ok hlk ha hm hl
 generalize hCC : cfC c v = C at *
 clear hCC
 generalize hTX : tbX c = TX at *
 clear hTX
 have fc := fun W => fld_code9 W 0 [] 0
 go_enter Tryz.func11, Tryz.ntmps11
 go_upto_region 1 with fail
 unfold zTb at HV
 generalize ((w.alloc (.cells C 47)).alloc (.cells #[I 0, I 0, .slice none 0 0, .slice none 0 0, .slice none 0 0, .slice none 0 0, .slice none 0 0, .slice none 0 0, .slice none 0 0, I 0, I 0, I 0, I 0] 30)) = W1 at *
 obtain ⟨hv1, _, bw1⟩ := HV.out W1 (Below.refl _ _)
 have kF := HF.out W1 bw1
 go_upto_region 3 with (first | (with_reducible refine wpList_id99 ?_; refine wpList_load_row rfl 47 _ rfl w.heap.size rfl 47 _ (0, 0) _ hv1 Tryz.underlying47 rfl hi18 ?_) | (go_at_call 32; refine kF.mono ?_; clear kF; rintro e w2 ⟨rfl, b2⟩))
 clear hv1 bw1
 obtain ⟨hv2, _, bw2⟩ := HV.out w2 b2
 have kR := HR.out w2 bw2
 go_upto_region 4 with (first | (with_reducible refine wpList_id99 ?_; refine wpList_load_row rfl 47 _ rfl w.heap.size rfl 47 _ (0, 0) _ hv2 Tryz.underlying47 rfl hi18 ?_) | (go_at_call 33; refine kR.mono ?_; clear kR; rintro e w3 ⟨s0, s2, s3, s4, hn0, rfl, b3⟩; have HN0 : Hid (RowsAt w3 1 intP s0 cl) := hn0; clear hn0))
 have B3 := b2.trans (b3.mono b2.size)
 have b4 := below_alloc w3 (.cells #[.slice s0.a s0.n s0.c, I sch, .slice s2.a s2.n s2.c, .slice s3.a s3.n s3.c, .slice s4.a s4.n s4.c] 82)
 have hE4 := heap_alloc_new w3 (.cells #[.slice s0.a s0.n s0.c, I sch, .slice s2.a s2.n s2.c, .slice s3.a s3.n s3.c, .slice s4.a s4.n s4.c] 82)
 have B4 := B3.trans (b4.mono B3.size)
 have HN4 : Hid (RowsAt (w3.alloc (.cells #[.slice s0.a s0.n s0.c, I sch, .slice s2.a s2.n s2.c, .slice s3.a s3.n s3.c, .slice s4.a s4.n s4.c] 82)) 1 intP s0 cl) := HN0.out.below b4 (fun _ _ _ _ h => h)
 clear hv2 bw2 b2 b3 b4 B3 HN0
 generalize (w3.alloc (.cells #[.slice s0.a s0.n s0.c, I sch, .slice s2.a s2.n s2.c, .slice s3.a s3.n s3.c, .slice s4.a s4.n s4.c] 82)) = w4 at *
 obtain ⟨hv4, _, bw4⟩ := HV.out w4 B4
 have kT := HK.out w4 bw4 s0 s2 s3 s4 HN4.out
 have hi5 : (Tryz.prog.info? 82).map (·.size) = some (#[.slice s0.a s0.n s0.c, I sch, .slice s2.a s2.n s2.c, .slice s3.a s3.n s3.c, .slice s4.a s4.n s4.c] : Array Value).size := by kernel_rfl
 generalize w3.heap.size = X3 at *
 go_upto_region 6 with fail
 go_wp2_with (first | (with_reducible refine wpList_id99 ?_; refine wpList_load_row rfl 47 _ rfl w.heap.size rfl 47 _ (0, 0) _ hv4 Tryz.underlying47 rfl hi18 ?_) | (with_reducible refine wpList_id99 ?_; refine wpList_load_row rfl 82 _ rfl X3 rfl 82 _ (0, 0) _ hE4 Tryz.underlying82 rfl hi5 ?_))
 refine kT.mono ?_
 clear kT
 rintro e w5 ⟨⟨u, rfl, hT5⟩, b5⟩
 obtain ⟨_, hr5, bw5⟩ := HV.out w5 (B4.trans (b5.mono B4.size))
 have hiT : (Tryz.prog.info? 30).map (·.size) = some (tbC TX u).size := by rw [show (tbC TX u).size = 13 from rfl]; kernel_rfl
 have g6 : w5.grownBy (w5.setRow (w.heap.size + 1) (tbC TX u)) (some (w.heap.size + 1)) := Ce.grown_row _ _ _
 have Y6 := setRow_heap w5 (w.heap.size + 1) _ (tbC TX u) _ _ hr5
 have HT5 : Hid (SX w4.heap.size w5 c u) := hT5
 have h1c : (tbC TX u).all (·.oneCell') = true := by simp [tbC, Value.oneCell']
 have hsz : (#[I 0, I 0, .slice none 0 0, .slice none 0 0, .slice none 0 0, .slice none 0 0, .slice none 0 0, .slice none 0 0, .slice none 0 0, I 0, I 0, I 0, I 0] : Array Value).size = (tbC TX u).size := rfl
 clear hT5 hv4 hE4
 generalize hTB : tbC TX u = TB at *
 go_wp2_with (first | (with_reducible refine wpList_id99 ?_; refine wpList_store_row rfl 30 _ _ rfl (w.heap.size + 1) _ rfl rfl 30 _ hr5 hiT hsz h1c ?_))
 refine bodyPost_ret (v := .tuple #[.agg TB, I 0]) (res_mk9g Tryz.results11 _ (w.heap.size + 1) _ _ _ hiT rfl rfl Y6) rfl ?_
 subst hTB
 refine ⟨⟨u, rfl, SG.mono9 (SG.store HT5.out hr5 g6) bw4.size⟩, bw5.grown g6 bw5.size (fun k e => by cases e; omega)⟩
theorem make_not (w : World) (c : Cf) (v : Vs) (h : CfAt w c v) (hl : LensOK c) (hE : EnvE w) (k : Int) (wd : List UInt8) (i : Int) (ha : allF c = some (k, wd, i)) (hk : k ≠ 0) : Calls Tryz.prog 11 #[.agg (cfC c v)] w fun e w' => e = .returned (.tuple #[.agg zTb, I 90]) ∧ Below w.heap.size w w' := by
 have hb : Below w.heap.size w ((w.alloc (.cells (cfC c v) 47)).alloc (.cells zTb 30)) := (below_alloc w _).trans ((below_alloc _ _).mono (by simp))
 have hV1 : ((w.alloc (.cells (cfC c v) 47)).alloc (.cells zTb 30)).heap[w.heap.size]? = some (.cells (cfC c v) 47) := by
  rw [heap_alloc_old _ _ (by simp)]; exact heap_alloc_new w _
 have hV2 : ((w.alloc (.cells (cfC c v) 47)).alloc (.cells zTb 30)).heap[w.heap.size + 1]? = some (.cells zTb 30) := heap_n2 _ _ _
 have hi18 : (Tryz.prog.info? 47).map (·.size) = some (cfC c v).size := by rw [show (cfC c v).size = 18 from rfl]; kernel_rfl
 have HF : Hid (∀ W, Below w.heap.size w W → Calls Tryz.prog 32 #[.agg (cfC c v)] W fun e w' => e = .returned (.agg #[I k, S wd, I i]) ∧ Below W.heap.size W w') := fun W hW => by
  have := check_any7 W c v (h.below hW) hl (hE.below hW)
  rw [ha] at this
  exact this
 have HV : Hid (∀ W, Below ((w.alloc (.cells (cfC c v) 47)).alloc (.cells zTb 30)).heap.size ((w.alloc (.cells (cfC c v) 47)).alloc (.cells zTb 30)) W → W.heap[w.heap.size]? = some (.cells (cfC c v) 47 (0, 0)) ∧ W.heap[w.heap.size + 1]? = some (.cells zTb 30 (0, 0)) ∧ Below w.heap.size w W) := fun W hW => ⟨(hW.block _ (heap_lt hV1)).trans hV1, (hW.block _ (heap_lt hV2)).trans hV2, hb.trans (hW.mono hb.size)⟩
 have hk' : ¬ k = 0 := hk
 clear hV1 hV2 hb h hE ha hl hk
 generalize hCC : cfC c v = C at *
 clear hCC
 have fc := fun W => fld_code9 W k wd i
 go_enter Tryz.func11, Tryz.ntmps11
 go_upto_region 1 with fail
 unfold zTb at HV
 generalize ((w.alloc (.cells C 47)).alloc (.cells #[I 0, I 0, .slice none 0 0, .slice none 0 0, .slice none 0 0, .slice none 0 0, .slice none 0 0, .slice none 0 0, .slice none 0 0, I 0, I 0, I 0, I 0] 30)) = W1 at *
 obtain ⟨hv1, _, bw1⟩ := HV.out W1 (Below.refl _ _)
 have kF := HF.out W1 bw1
 go_upto_region 2 with (first | (with_reducible refine wpList_id99 ?_; refine wpList_load_row rfl 47 _ rfl w.heap.size rfl 47 _ (0, 0) _ hv1 Tryz.underlying47 rfl hi18 ?_) | (go_at_call 32; refine kF.mono ?_; clear kF; rintro e w2 ⟨rfl, b2⟩))
 clear hv1 bw1
 obtain ⟨hv2, hr5, bw2⟩ := HV.out w2 b2
 have hiT : (Tryz.prog.info? 30).map (·.size) = some (#[I 0, I 0, .slice none 0 0, .slice none 0 0, .slice none 0 0, .slice none 0 0, .slice none 0 0, .slice none 0 0, .slice none 0 0, I 0, I 0, I 0, I 0] : Array Value).size := by kernel_rfl
 have g6 : w2.grownBy (w2.setRow (w.heap.size + 1) #[I 0, I 0, .slice none 0 0, .slice none 0 0, .slice none 0 0, .slice none 0 0, .slice none 0 0, .slice none 0 0, .slice none 0 0, I 0, I 0, I 0, I 0]) (some (w.heap.size + 1)) := Ce.grown_row _ _ _
 have Y6 := setRow_heap w2 (w.heap.size + 1) _ #[I 0, I 0, .slice none 0 0, .slice none 0 0, .slice none 0 0, .slice none 0 0, .slice none 0 0, .slice none 0 0, .slice none 0 0, I 0, I 0, I 0, I 0] _ _ hr5
 go_wp2_with (first | (with_reducible refine wpList_id99 ?_; refine wpList_store_row rfl 30 _ _ rfl (w.heap.size + 1) _ rfl rfl 30 _ hr5 hiT rfl (by simp [Value.oneCell']) ?_))
 refine bodyPost_ret (v := .tuple #[.agg #[I 0, I 0, .slice none 0 0, .slice none 0 0, .slice none 0 0, .slice none 0 0, .slice none 0 0, .slice none 0 0, .slice none 0 0, I 0, I 0, I 0, I 0], I 90]) (res_mk9g Tryz.results11 _ (w.heap.size + 1) _ _ _ hiT rfl rfl Y6) rfl ?_
 exact ⟨rfl, bw2.grown g6 bw2.size (fun k e => by cases e; omega)⟩
end Go.Proofs.YtmidaeljeoifdaaGreatDoor
