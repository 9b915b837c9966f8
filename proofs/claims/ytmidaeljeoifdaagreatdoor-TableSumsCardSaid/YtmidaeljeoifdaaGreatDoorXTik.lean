import Derived.Test.YtmidaeljeoifdaaGreatDoorXTih
import Derived.Deep.RegionHeld3
import Derived.Deep.WholeRow
import Derived.Deep.DeepAppendWide
namespace Go.Proofs.YtmidaeljeoifdaaGreatDoor
open Go.Maps Go.RowKit Go.Shelf Go.Sort
set_option linter.unusedSimpArgs false
set_option linter.unusedVariables false
set_option maxHeartbeats 16000000
set_option maxRecDepth 100000
theorem qol (w : World) (x : Al) (s6 : Sl) (vm vb : Int) (BC : Nat) (C : Array Value) (hC : C.size = 18) (hBC : w.heap[BC]? = some (.cells C 47))
  (k1 : ∀ W,Below w.heap.size w W → Calls Tryz.prog 156 #[.agg C, .agg #[I x.ac.kind,I x.ac.task,I x.ac.event,S x.ac.name]] W fun e w' => e = .returned (.agg #[I x.ac.kind,I x.ac.task, .int .u32 vm]) ∧ Below W.heap.size W w')
  (k2 : ∀ W,Below w.heap.size w W → Calls Tryz.prog 152 #[.slice s6.a s6.n s6.c] W fun e w' => e = .returned (.int .u32 vb) ∧ Below W.heap.size W w') :
  Calls Tryz.prog 155 (#[.agg #[S x.name,I x.ctr,I x.ac.kind,I x.ac.task,I x.ac.event,S x.ac.name, .slice s6.a s6.n s6.c, .int .u32 (x.time : Int), .int .u32 (x.cycle : Int)]] ++ #[.pointer (some ⟨BC,0,none⟩)]) w fun e w' => e = .returned (.agg #[I x.ctr,I x.ac.kind,I x.ac.task, .int .u32 vm, .int .u32 vb, .int .u32 (x.time : Int), .int .u32 (x.cycle : Int)]) ∧ Below w.heap.size w w' := by
 have hi18 : (Tryz.prog.info? 47).map (·.size) = some C.size := by rw [hC]; kernel_rfl
 have B0 : Below w.heap.size w ((w.alloc (.cells #[S x.name,I x.ctr,I x.ac.kind,I x.ac.task,I x.ac.event,S x.ac.name, .slice s6.a s6.n s6.c, .int .u32 (x.time : Int), .int .u32 (x.cycle : Int)] 66)).alloc (.cells #[I 0,I 0,I 0, .int .u32 0, .int .u32 0, .int .u32 0, .int .u32 0] 95)) := (qa0 w _).trans ((qa0 _ _).mono (by simp))
 have hX : ((w.alloc (.cells #[S x.name,I x.ctr,I x.ac.kind,I x.ac.task,I x.ac.event,S x.ac.name, .slice s6.a s6.n s6.c, .int .u32 (x.time : Int), .int .u32 (x.cycle : Int)] 66)).alloc (.cells #[I 0,I 0,I 0, .int .u32 0, .int .u32 0, .int .u32 0, .int .u32 0] 95)).heap[w.heap.size]? = some (.cells #[S x.name,I x.ctr,I x.ac.kind,I x.ac.task,I x.ac.event,S x.ac.name, .slice s6.a s6.n s6.c, .int .u32 (x.time : Int), .int .u32 (x.cycle : Int)] 66) := by
  rw [heap_alloc_old _ _ (by simp)]; exact heap_alloc_new w _
 have hY : ((w.alloc (.cells #[S x.name,I x.ctr,I x.ac.kind,I x.ac.task,I x.ac.event,S x.ac.name, .slice s6.a s6.n s6.c, .int .u32 (x.time : Int), .int .u32 (x.cycle : Int)] 66)).alloc (.cells #[I 0,I 0,I 0, .int .u32 0, .int .u32 0, .int .u32 0, .int .u32 0] 95)).heap[w.heap.size + 1]? = some (.cells #[I 0,I 0,I 0, .int .u32 0, .int .u32 0, .int .u32 0, .int .u32 0] 95) := qda _ _ _
 have HK : Hid (w.heap[BC]? = some (.cells C 47)) := hBC
 clear hBC
 go_enter Tryz.func155,Tryz.ntmps155
 go_upto_region 1 with fail
 have HY : Hid _ := hY
 clear hY
 generalize hW : ((w.alloc (.cells #[S x.name,I x.ctr,I x.ac.kind,I x.ac.task,I x.ac.event,S x.ac.name, .slice s6.a s6.n s6.c, .int .u32 (x.time : Int), .int .u32 (x.cycle : Int)] 66)).alloc (.cells #[I 0,I 0,I 0, .int .u32 0, .int .u32 0, .int .u32 0, .int .u32 0] 95)) = W0 at *
 clear hW
 have HS : Hid (∀ W,Below W0.heap.size W0 W → W.cell? ⟨w.heap.size,1,none⟩ = some (I x.ctr) ∧ W.cell? ⟨w.heap.size,2,none⟩ = some (I x.ac.kind) ∧ W.cell? ⟨w.heap.size,3,none⟩ = some (I x.ac.task) ∧ W.cell? ⟨w.heap.size,4,none⟩ = some (I x.ac.event) ∧ W.cell? ⟨w.heap.size,5,none⟩ = some (S x.ac.name) ∧ W.cell? ⟨w.heap.size,6,none⟩ = some (.slice s6.a s6.n s6.c) ∧ W.cell? ⟨w.heap.size,7,none⟩ = some (.int .u32 (x.time : Int)) ∧ W.cell? ⟨w.heap.size,8,none⟩ = some (.int .u32 (x.cycle : Int)) ∧ W.heap[BC]? = some (.cells C 47 (0,0))) := fun W hW => by
  have h1 := (hW.block _ (qa1 hX)).trans hX
  have hb := B0.trans (hW.mono B0.size)
  exact ⟨by rw [cell_of_row W _ 1 _ _ (0,0) h1]; rfl,by rw [cell_of_row W _ 2 _ _ (0,0) h1]; rfl,by rw [cell_of_row W _ 3 _ _ (0,0) h1]; rfl,by rw [cell_of_row W _ 4 _ _ (0,0) h1]; rfl,by rw [cell_of_row W _ 5 _ _ (0,0) h1]; rfl,by rw [cell_of_row W _ 6 _ _ (0,0) h1]; rfl,by rw [cell_of_row W _ 7 _ _ (0,0) h1]; rfl,by rw [cell_of_row W _ 8 _ _ (0,0) h1]; rfl,(hb.block _ (qa1 HK.out)).trans HK.out⟩
 have HB : Hid (∀ W,Below W0.heap.size W0 W → Below w.heap.size w W) := fun W hW => B0.trans (hW.mono B0.size)
 have B1 : Below W0.heap.size W0 W0.drew := (Below.refl _ _).drew
 refine wp_region_held_drew (S := fun W' => W'.cell? ⟨w.heap.size,1,none⟩ = some (I x.ctr) ∧ W'.cell? ⟨w.heap.size,2,none⟩ = some (I x.ac.kind) ∧ W'.cell? ⟨w.heap.size,3,none⟩ = some (I x.ac.task) ∧ W'.cell? ⟨w.heap.size,4,none⟩ = some (I x.ac.event) ∧ W'.cell? ⟨w.heap.size,5,none⟩ = some (S x.ac.name) ∧ W'.cell? ⟨w.heap.size,6,none⟩ = some (.slice s6.a s6.n s6.c) ∧ W'.cell? ⟨w.heap.size,7,none⟩ = some (.int .u32 (x.time : Int)) ∧ W'.cell? ⟨w.heap.size,8,none⟩ = some (.int .u32 (x.cycle : Int)) ∧ W'.heap[BC]? = some (.cells C 47 (0,0))) (by kernel_rfl) (HS.out _ B1) (fun hHeld => ?_)
 refine wpAnyH_take (i := 0) (v := ?_) rfl (by kernel_rfl) (by kernel_rfl) (by kernel_rfl) (fun _ _ _ h => h) (Or.inl ⟨by rfl, ?_⟩) hHeld ?_
 rotate_left
 ·intro w' hSw
  obtain ⟨y1,y2,y3,y4,y5,y6,y7,y8,_⟩ := hSw
  go_simp
  try with_reducible rfl
 try simp only [Act.put,q7a,q7b,q7c,q7d,q7e,q7f]
 refine wpAnyH_take (i := 1) (v := ?_) rfl (by kernel_rfl) (by kernel_rfl) (by kernel_rfl) (fun _ _ _ h => h) (Or.inl ⟨by rfl, ?_⟩) hHeld ?_
 rotate_left
 ·intro w' hSw
  obtain ⟨y1,y2,y3,y4,y5,y6,y7,y8,_⟩ := hSw
  go_simp
  try with_reducible rfl
 try simp only [Act.put,q7a,q7b,q7c,q7d,q7e,q7f]
 refine wpAnyH_take (i := 2) (v := .agg C) rfl (by kernel_rfl) (by kernel_rfl) (by kernel_rfl) (fun _ _ _ h => h) (Ce.yieldsIf_load_row (by rfl) 47 _ rfl BC rfl 47 C (0,0) _ (fun _ hw => hw.2.2.2.2.2.2.2.2) Tryz.underlying47 rfl hi18) hHeld ?_
 try simp only [Act.put,q7a,q7b,q7c,q7d,q7e,q7f]
 refine wpAnyH_take (i := 3) (v := ?_) rfl (by kernel_rfl) (by kernel_rfl) (by kernel_rfl) (fun _ _ _ h => h) (Or.inl ⟨by rfl, ?_⟩) hHeld ?_
 rotate_left
 ·intro w' hSw
  obtain ⟨y1,y2,y3,y4,y5,y6,y7,y8,_⟩ := hSw
  go_simp
  try with_reducible rfl
 try simp only [Act.put,q7a,q7b,q7c,q7d,q7e,q7f]
 refine wpAnyH_take (i := 4) (v := ?_) rfl (by kernel_rfl) (by kernel_rfl) (by kernel_rfl) (fun _ _ _ h => h) (Or.inl ⟨by rfl, ?_⟩) hHeld ?_
 rotate_left
 ·intro w' hSw
  obtain ⟨y1,y2,y3,y4,y5,y6,y7,y8,_⟩ := hSw
  go_simp
  try with_reducible rfl
 try simp only [Act.put,q7a,q7b,q7c,q7d,q7e,q7f]
 refine wpAnyH_take (i := 6) (v := ?_) rfl (by kernel_rfl) (by kernel_rfl) (by kernel_rfl) (fun _ _ _ h => h) (Or.inl ⟨by rfl, ?_⟩) hHeld ?_
 rotate_left
 ·intro w' hSw
  obtain ⟨y1,y2,y3,y4,y5,y6,y7,y8,_⟩ := hSw
  go_simp
  try with_reducible rfl
 try simp only [Act.put,q7a,q7b,q7c,q7d,q7e,q7f]
 refine wpAnyH_take (i := 7) (v := ?_) rfl (by kernel_rfl) (by kernel_rfl) (by kernel_rfl) (fun _ _ _ h => h) (Or.inl ⟨by rfl, ?_⟩) hHeld ?_
 rotate_left
 ·intro w' hSw
  obtain ⟨y1,y2,y3,y4,y5,y6,y7,y8,_⟩ := hSw
  go_simp
  try with_reducible rfl
 try simp only [Act.put,q7a,q7b,q7c,q7d,q7e,q7f]
 refine wpAnyH_take (i := 9) (v := ?_) rfl (by kernel_rfl) (by kernel_rfl) (by kernel_rfl) (fun _ _ _ h => h) (Or.inl ⟨by rfl, ?_⟩) hHeld ?_
 rotate_left
 ·intro w' hSw
  obtain ⟨y1,y2,y3,y4,y5,y6,y7,y8,_⟩ := hSw
  go_simp
  try with_reducible rfl
 try simp only [Act.put,q7a,q7b,q7c,q7d,q7e,q7f]
 refine wpAnyH_take (i := 10) (v := ?_) rfl (by kernel_rfl) (by kernel_rfl) (by kernel_rfl) (fun _ _ _ h => h) (Or.inl ⟨by rfl, ?_⟩) hHeld ?_
 rotate_left
 ·intro w' hSw
  obtain ⟨y1,y2,y3,y4,y5,y6,y7,y8,_⟩ := hSw
  go_simp
  try with_reducible rfl
 try simp only [Act.put,q7a,q7b,q7c,q7d,q7e,q7f]
 refine wpAnyH_take (i := 11) (v := ?_) rfl (by kernel_rfl) (by kernel_rfl) (by kernel_rfl) (fun _ _ _ h => h) (Or.inl ⟨by rfl, ?_⟩) hHeld ?_
 rotate_left
 ·intro w' hSw
  obtain ⟨y1,y2,y3,y4,y5,y6,y7,y8,_⟩ := hSw
  go_simp
  try with_reducible rfl
 try simp only [Act.put,q7a,q7b,q7c,q7d,q7e,q7f]
 refine wpAnyH_take (i := 12) (v := ?_) rfl (by kernel_rfl) (by kernel_rfl) (by kernel_rfl) (fun _ _ _ h => h) (Or.inl ⟨by rfl, ?_⟩) hHeld ?_
 rotate_left
 ·intro w' hSw
  obtain ⟨y1,y2,y3,y4,y5,y6,y7,y8,_⟩ := hSw
  go_simp
  try with_reducible rfl
 try simp only [Act.put,q7a,q7b,q7c,q7d,q7e,q7f]
 refine wpAnyH_ready (rs := [5]) (by kernel_rfl) (by simp) ?_
 refine AllReadyH.cons rfl (fun K hK => ?_) AllReadyH.nil
 go_simp
 go_wp2_with (go_at_call 156; refine (k1 _ (HB.out _ B1)).mono ?_; rintro e w2 ⟨rfl,b2⟩)
 have B2 : Below W0.heap.size W0 w2 := B1.trans (b2.mono B1.size)
 refine hK.out _ _ (HS.out _ B2) (fun hHeld => ?_)
 clear hK K
 try simp only [Act.put,q7a,q7b,q7c,q7d,q7e,q7f]
 refine wpAnyH_ready (rs := [8]) (by kernel_rfl) (by simp) ?_
 refine AllReadyH.cons rfl (fun K hK => ?_) AllReadyH.nil
 go_simp
 go_wp2_with (go_at_call 152; refine (k2 _ (HB.out _ B2)).mono ?_; rintro e w3 ⟨rfl,b3⟩)
 have B3 : Below W0.heap.size W0 w3 := B2.trans (b3.mono B2.size)
 refine hK.out _ _ (HS.out _ B3) (fun hHeld => ?_)
 clear hK K
 try simp only [Act.put,q7a,q7b,q7c,q7d,q7e,q7f]
 refine wpAnyH_take (i := 13) (v := ?_) rfl (by kernel_rfl) (by kernel_rfl) (by kernel_rfl) (fun _ _ _ h => h) (Or.inl ⟨by rfl, ?_⟩) hHeld ?_
 rotate_left
 ·intro w' hSw
  obtain ⟨y1,y2,y3,y4,y5,y6,y7,y8,_⟩ := hSw
  go_simp
  try with_reducible rfl
 try simp only [Act.put,q7a,q7b,q7c,q7d,q7e,q7f]
 have Y6 := (B3.block _ (qa1 HY.out)).trans HY.out
 have hi8 : (Tryz.prog.info? 95).map (·.size) = some (#[I x.ctr,I x.ac.kind,I x.ac.task, .int .u32 vm, .int .u32 vb, .int .u32 (x.time : Int), .int .u32 (x.cycle : Int)] : Array Value).size := by kernel_rfl
 have g7 : w3.grownBy (w3.setRow (w.heap.size + 1) #[I x.ctr,I x.ac.kind,I x.ac.task, .int .u32 vm, .int .u32 vb, .int .u32 (x.time : Int), .int .u32 (x.cycle : Int)]) (some (w.heap.size + 1)) := Ce.grown_row _ _ _
 have B7 : Below w.heap.size w (w3.setRow (w.heap.size + 1) #[I x.ctr,I x.ac.kind,I x.ac.task, .int .u32 vm, .int .u32 vb, .int .u32 (x.time : Int), .int .u32 (x.cycle : Int)]) := (HB.out _ B3).grown g7 (HB.out _ B3).size (fun k e => by cases e; omega)
 have Y7 : (w3.setRow (w.heap.size + 1) #[I x.ctr,I x.ac.kind,I x.ac.task, .int .u32 vm, .int .u32 vb, .int .u32 (x.time : Int), .int .u32 (x.cycle : Int)]).heap[w.heap.size + 1]? = some (.cells #[I x.ctr,I x.ac.kind,I x.ac.task, .int .u32 vm, .int .u32 vb, .int .u32 (x.time : Int), .int .u32 (x.cycle : Int)] 95 (0,0)) := setRow_heap _ _ _ _ _ _ Y6
 refine wpAnyH_ready (rs := [14]) (by kernel_rfl) (by simp) ?_
 refine AllReadyH.cons rfl (fun K hK => ?_) AllReadyH.nil
 rw [if_pos (by kernel_rfl)]
 refine wp_store_row 95 _ _ rfl (w.heap.size + 1) _ rfl rfl 95 _ Y6 hi8 rfl (by simp [Value.oneCell']) ?_
 have hS7 := HS.out _ B3
 have hlt6 : w.heap.size < w3.heap.size := by have := qa1 Y6; omega
 have q : ∀ b,b ≠ w.heap.size + 1 → b < w3.heap.size → ∀ i,(w3.setRow (w.heap.size + 1) #[I x.ctr,I x.ac.kind,I x.ac.task, .int .u32 vm, .int .u32 vb, .int .u32 (x.time : Int), .int .u32 (x.cycle : Int)]).cell? ⟨b,i,none⟩ = w3.cell? ⟨b,i,none⟩ := fun b hb hl i => World.cell?_of_block (qay g7 hl (fun e => hb (Option.some.inj e)))
 have q2 : ∀ b,b ≠ w.heap.size + 1 → b < w3.heap.size → (w3.setRow (w.heap.size + 1) #[I x.ctr,I x.ac.kind,I x.ac.task, .int .u32 vm, .int .u32 vb, .int .u32 (x.time : Int), .int .u32 (x.cycle : Int)]).heap[b]? = w3.heap[b]? := fun b hb hl => qay g7 hl (fun e => hb (Option.some.inj e))
 have l2 := qa1 HK.out
 have ls := (HB.out _ B3).size
 refine hK.out _ _ ⟨by rw [q _ (by omega) hlt6]; exact hS7.1,by rw [q _ (by omega) hlt6]; exact hS7.2.1,by rw [q _ (by omega) hlt6]; exact hS7.2.2.1,by rw [q _ (by omega) hlt6]; exact hS7.2.2.2.1,by rw [q _ (by omega) hlt6]; exact hS7.2.2.2.2.1,by rw [q _ (by omega) hlt6]; exact hS7.2.2.2.2.2.1,by rw [q _ (by omega) hlt6]; exact hS7.2.2.2.2.2.2.1,by rw [q _ (by omega) hlt6]; exact hS7.2.2.2.2.2.2.2.1,by rw [q2 _ (by omega) (by omega)]; exact hS7.2.2.2.2.2.2.2.2⟩ (fun hHeld => ?_)
 clear hK K q q2
 refine wpAnyH_done (by kernel_rfl) ?_ _
 go_wp2_with fail
 refine bodyPost_ret (v := .agg #[I x.ctr,I x.ac.kind,I x.ac.task, .int .u32 vm, .int .u32 vb, .int .u32 (x.time : Int), .int .u32 (x.cycle : Int)]) (results_cell_row Tryz.results155 _ _ (w.heap.size + 1) 95 _ (0,0) _ rfl Y7 Tryz.underlying95 rfl hi8) rfl ?_
 exact ⟨rfl,B7⟩
theorem qlh (w : World) (x : Ms) (vm : Int) (BC : Nat) (C : Array Value) (hC : C.size = 18) (hBC : w.heap[BC]? = some (.cells C 47))
  (k1 : ∀ W,Below w.heap.size w W → Calls Tryz.prog 156 #[.agg C, .agg #[I x.ac.kind,I x.ac.task,I x.ac.event,S x.ac.name]] W fun e w' => e = .returned (.agg #[I x.ac.kind,I x.ac.task, .int .u32 vm]) ∧ Below W.heap.size W w') :
  Calls Tryz.prog 159 (#[.agg #[S x.name,I x.kind,I x.len,I x.frm, .int .u64 (x.init : Int),I x.queue,I x.ac.kind,I x.ac.task,I x.ac.event,S x.ac.name]] ++ #[.pointer (some ⟨BC,0,none⟩)]) w fun e w' => e = .returned (.agg #[I x.kind,I x.len,I x.frm, .int .u64 (x.init : Int),I x.queue,I x.ac.kind,I x.ac.task, .int .u32 vm]) ∧ Below w.heap.size w w' := by
 have hi18 : (Tryz.prog.info? 47).map (·.size) = some C.size := by rw [hC]; kernel_rfl
 have B0 : Below w.heap.size w ((w.alloc (.cells #[S x.name,I x.kind,I x.len,I x.frm, .int .u64 (x.init : Int),I x.queue,I x.ac.kind,I x.ac.task,I x.ac.event,S x.ac.name] 114)).alloc (.cells #[I 0,I 0,I 0, .int .u64 0,I 0,I 0,I 0, .int .u32 0] 99)) := (qa0 w _).trans ((qa0 _ _).mono (by simp))
 have hX : ((w.alloc (.cells #[S x.name,I x.kind,I x.len,I x.frm, .int .u64 (x.init : Int),I x.queue,I x.ac.kind,I x.ac.task,I x.ac.event,S x.ac.name] 114)).alloc (.cells #[I 0,I 0,I 0, .int .u64 0,I 0,I 0,I 0, .int .u32 0] 99)).heap[w.heap.size]? = some (.cells #[S x.name,I x.kind,I x.len,I x.frm, .int .u64 (x.init : Int),I x.queue,I x.ac.kind,I x.ac.task,I x.ac.event,S x.ac.name] 114) := by
  rw [heap_alloc_old _ _ (by simp)]; exact heap_alloc_new w _
 have hY : ((w.alloc (.cells #[S x.name,I x.kind,I x.len,I x.frm, .int .u64 (x.init : Int),I x.queue,I x.ac.kind,I x.ac.task,I x.ac.event,S x.ac.name] 114)).alloc (.cells #[I 0,I 0,I 0, .int .u64 0,I 0,I 0,I 0, .int .u32 0] 99)).heap[w.heap.size + 1]? = some (.cells #[I 0,I 0,I 0, .int .u64 0,I 0,I 0,I 0, .int .u32 0] 99) := qda _ _ _
 have HK : Hid (w.heap[BC]? = some (.cells C 47)) := hBC
 clear hBC
 go_enter Tryz.func159,Tryz.ntmps159
 go_upto_region 1 with fail
 have HY : Hid _ := hY
 clear hY
 generalize hW : ((w.alloc (.cells #[S x.name,I x.kind,I x.len,I x.frm, .int .u64 (x.init : Int),I x.queue,I x.ac.kind,I x.ac.task,I x.ac.event,S x.ac.name] 114)).alloc (.cells #[I 0,I 0,I 0, .int .u64 0,I 0,I 0,I 0, .int .u32 0] 99)) = W0 at *
 clear hW
 have HS : Hid (∀ W,Below W0.heap.size W0 W → W.cell? ⟨w.heap.size,1,none⟩ = some (I x.kind) ∧ W.cell? ⟨w.heap.size,2,none⟩ = some (I x.len) ∧ W.cell? ⟨w.heap.size,3,none⟩ = some (I x.frm) ∧ W.cell? ⟨w.heap.size,4,none⟩ = some (.int .u64 (x.init : Int)) ∧ W.cell? ⟨w.heap.size,5,none⟩ = some (I x.queue) ∧ W.cell? ⟨w.heap.size,6,none⟩ = some (I x.ac.kind) ∧ W.cell? ⟨w.heap.size,7,none⟩ = some (I x.ac.task) ∧ W.cell? ⟨w.heap.size,8,none⟩ = some (I x.ac.event) ∧ W.cell? ⟨w.heap.size,9,none⟩ = some (S x.ac.name) ∧ W.heap[BC]? = some (.cells C 47 (0,0))) := fun W hW => by
  have h1 := (hW.block _ (qa1 hX)).trans hX
  have hb := B0.trans (hW.mono B0.size)
  exact ⟨by rw [cell_of_row W _ 1 _ _ (0,0) h1]; rfl,by rw [cell_of_row W _ 2 _ _ (0,0) h1]; rfl,by rw [cell_of_row W _ 3 _ _ (0,0) h1]; rfl,by rw [cell_of_row W _ 4 _ _ (0,0) h1]; rfl,by rw [cell_of_row W _ 5 _ _ (0,0) h1]; rfl,by rw [cell_of_row W _ 6 _ _ (0,0) h1]; rfl,by rw [cell_of_row W _ 7 _ _ (0,0) h1]; rfl,by rw [cell_of_row W _ 8 _ _ (0,0) h1]; rfl,by rw [cell_of_row W _ 9 _ _ (0,0) h1]; rfl,(hb.block _ (qa1 HK.out)).trans HK.out⟩
 have HB : Hid (∀ W,Below W0.heap.size W0 W → Below w.heap.size w W) := fun W hW => B0.trans (hW.mono B0.size)
 have B1 : Below W0.heap.size W0 W0.drew := (Below.refl _ _).drew
 refine wp_region_held_drew (S := fun W' => W'.cell? ⟨w.heap.size,1,none⟩ = some (I x.kind) ∧ W'.cell? ⟨w.heap.size,2,none⟩ = some (I x.len) ∧ W'.cell? ⟨w.heap.size,3,none⟩ = some (I x.frm) ∧ W'.cell? ⟨w.heap.size,4,none⟩ = some (.int .u64 (x.init : Int)) ∧ W'.cell? ⟨w.heap.size,5,none⟩ = some (I x.queue) ∧ W'.cell? ⟨w.heap.size,6,none⟩ = some (I x.ac.kind) ∧ W'.cell? ⟨w.heap.size,7,none⟩ = some (I x.ac.task) ∧ W'.cell? ⟨w.heap.size,8,none⟩ = some (I x.ac.event) ∧ W'.cell? ⟨w.heap.size,9,none⟩ = some (S x.ac.name) ∧ W'.heap[BC]? = some (.cells C 47 (0,0))) (by kernel_rfl) (HS.out _ B1) (fun hHeld => ?_)
 refine wpAnyH_take (i := 0) (v := ?_) rfl (by kernel_rfl) (by kernel_rfl) (by kernel_rfl) (fun _ _ _ h => h) (Or.inl ⟨by rfl, ?_⟩) hHeld ?_
 rotate_left
 ·intro w' hSw
  obtain ⟨y1,y2,y3,y4,y5,y6,y7,y8,y9,_⟩ := hSw
  go_simp
  try with_reducible rfl
 try simp only [Act.put,q7a,q7b,q7c,q7d,q7e,q7f]
 refine wpAnyH_take (i := 1) (v := ?_) rfl (by kernel_rfl) (by kernel_rfl) (by kernel_rfl) (fun _ _ _ h => h) (Or.inl ⟨by rfl, ?_⟩) hHeld ?_
 rotate_left
 ·intro w' hSw
  obtain ⟨y1,y2,y3,y4,y5,y6,y7,y8,y9,_⟩ := hSw
  go_simp
  try with_reducible rfl
 try simp only [Act.put,q7a,q7b,q7c,q7d,q7e,q7f]
 refine wpAnyH_take (i := 2) (v := ?_) rfl (by kernel_rfl) (by kernel_rfl) (by kernel_rfl) (fun _ _ _ h => h) (Or.inl ⟨by rfl, ?_⟩) hHeld ?_
 rotate_left
 ·intro w' hSw
  obtain ⟨y1,y2,y3,y4,y5,y6,y7,y8,y9,_⟩ := hSw
  go_simp
  try with_reducible rfl
 try simp only [Act.put,q7a,q7b,q7c,q7d,q7e,q7f]
 refine wpAnyH_take (i := 3) (v := ?_) rfl (by kernel_rfl) (by kernel_rfl) (by kernel_rfl) (fun _ _ _ h => h) (Or.inl ⟨by rfl, ?_⟩) hHeld ?_
 rotate_left
 ·intro w' hSw
  obtain ⟨y1,y2,y3,y4,y5,y6,y7,y8,y9,_⟩ := hSw
  go_simp
  try with_reducible rfl
 try simp only [Act.put,q7a,q7b,q7c,q7d,q7e,q7f]
 refine wpAnyH_take (i := 4) (v := ?_) rfl (by kernel_rfl) (by kernel_rfl) (by kernel_rfl) (fun _ _ _ h => h) (Or.inl ⟨by rfl, ?_⟩) hHeld ?_
 rotate_left
 ·intro w' hSw
  obtain ⟨y1,y2,y3,y4,y5,y6,y7,y8,y9,_⟩ := hSw
  go_simp
  try with_reducible rfl
 try simp only [Act.put,q7a,q7b,q7c,q7d,q7e,q7f]
 refine wpAnyH_take (i := 5) (v := ?_) rfl (by kernel_rfl) (by kernel_rfl) (by kernel_rfl) (fun _ _ _ h => h) (Or.inl ⟨by rfl, ?_⟩) hHeld ?_
 rotate_left
 ·intro w' hSw
  obtain ⟨y1,y2,y3,y4,y5,y6,y7,y8,y9,_⟩ := hSw
  go_simp
  try with_reducible rfl
 try simp only [Act.put,q7a,q7b,q7c,q7d,q7e,q7f]
 refine wpAnyH_take (i := 6) (v := ?_) rfl (by kernel_rfl) (by kernel_rfl) (by kernel_rfl) (fun _ _ _ h => h) (Or.inl ⟨by rfl, ?_⟩) hHeld ?_
 rotate_left
 ·intro w' hSw
  obtain ⟨y1,y2,y3,y4,y5,y6,y7,y8,y9,_⟩ := hSw
  go_simp
  try with_reducible rfl
 try simp only [Act.put,q7a,q7b,q7c,q7d,q7e,q7f]
 refine wpAnyH_take (i := 7) (v := ?_) rfl (by kernel_rfl) (by kernel_rfl) (by kernel_rfl) (fun _ _ _ h => h) (Or.inl ⟨by rfl, ?_⟩) hHeld ?_
 rotate_left
 ·intro w' hSw
  obtain ⟨y1,y2,y3,y4,y5,y6,y7,y8,y9,_⟩ := hSw
  go_simp
  try with_reducible rfl
 try simp only [Act.put,q7a,q7b,q7c,q7d,q7e,q7f]
 refine wpAnyH_take (i := 8) (v := ?_) rfl (by kernel_rfl) (by kernel_rfl) (by kernel_rfl) (fun _ _ _ h => h) (Or.inl ⟨by rfl, ?_⟩) hHeld ?_
 rotate_left
 ·intro w' hSw
  obtain ⟨y1,y2,y3,y4,y5,y6,y7,y8,y9,_⟩ := hSw
  go_simp
  try with_reducible rfl
 try simp only [Act.put,q7a,q7b,q7c,q7d,q7e,q7f]
 refine wpAnyH_take (i := 9) (v := ?_) rfl (by kernel_rfl) (by kernel_rfl) (by kernel_rfl) (fun _ _ _ h => h) (Or.inl ⟨by rfl, ?_⟩) hHeld ?_
 rotate_left
 ·intro w' hSw
  obtain ⟨y1,y2,y3,y4,y5,y6,y7,y8,y9,_⟩ := hSw
  go_simp
  try with_reducible rfl
 try simp only [Act.put,q7a,q7b,q7c,q7d,q7e,q7f]
 refine wpAnyH_take (i := 10) (v := .agg C) rfl (by kernel_rfl) (by kernel_rfl) (by kernel_rfl) (fun _ _ _ h => h) (Ce.yieldsIf_load_row (by rfl) 47 _ rfl BC rfl 47 C (0,0) _ (fun _ hw => hw.2.2.2.2.2.2.2.2.2) Tryz.underlying47 rfl hi18) hHeld ?_
 try simp only [Act.put,q7a,q7b,q7c,q7d,q7e,q7f]
 refine wpAnyH_take (i := 11) (v := ?_) rfl (by kernel_rfl) (by kernel_rfl) (by kernel_rfl) (fun _ _ _ h => h) (Or.inl ⟨by rfl, ?_⟩) hHeld ?_
 rotate_left
 ·intro w' hSw
  obtain ⟨y1,y2,y3,y4,y5,y6,y7,y8,y9,_⟩ := hSw
  go_simp
  try with_reducible rfl
 try simp only [Act.put,q7a,q7b,q7c,q7d,q7e,q7f]
 refine wpAnyH_take (i := 12) (v := ?_) rfl (by kernel_rfl) (by kernel_rfl) (by kernel_rfl) (fun _ _ _ h => h) (Or.inl ⟨by rfl, ?_⟩) hHeld ?_
 rotate_left
 ·intro w' hSw
  obtain ⟨y1,y2,y3,y4,y5,y6,y7,y8,y9,_⟩ := hSw
  go_simp
  try with_reducible rfl
 try simp only [Act.put,q7a,q7b,q7c,q7d,q7e,q7f]
 refine wpAnyH_ready (rs := [13]) (by kernel_rfl) (by simp) ?_
 refine AllReadyH.cons rfl (fun K hK => ?_) AllReadyH.nil
 go_simp
 go_wp2_with (go_at_call 156; refine (k1 _ (HB.out _ B1)).mono ?_; rintro e w2 ⟨rfl,b2⟩)
 have B2 : Below W0.heap.size W0 w2 := B1.trans (b2.mono B1.size)
 refine hK.out _ _ (HS.out _ B2) (fun hHeld => ?_)
 clear hK K
 try simp only [Act.put,q7a,q7b,q7c,q7d,q7e,q7f]
 refine wpAnyH_take (i := 14) (v := ?_) rfl (by kernel_rfl) (by kernel_rfl) (by kernel_rfl) (fun _ _ _ h => h) (Or.inl ⟨by rfl, ?_⟩) hHeld ?_
 rotate_left
 ·intro w' hSw
  obtain ⟨y1,y2,y3,y4,y5,y6,y7,y8,y9,_⟩ := hSw
  go_simp
  try with_reducible rfl
 try simp only [Act.put,q7a,q7b,q7c,q7d,q7e,q7f]
 have Y6 := (B2.block _ (qa1 HY.out)).trans HY.out
 have hi8 : (Tryz.prog.info? 99).map (·.size) = some (#[I x.kind,I x.len,I x.frm, .int .u64 (x.init : Int),I x.queue,I x.ac.kind,I x.ac.task, .int .u32 vm] : Array Value).size := by kernel_rfl
 have g7 : w2.grownBy (w2.setRow (w.heap.size + 1) #[I x.kind,I x.len,I x.frm, .int .u64 (x.init : Int),I x.queue,I x.ac.kind,I x.ac.task, .int .u32 vm]) (some (w.heap.size + 1)) := Ce.grown_row _ _ _
 have B7 : Below w.heap.size w (w2.setRow (w.heap.size + 1) #[I x.kind,I x.len,I x.frm, .int .u64 (x.init : Int),I x.queue,I x.ac.kind,I x.ac.task, .int .u32 vm]) := (HB.out _ B2).grown g7 (HB.out _ B2).size (fun k e => by cases e; omega)
 have Y7 : (w2.setRow (w.heap.size + 1) #[I x.kind,I x.len,I x.frm, .int .u64 (x.init : Int),I x.queue,I x.ac.kind,I x.ac.task, .int .u32 vm]).heap[w.heap.size + 1]? = some (.cells #[I x.kind,I x.len,I x.frm, .int .u64 (x.init : Int),I x.queue,I x.ac.kind,I x.ac.task, .int .u32 vm] 99 (0,0)) := setRow_heap _ _ _ _ _ _ Y6
 refine wpAnyH_ready (rs := [15]) (by kernel_rfl) (by simp) ?_
 refine AllReadyH.cons rfl (fun K hK => ?_) AllReadyH.nil
 rw [if_pos (by kernel_rfl)]
 refine wp_store_row 99 _ _ rfl (w.heap.size + 1) _ rfl rfl 99 _ Y6 hi8 rfl (by simp [Value.oneCell']) ?_
 have hS7 := HS.out _ B2
 have hlt6 : w.heap.size < w2.heap.size := by have := qa1 Y6; omega
 have q : ∀ b,b ≠ w.heap.size + 1 → b < w2.heap.size → ∀ i,(w2.setRow (w.heap.size + 1) #[I x.kind,I x.len,I x.frm, .int .u64 (x.init : Int),I x.queue,I x.ac.kind,I x.ac.task, .int .u32 vm]).cell? ⟨b,i,none⟩ = w2.cell? ⟨b,i,none⟩ := fun b hb hl i => World.cell?_of_block (qay g7 hl (fun e => hb (Option.some.inj e)))
 have q2 : ∀ b,b ≠ w.heap.size + 1 → b < w2.heap.size → (w2.setRow (w.heap.size + 1) #[I x.kind,I x.len,I x.frm, .int .u64 (x.init : Int),I x.queue,I x.ac.kind,I x.ac.task, .int .u32 vm]).heap[b]? = w2.heap[b]? := fun b hb hl => qay g7 hl (fun e => hb (Option.some.inj e))
 have l2 := qa1 HK.out
 have ls := (HB.out _ B2).size
 refine hK.out _ _ ⟨by rw [q _ (by omega) hlt6]; exact hS7.1,by rw [q _ (by omega) hlt6]; exact hS7.2.1,by rw [q _ (by omega) hlt6]; exact hS7.2.2.1,by rw [q _ (by omega) hlt6]; exact hS7.2.2.2.1,by rw [q _ (by omega) hlt6]; exact hS7.2.2.2.2.1,by rw [q _ (by omega) hlt6]; exact hS7.2.2.2.2.2.1,by rw [q _ (by omega) hlt6]; exact hS7.2.2.2.2.2.2.1,by rw [q _ (by omega) hlt6]; exact hS7.2.2.2.2.2.2.2.1,by rw [q _ (by omega) hlt6]; exact hS7.2.2.2.2.2.2.2.2.1,by rw [q2 _ (by omega) (by omega)]; exact hS7.2.2.2.2.2.2.2.2.2⟩ (fun hHeld => ?_)
 clear hK K q q2
 refine wpAnyH_done (by kernel_rfl) ?_ _
 go_wp2_with fail
 refine bodyPost_ret (v := .agg #[I x.kind,I x.len,I x.frm, .int .u64 (x.init : Int),I x.queue,I x.ac.kind,I x.ac.task, .int .u32 vm]) (results_cell_row Tryz.results159 _ _ (w.heap.size + 1) 99 _ (0,0) _ rfl Y7 Tryz.underlying99 rfl hi8) rfl ?_
 exact ⟨rfl,B7⟩
theorem qqt (g off j : Nat) : (⟨g,off,none⟩ : Addr).add j = ⟨g,off + j,none⟩ := by unfold Addr.add; split <;> simp_all
theorem qom (w : World) (s : Sl) (l : List Int) (hl : RowsAt w 1 intP s l) (hll : l.length ≤ 1048576) : Calls Tryz.prog 157 #[.slice s.a s.n s.c] w fun e w' => ∃ so : Sl,e = .returned (.slice so.a so.n so.c) ∧ qa9 w' w.heap.size l (.slice so.a so.n so.c) ∧ Below w.heap.size w w' := by
 have hq : ∀ (w : World) (a : Option Addr) (n c n' c' : Nat),(binOp .eql 54 (.slice a n c) (.slice none n' c')).run Tryz.prog w = .ok (.bool a.isNone) w := fun w a n c n' c' => Lib.run_eql_slice_nil w _ _ a n c n' c' Tryz.underlying54
 obtain ⟨i0,hi0,hz0,hz1,hz2⟩ := info_parts qhl
 obtain ⟨a,n,c⟩ := s
 have hn : n = l.length := hl.n
 subst hn
 cases a with
 | none =>
  have h0 : l = [] := by
   cases l with
   | nil => rfl
   | cons x r => obtain ⟨g,off,e,_⟩ := hl.row 0 x rfl; cases e
  subst h0
  clear hl
  go_enter Tryz.func157,Tryz.ntmps157
  go_wp2
  go_ret
  exact ⟨⟨none,0,0⟩,rfl,World.ownsRow_nil _ _ _ _,Below.refl _ _⟩
 | some ad =>
  have hown := World.ownsRow_lit (base := w.heap.size) (e := 3) (size := 1) w #[] 0 (Nat.le_refl _) (Nat.zero_le _) rfl
  have HNL : Hid ((l.map fun x => I x).length = l.length * 1) := by show _ = _; simp
  have hcl : ∀ j u,(l.map fun x => I x)[j]? = some u → (w.alloc (.cells #[] 3)).cell? (ad.add j) = some u := fun j u hj => by
   rw [List.getElem?_map] at hj
   cases e : l[j]? with
   | none => rw [e] at hj; cases hj
   | some i =>
    rw [e] at hj
    cases hj
    obtain ⟨g,off,e2,hg,b5⟩ := qb9 hl e
    cases e2
    rw [qqt,World.cell?_of_block ((qa0 w _).block g hg)]
    exact b5
  have ho : ∀ u ∈ (l.map fun x => I x),u.oneCell' = true := fun u hu => by obtain ⟨i,_,rfl⟩ := List.mem_map.1 hu; rfl
  clear hl
  go_enter Tryz.func157,Tryz.ntmps157
  go_wp2_with (at_builtin; refine wpList_append_own _ rfl _ _ 54 rfl w.heap.size 3 i0 (.int .i64 0) 1 8 Tryz.underlying54 hi0 hz0 hz1 hz2 rfl (by decide) _ 0 _ rfl hown ad l.length c (l.map fun x => I x) rfl HNL.out hcl ho (by unfold maxLen; omega) (by omega) (by simp) ?_)
  intro v6 w6 ho6 hg6 _
  have hb6 : Below w.heap.size w w6 := ((Below.refl w.heap.size w).alloc (Nat.le_refl _) _).grown hg6 (by simp) (fun k e => by simp [Value.ownBlock] at e; omega)
  obtain ⟨a6,k6,rfl⟩ := qbc ho6
  have HO : Hid (w6.ownsRow w.heap.size 3 1 (.slice a6 l.length k6) l.length (l.map fun x => I x) ∧ Below w.heap.size w w6) := ⟨ho6,hb6⟩
  clear ho6 hg6 hown hcl ho hb6
  go_wp2
  go_ret
  exact ⟨⟨a6,l.length,k6⟩,rfl,HO.out.1,HO.out.2⟩
def mkA (c : Cf) (x : Al) : AlR := ⟨x.ctr,⟨x.ac.kind,x.ac.task,actM c x.ac⟩,bitN x.auto,x.time,x.cycle⟩
def mkS (c : Cf) (x : Ms) : MsR := ⟨x.kind,x.len,x.frm,x.init,x.queue,⟨x.ac.kind,x.ac.task,actM c x.ac⟩⟩
def mkK (x : Ct) : CtR := ⟨x.max,x.base,x.min⟩
theorem qvm (w : World) (c : Cf) (v : Vs) (h : CfAt w c v) (ok : MkOK c) : Calls Tryz.prog 89 #[.agg (cfC c v)] w fun e w' => (∃ a k,e = .returned (.slice a c.als.length k) ∧ RA w.heap.size w' (c.als.map (mkA c)) (.slice a c.als.length k)) ∧ Below w.heap.size w w' := by
 have hb := qa0 w (.cells (cfC c v) 47)
 have hV := heap_alloc_new w (.cells (cfC c v) 47)
 have q : (w.alloc (.cells (cfC c v) 47)).cell? ⟨w.heap.size,15,none⟩ = some (.slice v.a.a v.a.n v.a.c) := by rw [cell_of_row _ _ 15 _ _ (0,0) hV]; rfl
 have k1 := qex (w.alloc (.cells (cfC c v) 47)) v.a c.als (h.below hb).a ok.n.2.2.2.1 155 #[.pointer (some ⟨w.heap.size,0,none⟩)] (enters_of Tryz.func155 (by kernel_rfl) rfl) (mkA c) (fun W hW x hx s6 r6 => by
  have hbW := hb.trans (hW.mono hb.size)
  obtain ⟨l6,d6,d7⟩ := ok.a x hx
  exact qol W x s6 _ _ w.heap.size (cfC c v) rfl ((hW.block _ (qa1 hV)).trans hV)
   (fun W' hW' => qgb W' c v ((h.below hbW).below hW') x.ac d7)
   (fun W' hW' => (qlf W' s6 x.auto (r6.below hW' (fun _ _ _ _ h => h)) l6 d6).mono (fun e w' h => ⟨h.1,by rw [h.2]; exact Below.refl _ _⟩)))
 have HB : Hid _ := hb
 clear hV h hb
 generalize hCC : cfC c v = C at *
 clear hCC
 go_enter Tryz.func89,Tryz.ntmps89
 go_wp2_with (first | (go_at_call 154; refine k1.mono ?_; clear k1; rintro e w1 ⟨⟨a1,c1,xs,rfl,o1,x1⟩,b1⟩))
 go_ret
 refine ⟨⟨a1,c1,rfl,xs, ?_,x1⟩,HB.out.trans (b1.mono HB.out.size)⟩
 rw [List.length_map]
 exact qb2 o1 (by simp)
theorem qvn (w : World) (c : Cf) (v : Vs) (h : CfAt w c v) (ok : MkOK c) : Calls Tryz.prog 92 #[.agg (cfC c v)] w fun e w' => (∃ a k,e = .returned (.slice a c.msgs.length k) ∧ RM w.heap.size w' (c.msgs.map (mkS c)) (.slice a c.msgs.length k)) ∧ Below w.heap.size w w' := by
 have hb := qa0 w (.cells (cfC c v) 47)
 have hV := heap_alloc_new w (.cells (cfC c v) 47)
 have q : (w.alloc (.cells (cfC c v) 47)).cell? ⟨w.heap.size,17,none⟩ = some (.slice v.s.a v.s.n v.s.c) := by rw [cell_of_row _ _ 17 _ _ (0,0) hV]; rfl
 have k1 := qdr (w.alloc (.cells (cfC c v) 47)) v.s c.msgs (h.below hb).s ok.n.2.2.2.2.2 159 #[.pointer (some ⟨w.heap.size,0,none⟩)] (enters_of Tryz.func159 (by kernel_rfl) rfl) (mkS c) (fun W hW x hx => by
  have hbW := hb.trans (hW.mono hb.size)
  exact qlh W x _ w.heap.size (cfC c v) rfl ((hW.block _ (qa1 hV)).trans hV)
   (fun W' hW' => qgb W' c v ((h.below hbW).below hW') x.ac (ok.s x hx)))
 have HB : Hid _ := hb
 clear hV h hb
 generalize hCC : cfC c v = C at *
 clear hCC
 go_enter Tryz.func92,Tryz.ntmps92
 go_wp2_with (first | (go_at_call 158; refine k1.mono ?_; clear k1; rintro e w1 ⟨⟨a1,c1,xs,rfl,o1,x1⟩,b1⟩))
 go_ret
 refine ⟨⟨a1,c1,rfl,xs, ?_,x1⟩,HB.out.trans (b1.mono HB.out.size)⟩
 rw [List.length_map]
 exact qb2 o1 (by simp)
theorem qvo (w : World) (c : Cf) (v : Vs) (h : CfAt w c v) (ok : MkOK c) : Calls Tryz.prog 87 #[.slice v.k.a v.k.n v.k.c, .func (.func 88) #[] #[]] w fun e w' => (∃ a k,e = .returned (.slice a c.ctrs.length k) ∧ RK w.heap.size w' (c.ctrs.map mkK) (.slice a c.ctrs.length k)) ∧ Below w.heap.size w w' :=
 (qdq w v.k c.ctrs h.k ok.n.2.2.1 88 #[] (enters_of Tryz.func88 (by kernel_rfl) rfl) mkK (fun W hW x hx => qia W x)).mono (fun e w' h => by
  obtain ⟨⟨a1,c1,xs,h1,h2,h3⟩,hb⟩ := h
  exact ⟨⟨a1,c1,h1,xs,by rw [List.length_map]; exact h2,h3⟩,hb⟩)
def resF (c : Cf) : Nat → List Int → List RsR
 | _, [] => []
 | i,x :: r => ⟨innB c i,x⟩ :: resF c (i + 1) r
theorem qiq (c : Cf) : ∀ (l : List Int) (i : Nat) (x : Int),resF c i (l ++ [x]) = resF c i l ++ [⟨innB c ((i + l.length : Nat) : Int),x⟩]
 | [],i,x => by simp [resF]
 | y :: r,i,x => by
  simp only [List.cons_append,resF,qiq c r (i + 1) x,List.length_cons]
  rw [show i + 1 + r.length = i + (r.length + 1) by omega]
theorem qgs (c : Cf) : ∀ (l : List Int) (i : Nat),(resF c i l).length = l.length
 | [],_ => rfl
 | y :: r,i => by simp [resF,qgs c r (i + 1)]
def resL (c : Cf) (cl : List Int) (sch : Int) : List RsR := resF c 0 cl ++ (if c.o8 then [⟨false,sch⟩] else [])
theorem qun (w : World) (c : Cf) (v : Vs) (h : CfAt w c v) (ok : MkOK c) (E : Array Value) (lr : Sl) (cl : List Int) (sch : Int) (hE0 : E[0]? = some (.slice lr.a lr.n lr.c)) (hE1 : E[1]? = some (I sch)) (hcl : RowsAt w 1 intP lr cl) (hcn : cl.length = c.ress.length) :
  Calls Tryz.prog 86 #[.agg (cfC c v), .agg E] w fun e w' => (∃ a k,e = .returned (.slice a (resL c cl sch).length k) ∧ RR w.heap.size w' (resL c cl sch) (.slice a (resL c cl sch).length k)) ∧ Below w.heap.size w w' := by
 obtain ⟨im,him,hm0,hm1,hm2⟩ := info_parts qvk
 have hi18 : (Tryz.prog.info? 47).map (·.size) = some (cfC c v).size := by rw [show (cfC c v).size = 18 from rfl]; kernel_rfl
 have hb : Below w.heap.size w ((w.alloc (.cells (cfC c v) 47)).alloc (.cells E 82)) := (qa0 w _).trans ((qa0 _ _).mono (by simp))
 have hV1 : ((w.alloc (.cells (cfC c v) 47)).alloc (.cells E 82)).heap[w.heap.size]? = some (.cells (cfC c v) 47) := by
  rw [heap_alloc_old _ _ (by simp)]; exact heap_alloc_new w _
 have hV2 : ((w.alloc (.cells (cfC c v) 47)).alloc (.cells E 82)).heap[w.heap.size + 1]? = some (.cells E 82) := qda _ _ _
 have hrn : v.r.n = c.ress.length := h.r.n
 have hrl : v.r.n ≤ 1048576 := by have := ok.n.2.1; omega
 obtain ⟨w2,hmk,hO2,hg2⟩ := run_make_own (P := Tryz.prog) ((w.alloc (.cells (cfC c v) 47)).alloc (.cells E 82)) ((w.alloc (.cells (cfC c v) 47)).alloc (.cells E 82)).heap.size 24 60 im _ 2 Tryz.underlying24 him hm0 hm1 .i64 .i64 (v.r.n + 1) (by rw [hm2]; omega) (by unfold maxLen; omega) (Nat.le_refl _)
 have q12 : ((w.alloc (.cells (cfC c v) 47)).alloc (.cells E 82)).cell? ⟨w.heap.size,12,none⟩ = some (.slice v.r.a v.r.n v.r.c) := by rw [cell_of_row _ _ 12 _ _ (0,0) hV1]; rfl
 have b2 := qal hg2
 have HV : Hid (∀ W,Below ((w.alloc (.cells (cfC c v) 47)).alloc (.cells E 82)).heap.size ((w.alloc (.cells (cfC c v) 47)).alloc (.cells E 82)) W → W.heap[w.heap.size]? = some (.cells (cfC c v) 47) ∧ W.cell? ⟨w.heap.size,9,none⟩ = some (.bool c.o8) ∧ W.cell? ⟨w.heap.size + 1,0,none⟩ = some (.slice lr.a lr.n lr.c) ∧ W.cell? ⟨w.heap.size + 1,1,none⟩ = some (I sch)) := fun W hW => by
  have h3 := (hW.block _ (qa1 hV1)).trans hV1
  have h4 := (hW.block _ (qa1 hV2)).trans hV2
  exact ⟨h3,by rw [cell_of_row _ _ 9 _ _ (0,0) h3]; rfl,by rw [cell_of_row _ _ 0 _ _ (0,0) h4]; exact hE0,by rw [cell_of_row _ _ 1 _ _ (0,0) h4]; exact hE1⟩
 have HB : Hid (Below w.heap.size w ((w.alloc (.cells (cfC c v) 47)).alloc (.cells E 82))) := hb
 have HO : Hid (w2.ownsRow ((w.alloc (.cells (cfC c v) 47)).alloc (.cells E 82)).heap.size 60 2 (.slice (some ⟨((w.alloc (.cells (cfC c v) 47)).alloc (.cells E 82)).heap.size,0,none⟩) 0 (v.r.n + 1)) 0 [] ∧ Below ((w.alloc (.cells (cfC c v) 47)).alloc (.cells E 82)).heap.size ((w.alloc (.cells (cfC c v) 47)).alloc (.cells E 82)) w2) := ⟨hO2,b2⟩
 have HH : Hid (∀ W,Below w.heap.size w W → CfAt W c v ∧ RowsAt W 1 intP lr cl) := fun W hW => ⟨h.below hW,hcl.below hW (fun _ _ _ _ h => h)⟩
 have HS : Hid (lr.n = cl.length ∧ cl.length = c.ress.length) := ⟨hcl.n,hcn⟩
 have hln : lr.n ≤ 1048576 := by have := hcl.n; omega
 have hlc : lr.n ≤ lr.c := hcl.c
 have hlm : lr.c ≤ maxLen := hcl.m
 unfold maxLen at hlm
 rw [Int.natCast_add,Int.natCast_one] at hmk
 have HI : Hid (∀ W (k : Nat),Below w.heap.size w W → k < cl.length → Calls Tryz.prog 153 #[.agg (cfC c v),I k] W fun e w' => e = .returned (.bool (innB c k)) ∧ Below W.heap.size W w') := fun W k hW hk => qd9 W c v (h.below hW) k ⟨by omega,by omega⟩
 clear hO2 hg2 b2 hb hV1 hV2 h hcl hE0 hE1 hcn hrn ok
 generalize hCC : cfC c v = C at *
 clear hCC
 generalize hW : (w.alloc (.cells C 47)).alloc (.cells E 82) = W1 at *
 go_enter Tryz.func86,Tryz.ntmps86
 go_upto_region 1 with fail
 clear hW
 obtain ⟨-, -,q0, -⟩ := HV.out w2 HO.out.2
 go_wp2
 clear hmk
 go_loopw [5,6,7,16] (fun ov _ _ iv wr => ∃ (j : Nat) (a : Option Addr) (k : Nat),j ≤ lr.n ∧ iv = .int .i64 j ∧ ov = .slice a j k ∧ Hid (Below W1.heap.size W1 wr ∧ ∃ xs,wr.ownsRow W1.heap.size 60 2 (.slice a j k) j xs ∧ RwX 2 rsrP (resF c 0 (cl.take j)) xs)) (fun _ _ _ iv _ => lr.n - (intOf iv).toNat)
 case atStart => exact ⟨0,_,_,by omega,rfl,rfl,HO.out.2, [],HO.out.1,RwX.nil _ _⟩
 case round =>
  clear HO q0
  obtain ⟨j,a,k,hj,rfl,rfl,HJ⟩ := hrel
  obtain ⟨hVc,q9,q0,q1⟩ := HV.out wr HJ.out.1
  by_cases hlt : j < lr.n
  ·have hlt' : (j : Int) < lr.n := by omega
   have hlt2 : j < cl.length := by have := HS.out.1; omega
   obtain ⟨x,hx⟩ : ∃ x,cl[j]? = some x := ⟨_,List.getElem?_eq_getElem hlt2⟩
   have BW : Below w.heap.size w wr := HB.out.trans (HJ.out.1.mono HB.out.size)
   obtain ⟨g5,o5,e5,hg5,b5⟩ := qb9 (HH.out wr BW).2 hx
   have cx := HI.out wr j BW hlt2
   have HTk : Hid (resF c 0 (cl.take (j + 1)) = resF c 0 (cl.take j) ++ [⟨innB c (j : Int),x⟩]) := by
    show _ = _
    rw [List.take_add_one,hx]
    show resF c 0 (cl.take j ++ [x]) = _
    rw [qiq,List.length_take,show min j cl.length = j by omega,Nat.zero_add]
   rw [e5]
   generalize innB c (j : Int) = ib at *
   clear hx e5 hg5 BW hlt2
   go_wp2_with (first
    | (with_reducible refine qa8 ?_; refine wpList_load_row rfl 47 _ rfl w.heap.size rfl 47 _ (0,0) _ hVc Tryz.underlying47 rfl hi18 ?_)
    | (go_at_call 153; refine cx.mono ?_; clear cx; rintro e7 w7 ⟨rfl,hb7⟩; have B7 : Below W1.heap.size W1 w7 := HJ.out.1.trans (hb7.mono HJ.out.1.size); obtain ⟨xs,h1,h2⟩ := HJ.out.2; have o7 := qa6 h1 hb7; have HX7 : Hid (RwX 2 rsrP (resF c 0 (cl.take j)) xs) := h2; clear h1 h2 hb7 HJ; have s7 := B7.size; have hjl : j ≤ 1048576 := (by omega); have hnew := qb8 w7 #[.bool ib,I x] 60)
    | (at_builtin; refine wpList_append_own _ rfl (.tmp 21) (.tmp 27) 24 rfl W1.heap.size 60 im _ 2 16 Tryz.underlying24 him hm0 hm1 hm2 rfl (by decide) _ _ _ rfl (o7.alloc _) ⟨w7.heap.size,0,none⟩ 1 1 (#[.bool ib,I x] : Array Value).toList rfl rfl hnew (by intro u hu; simp at hu; rcases hu with e | e <;> (subst e; rfl)) (by unfold maxLen; omega) (by omega) (by simp; omega) ?_))
   intro v8 w8 o8 g8 _
   obtain ⟨a8,k8,rfl⟩ := qbc o8
   have H9 : Hid (Below W1.heap.size W1 w8 ∧ ∃ xs,w8.ownsRow W1.heap.size 60 2 (.slice a8 (j + 1) k8) (j + 1) xs ∧ RwX 2 rsrP (resF c 0 (cl.take (j + 1))) xs) := by
    refine ⟨(B7.alloc B7.size _).grown g8 (by simp; omega) (fun k e => (o7.lt k e).1),_,o8, ?_⟩
    rw [HTk.out]
    refine HX7.out.snoc _ _ rfl (fun i hi => ?_)
    rcases (by omega : i = 0 ∨ i = 1) with rfl | rfl
    ·exact ⟨_,rfl,rfl⟩
    ·exact ⟨_,rfl,rfl⟩
   clear o8 g8 o7 B7 hnew HX7 HTk
   go_wp2
   go_roundw
   case rel => exact ⟨j + 1,a8,k8,by omega,by go_num,rfl,H9.out⟩
   case measure => simp [intOf]; omega
  ·obtain rfl : j = lr.n := by omega
   have hlt' : ¬ ((lr.n : Nat) : Int) < (lr.n : Nat) := by omega
   have HE : Hid (Below W1.heap.size W1 wr ∧ ∃ xs,wr.ownsRow W1.heap.size 60 2 (.slice a lr.n k) lr.n xs ∧ RwX 2 rsrP (resF c 0 cl) xs) := by
    have := HJ.out
    rwa [List.take_of_length_le (by have := HS.out.1; omega)] at this
   have HLn : Hid ((resF c 0 cl).length = lr.n) := by show _ = _; rw [qgs,HS.out.1]
   clear HJ
   cases ho : c.o8 with
   | false =>
    have HR : Hid (resL c cl sch = resF c 0 cl) := by show _ = _; unfold resL; rw [ho]; simp
    rw [ho] at q9
    clear ho
    go_wp2
    go_ret
    rw [HR.out,HLn.out]
    obtain ⟨h1,xs,h2,h3⟩ := HE.out
    exact ⟨⟨a,k,rfl,xs,by rw [HLn.out]; exact qb2 h2 HB.out.size,h3⟩,HB.out.trans (h1.mono HB.out.size)⟩
   | true =>
    have HR : Hid (resL c cl sch = resF c 0 cl ++ [⟨false,sch⟩]) := by show _ = _; unfold resL; rw [ho]; simp
    rw [ho] at q9
    obtain ⟨h1,xs,h2,h3⟩ := HE.out
    have HX7 : Hid (RwX 2 rsrP (resF c 0 cl) xs) := h3
    have s7 := h1.size
    have hnew := qb8 wr #[.bool false,I sch] 60
    have o7 := h2
    have B7 : Hid (Below W1.heap.size W1 wr) := h1
    clear ho h1 h2 h3 HE
    go_wp2_with (first
     | (at_builtin; refine wpList_append_own _ rfl (.tmp 33) (.tmp 37) 24 rfl W1.heap.size 60 im _ 2 16 Tryz.underlying24 him hm0 hm1 hm2 rfl (by decide) _ _ _ rfl (o7.alloc _) ⟨wr.heap.size,0,none⟩ 1 1 (#[.bool false,I sch] : Array Value).toList rfl rfl hnew (by intro u hu; simp at hu; rcases hu with e | e <;> (subst e; rfl)) (by unfold maxLen; omega) (by omega) (by simp; omega) ?_))
    intro v8 w8 o8 g8 _
    obtain ⟨a8,k8,rfl⟩ := qbc o8
    have H9 : Hid (Below W1.heap.size W1 w8 ∧ ∃ xs,w8.ownsRow W1.heap.size 60 2 (.slice a8 (lr.n + 1) k8) (lr.n + 1) xs ∧ RwX 2 rsrP (resF c 0 cl ++ [⟨false,sch⟩]) xs) := by
     refine ⟨(B7.out.alloc B7.out.size _).grown g8 (by simp; omega) (fun k e => (o7.lt k e).1),_,o8, ?_⟩
     refine HX7.out.snoc _ _ rfl (fun i hi => ?_)
     rcases (by omega : i = 0 ∨ i = 1) with rfl | rfl
     ·exact ⟨_,rfl,rfl⟩
     ·exact ⟨_,rfl,rfl⟩
    clear o8 g8 o7 hnew HX7
    go_wp2
    go_ret
    have hl9 : (resF c 0 cl ++ [(⟨false,sch⟩ : RsR)]).length = lr.n + 1 := by rw [List.length_append,HLn.out]; rfl
    rw [HR.out,hl9]
    obtain ⟨h1,xs,h2,h3⟩ := H9.out
    exact ⟨⟨a8,k8,rfl,xs,by rw [hl9]; exact qb2 h2 HB.out.size,h3⟩,HB.out.trans (h1.mono HB.out.size)⟩
def mkI (x : Is) : IsR := ⟨x.cat,x.prio,x.res⟩
end Go.Proofs.YtmidaeljeoifdaaGreatDoor
