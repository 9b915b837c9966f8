import Derived.Test.YtmidaeljeoifdaaGreatDoorTih
import Derived.Deep.RegionHeld3
import Derived.Deep.WholeRow
namespace Go.Proofs.YtmidaeljeoifdaaGreatDoor
set_option maxRecDepth 100000
set_option maxHeartbeats 16000000
open Go.RowKit Go.Shelf Go.Sort Go.Maps
set_option linter.unusedVariables false
set_option linter.unusedSimpArgs false
theorem alarm1_any (w : World) (x : Al) (s6 : Sl) (vm vb : Int) (BC : Nat) (C : Array Value) (hC : C.size = 18) (hBC : w.heap[BC]? = some (.cells C 47))
  (k1 : ∀ W, Below w.heap.size w W → Calls Tryz.prog 156 #[.agg C, .agg #[I x.ac.kind, I x.ac.task, I x.ac.event, S x.ac.name]] W fun e w' => e = .returned (.agg #[I x.ac.kind, I x.ac.task, .int .u32 vm]) ∧ Below W.heap.size W w')
  (k2 : ∀ W, Below w.heap.size w W → Calls Tryz.prog 152 #[.slice s6.a s6.n s6.c] W fun e w' => e = .returned (.int .u32 vb) ∧ Below W.heap.size W w') :
  Calls Tryz.prog 155 (#[.agg #[S x.name, I x.ctr, I x.ac.kind, I x.ac.task, I x.ac.event, S x.ac.name, .slice s6.a s6.n s6.c, .int .u32 (x.time : Int), .int .u32 (x.cycle : Int)]] ++ #[.pointer (some ⟨BC, 0, none⟩)]) w fun e w' => e = .returned (.agg #[I x.ctr, I x.ac.kind, I x.ac.task, .int .u32 vm, .int .u32 vb, .int .u32 (x.time : Int), .int .u32 (x.cycle : Int)]) ∧ Below w.heap.size w w' := by
 have hi18 : (Tryz.prog.info? 47).map (·.size) = some C.size := by rw [hC]; kernel_rfl
 have B0 : Below w.heap.size w ((w.alloc (.cells #[S x.name, I x.ctr, I x.ac.kind, I x.ac.task, I x.ac.event, S x.ac.name, .slice s6.a s6.n s6.c, .int .u32 (x.time : Int), .int .u32 (x.cycle : Int)] 66)).alloc (.cells #[I 0, I 0, I 0, .int .u32 0, .int .u32 0, .int .u32 0, .int .u32 0] 95)) := (below_alloc w _).trans ((below_alloc _ _).mono (by simp))
 have hX : ((w.alloc (.cells #[S x.name, I x.ctr, I x.ac.kind, I x.ac.task, I x.ac.event, S x.ac.name, .slice s6.a s6.n s6.c, .int .u32 (x.time : Int), .int .u32 (x.cycle : Int)] 66)).alloc (.cells #[I 0, I 0, I 0, .int .u32 0, .int .u32 0, .int .u32 0, .int .u32 0] 95)).heap[w.heap.size]? = some (.cells #[S x.name, I x.ctr, I x.ac.kind, I x.ac.task, I x.ac.event, S x.ac.name, .slice s6.a s6.n s6.c, .int .u32 (x.time : Int), .int .u32 (x.cycle : Int)] 66) := by
  rw [heap_alloc_old _ _ (by simp)]; exact heap_alloc_new w _
 have hY : ((w.alloc (.cells #[S x.name, I x.ctr, I x.ac.kind, I x.ac.task, I x.ac.event, S x.ac.name, .slice s6.a s6.n s6.c, .int .u32 (x.time : Int), .int .u32 (x.cycle : Int)] 66)).alloc (.cells #[I 0, I 0, I 0, .int .u32 0, .int .u32 0, .int .u32 0, .int .u32 0] 95)).heap[w.heap.size + 1]? = some (.cells #[I 0, I 0, I 0, .int .u32 0, .int .u32 0, .int .u32 0, .int .u32 0] 95) := heap_n2 _ _ _
 have HK : Hid (w.heap[BC]? = some (.cells C 47)) := hBC
 clear hBC
 go_enter Tryz.func155, Tryz.ntmps155
 go_upto_region 1 with fail
 have HY : Hid _ := hY
 clear hY
 generalize hW : ((w.alloc (.cells #[S x.name, I x.ctr, I x.ac.kind, I x.ac.task, I x.ac.event, S x.ac.name, .slice s6.a s6.n s6.c, .int .u32 (x.time : Int), .int .u32 (x.cycle : Int)] 66)).alloc (.cells #[I 0, I 0, I 0, .int .u32 0, .int .u32 0, .int .u32 0, .int .u32 0] 95)) = W0 at *
 clear hW
 have HS : Hid (∀ W, Below W0.heap.size W0 W → W.cell? ⟨w.heap.size, 1, none⟩ = some (I x.ctr) ∧ W.cell? ⟨w.heap.size, 2, none⟩ = some (I x.ac.kind) ∧ W.cell? ⟨w.heap.size, 3, none⟩ = some (I x.ac.task) ∧ W.cell? ⟨w.heap.size, 4, none⟩ = some (I x.ac.event) ∧ W.cell? ⟨w.heap.size, 5, none⟩ = some (S x.ac.name) ∧ W.cell? ⟨w.heap.size, 6, none⟩ = some (.slice s6.a s6.n s6.c) ∧ W.cell? ⟨w.heap.size, 7, none⟩ = some (.int .u32 (x.time : Int)) ∧ W.cell? ⟨w.heap.size, 8, none⟩ = some (.int .u32 (x.cycle : Int)) ∧ W.heap[BC]? = some (.cells C 47 (0, 0))) := fun W hW => by
  have h1 := (hW.block _ (heap_lt hX)).trans hX
  have hb := B0.trans (hW.mono B0.size)
  exact ⟨by rw [cell_of_row W _ 1 _ _ (0, 0) h1]; rfl, by rw [cell_of_row W _ 2 _ _ (0, 0) h1]; rfl, by rw [cell_of_row W _ 3 _ _ (0, 0) h1]; rfl, by rw [cell_of_row W _ 4 _ _ (0, 0) h1]; rfl, by rw [cell_of_row W _ 5 _ _ (0, 0) h1]; rfl, by rw [cell_of_row W _ 6 _ _ (0, 0) h1]; rfl, by rw [cell_of_row W _ 7 _ _ (0, 0) h1]; rfl, by rw [cell_of_row W _ 8 _ _ (0, 0) h1]; rfl, (hb.block _ (heap_lt HK.out)).trans HK.out⟩
 have HB : Hid (∀ W, Below W0.heap.size W0 W → Below w.heap.size w W) := fun W hW => B0.trans (hW.mono B0.size)
 have B1 : Below W0.heap.size W0 W0.drew := (Below.refl _ _).drew
 refine wp_region_held_drew (S := fun W' => W'.cell? ⟨w.heap.size, 1, none⟩ = some (I x.ctr) ∧ W'.cell? ⟨w.heap.size, 2, none⟩ = some (I x.ac.kind) ∧ W'.cell? ⟨w.heap.size, 3, none⟩ = some (I x.ac.task) ∧ W'.cell? ⟨w.heap.size, 4, none⟩ = some (I x.ac.event) ∧ W'.cell? ⟨w.heap.size, 5, none⟩ = some (S x.ac.name) ∧ W'.cell? ⟨w.heap.size, 6, none⟩ = some (.slice s6.a s6.n s6.c) ∧ W'.cell? ⟨w.heap.size, 7, none⟩ = some (.int .u32 (x.time : Int)) ∧ W'.cell? ⟨w.heap.size, 8, none⟩ = some (.int .u32 (x.cycle : Int)) ∧ W'.heap[BC]? = some (.cells C 47 (0, 0))) (by kernel_rfl) (HS.out _ B1) (fun hHeld => ?_)
 refine wpAnyH_take (i := 0) (v := ?_) rfl (by kernel_rfl) (by kernel_rfl) (by kernel_rfl) (fun _ _ _ h => h) (Or.inl ⟨by rfl, ?_⟩) hHeld ?_
 rotate_left
 ·intro w' hSw
  obtain ⟨y1, y2, y3, y4, y5, y6, y7, y8, _⟩ := hSw
  go_simp
  try with_reducible rfl
 try simp only [Act.put, List.getElem_toArray, List.getElem_cons_succ, List.getElem_cons_zero, List.setIfInBounds_toArray, List.set_cons_zero, List.set_cons_succ]
 refine wpAnyH_take (i := 1) (v := ?_) rfl (by kernel_rfl) (by kernel_rfl) (by kernel_rfl) (fun _ _ _ h => h) (Or.inl ⟨by rfl, ?_⟩) hHeld ?_
 rotate_left
 ·intro w' hSw
  obtain ⟨y1, y2, y3, y4, y5, y6, y7, y8, _⟩ := hSw
  go_simp
  try with_reducible rfl
 try simp only [Act.put, List.getElem_toArray, List.getElem_cons_succ, List.getElem_cons_zero, List.setIfInBounds_toArray, List.set_cons_zero, List.set_cons_succ]
 refine wpAnyH_take (i := 2) (v := .agg C) rfl (by kernel_rfl) (by kernel_rfl) (by kernel_rfl) (fun _ _ _ h => h) (Ce.yieldsIf_load_row (by rfl) 47 _ rfl BC rfl 47 C (0, 0) _ (fun _ hw => hw.2.2.2.2.2.2.2.2) Tryz.underlying47 rfl hi18) hHeld ?_
 try simp only [Act.put, List.getElem_toArray, List.getElem_cons_succ, List.getElem_cons_zero, List.setIfInBounds_toArray, List.set_cons_zero, List.set_cons_succ]
 refine wpAnyH_take (i := 3) (v := ?_) rfl (by kernel_rfl) (by kernel_rfl) (by kernel_rfl) (fun _ _ _ h => h) (Or.inl ⟨by rfl, ?_⟩) hHeld ?_
 rotate_left
 ·intro w' hSw
  obtain ⟨y1, y2, y3, y4, y5, y6, y7, y8, _⟩ := hSw
  go_simp
  try with_reducible rfl
 try simp only [Act.put, List.getElem_toArray, List.getElem_cons_succ, List.getElem_cons_zero, List.setIfInBounds_toArray, List.set_cons_zero, List.set_cons_succ]
 refine wpAnyH_take (i := 4) (v := ?_) rfl (by kernel_rfl) (by kernel_rfl) (by kernel_rfl) (fun _ _ _ h => h) (Or.inl ⟨by rfl, ?_⟩) hHeld ?_
 rotate_left
 ·intro w' hSw
  obtain ⟨y1, y2, y3, y4, y5, y6, y7, y8, _⟩ := hSw
  go_simp
  try with_reducible rfl
 try simp only [Act.put, List.getElem_toArray, List.getElem_cons_succ, List.getElem_cons_zero, List.setIfInBounds_toArray, List.set_cons_zero, List.set_cons_succ]
 refine wpAnyH_take (i := 6) (v := ?_) rfl (by kernel_rfl) (by kernel_rfl) (by kernel_rfl) (fun _ _ _ h => h) (Or.inl ⟨by rfl, ?_⟩) hHeld ?_
 rotate_left
 ·intro w' hSw
  obtain ⟨y1, y2, y3, y4, y5, y6, y7, y8, _⟩ := hSw
  go_simp
  try with_reducible rfl
 try simp only [Act.put, List.getElem_toArray, List.getElem_cons_succ, List.getElem_cons_zero, List.setIfInBounds_toArray, List.set_cons_zero, List.set_cons_succ]
 refine wpAnyH_take (i := 7) (v := ?_) rfl (by kernel_rfl) (by kernel_rfl) (by kernel_rfl) (fun _ _ _ h => h) (Or.inl ⟨by rfl, ?_⟩) hHeld ?_
 rotate_left
 ·intro w' hSw
  obtain ⟨y1, y2, y3, y4, y5, y6, y7, y8, _⟩ := hSw
  go_simp
  try with_reducible rfl
 try simp only [Act.put, List.getElem_toArray, List.getElem_cons_succ, List.getElem_cons_zero, List.setIfInBounds_toArray, List.set_cons_zero, List.set_cons_succ]
 refine wpAnyH_take (i := 9) (v := ?_) rfl (by kernel_rfl) (by kernel_rfl) (by kernel_rfl) (fun _ _ _ h => h) (Or.inl ⟨by rfl, ?_⟩) hHeld ?_
 rotate_left
 ·intro w' hSw
  obtain ⟨y1, y2, y3, y4, y5, y6, y7, y8, _⟩ := hSw
  go_simp
  try with_reducible rfl
 try simp only [Act.put, List.getElem_toArray, List.getElem_cons_succ, List.getElem_cons_zero, List.setIfInBounds_toArray, List.set_cons_zero, List.set_cons_succ]
 refine wpAnyH_take (i := 10) (v := ?_) rfl (by kernel_rfl) (by kernel_rfl) (by kernel_rfl) (fun _ _ _ h => h) (Or.inl ⟨by rfl, ?_⟩) hHeld ?_
 rotate_left
 ·intro w' hSw
  obtain ⟨y1, y2, y3, y4, y5, y6, y7, y8, _⟩ := hSw
  go_simp
  try with_reducible rfl
 try simp only [Act.put, List.getElem_toArray, List.getElem_cons_succ, List.getElem_cons_zero, List.setIfInBounds_toArray, List.set_cons_zero, List.set_cons_succ]
 refine wpAnyH_take (i := 11) (v := ?_) rfl (by kernel_rfl) (by kernel_rfl) (by kernel_rfl) (fun _ _ _ h => h) (Or.inl ⟨by rfl, ?_⟩) hHeld ?_
 rotate_left
 ·intro w' hSw
  obtain ⟨y1, y2, y3, y4, y5, y6, y7, y8, _⟩ := hSw
  go_simp
  try with_reducible rfl
 try simp only [Act.put, List.getElem_toArray, List.getElem_cons_succ, List.getElem_cons_zero, List.setIfInBounds_toArray, List.set_cons_zero, List.set_cons_succ]
 refine wpAnyH_take (i := 12) (v := ?_) rfl (by kernel_rfl) (by kernel_rfl) (by kernel_rfl) (fun _ _ _ h => h) (Or.inl ⟨by rfl, ?_⟩) hHeld ?_
 rotate_left
 ·intro w' hSw
  obtain ⟨y1, y2, y3, y4, y5, y6, y7, y8, _⟩ := hSw
  go_simp
  try with_reducible rfl
 try simp only [Act.put, List.getElem_toArray, List.getElem_cons_succ, List.getElem_cons_zero, List.setIfInBounds_toArray, List.set_cons_zero, List.set_cons_succ]
 refine wpAnyH_ready (rs := [5]) (by kernel_rfl) (by simp) ?_
 refine AllReadyH.cons rfl (fun K hK => ?_) AllReadyH.nil
 go_simp
 go_wp2_with (go_at_call 156; refine (k1 _ (HB.out _ B1)).mono ?_; rintro e w2 ⟨rfl, b2⟩)
 have B2 : Below W0.heap.size W0 w2 := B1.trans (b2.mono B1.size)
 refine hK.out _ _ (HS.out _ B2) (fun hHeld => ?_)
 clear hK K
 try simp only [Act.put, List.getElem_toArray, List.getElem_cons_succ, List.getElem_cons_zero, List.setIfInBounds_toArray, List.set_cons_zero, List.set_cons_succ]
 refine wpAnyH_ready (rs := [8]) (by kernel_rfl) (by simp) ?_
 refine AllReadyH.cons rfl (fun K hK => ?_) AllReadyH.nil
 go_simp
 go_wp2_with (go_at_call 152; refine (k2 _ (HB.out _ B2)).mono ?_; rintro e w3 ⟨rfl, b3⟩)
 have B3 : Below W0.heap.size W0 w3 := B2.trans (b3.mono B2.size)
 refine hK.out _ _ (HS.out _ B3) (fun hHeld => ?_)
 clear hK K
 try simp only [Act.put, List.getElem_toArray, List.getElem_cons_succ, List.getElem_cons_zero, List.setIfInBounds_toArray, List.set_cons_zero, List.set_cons_succ]
 refine wpAnyH_take (i := 13) (v := ?_) rfl (by kernel_rfl) (by kernel_rfl) (by kernel_rfl) (fun _ _ _ h => h) (Or.inl ⟨by rfl, ?_⟩) hHeld ?_
 rotate_left
 ·intro w' hSw
  obtain ⟨y1, y2, y3, y4, y5, y6, y7, y8, _⟩ := hSw
  go_simp
  try with_reducible rfl
 try simp only [Act.put, List.getElem_toArray, List.getElem_cons_succ, List.getElem_cons_zero, List.setIfInBounds_toArray, List.set_cons_zero, List.set_cons_succ]
 have Y6 := (B3.block _ (heap_lt HY.out)).trans HY.out
 have hi8 : (Tryz.prog.info? 95).map (·.size) = some (#[I x.ctr, I x.ac.kind, I x.ac.task, .int .u32 vm, .int .u32 vb, .int .u32 (x.time : Int), .int .u32 (x.cycle : Int)] : Array Value).size := by kernel_rfl
 have g7 : w3.grownBy (w3.setRow (w.heap.size + 1) #[I x.ctr, I x.ac.kind, I x.ac.task, .int .u32 vm, .int .u32 vb, .int .u32 (x.time : Int), .int .u32 (x.cycle : Int)]) (some (w.heap.size + 1)) := Ce.grown_row _ _ _
 have B7 : Below w.heap.size w (w3.setRow (w.heap.size + 1) #[I x.ctr, I x.ac.kind, I x.ac.task, .int .u32 vm, .int .u32 vb, .int .u32 (x.time : Int), .int .u32 (x.cycle : Int)]) := (HB.out _ B3).grown g7 (HB.out _ B3).size (fun k e => by cases e; omega)
 have Y7 : (w3.setRow (w.heap.size + 1) #[I x.ctr, I x.ac.kind, I x.ac.task, .int .u32 vm, .int .u32 vb, .int .u32 (x.time : Int), .int .u32 (x.cycle : Int)]).heap[w.heap.size + 1]? = some (.cells #[I x.ctr, I x.ac.kind, I x.ac.task, .int .u32 vm, .int .u32 vb, .int .u32 (x.time : Int), .int .u32 (x.cycle : Int)] 95 (0, 0)) := setRow_heap _ _ _ _ _ _ Y6
 refine wpAnyH_ready (rs := [14]) (by kernel_rfl) (by simp) ?_
 refine AllReadyH.cons rfl (fun K hK => ?_) AllReadyH.nil
 rw [if_pos (by kernel_rfl)]
 refine wp_store_row 95 _ _ rfl (w.heap.size + 1) _ rfl rfl 95 _ Y6 hi8 rfl (by simp [Value.oneCell']) ?_
 have hS7 := HS.out _ B3
 have hlt6 : w.heap.size < w3.heap.size := by have := heap_lt Y6; omega
 have q : ∀ b, b ≠ w.heap.size + 1 → b < w3.heap.size → ∀ i, (w3.setRow (w.heap.size + 1) #[I x.ctr, I x.ac.kind, I x.ac.task, .int .u32 vm, .int .u32 vb, .int .u32 (x.time : Int), .int .u32 (x.cycle : Int)]).cell? ⟨b, i, none⟩ = w3.cell? ⟨b, i, none⟩ := fun b hb hl i => World.cell?_of_block (grown_blk9 g7 hl (fun e => hb (Option.some.inj e)))
 have q2 : ∀ b, b ≠ w.heap.size + 1 → b < w3.heap.size → (w3.setRow (w.heap.size + 1) #[I x.ctr, I x.ac.kind, I x.ac.task, .int .u32 vm, .int .u32 vb, .int .u32 (x.time : Int), .int .u32 (x.cycle : Int)]).heap[b]? = w3.heap[b]? := fun b hb hl => grown_blk9 g7 hl (fun e => hb (Option.some.inj e))
 have l2 := heap_lt HK.out
 have ls := (HB.out _ B3).size
 refine hK.out _ _ ⟨by rw [q _ (by omega) hlt6]; exact hS7.1, by rw [q _ (by omega) hlt6]; exact hS7.2.1, by rw [q _ (by omega) hlt6]; exact hS7.2.2.1, by rw [q _ (by omega) hlt6]; exact hS7.2.2.2.1, by rw [q _ (by omega) hlt6]; exact hS7.2.2.2.2.1, by rw [q _ (by omega) hlt6]; exact hS7.2.2.2.2.2.1, by rw [q _ (by omega) hlt6]; exact hS7.2.2.2.2.2.2.1, by rw [q _ (by omega) hlt6]; exact hS7.2.2.2.2.2.2.2.1, by rw [q2 _ (by omega) (by omega)]; exact hS7.2.2.2.2.2.2.2.2⟩ (fun hHeld => ?_)
 clear hK K q q2
 refine wpAnyH_done (by kernel_rfl) ?_ _
 go_wp2_with fail
 refine bodyPost_ret (v := .agg #[I x.ctr, I x.ac.kind, I x.ac.task, .int .u32 vm, .int .u32 vb, .int .u32 (x.time : Int), .int .u32 (x.cycle : Int)]) (results_cell_row Tryz.results155 _ _ (w.heap.size + 1) 95 _ (0, 0) _ rfl Y7 Tryz.underlying95 rfl hi8) rfl ?_
 exact ⟨rfl, B7⟩
theorem message1_any (w : World) (x : Ms) (vm : Int) (BC : Nat) (C : Array Value) (hC : C.size = 18) (hBC : w.heap[BC]? = some (.cells C 47))
  (k1 : ∀ W, Below w.heap.size w W → Calls Tryz.prog 156 #[.agg C, .agg #[I x.ac.kind, I x.ac.task, I x.ac.event, S x.ac.name]] W fun e w' => e = .returned (.agg #[I x.ac.kind, I x.ac.task, .int .u32 vm]) ∧ Below W.heap.size W w') :
  Calls Tryz.prog 159 (#[.agg #[S x.name, I x.kind, I x.len, I x.frm, .int .u64 (x.init : Int), I x.queue, I x.ac.kind, I x.ac.task, I x.ac.event, S x.ac.name]] ++ #[.pointer (some ⟨BC, 0, none⟩)]) w fun e w' => e = .returned (.agg #[I x.kind, I x.len, I x.frm, .int .u64 (x.init : Int), I x.queue, I x.ac.kind, I x.ac.task, .int .u32 vm]) ∧ Below w.heap.size w w' := by
 have hi18 : (Tryz.prog.info? 47).map (·.size) = some C.size := by rw [hC]; kernel_rfl
 have B0 : Below w.heap.size w ((w.alloc (.cells #[S x.name, I x.kind, I x.len, I x.frm, .int .u64 (x.init : Int), I x.queue, I x.ac.kind, I x.ac.task, I x.ac.event, S x.ac.name] 114)).alloc (.cells #[I 0, I 0, I 0, .int .u64 0, I 0, I 0, I 0, .int .u32 0] 99)) := (below_alloc w _).trans ((below_alloc _ _).mono (by simp))
 have hX : ((w.alloc (.cells #[S x.name, I x.kind, I x.len, I x.frm, .int .u64 (x.init : Int), I x.queue, I x.ac.kind, I x.ac.task, I x.ac.event, S x.ac.name] 114)).alloc (.cells #[I 0, I 0, I 0, .int .u64 0, I 0, I 0, I 0, .int .u32 0] 99)).heap[w.heap.size]? = some (.cells #[S x.name, I x.kind, I x.len, I x.frm, .int .u64 (x.init : Int), I x.queue, I x.ac.kind, I x.ac.task, I x.ac.event, S x.ac.name] 114) := by
  rw [heap_alloc_old _ _ (by simp)]; exact heap_alloc_new w _
 have hY : ((w.alloc (.cells #[S x.name, I x.kind, I x.len, I x.frm, .int .u64 (x.init : Int), I x.queue, I x.ac.kind, I x.ac.task, I x.ac.event, S x.ac.name] 114)).alloc (.cells #[I 0, I 0, I 0, .int .u64 0, I 0, I 0, I 0, .int .u32 0] 99)).heap[w.heap.size + 1]? = some (.cells #[I 0, I 0, I 0, .int .u64 0, I 0, I 0, I 0, .int .u32 0] 99) := heap_n2 _ _ _
 have HK : Hid (w.heap[BC]? = some (.cells C 47)) := hBC
 clear hBC
 go_enter Tryz.func159, Tryz.ntmps159
 go_upto_region 1 with fail
 have HY : Hid _ := hY
 clear hY
 generalize hW : ((w.alloc (.cells #[S x.name, I x.kind, I x.len, I x.frm, .int .u64 (x.init : Int), I x.queue, I x.ac.kind, I x.ac.task, I x.ac.event, S x.ac.name] 114)).alloc (.cells #[I 0, I 0, I 0, .int .u64 0, I 0, I 0, I 0, .int .u32 0] 99)) = W0 at *
 clear hW
 have HS : Hid (∀ W, Below W0.heap.size W0 W → W.cell? ⟨w.heap.size, 1, none⟩ = some (I x.kind) ∧ W.cell? ⟨w.heap.size, 2, none⟩ = some (I x.len) ∧ W.cell? ⟨w.heap.size, 3, none⟩ = some (I x.frm) ∧ W.cell? ⟨w.heap.size, 4, none⟩ = some (.int .u64 (x.init : Int)) ∧ W.cell? ⟨w.heap.size, 5, none⟩ = some (I x.queue) ∧ W.cell? ⟨w.heap.size, 6, none⟩ = some (I x.ac.kind) ∧ W.cell? ⟨w.heap.size, 7, none⟩ = some (I x.ac.task) ∧ W.cell? ⟨w.heap.size, 8, none⟩ = some (I x.ac.event) ∧ W.cell? ⟨w.heap.size, 9, none⟩ = some (S x.ac.name) ∧ W.heap[BC]? = some (.cells C 47 (0, 0))) := fun W hW => by
  have h1 := (hW.block _ (heap_lt hX)).trans hX
  have hb := B0.trans (hW.mono B0.size)
  exact ⟨by rw [cell_of_row W _ 1 _ _ (0, 0) h1]; rfl, by rw [cell_of_row W _ 2 _ _ (0, 0) h1]; rfl, by rw [cell_of_row W _ 3 _ _ (0, 0) h1]; rfl, by rw [cell_of_row W _ 4 _ _ (0, 0) h1]; rfl, by rw [cell_of_row W _ 5 _ _ (0, 0) h1]; rfl, by rw [cell_of_row W _ 6 _ _ (0, 0) h1]; rfl, by rw [cell_of_row W _ 7 _ _ (0, 0) h1]; rfl, by rw [cell_of_row W _ 8 _ _ (0, 0) h1]; rfl, by rw [cell_of_row W _ 9 _ _ (0, 0) h1]; rfl, (hb.block _ (heap_lt HK.out)).trans HK.out⟩
 have HB : Hid (∀ W, Below W0.heap.size W0 W → Below w.heap.size w W) := fun W hW => B0.trans (hW.mono B0.size)
 have B1 : Below W0.heap.size W0 W0.drew := (Below.refl _ _).drew
 refine wp_region_held_drew (S := fun W' => W'.cell? ⟨w.heap.size, 1, none⟩ = some (I x.kind) ∧ W'.cell? ⟨w.heap.size, 2, none⟩ = some (I x.len) ∧ W'.cell? ⟨w.heap.size, 3, none⟩ = some (I x.frm) ∧ W'.cell? ⟨w.heap.size, 4, none⟩ = some (.int .u64 (x.init : Int)) ∧ W'.cell? ⟨w.heap.size, 5, none⟩ = some (I x.queue) ∧ W'.cell? ⟨w.heap.size, 6, none⟩ = some (I x.ac.kind) ∧ W'.cell? ⟨w.heap.size, 7, none⟩ = some (I x.ac.task) ∧ W'.cell? ⟨w.heap.size, 8, none⟩ = some (I x.ac.event) ∧ W'.cell? ⟨w.heap.size, 9, none⟩ = some (S x.ac.name) ∧ W'.heap[BC]? = some (.cells C 47 (0, 0))) (by kernel_rfl) (HS.out _ B1) (fun hHeld => ?_)
 refine wpAnyH_take (i := 0) (v := ?_) rfl (by kernel_rfl) (by kernel_rfl) (by kernel_rfl) (fun _ _ _ h => h) (Or.inl ⟨by rfl, ?_⟩) hHeld ?_
 rotate_left
 ·intro w' hSw
  obtain ⟨y1, y2, y3, y4, y5, y6, y7, y8, y9, _⟩ := hSw
  go_simp
  try with_reducible rfl
 try simp only [Act.put, List.getElem_toArray, List.getElem_cons_succ, List.getElem_cons_zero, List.setIfInBounds_toArray, List.set_cons_zero, List.set_cons_succ]
 refine wpAnyH_take (i := 1) (v := ?_) rfl (by kernel_rfl) (by kernel_rfl) (by kernel_rfl) (fun _ _ _ h => h) (Or.inl ⟨by rfl, ?_⟩) hHeld ?_
 rotate_left
 ·intro w' hSw
  obtain ⟨y1, y2, y3, y4, y5, y6, y7, y8, y9, _⟩ := hSw
  go_simp
  try with_reducible rfl
 try simp only [Act.put, List.getElem_toArray, List.getElem_cons_succ, List.getElem_cons_zero, List.setIfInBounds_toArray, List.set_cons_zero, List.set_cons_succ]
 refine wpAnyH_take (i := 2) (v := ?_) rfl (by kernel_rfl) (by kernel_rfl) (by kernel_rfl) (fun _ _ _ h => h) (Or.inl ⟨by rfl, ?_⟩) hHeld ?_
 rotate_left
 ·intro w' hSw
  obtain ⟨y1, y2, y3, y4, y5, y6, y7, y8, y9, _⟩ := hSw
  go_simp
  try with_reducible rfl
 try simp only [Act.put, List.getElem_toArray, List.getElem_cons_succ, List.getElem_cons_zero, List.setIfInBounds_toArray, List.set_cons_zero, List.set_cons_succ]
 refine wpAnyH_take (i := 3) (v := ?_) rfl (by kernel_rfl) (by kernel_rfl) (by kernel_rfl) (fun _ _ _ h => h) (Or.inl ⟨by rfl, ?_⟩) hHeld ?_
 rotate_left
 ·intro w' hSw
  obtain ⟨y1, y2, y3, y4, y5, y6, y7, y8, y9, _⟩ := hSw
  go_simp
  try with_reducible rfl
 try simp only [Act.put, List.getElem_toArray, List.getElem_cons_succ, List.getElem_cons_zero, List.setIfInBounds_toArray, List.set_cons_zero, List.set_cons_succ]
 refine wpAnyH_take (i := 4) (v := ?_) rfl (by kernel_rfl) (by kernel_rfl) (by kernel_rfl) (fun _ _ _ h => h) (Or.inl ⟨by rfl, ?_⟩) hHeld ?_
 rotate_left
 ·intro w' hSw
  obtain ⟨y1, y2, y3, y4, y5, y6, y7, y8, y9, _⟩ := hSw
  go_simp
  try with_reducible rfl
 try simp only [Act.put, List.getElem_toArray, List.getElem_cons_succ, List.getElem_cons_zero, List.setIfInBounds_toArray, List.set_cons_zero, List.set_cons_succ]
 refine wpAnyH_take (i := 5) (v := ?_) rfl (by kernel_rfl) (by kernel_rfl) (by kernel_rfl) (fun _ _ _ h => h) (Or.inl ⟨by rfl, ?_⟩) hHeld ?_
 rotate_left
 ·intro w' hSw
  obtain ⟨y1, y2, y3, y4, y5, y6, y7, y8, y9, _⟩ := hSw
  go_simp
  try with_reducible rfl
 try simp only [Act.put, List.getElem_toArray, List.getElem_cons_succ, List.getElem_cons_zero, List.setIfInBounds_toArray, List.set_cons_zero, List.set_cons_succ]
 refine wpAnyH_take (i := 6) (v := ?_) rfl (by kernel_rfl) (by kernel_rfl) (by kernel_rfl) (fun _ _ _ h => h) (Or.inl ⟨by rfl, ?_⟩) hHeld ?_
 rotate_left
 ·intro w' hSw
  obtain ⟨y1, y2, y3, y4, y5, y6, y7, y8, y9, _⟩ := hSw
  go_simp
  try with_reducible rfl
 try simp only [Act.put, List.getElem_toArray, List.getElem_cons_succ, List.getElem_cons_zero, List.setIfInBounds_toArray, List.set_cons_zero, List.set_cons_succ]
 refine wpAnyH_take (i := 7) (v := ?_) rfl (by kernel_rfl) (by kernel_rfl) (by kernel_rfl) (fun _ _ _ h => h) (Or.inl ⟨by rfl, ?_⟩) hHeld ?_
 rotate_left
 ·intro w' hSw
  obtain ⟨y1, y2, y3, y4, y5, y6, y7, y8, y9, _⟩ := hSw
  go_simp
  try with_reducible rfl
 try simp only [Act.put, List.getElem_toArray, List.getElem_cons_succ, List.getElem_cons_zero, List.setIfInBounds_toArray, List.set_cons_zero, List.set_cons_succ]
 refine wpAnyH_take (i := 8) (v := ?_) rfl (by kernel_rfl) (by kernel_rfl) (by kernel_rfl) (fun _ _ _ h => h) (Or.inl ⟨by rfl, ?_⟩) hHeld ?_
 rotate_left
 ·intro w' hSw
  obtain ⟨y1, y2, y3, y4, y5, y6, y7, y8, y9, _⟩ := hSw
  go_simp
  try with_reducible rfl
 try simp only [Act.put, List.getElem_toArray, List.getElem_cons_succ, List.getElem_cons_zero, List.setIfInBounds_toArray, List.set_cons_zero, List.set_cons_succ]
 refine wpAnyH_take (i := 9) (v := ?_) rfl (by kernel_rfl) (by kernel_rfl) (by kernel_rfl) (fun _ _ _ h => h) (Or.inl ⟨by rfl, ?_⟩) hHeld ?_
 rotate_left
 ·intro w' hSw
  obtain ⟨y1, y2, y3, y4, y5, y6, y7, y8, y9, _⟩ := hSw
  go_simp
  try with_reducible rfl
 try simp only [Act.put, List.getElem_toArray, List.getElem_cons_succ, List.getElem_cons_zero, List.setIfInBounds_toArray, List.set_cons_zero, List.set_cons_succ]
 refine wpAnyH_take (i := 10) (v := .agg C) rfl (by kernel_rfl) (by kernel_rfl) (by kernel_rfl) (fun _ _ _ h => h) (Ce.yieldsIf_load_row (by rfl) 47 _ rfl BC rfl 47 C (0, 0) _ (fun _ hw => hw.2.2.2.2.2.2.2.2.2) Tryz.underlying47 rfl hi18) hHeld ?_
 try simp only [Act.put, List.getElem_toArray, List.getElem_cons_succ, List.getElem_cons_zero, List.setIfInBounds_toArray, List.set_cons_zero, List.set_cons_succ]
 refine wpAnyH_take (i := 11) (v := ?_) rfl (by kernel_rfl) (by kernel_rfl) (by kernel_rfl) (fun _ _ _ h => h) (Or.inl ⟨by rfl, ?_⟩) hHeld ?_
 rotate_left
 ·intro w' hSw
  obtain ⟨y1, y2, y3, y4, y5, y6, y7, y8, y9, _⟩ := hSw
  go_simp
  try with_reducible rfl
 try simp only [Act.put, List.getElem_toArray, List.getElem_cons_succ, List.getElem_cons_zero, List.setIfInBounds_toArray, List.set_cons_zero, List.set_cons_succ]
 refine wpAnyH_take (i := 12) (v := ?_) rfl (by kernel_rfl) (by kernel_rfl) (by kernel_rfl) (fun _ _ _ h => h) (Or.inl ⟨by rfl, ?_⟩) hHeld ?_
 rotate_left
 ·intro w' hSw
  obtain ⟨y1, y2, y3, y4, y5, y6, y7, y8, y9, _⟩ := hSw
  go_simp
  try with_reducible rfl
 try simp only [Act.put, List.getElem_toArray, List.getElem_cons_succ, List.getElem_cons_zero, List.setIfInBounds_toArray, List.set_cons_zero, List.set_cons_succ]
 refine wpAnyH_ready (rs := [13]) (by kernel_rfl) (by simp) ?_
 refine AllReadyH.cons rfl (fun K hK => ?_) AllReadyH.nil
 go_simp
 go_wp2_with (go_at_call 156; refine (k1 _ (HB.out _ B1)).mono ?_; rintro e w2 ⟨rfl, b2⟩)
 have B2 : Below W0.heap.size W0 w2 := B1.trans (b2.mono B1.size)
 refine hK.out _ _ (HS.out _ B2) (fun hHeld => ?_)
 clear hK K
 try simp only [Act.put, List.getElem_toArray, List.getElem_cons_succ, List.getElem_cons_zero, List.setIfInBounds_toArray, List.set_cons_zero, List.set_cons_succ]
 refine wpAnyH_take (i := 14) (v := ?_) rfl (by kernel_rfl) (by kernel_rfl) (by kernel_rfl) (fun _ _ _ h => h) (Or.inl ⟨by rfl, ?_⟩) hHeld ?_
 rotate_left
 ·intro w' hSw
  obtain ⟨y1, y2, y3, y4, y5, y6, y7, y8, y9, _⟩ := hSw
  go_simp
  try with_reducible rfl
 try simp only [Act.put, List.getElem_toArray, List.getElem_cons_succ, List.getElem_cons_zero, List.setIfInBounds_toArray, List.set_cons_zero, List.set_cons_succ]
 have Y6 := (B2.block _ (heap_lt HY.out)).trans HY.out
 have hi8 : (Tryz.prog.info? 99).map (·.size) = some (#[I x.kind, I x.len, I x.frm, .int .u64 (x.init : Int), I x.queue, I x.ac.kind, I x.ac.task, .int .u32 vm] : Array Value).size := by kernel_rfl
 have g7 : w2.grownBy (w2.setRow (w.heap.size + 1) #[I x.kind, I x.len, I x.frm, .int .u64 (x.init : Int), I x.queue, I x.ac.kind, I x.ac.task, .int .u32 vm]) (some (w.heap.size + 1)) := Ce.grown_row _ _ _
 have B7 : Below w.heap.size w (w2.setRow (w.heap.size + 1) #[I x.kind, I x.len, I x.frm, .int .u64 (x.init : Int), I x.queue, I x.ac.kind, I x.ac.task, .int .u32 vm]) := (HB.out _ B2).grown g7 (HB.out _ B2).size (fun k e => by cases e; omega)
 have Y7 : (w2.setRow (w.heap.size + 1) #[I x.kind, I x.len, I x.frm, .int .u64 (x.init : Int), I x.queue, I x.ac.kind, I x.ac.task, .int .u32 vm]).heap[w.heap.size + 1]? = some (.cells #[I x.kind, I x.len, I x.frm, .int .u64 (x.init : Int), I x.queue, I x.ac.kind, I x.ac.task, .int .u32 vm] 99 (0, 0)) := setRow_heap _ _ _ _ _ _ Y6
 refine wpAnyH_ready (rs := [15]) (by kernel_rfl) (by simp) ?_
 refine AllReadyH.cons rfl (fun K hK => ?_) AllReadyH.nil
 rw [if_pos (by kernel_rfl)]
 refine wp_store_row 99 _ _ rfl (w.heap.size + 1) _ rfl rfl 99 _ Y6 hi8 rfl (by simp [Value.oneCell']) ?_
 have hS7 := HS.out _ B2
 have hlt6 : w.heap.size < w2.heap.size := by have := heap_lt Y6; omega
 have q : ∀ b, b ≠ w.heap.size + 1 → b < w2.heap.size → ∀ i, (w2.setRow (w.heap.size + 1) #[I x.kind, I x.len, I x.frm, .int .u64 (x.init : Int), I x.queue, I x.ac.kind, I x.ac.task, .int .u32 vm]).cell? ⟨b, i, none⟩ = w2.cell? ⟨b, i, none⟩ := fun b hb hl i => World.cell?_of_block (grown_blk9 g7 hl (fun e => hb (Option.some.inj e)))
 have q2 : ∀ b, b ≠ w.heap.size + 1 → b < w2.heap.size → (w2.setRow (w.heap.size + 1) #[I x.kind, I x.len, I x.frm, .int .u64 (x.init : Int), I x.queue, I x.ac.kind, I x.ac.task, .int .u32 vm]).heap[b]? = w2.heap[b]? := fun b hb hl => grown_blk9 g7 hl (fun e => hb (Option.some.inj e))
 have l2 := heap_lt HK.out
 have ls := (HB.out _ B2).size
 refine hK.out _ _ ⟨by rw [q _ (by omega) hlt6]; exact hS7.1, by rw [q _ (by omega) hlt6]; exact hS7.2.1, by rw [q _ (by omega) hlt6]; exact hS7.2.2.1, by rw [q _ (by omega) hlt6]; exact hS7.2.2.2.1, by rw [q _ (by omega) hlt6]; exact hS7.2.2.2.2.1, by rw [q _ (by omega) hlt6]; exact hS7.2.2.2.2.2.1, by rw [q _ (by omega) hlt6]; exact hS7.2.2.2.2.2.2.1, by rw [q _ (by omega) hlt6]; exact hS7.2.2.2.2.2.2.2.1, by rw [q _ (by omega) hlt6]; exact hS7.2.2.2.2.2.2.2.2.1, by rw [q2 _ (by omega) (by omega)]; exact hS7.2.2.2.2.2.2.2.2.2⟩ (fun hHeld => ?_)
 clear hK K q q2
 refine wpAnyH_done (by kernel_rfl) ?_ _
 go_wp2_with fail
 refine bodyPost_ret (v := .agg #[I x.kind, I x.len, I x.frm, .int .u64 (x.init : Int), I x.queue, I x.ac.kind, I x.ac.task, .int .u32 vm]) (results_cell_row Tryz.results159 _ _ (w.heap.size + 1) 99 _ (0, 0) _ rfl Y7 Tryz.underlying99 rfl hi8) rfl ?_
 exact ⟨rfl, B7⟩
end Go.Proofs.YtmidaeljeoifdaaGreatDoor
