import Derived.Test.YtmidaeljeoifdaaGreatDoorTik
namespace Go.Proofs.YtmidaeljeoifdaaGreatDoor
set_option maxRecDepth 100000
set_option maxHeartbeats 16000000
open Go.RowKit Go.Shelf Go.Sort Go.Maps
set_option linter.unusedVariables false
set_option linter.unusedSimpArgs false
theorem isr1_any (w : World) (x : Is) (s3 s4 : Sl) (base : Nat) (hbase : base ≤ w.heap.size) (h3 : RowsAt w 1 intP s3 x.res) (hl3 : x.res.length ≤ 1048576) :
  Calls Tryz.prog 91 #[.agg #[S x.name, I x.cat, I x.prio, .slice s3.a s3.n s3.c, .slice s4.a s4.n s4.c]] w fun e w' => ∃ so : Sl, e = .returned (.agg #[I x.cat, I x.prio, .slice so.a so.n so.c]) ∧ IntsO9 w' base x.res (.slice so.a so.n so.c) ∧ Below w.heap.size w w' := by
 have B0 : Below w.heap.size w ((w.alloc (.cells #[S x.name, I x.cat, I x.prio, .slice s3.a s3.n s3.c, .slice s4.a s4.n s4.c] 88)).alloc (.cells #[I 0, I 0, .slice none 0 0] 72)) := (below_alloc w _).trans ((below_alloc _ _).mono (by simp))
 have hX : ((w.alloc (.cells #[S x.name, I x.cat, I x.prio, .slice s3.a s3.n s3.c, .slice s4.a s4.n s4.c] 88)).alloc (.cells #[I 0, I 0, .slice none 0 0] 72)).heap[w.heap.size]? = some (.cells #[S x.name, I x.cat, I x.prio, .slice s3.a s3.n s3.c, .slice s4.a s4.n s4.c] 88) := by
  rw [heap_alloc_old _ _ (by simp)]; exact heap_alloc_new w _
 have hY : ((w.alloc (.cells #[S x.name, I x.cat, I x.prio, .slice s3.a s3.n s3.c, .slice s4.a s4.n s4.c] 88)).alloc (.cells #[I 0, I 0, .slice none 0 0] 72)).heap[w.heap.size + 1]? = some (.cells #[I 0, I 0, .slice none 0 0] 72) := heap_n2 _ _ _
 have H3 : Hid (∀ W, Below w.heap.size w W → RowsAt W 1 intP s3 x.res) := fun W hW => h3.below hW (fun _ _ _ _ h => h)
 clear h3
 go_enter Tryz.func91, Tryz.ntmps91
 go_upto_region 1 with fail
 have HY : Hid _ := hY
 clear hY
 generalize hW : ((w.alloc (.cells #[S x.name, I x.cat, I x.prio, .slice s3.a s3.n s3.c, .slice s4.a s4.n s4.c] 88)).alloc (.cells #[I 0, I 0, .slice none 0 0] 72)) = W0 at *
 clear hW
 have HS : Hid (∀ W, Below W0.heap.size W0 W → W.cell? ⟨w.heap.size, 1, none⟩ = some (I x.cat) ∧ W.cell? ⟨w.heap.size, 2, none⟩ = some (I x.prio) ∧ W.cell? ⟨w.heap.size, 3, none⟩ = some (.slice s3.a s3.n s3.c)) := fun W hW => by
  have h1 := (hW.block _ (heap_lt hX)).trans hX
  exact ⟨by rw [cell_of_row W _ 1 _ _ (0, 0) h1]; rfl, by rw [cell_of_row W _ 2 _ _ (0, 0) h1]; rfl, by rw [cell_of_row W _ 3 _ _ (0, 0) h1]; rfl⟩
 have HB : Hid (∀ W, Below W0.heap.size W0 W → Below w.heap.size w W) := fun W hW => B0.trans (hW.mono B0.size)
 have B1 : Below W0.heap.size W0 W0.drew := (Below.refl _ _).drew
 refine wp_region_held_drew (S := fun W' => W'.cell? ⟨w.heap.size, 1, none⟩ = some (I x.cat) ∧ W'.cell? ⟨w.heap.size, 2, none⟩ = some (I x.prio) ∧ W'.cell? ⟨w.heap.size, 3, none⟩ = some (.slice s3.a s3.n s3.c)) (by kernel_rfl) (HS.out _ B1) (fun hHeld => ?_)
 refine wpAnyH_take (i := 0) (v := ?_) rfl (by kernel_rfl) (by kernel_rfl) (by kernel_rfl) (fun _ _ _ h => h) (Or.inl ⟨by rfl, ?_⟩) hHeld ?_
 rotate_left
 ·intro w' hSw
  obtain ⟨y1, y2, y3⟩ := hSw
  go_simp
  try with_reducible rfl
 try simp only [Act.put, List.getElem_toArray, List.getElem_cons_succ, List.getElem_cons_zero, List.setIfInBounds_toArray, List.set_cons_zero, List.set_cons_succ]
 refine wpAnyH_take (i := 1) (v := ?_) rfl (by kernel_rfl) (by kernel_rfl) (by kernel_rfl) (fun _ _ _ h => h) (Or.inl ⟨by rfl, ?_⟩) hHeld ?_
 rotate_left
 ·intro w' hSw
  obtain ⟨y1, y2, y3⟩ := hSw
  go_simp
  try with_reducible rfl
 try simp only [Act.put, List.getElem_toArray, List.getElem_cons_succ, List.getElem_cons_zero, List.setIfInBounds_toArray, List.set_cons_zero, List.set_cons_succ]
 refine wpAnyH_take (i := 2) (v := ?_) rfl (by kernel_rfl) (by kernel_rfl) (by kernel_rfl) (fun _ _ _ h => h) (Or.inl ⟨by rfl, ?_⟩) hHeld ?_
 rotate_left
 ·intro w' hSw
  obtain ⟨y1, y2, y3⟩ := hSw
  go_simp
  try with_reducible rfl
 try simp only [Act.put, List.getElem_toArray, List.getElem_cons_succ, List.getElem_cons_zero, List.setIfInBounds_toArray, List.set_cons_zero, List.set_cons_succ]
 refine wpAnyH_take (i := 3) (v := ?_) rfl (by kernel_rfl) (by kernel_rfl) (by kernel_rfl) (fun _ _ _ h => h) (Or.inl ⟨by rfl, ?_⟩) hHeld ?_
 rotate_left
 ·intro w' hSw
  obtain ⟨y1, y2, y3⟩ := hSw
  go_simp
  try with_reducible rfl
 try simp only [Act.put, List.getElem_toArray, List.getElem_cons_succ, List.getElem_cons_zero, List.setIfInBounds_toArray, List.set_cons_zero, List.set_cons_succ]
 refine wpAnyH_take (i := 4) (v := ?_) rfl (by kernel_rfl) (by kernel_rfl) (by kernel_rfl) (fun _ _ _ h => h) (Or.inl ⟨by rfl, ?_⟩) hHeld ?_
 rotate_left
 ·intro w' hSw
  obtain ⟨y1, y2, y3⟩ := hSw
  go_simp
  try with_reducible rfl
 try simp only [Act.put, List.getElem_toArray, List.getElem_cons_succ, List.getElem_cons_zero, List.setIfInBounds_toArray, List.set_cons_zero, List.set_cons_succ]
 refine wpAnyH_take (i := 5) (v := ?_) rfl (by kernel_rfl) (by kernel_rfl) (by kernel_rfl) (fun _ _ _ h => h) (Or.inl ⟨by rfl, ?_⟩) hHeld ?_
 rotate_left
 ·intro w' hSw
  obtain ⟨y1, y2, y3⟩ := hSw
  go_simp
  try with_reducible rfl
 try simp only [Act.put, List.getElem_toArray, List.getElem_cons_succ, List.getElem_cons_zero, List.setIfInBounds_toArray, List.set_cons_zero, List.set_cons_succ]
 refine wpAnyH_ready (rs := [6]) (by kernel_rfl) (by simp) ?_
 refine AllReadyH.cons rfl (fun K hK => ?_) AllReadyH.nil
 go_simp
 go_wp2_with (go_at_call 157; refine (clone_any9 _ s3 x.res (H3.out _ (HB.out _ B1)) hl3).mono ?_; rintro e w2 ⟨so, rfl, i2, b2⟩)
 have B2 : Below W0.heap.size W0 w2 := B1.trans (b2.mono B1.size)
 refine hK.out _ _ (HS.out _ B2) (fun hHeld => ?_)
 clear hK K
 try simp only [Act.put, List.getElem_toArray, List.getElem_cons_succ, List.getElem_cons_zero, List.setIfInBounds_toArray, List.set_cons_zero, List.set_cons_succ]
 refine wpAnyH_take (i := 7) (v := ?_) rfl (by kernel_rfl) (by kernel_rfl) (by kernel_rfl) (fun _ _ _ h => h) (Or.inl ⟨by rfl, ?_⟩) hHeld ?_
 rotate_left
 ·intro w' hSw
  obtain ⟨y1, y2, y3⟩ := hSw
  go_simp
  try with_reducible rfl
 try simp only [Act.put, List.getElem_toArray, List.getElem_cons_succ, List.getElem_cons_zero, List.setIfInBounds_toArray, List.set_cons_zero, List.set_cons_succ]
 have Y6 := (B2.block _ (heap_lt HY.out)).trans HY.out
 have I6 : IntsO9 w2 base x.res (.slice so.a so.n so.c) := intsO_mono9 i2 (Nat.le_trans hbase ((HB.out _ B1).size))
 have hi8 : (Tryz.prog.info? 72).map (·.size) = some (#[I x.cat, I x.prio, .slice so.a so.n so.c] : Array Value).size := by kernel_rfl
 have g7 : w2.grownBy (w2.setRow (w.heap.size + 1) #[I x.cat, I x.prio, .slice so.a so.n so.c]) (some (w.heap.size + 1)) := Ce.grown_row _ _ _
 have B7 : Below w.heap.size w (w2.setRow (w.heap.size + 1) #[I x.cat, I x.prio, .slice so.a so.n so.c]) := (HB.out _ B2).grown g7 (HB.out _ B2).size (fun k e => by cases e; omega)
 have I7 := intsO_store9 I6 Y6 (by decide) g7
 have Y7 : (w2.setRow (w.heap.size + 1) #[I x.cat, I x.prio, .slice so.a so.n so.c]).heap[w.heap.size + 1]? = some (.cells #[I x.cat, I x.prio, .slice so.a so.n so.c] 72 (0, 0)) := setRow_heap _ _ _ _ _ _ Y6
 refine wpAnyH_ready (rs := [8]) (by kernel_rfl) (by simp) ?_
 refine AllReadyH.cons rfl (fun K hK => ?_) AllReadyH.nil
 rw [if_pos (by kernel_rfl)]
 refine wp_store_row 72 _ _ rfl (w.heap.size + 1) _ rfl rfl 72 _ Y6 hi8 rfl (by simp [Value.oneCell']) ?_
 have hS7 := HS.out _ B2
 have hlt6 : w.heap.size < w2.heap.size := by have := heap_lt Y6; omega
 have q : ∀ b, b ≠ w.heap.size + 1 → b < w2.heap.size → ∀ i, (w2.setRow (w.heap.size + 1) #[I x.cat, I x.prio, .slice so.a so.n so.c]).cell? ⟨b, i, none⟩ = w2.cell? ⟨b, i, none⟩ := fun b hb hl i => World.cell?_of_block (grown_blk9 g7 hl (fun e => hb (Option.some.inj e)))
 refine hK.out _ _ ⟨by rw [q _ (by omega) hlt6]; exact hS7.1, by rw [q _ (by omega) hlt6]; exact hS7.2.1, by rw [q _ (by omega) hlt6]; exact hS7.2.2⟩ (fun hHeld => ?_)
 clear hK K q
 refine wpAnyH_done (by kernel_rfl) ?_ _
 go_wp2_with fail
 refine bodyPost_ret (v := .agg #[I x.cat, I x.prio, .slice so.a so.n so.c]) (results_cell_row Tryz.results91 _ _ (w.heap.size + 1) 72 _ (0, 0) _ rfl Y7 Tryz.underlying72 rfl hi8) rfl ?_
 exact ⟨so, rfl, I7, B7⟩
theorem is_any (w : World) (c : Cf) (v : Vs) (h : CfAt w c v) (hn : c.isrs.length ≤ 1048576) (hr : ∀ x ∈ c.isrs, x.res.length ≤ 1048576) : Calls Tryz.prog 90 #[.slice v.i.a v.i.n v.i.c, .func (.func 91) #[] #[]] w fun e w' => (∃ a k, e = .returned (.slice a c.isrs.length k) ∧ RI w.heap.size w' (c.isrs.map mkI) (.slice a c.isrs.length k)) ∧ Below w.heap.size w w' :=
 (rows_Isr_IsrRow w v.i c.isrs h.i hn 91 #[] (enters_of Tryz.func91 (by kernel_rfl) rfl) mkI (fun W hW x hx s3 h3 s4 h4 => isr1_any W x s3 s4 w.heap.size hW.size h3 (hr x hx))).mono (fun e w' h => by
  obtain ⟨⟨a1, c1, xs, h1, h2, h3⟩, hb⟩ := h
  exact ⟨⟨a1, c1, h1, xs, by rw [List.length_map]; exact h2, h3⟩, hb⟩)
end Go.Proofs.YtmidaeljeoifdaaGreatDoor
