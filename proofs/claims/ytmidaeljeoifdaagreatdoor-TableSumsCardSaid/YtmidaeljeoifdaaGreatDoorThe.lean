import Derived.Test.YtmidaeljeoifdaaGreatDoorThd
import Derived.Test.YtmidaeljeoifdaaGreatDoorTr2
import Derived.Test.YtmidaeljeoifdaaGreatDoorKvi
import Derived.Test.YtmidaeljeoifdaaGreatDoorEeq
import Derived.Deep.RegionHeld3
import Derived.Deep.WholeRow
namespace Go.Proofs.YtmidaeljeoifdaaGreatDoor
set_option maxRecDepth 100000
set_option maxHeartbeats 16000000
open Go.RowKit Go.Shelf Go.Sort Go.Maps
set_option linter.unusedVariables false
set_option linter.unusedSimpArgs false
theorem intsO_store9 {w w' : World} {base g : Nat} {l : List Int} {u : Value} {cs : Array Value} {T : TypeId} {fr : Nat × Nat} (h : IntsO9 w base l u) (hg : w.heap[g]? = some (.cells cs T fr)) (hT : 3 ≠ T) (hb : w.grownBy w' (some g)) : IntsO9 w' base l u := by
 refine World.ownsRow.kept h hb ?_
 rcases h.2 with ⟨h0, _⟩ | ⟨b, cap, cur, hv, _, hh, _⟩
 ·rw [h0]; exact .inl rfl
 ·right
  intro e
  rw [hv] at e
  have e3 : b = g := Option.some.inj e
  rw [e3, hg] at hh
  injection hh with hh
  injection hh with _ e4
  exact hT e4.symm
theorem res_tr9 {fn : Func} {n : Nat} (hf : fn.results = #[.cell n 56]) (tmps : Array Value) (b : Nat) (w : World) (C : Array Value) (hi8 : (Tryz.prog.info? 56).map (·.size) = some C.size)
  (h2 : tmps[n]? = some (.pointer (some ⟨b, 0, none⟩))) (hk : w.heap[b]? = some (.cells C 56 (0, 0))) : (results fn tmps).run Tryz.prog w = .ok (.agg C) w := by
 have hr := run_loadVar_row w b 56 56 C (0, 0) _ hk Tryz.underlying56 rfl hi8
 simp [results, hf, h2, asAddr, hr]
theorem task1_any (w : World) (x : Tk) (s4 s5 s6 s7 : Sl) (BL BC BE : Nat) (lv : Sl) (C E : Array Value) (hC : C.size = 18) (hE : E.size = 5) (hBL : w.heap[BL]? = some (.cells #[.slice lv.a lv.n lv.c] 54)) (hBC : w.heap[BC]? = some (.cells C 47)) (hBE : w.heap[BE]? = some (.cells E 82)) (base : Nat) (vi vm vn vb : Int) (own : List Int)
  (k1 : ∀ W, Below w.heap.size w W → Calls Tryz.prog 148 #[.slice lv.a lv.n lv.c, I x.prio] W fun e w' => e = .returned (I vi) ∧ Below W.heap.size W w')
  (k2 : ∀ W, Below w.heap.size w W → Calls Tryz.prog 149 #[.agg C, .slice s6.a s6.n s6.c] W fun e w' => e = .returned (.int .u32 vm) ∧ Below W.heap.size W w')
  (k3 : ∀ W, Below w.heap.size w W → Calls Tryz.prog 150 #[.agg C, .agg E, .slice s5.a s5.n s5.c] W fun e w' => e = .returned (I vn) ∧ Below W.heap.size W w')
  (k4 : ∀ W, Below w.heap.size w W → Calls Tryz.prog 151 #[.agg C, .slice s5.a s5.n s5.c] W fun e w' => ∃ so : Sl, e = .returned (.slice so.a so.n so.c) ∧ IntsO9 w' base own (.slice so.a so.n so.c) ∧ Below W.heap.size W w')
  (k5 : ∀ W, Below w.heap.size w W → Calls Tryz.prog 152 #[.slice s4.a s4.n s4.c] W fun e w' => e = .returned (.int .u32 vb) ∧ Below W.heap.size W w') :
  Calls Tryz.prog 147 (#[.agg #[S x.name, I x.prio, .bool x.full, I x.act, .slice s4.a s4.n s4.c, .slice s5.a s5.n s5.c, .slice s6.a s6.n s6.c, .slice s7.a s7.n s7.c]] ++ #[.pointer (some ⟨BL, 0, none⟩), .pointer (some ⟨BC, 0, none⟩), .pointer (some ⟨BE, 0, none⟩)]) w fun e w' => ∃ so : Sl, e = .returned (.agg #[I x.prio, I vi, .bool x.full, I x.act, .int .u32 vm, I vn, .slice so.a so.n so.c, .int .u32 vb]) ∧ IntsO9 w' base own (.slice so.a so.n so.c) ∧ Below w.heap.size w w' := by
 have hi18 : (Tryz.prog.info? 47).map (·.size) = some C.size := by rw [hC]; kernel_rfl
 have hi5 : (Tryz.prog.info? 82).map (·.size) = some E.size := by rw [hE]; kernel_rfl
 have B0 : Below w.heap.size w ((w.alloc (.cells #[S x.name, I x.prio, .bool x.full, I x.act, .slice s4.a s4.n s4.c, .slice s5.a s5.n s5.c, .slice s6.a s6.n s6.c, .slice s7.a s7.n s7.c] 58)).alloc (.cells #[I 0, I 0, .bool false, I 0, .int .u32 0, I 0, .slice none 0 0, .int .u32 0] 56)) := (below_alloc w _).trans ((below_alloc _ _).mono (by simp))
 have hX : ((w.alloc (.cells #[S x.name, I x.prio, .bool x.full, I x.act, .slice s4.a s4.n s4.c, .slice s5.a s5.n s5.c, .slice s6.a s6.n s6.c, .slice s7.a s7.n s7.c] 58)).alloc (.cells #[I 0, I 0, .bool false, I 0, .int .u32 0, I 0, .slice none 0 0, .int .u32 0] 56)).heap[w.heap.size]? = some (.cells #[S x.name, I x.prio, .bool x.full, I x.act, .slice s4.a s4.n s4.c, .slice s5.a s5.n s5.c, .slice s6.a s6.n s6.c, .slice s7.a s7.n s7.c] 58) := by
  rw [heap_alloc_old _ _ (by simp)]; exact heap_alloc_new w _
 have hY : ((w.alloc (.cells #[S x.name, I x.prio, .bool x.full, I x.act, .slice s4.a s4.n s4.c, .slice s5.a s5.n s5.c, .slice s6.a s6.n s6.c, .slice s7.a s7.n s7.c] 58)).alloc (.cells #[I 0, I 0, .bool false, I 0, .int .u32 0, I 0, .slice none 0 0, .int .u32 0] 56)).heap[w.heap.size + 1]? = some (.cells #[I 0, I 0, .bool false, I 0, .int .u32 0, I 0, .slice none 0 0, .int .u32 0] 56) := by
  have := heap_alloc_new (w.alloc (.cells #[S x.name, I x.prio, .bool x.full, I x.act, .slice s4.a s4.n s4.c, .slice s5.a s5.n s5.c, .slice s6.a s6.n s6.c, .slice s7.a s7.n s7.c] 58)) (.cells #[I 0, I 0, .bool false, I 0, .int .u32 0, I 0, .slice none 0 0, .int .u32 0] 56)
  rw [World.size_alloc] at this
  exact this
 have HK : Hid (w.heap[BL]? = some (.cells #[.slice lv.a lv.n lv.c] 54) ∧ w.heap[BC]? = some (.cells C 47) ∧ w.heap[BE]? = some (.cells E 82)) := ⟨hBL, hBC, hBE⟩
 clear hBL hBC hBE
 go_enter Tryz.func147, Tryz.ntmps147
 go_upto_region 1 with fail
 have HY : Hid _ := hY
 clear hY
 generalize hW : ((w.alloc (.cells #[S x.name, I x.prio, .bool x.full, I x.act, .slice s4.a s4.n s4.c, .slice s5.a s5.n s5.c, .slice s6.a s6.n s6.c, .slice s7.a s7.n s7.c] 58)).alloc (.cells #[I 0, I 0, .bool false, I 0, .int .u32 0, I 0, .slice none 0 0, .int .u32 0] 56)) = W0 at *
 clear hW
 have HS : Hid (∀ W, Below W0.heap.size W0 W → W.cell? ⟨w.heap.size, 1, none⟩ = some (I x.prio) ∧ W.cell? ⟨w.heap.size, 2, none⟩ = some (.bool x.full) ∧ W.cell? ⟨w.heap.size, 3, none⟩ = some (I x.act) ∧ W.cell? ⟨w.heap.size, 4, none⟩ = some (.slice s4.a s4.n s4.c) ∧ W.cell? ⟨w.heap.size, 5, none⟩ = some (.slice s5.a s5.n s5.c) ∧ W.cell? ⟨w.heap.size, 6, none⟩ = some (.slice s6.a s6.n s6.c) ∧ W.cell? ⟨BL, 0, none⟩ = some (.slice lv.a lv.n lv.c) ∧ W.heap[BC]? = some (.cells C 47 (0, 0)) ∧ W.heap[BE]? = some (.cells E 82 (0, 0))) := fun W hW => by
  have h1 := (hW.block _ (heap_lt hX)).trans hX
  have hb := B0.trans (hW.mono B0.size)
  obtain ⟨h2, h3, h4⟩ := HK.out
  have h2' := (hb.block _ (heap_lt h2)).trans h2
  exact ⟨by rw [cell_of_row W _ 1 _ _ (0, 0) h1]; rfl, by rw [cell_of_row W _ 2 _ _ (0, 0) h1]; rfl, by rw [cell_of_row W _ 3 _ _ (0, 0) h1]; rfl, by rw [cell_of_row W _ 4 _ _ (0, 0) h1]; rfl, by rw [cell_of_row W _ 5 _ _ (0, 0) h1]; rfl, by rw [cell_of_row W _ 6 _ _ (0, 0) h1]; rfl, by rw [cell_of_row W _ 0 _ _ (0, 0) h2']; rfl, (hb.block _ (heap_lt h3)).trans h3, (hb.block _ (heap_lt h4)).trans h4⟩
 have HB : Hid (∀ W, Below W0.heap.size W0 W → Below w.heap.size w W) := fun W hW => B0.trans (hW.mono B0.size)
 have B1 : Below W0.heap.size W0 W0.drew := (Below.refl _ _).drew
 refine wp_region_held_drew (S := fun W' => W'.cell? ⟨w.heap.size, 1, none⟩ = some (I x.prio) ∧ W'.cell? ⟨w.heap.size, 2, none⟩ = some (.bool x.full) ∧ W'.cell? ⟨w.heap.size, 3, none⟩ = some (I x.act) ∧ W'.cell? ⟨w.heap.size, 4, none⟩ = some (.slice s4.a s4.n s4.c) ∧ W'.cell? ⟨w.heap.size, 5, none⟩ = some (.slice s5.a s5.n s5.c) ∧ W'.cell? ⟨w.heap.size, 6, none⟩ = some (.slice s6.a s6.n s6.c) ∧ W'.cell? ⟨BL, 0, none⟩ = some (.slice lv.a lv.n lv.c) ∧ W'.heap[BC]? = some (.cells C 47 (0, 0)) ∧ W'.heap[BE]? = some (.cells E 82 (0, 0))) (by kernel_rfl) (HS.out _ B1) (fun hHeld => ?_)
 refine wpAnyH_take (i := 0) (v := ?_) rfl (by kernel_rfl) (by kernel_rfl) (by kernel_rfl) (fun _ _ _ h => h) (Or.inl ⟨by rfl, ?_⟩) hHeld ?_
 rotate_left
 ·intro w' hSw
  obtain ⟨y1, y2, y3, y4, y5, y6, yl, _, _⟩ := hSw
  go_simp
  try with_reducible rfl
 try simp only [Act.put, List.getElem_toArray, List.getElem_cons_succ, List.getElem_cons_zero, List.setIfInBounds_toArray, List.set_cons_zero, List.set_cons_succ]
 refine wpAnyH_take (i := 1) (v := ?_) rfl (by kernel_rfl) (by kernel_rfl) (by kernel_rfl) (fun _ _ _ h => h) (Or.inl ⟨by rfl, ?_⟩) hHeld ?_
 rotate_left
 ·intro w' hSw
  obtain ⟨y1, y2, y3, y4, y5, y6, yl, _, _⟩ := hSw
  go_simp
  try with_reducible rfl
 try simp only [Act.put, List.getElem_toArray, List.getElem_cons_succ, List.getElem_cons_zero, List.setIfInBounds_toArray, List.set_cons_zero, List.set_cons_succ]
 refine wpAnyH_take (i := 2) (v := ?_) rfl (by kernel_rfl) (by kernel_rfl) (by kernel_rfl) (fun _ _ _ h => h) (Or.inl ⟨by rfl, ?_⟩) hHeld ?_
 rotate_left
 ·intro w' hSw
  obtain ⟨y1, y2, y3, y4, y5, y6, yl, _, _⟩ := hSw
  go_simp
  try with_reducible rfl
 try simp only [Act.put, List.getElem_toArray, List.getElem_cons_succ, List.getElem_cons_zero, List.setIfInBounds_toArray, List.set_cons_zero, List.set_cons_succ]
 refine wpAnyH_take (i := 3) (v := ?_) rfl (by kernel_rfl) (by kernel_rfl) (by kernel_rfl) (fun _ _ _ h => h) (Or.inl ⟨by rfl, ?_⟩) hHeld ?_
 rotate_left
 ·intro w' hSw
  obtain ⟨y1, y2, y3, y4, y5, y6, yl, _, _⟩ := hSw
  go_simp
  try with_reducible rfl
 try simp only [Act.put, List.getElem_toArray, List.getElem_cons_succ, List.getElem_cons_zero, List.setIfInBounds_toArray, List.set_cons_zero, List.set_cons_succ]
 refine wpAnyH_take (i := 4) (v := ?_) rfl (by kernel_rfl) (by kernel_rfl) (by kernel_rfl) (fun _ _ _ h => h) (Or.inl ⟨by rfl, ?_⟩) hHeld ?_
 rotate_left
 ·intro w' hSw
  obtain ⟨y1, y2, y3, y4, y5, y6, yl, _, _⟩ := hSw
  go_simp
  try with_reducible rfl
 try simp only [Act.put, List.getElem_toArray, List.getElem_cons_succ, List.getElem_cons_zero, List.setIfInBounds_toArray, List.set_cons_zero, List.set_cons_succ]
 refine wpAnyH_take (i := 6) (v := ?_) rfl (by kernel_rfl) (by kernel_rfl) (by kernel_rfl) (fun _ _ _ h => h) (Or.inl ⟨by rfl, ?_⟩) hHeld ?_
 rotate_left
 ·intro w' hSw
  obtain ⟨y1, y2, y3, y4, y5, y6, yl, _, _⟩ := hSw
  go_simp
  try with_reducible rfl
 try simp only [Act.put, List.getElem_toArray, List.getElem_cons_succ, List.getElem_cons_zero, List.setIfInBounds_toArray, List.set_cons_zero, List.set_cons_succ]
 refine wpAnyH_take (i := 7) (v := ?_) rfl (by kernel_rfl) (by kernel_rfl) (by kernel_rfl) (fun _ _ _ h => h) (Or.inl ⟨by rfl, ?_⟩) hHeld ?_
 rotate_left
 ·intro w' hSw
  obtain ⟨y1, y2, y3, y4, y5, y6, yl, _, _⟩ := hSw
  go_simp
  try with_reducible rfl
 try simp only [Act.put, List.getElem_toArray, List.getElem_cons_succ, List.getElem_cons_zero, List.setIfInBounds_toArray, List.set_cons_zero, List.set_cons_succ]
 refine wpAnyH_take (i := 8) (v := ?_) rfl (by kernel_rfl) (by kernel_rfl) (by kernel_rfl) (fun _ _ _ h => h) (Or.inl ⟨by rfl, ?_⟩) hHeld ?_
 rotate_left
 ·intro w' hSw
  obtain ⟨y1, y2, y3, y4, y5, y6, yl, _, _⟩ := hSw
  go_simp
  try with_reducible rfl
 try simp only [Act.put, List.getElem_toArray, List.getElem_cons_succ, List.getElem_cons_zero, List.setIfInBounds_toArray, List.set_cons_zero, List.set_cons_succ]
 refine wpAnyH_take (i := 9) (v := ?_) rfl (by kernel_rfl) (by kernel_rfl) (by kernel_rfl) (fun _ _ _ h => h) (Or.inl ⟨by rfl, ?_⟩) hHeld ?_
 rotate_left
 ·intro w' hSw
  obtain ⟨y1, y2, y3, y4, y5, y6, yl, _, _⟩ := hSw
  go_simp
  try with_reducible rfl
 try simp only [Act.put, List.getElem_toArray, List.getElem_cons_succ, List.getElem_cons_zero, List.setIfInBounds_toArray, List.set_cons_zero, List.set_cons_succ]
 refine wpAnyH_take (i := 10) (v := .agg C) rfl (by kernel_rfl) (by kernel_rfl) (by kernel_rfl) (fun _ _ _ h => h) (Ce.yieldsIf_load_row (by rfl) 47 _ rfl BC rfl 47 C (0, 0) _ (fun _ hw => hw.2.2.2.2.2.2.2.1) Tryz.underlying47 rfl hi18) hHeld ?_
 try simp only [Act.put, List.getElem_toArray, List.getElem_cons_succ, List.getElem_cons_zero, List.setIfInBounds_toArray, List.set_cons_zero, List.set_cons_succ]
 refine wpAnyH_take (i := 11) (v := ?_) rfl (by kernel_rfl) (by kernel_rfl) (by kernel_rfl) (fun _ _ _ h => h) (Or.inl ⟨by rfl, ?_⟩) hHeld ?_
 rotate_left
 ·intro w' hSw
  obtain ⟨y1, y2, y3, y4, y5, y6, yl, _, _⟩ := hSw
  go_simp
  try with_reducible rfl
 try simp only [Act.put, List.getElem_toArray, List.getElem_cons_succ, List.getElem_cons_zero, List.setIfInBounds_toArray, List.set_cons_zero, List.set_cons_succ]
 refine wpAnyH_take (i := 12) (v := ?_) rfl (by kernel_rfl) (by kernel_rfl) (by kernel_rfl) (fun _ _ _ h => h) (Or.inl ⟨by rfl, ?_⟩) hHeld ?_
 rotate_left
 ·intro w' hSw
  obtain ⟨y1, y2, y3, y4, y5, y6, yl, _, _⟩ := hSw
  go_simp
  try with_reducible rfl
 try simp only [Act.put, List.getElem_toArray, List.getElem_cons_succ, List.getElem_cons_zero, List.setIfInBounds_toArray, List.set_cons_zero, List.set_cons_succ]
 refine wpAnyH_take (i := 14) (v := .agg C) rfl (by kernel_rfl) (by kernel_rfl) (by kernel_rfl) (fun _ _ _ h => h) (Ce.yieldsIf_load_row (by rfl) 47 _ rfl BC rfl 47 C (0, 0) _ (fun _ hw => hw.2.2.2.2.2.2.2.1) Tryz.underlying47 rfl hi18) hHeld ?_
 try simp only [Act.put, List.getElem_toArray, List.getElem_cons_succ, List.getElem_cons_zero, List.setIfInBounds_toArray, List.set_cons_zero, List.set_cons_succ]
 refine wpAnyH_take (i := 15) (v := .agg E) rfl (by kernel_rfl) (by kernel_rfl) (by kernel_rfl) (fun _ _ _ h => h) (Ce.yieldsIf_load_row (by rfl) 82 _ rfl BE rfl 82 E (0, 0) _ (fun _ hw => hw.2.2.2.2.2.2.2.2) Tryz.underlying82 rfl hi5) hHeld ?_
 try simp only [Act.put, List.getElem_toArray, List.getElem_cons_succ, List.getElem_cons_zero, List.setIfInBounds_toArray, List.set_cons_zero, List.set_cons_succ]
 refine wpAnyH_take (i := 16) (v := ?_) rfl (by kernel_rfl) (by kernel_rfl) (by kernel_rfl) (fun _ _ _ h => h) (Or.inl ⟨by rfl, ?_⟩) hHeld ?_
 rotate_left
 ·intro w' hSw
  obtain ⟨y1, y2, y3, y4, y5, y6, yl, _, _⟩ := hSw
  go_simp
  try with_reducible rfl
 try simp only [Act.put, List.getElem_toArray, List.getElem_cons_succ, List.getElem_cons_zero, List.setIfInBounds_toArray, List.set_cons_zero, List.set_cons_succ]
 refine wpAnyH_take (i := 17) (v := ?_) rfl (by kernel_rfl) (by kernel_rfl) (by kernel_rfl) (fun _ _ _ h => h) (Or.inl ⟨by rfl, ?_⟩) hHeld ?_
 rotate_left
 ·intro w' hSw
  obtain ⟨y1, y2, y3, y4, y5, y6, yl, _, _⟩ := hSw
  go_simp
  try with_reducible rfl
 try simp only [Act.put, List.getElem_toArray, List.getElem_cons_succ, List.getElem_cons_zero, List.setIfInBounds_toArray, List.set_cons_zero, List.set_cons_succ]
 refine wpAnyH_take (i := 19) (v := .agg C) rfl (by kernel_rfl) (by kernel_rfl) (by kernel_rfl) (fun _ _ _ h => h) (Ce.yieldsIf_load_row (by rfl) 47 _ rfl BC rfl 47 C (0, 0) _ (fun _ hw => hw.2.2.2.2.2.2.2.1) Tryz.underlying47 rfl hi18) hHeld ?_
 try simp only [Act.put, List.getElem_toArray, List.getElem_cons_succ, List.getElem_cons_zero, List.setIfInBounds_toArray, List.set_cons_zero, List.set_cons_succ]
 refine wpAnyH_take (i := 20) (v := ?_) rfl (by kernel_rfl) (by kernel_rfl) (by kernel_rfl) (fun _ _ _ h => h) (Or.inl ⟨by rfl, ?_⟩) hHeld ?_
 rotate_left
 ·intro w' hSw
  obtain ⟨y1, y2, y3, y4, y5, y6, yl, _, _⟩ := hSw
  go_simp
  try with_reducible rfl
 try simp only [Act.put, List.getElem_toArray, List.getElem_cons_succ, List.getElem_cons_zero, List.setIfInBounds_toArray, List.set_cons_zero, List.set_cons_succ]
 refine wpAnyH_take (i := 21) (v := ?_) rfl (by kernel_rfl) (by kernel_rfl) (by kernel_rfl) (fun _ _ _ h => h) (Or.inl ⟨by rfl, ?_⟩) hHeld ?_
 rotate_left
 ·intro w' hSw
  obtain ⟨y1, y2, y3, y4, y5, y6, yl, _, _⟩ := hSw
  go_simp
  try with_reducible rfl
 try simp only [Act.put, List.getElem_toArray, List.getElem_cons_succ, List.getElem_cons_zero, List.setIfInBounds_toArray, List.set_cons_zero, List.set_cons_succ]
 refine wpAnyH_take (i := 23) (v := ?_) rfl (by kernel_rfl) (by kernel_rfl) (by kernel_rfl) (fun _ _ _ h => h) (Or.inl ⟨by rfl, ?_⟩) hHeld ?_
 rotate_left
 ·intro w' hSw
  obtain ⟨y1, y2, y3, y4, y5, y6, yl, _, _⟩ := hSw
  go_simp
  try with_reducible rfl
 try simp only [Act.put, List.getElem_toArray, List.getElem_cons_succ, List.getElem_cons_zero, List.setIfInBounds_toArray, List.set_cons_zero, List.set_cons_succ]
 refine wpAnyH_take (i := 24) (v := ?_) rfl (by kernel_rfl) (by kernel_rfl) (by kernel_rfl) (fun _ _ _ h => h) (Or.inl ⟨by rfl, ?_⟩) hHeld ?_
 rotate_left
 ·intro w' hSw
  obtain ⟨y1, y2, y3, y4, y5, y6, yl, _, _⟩ := hSw
  go_simp
  try with_reducible rfl
 try simp only [Act.put, List.getElem_toArray, List.getElem_cons_succ, List.getElem_cons_zero, List.setIfInBounds_toArray, List.set_cons_zero, List.set_cons_succ]
 refine wpAnyH_ready (rs := [5]) (by kernel_rfl) (by simp) ?_
 refine AllReadyH.cons rfl (fun K hK => ?_) AllReadyH.nil
 go_simp
 go_wp2_with (go_at_call 148; refine (k1 _ (HB.out _ B1)).mono ?_; rintro e w2 ⟨rfl, b2⟩)
 have B2 : Below W0.heap.size W0 w2 := B1.trans (b2.mono B1.size)
 refine hK.out _ _ (HS.out _ B2) (fun hHeld => ?_)
 clear hK K
 try simp only [Act.put, List.getElem_toArray, List.getElem_cons_succ, List.getElem_cons_zero, List.setIfInBounds_toArray, List.set_cons_zero, List.set_cons_succ]
 refine wpAnyH_ready (rs := [13]) (by kernel_rfl) (by simp) ?_
 refine AllReadyH.cons rfl (fun K hK => ?_) AllReadyH.nil
 go_simp
 go_wp2_with (go_at_call 149; refine (k2 _ (HB.out _ B2)).mono ?_; rintro e w3 ⟨rfl, b3⟩)
 have B3 : Below W0.heap.size W0 w3 := B2.trans (b3.mono B2.size)
 refine hK.out _ _ (HS.out _ B3) (fun hHeld => ?_)
 clear hK K
 try simp only [Act.put, List.getElem_toArray, List.getElem_cons_succ, List.getElem_cons_zero, List.setIfInBounds_toArray, List.set_cons_zero, List.set_cons_succ]
 refine wpAnyH_ready (rs := [18]) (by kernel_rfl) (by simp) ?_
 refine AllReadyH.cons rfl (fun K hK => ?_) AllReadyH.nil
 go_simp
 go_wp2_with (go_at_call 150; refine (k3 _ (HB.out _ B3)).mono ?_; rintro e w4 ⟨rfl, b4⟩)
 have B4 : Below W0.heap.size W0 w4 := B3.trans (b4.mono B3.size)
 refine hK.out _ _ (HS.out _ B4) (fun hHeld => ?_)
 clear hK K
 try simp only [Act.put, List.getElem_toArray, List.getElem_cons_succ, List.getElem_cons_zero, List.setIfInBounds_toArray, List.set_cons_zero, List.set_cons_succ]
 refine wpAnyH_ready (rs := [22]) (by kernel_rfl) (by simp) ?_
 refine AllReadyH.cons rfl (fun K hK => ?_) AllReadyH.nil
 go_simp
 go_wp2_with (go_at_call 151; refine (k4 _ (HB.out _ B4)).mono ?_; rintro e w5 ⟨so, rfl, i5, b5⟩)
 have B5 : Below W0.heap.size W0 w5 := B4.trans (b5.mono B4.size)
 refine hK.out _ _ (HS.out _ B5) (fun hHeld => ?_)
 clear hK K
 try simp only [Act.put, List.getElem_toArray, List.getElem_cons_succ, List.getElem_cons_zero, List.setIfInBounds_toArray, List.set_cons_zero, List.set_cons_succ]
 refine wpAnyH_ready (rs := [25]) (by kernel_rfl) (by simp) ?_
 refine AllReadyH.cons rfl (fun K hK => ?_) AllReadyH.nil
 go_simp
 go_wp2_with (go_at_call 152; refine (k5 _ (HB.out _ B5)).mono ?_; rintro e w6 ⟨rfl, b6⟩)
 have B6 : Below W0.heap.size W0 w6 := B5.trans (b6.mono B5.size)
 refine hK.out _ _ (HS.out _ B6) (fun hHeld => ?_)
 clear hK K
 try simp only [Act.put, List.getElem_toArray, List.getElem_cons_succ, List.getElem_cons_zero, List.setIfInBounds_toArray, List.set_cons_zero, List.set_cons_succ]
 refine wpAnyH_take (i := 26) (v := ?_) rfl (by kernel_rfl) (by kernel_rfl) (by kernel_rfl) (fun _ _ _ h => h) (Or.inl ⟨by rfl, ?_⟩) hHeld ?_
 rotate_left
 ·intro w' hSw
  obtain ⟨y1, y2, y3, y4, y5, y6, yl, _, _⟩ := hSw
  go_simp
  try with_reducible rfl
 try simp only [Act.put, List.getElem_toArray, List.getElem_cons_succ, List.getElem_cons_zero, List.setIfInBounds_toArray, List.set_cons_zero, List.set_cons_succ]
 have Y6 := (B6.block _ (heap_lt HY.out)).trans HY.out
 have I6 := intsO_below9 i5 b6
 have hi8 : (Tryz.prog.info? 56).map (·.size) = some (#[I x.prio, I vi, .bool x.full, I x.act, .int .u32 vm, I vn, .slice so.a so.n so.c, .int .u32 vb] : Array Value).size := by kernel_rfl
 have g7 : w6.grownBy (w6.setRow (w.heap.size + 1) #[I x.prio, I vi, .bool x.full, I x.act, .int .u32 vm, I vn, .slice so.a so.n so.c, .int .u32 vb]) (some (w.heap.size + 1)) := Ce.grown_row _ _ _
 have B7 : Below w.heap.size w (w6.setRow (w.heap.size + 1) #[I x.prio, I vi, .bool x.full, I x.act, .int .u32 vm, I vn, .slice so.a so.n so.c, .int .u32 vb]) := (HB.out _ B6).grown g7 (HB.out _ B6).size (fun k e => by cases e; omega)
 have I7 := intsO_store9 I6 Y6 (by decide) g7
 have Y7 : (w6.setRow (w.heap.size + 1) #[I x.prio, I vi, .bool x.full, I x.act, .int .u32 vm, I vn, .slice so.a so.n so.c, .int .u32 vb]).heap[w.heap.size + 1]? = some (.cells #[I x.prio, I vi, .bool x.full, I x.act, .int .u32 vm, I vn, .slice so.a so.n so.c, .int .u32 vb] 56 (0, 0)) := setRow_heap _ _ _ _ _ _ Y6
 refine wpAnyH_ready (rs := [27]) (by kernel_rfl) (by simp) ?_
 refine AllReadyH.cons rfl (fun K hK => ?_) AllReadyH.nil
 rw [if_pos (by kernel_rfl)]
 refine wp_store_row 56 _ _ rfl (w.heap.size + 1) _ rfl rfl 56 _ Y6 hi8 rfl (by simp [Value.oneCell']) ?_
 have hS7 := HS.out _ B6
 have hlt6 : w.heap.size < w6.heap.size := by have := heap_lt Y6; omega
 have q : ∀ b, b ≠ w.heap.size + 1 → b < w6.heap.size → ∀ i, (w6.setRow (w.heap.size + 1) #[I x.prio, I vi, .bool x.full, I x.act, .int .u32 vm, I vn, .slice so.a so.n so.c, .int .u32 vb]).cell? ⟨b, i, none⟩ = w6.cell? ⟨b, i, none⟩ := fun b hb hl i => World.cell?_of_block (grown_blk9 g7 hl (fun e => hb (Option.some.inj e)))
 have q2 : ∀ b, b ≠ w.heap.size + 1 → b < w6.heap.size → (w6.setRow (w.heap.size + 1) #[I x.prio, I vi, .bool x.full, I x.act, .int .u32 vm, I vn, .slice so.a so.n so.c, .int .u32 vb]).heap[b]? = w6.heap[b]? := fun b hb hl => grown_blk9 g7 hl (fun e => hb (Option.some.inj e))
 have l1 := heap_lt HK.out.1
 have l2 := heap_lt HK.out.2.1
 have l3 := heap_lt HK.out.2.2
 have ls := (HB.out _ B6).size
 refine hK.out _ _ ⟨by rw [q _ (by omega) hlt6]; exact hS7.1, by rw [q _ (by omega) hlt6]; exact hS7.2.1, by rw [q _ (by omega) hlt6]; exact hS7.2.2.1, by rw [q _ (by omega) hlt6]; exact hS7.2.2.2.1, by rw [q _ (by omega) hlt6]; exact hS7.2.2.2.2.1, by rw [q _ (by omega) hlt6]; exact hS7.2.2.2.2.2.1, by rw [q _ (by omega) (by omega)]; exact hS7.2.2.2.2.2.2.1, by rw [q2 _ (by omega) (by omega)]; exact hS7.2.2.2.2.2.2.2.1, by rw [q2 _ (by omega) (by omega)]; exact hS7.2.2.2.2.2.2.2.2⟩ (fun hHeld => ?_)
 clear hK K q q2
 refine wpAnyH_done (by kernel_rfl) ?_ _
 go_wp2_with fail
 refine bodyPost_ret (v := .agg #[I x.prio, I vi, .bool x.full, I x.act, .int .u32 vm, I vn, .slice so.a so.n so.c, .int .u32 vb]) (res_tr9 Tryz.results147 _ (w.heap.size + 1) _ _ hi8 rfl Y7) rfl ?_
 exact ⟨so, rfl, I7, B7⟩
end Go.Proofs.YtmidaeljeoifdaaGreatDoor
