import Derived.Test.YtmidaeljeoifdaaGreatDoorThg
import Derived.Test.YtmidaeljeoifdaaGreatDoorTcv
import Derived.Test.YtmidaeljeoifdaaGreatDoorTci
namespace Go.Proofs.YtmidaeljeoifdaaGreatDoor
set_option maxRecDepth 100000
set_option maxHeartbeats 16000000
open Go.RowKit Go.Shelf Go.Sort Go.Maps
set_option linter.unusedVariables false
set_option linter.unusedSimpArgs false
theorem res_rg9 {fn : Func} {n : Nat} (hf : fn.results = #[.cell n 52]) (tmps : Array Value) (b : Nat) (w : World) (v0 v1 : Value)
  (h2 : tmps[n]? = some (.pointer (some ⟨b, 0, none⟩))) (hk : w.heap[b]? = some (.cells #[v0, v1] 52 (0, 0))) : (results fn tmps).run Tryz.prog w = .ok (.agg #[v0, v1]) w := by
 have hr := run_loadVar_row w b 52 52 #[v0, v1] (0, 0) _ hk Tryz.underlying52 rfl (by kernel_rfl)
 simp [results, hf, h2, asAddr, hr]
theorem res_tb9 {fn : Func} {n : Nat} (hf : fn.results = #[.cell n 30]) (tmps : Array Value) (b : Nat) (w : World) (C : Array Value) (hi : (Tryz.prog.info? 30).map (·.size) = some C.size)
  (h2 : tmps[n]? = some (.pointer (some ⟨b, 0, none⟩))) (hk : w.heap[b]? = some (.cells C 30 (0, 0))) : (results fn tmps).run Tryz.prog w = .ok (.agg C) w := by
 have hr := run_loadVar_row w b 30 30 C (0, 0) _ hk Tryz.underlying30 rfl hi
 simp [results, hf, h2, asAddr, hr]
theorem tables1_any (w : World) (T : Nat) (st : Sl) (ts : List TkR) (hT : w.cell? ⟨T, 2, none⟩ = some (.slice st.a st.n st.c)) (hl : ∀ W, Below w.heap.size w W → RowsAt W 8 (tkrP W) st ts) (p : Int) : Calls Tryz.prog 94 (#[I p] ++ #[.pointer (some ⟨T, 0, none⟩)]) w fun e w' => e = .returned (.agg #[I p, I (IntKind.i64.wrap (capN ts p))]) ∧ Below w.heap.size w w' := by
 have hb := below_alloc w (.cells #[I 0, I 0] 52)
 have hV := heap_alloc_new w (.cells #[I 0, I 0] 52)
 have hlt := World.block_lt_of_cell? w _ hT
 have q2 : (w.alloc (.cells #[I 0, I 0] 52)).cell? ⟨T, 2, none⟩ = some (.slice st.a st.n st.c) := by rw [cell_below hb _ _ hlt]; exact hT
 have k1 := capacity_any (w.alloc (.cells #[I 0, I 0] 52)) st ts (fun W hW => hl W (hb.trans (hW.mono hb.size))) p
 obtain ⟨cp, hcp⟩ : ∃ cp, cp = IntKind.i64.wrap (capN ts p) := ⟨_, rfl⟩
 rw [← hcp] at k1 ⊢
 have HV : Hid _ := hV
 have HB : Hid _ := hb
 clear hcp hl hT hV hb
 go_enter Tryz.func94, Tryz.ntmps94
 go_upto_region 1 with fail
 generalize hW : w.alloc (.cells #[I 0, I 0] 52) = W1 at *
 clear hW
 go_wp2_with (first | (go_at_call 50; refine k1.mono ?_; clear k1; rintro e w2 ⟨rfl, b2⟩; have hV2 := (b2.block _ (heap_lt HV.out)).trans HV.out; have z0 := cell_of_row w2 _ 0 _ _ (0, 0) hV2; have z1 := cell_of_row w2 _ 1 _ _ (0, 0) hV2; simp at z0 z1; have y0 := frozen_of_row w2 w.heap.size 0 _ _ hV2; have y1 := frozen_of_row w2 w.heap.size 1 _ _ hV2))
 have hR : ((w2.setCell ⟨w.heap.size, 0, none⟩ (I p)).setCell ⟨w.heap.size, 1, none⟩ (I cp)).heap[w.heap.size]? = some (.cells #[I p, I cp] 52 (0, 0)) := heap_setCell_same _ _ 1 _ _ _ (heap_setCell_same w2 _ 0 _ _ _ hV2)
 refine bodyPost_ret (v := .agg #[I p, I cp]) (res_rg9 Tryz.results94 _ w.heap.size _ _ _ rfl hR) rfl ?_
 refine ⟨rfl, ?_⟩
 have b3 := HB.out.trans (b2.mono HB.out.size)
 exact (b3.grown (grown_set w2 w.heap.size 0 (I p)) b3.size (fun k e => by cases e; exact Nat.le_refl _)).grown (grown_set _ w.heap.size 1 (I cp)) (by simpa using b3.size) (fun k e => by cases e; exact Nat.le_refl _)
end Go.Proofs.YtmidaeljeoifdaaGreatDoor
