import Derived.Test.YtijgopkhdjaolaaGreatXHk2
import Derived.Deep.RegionHeldLaw
import Derived.Deep.DrawnRows
import Derived.Lib.SlBytesConst
namespace Go.Proofs.YtijgopkhdjaolaaGreat
open Go.RowKit Go.Shelf Go.Sort
open Go.Proofs.YtijgopkhdjaolaaGreat.Ob (leB leV qac qam crc Rd RdAll qad)
set_option linter.unusedSimpArgs false
set_option linter.unusedVariables false
set_option maxHeartbeats 16000000
set_option maxRecDepth 100000
theorem qjv (w : World) (tb : Tb) (v : Ts) (h : TbAt w tb v) (n : Nat) (hn : n < 256 ^ 4) (ok : okTb tb) : Calls Tryz.prog 68 #[.agg (tbC tb v),I n] w fun e w' => ∃ u,e = .returned u ∧ OwB w w' u (qaf tb n) := by
 have ez0 : v.t.n = tb.tasks.length := h.t.n
 have q0 : b16 (v.t.n : Int) := ⟨by omega,by have := ok.n0; rw [show (256 : Nat) ^ 2 = 65536 from rfl] at this; omega⟩
 have ez1 : v.g.n = tb.rings.length := h.g.n
 have q1 : b16 (v.g.n : Int) := ⟨by omega,by have := ok.n1; rw [show (256 : Nat) ^ 2 = 65536 from rfl] at this; omega⟩
 have ez2 : v.r.n = tb.ress.length := h.r.n
 have q2 : b16 (v.r.n : Int) := ⟨by omega,by have := ok.n2; rw [show (256 : Nat) ^ 2 = 65536 from rfl] at this; omega⟩
 have ez3 : v.k.n = tb.ctrs.length := h.k.n
 have q3 : b16 (v.k.n : Int) := ⟨by omega,by have := ok.n3; rw [show (256 : Nat) ^ 2 = 65536 from rfl] at this; omega⟩
 have ez4 : v.a.n = tb.als.length := h.a.n
 have q4 : b16 (v.a.n : Int) := ⟨by omega,by have := ok.n4; rw [show (256 : Nat) ^ 2 = 65536 from rfl] at this; omega⟩
 have ez5 : v.i.n = tb.isrs.length := h.i.n
 have q5 : b16 (v.i.n : Int) := ⟨by omega,by have := ok.n5; rw [show (256 : Nat) ^ 2 = 65536 from rfl] at this; omega⟩
 have ez6 : v.s.n = tb.msgs.length := h.s.n
 have q6 : b16 (v.s.n : Int) := ⟨by omega,by have := ok.n6; rw [show (256 : Nat) ^ 2 = 65536 from rfl] at this; omega⟩
 have hO0 := fun W => qkn W (n : Int) (n4 hn).1 (n4 hn).2
 have hO1 := fun W => qce W (v.t.n : Int) (i2 q0).1 (i2 q0).2
 have hO2 := fun W => qce W (v.g.n : Int) (i2 q1).1 (i2 q1).2
 have hO3 := fun W => qce W (v.r.n : Int) (i2 q2).1 (i2 q2).2
 have hO4 := fun W => qce W (v.k.n : Int) (i2 q3).1 (i2 q3).2
 have hO5 := fun W => qce W (v.a.n : Int) (i2 q4).1 (i2 q4).2
 have hO6 := fun W => qce W (v.i.n : Int) (i2 q5).1 (i2 q5).2
 have hO7 := fun W => qce W (v.s.n : Int) (i2 q6).1 (i2 q6).2
 have hO8 := fun W => qb2 W tb.uses (i1 ok.x0).1 (i1 ok.x0).2
 have hO9 := fun W => qb2 W tb.modes (i1 ok.x1).1 (i1 ok.x1).2
 have hO10 := fun W => qb2 W tb.depth (i1 ok.x2).1 (i1 ok.x2).2
 have hO11 := fun W => qb2 W tb.frames (i1 ok.x3).1 (i1 ok.x3).2
 have hO12 := fun W => qb2 W tb.errors (i1 ok.x4).1 (i1 ok.x4).2
 have hO13 := fun W => qb2 W tb.calls (i1 ok.x5).1 (i1 ok.x5).2
 have HO : Hid (∀ y ∈ [((n : Int),4),((v.t.n : Int),2),((v.g.n : Int),2),((v.r.n : Int),2),((v.k.n : Int),2),((v.a.n : Int),2),((v.i.n : Int),2),((v.s.n : Int),2),(tb.uses,1),(tb.modes,1),(tb.depth,1),(tb.frames,1),(tb.errors,1),(tb.calls,1)],okC y) := by
  intro y hx
  simp only [List.mem_cons,List.not_mem_nil,or_false] at hx
  rcases hx with rfl | rfl | rfl | rfl | rfl | rfl | rfl | rfl | rfl | rfl | rfl | rfl | rfl | rfl
  ·exact okC4 hn
  ·exact okC2 q0
  ·exact okC2 q1
  ·exact okC2 q2
  ·exact okC2 q3
  ·exact okC2 q4
  ·exact okC2 q5
  ·exact okC2 q6
  ·exact okC1 ok.x0
  ·exact okC1 ok.x1
  ·exact okC1 ok.x2
  ·exact okC1 ok.x3
  ·exact okC1 ok.x4
  ·exact okC1 ok.x5
 have hP := fun (W : World) (X : Nat) h => qbj (W := W) (X := X) (n := 14) [((n : Int),4),((v.t.n : Int),2),((v.g.n : Int),2),((v.r.n : Int),2),((v.k.n : Int),2),((v.a.n : Int),2),((v.i.n : Int),2),((v.s.n : Int),2),(tb.uses,1),(tb.modes,1),(tb.depth,1),(tb.frames,1),(tb.errors,1),(tb.calls,1)] h rfl HO.out (by simp)
 have HE : Hid (mrk ++ putB [((n : Int),4),((v.t.n : Int),2),((v.g.n : Int),2),((v.r.n : Int),2),((v.k.n : Int),2),((v.a.n : Int),2),((v.i.n : Int),2),((v.s.n : Int),2),(tb.uses,1),(tb.modes,1),(tb.depth,1),(tb.frames,1),(tb.errors,1),(tb.calls,1)] = qaf tb n) := by show _ = _; simp [putB,qaf,eCnt,eHd,e1,ez0,ez1,ez2,ez3,ez4,ez5,ez6]
 have HLEN : Hid (mrk.length + (putB [((n : Int),4),((v.t.n : Int),2),((v.g.n : Int),2),((v.r.n : Int),2),((v.k.n : Int),2),((v.a.n : Int),2),((v.i.n : Int),2),((v.s.n : Int),2),(tb.uses,1),(tb.modes,1),(tb.depth,1),(tb.frames,1),(tb.errors,1),(tb.calls,1)]).length ≤ 1000000) := by
  show _ ≤ _
  rw [← List.length_append,HE.out]
  simp only [qaf,eCnt,eHd,e1,mrk,List.length_append,List.length_cons,List.length_nil,qac]; omega
 have hb0 := qa0 w (.cells #[I tb.uses,I tb.modes, .slice v.t.a v.t.n v.t.c, .slice v.g.a v.g.n v.g.c, .slice v.r.a v.r.n v.r.c, .slice v.k.a v.k.n v.k.c, .slice v.a.a v.a.n v.a.c, .slice v.i.a v.i.n v.i.c, .slice v.s.a v.s.n v.s.c,I tb.depth,I tb.frames,I tb.errors,I tb.calls] 109)
 have hV0 := heap_alloc_new w (.cells #[I tb.uses,I tb.modes, .slice v.t.a v.t.n v.t.c, .slice v.g.a v.g.n v.g.c, .slice v.r.a v.r.n v.r.c, .slice v.k.a v.k.n v.k.c, .slice v.a.a v.a.n v.a.c, .slice v.i.a v.i.n v.i.c, .slice v.s.a v.s.n v.s.c,I tb.depth,I tb.frames,I tb.errors,I tb.calls] 109)
 have hb1 := qa0 (w.alloc (.cells #[I tb.uses,I tb.modes, .slice v.t.a v.t.n v.t.c, .slice v.g.a v.g.n v.g.c, .slice v.r.a v.r.n v.r.c, .slice v.k.a v.k.n v.k.c, .slice v.a.a v.a.n v.a.c, .slice v.i.a v.i.n v.i.c, .slice v.s.a v.s.n v.s.c,I tb.depth,I tb.frames,I tb.errors,I tb.calls] 109)) (.cells #[I tb.uses,I tb.modes, .slice v.t.a v.t.n v.t.c, .slice v.g.a v.g.n v.g.c, .slice v.r.a v.r.n v.r.c, .slice v.k.a v.k.n v.k.c, .slice v.a.a v.a.n v.a.c, .slice v.i.a v.i.n v.i.c, .slice v.s.a v.s.n v.s.c,I tb.depth,I tb.frames,I tb.errors,I tb.calls] 30)
 have hV1 := heap_alloc_new (w.alloc (.cells #[I tb.uses,I tb.modes, .slice v.t.a v.t.n v.t.c, .slice v.g.a v.g.n v.g.c, .slice v.r.a v.r.n v.r.c, .slice v.k.a v.k.n v.k.c, .slice v.a.a v.a.n v.a.c, .slice v.i.a v.i.n v.i.c, .slice v.s.a v.s.n v.s.c,I tb.depth,I tb.frames,I tb.errors,I tb.calls] 109)) (.cells #[I tb.uses,I tb.modes, .slice v.t.a v.t.n v.t.c, .slice v.g.a v.g.n v.g.c, .slice v.r.a v.r.n v.r.c, .slice v.k.a v.k.n v.k.c, .slice v.a.a v.a.n v.a.c, .slice v.i.a v.i.n v.i.c, .slice v.s.a v.s.n v.s.c,I tb.depth,I tb.frames,I tb.errors,I tb.calls] 30)
 have HB : Hid (Below w.heap.size w ((w.alloc (.cells #[I tb.uses,I tb.modes, .slice v.t.a v.t.n v.t.c, .slice v.g.a v.g.n v.g.c, .slice v.r.a v.r.n v.r.c, .slice v.k.a v.k.n v.k.c, .slice v.a.a v.a.n v.a.c, .slice v.i.a v.i.n v.i.c, .slice v.s.a v.s.n v.s.c,I tb.depth,I tb.frames,I tb.errors,I tb.calls] 109)).alloc (.cells #[I tb.uses,I tb.modes, .slice v.t.a v.t.n v.t.c, .slice v.g.a v.g.n v.g.c, .slice v.r.a v.r.n v.r.c, .slice v.k.a v.k.n v.k.c, .slice v.a.a v.a.n v.a.c, .slice v.i.a v.i.n v.i.c, .slice v.s.a v.s.n v.s.c,I tb.depth,I tb.frames,I tb.errors,I tb.calls] 30))) := belT hb0 hb1
 have HS0 : Hid (∀ W,Below ((w.alloc (.cells #[I tb.uses,I tb.modes, .slice v.t.a v.t.n v.t.c, .slice v.g.a v.g.n v.g.c, .slice v.r.a v.r.n v.r.c, .slice v.k.a v.k.n v.k.c, .slice v.a.a v.a.n v.a.c, .slice v.i.a v.i.n v.i.c, .slice v.s.a v.s.n v.s.c,I tb.depth,I tb.frames,I tb.errors,I tb.calls] 109)).alloc (.cells #[I tb.uses,I tb.modes, .slice v.t.a v.t.n v.t.c, .slice v.g.a v.g.n v.g.c, .slice v.r.a v.r.n v.r.c, .slice v.k.a v.k.n v.k.c, .slice v.a.a v.a.n v.a.c, .slice v.i.a v.i.n v.i.c, .slice v.s.a v.s.n v.s.c,I tb.depth,I tb.frames,I tb.errors,I tb.calls] 30)).heap.size ((w.alloc (.cells #[I tb.uses,I tb.modes, .slice v.t.a v.t.n v.t.c, .slice v.g.a v.g.n v.g.c, .slice v.r.a v.r.n v.r.c, .slice v.k.a v.k.n v.k.c, .slice v.a.a v.a.n v.a.c, .slice v.i.a v.i.n v.i.c, .slice v.s.a v.s.n v.s.c,I tb.depth,I tb.frames,I tb.errors,I tb.calls] 109)).alloc (.cells #[I tb.uses,I tb.modes, .slice v.t.a v.t.n v.t.c, .slice v.g.a v.g.n v.g.c, .slice v.r.a v.r.n v.r.c, .slice v.k.a v.k.n v.k.c, .slice v.a.a v.a.n v.a.c, .slice v.i.a v.i.n v.i.c, .slice v.s.a v.s.n v.s.c,I tb.depth,I tb.frames,I tb.errors,I tb.calls] 30)) W → (fun X => W.cell? ⟨X,0,none⟩ = some (I tb.uses) ∧ W.cell? ⟨X,1,none⟩ = some (I tb.modes) ∧ W.cell? ⟨X,2,none⟩ = some (.slice v.t.a v.t.n v.t.c) ∧ W.cell? ⟨X,3,none⟩ = some (.slice v.g.a v.g.n v.g.c) ∧ W.cell? ⟨X,4,none⟩ = some (.slice v.r.a v.r.n v.r.c) ∧ W.cell? ⟨X,5,none⟩ = some (.slice v.k.a v.k.n v.k.c) ∧ W.cell? ⟨X,6,none⟩ = some (.slice v.a.a v.a.n v.a.c) ∧ W.cell? ⟨X,7,none⟩ = some (.slice v.i.a v.i.n v.i.c) ∧ W.cell? ⟨X,8,none⟩ = some (.slice v.s.a v.s.n v.s.c) ∧ W.cell? ⟨X,9,none⟩ = some (I tb.depth) ∧ W.cell? ⟨X,10,none⟩ = some (I tb.frames) ∧ W.cell? ⟨X,11,none⟩ = some (I tb.errors) ∧ W.cell? ⟨X,12,none⟩ = some (I tb.calls)) (w.alloc (.cells #[I tb.uses,I tb.modes, .slice v.t.a v.t.n v.t.c, .slice v.g.a v.g.n v.g.c, .slice v.r.a v.r.n v.r.c, .slice v.k.a v.k.n v.k.c, .slice v.a.a v.a.n v.a.c, .slice v.i.a v.i.n v.i.c, .slice v.s.a v.s.n v.s.c,I tb.depth,I tb.frames,I tb.errors,I tb.calls] 109)).heap.size) := fun W hW => by
  have q := (hW.block _ (qa4 hV1)).trans hV1
  refine ⟨?_, ?_, ?_, ?_, ?_, ?_, ?_, ?_, ?_, ?_, ?_, ?_, ?_⟩ <;> (rw [cell_of_row _ _ _ _ _ (0,0) q]; rfl)
 unfold tbC
 clear hb0 hV0 hb1 hV1 h ez0 q0 ez1 q1 ez2 q2 ez3 q3 ez4 q4 ez5 q5 ez6 q6 hn ok
 go_enter Tryz.func68,Tryz.ntmps68
 go_upto_region 1 with fail
 go_upto_region 2 with fail
 generalize (w.alloc (.cells #[I tb.uses,I tb.modes, .slice v.t.a v.t.n v.t.c, .slice v.g.a v.g.n v.g.c, .slice v.r.a v.r.n v.r.c, .slice v.k.a v.k.n v.k.c, .slice v.a.a v.a.n v.a.c, .slice v.i.a v.i.n v.i.c, .slice v.s.a v.s.n v.s.c,I tb.depth,I tb.frames,I tb.errors,I tb.calls] 109)).alloc (.cells #[I tb.uses,I tb.modes, .slice v.t.a v.t.n v.t.c, .slice v.g.a v.g.n v.g.c, .slice v.r.a v.r.n v.r.c, .slice v.k.a v.k.n v.k.c, .slice v.a.a v.a.n v.a.c, .slice v.i.a v.i.n v.i.c, .slice v.s.a v.s.n v.s.c,I tb.depth,I tb.frames,I tb.errors,I tb.calls] 30) = w1 at *
 rw [qoi] at HS0
 generalize w.heap.size + 1 = X at *
 generalize hX0 : w.heap.size = X0 at *
 have HX0 : Hid (w.heap.size = X0) := hX0
 clear hX0
 have HS : Hid (∀ W,Below w1.heap.size w1 W → W.cell? ⟨X,0,none⟩ = some (I tb.uses) ∧ W.cell? ⟨X,1,none⟩ = some (I tb.modes) ∧ W.cell? ⟨X,2,none⟩ = some (.slice v.t.a v.t.n v.t.c) ∧ W.cell? ⟨X,3,none⟩ = some (.slice v.g.a v.g.n v.g.c) ∧ W.cell? ⟨X,4,none⟩ = some (.slice v.r.a v.r.n v.r.c) ∧ W.cell? ⟨X,5,none⟩ = some (.slice v.k.a v.k.n v.k.c) ∧ W.cell? ⟨X,6,none⟩ = some (.slice v.a.a v.a.n v.a.c) ∧ W.cell? ⟨X,7,none⟩ = some (.slice v.i.a v.i.n v.i.c) ∧ W.cell? ⟨X,8,none⟩ = some (.slice v.s.a v.s.n v.s.c) ∧ W.cell? ⟨X,9,none⟩ = some (I tb.depth) ∧ W.cell? ⟨X,10,none⟩ = some (I tb.frames) ∧ W.cell? ⟨X,11,none⟩ = some (I tb.errors) ∧ W.cell? ⟨X,12,none⟩ = some (I tb.calls)) := HS0.out
 have HC := HS.out w1.drew (Below.refl w1.heap.size w1).drew
 refine wp_region_held_drew (S := fun W => W.cell? ⟨X,0,none⟩ = some (I tb.uses) ∧ W.cell? ⟨X,1,none⟩ = some (I tb.modes) ∧ W.cell? ⟨X,2,none⟩ = some (.slice v.t.a v.t.n v.t.c) ∧ W.cell? ⟨X,3,none⟩ = some (.slice v.g.a v.g.n v.g.c) ∧ W.cell? ⟨X,4,none⟩ = some (.slice v.r.a v.r.n v.r.c) ∧ W.cell? ⟨X,5,none⟩ = some (.slice v.k.a v.k.n v.k.c) ∧ W.cell? ⟨X,6,none⟩ = some (.slice v.a.a v.a.n v.a.c) ∧ W.cell? ⟨X,7,none⟩ = some (.slice v.i.a v.i.n v.i.c) ∧ W.cell? ⟨X,8,none⟩ = some (.slice v.s.a v.s.n v.s.c) ∧ W.cell? ⟨X,9,none⟩ = some (I tb.depth) ∧ W.cell? ⟨X,10,none⟩ = some (I tb.frames) ∧ W.cell? ⟨X,11,none⟩ = some (I tb.errors) ∧ W.cell? ⟨X,12,none⟩ = some (I tb.calls)) (by kernel_rfl) HC (fun hHeld => ?_)
 clear HC
 change wpAnyH _ _ _ _ _ _ #[false,false,false,false,false,false,false,false,false,false,false,false,false,false,false,false,false,false,false,false,false,false,false,false,false,false,false,false,false,false,false,false,false,false,false,false,false,false,false,false,false,false,false,false,false,false,false,false,false,false,false,false,false,false,false] _ _
 try simp only [Act.put,q7a,q7b,q7c,q7d,q7e,q7f]
 refine wpAnyH_take (i := 2) (v := I n) rfl (by kernel_rfl) (by kernel_rfl) (by kernel_rfl) (fun _ _ _ h => h) (Or.inl ⟨by rfl, ?_⟩) hHeld ?_
 ·intro w' hSw
  try dsimp only at hSw
  clear hHeld
  go_simp
 try simp only [Act.put,q7a,q7b,q7c,q7d,q7e,q7f]
 refine wpAnyH_take (i := 4) (v := .pointer (some ⟨X,2,none⟩)) rfl (by kernel_rfl) (by kernel_rfl) (by kernel_rfl) (fun _ _ _ h => h) (Or.inl ⟨by rfl, ?_⟩) hHeld ?_
 ·intro w' hSw
  try dsimp only at hSw
  clear hHeld
  go_simp
 try simp only [Act.put,q7a,q7b,q7c,q7d,q7e,q7f]
 refine wpAnyH_take (i := 5) (v := .slice v.t.a v.t.n v.t.c) rfl (by kernel_rfl) (by kernel_rfl) (by kernel_rfl) (fun _ _ _ h => h) (Or.inl ⟨by rfl, ?_⟩) hHeld ?_
 ·intro w' hSw
  try dsimp only at hSw
  clear hHeld
  go_simp
 try simp only [Act.put,q7a,q7b,q7c,q7d,q7e,q7f]
 refine wpAnyH_take (i := 6) (v := I v.t.n) rfl (by kernel_rfl) (by kernel_rfl) (by kernel_rfl) (fun _ _ _ h => h) (Or.inl ⟨by rfl, ?_⟩) hHeld ?_
 ·intro w' hSw
  try dsimp only at hSw
  clear hHeld
  go_simp
 try simp only [Act.put,q7a,q7b,q7c,q7d,q7e,q7f]
 refine wpAnyH_take (i := 8) (v := .pointer (some ⟨X,3,none⟩)) rfl (by kernel_rfl) (by kernel_rfl) (by kernel_rfl) (fun _ _ _ h => h) (Or.inl ⟨by rfl, ?_⟩) hHeld ?_
 ·intro w' hSw
  try dsimp only at hSw
  clear hHeld
  go_simp
 try simp only [Act.put,q7a,q7b,q7c,q7d,q7e,q7f]
 refine wpAnyH_take (i := 9) (v := .slice v.g.a v.g.n v.g.c) rfl (by kernel_rfl) (by kernel_rfl) (by kernel_rfl) (fun _ _ _ h => h) (Or.inl ⟨by rfl, ?_⟩) hHeld ?_
 ·intro w' hSw
  try dsimp only at hSw
  clear hHeld
  go_simp
 try simp only [Act.put,q7a,q7b,q7c,q7d,q7e,q7f]
 refine wpAnyH_take (i := 10) (v := I v.g.n) rfl (by kernel_rfl) (by kernel_rfl) (by kernel_rfl) (fun _ _ _ h => h) (Or.inl ⟨by rfl, ?_⟩) hHeld ?_
 ·intro w' hSw
  try dsimp only at hSw
  clear hHeld
  go_simp
 try simp only [Act.put,q7a,q7b,q7c,q7d,q7e,q7f]
 refine wpAnyH_take (i := 12) (v := .pointer (some ⟨X,4,none⟩)) rfl (by kernel_rfl) (by kernel_rfl) (by kernel_rfl) (fun _ _ _ h => h) (Or.inl ⟨by rfl, ?_⟩) hHeld ?_
 ·intro w' hSw
  try dsimp only at hSw
  clear hHeld
  go_simp
 try simp only [Act.put,q7a,q7b,q7c,q7d,q7e,q7f]
 refine wpAnyH_take (i := 13) (v := .slice v.r.a v.r.n v.r.c) rfl (by kernel_rfl) (by kernel_rfl) (by kernel_rfl) (fun _ _ _ h => h) (Or.inl ⟨by rfl, ?_⟩) hHeld ?_
 ·intro w' hSw
  try dsimp only at hSw
  clear hHeld
  go_simp
 try simp only [Act.put,q7a,q7b,q7c,q7d,q7e,q7f]
 refine wpAnyH_take (i := 14) (v := I v.r.n) rfl (by kernel_rfl) (by kernel_rfl) (by kernel_rfl) (fun _ _ _ h => h) (Or.inl ⟨by rfl, ?_⟩) hHeld ?_
 ·intro w' hSw
  try dsimp only at hSw
  clear hHeld
  go_simp
 try simp only [Act.put,q7a,q7b,q7c,q7d,q7e,q7f]
 refine wpAnyH_take (i := 16) (v := .pointer (some ⟨X,5,none⟩)) rfl (by kernel_rfl) (by kernel_rfl) (by kernel_rfl) (fun _ _ _ h => h) (Or.inl ⟨by rfl, ?_⟩) hHeld ?_
 ·intro w' hSw
  try dsimp only at hSw
  clear hHeld
  go_simp
 try simp only [Act.put,q7a,q7b,q7c,q7d,q7e,q7f]
 refine wpAnyH_take (i := 17) (v := .slice v.k.a v.k.n v.k.c) rfl (by kernel_rfl) (by kernel_rfl) (by kernel_rfl) (fun _ _ _ h => h) (Or.inl ⟨by rfl, ?_⟩) hHeld ?_
 ·intro w' hSw
  try dsimp only at hSw
  clear hHeld
  go_simp
 try simp only [Act.put,q7a,q7b,q7c,q7d,q7e,q7f]
 refine wpAnyH_take (i := 18) (v := I v.k.n) rfl (by kernel_rfl) (by kernel_rfl) (by kernel_rfl) (fun _ _ _ h => h) (Or.inl ⟨by rfl, ?_⟩) hHeld ?_
 ·intro w' hSw
  try dsimp only at hSw
  clear hHeld
  go_simp
 try simp only [Act.put,q7a,q7b,q7c,q7d,q7e,q7f]
 refine wpAnyH_take (i := 20) (v := .pointer (some ⟨X,6,none⟩)) rfl (by kernel_rfl) (by kernel_rfl) (by kernel_rfl) (fun _ _ _ h => h) (Or.inl ⟨by rfl, ?_⟩) hHeld ?_
 ·intro w' hSw
  try dsimp only at hSw
  clear hHeld
  go_simp
 try simp only [Act.put,q7a,q7b,q7c,q7d,q7e,q7f]
 refine wpAnyH_take (i := 21) (v := .slice v.a.a v.a.n v.a.c) rfl (by kernel_rfl) (by kernel_rfl) (by kernel_rfl) (fun _ _ _ h => h) (Or.inl ⟨by rfl, ?_⟩) hHeld ?_
 ·intro w' hSw
  try dsimp only at hSw
  clear hHeld
  go_simp
 try simp only [Act.put,q7a,q7b,q7c,q7d,q7e,q7f]
 refine wpAnyH_take (i := 22) (v := I v.a.n) rfl (by kernel_rfl) (by kernel_rfl) (by kernel_rfl) (fun _ _ _ h => h) (Or.inl ⟨by rfl, ?_⟩) hHeld ?_
 ·intro w' hSw
  try dsimp only at hSw
  clear hHeld
  go_simp
 try simp only [Act.put,q7a,q7b,q7c,q7d,q7e,q7f]
 refine wpAnyH_take (i := 24) (v := .pointer (some ⟨X,7,none⟩)) rfl (by kernel_rfl) (by kernel_rfl) (by kernel_rfl) (fun _ _ _ h => h) (Or.inl ⟨by rfl, ?_⟩) hHeld ?_
 ·intro w' hSw
  try dsimp only at hSw
  clear hHeld
  go_simp
 try simp only [Act.put,q7a,q7b,q7c,q7d,q7e,q7f]
 refine wpAnyH_take (i := 25) (v := .slice v.i.a v.i.n v.i.c) rfl (by kernel_rfl) (by kernel_rfl) (by kernel_rfl) (fun _ _ _ h => h) (Or.inl ⟨by rfl, ?_⟩) hHeld ?_
 ·intro w' hSw
  try dsimp only at hSw
  clear hHeld
  go_simp
 try simp only [Act.put,q7a,q7b,q7c,q7d,q7e,q7f]
 refine wpAnyH_take (i := 26) (v := I v.i.n) rfl (by kernel_rfl) (by kernel_rfl) (by kernel_rfl) (fun _ _ _ h => h) (Or.inl ⟨by rfl, ?_⟩) hHeld ?_
 ·intro w' hSw
  try dsimp only at hSw
  clear hHeld
  go_simp
 try simp only [Act.put,q7a,q7b,q7c,q7d,q7e,q7f]
 refine wpAnyH_take (i := 28) (v := .pointer (some ⟨X,8,none⟩)) rfl (by kernel_rfl) (by kernel_rfl) (by kernel_rfl) (fun _ _ _ h => h) (Or.inl ⟨by rfl, ?_⟩) hHeld ?_
 ·intro w' hSw
  try dsimp only at hSw
  clear hHeld
  go_simp
 try simp only [Act.put,q7a,q7b,q7c,q7d,q7e,q7f]
 refine wpAnyH_take (i := 29) (v := .slice v.s.a v.s.n v.s.c) rfl (by kernel_rfl) (by kernel_rfl) (by kernel_rfl) (fun _ _ _ h => h) (Or.inl ⟨by rfl, ?_⟩) hHeld ?_
 ·intro w' hSw
  try dsimp only at hSw
  clear hHeld
  go_simp
 try simp only [Act.put,q7a,q7b,q7c,q7d,q7e,q7f]
 refine wpAnyH_take (i := 30) (v := I v.s.n) rfl (by kernel_rfl) (by kernel_rfl) (by kernel_rfl) (fun _ _ _ h => h) (Or.inl ⟨by rfl, ?_⟩) hHeld ?_
 ·intro w' hSw
  try dsimp only at hSw
  clear hHeld
  go_simp
 try simp only [Act.put,q7a,q7b,q7c,q7d,q7e,q7f]
 refine wpAnyH_take (i := 32) (v := .pointer (some ⟨X,0,none⟩)) rfl (by kernel_rfl) (by kernel_rfl) (by kernel_rfl) (fun _ _ _ h => h) (Or.inl ⟨by rfl, ?_⟩) hHeld ?_
 ·intro w' hSw
  try dsimp only at hSw
  clear hHeld
  go_simp
 try simp only [Act.put,q7a,q7b,q7c,q7d,q7e,q7f]
 refine wpAnyH_take (i := 33) (v := I tb.uses) rfl (by kernel_rfl) (by kernel_rfl) (by kernel_rfl) (fun _ _ _ h => h) (Or.inl ⟨by rfl, ?_⟩) hHeld ?_
 ·intro w' hSw
  try dsimp only at hSw
  clear hHeld
  go_simp
 try simp only [Act.put,q7a,q7b,q7c,q7d,q7e,q7f]
 refine wpAnyH_take (i := 35) (v := .pointer (some ⟨X,1,none⟩)) rfl (by kernel_rfl) (by kernel_rfl) (by kernel_rfl) (fun _ _ _ h => h) (Or.inl ⟨by rfl, ?_⟩) hHeld ?_
 ·intro w' hSw
  try dsimp only at hSw
  clear hHeld
  go_simp
 try simp only [Act.put,q7a,q7b,q7c,q7d,q7e,q7f]
 refine wpAnyH_take (i := 36) (v := I tb.modes) rfl (by kernel_rfl) (by kernel_rfl) (by kernel_rfl) (fun _ _ _ h => h) (Or.inl ⟨by rfl, ?_⟩) hHeld ?_
 ·intro w' hSw
  try dsimp only at hSw
  clear hHeld
  go_simp
 try simp only [Act.put,q7a,q7b,q7c,q7d,q7e,q7f]
 refine wpAnyH_take (i := 38) (v := .pointer (some ⟨X,9,none⟩)) rfl (by kernel_rfl) (by kernel_rfl) (by kernel_rfl) (fun _ _ _ h => h) (Or.inl ⟨by rfl, ?_⟩) hHeld ?_
 ·intro w' hSw
  try dsimp only at hSw
  clear hHeld
  go_simp
 try simp only [Act.put,q7a,q7b,q7c,q7d,q7e,q7f]
 refine wpAnyH_take (i := 39) (v := I tb.depth) rfl (by kernel_rfl) (by kernel_rfl) (by kernel_rfl) (fun _ _ _ h => h) (Or.inl ⟨by rfl, ?_⟩) hHeld ?_
 ·intro w' hSw
  try dsimp only at hSw
  clear hHeld
  go_simp
 try simp only [Act.put,q7a,q7b,q7c,q7d,q7e,q7f]
 refine wpAnyH_take (i := 41) (v := .pointer (some ⟨X,10,none⟩)) rfl (by kernel_rfl) (by kernel_rfl) (by kernel_rfl) (fun _ _ _ h => h) (Or.inl ⟨by rfl, ?_⟩) hHeld ?_
 ·intro w' hSw
  try dsimp only at hSw
  clear hHeld
  go_simp
 try simp only [Act.put,q7a,q7b,q7c,q7d,q7e,q7f]
 refine wpAnyH_take (i := 42) (v := I tb.frames) rfl (by kernel_rfl) (by kernel_rfl) (by kernel_rfl) (fun _ _ _ h => h) (Or.inl ⟨by rfl, ?_⟩) hHeld ?_
 ·intro w' hSw
  try dsimp only at hSw
  clear hHeld
  go_simp
 try simp only [Act.put,q7a,q7b,q7c,q7d,q7e,q7f]
 refine wpAnyH_take (i := 44) (v := .pointer (some ⟨X,11,none⟩)) rfl (by kernel_rfl) (by kernel_rfl) (by kernel_rfl) (fun _ _ _ h => h) (Or.inl ⟨by rfl, ?_⟩) hHeld ?_
 ·intro w' hSw
  try dsimp only at hSw
  clear hHeld
  go_simp
 try simp only [Act.put,q7a,q7b,q7c,q7d,q7e,q7f]
 refine wpAnyH_take (i := 45) (v := I tb.errors) rfl (by kernel_rfl) (by kernel_rfl) (by kernel_rfl) (fun _ _ _ h => h) (Or.inl ⟨by rfl, ?_⟩) hHeld ?_
 ·intro w' hSw
  try dsimp only at hSw
  clear hHeld
  go_simp
 try simp only [Act.put,q7a,q7b,q7c,q7d,q7e,q7f]
 refine wpAnyH_take (i := 47) (v := .pointer (some ⟨X,12,none⟩)) rfl (by kernel_rfl) (by kernel_rfl) (by kernel_rfl) (fun _ _ _ h => h) (Or.inl ⟨by rfl, ?_⟩) hHeld ?_
 ·intro w' hSw
  try dsimp only at hSw
  clear hHeld
  go_simp
 try simp only [Act.put,q7a,q7b,q7c,q7d,q7e,q7f]
 refine wpAnyH_take (i := 48) (v := I tb.calls) rfl (by kernel_rfl) (by kernel_rfl) (by kernel_rfl) (fun _ _ _ h => h) (Or.inl ⟨by rfl, ?_⟩) hHeld ?_
 ·intro w' hSw
  try dsimp only at hSw
  clear hHeld
  go_simp
 try simp only [Act.put,q7a,q7b,q7c,q7d,q7e,q7f]
 clear hHeld
 refine qdo (fun G HG => ?_)
 dsimp only
 obtain ⟨T1,hT1⟩ : ∃ T : Value → Value → Value → Value → Value → Value → Value → Value → Value → Value → Value → Value → Value → Value → Value → Value → Value → Value → Array Value,T = fun y8 y9 y11 y15 y19 y23 y27 y31 y35 y39 y42 y45 y48 y51 y54 y57 y58 y59 => #[.agg #[I tb.uses,I tb.modes, .slice v.t.a v.t.n v.t.c, .slice v.g.a v.g.n v.g.c, .slice v.r.a v.r.n v.r.c, .slice v.k.a v.k.n v.k.c, .slice v.a.a v.a.n v.a.c, .slice v.i.a v.i.n v.i.c, .slice v.s.a v.s.n v.s.c,I tb.depth,I tb.frames,I tb.errors,I tb.calls],I n, .pointer (some ⟨X0,0,none⟩),undef, .slice none 0 0, .pointer (some ⟨X,0,none⟩), .pointer (some ⟨X0,0,none⟩), .agg #[I tb.uses,I tb.modes, .slice v.t.a v.t.n v.t.c, .slice v.g.a v.g.n v.g.c, .slice v.r.a v.r.n v.r.c, .slice v.k.a v.k.n v.k.c, .slice v.a.a v.a.n v.a.c, .slice v.i.a v.i.n v.i.c, .slice v.s.a v.s.n v.s.c,I tb.depth,I tb.frames,I tb.errors,I tb.calls],y8,y9,I n,y11, .pointer (some ⟨X,2,none⟩), .slice v.t.a v.t.n v.t.c,I v.t.n,y15, .pointer (some ⟨X,3,none⟩), .slice v.g.a v.g.n v.g.c,I v.g.n,y19, .pointer (some ⟨X,4,none⟩), .slice v.r.a v.r.n v.r.c,I v.r.n,y23, .pointer (some ⟨X,5,none⟩), .slice v.k.a v.k.n v.k.c,I v.k.n,y27, .pointer (some ⟨X,6,none⟩), .slice v.a.a v.a.n v.a.c,I v.a.n,y31, .pointer (some ⟨X,7,none⟩), .slice v.i.a v.i.n v.i.c,I v.i.n,y35, .pointer (some ⟨X,8,none⟩), .slice v.s.a v.s.n v.s.c,I v.s.n,y39, .pointer (some ⟨X,0,none⟩),I tb.uses,y42, .pointer (some ⟨X,1,none⟩),I tb.modes,y45, .pointer (some ⟨X,9,none⟩),I tb.depth,y48, .pointer (some ⟨X,10,none⟩),I tb.frames,y51, .pointer (some ⟨X,11,none⟩),I tb.errors,y54, .pointer (some ⟨X,12,none⟩),I tb.calls,y57,y58,y59,undef,undef] := ⟨_,rfl⟩
 have KT16 : Hid (∀ (W : World) (M : Nat) (Y : Nat) (ay : Option Addr) (cy : Nat),Below w1.heap.size w1 W → (rdV W 1 (.slice (some ⟨M,0,none⟩) 4 4) mrk.length (Bs8 mrk)) → (rdV W 1 (.slice ay (putB [((n : Int),4),((v.t.n : Int),2),((v.g.n : Int),2),((v.r.n : Int),2),((v.k.n : Int),2),((v.a.n : Int),2),((v.i.n : Int),2),((v.s.n : Int),2),(tb.uses,1),(tb.modes,1),(tb.depth,1),(tb.frames,1),(tb.errors,1),(tb.calls,1)]).length cy) (putB [((n : Int),4),((v.t.n : Int),2),((v.g.n : Int),2),((v.r.n : Int),2),((v.k.n : Int),2),((v.a.n : Int),2),((v.i.n : Int),2),((v.s.n : Int),2),(tb.uses,1),(tb.modes,1),(tb.depth,1),(tb.frames,1),(tb.errors,1),(tb.calls,1)]).length (Bs8 (putB [((n : Int),4),((v.t.n : Int),2),((v.g.n : Int),2),((v.r.n : Int),2),((v.k.n : Int),2),((v.a.n : Int),2),((v.i.n : Int),2),((v.s.n : Int),2),(tb.uses,1),(tb.modes,1),(tb.depth,1),(tb.frames,1),(tb.errors,1),(tb.calls,1)]))) → G 3 #[true,true,true,true,true,true,true,true,true,true,true,true,true,true,true,true,true,true,true,true,true,true,true,true,true,true,true,true,true,true,true,true,true,true,true,true,true,true,true,true,true,true,true,true,true,true,true,true,true,true,true,true,false,false,false] (T1 (.slice (some ⟨M,0,none⟩) 4 4) (.slice (some ⟨M,0,none⟩) 4 4) (cV (n : Int) 4) (cV (v.t.n : Int) 2) (cV (v.g.n : Int) 2) (cV (v.r.n : Int) 2) (cV (v.k.n : Int) 2) (cV (v.a.n : Int) 2) (cV (v.i.n : Int) 2) (cV (v.s.n : Int) 2) (cV tb.uses 1) (cV tb.modes 1) (cV tb.depth 1) (cV tb.frames 1) (cV tb.errors 1) (cV tb.calls 1) (.slice (some ⟨Y,0,none⟩) 14 14) (.slice ay (putB [((n : Int),4),((v.t.n : Int),2),((v.g.n : Int),2),((v.r.n : Int),2),((v.k.n : Int),2),((v.a.n : Int),2),((v.i.n : Int),2),((v.s.n : Int),2),(tb.uses,1),(tb.modes,1),(tb.depth,1),(tb.frames,1),(tb.errors,1),(tb.calls,1)]).length cy)) W) := fun W M Y ay cy hb g0 k0 => by
  subst hT1
  rw [HG.out]
  dsimp only
  refine wpAnyH_ready (rs := [52]) (by kernel_rfl) (by simp) ?_
  refine AllReadyH.cons rfl (fun K hK => ?_) ?_
  ·go_simp
   refine hK.out _ _ (HS.out _ (belA hb)) (fun _ => ?_)
   clear hK K
   try simp only [Act.put,q7a,q7b,q7c,q7d,q7e,q7f]
   refine wpAnyH_ready (rs := [53]) (by kernel_rfl) (by simp) ?_
   refine AllReadyH.cons rfl (fun K hK => ?_) AllReadyH.nil
   go_simp
   go_wp2_with (first | (go_at_call 66; refine (qn2 (w := w1) (belA hb) (heap_alloc_new _ _) (qfx g0) (qfx k0) HLEN.out).mono ?_; rintro e w9 ⟨u,rfl,o9⟩; have K9 : Hid (OwB w1 w9 u (mrk ++ (putB [((n : Int),4),((v.t.n : Int),2),((v.g.n : Int),2),((v.r.n : Int),2),((v.k.n : Int),2),((v.a.n : Int),2),((v.i.n : Int),2),((v.s.n : Int),2),(tb.uses,1),(tb.modes,1),(tb.depth,1),(tb.frames,1),(tb.errors,1),(tb.calls,1)]))) := o9; clear o9))
   refine hK.out _ _ (HS.out _ K9.out.2) (fun _ => ?_)
   clear hK K
   try simp only [Act.put,q7a,q7b,q7c,q7d,q7e,q7f]
   refine wpAnyH_ready (rs := [54]) (by kernel_rfl) (by simp) ?_
   refine AllReadyH.cons rfl (fun K hK => ?_) AllReadyH.nil
   go_simp
   refine hK.out _ _ (HS.out _ K9.out.2) (fun _ => ?_)
   clear hK K
   try simp only [Act.put,q7a,q7b,q7c,q7d,q7e,q7f]
   refine wpAnyH_done (by kernel_rfl) ?_ _
   go_wp2
   go_ret
   have hB := HB.out
   rw [← HX0.out] at hB
   have := qbd hB K9.out
   rw [HE.out] at this
   exact ⟨_,rfl,this⟩
  exact AllReadyH.nil
 have KM16 : Hid (∀ (W : World) (M : Nat) (Y : Nat) (ay : Option Addr) (cy : Nat),Below w1.heap.size w1 W → (w1.heap.size ≤ M) → (W.heap[M]? = some mkO) → (rdV W 1 (.slice ay (putB [((n : Int),4),((v.t.n : Int),2),((v.g.n : Int),2),((v.r.n : Int),2),((v.k.n : Int),2),((v.a.n : Int),2),((v.i.n : Int),2),((v.s.n : Int),2),(tb.uses,1),(tb.modes,1),(tb.depth,1),(tb.frames,1),(tb.errors,1),(tb.calls,1)]).length cy) (putB [((n : Int),4),((v.t.n : Int),2),((v.g.n : Int),2),((v.r.n : Int),2),((v.k.n : Int),2),((v.a.n : Int),2),((v.i.n : Int),2),((v.s.n : Int),2),(tb.uses,1),(tb.modes,1),(tb.depth,1),(tb.frames,1),(tb.errors,1),(tb.calls,1)]).length (Bs8 (putB [((n : Int),4),((v.t.n : Int),2),((v.g.n : Int),2),((v.r.n : Int),2),((v.k.n : Int),2),((v.a.n : Int),2),((v.i.n : Int),2),((v.s.n : Int),2),(tb.uses,1),(tb.modes,1),(tb.depth,1),(tb.frames,1),(tb.errors,1),(tb.calls,1)]))) → (∀ g o,ay = some ⟨g,o,none⟩ → g ≠ M) → G 4 #[true,false,true,true,true,true,true,true,true,true,true,true,true,true,true,true,true,true,true,true,true,true,true,true,true,true,true,true,true,true,true,true,true,true,true,true,true,true,true,true,true,true,true,true,true,true,true,true,true,true,true,true,false,false,false] (T1 (.slice (some ⟨M,0,none⟩) 4 4) undef (cV (n : Int) 4) (cV (v.t.n : Int) 2) (cV (v.g.n : Int) 2) (cV (v.r.n : Int) 2) (cV (v.k.n : Int) 2) (cV (v.a.n : Int) 2) (cV (v.i.n : Int) 2) (cV (v.s.n : Int) 2) (cV tb.uses 1) (cV tb.modes 1) (cV tb.depth 1) (cV tb.frames 1) (cV tb.errors 1) (cV tb.calls 1) (.slice (some ⟨Y,0,none⟩) 14 14) (.slice ay (putB [((n : Int),4),((v.t.n : Int),2),((v.g.n : Int),2),((v.r.n : Int),2),((v.k.n : Int),2),((v.a.n : Int),2),((v.i.n : Int),2),((v.s.n : Int),2),(tb.uses,1),(tb.modes,1),(tb.depth,1),(tb.frames,1),(tb.errors,1),(tb.calls,1)]).length cy)) W) := fun W M Y ay cy hb g0 g1 k0 k1 => by
  subst hT1
  rw [HG.out]
  dsimp only
  refine wpAnyH_ready (rs := [1]) (by kernel_rfl) (by simp) ?_
  refine AllReadyH.cons rfl (fun K hK => ?_) ?_
  ·have hcv := qb4 g1
   go_simp
   refine hK.out _ _ (HS.out _ (qaj hb g0)) (fun _ => ?_)
   try simp only [Act.put,q7a,q7b,q7c,q7d,q7e,q7f]
   exact (HG.out _ _ _ _).mp (KT16.out _ _ _ _ _ (qaj hb g0) (qbe g1) (qn0 k0 k1))
  exact AllReadyH.nil
 have KF16 : Hid (∀ (W : World) (Y : Nat) (ay : Option Addr) (cy : Nat),Below w1.heap.size w1 W → (rdV W 1 (.slice ay (putB [((n : Int),4),((v.t.n : Int),2),((v.g.n : Int),2),((v.r.n : Int),2),((v.k.n : Int),2),((v.a.n : Int),2),((v.i.n : Int),2),((v.s.n : Int),2),(tb.uses,1),(tb.modes,1),(tb.depth,1),(tb.frames,1),(tb.errors,1),(tb.calls,1)]).length cy) (putB [((n : Int),4),((v.t.n : Int),2),((v.g.n : Int),2),((v.r.n : Int),2),((v.k.n : Int),2),((v.a.n : Int),2),((v.i.n : Int),2),((v.s.n : Int),2),(tb.uses,1),(tb.modes,1),(tb.depth,1),(tb.frames,1),(tb.errors,1),(tb.calls,1)]).length (Bs8 (putB [((n : Int),4),((v.t.n : Int),2),((v.g.n : Int),2),((v.r.n : Int),2),((v.k.n : Int),2),((v.a.n : Int),2),((v.i.n : Int),2),((v.s.n : Int),2),(tb.uses,1),(tb.modes,1),(tb.depth,1),(tb.frames,1),(tb.errors,1),(tb.calls,1)]))) → G 5 #[false,false,true,true,true,true,true,true,true,true,true,true,true,true,true,true,true,true,true,true,true,true,true,true,true,true,true,true,true,true,true,true,true,true,true,true,true,true,true,true,true,true,true,true,true,true,true,true,true,true,true,true,false,false,false] (T1 undef undef (cV (n : Int) 4) (cV (v.t.n : Int) 2) (cV (v.g.n : Int) 2) (cV (v.r.n : Int) 2) (cV (v.k.n : Int) 2) (cV (v.a.n : Int) 2) (cV (v.i.n : Int) 2) (cV (v.s.n : Int) 2) (cV tb.uses 1) (cV tb.modes 1) (cV tb.depth 1) (cV tb.frames 1) (cV tb.errors 1) (cV tb.calls 1) (.slice (some ⟨Y,0,none⟩) 14 14) (.slice ay (putB [((n : Int),4),((v.t.n : Int),2),((v.g.n : Int),2),((v.r.n : Int),2),((v.k.n : Int),2),((v.a.n : Int),2),((v.i.n : Int),2),((v.s.n : Int),2),(tb.uses,1),(tb.modes,1),(tb.depth,1),(tb.frames,1),(tb.errors,1),(tb.calls,1)]).length cy)) W) := fun W Y ay cy hb k0 => by
  subst hT1
  rw [HG.out]
  dsimp only
  refine wpAnyH_ready (rs := [0]) (by kernel_rfl) (by simp) ?_
  refine AllReadyH.cons rfl (fun K hK => ?_) ?_
  ·go_simp
   refine hK.out _ _ (HS.out _ (belA hb)) (fun _ => ?_)
   try simp only [Act.put,q7a,q7b,q7c,q7d,q7e,q7f]
   exact (HG.out _ _ _ _).mp (KM16.out _ _ _ _ _ (belA hb) hb.size (heap_alloc_new _ _) (qfx k0) (fun g o e => by have := qoj k0 g o e; omega))
  exact AllReadyH.nil
 have KT15 : Hid (∀ (W : World) (M : Nat) (Y : Nat),Below w1.heap.size w1 W → (rdV W 1 (.slice (some ⟨M,0,none⟩) 4 4) mrk.length (Bs8 mrk)) → (W.heap[Y]? = some (.cells (([((n : Int),4),((v.t.n : Int),2),((v.g.n : Int),2),((v.r.n : Int),2),((v.k.n : Int),2),((v.a.n : Int),2),((v.i.n : Int),2),((v.s.n : Int),2),(tb.uses,1),(tb.modes,1),(tb.depth,1),(tb.frames,1),(tb.errors,1),(tb.calls,1)]).flatMap qby).toArray 114)) → G 4 #[true,true,true,true,true,true,true,true,true,true,true,true,true,true,true,true,true,true,true,true,true,true,true,true,true,true,true,true,true,true,true,true,true,true,true,true,true,true,true,true,true,true,true,true,true,true,true,true,true,true,true,false,false,false,false] (T1 (.slice (some ⟨M,0,none⟩) 4 4) (.slice (some ⟨M,0,none⟩) 4 4) (cV (n : Int) 4) (cV (v.t.n : Int) 2) (cV (v.g.n : Int) 2) (cV (v.r.n : Int) 2) (cV (v.k.n : Int) 2) (cV (v.a.n : Int) 2) (cV (v.i.n : Int) 2) (cV (v.s.n : Int) 2) (cV tb.uses 1) (cV tb.modes 1) (cV tb.depth 1) (cV tb.frames 1) (cV tb.errors 1) (cV tb.calls 1) (.slice (some ⟨Y,0,none⟩) 14 14) undef) W) := fun W M Y hb g0 k0 => by
  subst hT1
  rw [HG.out]
  dsimp only
  refine wpAnyH_ready (rs := [51]) (by kernel_rfl) (by simp) ?_
  refine AllReadyH.cons rfl (fun K hK => ?_) ?_
  ·go_simp
   go_wp2_with (first | (go_at_call 69; refine (hP W Y k0).mono ?_; rintro e w5 ⟨u5,rfl,o5⟩; obtain ⟨a5,c5,rfl⟩ := qan o5.1))
   refine hK.out _ _ (HS.out _ (belT hb o5.2)) (fun _ => ?_)
   try simp only [Act.put,q7a,q7b,q7c,q7d,q7e,q7f]
   exact (HG.out _ _ _ _).mp (KT16.out _ _ _ _ _ (belT hb o5.2) (qaq g0 o5.2) (qbc o5.1))
  exact AllReadyH.nil
 have KM15 : Hid (∀ (W : World) (M : Nat) (Y : Nat),Below w1.heap.size w1 W → (w1.heap.size ≤ M) → (W.heap[M]? = some mkO) → (W.heap[Y]? = some (.cells (([((n : Int),4),((v.t.n : Int),2),((v.g.n : Int),2),((v.r.n : Int),2),((v.k.n : Int),2),((v.a.n : Int),2),((v.i.n : Int),2),((v.s.n : Int),2),(tb.uses,1),(tb.modes,1),(tb.depth,1),(tb.frames,1),(tb.errors,1),(tb.calls,1)]).flatMap qby).toArray 114)) → (Y ≠ M) → G 5 #[true,false,true,true,true,true,true,true,true,true,true,true,true,true,true,true,true,true,true,true,true,true,true,true,true,true,true,true,true,true,true,true,true,true,true,true,true,true,true,true,true,true,true,true,true,true,true,true,true,true,true,false,false,false,false] (T1 (.slice (some ⟨M,0,none⟩) 4 4) undef (cV (n : Int) 4) (cV (v.t.n : Int) 2) (cV (v.g.n : Int) 2) (cV (v.r.n : Int) 2) (cV (v.k.n : Int) 2) (cV (v.a.n : Int) 2) (cV (v.i.n : Int) 2) (cV (v.s.n : Int) 2) (cV tb.uses 1) (cV tb.modes 1) (cV tb.depth 1) (cV tb.frames 1) (cV tb.errors 1) (cV tb.calls 1) (.slice (some ⟨Y,0,none⟩) 14 14) undef) W) := fun W M Y hb g0 g1 k0 k1 => by
  subst hT1
  rw [HG.out]
  dsimp only
  refine wpAnyH_ready (rs := [1,51]) (by kernel_rfl) (by simp) ?_
  refine AllReadyH.cons rfl (fun K hK => ?_) ?_
  ·have hcv := qb4 g1
   go_simp
   refine hK.out _ _ (HS.out _ (qaj hb g0)) (fun _ => ?_)
   try simp only [Act.put,q7a,q7b,q7c,q7d,q7e,q7f]
   exact (HG.out _ _ _ _).mp (KT15.out _ _ _ (qaj hb g0) (qbe g1) (qku k0 k1))
  refine AllReadyH.cons rfl (fun K hK => ?_) ?_
  ·go_simp
   go_wp2_with (first | (go_at_call 69; refine (hP W Y k0).mono ?_; rintro e w5 ⟨u5,rfl,o5⟩; obtain ⟨a5,c5,rfl⟩ := qan o5.1))
   refine hK.out _ _ (HS.out _ (belT hb o5.2)) (fun _ => ?_)
   try simp only [Act.put,q7a,q7b,q7c,q7d,q7e,q7f]
   exact (HG.out _ _ _ _).mp (KM16.out _ _ _ _ _ (belT hb o5.2) g0 ((o5.2.block _ (qa4 g1)).trans g1) (qbc o5.1) (fun g o e => by have := qn1 o5.1 g o e; have := qa4 g1; omega))
  exact AllReadyH.nil
 have KF15 : Hid (∀ (W : World) (Y : Nat),Below w1.heap.size w1 W → (W.heap[Y]? = some (.cells (([((n : Int),4),((v.t.n : Int),2),((v.g.n : Int),2),((v.r.n : Int),2),((v.k.n : Int),2),((v.a.n : Int),2),((v.i.n : Int),2),((v.s.n : Int),2),(tb.uses,1),(tb.modes,1),(tb.depth,1),(tb.frames,1),(tb.errors,1),(tb.calls,1)]).flatMap qby).toArray 114)) → G 6 #[false,false,true,true,true,true,true,true,true,true,true,true,true,true,true,true,true,true,true,true,true,true,true,true,true,true,true,true,true,true,true,true,true,true,true,true,true,true,true,true,true,true,true,true,true,true,true,true,true,true,true,false,false,false,false] (T1 undef undef (cV (n : Int) 4) (cV (v.t.n : Int) 2) (cV (v.g.n : Int) 2) (cV (v.r.n : Int) 2) (cV (v.k.n : Int) 2) (cV (v.a.n : Int) 2) (cV (v.i.n : Int) 2) (cV (v.s.n : Int) 2) (cV tb.uses 1) (cV tb.modes 1) (cV tb.depth 1) (cV tb.frames 1) (cV tb.errors 1) (cV tb.calls 1) (.slice (some ⟨Y,0,none⟩) 14 14) undef) W) := fun W Y hb k0 => by
  subst hT1
  rw [HG.out]
  dsimp only
  refine wpAnyH_ready (rs := [0,51]) (by kernel_rfl) (by simp) ?_
  refine AllReadyH.cons rfl (fun K hK => ?_) ?_
  ·go_simp
   refine hK.out _ _ (HS.out _ (belA hb)) (fun _ => ?_)
   try simp only [Act.put,q7a,q7b,q7c,q7d,q7e,q7f]
   exact (HG.out _ _ _ _).mp (KM15.out _ _ _ (belA hb) hb.size (heap_alloc_new _ _) ((qa0 W _).block _ (qa4 k0) |>.trans k0) (by have := qa4 k0; omega))
  refine AllReadyH.cons rfl (fun K hK => ?_) ?_
  ·go_simp
   go_wp2_with (first | (go_at_call 69; refine (hP W Y k0).mono ?_; rintro e w5 ⟨u5,rfl,o5⟩; obtain ⟨a5,c5,rfl⟩ := qan o5.1))
   refine hK.out _ _ (HS.out _ (belT hb o5.2)) (fun _ => ?_)
   try simp only [Act.put,q7a,q7b,q7c,q7d,q7e,q7f]
   exact (HG.out _ _ _ _).mp (KF16.out _ _ _ _ (belT hb o5.2) (qbc o5.1))
  exact AllReadyH.nil
 have KT14 : Hid (∀ (W : World) (M : Nat),Below w1.heap.size w1 W → (rdV W 1 (.slice (some ⟨M,0,none⟩) 4 4) mrk.length (Bs8 mrk)) → G 5 #[true,true,true,true,true,true,true,true,true,true,true,true,true,true,true,true,true,true,true,true,true,true,true,true,true,true,true,true,true,true,true,true,true,true,true,true,true,true,true,true,true,true,true,true,true,true,true,true,true,true,false,false,false,false,false] (T1 (.slice (some ⟨M,0,none⟩) 4 4) (.slice (some ⟨M,0,none⟩) 4 4) (cV (n : Int) 4) (cV (v.t.n : Int) 2) (cV (v.g.n : Int) 2) (cV (v.r.n : Int) 2) (cV (v.k.n : Int) 2) (cV (v.a.n : Int) 2) (cV (v.i.n : Int) 2) (cV (v.s.n : Int) 2) (cV tb.uses 1) (cV tb.modes 1) (cV tb.depth 1) (cV tb.frames 1) (cV tb.errors 1) (cV tb.calls 1) undef undef) W) := fun W M hb g0 => by
  subst hT1
  rw [HG.out]
  dsimp only
  refine wpAnyH_ready (rs := [50]) (by kernel_rfl) (by simp) ?_
  refine AllReadyH.cons rfl (fun K hK => ?_) ?_
  ·go_simp
   refine hK.out _ _ (HS.out _ (belA hb)) (fun _ => ?_)
   try simp only [Act.put,q7a,q7b,q7c,q7d,q7e,q7f]
   exact (HG.out _ _ _ _).mp (KT15.out _ _ _ (belA hb) (qfx g0) (heap_alloc_new _ _))
  exact AllReadyH.nil
 have KM14 : Hid (∀ (W : World) (M : Nat),Below w1.heap.size w1 W → (w1.heap.size ≤ M) → (W.heap[M]? = some mkO) → G 6 #[true,false,true,true,true,true,true,true,true,true,true,true,true,true,true,true,true,true,true,true,true,true,true,true,true,true,true,true,true,true,true,true,true,true,true,true,true,true,true,true,true,true,true,true,true,true,true,true,true,true,false,false,false,false,false] (T1 (.slice (some ⟨M,0,none⟩) 4 4) undef (cV (n : Int) 4) (cV (v.t.n : Int) 2) (cV (v.g.n : Int) 2) (cV (v.r.n : Int) 2) (cV (v.k.n : Int) 2) (cV (v.a.n : Int) 2) (cV (v.i.n : Int) 2) (cV (v.s.n : Int) 2) (cV tb.uses 1) (cV tb.modes 1) (cV tb.depth 1) (cV tb.frames 1) (cV tb.errors 1) (cV tb.calls 1) undef undef) W) := fun W M hb g0 g1 => by
  subst hT1
  rw [HG.out]
  dsimp only
  refine wpAnyH_ready (rs := [1,50]) (by kernel_rfl) (by simp) ?_
  refine AllReadyH.cons rfl (fun K hK => ?_) ?_
  ·have hcv := qb4 g1
   go_simp
   refine hK.out _ _ (HS.out _ (qaj hb g0)) (fun _ => ?_)
   try simp only [Act.put,q7a,q7b,q7c,q7d,q7e,q7f]
   exact (HG.out _ _ _ _).mp (KT14.out _ _ (qaj hb g0) (qbe g1))
  refine AllReadyH.cons rfl (fun K hK => ?_) ?_
  ·go_simp
   refine hK.out _ _ (HS.out _ (belA hb)) (fun _ => ?_)
   try simp only [Act.put,q7a,q7b,q7c,q7d,q7e,q7f]
   exact (HG.out _ _ _ _).mp (KM15.out _ _ _ (belA hb) g0 ((qa0 W _).block _ (qa4 g1) |>.trans g1) (heap_alloc_new _ _) (by have := qa4 g1; omega))
  exact AllReadyH.nil
 have KF14 : Hid (∀ (W : World),Below w1.heap.size w1 W → G 7 #[false,false,true,true,true,true,true,true,true,true,true,true,true,true,true,true,true,true,true,true,true,true,true,true,true,true,true,true,true,true,true,true,true,true,true,true,true,true,true,true,true,true,true,true,true,true,true,true,true,true,false,false,false,false,false] (T1 undef undef (cV (n : Int) 4) (cV (v.t.n : Int) 2) (cV (v.g.n : Int) 2) (cV (v.r.n : Int) 2) (cV (v.k.n : Int) 2) (cV (v.a.n : Int) 2) (cV (v.i.n : Int) 2) (cV (v.s.n : Int) 2) (cV tb.uses 1) (cV tb.modes 1) (cV tb.depth 1) (cV tb.frames 1) (cV tb.errors 1) (cV tb.calls 1) undef undef) W) := fun W hb => by
  subst hT1
  rw [HG.out]
  dsimp only
  refine wpAnyH_ready (rs := [0,50]) (by kernel_rfl) (by simp) ?_
  refine AllReadyH.cons rfl (fun K hK => ?_) ?_
  ·go_simp
   refine hK.out _ _ (HS.out _ (belA hb)) (fun _ => ?_)
   try simp only [Act.put,q7a,q7b,q7c,q7d,q7e,q7f]
   exact (HG.out _ _ _ _).mp (KM14.out _ _ (belA hb) hb.size (heap_alloc_new _ _))
  refine AllReadyH.cons rfl (fun K hK => ?_) ?_
  ·go_simp
   refine hK.out _ _ (HS.out _ (belA hb)) (fun _ => ?_)
   try simp only [Act.put,q7a,q7b,q7c,q7d,q7e,q7f]
   exact (HG.out _ _ _ _).mp (KF15.out _ _ (belA hb) (heap_alloc_new _ _))
  exact AllReadyH.nil
 have KT13 : Hid (∀ (W : World) (M : Nat),Below w1.heap.size w1 W → (rdV W 1 (.slice (some ⟨M,0,none⟩) 4 4) mrk.length (Bs8 mrk)) → G 6 #[true,true,true,true,true,true,true,true,true,true,true,true,true,true,true,true,true,true,true,true,true,true,true,true,true,true,true,true,true,true,true,true,true,true,true,true,true,true,true,true,true,true,true,true,true,true,true,true,true,false,false,false,false,false,false] (T1 (.slice (some ⟨M,0,none⟩) 4 4) (.slice (some ⟨M,0,none⟩) 4 4) (cV (n : Int) 4) (cV (v.t.n : Int) 2) (cV (v.g.n : Int) 2) (cV (v.r.n : Int) 2) (cV (v.k.n : Int) 2) (cV (v.a.n : Int) 2) (cV (v.i.n : Int) 2) (cV (v.s.n : Int) 2) (cV tb.uses 1) (cV tb.modes 1) (cV tb.depth 1) (cV tb.frames 1) (cV tb.errors 1) undef undef undef) W) := fun W M hb g0 => by
  subst hT1
  rw [HG.out]
  dsimp only
  refine wpAnyH_ready (rs := [49]) (by kernel_rfl) (by simp) ?_
  refine AllReadyH.cons rfl (fun K hK => ?_) ?_
  ·go_simp
   go_wp2_with (first | (go_at_call 132; refine (hO13 W).mono ?_; rintro e w5 ⟨rfl,b5⟩))
   refine hK.out _ _ (HS.out _ (belT hb b5)) (fun _ => ?_)
   try simp only [Act.put,q7a,q7b,q7c,q7d,q7e,q7f]
   exact (HG.out _ _ _ _).mp (KT14.out _ _ (belT hb b5) (qaq g0 b5))
  exact AllReadyH.nil
 have KM13 : Hid (∀ (W : World) (M : Nat),Below w1.heap.size w1 W → (w1.heap.size ≤ M) → (W.heap[M]? = some mkO) → G 7 #[true,false,true,true,true,true,true,true,true,true,true,true,true,true,true,true,true,true,true,true,true,true,true,true,true,true,true,true,true,true,true,true,true,true,true,true,true,true,true,true,true,true,true,true,true,true,true,true,true,false,false,false,false,false,false] (T1 (.slice (some ⟨M,0,none⟩) 4 4) undef (cV (n : Int) 4) (cV (v.t.n : Int) 2) (cV (v.g.n : Int) 2) (cV (v.r.n : Int) 2) (cV (v.k.n : Int) 2) (cV (v.a.n : Int) 2) (cV (v.i.n : Int) 2) (cV (v.s.n : Int) 2) (cV tb.uses 1) (cV tb.modes 1) (cV tb.depth 1) (cV tb.frames 1) (cV tb.errors 1) undef undef undef) W) := fun W M hb g0 g1 => by
  subst hT1
  rw [HG.out]
  dsimp only
  refine wpAnyH_ready (rs := [1,49]) (by kernel_rfl) (by simp) ?_
  refine AllReadyH.cons rfl (fun K hK => ?_) ?_
  ·have hcv := qb4 g1
   go_simp
   refine hK.out _ _ (HS.out _ (qaj hb g0)) (fun _ => ?_)
   try simp only [Act.put,q7a,q7b,q7c,q7d,q7e,q7f]
   exact (HG.out _ _ _ _).mp (KT13.out _ _ (qaj hb g0) (qbe g1))
  refine AllReadyH.cons rfl (fun K hK => ?_) ?_
  ·go_simp
   go_wp2_with (first | (go_at_call 132; refine (hO13 W).mono ?_; rintro e w5 ⟨rfl,b5⟩))
   refine hK.out _ _ (HS.out _ (belT hb b5)) (fun _ => ?_)
   try simp only [Act.put,q7a,q7b,q7c,q7d,q7e,q7f]
   exact (HG.out _ _ _ _).mp (KM14.out _ _ (belT hb b5) g0 ((b5.block _ (qa4 g1)).trans g1))
  exact AllReadyH.nil
 have KF13 : Hid (∀ (W : World),Below w1.heap.size w1 W → G 8 #[false,false,true,true,true,true,true,true,true,true,true,true,true,true,true,true,true,true,true,true,true,true,true,true,true,true,true,true,true,true,true,true,true,true,true,true,true,true,true,true,true,true,true,true,true,true,true,true,true,false,false,false,false,false,false] (T1 undef undef (cV (n : Int) 4) (cV (v.t.n : Int) 2) (cV (v.g.n : Int) 2) (cV (v.r.n : Int) 2) (cV (v.k.n : Int) 2) (cV (v.a.n : Int) 2) (cV (v.i.n : Int) 2) (cV (v.s.n : Int) 2) (cV tb.uses 1) (cV tb.modes 1) (cV tb.depth 1) (cV tb.frames 1) (cV tb.errors 1) undef undef undef) W) := fun W hb => by
  subst hT1
  rw [HG.out]
  dsimp only
  refine wpAnyH_ready (rs := [0,49]) (by kernel_rfl) (by simp) ?_
  refine AllReadyH.cons rfl (fun K hK => ?_) ?_
  ·go_simp
   refine hK.out _ _ (HS.out _ (belA hb)) (fun _ => ?_)
   try simp only [Act.put,q7a,q7b,q7c,q7d,q7e,q7f]
   exact (HG.out _ _ _ _).mp (KM13.out _ _ (belA hb) hb.size (heap_alloc_new _ _))
  refine AllReadyH.cons rfl (fun K hK => ?_) ?_
  ·go_simp
   go_wp2_with (first | (go_at_call 132; refine (hO13 W).mono ?_; rintro e w5 ⟨rfl,b5⟩))
   refine hK.out _ _ (HS.out _ (belT hb b5)) (fun _ => ?_)
   try simp only [Act.put,q7a,q7b,q7c,q7d,q7e,q7f]
   exact (HG.out _ _ _ _).mp (KF14.out _ (belT hb b5))
  exact AllReadyH.nil
 have KT12 : Hid (∀ (W : World) (M : Nat),Below w1.heap.size w1 W → (rdV W 1 (.slice (some ⟨M,0,none⟩) 4 4) mrk.length (Bs8 mrk)) → G 7 #[true,true,true,true,true,true,true,true,true,true,true,true,true,true,true,true,true,true,true,true,true,true,true,true,true,true,true,true,true,true,true,true,true,true,true,true,true,true,true,true,true,true,true,true,true,true,false,true,true,false,false,false,false,false,false] (T1 (.slice (some ⟨M,0,none⟩) 4 4) (.slice (some ⟨M,0,none⟩) 4 4) (cV (n : Int) 4) (cV (v.t.n : Int) 2) (cV (v.g.n : Int) 2) (cV (v.r.n : Int) 2) (cV (v.k.n : Int) 2) (cV (v.a.n : Int) 2) (cV (v.i.n : Int) 2) (cV (v.s.n : Int) 2) (cV tb.uses 1) (cV tb.modes 1) (cV tb.depth 1) (cV tb.frames 1) undef undef undef undef) W) := fun W M hb g0 => by
  subst hT1
  rw [HG.out]
  dsimp only
  refine wpAnyH_ready (rs := [46]) (by kernel_rfl) (by simp) ?_
  refine AllReadyH.cons rfl (fun K hK => ?_) ?_
  ·go_simp
   go_wp2_with (first | (go_at_call 132; refine (hO12 W).mono ?_; rintro e w5 ⟨rfl,b5⟩))
   refine hK.out _ _ (HS.out _ (belT hb b5)) (fun _ => ?_)
   try simp only [Act.put,q7a,q7b,q7c,q7d,q7e,q7f]
   exact (HG.out _ _ _ _).mp (KT13.out _ _ (belT hb b5) (qaq g0 b5))
  exact AllReadyH.nil
 have KM12 : Hid (∀ (W : World) (M : Nat),Below w1.heap.size w1 W → (w1.heap.size ≤ M) → (W.heap[M]? = some mkO) → G 8 #[true,false,true,true,true,true,true,true,true,true,true,true,true,true,true,true,true,true,true,true,true,true,true,true,true,true,true,true,true,true,true,true,true,true,true,true,true,true,true,true,true,true,true,true,true,true,false,true,true,false,false,false,false,false,false] (T1 (.slice (some ⟨M,0,none⟩) 4 4) undef (cV (n : Int) 4) (cV (v.t.n : Int) 2) (cV (v.g.n : Int) 2) (cV (v.r.n : Int) 2) (cV (v.k.n : Int) 2) (cV (v.a.n : Int) 2) (cV (v.i.n : Int) 2) (cV (v.s.n : Int) 2) (cV tb.uses 1) (cV tb.modes 1) (cV tb.depth 1) (cV tb.frames 1) undef undef undef undef) W) := fun W M hb g0 g1 => by
  subst hT1
  rw [HG.out]
  dsimp only
  refine wpAnyH_ready (rs := [1,46]) (by kernel_rfl) (by simp) ?_
  refine AllReadyH.cons rfl (fun K hK => ?_) ?_
  ·have hcv := qb4 g1
   go_simp
   refine hK.out _ _ (HS.out _ (qaj hb g0)) (fun _ => ?_)
   try simp only [Act.put,q7a,q7b,q7c,q7d,q7e,q7f]
   exact (HG.out _ _ _ _).mp (KT12.out _ _ (qaj hb g0) (qbe g1))
  refine AllReadyH.cons rfl (fun K hK => ?_) ?_
  ·go_simp
   go_wp2_with (first | (go_at_call 132; refine (hO12 W).mono ?_; rintro e w5 ⟨rfl,b5⟩))
   refine hK.out _ _ (HS.out _ (belT hb b5)) (fun _ => ?_)
   try simp only [Act.put,q7a,q7b,q7c,q7d,q7e,q7f]
   exact (HG.out _ _ _ _).mp (KM13.out _ _ (belT hb b5) g0 ((b5.block _ (qa4 g1)).trans g1))
  exact AllReadyH.nil
 have KF12 : Hid (∀ (W : World),Below w1.heap.size w1 W → G 9 #[false,false,true,true,true,true,true,true,true,true,true,true,true,true,true,true,true,true,true,true,true,true,true,true,true,true,true,true,true,true,true,true,true,true,true,true,true,true,true,true,true,true,true,true,true,true,false,true,true,false,false,false,false,false,false] (T1 undef undef (cV (n : Int) 4) (cV (v.t.n : Int) 2) (cV (v.g.n : Int) 2) (cV (v.r.n : Int) 2) (cV (v.k.n : Int) 2) (cV (v.a.n : Int) 2) (cV (v.i.n : Int) 2) (cV (v.s.n : Int) 2) (cV tb.uses 1) (cV tb.modes 1) (cV tb.depth 1) (cV tb.frames 1) undef undef undef undef) W) := fun W hb => by
  subst hT1
  rw [HG.out]
  dsimp only
  refine wpAnyH_ready (rs := [0,46]) (by kernel_rfl) (by simp) ?_
  refine AllReadyH.cons rfl (fun K hK => ?_) ?_
  ·go_simp
   refine hK.out _ _ (HS.out _ (belA hb)) (fun _ => ?_)
   try simp only [Act.put,q7a,q7b,q7c,q7d,q7e,q7f]
   exact (HG.out _ _ _ _).mp (KM12.out _ _ (belA hb) hb.size (heap_alloc_new _ _))
  refine AllReadyH.cons rfl (fun K hK => ?_) ?_
  ·go_simp
   go_wp2_with (first | (go_at_call 132; refine (hO12 W).mono ?_; rintro e w5 ⟨rfl,b5⟩))
   refine hK.out _ _ (HS.out _ (belT hb b5)) (fun _ => ?_)
   try simp only [Act.put,q7a,q7b,q7c,q7d,q7e,q7f]
   exact (HG.out _ _ _ _).mp (KF13.out _ (belT hb b5))
  exact AllReadyH.nil
 have KT11 : Hid (∀ (W : World) (M : Nat),Below w1.heap.size w1 W → (rdV W 1 (.slice (some ⟨M,0,none⟩) 4 4) mrk.length (Bs8 mrk)) → G 8 #[true,true,true,true,true,true,true,true,true,true,true,true,true,true,true,true,true,true,true,true,true,true,true,true,true,true,true,true,true,true,true,true,true,true,true,true,true,true,true,true,true,true,true,false,true,true,false,true,true,false,false,false,false,false,false] (T1 (.slice (some ⟨M,0,none⟩) 4 4) (.slice (some ⟨M,0,none⟩) 4 4) (cV (n : Int) 4) (cV (v.t.n : Int) 2) (cV (v.g.n : Int) 2) (cV (v.r.n : Int) 2) (cV (v.k.n : Int) 2) (cV (v.a.n : Int) 2) (cV (v.i.n : Int) 2) (cV (v.s.n : Int) 2) (cV tb.uses 1) (cV tb.modes 1) (cV tb.depth 1) undef undef undef undef undef) W) := fun W M hb g0 => by
  subst hT1
  rw [HG.out]
  dsimp only
  refine wpAnyH_ready (rs := [43]) (by kernel_rfl) (by simp) ?_
  refine AllReadyH.cons rfl (fun K hK => ?_) ?_
  ·go_simp
   go_wp2_with (first | (go_at_call 132; refine (hO11 W).mono ?_; rintro e w5 ⟨rfl,b5⟩))
   refine hK.out _ _ (HS.out _ (belT hb b5)) (fun _ => ?_)
   try simp only [Act.put,q7a,q7b,q7c,q7d,q7e,q7f]
   exact (HG.out _ _ _ _).mp (KT12.out _ _ (belT hb b5) (qaq g0 b5))
  exact AllReadyH.nil
 have KM11 : Hid (∀ (W : World) (M : Nat),Below w1.heap.size w1 W → (w1.heap.size ≤ M) → (W.heap[M]? = some mkO) → G 9 #[true,false,true,true,true,true,true,true,true,true,true,true,true,true,true,true,true,true,true,true,true,true,true,true,true,true,true,true,true,true,true,true,true,true,true,true,true,true,true,true,true,true,true,false,true,true,false,true,true,false,false,false,false,false,false] (T1 (.slice (some ⟨M,0,none⟩) 4 4) undef (cV (n : Int) 4) (cV (v.t.n : Int) 2) (cV (v.g.n : Int) 2) (cV (v.r.n : Int) 2) (cV (v.k.n : Int) 2) (cV (v.a.n : Int) 2) (cV (v.i.n : Int) 2) (cV (v.s.n : Int) 2) (cV tb.uses 1) (cV tb.modes 1) (cV tb.depth 1) undef undef undef undef undef) W) := fun W M hb g0 g1 => by
  subst hT1
  rw [HG.out]
  dsimp only
  refine wpAnyH_ready (rs := [1,43]) (by kernel_rfl) (by simp) ?_
  refine AllReadyH.cons rfl (fun K hK => ?_) ?_
  ·have hcv := qb4 g1
   go_simp
   refine hK.out _ _ (HS.out _ (qaj hb g0)) (fun _ => ?_)
   try simp only [Act.put,q7a,q7b,q7c,q7d,q7e,q7f]
   exact (HG.out _ _ _ _).mp (KT11.out _ _ (qaj hb g0) (qbe g1))
  refine AllReadyH.cons rfl (fun K hK => ?_) ?_
  ·go_simp
   go_wp2_with (first | (go_at_call 132; refine (hO11 W).mono ?_; rintro e w5 ⟨rfl,b5⟩))
   refine hK.out _ _ (HS.out _ (belT hb b5)) (fun _ => ?_)
   try simp only [Act.put,q7a,q7b,q7c,q7d,q7e,q7f]
   exact (HG.out _ _ _ _).mp (KM12.out _ _ (belT hb b5) g0 ((b5.block _ (qa4 g1)).trans g1))
  exact AllReadyH.nil
 have KF11 : Hid (∀ (W : World),Below w1.heap.size w1 W → G 10 #[false,false,true,true,true,true,true,true,true,true,true,true,true,true,true,true,true,true,true,true,true,true,true,true,true,true,true,true,true,true,true,true,true,true,true,true,true,true,true,true,true,true,true,false,true,true,false,true,true,false,false,false,false,false,false] (T1 undef undef (cV (n : Int) 4) (cV (v.t.n : Int) 2) (cV (v.g.n : Int) 2) (cV (v.r.n : Int) 2) (cV (v.k.n : Int) 2) (cV (v.a.n : Int) 2) (cV (v.i.n : Int) 2) (cV (v.s.n : Int) 2) (cV tb.uses 1) (cV tb.modes 1) (cV tb.depth 1) undef undef undef undef undef) W) := fun W hb => by
  subst hT1
  rw [HG.out]
  dsimp only
  refine wpAnyH_ready (rs := [0,43]) (by kernel_rfl) (by simp) ?_
  refine AllReadyH.cons rfl (fun K hK => ?_) ?_
  ·go_simp
   refine hK.out _ _ (HS.out _ (belA hb)) (fun _ => ?_)
   try simp only [Act.put,q7a,q7b,q7c,q7d,q7e,q7f]
   exact (HG.out _ _ _ _).mp (KM11.out _ _ (belA hb) hb.size (heap_alloc_new _ _))
  refine AllReadyH.cons rfl (fun K hK => ?_) ?_
  ·go_simp
   go_wp2_with (first | (go_at_call 132; refine (hO11 W).mono ?_; rintro e w5 ⟨rfl,b5⟩))
   refine hK.out _ _ (HS.out _ (belT hb b5)) (fun _ => ?_)
   try simp only [Act.put,q7a,q7b,q7c,q7d,q7e,q7f]
   exact (HG.out _ _ _ _).mp (KF12.out _ (belT hb b5))
  exact AllReadyH.nil
 have KT10 : Hid (∀ (W : World) (M : Nat),Below w1.heap.size w1 W → (rdV W 1 (.slice (some ⟨M,0,none⟩) 4 4) mrk.length (Bs8 mrk)) → G 9 #[true,true,true,true,true,true,true,true,true,true,true,true,true,true,true,true,true,true,true,true,true,true,true,true,true,true,true,true,true,true,true,true,true,true,true,true,true,true,true,true,false,true,true,false,true,true,false,true,true,false,false,false,false,false,false] (T1 (.slice (some ⟨M,0,none⟩) 4 4) (.slice (some ⟨M,0,none⟩) 4 4) (cV (n : Int) 4) (cV (v.t.n : Int) 2) (cV (v.g.n : Int) 2) (cV (v.r.n : Int) 2) (cV (v.k.n : Int) 2) (cV (v.a.n : Int) 2) (cV (v.i.n : Int) 2) (cV (v.s.n : Int) 2) (cV tb.uses 1) (cV tb.modes 1) undef undef undef undef undef undef) W) := fun W M hb g0 => by
  subst hT1
  rw [HG.out]
  dsimp only
  refine wpAnyH_ready (rs := [40]) (by kernel_rfl) (by simp) ?_
  refine AllReadyH.cons rfl (fun K hK => ?_) ?_
  ·go_simp
   go_wp2_with (first | (go_at_call 132; refine (hO10 W).mono ?_; rintro e w5 ⟨rfl,b5⟩))
   refine hK.out _ _ (HS.out _ (belT hb b5)) (fun _ => ?_)
   try simp only [Act.put,q7a,q7b,q7c,q7d,q7e,q7f]
   exact (HG.out _ _ _ _).mp (KT11.out _ _ (belT hb b5) (qaq g0 b5))
  exact AllReadyH.nil
 have KM10 : Hid (∀ (W : World) (M : Nat),Below w1.heap.size w1 W → (w1.heap.size ≤ M) → (W.heap[M]? = some mkO) → G 10 #[true,false,true,true,true,true,true,true,true,true,true,true,true,true,true,true,true,true,true,true,true,true,true,true,true,true,true,true,true,true,true,true,true,true,true,true,true,true,true,true,false,true,true,false,true,true,false,true,true,false,false,false,false,false,false] (T1 (.slice (some ⟨M,0,none⟩) 4 4) undef (cV (n : Int) 4) (cV (v.t.n : Int) 2) (cV (v.g.n : Int) 2) (cV (v.r.n : Int) 2) (cV (v.k.n : Int) 2) (cV (v.a.n : Int) 2) (cV (v.i.n : Int) 2) (cV (v.s.n : Int) 2) (cV tb.uses 1) (cV tb.modes 1) undef undef undef undef undef undef) W) := fun W M hb g0 g1 => by
  subst hT1
  rw [HG.out]
  dsimp only
  refine wpAnyH_ready (rs := [1,40]) (by kernel_rfl) (by simp) ?_
  refine AllReadyH.cons rfl (fun K hK => ?_) ?_
  ·have hcv := qb4 g1
   go_simp
   refine hK.out _ _ (HS.out _ (qaj hb g0)) (fun _ => ?_)
   try simp only [Act.put,q7a,q7b,q7c,q7d,q7e,q7f]
   exact (HG.out _ _ _ _).mp (KT10.out _ _ (qaj hb g0) (qbe g1))
  refine AllReadyH.cons rfl (fun K hK => ?_) ?_
  ·go_simp
   go_wp2_with (first | (go_at_call 132; refine (hO10 W).mono ?_; rintro e w5 ⟨rfl,b5⟩))
   refine hK.out _ _ (HS.out _ (belT hb b5)) (fun _ => ?_)
   try simp only [Act.put,q7a,q7b,q7c,q7d,q7e,q7f]
   exact (HG.out _ _ _ _).mp (KM11.out _ _ (belT hb b5) g0 ((b5.block _ (qa4 g1)).trans g1))
  exact AllReadyH.nil
 have KF10 : Hid (∀ (W : World),Below w1.heap.size w1 W → G 11 #[false,false,true,true,true,true,true,true,true,true,true,true,true,true,true,true,true,true,true,true,true,true,true,true,true,true,true,true,true,true,true,true,true,true,true,true,true,true,true,true,false,true,true,false,true,true,false,true,true,false,false,false,false,false,false] (T1 undef undef (cV (n : Int) 4) (cV (v.t.n : Int) 2) (cV (v.g.n : Int) 2) (cV (v.r.n : Int) 2) (cV (v.k.n : Int) 2) (cV (v.a.n : Int) 2) (cV (v.i.n : Int) 2) (cV (v.s.n : Int) 2) (cV tb.uses 1) (cV tb.modes 1) undef undef undef undef undef undef) W) := fun W hb => by
  subst hT1
  rw [HG.out]
  dsimp only
  refine wpAnyH_ready (rs := [0,40]) (by kernel_rfl) (by simp) ?_
  refine AllReadyH.cons rfl (fun K hK => ?_) ?_
  ·go_simp
   refine hK.out _ _ (HS.out _ (belA hb)) (fun _ => ?_)
   try simp only [Act.put,q7a,q7b,q7c,q7d,q7e,q7f]
   exact (HG.out _ _ _ _).mp (KM10.out _ _ (belA hb) hb.size (heap_alloc_new _ _))
  refine AllReadyH.cons rfl (fun K hK => ?_) ?_
  ·go_simp
   go_wp2_with (first | (go_at_call 132; refine (hO10 W).mono ?_; rintro e w5 ⟨rfl,b5⟩))
   refine hK.out _ _ (HS.out _ (belT hb b5)) (fun _ => ?_)
   try simp only [Act.put,q7a,q7b,q7c,q7d,q7e,q7f]
   exact (HG.out _ _ _ _).mp (KF11.out _ (belT hb b5))
  exact AllReadyH.nil
 have KT9 : Hid (∀ (W : World) (M : Nat),Below w1.heap.size w1 W → (rdV W 1 (.slice (some ⟨M,0,none⟩) 4 4) mrk.length (Bs8 mrk)) → G 10 #[true,true,true,true,true,true,true,true,true,true,true,true,true,true,true,true,true,true,true,true,true,true,true,true,true,true,true,true,true,true,true,true,true,true,true,true,true,false,true,true,false,true,true,false,true,true,false,true,true,false,false,false,false,false,false] (T1 (.slice (some ⟨M,0,none⟩) 4 4) (.slice (some ⟨M,0,none⟩) 4 4) (cV (n : Int) 4) (cV (v.t.n : Int) 2) (cV (v.g.n : Int) 2) (cV (v.r.n : Int) 2) (cV (v.k.n : Int) 2) (cV (v.a.n : Int) 2) (cV (v.i.n : Int) 2) (cV (v.s.n : Int) 2) (cV tb.uses 1) undef undef undef undef undef undef undef) W) := fun W M hb g0 => by
  subst hT1
  rw [HG.out]
  dsimp only
  refine wpAnyH_ready (rs := [37]) (by kernel_rfl) (by simp) ?_
  refine AllReadyH.cons rfl (fun K hK => ?_) ?_
  ·go_simp
   go_wp2_with (first | (go_at_call 132; refine (hO9 W).mono ?_; rintro e w5 ⟨rfl,b5⟩))
   refine hK.out _ _ (HS.out _ (belT hb b5)) (fun _ => ?_)
   try simp only [Act.put,q7a,q7b,q7c,q7d,q7e,q7f]
   exact (HG.out _ _ _ _).mp (KT10.out _ _ (belT hb b5) (qaq g0 b5))
  exact AllReadyH.nil
 have KM9 : Hid (∀ (W : World) (M : Nat),Below w1.heap.size w1 W → (w1.heap.size ≤ M) → (W.heap[M]? = some mkO) → G 11 #[true,false,true,true,true,true,true,true,true,true,true,true,true,true,true,true,true,true,true,true,true,true,true,true,true,true,true,true,true,true,true,true,true,true,true,true,true,false,true,true,false,true,true,false,true,true,false,true,true,false,false,false,false,false,false] (T1 (.slice (some ⟨M,0,none⟩) 4 4) undef (cV (n : Int) 4) (cV (v.t.n : Int) 2) (cV (v.g.n : Int) 2) (cV (v.r.n : Int) 2) (cV (v.k.n : Int) 2) (cV (v.a.n : Int) 2) (cV (v.i.n : Int) 2) (cV (v.s.n : Int) 2) (cV tb.uses 1) undef undef undef undef undef undef undef) W) := fun W M hb g0 g1 => by
  subst hT1
  rw [HG.out]
  dsimp only
  refine wpAnyH_ready (rs := [1,37]) (by kernel_rfl) (by simp) ?_
  refine AllReadyH.cons rfl (fun K hK => ?_) ?_
  ·have hcv := qb4 g1
   go_simp
   refine hK.out _ _ (HS.out _ (qaj hb g0)) (fun _ => ?_)
   try simp only [Act.put,q7a,q7b,q7c,q7d,q7e,q7f]
   exact (HG.out _ _ _ _).mp (KT9.out _ _ (qaj hb g0) (qbe g1))
  refine AllReadyH.cons rfl (fun K hK => ?_) ?_
  ·go_simp
   go_wp2_with (first | (go_at_call 132; refine (hO9 W).mono ?_; rintro e w5 ⟨rfl,b5⟩))
   refine hK.out _ _ (HS.out _ (belT hb b5)) (fun _ => ?_)
   try simp only [Act.put,q7a,q7b,q7c,q7d,q7e,q7f]
   exact (HG.out _ _ _ _).mp (KM10.out _ _ (belT hb b5) g0 ((b5.block _ (qa4 g1)).trans g1))
  exact AllReadyH.nil
 have KF9 : Hid (∀ (W : World),Below w1.heap.size w1 W → G 12 #[false,false,true,true,true,true,true,true,true,true,true,true,true,true,true,true,true,true,true,true,true,true,true,true,true,true,true,true,true,true,true,true,true,true,true,true,true,false,true,true,false,true,true,false,true,true,false,true,true,false,false,false,false,false,false] (T1 undef undef (cV (n : Int) 4) (cV (v.t.n : Int) 2) (cV (v.g.n : Int) 2) (cV (v.r.n : Int) 2) (cV (v.k.n : Int) 2) (cV (v.a.n : Int) 2) (cV (v.i.n : Int) 2) (cV (v.s.n : Int) 2) (cV tb.uses 1) undef undef undef undef undef undef undef) W) := fun W hb => by
  subst hT1
  rw [HG.out]
  dsimp only
  refine wpAnyH_ready (rs := [0,37]) (by kernel_rfl) (by simp) ?_
  refine AllReadyH.cons rfl (fun K hK => ?_) ?_
  ·go_simp
   refine hK.out _ _ (HS.out _ (belA hb)) (fun _ => ?_)
   try simp only [Act.put,q7a,q7b,q7c,q7d,q7e,q7f]
   exact (HG.out _ _ _ _).mp (KM9.out _ _ (belA hb) hb.size (heap_alloc_new _ _))
  refine AllReadyH.cons rfl (fun K hK => ?_) ?_
  ·go_simp
   go_wp2_with (first | (go_at_call 132; refine (hO9 W).mono ?_; rintro e w5 ⟨rfl,b5⟩))
   refine hK.out _ _ (HS.out _ (belT hb b5)) (fun _ => ?_)
   try simp only [Act.put,q7a,q7b,q7c,q7d,q7e,q7f]
   exact (HG.out _ _ _ _).mp (KF10.out _ (belT hb b5))
  exact AllReadyH.nil
 have KT8 : Hid (∀ (W : World) (M : Nat),Below w1.heap.size w1 W → (rdV W 1 (.slice (some ⟨M,0,none⟩) 4 4) mrk.length (Bs8 mrk)) → G 11 #[true,true,true,true,true,true,true,true,true,true,true,true,true,true,true,true,true,true,true,true,true,true,true,true,true,true,true,true,true,true,true,true,true,true,false,true,true,false,true,true,false,true,true,false,true,true,false,true,true,false,false,false,false,false,false] (T1 (.slice (some ⟨M,0,none⟩) 4 4) (.slice (some ⟨M,0,none⟩) 4 4) (cV (n : Int) 4) (cV (v.t.n : Int) 2) (cV (v.g.n : Int) 2) (cV (v.r.n : Int) 2) (cV (v.k.n : Int) 2) (cV (v.a.n : Int) 2) (cV (v.i.n : Int) 2) (cV (v.s.n : Int) 2) undef undef undef undef undef undef undef undef) W) := fun W M hb g0 => by
  subst hT1
  rw [HG.out]
  dsimp only
  refine wpAnyH_ready (rs := [34]) (by kernel_rfl) (by simp) ?_
  refine AllReadyH.cons rfl (fun K hK => ?_) ?_
  ·go_simp
   go_wp2_with (first | (go_at_call 132; refine (hO8 W).mono ?_; rintro e w5 ⟨rfl,b5⟩))
   refine hK.out _ _ (HS.out _ (belT hb b5)) (fun _ => ?_)
   try simp only [Act.put,q7a,q7b,q7c,q7d,q7e,q7f]
   exact (HG.out _ _ _ _).mp (KT9.out _ _ (belT hb b5) (qaq g0 b5))
  exact AllReadyH.nil
 have KM8 : Hid (∀ (W : World) (M : Nat),Below w1.heap.size w1 W → (w1.heap.size ≤ M) → (W.heap[M]? = some mkO) → G 12 #[true,false,true,true,true,true,true,true,true,true,true,true,true,true,true,true,true,true,true,true,true,true,true,true,true,true,true,true,true,true,true,true,true,true,false,true,true,false,true,true,false,true,true,false,true,true,false,true,true,false,false,false,false,false,false] (T1 (.slice (some ⟨M,0,none⟩) 4 4) undef (cV (n : Int) 4) (cV (v.t.n : Int) 2) (cV (v.g.n : Int) 2) (cV (v.r.n : Int) 2) (cV (v.k.n : Int) 2) (cV (v.a.n : Int) 2) (cV (v.i.n : Int) 2) (cV (v.s.n : Int) 2) undef undef undef undef undef undef undef undef) W) := fun W M hb g0 g1 => by
  subst hT1
  rw [HG.out]
  dsimp only
  refine wpAnyH_ready (rs := [1,34]) (by kernel_rfl) (by simp) ?_
  refine AllReadyH.cons rfl (fun K hK => ?_) ?_
  ·have hcv := qb4 g1
   go_simp
   refine hK.out _ _ (HS.out _ (qaj hb g0)) (fun _ => ?_)
   try simp only [Act.put,q7a,q7b,q7c,q7d,q7e,q7f]
   exact (HG.out _ _ _ _).mp (KT8.out _ _ (qaj hb g0) (qbe g1))
  refine AllReadyH.cons rfl (fun K hK => ?_) ?_
  ·go_simp
   go_wp2_with (first | (go_at_call 132; refine (hO8 W).mono ?_; rintro e w5 ⟨rfl,b5⟩))
   refine hK.out _ _ (HS.out _ (belT hb b5)) (fun _ => ?_)
   try simp only [Act.put,q7a,q7b,q7c,q7d,q7e,q7f]
   exact (HG.out _ _ _ _).mp (KM9.out _ _ (belT hb b5) g0 ((b5.block _ (qa4 g1)).trans g1))
  exact AllReadyH.nil
 have KF8 : Hid (∀ (W : World),Below w1.heap.size w1 W → G 13 #[false,false,true,true,true,true,true,true,true,true,true,true,true,true,true,true,true,true,true,true,true,true,true,true,true,true,true,true,true,true,true,true,true,true,false,true,true,false,true,true,false,true,true,false,true,true,false,true,true,false,false,false,false,false,false] (T1 undef undef (cV (n : Int) 4) (cV (v.t.n : Int) 2) (cV (v.g.n : Int) 2) (cV (v.r.n : Int) 2) (cV (v.k.n : Int) 2) (cV (v.a.n : Int) 2) (cV (v.i.n : Int) 2) (cV (v.s.n : Int) 2) undef undef undef undef undef undef undef undef) W) := fun W hb => by
  subst hT1
  rw [HG.out]
  dsimp only
  refine wpAnyH_ready (rs := [0,34]) (by kernel_rfl) (by simp) ?_
  refine AllReadyH.cons rfl (fun K hK => ?_) ?_
  ·go_simp
   refine hK.out _ _ (HS.out _ (belA hb)) (fun _ => ?_)
   try simp only [Act.put,q7a,q7b,q7c,q7d,q7e,q7f]
   exact (HG.out _ _ _ _).mp (KM8.out _ _ (belA hb) hb.size (heap_alloc_new _ _))
  refine AllReadyH.cons rfl (fun K hK => ?_) ?_
  ·go_simp
   go_wp2_with (first | (go_at_call 132; refine (hO8 W).mono ?_; rintro e w5 ⟨rfl,b5⟩))
   refine hK.out _ _ (HS.out _ (belT hb b5)) (fun _ => ?_)
   try simp only [Act.put,q7a,q7b,q7c,q7d,q7e,q7f]
   exact (HG.out _ _ _ _).mp (KF9.out _ (belT hb b5))
  exact AllReadyH.nil
 have KT7 : Hid (∀ (W : World) (M : Nat),Below w1.heap.size w1 W → (rdV W 1 (.slice (some ⟨M,0,none⟩) 4 4) mrk.length (Bs8 mrk)) → G 12 #[true,true,true,true,true,true,true,true,true,true,true,true,true,true,true,true,true,true,true,true,true,true,true,true,true,true,true,true,true,true,true,false,true,true,false,true,true,false,true,true,false,true,true,false,true,true,false,true,true,false,false,false,false,false,false] (T1 (.slice (some ⟨M,0,none⟩) 4 4) (.slice (some ⟨M,0,none⟩) 4 4) (cV (n : Int) 4) (cV (v.t.n : Int) 2) (cV (v.g.n : Int) 2) (cV (v.r.n : Int) 2) (cV (v.k.n : Int) 2) (cV (v.a.n : Int) 2) (cV (v.i.n : Int) 2) undef undef undef undef undef undef undef undef undef) W) := fun W M hb g0 => by
  subst hT1
  rw [HG.out]
  dsimp only
  refine wpAnyH_ready (rs := [31]) (by kernel_rfl) (by simp) ?_
  refine AllReadyH.cons rfl (fun K hK => ?_) ?_
  ·go_simp
   go_wp2_with (first | (go_at_call 138; refine (hO7 W).mono ?_; rintro e w5 ⟨rfl,b5⟩))
   refine hK.out _ _ (HS.out _ (belT hb b5)) (fun _ => ?_)
   try simp only [Act.put,q7a,q7b,q7c,q7d,q7e,q7f]
   exact (HG.out _ _ _ _).mp (KT8.out _ _ (belT hb b5) (qaq g0 b5))
  exact AllReadyH.nil
 have KM7 : Hid (∀ (W : World) (M : Nat),Below w1.heap.size w1 W → (w1.heap.size ≤ M) → (W.heap[M]? = some mkO) → G 13 #[true,false,true,true,true,true,true,true,true,true,true,true,true,true,true,true,true,true,true,true,true,true,true,true,true,true,true,true,true,true,true,false,true,true,false,true,true,false,true,true,false,true,true,false,true,true,false,true,true,false,false,false,false,false,false] (T1 (.slice (some ⟨M,0,none⟩) 4 4) undef (cV (n : Int) 4) (cV (v.t.n : Int) 2) (cV (v.g.n : Int) 2) (cV (v.r.n : Int) 2) (cV (v.k.n : Int) 2) (cV (v.a.n : Int) 2) (cV (v.i.n : Int) 2) undef undef undef undef undef undef undef undef undef) W) := fun W M hb g0 g1 => by
  subst hT1
  rw [HG.out]
  dsimp only
  refine wpAnyH_ready (rs := [1,31]) (by kernel_rfl) (by simp) ?_
  refine AllReadyH.cons rfl (fun K hK => ?_) ?_
  ·have hcv := qb4 g1
   go_simp
   refine hK.out _ _ (HS.out _ (qaj hb g0)) (fun _ => ?_)
   try simp only [Act.put,q7a,q7b,q7c,q7d,q7e,q7f]
   exact (HG.out _ _ _ _).mp (KT7.out _ _ (qaj hb g0) (qbe g1))
  refine AllReadyH.cons rfl (fun K hK => ?_) ?_
  ·go_simp
   go_wp2_with (first | (go_at_call 138; refine (hO7 W).mono ?_; rintro e w5 ⟨rfl,b5⟩))
   refine hK.out _ _ (HS.out _ (belT hb b5)) (fun _ => ?_)
   try simp only [Act.put,q7a,q7b,q7c,q7d,q7e,q7f]
   exact (HG.out _ _ _ _).mp (KM8.out _ _ (belT hb b5) g0 ((b5.block _ (qa4 g1)).trans g1))
  exact AllReadyH.nil
 have KF7 : Hid (∀ (W : World),Below w1.heap.size w1 W → G 14 #[false,false,true,true,true,true,true,true,true,true,true,true,true,true,true,true,true,true,true,true,true,true,true,true,true,true,true,true,true,true,true,false,true,true,false,true,true,false,true,true,false,true,true,false,true,true,false,true,true,false,false,false,false,false,false] (T1 undef undef (cV (n : Int) 4) (cV (v.t.n : Int) 2) (cV (v.g.n : Int) 2) (cV (v.r.n : Int) 2) (cV (v.k.n : Int) 2) (cV (v.a.n : Int) 2) (cV (v.i.n : Int) 2) undef undef undef undef undef undef undef undef undef) W) := fun W hb => by
  subst hT1
  rw [HG.out]
  dsimp only
  refine wpAnyH_ready (rs := [0,31]) (by kernel_rfl) (by simp) ?_
  refine AllReadyH.cons rfl (fun K hK => ?_) ?_
  ·go_simp
   refine hK.out _ _ (HS.out _ (belA hb)) (fun _ => ?_)
   try simp only [Act.put,q7a,q7b,q7c,q7d,q7e,q7f]
   exact (HG.out _ _ _ _).mp (KM7.out _ _ (belA hb) hb.size (heap_alloc_new _ _))
  refine AllReadyH.cons rfl (fun K hK => ?_) ?_
  ·go_simp
   go_wp2_with (first | (go_at_call 138; refine (hO7 W).mono ?_; rintro e w5 ⟨rfl,b5⟩))
   refine hK.out _ _ (HS.out _ (belT hb b5)) (fun _ => ?_)
   try simp only [Act.put,q7a,q7b,q7c,q7d,q7e,q7f]
   exact (HG.out _ _ _ _).mp (KF8.out _ (belT hb b5))
  exact AllReadyH.nil
 have KT6 : Hid (∀ (W : World) (M : Nat),Below w1.heap.size w1 W → (rdV W 1 (.slice (some ⟨M,0,none⟩) 4 4) mrk.length (Bs8 mrk)) → G 13 #[true,true,true,true,true,true,true,true,true,true,true,true,true,true,true,true,true,true,true,true,true,true,true,true,true,true,true,false,true,true,true,false,true,true,false,true,true,false,true,true,false,true,true,false,true,true,false,true,true,false,false,false,false,false,false] (T1 (.slice (some ⟨M,0,none⟩) 4 4) (.slice (some ⟨M,0,none⟩) 4 4) (cV (n : Int) 4) (cV (v.t.n : Int) 2) (cV (v.g.n : Int) 2) (cV (v.r.n : Int) 2) (cV (v.k.n : Int) 2) (cV (v.a.n : Int) 2) undef undef undef undef undef undef undef undef undef undef) W) := fun W M hb g0 => by
  subst hT1
  rw [HG.out]
  dsimp only
  refine wpAnyH_ready (rs := [27]) (by kernel_rfl) (by simp) ?_
  refine AllReadyH.cons rfl (fun K hK => ?_) ?_
  ·go_simp
   go_wp2_with (first | (go_at_call 138; refine (hO6 W).mono ?_; rintro e w5 ⟨rfl,b5⟩))
   refine hK.out _ _ (HS.out _ (belT hb b5)) (fun _ => ?_)
   try simp only [Act.put,q7a,q7b,q7c,q7d,q7e,q7f]
   exact (HG.out _ _ _ _).mp (KT7.out _ _ (belT hb b5) (qaq g0 b5))
  exact AllReadyH.nil
 have KM6 : Hid (∀ (W : World) (M : Nat),Below w1.heap.size w1 W → (w1.heap.size ≤ M) → (W.heap[M]? = some mkO) → G 14 #[true,false,true,true,true,true,true,true,true,true,true,true,true,true,true,true,true,true,true,true,true,true,true,true,true,true,true,false,true,true,true,false,true,true,false,true,true,false,true,true,false,true,true,false,true,true,false,true,true,false,false,false,false,false,false] (T1 (.slice (some ⟨M,0,none⟩) 4 4) undef (cV (n : Int) 4) (cV (v.t.n : Int) 2) (cV (v.g.n : Int) 2) (cV (v.r.n : Int) 2) (cV (v.k.n : Int) 2) (cV (v.a.n : Int) 2) undef undef undef undef undef undef undef undef undef undef) W) := fun W M hb g0 g1 => by
  subst hT1
  rw [HG.out]
  dsimp only
  refine wpAnyH_ready (rs := [1,27]) (by kernel_rfl) (by simp) ?_
  refine AllReadyH.cons rfl (fun K hK => ?_) ?_
  ·have hcv := qb4 g1
   go_simp
   refine hK.out _ _ (HS.out _ (qaj hb g0)) (fun _ => ?_)
   try simp only [Act.put,q7a,q7b,q7c,q7d,q7e,q7f]
   exact (HG.out _ _ _ _).mp (KT6.out _ _ (qaj hb g0) (qbe g1))
  refine AllReadyH.cons rfl (fun K hK => ?_) ?_
  ·go_simp
   go_wp2_with (first | (go_at_call 138; refine (hO6 W).mono ?_; rintro e w5 ⟨rfl,b5⟩))
   refine hK.out _ _ (HS.out _ (belT hb b5)) (fun _ => ?_)
   try simp only [Act.put,q7a,q7b,q7c,q7d,q7e,q7f]
   exact (HG.out _ _ _ _).mp (KM7.out _ _ (belT hb b5) g0 ((b5.block _ (qa4 g1)).trans g1))
  exact AllReadyH.nil
 have KF6 : Hid (∀ (W : World),Below w1.heap.size w1 W → G 15 #[false,false,true,true,true,true,true,true,true,true,true,true,true,true,true,true,true,true,true,true,true,true,true,true,true,true,true,false,true,true,true,false,true,true,false,true,true,false,true,true,false,true,true,false,true,true,false,true,true,false,false,false,false,false,false] (T1 undef undef (cV (n : Int) 4) (cV (v.t.n : Int) 2) (cV (v.g.n : Int) 2) (cV (v.r.n : Int) 2) (cV (v.k.n : Int) 2) (cV (v.a.n : Int) 2) undef undef undef undef undef undef undef undef undef undef) W) := fun W hb => by
  subst hT1
  rw [HG.out]
  dsimp only
  refine wpAnyH_ready (rs := [0,27]) (by kernel_rfl) (by simp) ?_
  refine AllReadyH.cons rfl (fun K hK => ?_) ?_
  ·go_simp
   refine hK.out _ _ (HS.out _ (belA hb)) (fun _ => ?_)
   try simp only [Act.put,q7a,q7b,q7c,q7d,q7e,q7f]
   exact (HG.out _ _ _ _).mp (KM6.out _ _ (belA hb) hb.size (heap_alloc_new _ _))
  refine AllReadyH.cons rfl (fun K hK => ?_) ?_
  ·go_simp
   go_wp2_with (first | (go_at_call 138; refine (hO6 W).mono ?_; rintro e w5 ⟨rfl,b5⟩))
   refine hK.out _ _ (HS.out _ (belT hb b5)) (fun _ => ?_)
   try simp only [Act.put,q7a,q7b,q7c,q7d,q7e,q7f]
   exact (HG.out _ _ _ _).mp (KF7.out _ (belT hb b5))
  exact AllReadyH.nil
 have KT5 : Hid (∀ (W : World) (M : Nat),Below w1.heap.size w1 W → (rdV W 1 (.slice (some ⟨M,0,none⟩) 4 4) mrk.length (Bs8 mrk)) → G 14 #[true,true,true,true,true,true,true,true,true,true,true,true,true,true,true,true,true,true,true,true,true,true,true,false,true,true,true,false,true,true,true,false,true,true,false,true,true,false,true,true,false,true,true,false,true,true,false,true,true,false,false,false,false,false,false] (T1 (.slice (some ⟨M,0,none⟩) 4 4) (.slice (some ⟨M,0,none⟩) 4 4) (cV (n : Int) 4) (cV (v.t.n : Int) 2) (cV (v.g.n : Int) 2) (cV (v.r.n : Int) 2) (cV (v.k.n : Int) 2) undef undef undef undef undef undef undef undef undef undef undef) W) := fun W M hb g0 => by
  subst hT1
  rw [HG.out]
  dsimp only
  refine wpAnyH_ready (rs := [23]) (by kernel_rfl) (by simp) ?_
  refine AllReadyH.cons rfl (fun K hK => ?_) ?_
  ·go_simp
   go_wp2_with (first | (go_at_call 138; refine (hO5 W).mono ?_; rintro e w5 ⟨rfl,b5⟩))
   refine hK.out _ _ (HS.out _ (belT hb b5)) (fun _ => ?_)
   try simp only [Act.put,q7a,q7b,q7c,q7d,q7e,q7f]
   exact (HG.out _ _ _ _).mp (KT6.out _ _ (belT hb b5) (qaq g0 b5))
  exact AllReadyH.nil
 have KM5 : Hid (∀ (W : World) (M : Nat),Below w1.heap.size w1 W → (w1.heap.size ≤ M) → (W.heap[M]? = some mkO) → G 15 #[true,false,true,true,true,true,true,true,true,true,true,true,true,true,true,true,true,true,true,true,true,true,true,false,true,true,true,false,true,true,true,false,true,true,false,true,true,false,true,true,false,true,true,false,true,true,false,true,true,false,false,false,false,false,false] (T1 (.slice (some ⟨M,0,none⟩) 4 4) undef (cV (n : Int) 4) (cV (v.t.n : Int) 2) (cV (v.g.n : Int) 2) (cV (v.r.n : Int) 2) (cV (v.k.n : Int) 2) undef undef undef undef undef undef undef undef undef undef undef) W) := fun W M hb g0 g1 => by
  subst hT1
  rw [HG.out]
  dsimp only
  refine wpAnyH_ready (rs := [1,23]) (by kernel_rfl) (by simp) ?_
  refine AllReadyH.cons rfl (fun K hK => ?_) ?_
  ·have hcv := qb4 g1
   go_simp
   refine hK.out _ _ (HS.out _ (qaj hb g0)) (fun _ => ?_)
   try simp only [Act.put,q7a,q7b,q7c,q7d,q7e,q7f]
   exact (HG.out _ _ _ _).mp (KT5.out _ _ (qaj hb g0) (qbe g1))
  refine AllReadyH.cons rfl (fun K hK => ?_) ?_
  ·go_simp
   go_wp2_with (first | (go_at_call 138; refine (hO5 W).mono ?_; rintro e w5 ⟨rfl,b5⟩))
   refine hK.out _ _ (HS.out _ (belT hb b5)) (fun _ => ?_)
   try simp only [Act.put,q7a,q7b,q7c,q7d,q7e,q7f]
   exact (HG.out _ _ _ _).mp (KM6.out _ _ (belT hb b5) g0 ((b5.block _ (qa4 g1)).trans g1))
  exact AllReadyH.nil
 have KF5 : Hid (∀ (W : World),Below w1.heap.size w1 W → G 16 #[false,false,true,true,true,true,true,true,true,true,true,true,true,true,true,true,true,true,true,true,true,true,true,false,true,true,true,false,true,true,true,false,true,true,false,true,true,false,true,true,false,true,true,false,true,true,false,true,true,false,false,false,false,false,false] (T1 undef undef (cV (n : Int) 4) (cV (v.t.n : Int) 2) (cV (v.g.n : Int) 2) (cV (v.r.n : Int) 2) (cV (v.k.n : Int) 2) undef undef undef undef undef undef undef undef undef undef undef) W) := fun W hb => by
  subst hT1
  rw [HG.out]
  dsimp only
  refine wpAnyH_ready (rs := [0,23]) (by kernel_rfl) (by simp) ?_
  refine AllReadyH.cons rfl (fun K hK => ?_) ?_
  ·go_simp
   refine hK.out _ _ (HS.out _ (belA hb)) (fun _ => ?_)
   try simp only [Act.put,q7a,q7b,q7c,q7d,q7e,q7f]
   exact (HG.out _ _ _ _).mp (KM5.out _ _ (belA hb) hb.size (heap_alloc_new _ _))
  refine AllReadyH.cons rfl (fun K hK => ?_) ?_
  ·go_simp
   go_wp2_with (first | (go_at_call 138; refine (hO5 W).mono ?_; rintro e w5 ⟨rfl,b5⟩))
   refine hK.out _ _ (HS.out _ (belT hb b5)) (fun _ => ?_)
   try simp only [Act.put,q7a,q7b,q7c,q7d,q7e,q7f]
   exact (HG.out _ _ _ _).mp (KF6.out _ (belT hb b5))
  exact AllReadyH.nil
 have KT4 : Hid (∀ (W : World) (M : Nat),Below w1.heap.size w1 W → (rdV W 1 (.slice (some ⟨M,0,none⟩) 4 4) mrk.length (Bs8 mrk)) → G 15 #[true,true,true,true,true,true,true,true,true,true,true,true,true,true,true,true,true,true,true,false,true,true,true,false,true,true,true,false,true,true,true,false,true,true,false,true,true,false,true,true,false,true,true,false,true,true,false,true,true,false,false,false,false,false,false] (T1 (.slice (some ⟨M,0,none⟩) 4 4) (.slice (some ⟨M,0,none⟩) 4 4) (cV (n : Int) 4) (cV (v.t.n : Int) 2) (cV (v.g.n : Int) 2) (cV (v.r.n : Int) 2) undef undef undef undef undef undef undef undef undef undef undef undef) W) := fun W M hb g0 => by
  subst hT1
  rw [HG.out]
  dsimp only
  refine wpAnyH_ready (rs := [19]) (by kernel_rfl) (by simp) ?_
  refine AllReadyH.cons rfl (fun K hK => ?_) ?_
  ·go_simp
   go_wp2_with (first | (go_at_call 138; refine (hO4 W).mono ?_; rintro e w5 ⟨rfl,b5⟩))
   refine hK.out _ _ (HS.out _ (belT hb b5)) (fun _ => ?_)
   try simp only [Act.put,q7a,q7b,q7c,q7d,q7e,q7f]
   exact (HG.out _ _ _ _).mp (KT5.out _ _ (belT hb b5) (qaq g0 b5))
  exact AllReadyH.nil
 have KM4 : Hid (∀ (W : World) (M : Nat),Below w1.heap.size w1 W → (w1.heap.size ≤ M) → (W.heap[M]? = some mkO) → G 16 #[true,false,true,true,true,true,true,true,true,true,true,true,true,true,true,true,true,true,true,false,true,true,true,false,true,true,true,false,true,true,true,false,true,true,false,true,true,false,true,true,false,true,true,false,true,true,false,true,true,false,false,false,false,false,false] (T1 (.slice (some ⟨M,0,none⟩) 4 4) undef (cV (n : Int) 4) (cV (v.t.n : Int) 2) (cV (v.g.n : Int) 2) (cV (v.r.n : Int) 2) undef undef undef undef undef undef undef undef undef undef undef undef) W) := fun W M hb g0 g1 => by
  subst hT1
  rw [HG.out]
  dsimp only
  refine wpAnyH_ready (rs := [1,19]) (by kernel_rfl) (by simp) ?_
  refine AllReadyH.cons rfl (fun K hK => ?_) ?_
  ·have hcv := qb4 g1
   go_simp
   refine hK.out _ _ (HS.out _ (qaj hb g0)) (fun _ => ?_)
   try simp only [Act.put,q7a,q7b,q7c,q7d,q7e,q7f]
   exact (HG.out _ _ _ _).mp (KT4.out _ _ (qaj hb g0) (qbe g1))
  refine AllReadyH.cons rfl (fun K hK => ?_) ?_
  ·go_simp
   go_wp2_with (first | (go_at_call 138; refine (hO4 W).mono ?_; rintro e w5 ⟨rfl,b5⟩))
   refine hK.out _ _ (HS.out _ (belT hb b5)) (fun _ => ?_)
   try simp only [Act.put,q7a,q7b,q7c,q7d,q7e,q7f]
   exact (HG.out _ _ _ _).mp (KM5.out _ _ (belT hb b5) g0 ((b5.block _ (qa4 g1)).trans g1))
  exact AllReadyH.nil
 have KF4 : Hid (∀ (W : World),Below w1.heap.size w1 W → G 17 #[false,false,true,true,true,true,true,true,true,true,true,true,true,true,true,true,true,true,true,false,true,true,true,false,true,true,true,false,true,true,true,false,true,true,false,true,true,false,true,true,false,true,true,false,true,true,false,true,true,false,false,false,false,false,false] (T1 undef undef (cV (n : Int) 4) (cV (v.t.n : Int) 2) (cV (v.g.n : Int) 2) (cV (v.r.n : Int) 2) undef undef undef undef undef undef undef undef undef undef undef undef) W) := fun W hb => by
  subst hT1
  rw [HG.out]
  dsimp only
  refine wpAnyH_ready (rs := [0,19]) (by kernel_rfl) (by simp) ?_
  refine AllReadyH.cons rfl (fun K hK => ?_) ?_
  ·go_simp
   refine hK.out _ _ (HS.out _ (belA hb)) (fun _ => ?_)
   try simp only [Act.put,q7a,q7b,q7c,q7d,q7e,q7f]
   exact (HG.out _ _ _ _).mp (KM4.out _ _ (belA hb) hb.size (heap_alloc_new _ _))
  refine AllReadyH.cons rfl (fun K hK => ?_) ?_
  ·go_simp
   go_wp2_with (first | (go_at_call 138; refine (hO4 W).mono ?_; rintro e w5 ⟨rfl,b5⟩))
   refine hK.out _ _ (HS.out _ (belT hb b5)) (fun _ => ?_)
   try simp only [Act.put,q7a,q7b,q7c,q7d,q7e,q7f]
   exact (HG.out _ _ _ _).mp (KF5.out _ (belT hb b5))
  exact AllReadyH.nil
 have KT3 : Hid (∀ (W : World) (M : Nat),Below w1.heap.size w1 W → (rdV W 1 (.slice (some ⟨M,0,none⟩) 4 4) mrk.length (Bs8 mrk)) → G 16 #[true,true,true,true,true,true,true,true,true,true,true,true,true,true,true,false,true,true,true,false,true,true,true,false,true,true,true,false,true,true,true,false,true,true,false,true,true,false,true,true,false,true,true,false,true,true,false,true,true,false,false,false,false,false,false] (T1 (.slice (some ⟨M,0,none⟩) 4 4) (.slice (some ⟨M,0,none⟩) 4 4) (cV (n : Int) 4) (cV (v.t.n : Int) 2) (cV (v.g.n : Int) 2) undef undef undef undef undef undef undef undef undef undef undef undef undef) W) := fun W M hb g0 => by
  subst hT1
  rw [HG.out]
  dsimp only
  refine wpAnyH_ready (rs := [15]) (by kernel_rfl) (by simp) ?_
  refine AllReadyH.cons rfl (fun K hK => ?_) ?_
  ·go_simp
   go_wp2_with (first | (go_at_call 138; refine (hO3 W).mono ?_; rintro e w5 ⟨rfl,b5⟩))
   refine hK.out _ _ (HS.out _ (belT hb b5)) (fun _ => ?_)
   try simp only [Act.put,q7a,q7b,q7c,q7d,q7e,q7f]
   exact (HG.out _ _ _ _).mp (KT4.out _ _ (belT hb b5) (qaq g0 b5))
  exact AllReadyH.nil
 have KM3 : Hid (∀ (W : World) (M : Nat),Below w1.heap.size w1 W → (w1.heap.size ≤ M) → (W.heap[M]? = some mkO) → G 17 #[true,false,true,true,true,true,true,true,true,true,true,true,true,true,true,false,true,true,true,false,true,true,true,false,true,true,true,false,true,true,true,false,true,true,false,true,true,false,true,true,false,true,true,false,true,true,false,true,true,false,false,false,false,false,false] (T1 (.slice (some ⟨M,0,none⟩) 4 4) undef (cV (n : Int) 4) (cV (v.t.n : Int) 2) (cV (v.g.n : Int) 2) undef undef undef undef undef undef undef undef undef undef undef undef undef) W) := fun W M hb g0 g1 => by
  subst hT1
  rw [HG.out]
  dsimp only
  refine wpAnyH_ready (rs := [1,15]) (by kernel_rfl) (by simp) ?_
  refine AllReadyH.cons rfl (fun K hK => ?_) ?_
  ·have hcv := qb4 g1
   go_simp
   refine hK.out _ _ (HS.out _ (qaj hb g0)) (fun _ => ?_)
   try simp only [Act.put,q7a,q7b,q7c,q7d,q7e,q7f]
   exact (HG.out _ _ _ _).mp (KT3.out _ _ (qaj hb g0) (qbe g1))
  refine AllReadyH.cons rfl (fun K hK => ?_) ?_
  ·go_simp
   go_wp2_with (first | (go_at_call 138; refine (hO3 W).mono ?_; rintro e w5 ⟨rfl,b5⟩))
   refine hK.out _ _ (HS.out _ (belT hb b5)) (fun _ => ?_)
   try simp only [Act.put,q7a,q7b,q7c,q7d,q7e,q7f]
   exact (HG.out _ _ _ _).mp (KM4.out _ _ (belT hb b5) g0 ((b5.block _ (qa4 g1)).trans g1))
  exact AllReadyH.nil
 have KF3 : Hid (∀ (W : World),Below w1.heap.size w1 W → G 18 #[false,false,true,true,true,true,true,true,true,true,true,true,true,true,true,false,true,true,true,false,true,true,true,false,true,true,true,false,true,true,true,false,true,true,false,true,true,false,true,true,false,true,true,false,true,true,false,true,true,false,false,false,false,false,false] (T1 undef undef (cV (n : Int) 4) (cV (v.t.n : Int) 2) (cV (v.g.n : Int) 2) undef undef undef undef undef undef undef undef undef undef undef undef undef) W) := fun W hb => by
  subst hT1
  rw [HG.out]
  dsimp only
  refine wpAnyH_ready (rs := [0,15]) (by kernel_rfl) (by simp) ?_
  refine AllReadyH.cons rfl (fun K hK => ?_) ?_
  ·go_simp
   refine hK.out _ _ (HS.out _ (belA hb)) (fun _ => ?_)
   try simp only [Act.put,q7a,q7b,q7c,q7d,q7e,q7f]
   exact (HG.out _ _ _ _).mp (KM3.out _ _ (belA hb) hb.size (heap_alloc_new _ _))
  refine AllReadyH.cons rfl (fun K hK => ?_) ?_
  ·go_simp
   go_wp2_with (first | (go_at_call 138; refine (hO3 W).mono ?_; rintro e w5 ⟨rfl,b5⟩))
   refine hK.out _ _ (HS.out _ (belT hb b5)) (fun _ => ?_)
   try simp only [Act.put,q7a,q7b,q7c,q7d,q7e,q7f]
   exact (HG.out _ _ _ _).mp (KF4.out _ (belT hb b5))
  exact AllReadyH.nil
 have KT2 : Hid (∀ (W : World) (M : Nat),Below w1.heap.size w1 W → (rdV W 1 (.slice (some ⟨M,0,none⟩) 4 4) mrk.length (Bs8 mrk)) → G 17 #[true,true,true,true,true,true,true,true,true,true,true,false,true,true,true,false,true,true,true,false,true,true,true,false,true,true,true,false,true,true,true,false,true,true,false,true,true,false,true,true,false,true,true,false,true,true,false,true,true,false,false,false,false,false,false] (T1 (.slice (some ⟨M,0,none⟩) 4 4) (.slice (some ⟨M,0,none⟩) 4 4) (cV (n : Int) 4) (cV (v.t.n : Int) 2) undef undef undef undef undef undef undef undef undef undef undef undef undef undef) W) := fun W M hb g0 => by
  subst hT1
  rw [HG.out]
  dsimp only
  refine wpAnyH_ready (rs := [11]) (by kernel_rfl) (by simp) ?_
  refine AllReadyH.cons rfl (fun K hK => ?_) ?_
  ·go_simp
   go_wp2_with (first | (go_at_call 138; refine (hO2 W).mono ?_; rintro e w5 ⟨rfl,b5⟩))
   refine hK.out _ _ (HS.out _ (belT hb b5)) (fun _ => ?_)
   try simp only [Act.put,q7a,q7b,q7c,q7d,q7e,q7f]
   exact (HG.out _ _ _ _).mp (KT3.out _ _ (belT hb b5) (qaq g0 b5))
  exact AllReadyH.nil
 have KM2 : Hid (∀ (W : World) (M : Nat),Below w1.heap.size w1 W → (w1.heap.size ≤ M) → (W.heap[M]? = some mkO) → G 18 #[true,false,true,true,true,true,true,true,true,true,true,false,true,true,true,false,true,true,true,false,true,true,true,false,true,true,true,false,true,true,true,false,true,true,false,true,true,false,true,true,false,true,true,false,true,true,false,true,true,false,false,false,false,false,false] (T1 (.slice (some ⟨M,0,none⟩) 4 4) undef (cV (n : Int) 4) (cV (v.t.n : Int) 2) undef undef undef undef undef undef undef undef undef undef undef undef undef undef) W) := fun W M hb g0 g1 => by
  subst hT1
  rw [HG.out]
  dsimp only
  refine wpAnyH_ready (rs := [1,11]) (by kernel_rfl) (by simp) ?_
  refine AllReadyH.cons rfl (fun K hK => ?_) ?_
  ·have hcv := qb4 g1
   go_simp
   refine hK.out _ _ (HS.out _ (qaj hb g0)) (fun _ => ?_)
   try simp only [Act.put,q7a,q7b,q7c,q7d,q7e,q7f]
   exact (HG.out _ _ _ _).mp (KT2.out _ _ (qaj hb g0) (qbe g1))
  refine AllReadyH.cons rfl (fun K hK => ?_) ?_
  ·go_simp
   go_wp2_with (first | (go_at_call 138; refine (hO2 W).mono ?_; rintro e w5 ⟨rfl,b5⟩))
   refine hK.out _ _ (HS.out _ (belT hb b5)) (fun _ => ?_)
   try simp only [Act.put,q7a,q7b,q7c,q7d,q7e,q7f]
   exact (HG.out _ _ _ _).mp (KM3.out _ _ (belT hb b5) g0 ((b5.block _ (qa4 g1)).trans g1))
  exact AllReadyH.nil
 have KF2 : Hid (∀ (W : World),Below w1.heap.size w1 W → G 19 #[false,false,true,true,true,true,true,true,true,true,true,false,true,true,true,false,true,true,true,false,true,true,true,false,true,true,true,false,true,true,true,false,true,true,false,true,true,false,true,true,false,true,true,false,true,true,false,true,true,false,false,false,false,false,false] (T1 undef undef (cV (n : Int) 4) (cV (v.t.n : Int) 2) undef undef undef undef undef undef undef undef undef undef undef undef undef undef) W) := fun W hb => by
  subst hT1
  rw [HG.out]
  dsimp only
  refine wpAnyH_ready (rs := [0,11]) (by kernel_rfl) (by simp) ?_
  refine AllReadyH.cons rfl (fun K hK => ?_) ?_
  ·go_simp
   refine hK.out _ _ (HS.out _ (belA hb)) (fun _ => ?_)
   try simp only [Act.put,q7a,q7b,q7c,q7d,q7e,q7f]
   exact (HG.out _ _ _ _).mp (KM2.out _ _ (belA hb) hb.size (heap_alloc_new _ _))
  refine AllReadyH.cons rfl (fun K hK => ?_) ?_
  ·go_simp
   go_wp2_with (first | (go_at_call 138; refine (hO2 W).mono ?_; rintro e w5 ⟨rfl,b5⟩))
   refine hK.out _ _ (HS.out _ (belT hb b5)) (fun _ => ?_)
   try simp only [Act.put,q7a,q7b,q7c,q7d,q7e,q7f]
   exact (HG.out _ _ _ _).mp (KF3.out _ (belT hb b5))
  exact AllReadyH.nil
 have KT1 : Hid (∀ (W : World) (M : Nat),Below w1.heap.size w1 W → (rdV W 1 (.slice (some ⟨M,0,none⟩) 4 4) mrk.length (Bs8 mrk)) → G 18 #[true,true,true,true,true,true,true,false,true,true,true,false,true,true,true,false,true,true,true,false,true,true,true,false,true,true,true,false,true,true,true,false,true,true,false,true,true,false,true,true,false,true,true,false,true,true,false,true,true,false,false,false,false,false,false] (T1 (.slice (some ⟨M,0,none⟩) 4 4) (.slice (some ⟨M,0,none⟩) 4 4) (cV (n : Int) 4) undef undef undef undef undef undef undef undef undef undef undef undef undef undef undef) W) := fun W M hb g0 => by
  subst hT1
  rw [HG.out]
  dsimp only
  refine wpAnyH_ready (rs := [7]) (by kernel_rfl) (by simp) ?_
  refine AllReadyH.cons rfl (fun K hK => ?_) ?_
  ·go_simp
   go_wp2_with (first | (go_at_call 138; refine (hO1 W).mono ?_; rintro e w5 ⟨rfl,b5⟩))
   refine hK.out _ _ (HS.out _ (belT hb b5)) (fun _ => ?_)
   try simp only [Act.put,q7a,q7b,q7c,q7d,q7e,q7f]
   exact (HG.out _ _ _ _).mp (KT2.out _ _ (belT hb b5) (qaq g0 b5))
  exact AllReadyH.nil
 have KM1 : Hid (∀ (W : World) (M : Nat),Below w1.heap.size w1 W → (w1.heap.size ≤ M) → (W.heap[M]? = some mkO) → G 19 #[true,false,true,true,true,true,true,false,true,true,true,false,true,true,true,false,true,true,true,false,true,true,true,false,true,true,true,false,true,true,true,false,true,true,false,true,true,false,true,true,false,true,true,false,true,true,false,true,true,false,false,false,false,false,false] (T1 (.slice (some ⟨M,0,none⟩) 4 4) undef (cV (n : Int) 4) undef undef undef undef undef undef undef undef undef undef undef undef undef undef undef) W) := fun W M hb g0 g1 => by
  subst hT1
  rw [HG.out]
  dsimp only
  refine wpAnyH_ready (rs := [1,7]) (by kernel_rfl) (by simp) ?_
  refine AllReadyH.cons rfl (fun K hK => ?_) ?_
  ·have hcv := qb4 g1
   go_simp
   refine hK.out _ _ (HS.out _ (qaj hb g0)) (fun _ => ?_)
   try simp only [Act.put,q7a,q7b,q7c,q7d,q7e,q7f]
   exact (HG.out _ _ _ _).mp (KT1.out _ _ (qaj hb g0) (qbe g1))
  refine AllReadyH.cons rfl (fun K hK => ?_) ?_
  ·go_simp
   go_wp2_with (first | (go_at_call 138; refine (hO1 W).mono ?_; rintro e w5 ⟨rfl,b5⟩))
   refine hK.out _ _ (HS.out _ (belT hb b5)) (fun _ => ?_)
   try simp only [Act.put,q7a,q7b,q7c,q7d,q7e,q7f]
   exact (HG.out _ _ _ _).mp (KM2.out _ _ (belT hb b5) g0 ((b5.block _ (qa4 g1)).trans g1))
  exact AllReadyH.nil
 have KF1 : Hid (∀ (W : World),Below w1.heap.size w1 W → G 20 #[false,false,true,true,true,true,true,false,true,true,true,false,true,true,true,false,true,true,true,false,true,true,true,false,true,true,true,false,true,true,true,false,true,true,false,true,true,false,true,true,false,true,true,false,true,true,false,true,true,false,false,false,false,false,false] (T1 undef undef (cV (n : Int) 4) undef undef undef undef undef undef undef undef undef undef undef undef undef undef undef) W) := fun W hb => by
  subst hT1
  rw [HG.out]
  dsimp only
  refine wpAnyH_ready (rs := [0,7]) (by kernel_rfl) (by simp) ?_
  refine AllReadyH.cons rfl (fun K hK => ?_) ?_
  ·go_simp
   refine hK.out _ _ (HS.out _ (belA hb)) (fun _ => ?_)
   try simp only [Act.put,q7a,q7b,q7c,q7d,q7e,q7f]
   exact (HG.out _ _ _ _).mp (KM1.out _ _ (belA hb) hb.size (heap_alloc_new _ _))
  refine AllReadyH.cons rfl (fun K hK => ?_) ?_
  ·go_simp
   go_wp2_with (first | (go_at_call 138; refine (hO1 W).mono ?_; rintro e w5 ⟨rfl,b5⟩))
   refine hK.out _ _ (HS.out _ (belT hb b5)) (fun _ => ?_)
   try simp only [Act.put,q7a,q7b,q7c,q7d,q7e,q7f]
   exact (HG.out _ _ _ _).mp (KF2.out _ (belT hb b5))
  exact AllReadyH.nil
 have KT0 : Hid (∀ (W : World) (M : Nat),Below w1.heap.size w1 W → (rdV W 1 (.slice (some ⟨M,0,none⟩) 4 4) mrk.length (Bs8 mrk)) → G 19 #[true,true,true,false,true,true,true,false,true,true,true,false,true,true,true,false,true,true,true,false,true,true,true,false,true,true,true,false,true,true,true,false,true,true,false,true,true,false,true,true,false,true,true,false,true,true,false,true,true,false,false,false,false,false,false] (T1 (.slice (some ⟨M,0,none⟩) 4 4) (.slice (some ⟨M,0,none⟩) 4 4) undef undef undef undef undef undef undef undef undef undef undef undef undef undef undef undef) W) := fun W M hb g0 => by
  subst hT1
  rw [HG.out]
  dsimp only
  refine wpAnyH_ready (rs := [3]) (by kernel_rfl) (by simp) ?_
  refine AllReadyH.cons rfl (fun K hK => ?_) ?_
  ·go_simp
   go_wp2_with (first | (go_at_call 143; refine (hO0 W).mono ?_; rintro e w5 ⟨rfl,b5⟩))
   refine hK.out _ _ (HS.out _ (belT hb b5)) (fun _ => ?_)
   try simp only [Act.put,q7a,q7b,q7c,q7d,q7e,q7f]
   exact (HG.out _ _ _ _).mp (KT1.out _ _ (belT hb b5) (qaq g0 b5))
  exact AllReadyH.nil
 have KM0 : Hid (∀ (W : World) (M : Nat),Below w1.heap.size w1 W → (w1.heap.size ≤ M) → (W.heap[M]? = some mkO) → G 20 #[true,false,true,false,true,true,true,false,true,true,true,false,true,true,true,false,true,true,true,false,true,true,true,false,true,true,true,false,true,true,true,false,true,true,false,true,true,false,true,true,false,true,true,false,true,true,false,true,true,false,false,false,false,false,false] (T1 (.slice (some ⟨M,0,none⟩) 4 4) undef undef undef undef undef undef undef undef undef undef undef undef undef undef undef undef undef) W) := fun W M hb g0 g1 => by
  subst hT1
  rw [HG.out]
  dsimp only
  refine wpAnyH_ready (rs := [1,3]) (by kernel_rfl) (by simp) ?_
  refine AllReadyH.cons rfl (fun K hK => ?_) ?_
  ·have hcv := qb4 g1
   go_simp
   refine hK.out _ _ (HS.out _ (qaj hb g0)) (fun _ => ?_)
   try simp only [Act.put,q7a,q7b,q7c,q7d,q7e,q7f]
   exact (HG.out _ _ _ _).mp (KT0.out _ _ (qaj hb g0) (qbe g1))
  refine AllReadyH.cons rfl (fun K hK => ?_) ?_
  ·go_simp
   go_wp2_with (first | (go_at_call 143; refine (hO0 W).mono ?_; rintro e w5 ⟨rfl,b5⟩))
   refine hK.out _ _ (HS.out _ (belT hb b5)) (fun _ => ?_)
   try simp only [Act.put,q7a,q7b,q7c,q7d,q7e,q7f]
   exact (HG.out _ _ _ _).mp (KM1.out _ _ (belT hb b5) g0 ((b5.block _ (qa4 g1)).trans g1))
  exact AllReadyH.nil
 have KF0 : Hid (∀ (W : World),Below w1.heap.size w1 W → G 21 #[false,false,true,false,true,true,true,false,true,true,true,false,true,true,true,false,true,true,true,false,true,true,true,false,true,true,true,false,true,true,true,false,true,true,false,true,true,false,true,true,false,true,true,false,true,true,false,true,true,false,false,false,false,false,false] (T1 undef undef undef undef undef undef undef undef undef undef undef undef undef undef undef undef undef undef) W) := fun W hb => by
  subst hT1
  rw [HG.out]
  dsimp only
  refine wpAnyH_ready (rs := [0,3]) (by kernel_rfl) (by simp) ?_
  refine AllReadyH.cons rfl (fun K hK => ?_) ?_
  ·go_simp
   refine hK.out _ _ (HS.out _ (belA hb)) (fun _ => ?_)
   try simp only [Act.put,q7a,q7b,q7c,q7d,q7e,q7f]
   exact (HG.out _ _ _ _).mp (KM0.out _ _ (belA hb) hb.size (heap_alloc_new _ _))
  refine AllReadyH.cons rfl (fun K hK => ?_) ?_
  ·go_simp
   go_wp2_with (first | (go_at_call 143; refine (hO0 W).mono ?_; rintro e w5 ⟨rfl,b5⟩))
   refine hK.out _ _ (HS.out _ (belT hb b5)) (fun _ => ?_)
   try simp only [Act.put,q7a,q7b,q7c,q7d,q7e,q7f]
   exact (HG.out _ _ _ _).mp (KF1.out _ (belT hb b5))
  exact AllReadyH.nil
 subst hT1
 exact KF0.out _ (Below.refl _ _).drew
end Go.Proofs.YtijgopkhdjaolaaGreat
