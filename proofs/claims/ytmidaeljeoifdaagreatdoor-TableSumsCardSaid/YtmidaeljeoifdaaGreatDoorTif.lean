import Derived.Test.YtmidaeljeoifdaaGreatDoorTie9
import Derived.Test.YtmidaeljeoifdaaGreatDoorTib
namespace Go.Proofs.YtmidaeljeoifdaaGreatDoor
open Go.RowKit Go.Shelf Go.Sort Go.Maps
set_option linter.unusedVariables false
set_option linter.unusedSimpArgs false
set_option maxHeartbeats 8000000
set_option maxRecDepth 100000
def inlI (c : Cf) (cl l : List Int) : Int := if fidF (innB c) 0 l < 0 then -1 else cl.getD (l.getD (fidF (innB c) 0 l).toNat 0).toNat 0
theorem internal_any (w : World) (c : Cf) (v : Vs) (h : CfAt w c v) (E : Array Value) (lr : Sl) (cl : List Int) (hE0 : E[0]? = some (.slice lr.a lr.n lr.c)) (hcl : RowsAt w 1 intP lr cl) (hcn : cl.length = c.ress.length) (s : Sl) (l : List Int) (hl : RowsAt w 1 intP s l) (hll : l.length ≤ 1048576) (hid : ∀ x ∈ l, 0 ≤ x ∧ x < c.ress.length) : Calls Tryz.prog 150 #[.agg (cfC c v), .agg E, .slice s.a s.n s.c] w fun e w' => e = .returned (I (inlI c cl l)) ∧ Below w.heap.size w w' := by
 have hb : Below w.heap.size w ((w.alloc (.cells (cfC c v) 47)).alloc (.cells E 82)) := (below_alloc w _).trans ((below_alloc _ _).mono (by simp))
 have hV1 : ((w.alloc (.cells (cfC c v) 47)).alloc (.cells E 82)).heap[w.heap.size]? = some (.cells (cfC c v) 47) := by
  rw [heap_alloc_old _ _ (by simp)]; exact heap_alloc_new w _
 have hV2 : ((w.alloc (.cells (cfC c v) 47)).alloc (.cells E 82)).heap[w.heap.size + 1]? = some (.cells E 82) := by
  have := heap_alloc_new (w.alloc (.cells (cfC c v) 47)) (.cells E 82)
  rw [World.size_alloc] at this
  exact this
 have k1 := indexf_any ((w.alloc (.cells (cfC c v) 47)).alloc (.cells E 82)) s l (hl.below hb (fun _ _ _ _ h => h)) hll 206 #[.pointer (some ⟨w.heap.size, 0, none⟩)] (enters_of Tryz.func206 (by kernel_rfl) rfl) (innB c) (fun W hW x hx => internal1_any W c v ((h.below hb).below hW) w.heap.size ((hW.block _ (heap_lt hV1)).trans hV1) x (hid x hx))
 have HV : Hid (∀ W, Below ((w.alloc (.cells (cfC c v) 47)).alloc (.cells E 82)).heap.size ((w.alloc (.cells (cfC c v) 47)).alloc (.cells E 82)) W → W.cell? ⟨w.heap.size + 1, 0, none⟩ = some (.slice lr.a lr.n lr.c)) := fun W hW => by
  rw [cell_of_row W _ 0 _ _ (0, 0) ((hW.block _ (heap_lt hV2)).trans hV2)]; exact hE0
 have HB : Hid (Below w.heap.size w ((w.alloc (.cells (cfC c v) 47)).alloc (.cells E 82))) := hb
 have HH : Hid (∀ W, Below w.heap.size w W → RowsAt W 1 intP s l ∧ RowsAt W 1 intP lr cl) := fun W hW => ⟨hl.below hW (fun _ _ _ _ h => h), hcl.below hW (fun _ _ _ _ h => h)⟩
 have HS : Hid (s.n = l.length ∧ lr.n = cl.length ∧ cl.length = c.ress.length) := ⟨hl.n, hcl.n, hcn⟩
 have hsn : s.n ≤ 1048576 := by have := hl.n; omega
 have hsc : s.n ≤ s.c := hl.c
 have hsm : s.c ≤ maxLen := hl.m
 have hlc : lr.n ≤ lr.c := hcl.c
 have hlm : lr.c ≤ maxLen := hcl.m
 unfold maxLen at hsm hlm
 have HID : Hid (∀ x ∈ l, 0 ≤ x ∧ x < c.ress.length) := hid
 clear hV1 hV2 hb h hl hcl hll hid hE0 hcn
 generalize hCC : cfC c v = C at *
 clear hCC
 rcases fidF_cases (innB c) l with ⟨e0, _⟩ | ⟨k, x, e0, hx, _⟩
 ·have HR : Hid (inlI c cl l = -1) := by show _ = _; unfold inlI; rw [e0]; rfl
  rw [e0] at k1
  rw [HR.out]
  clear e0
  go_enter Tryz.func150, Tryz.ntmps150
  go_upto_region 1 with fail
  generalize hW : (w.alloc (.cells C 47)).alloc (.cells E 82) = W1 at *
  clear hW
  go_wp2_with (first | (go_at_call 205; refine k1.mono ?_; clear k1; rintro e w1 ⟨rfl, b1⟩; have H1 : Hid (Below w.heap.size w w1) := HB.out.trans (b1.mono HB.out.size); clear b1))
  go_ret
  exact ⟨rfl, H1.out⟩
 ·have hi := HID.out x (List.mem_of_getElem? hx)
  obtain ⟨m, rfl⟩ := Int.eq_ofNat_of_zero_le hi.1
  have hm : m < cl.length := by have := HS.out.2.2; omega
  obtain ⟨y, hy⟩ : ∃ y, cl[m]? = some y := ⟨_, List.getElem?_eq_getElem hm⟩
  have hk : k < l.length := (List.getElem?_eq_some_iff.1 hx).1
  have HR : Hid (inlI c cl l = y) := by
   show _ = _
   unfold inlI
   rw [e0, if_neg (by omega), Int.toNat_natCast, List.getD_eq_getElem?_getD, List.getD_eq_getElem?_getD, hx, Option.getD_some, Int.toNat_natCast, hy]
   rfl
  rw [e0] at k1
  rw [HR.out]
  have hkI : (k : Int) < s.n := by have := HS.out.1; omega
  have hk0 : ¬ ((k : Int) < 0) := by omega
  have hmI : (m : Int) < lr.n := by have := HS.out.2.1; omega
  have HX : Hid (l[k]? = some (m : Int) ∧ cl[m]? = some y) := ⟨hx, hy⟩
  clear e0 hx hy hi hm hk
  go_enter Tryz.func150, Tryz.ntmps150
  go_upto_region 1 with fail
  generalize hW : (w.alloc (.cells C 47)).alloc (.cells E 82) = W1 at *
  clear hW
  go_upto_region 4 with (first | (go_at_call 205; refine k1.mono ?_; clear k1; rintro e w1 ⟨rfl, b1⟩; have q0 := HV.out w1 b1; have H1 : Hid (Below w.heap.size w w1) := HB.out.trans (b1.mono HB.out.size); clear b1))
  obtain ⟨g5, o5, e5, hg5, b5⟩ := ints_at9 (HH.out w1 H1.out).1 HX.out.1
  obtain ⟨g6, o6, e6, hg6, b6⟩ := ints_at9 (HH.out w1 H1.out).2 HX.out.2
  rw [e6] at q0
  rw [e5]
  have z0 := cell_regrown q0
  have z5 := cell_regrown b5
  have z6 := cell_regrown b6
  clear q0 b5 b6 e5 e6 hg5 hg6 HX
  refine wp_region_quiet_below (by kernel_rfl) (by kernel_rfl) ?_
  repeat (go_big_quiet_step (first | fail))
  refine wpQuiet_nil ?_
  rintro _ ⟨⟨dq, osq⟩, rfl⟩
  dsimp only
  have H2 : Hid (Below w.heap.size w (grow (redrawn w1 dq) osq)) := H1.out.trans ((below_regrown w1 dq osq).mono H1.out.size)
  clear z0 z5 z6
  generalize grow (redrawn w1 dq) osq = w7 at *
  go_wp2
  go_ret
  exact ⟨rfl, H2.out⟩
end Go.Proofs.YtmidaeljeoifdaaGreatDoor
