import Derived.Test.YtmidaeljeoifdaaGreatDoorTif
import Derived.Test.YtmidaeljeoifdaaGreatDoorTig
import Derived.Test.YtmidaeljeoifdaaGreatDoorTic
import Derived.Test.YtmidaeljeoifdaaGreatDoorThg
namespace Go.Proofs.YtmidaeljeoifdaaGreatDoor
open Go.RowKit Go.Shelf Go.Sort Go.Maps
set_option linter.unusedVariables false
set_option linter.unusedSimpArgs false
set_option maxHeartbeats 8000000
set_option maxRecDepth 100000
theorem idx_any (w : World) (s : Sl) (l : List Int) (hl : RowsAt w 1 intP s l) (hll : l.length ≤ 1048576) (p : Int) : Calls Tryz.prog 148 #[.slice s.a s.n s.c, I p] w fun e w' => e = .returned (I (fidF (fun x => x == p) 0 l)) ∧ w = w' := by
 have HS : Hid (s.n = l.length) := hl.n
 have hsn : s.n ≤ 1048576 := by have := hl.n; omega
 have hsc : s.n ≤ s.c := hl.c
 have hsm : s.c ≤ maxLen := hl.m
 unfold maxLen at hsm
 have HH : Hid (RowsAt w 1 intP s l) := hl
 clear hl hll
 go_enter Tryz.func148, Tryz.ntmps148
 go_wp2
 go_loopw [5, 8] (fun _ iv wr => ∃ j : Nat, j ≤ s.n ∧ iv = .int .i64 j ∧ w = wr ∧ Hid (∀ i y, i < j → l[i]? = some y → (y == p) = false)) (fun _ iv _ => s.n - (intOf iv).toNat)
 case atStart => exact ⟨0, by omega, rfl, rfl, fun i y hi => absurd hi (by omega)⟩
 case round =>
  obtain ⟨j, hj, rfl, rfl, HJ⟩ := hrel
  by_cases hlt : j < s.n
  ·have hlt' : (j : Int) < s.n := by omega
   obtain ⟨x, hx⟩ : ∃ x, l[j]? = some x := ⟨_, List.getElem?_eq_getElem (by rw [← HS.out]; exact hlt)⟩
   obtain ⟨g5, o5, e5, hg5, b5⟩ := ints_at9 HH.out hx
   have b5' := cell_regrown b5
   rw [e5]
   clear e5 hg5
   by_cases hpx : x = p
   ·have HR : Hid (fidF (fun x => x == p) 0 l = (j : Int)) := by
     have := fidF_at (fun x => x == p) l 0 j x hx (by simpa using hpx) HJ.out
     show _ = _
     rw [this]
     simp
    rw [hpx] at b5 b5'
    clear HJ hx hpx
    go_wp2
    go_ret
    rw [HR.out]
    exact ⟨rfl, rfl⟩
   ·have hpb : (x == p) = false := beq_eq_false_iff_ne.2 hpx
    have hpb2 : (p == x) = false := beq_eq_false_iff_ne.2 (fun e => hpx e.symm)
    have HN : Hid (∀ i y, i < j + 1 → l[i]? = some y → (y == p) = false) := fun i y hi hy => by
     by_cases e : i = j
     ·subst e; rw [hx] at hy; cases hy; exact hpb
     ·exact HJ.out i y (by omega) hy
    clear HJ hx
    go_wp2
    go_roundw
    case rel => exact ⟨j + 1, by omega, by go_num, by first | exact trivial | exact rfl, HN.out⟩
    case measure => simp [intOf]; omega
  ·obtain rfl : j = s.n := by omega
   have hlt' : ¬ ((s.n : Nat) : Int) < (s.n : Nat) := by omega
   have HR : Hid (fidF (fun x => x == p) 0 l = -1) := fidF_no (fun x => x == p) l 0 (fun i y hy => HJ.out i y (by rw [HS.out]; exact (List.getElem?_eq_some_iff.1 hy).1) hy)
   go_wp2
   go_ret
   rw [HR.out]
   exact ⟨rfl, rfl⟩
def mkT (c : Cf) (cl lv : List Int) (x : Tk) : TkR := ⟨x.prio, fidF (fun y => y == x.prio) 0 lv, x.full, x.act, maskN c x.evs, inlI c cl x.res, ownL c x.res, bitN x.auto⟩
structure MkOK (c : Cf) : Prop where
 m : ∀ x ∈ c.evs, x.mask < 4294967296
 n : c.tasks.length ≤ 1048576 ∧ c.ress.length ≤ 1048576 ∧ c.ctrs.length ≤ 1048576 ∧ c.als.length ≤ 1048576 ∧ c.isrs.length ≤ 1048576 ∧ c.msgs.length ≤ 1048576
 t : ∀ x ∈ c.tasks, (x.auto.length ≤ 1048576 ∧ x.res.length ≤ 1048576 ∧ x.evs.length ≤ 1048576) ∧ (∀ i ∈ x.auto, 0 ≤ i ∧ i < 32) ∧ (∀ i ∈ x.res, 0 ≤ i ∧ i < c.ress.length) ∧ (∀ i ∈ x.evs, 0 ≤ i ∧ i < c.evs.length)
 a : ∀ x ∈ c.als, x.auto.length ≤ 1048576 ∧ (∀ i ∈ x.auto, 0 ≤ i ∧ i < 32) ∧ (x.ac.kind = 2 → 0 ≤ x.ac.event ∧ x.ac.event < c.evs.length)
 i : ∀ x ∈ c.isrs, x.res.length ≤ 1048576
 s : ∀ x ∈ c.msgs, x.ac.kind = 2 → 0 ≤ x.ac.event ∧ x.ac.event < c.evs.length
theorem tasks_any (w : World) (c : Cf) (v : Vs) (h : CfAt w c v) (ok : MkOK c) (E : Array Value) (hE : E.size = 5) (lr : Sl) (cl : List Int) (hE0 : E[0]? = some (.slice lr.a lr.n lr.c)) (hcl : RowsAt w 1 intP lr cl) (hcn : cl.length = c.ress.length) (lv : Sl) (lvl : List Int) (hlv : RowsAt w 1 intP lv lvl) (hlvn : lvl.length ≤ 1048576) :
  Calls Tryz.prog 85 #[.agg (cfC c v), .agg E, .slice lv.a lv.n lv.c] w fun e w' => (∃ a k, e = .returned (.slice a c.tasks.length k) ∧ RT w.heap.size w' (c.tasks.map (mkT c cl lvl)) (.slice a c.tasks.length k)) ∧ Below w.heap.size w w' := by
 have hC : (cfC c v).size = 18 := rfl
 have hb : Below w.heap.size w (((w.alloc (.cells (cfC c v) 47)).alloc (.cells E 82)).alloc (.cells #[.slice lv.a lv.n lv.c] 54)) := ((below_alloc w _).trans ((below_alloc _ _).mono (by simp))).trans ((below_alloc _ _).mono (by simp; omega))
 have hV1 : (((w.alloc (.cells (cfC c v) 47)).alloc (.cells E 82)).alloc (.cells #[.slice lv.a lv.n lv.c] 54)).heap[w.heap.size]? = some (.cells (cfC c v) 47) := h3_0 _ _ _ _
 have hV2 : (((w.alloc (.cells (cfC c v) 47)).alloc (.cells E 82)).alloc (.cells #[.slice lv.a lv.n lv.c] 54)).heap[w.heap.size + 1]? = some (.cells E 82) := heap_three _ _ _ _
 have hV3 : (((w.alloc (.cells (cfC c v) 47)).alloc (.cells E 82)).alloc (.cells #[.slice lv.a lv.n lv.c] 54)).heap[w.heap.size + 1 + 1]? = some (.cells #[.slice lv.a lv.n lv.c] 54) := h3_2 _ _ _ _
 have q11 : (((w.alloc (.cells (cfC c v) 47)).alloc (.cells E 82)).alloc (.cells #[.slice lv.a lv.n lv.c] 54)).cell? ⟨w.heap.size, 11, none⟩ = some (.slice v.t.a v.t.n v.t.c) := by rw [cell_of_row _ _ 11 _ _ (0, 0) hV1]; rfl
 have k1 := rows_Task_TaskRow _ v.t c.tasks (h.below hb).t ok.n.1 147 #[.pointer (some ⟨w.heap.size + 1 + 1, 0, none⟩), .pointer (some ⟨w.heap.size, 0, none⟩), .pointer (some ⟨w.heap.size + 1, 0, none⟩)] (enters_of Tryz.func147 (by kernel_rfl) rfl) (mkT c cl lvl) (fun W hW y hy s4 r4 s5 r5 s6 r6 s7 r7 => by
  have hbW := hb.trans (hW.mono hb.size)
  obtain ⟨⟨l4, l5, l6⟩, d4, d5, d6⟩ := ok.t y hy
  have hsz := hbW.size
  exact task1_any W y s4 s5 s6 s7 (w.heap.size + 1 + 1) w.heap.size (w.heap.size + 1) lv (cfC c v) E hC hE ((hW.block _ (heap_lt hV3)).trans hV3) ((hW.block _ (heap_lt hV1)).trans hV1) ((hW.block _ (heap_lt hV2)).trans hV2) _ _ _ _ _ _
   (fun W' hW' => (idx_any W' lv lvl ((hlv.below hbW (fun _ _ _ _ h => h)).below hW' (fun _ _ _ _ h => h)) hlvn y.prio).mono (fun e w' h => ⟨h.1, by rw [h.2]; exact Below.refl _ _⟩))
   (fun W' hW' => mask_any W' c v ((h.below hbW).below hW') ok.m s6 y.evs (r6.below hW' (fun _ _ _ _ h => h)) l6 d6)
   (fun W' hW' => internal_any W' c v ((h.below hbW).below hW') E lr cl hE0 ((hcl.below hbW (fun _ _ _ _ h => h)).below hW' (fun _ _ _ _ h => h)) hcn s5 y.res (r5.below hW' (fun _ _ _ _ h => h)) l5 d5)
   (fun W' hW' => (own_any9 W' c v ((h.below hbW).below hW') s5 y.res (r5.below hW' (fun _ _ _ _ h => h)) l5 d5).mono (fun e w' h => by
    obtain ⟨so, h1, h2, h3⟩ := h
    exact ⟨so, h1, intsO_mono9 h2 (Nat.le_trans hW.size hW'.size), h3⟩))
   (fun W' hW' => (bits_any W' s4 y.auto (r4.below hW' (fun _ _ _ _ h => h)) l4 d4).mono (fun e w' h => ⟨h.1, by rw [h.2]; exact Below.refl _ _⟩)))
 have HB : Hid _ := hb
 have HN : Hid (v.t.n = c.tasks.length) := h.t.n
 clear hV1 hV2 hV3 hb hlv hcl h hE0
 generalize hCC : cfC c v = C at *
 clear hCC
 go_enter Tryz.func85, Tryz.ntmps85
 go_wp2_with (first | (go_at_call 146; refine k1.mono ?_; clear k1; rintro e w1 ⟨⟨a1, c1, xs, rfl, o1, x1⟩, b1⟩))
 go_ret
 have hsz : w.heap.size ≤ (((w.alloc (.cells C 47)).alloc (.cells E 82)).alloc (.cells #[.slice lv.a lv.n lv.c] 54)).heap.size := HB.out.size
 refine ⟨⟨a1, c1, rfl, xs, ?_, x1.mono (fun _ _ _ h => tkO_mono9 hsz h)⟩, HB.out.trans (b1.mono HB.out.size)⟩
 rw [List.length_map]
 exact own_mono9 o1 hsz
end Go.Proofs.YtmidaeljeoifdaaGreatDoor
