import Derived.Test.YtmidaeljeoifdaaGreatDoorTij
namespace Go.Proofs.YtmidaeljeoifdaaGreatDoor
open Go.RowKit Go.Shelf Go.Sort Go.Maps
set_option linter.unusedVariables false
set_option linter.unusedSimpArgs false
set_option maxHeartbeats 8000000
set_option maxRecDepth 100000
def resF (c : Cf) : Nat → List Int → List RsR
 | _, [] => []
 | i, x :: r => ⟨innB c i, x⟩ :: resF c (i + 1) r
theorem resF_snoc (c : Cf) : ∀ (l : List Int) (i : Nat) (x : Int), resF c i (l ++ [x]) = resF c i l ++ [⟨innB c ((i + l.length : Nat) : Int), x⟩]
 | [], i, x => by simp [resF]
 | y :: r, i, x => by
  simp only [List.cons_append, resF, resF_snoc c r (i + 1) x, List.length_cons]
  rw [show i + 1 + r.length = i + (r.length + 1) by omega]
theorem resF_len (c : Cf) : ∀ (l : List Int) (i : Nat), (resF c i l).length = l.length
 | [], _ => rfl
 | y :: r, i => by simp [resF, resF_len c r (i + 1)]
def resL (c : Cf) (cl : List Int) (sch : Int) : List RsR := resF c 0 cl ++ (if c.o8 then [⟨false, sch⟩] else [])
theorem res_any (w : World) (c : Cf) (v : Vs) (h : CfAt w c v) (ok : MkOK c) (E : Array Value) (lr : Sl) (cl : List Int) (sch : Int) (hE0 : E[0]? = some (.slice lr.a lr.n lr.c)) (hE1 : E[1]? = some (I sch)) (hcl : RowsAt w 1 intP lr cl) (hcn : cl.length = c.ress.length) :
  Calls Tryz.prog 86 #[.agg (cfC c v), .agg E] w fun e w' => (∃ a k, e = .returned (.slice a (resL c cl sch).length k) ∧ RR w.heap.size w' (resL c cl sch) (.slice a (resL c cl sch).length k)) ∧ Below w.heap.size w w' := by
 obtain ⟨im, him, hm0, hm1, hm2⟩ := info_parts rrinfo
 have hi18 : (Tryz.prog.info? 47).map (·.size) = some (cfC c v).size := by rw [show (cfC c v).size = 18 from rfl]; kernel_rfl
 have hb : Below w.heap.size w ((w.alloc (.cells (cfC c v) 47)).alloc (.cells E 82)) := (below_alloc w _).trans ((below_alloc _ _).mono (by simp))
 have hV1 : ((w.alloc (.cells (cfC c v) 47)).alloc (.cells E 82)).heap[w.heap.size]? = some (.cells (cfC c v) 47) := by
  rw [heap_alloc_old _ _ (by simp)]; exact heap_alloc_new w _
 have hV2 : ((w.alloc (.cells (cfC c v) 47)).alloc (.cells E 82)).heap[w.heap.size + 1]? = some (.cells E 82) := heap_n2 _ _ _
 have hrn : v.r.n = c.ress.length := h.r.n
 have hrl : v.r.n ≤ 1048576 := by have := ok.n.2.1; omega
 obtain ⟨w2, hmk, hO2, hg2⟩ := run_make_own (P := Tryz.prog) ((w.alloc (.cells (cfC c v) 47)).alloc (.cells E 82)) ((w.alloc (.cells (cfC c v) 47)).alloc (.cells E 82)).heap.size 24 60 im _ 2 Tryz.underlying24 him hm0 hm1 .i64 .i64 (v.r.n + 1) (by rw [hm2]; omega) (by unfold maxLen; omega) (Nat.le_refl _)
 have q12 : ((w.alloc (.cells (cfC c v) 47)).alloc (.cells E 82)).cell? ⟨w.heap.size, 12, none⟩ = some (.slice v.r.a v.r.n v.r.c) := by rw [cell_of_row _ _ 12 _ _ (0, 0) hV1]; rfl
 have b2 := below_none hg2
 have HV : Hid (∀ W, Below ((w.alloc (.cells (cfC c v) 47)).alloc (.cells E 82)).heap.size ((w.alloc (.cells (cfC c v) 47)).alloc (.cells E 82)) W → W.heap[w.heap.size]? = some (.cells (cfC c v) 47) ∧ W.cell? ⟨w.heap.size, 9, none⟩ = some (.bool c.o8) ∧ W.cell? ⟨w.heap.size + 1, 0, none⟩ = some (.slice lr.a lr.n lr.c) ∧ W.cell? ⟨w.heap.size + 1, 1, none⟩ = some (I sch)) := fun W hW => by
  have h3 := (hW.block _ (heap_lt hV1)).trans hV1
  have h4 := (hW.block _ (heap_lt hV2)).trans hV2
  exact ⟨h3, by rw [cell_of_row _ _ 9 _ _ (0, 0) h3]; rfl, by rw [cell_of_row _ _ 0 _ _ (0, 0) h4]; exact hE0, by rw [cell_of_row _ _ 1 _ _ (0, 0) h4]; exact hE1⟩
 have HB : Hid (Below w.heap.size w ((w.alloc (.cells (cfC c v) 47)).alloc (.cells E 82))) := hb
 have HO : Hid (w2.ownsRow ((w.alloc (.cells (cfC c v) 47)).alloc (.cells E 82)).heap.size 60 2 (.slice (some ⟨((w.alloc (.cells (cfC c v) 47)).alloc (.cells E 82)).heap.size, 0, none⟩) 0 (v.r.n + 1)) 0 [] ∧ Below ((w.alloc (.cells (cfC c v) 47)).alloc (.cells E 82)).heap.size ((w.alloc (.cells (cfC c v) 47)).alloc (.cells E 82)) w2) := ⟨hO2, b2⟩
 have HH : Hid (∀ W, Below w.heap.size w W → CfAt W c v ∧ RowsAt W 1 intP lr cl) := fun W hW => ⟨h.below hW, hcl.below hW (fun _ _ _ _ h => h)⟩
 have HS : Hid (lr.n = cl.length ∧ cl.length = c.ress.length) := ⟨hcl.n, hcn⟩
 have hln : lr.n ≤ 1048576 := by have := hcl.n; omega
 have hlc : lr.n ≤ lr.c := hcl.c
 have hlm : lr.c ≤ maxLen := hcl.m
 unfold maxLen at hlm
 rw [Int.natCast_add, Int.natCast_one] at hmk
 have HI : Hid (∀ W (k : Nat), Below w.heap.size w W → k < cl.length → Calls Tryz.prog 153 #[.agg (cfC c v), I k] W fun e w' => e = .returned (.bool (innB c k)) ∧ Below W.heap.size W w') := fun W k hW hk => isInternal_any W c v (h.below hW) k ⟨by omega, by omega⟩
 clear hO2 hg2 b2 hb hV1 hV2 h hcl hE0 hE1 hcn hrn ok
 generalize hCC : cfC c v = C at *
 clear hCC
 generalize hW : (w.alloc (.cells C 47)).alloc (.cells E 82) = W1 at *
 go_enter Tryz.func86, Tryz.ntmps86
 go_upto_region 1 with fail
 clear hW
 obtain ⟨-, -, q0, -⟩ := HV.out w2 HO.out.2
 go_wp2
 clear hmk
 go_loopw [5, 6, 7, 16] (fun ov _ _ iv wr => ∃ (j : Nat) (a : Option Addr) (k : Nat), j ≤ lr.n ∧ iv = .int .i64 j ∧ ov = .slice a j k ∧ Hid (Below W1.heap.size W1 wr ∧ ∃ xs, wr.ownsRow W1.heap.size 60 2 (.slice a j k) j xs ∧ RwX 2 rsrP (resF c 0 (cl.take j)) xs)) (fun _ _ _ iv _ => lr.n - (intOf iv).toNat)
 case atStart => exact ⟨0, _, _, by omega, rfl, rfl, HO.out.2, [], HO.out.1, RwX.nil _ _⟩
 case round =>
  clear HO q0
  obtain ⟨j, a, k, hj, rfl, rfl, HJ⟩ := hrel
  obtain ⟨hVc, q9, q0, q1⟩ := HV.out wr HJ.out.1
  by_cases hlt : j < lr.n
  ·have hlt' : (j : Int) < lr.n := by omega
   have hlt2 : j < cl.length := by have := HS.out.1; omega
   obtain ⟨x, hx⟩ : ∃ x, cl[j]? = some x := ⟨_, List.getElem?_eq_getElem hlt2⟩
   have BW : Below w.heap.size w wr := HB.out.trans (HJ.out.1.mono HB.out.size)
   obtain ⟨g5, o5, e5, hg5, b5⟩ := ints_at9 (HH.out wr BW).2 hx
   have cx := HI.out wr j BW hlt2
   have HTk : Hid (resF c 0 (cl.take (j + 1)) = resF c 0 (cl.take j) ++ [⟨innB c (j : Int), x⟩]) := by
    show _ = _
    rw [List.take_add_one, hx]
    show resF c 0 (cl.take j ++ [x]) = _
    rw [resF_snoc, List.length_take, show min j cl.length = j by omega, Nat.zero_add]
   rw [e5]
   generalize innB c (j : Int) = ib at *
   clear hx e5 hg5 BW hlt2
   go_wp2_with (first
    | (with_reducible refine wpList_id99 ?_; refine wpList_load_row rfl 47 _ rfl w.heap.size rfl 47 _ (0, 0) _ hVc Tryz.underlying47 rfl hi18 ?_)
    | (go_at_call 153; refine cx.mono ?_; clear cx; rintro e7 w7 ⟨rfl, hb7⟩; have B7 : Below W1.heap.size W1 w7 := HJ.out.1.trans (hb7.mono HJ.out.1.size); obtain ⟨xs, h1, h2⟩ := HJ.out.2; have o7 := own_below h1 hb7; have HX7 : Hid (RwX 2 rsrP (resF c 0 (cl.take j)) xs) := h2; clear h1 h2 hb7 HJ; have s7 := B7.size; have hjl : j ≤ 1048576 := (by omega); have hnew := cells_new9 w7 #[.bool ib, I x] 60)
    | (at_builtin; refine wpList_append_own _ rfl (.tmp 21) (.tmp 27) 24 rfl W1.heap.size 60 im _ 2 16 Tryz.underlying24 him hm0 hm1 hm2 rfl (by decide) _ _ _ rfl (o7.alloc _) ⟨w7.heap.size, 0, none⟩ 1 1 (#[.bool ib, I x] : Array Value).toList rfl rfl hnew (by intro u hu; simp at hu; rcases hu with e | e <;> (subst e; rfl)) (by unfold maxLen; omega) (by omega) (by simp; omega) ?_))
   intro v8 w8 o8 g8 _
   obtain ⟨a8, k8, rfl⟩ := own_slk o8
   have H9 : Hid (Below W1.heap.size W1 w8 ∧ ∃ xs, w8.ownsRow W1.heap.size 60 2 (.slice a8 (j + 1) k8) (j + 1) xs ∧ RwX 2 rsrP (resF c 0 (cl.take (j + 1))) xs) := by
    refine ⟨(B7.alloc B7.size _).grown g8 (by simp; omega) (fun k e => (o7.lt k e).1), _, o8, ?_⟩
    rw [HTk.out]
    refine HX7.out.snoc _ _ rfl (fun i hi => ?_)
    rcases (by omega : i = 0 ∨ i = 1) with rfl | rfl
    ·exact ⟨_, rfl, rfl⟩
    ·exact ⟨_, rfl, rfl⟩
   clear o8 g8 o7 B7 hnew HX7 HTk
   go_wp2
   go_roundw
   case rel => exact ⟨j + 1, a8, k8, by omega, by go_num, rfl, H9.out⟩
   case measure => simp [intOf]; omega
  ·obtain rfl : j = lr.n := by omega
   have hlt' : ¬ ((lr.n : Nat) : Int) < (lr.n : Nat) := by omega
   have HE : Hid (Below W1.heap.size W1 wr ∧ ∃ xs, wr.ownsRow W1.heap.size 60 2 (.slice a lr.n k) lr.n xs ∧ RwX 2 rsrP (resF c 0 cl) xs) := by
    have := HJ.out
    rwa [List.take_of_length_le (by have := HS.out.1; omega)] at this
   have HLn : Hid ((resF c 0 cl).length = lr.n) := by show _ = _; rw [resF_len, HS.out.1]
   clear HJ
   cases ho : c.o8 with
   | false =>
    have HR : Hid (resL c cl sch = resF c 0 cl) := by show _ = _; unfold resL; rw [ho]; simp
    rw [ho] at q9
    clear ho
    go_wp2
    go_ret
    rw [HR.out, HLn.out]
    obtain ⟨h1, xs, h2, h3⟩ := HE.out
    exact ⟨⟨a, k, rfl, xs, by rw [HLn.out]; exact own_mono9 h2 HB.out.size, h3⟩, HB.out.trans (h1.mono HB.out.size)⟩
   | true =>
    have HR : Hid (resL c cl sch = resF c 0 cl ++ [⟨false, sch⟩]) := by show _ = _; unfold resL; rw [ho]; simp
    rw [ho] at q9
    obtain ⟨h1, xs, h2, h3⟩ := HE.out
    have HX7 : Hid (RwX 2 rsrP (resF c 0 cl) xs) := h3
    have s7 := h1.size
    have hnew := cells_new9 wr #[.bool false, I sch] 60
    have o7 := h2
    have B7 : Hid (Below W1.heap.size W1 wr) := h1
    clear ho h1 h2 h3 HE
    go_wp2_with (first
     | (at_builtin; refine wpList_append_own _ rfl (.tmp 33) (.tmp 37) 24 rfl W1.heap.size 60 im _ 2 16 Tryz.underlying24 him hm0 hm1 hm2 rfl (by decide) _ _ _ rfl (o7.alloc _) ⟨wr.heap.size, 0, none⟩ 1 1 (#[.bool false, I sch] : Array Value).toList rfl rfl hnew (by intro u hu; simp at hu; rcases hu with e | e <;> (subst e; rfl)) (by unfold maxLen; omega) (by omega) (by simp; omega) ?_))
    intro v8 w8 o8 g8 _
    obtain ⟨a8, k8, rfl⟩ := own_slk o8
    have H9 : Hid (Below W1.heap.size W1 w8 ∧ ∃ xs, w8.ownsRow W1.heap.size 60 2 (.slice a8 (lr.n + 1) k8) (lr.n + 1) xs ∧ RwX 2 rsrP (resF c 0 cl ++ [⟨false, sch⟩]) xs) := by
     refine ⟨(B7.out.alloc B7.out.size _).grown g8 (by simp; omega) (fun k e => (o7.lt k e).1), _, o8, ?_⟩
     refine HX7.out.snoc _ _ rfl (fun i hi => ?_)
     rcases (by omega : i = 0 ∨ i = 1) with rfl | rfl
     ·exact ⟨_, rfl, rfl⟩
     ·exact ⟨_, rfl, rfl⟩
    clear o8 g8 o7 hnew HX7
    go_wp2
    go_ret
    have hl9 : (resF c 0 cl ++ [(⟨false, sch⟩ : RsR)]).length = lr.n + 1 := by rw [List.length_append, HLn.out]; rfl
    rw [HR.out, hl9]
    obtain ⟨h1, xs, h2, h3⟩ := H9.out
    exact ⟨⟨a8, k8, rfl, xs, by rw [hl9]; exact own_mono9 h2 HB.out.size, h3⟩, HB.out.trans (h1.mono HB.out.size)⟩
def mkI (x : Is) : IsR := ⟨x.cat, x.prio, x.res⟩
end Go.Proofs.YtmidaeljeoifdaaGreatDoor
