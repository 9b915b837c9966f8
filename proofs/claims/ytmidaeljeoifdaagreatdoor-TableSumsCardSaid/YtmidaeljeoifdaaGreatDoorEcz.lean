import Derived.Test.YtmidaeljeoifdaaGreatDoorEcy
namespace Go.Proofs.YtmidaeljeoifdaaGreatDoor.Ce
set_option maxRecDepth 100000
set_option maxHeartbeats 16000000
open Go.RowKit Go.Maps
set_option linter.unusedVariables false
set_option linter.unusedSimpArgs false
theorem ceilings_any (w : World) (c : Cf) (v : Vs) (h : CfAt w c v) (hn : c.ress.length ≤ 8796093022208) (hmt : meetB c = true) (hends : endsB c = true) (b : Nat) (hE : EndsAt w b c) :
  Calls Tryz.prog 79 #[.agg (cfC c v), .map (some b)] w fun e w' => OwnI w (ceilL c) e w' := by
 have hmm := @run_makeMap Tryz.prog
 obtain ⟨i0, hi0, hz0, hz1, hz2⟩ := info_parts Tryz.infoInt
 have hi18 : (Tryz.prog.info? 47).map (·.size) = some (cfC c v).size := by rw [show (cfC c v).size = 18 from rfl]; kernel_rfl
 have HN : Hid (v.r.n = c.ress.length) := h.r.n
 have hn2 : v.r.n ≤ 8796093022208 := by have := h.r.n; omega
 have w2s : ((w.alloc (.cells (cfC c v) 47)).alloc (.cells #[.map (some b)] 152)).heap.size = w.heap.size + 2 := by simp
 have q3 : BoxC ((((w.alloc (.cells (cfC c v) 47)).alloc (.cells #[.map (some b)] 152)).alloc (.map #[] 0)).alloc (.cells #[.map (some (w.heap.size + 2))] 204)) w.heap.size c v := heap_over _ _ (heap_over _ _ (heap_two0 w _ _))
 have q2 : BoxM ((((w.alloc (.cells (cfC c v) 47)).alloc (.cells #[.map (some b)] 152)).alloc (.map #[] 0)).alloc (.cells #[.map (some (w.heap.size + 2))] 204)) (w.heap.size + 1) b 152 := heap_over _ _ (heap_over _ _ (heap_two w _ _))
 have q1 : BoxM ((((w.alloc (.cells (cfC c v) 47)).alloc (.cells #[.map (some b)] 152)).alloc (.map #[] 0)).alloc (.cells #[.map (some (w.heap.size + 2))] 204)) (w.heap.size + 3) (w.heap.size + 2) 204 := by
  have := heap_alloc_new (((w.alloc (.cells (cfC c v) 47)).alloc (.cells #[.map (some b)] 152)).alloc (.map #[] 0)) (.cells #[.map (some (w.heap.size + 2))] 204)
  simp only [World.size_alloc] at this
  exact this
 have q4 : MapT ((((w.alloc (.cells (cfC c v) 47)).alloc (.cells #[.map (some b)] 152)).alloc (.map #[] 0)).alloc (.cells #[.map (some (w.heap.size + 2))] 204)) (w.heap.size + 2) c.ress.length [] (fun _ => none) := by
  have := (MapT.made ((w.alloc (.cells (cfC c v) 47)).alloc (.cells #[.map (some b)] 152)) c.ress.length).below (below_alloc _ (.cells #[.map (some (w.heap.size + 2))] 204))
  rw [w2s] at this
  exact this
 have hb4 : Below w.heap.size w ((((w.alloc (.cells (cfC c v) 47)).alloc (.cells #[.map (some b)] 152)).alloc (.map #[] 0)).alloc (.cells #[.map (some (w.heap.size + 2))] 204)) := ((((Below.refl w.heap.size w).alloc (Nat.le_refl _) _).alloc (by simp) _).alloc (by simp; omega) _).alloc (by simp; omega) _
 have hs4 : ((((w.alloc (.cells (cfC c v) 47)).alloc (.cells #[.map (some b)] 152)).alloc (.map #[] 0)).alloc (.cells #[.map (some (w.heap.size + 2))] 204)).heap.size = w.heap.size + 4 := by simp
 have ke := users_tops w c v h hn hmt hends b hE _ hs4 hb4 q1 q2 q3 q4
 have hV4 : ((((w.alloc (.cells (cfC c v) 47)).alloc (.cells #[.map (some b)] 152)).alloc (.map #[] 0)).alloc (.cells #[.map (some (w.heap.size + 2))] 204)).heap[w.heap.size]? = some (.cells (cfC c v) 47 (0, 0)) := q3
 have hcv : ∀ W : World, BoxC W w.heap.size c v → W.cell? ⟨w.heap.size, 12, none⟩ = some (.slice v.r.a v.r.n v.r.c) := fun W hW => by
  obtain ⟨_, h10, h11, h12, h13, h14, h15, h16, h17⟩ := var18_all hW
  exact h12
 have HCV : Hid (∀ W : World, BoxC W w.heap.size c v → W.cell? ⟨w.heap.size, 12, none⟩ = some (.slice v.r.a v.r.n v.r.c)) := hcv
 have HEN : Hid (endsB c = true) := hends
 generalize hCC : cfC c v = C at *
 clear q1 q2 q3 q4 hb4 hs4 w2s hcv hE hends hmt h
 go_enter Tryz.func79, Tryz.ntmps79
 go_upto_region 3 with (first | (refine wpList_load_row rfl 47 _ rfl w.heap.size rfl 47 _ (0, 0) _ hV4 Tryz.underlying47 rfl hi18 ?_) | (go_at_call 130; refine ke.mono ?_; clear ke; rintro e w5 ⟨rfl, hI⟩))
 obtain ⟨k1, k2, k3, k4, k5, ks, k6⟩ := hI
 have y12 := HCV.out _ k3
 have H5 : Hid (BoxM w5 (w.heap.size + 3) (w.heap.size + 2) 204 ∧ BoxM w5 (w.heap.size + 1) b 152 ∧ EndsAt w5 b c ∧ Below w.heap.size w w5 ∧ MapT w5 (w.heap.size + 2) c.ress.length ks (topI c c.isrs.length)) := ⟨k1, k2, k4, k5, k6⟩
 have hws := k5.size
 clear hmm hV4 k1 k2 k3 k4 k5 k6 HCV
 go_wp2_with (refine wpList_make_full _ rfl _ _ 54 rfl w.heap.size 3 i0 (.int .i64 0) 1 Tryz.underlying54 hi0 hz0 hz1 .i64 .i64 _ _ v.r.n rfl rfl rfl rfl (by rw [hz2]; omega) (by unfold maxLen; omega) hws ?_; intro w6 hO6 hg6)
 have HB6 : Hid (Below w5.heap.size w5 w6) := below_none hg6
 have HO6 : Hid (w6.ownsRow w.heap.size 3 1 (.slice (some ⟨w5.heap.size, 0, none⟩) v.r.n v.r.n) v.r.n (rowJ c 0)) := by
  rw [rowJ_zero, ← HN.out]
  have := hO6
  rw [show (Value.int .i64 0).cells = #[.int .i64 0] from rfl, Nat.mul_one, toList_madeCells_one] at this
  exact this
 clear hO6 hg6 y12
 go_loopw [7, 18] (fun _ iv wr => ∃ j : Nat, j ≤ v.r.n ∧ iv = .int .i64 j ∧ Hid (wr.ownsRow w.heap.size 3 1 (.slice (some ⟨w5.heap.size, 0, none⟩) v.r.n v.r.n) v.r.n (rowJ c j) ∧ Below w5.heap.size w5 wr)) (fun _ iv _ => v.r.n - (intOf iv).toNat)
 case atStart => exact ⟨0, by omega, rfl, HO6.out, HB6.out⟩
 case round =>
  clear HB6 HO6
  obtain ⟨j, hj, rfl, HJ⟩ := hrel
  obtain ⟨hO, hB⟩ := HJ.out
  by_cases hlt : j < v.r.n
  ·have hlt' : (j : Int) < v.r.n := by omega
   have hjn : j < c.ress.length := by rw [← HN.out]; exact hlt
   obtain ⟨p1, p2, p3, p4, p5⟩ := H5.out
   have y1 : wr.cell? ⟨w.heap.size + 3, 0, none⟩ = some (.map (some (w.heap.size + 2))) := BoxM.cell ((hB.block _ (heap_lt p1)).trans p1)
   have y2 : wr.cell? ⟨w.heap.size + 1, 0, none⟩ = some (.map (some b)) := BoxM.cell ((hB.block _ (heap_lt p2)).trans p2)
   have hE := p3.below hB
   have hM := p5.below hB
   have hr0 := endsB_at HEN.out hjn
   have hrl := rootF_lt c c.ress.length (j : Int)
   obtain ⟨q, hq⟩ := Int.eq_ofNat_of_zero_le hr0
   have hq63 : q < 9223372036854775808 := by have : rootN c (j : Int) < c.ress.length := hrl; omega
   have Hq : Hid (rootN c (j : Int) = (q : Int)) := hq
   have kt := told_any wr (topI c c.isrs.length q)
   have HT : Hid (toldI (topI c c.isrs.length q) = ceilE c j) := by show _ = _; unfold ceilE; rw [hq]; rfl
   obtain ⟨ce, hce⟩ : ∃ ce, ce = ceilE c j := ⟨_, rfl⟩
   rw [HT.out, ← hce] at kt
   have Hce : Hid (ce = ceilE c j) := hce
   clear hce HT
   have hin : j < v.r.n * 1 := by omega
   have HF : Hid (∀ w2, Below wr.heap.size wr w2 → w2.ownsRow w.heap.size 3 1 (.slice (some ⟨w5.heap.size, 0, none⟩) v.r.n v.r.n) v.r.n (rowJ c j) ∧ Below w5.heap.size w5 w2 ∧ ∃ u, w2.cell? ⟨w5.heap.size, j, none⟩ = some u) := fun w2 h2 => by
    have o2 := own_below hO h2
    refine ⟨o2, hB.trans (h2.mono hB.size), ?_⟩
    rw [o2.cellAt j hin]
    exact ⟨_, List.getElem?_eq_getElem (by unfold rowJ; simpa using hjn)⟩
   clear HJ p1 p2 p3 p4 p5 hr0 hrl hq hO hB hin
   go_wp2_with (first | (at_lookup; refine wpList_find_g _ _ 152 rfl Tryz.underlying152 b c rfl hE hn j hjn rfl (by kernel_rfl) ?_; intro e7 HX7; have h7 := HX7.out; rw [Hq.out] at h7; subst h7) | (at_lookup; refine wpList_top_at rfl _ _ 204 rfl Tryz.underlying204 (w.heap.size + 2) c.ress.length ks _ rfl hM q hq63 rfl ?_) | (go_at_call 133; refine kt.mono ?_; clear kt; rintro e w2 ⟨rfl, hb2⟩; obtain ⟨hO2, hB2, u2, z2⟩ := HF.out _ hb2; have fz := hO2.frozenAt j; have HO2 : Hid (w2.ownsRow w.heap.size 3 1 (.slice (some ⟨w5.heap.size, 0, none⟩) v.r.n v.r.n) v.r.n (rowJ c j)) := hO2; have HB2 : Hid (Below w5.heap.size w5 w2) := hB2; clear hb2 hO2 hB2))
   have HJ2 : Hid ((w2.setCell ⟨w5.heap.size, j, none⟩ (I ce)).ownsRow w.heap.size 3 1 (.slice (some ⟨w5.heap.size, 0, none⟩) v.r.n v.r.n) v.r.n (rowJ c (j + 1)) ∧ Below w5.heap.size w5 (w2.setCell ⟨w5.heap.size, j, none⟩ (I ce))) := by
    have st := HO2.out.stored j (I ce)
    refine ⟨?_, HB2.out.grown st.2 HB2.out.size (fun k e => by cases e; exact Nat.le_refl _)⟩
    rw [← rowJ_set, ← Hce.out]
    exact st.1
   go_roundw
   case rel => exact ⟨j + 1, by omega, by go_num, HJ2.out⟩
   case measure => simp [intOf]; omega
  ·obtain rfl : j = v.r.n := by omega
   have hlt' : ¬ ((v.r.n : Nat) : Int) < (v.r.n : Nat) := by omega
   have HO9 : Hid (wr.ownsRow w.heap.size 3 1 (.slice (some ⟨w5.heap.size, 0, none⟩) v.r.n v.r.n) (ceilL c).length ((ceilL c).map fun x => I x)) := by
    have := hO
    rw [show rowJ c v.r.n = rowJ c c.ress.length by rw [HN.out], rowJ_end] at this
    rw [show (ceilL c).length = v.r.n by unfold ceilL; rw [List.length_map, List.length_range, HN.out]]
    exact this
   have HB9 : Hid (Below w.heap.size w wr) := H5.out.2.2.2.1.trans (hB.mono hws)
   clear hO hB HJ
   go_wp2
   go_ret
   exact ⟨_, rfl, HO9.out, HB9.out⟩
end Go.Proofs.YtmidaeljeoifdaaGreatDoor.Ce
