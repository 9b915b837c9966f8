import Derived.Test.YtmidaeljeoifdaaGreatDoorTib
namespace Go.Proofs.YtmidaeljeoifdaaGreatDoor
open Go.RowKit Go.Shelf Go.Sort Go.Maps
set_option linter.unusedVariables false
set_option linter.unusedSimpArgs false
set_option maxHeartbeats 8000000
set_option maxRecDepth 100000
def ownL (c : Cf) (l : List Int) : List Int := l.filter (fun x => !innB c x) ++ (if c.o8 then [(c.ress.length : Int)] else [])
theorem own_any9 (w : World) (c : Cf) (v : Vs) (h : CfAt w c v) (s : Sl) (l : List Int) (hl : RowsAt w 1 intP s l) (hll : l.length ≤ 1048576) (hid : ∀ x ∈ l, 0 ≤ x ∧ x < c.ress.length) : Calls Tryz.prog 151 #[.agg (cfC c v), .slice s.a s.n s.c] w fun e w' => ∃ so : Sl, e = .returned (.slice so.a so.n so.c) ∧ IntsO9 w' w.heap.size (ownL c l) (.slice so.a so.n so.c) ∧ Below w.heap.size w w' := by
 obtain ⟨im, him, hm0, hm1, hm2⟩ := info_parts iinfo9
 have hb := below_alloc w (.cells (cfC c v) 47)
 have hV := heap_alloc_new w (.cells (cfC c v) 47)
 have k1 := those_int (w.alloc (.cells (cfC c v) 47)) s l (hl.below hb (fun _ _ _ _ h => h)) hll 208 #[.pointer (some ⟨w.heap.size, 0, none⟩)] (enters_of Tryz.func208 (by kernel_rfl) rfl) (fun x => !innB c x) (fun W hW x hx => own1_any W c v ((h.below hb).below hW) w.heap.size ((hW.block _ (heap_lt hV)).trans hV) x (hid x hx))
 have HV : Hid (∀ W, Below (w.alloc (.cells (cfC c v) 47)).heap.size (w.alloc (.cells (cfC c v) 47)) W → W.cell? ⟨w.heap.size, 9, none⟩ = some (.bool c.o8) ∧ W.cell? ⟨w.heap.size, 12, none⟩ = some (.slice v.r.a v.r.n v.r.c)) := fun W hW => by
  have hv := (hW.block _ (heap_lt hV)).trans hV
  exact ⟨by rw [cell_of_row W _ 9 _ _ (0, 0) hv]; rfl, by rw [cell_of_row W _ 12 _ _ (0, 0) hv]; rfl⟩
 have HN : Hid (v.r.n = c.ress.length) := h.r.n
 have HB : Hid _ := hb
 have HL : Hid ((l.filter (fun x => !innB c x)).length ≤ 1048576) := Nat.le_trans (List.length_filter_le _ _) hll
 have HSZ : Hid (w.heap.size ≤ (w.alloc (.cells (cfC c v) 47)).heap.size) := hb.size
 obtain ⟨L, hLL⟩ : ∃ L, L = l.filter (fun x => !innB c x) := ⟨_, rfl⟩
 have HO : Hid (ownL c l = L ++ (if c.o8 then [(v.r.n : Int)] else [])) := by show _ = _; unfold ownL; rw [hLL, HN.out]
 rw [HO.out]
 rw [← hLL] at k1 HL
 clear hLL hl hll hid h hV hb HO
 generalize hCC : cfC c v = C at *
 clear hCC
 generalize c.o8 = o8 at *
 go_enter Tryz.func151, Tryz.ntmps151
 go_upto_region 1 with fail
 generalize hW : w.alloc (.cells C 47) = W1 at *
 clear hW
 go_upto_region 2 with (first | (go_at_call 207; refine k1.mono ?_; clear k1; rintro e w1 ⟨⟨a1, c1, rfl, i1⟩, b1⟩))
 obtain ⟨q9, q12⟩ := HV.out w1 b1
 have B1 : Below w.heap.size w w1 := HB.out.trans (b1.mono HB.out.size)
 have hL := HL.out
 generalize hn : L.length = n at *
 cases o8 with
 | false =>
  have HI : Hid (IntsO9 w1 w.heap.size L (.slice a1 n c1)) := intsO_mono9 i1 HSZ.out
  have HB1 : Hid _ := B1
  clear i1 b1 B1
  go_wp2
  go_ret
  refine ⟨⟨a1, n, c1⟩, rfl, ?_, HB1.out⟩
  simp only [Bool.false_eq_true, if_false, List.append_nil]
  exact HI.out
 | true =>
  have o7 : w1.ownsRow W1.heap.size 3 1 (.slice a1 n c1) n (L.map fun x => I x) := by
   unfold IntsO9 at i1
   rw [hn] at i1
   exact i1
  have s7 := b1.size
  have hnew := cells_new9 w1 #[I (v.r.n : Int)] 3
  have HB1 : Hid _ := B1
  have Hb1 : Hid _ := b1
  have HNN : Hid (L.length = n) := hn
  generalize hXS : (L.map fun x => I x) = XS at *
  clear i1 B1 b1 hn
  go_wp2_with (first
   | (at_builtin; refine wpList_append_own _ rfl (.tmp 12) (.tmp 16) 54 rfl W1.heap.size 3 im _ 1 8 Tryz.underlying54 him hm0 hm1 hm2 rfl (by decide) _ _ _ rfl (o7.alloc _) ⟨w1.heap.size, 0, none⟩ 1 1 (#[I (v.r.n : Int)] : Array Value).toList rfl rfl hnew (by intro u hu; simp at hu; subst hu; rfl) (by unfold maxLen; omega) (by omega) (by simp; omega) ?_))
  intro v8 w8 o8 g8 _
  obtain ⟨a8, k8, rfl⟩ := own_slk o8
  have H9 : Hid (IntsO9 w8 w.heap.size (L ++ [(v.r.n : Int)]) (.slice a8 (n + 1) k8) ∧ Below w.heap.size w w8) := by
   refine ⟨?_, (HB1.out.trans ((below_alloc w1 _).mono HB1.out.size)).grown g8 (by have := HB1.out.size; simp; omega) (fun k e => Nat.le_trans HSZ.out (o7.lt k e).1)⟩
   refine intsO_mono9 (B' := W1.heap.size) ?_ HSZ.out
   unfold IntsO9
   rw [List.length_append, HNN.out, List.map_append, hXS]
   exact o8
  clear o8 g8 o7 hnew hXS
  go_wp2
  go_ret
  refine ⟨⟨a8, n + 1, k8⟩, rfl, ?_, H9.out.2⟩
  simp only [if_true]
  exact H9.out.1
end Go.Proofs.YtmidaeljeoifdaaGreatDoor
