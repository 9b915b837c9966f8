import Derived.Test.YtmidaeljeoifdaaGreatDoorTcw
namespace Go.Proofs.YtmidaeljeoifdaaGreatDoor
set_option maxRecDepth 100000
set_option maxHeartbeats 16000000
open Go.RowKit Go.Shelf Go.Sort
set_option linter.unusedVariables false
set_option linter.unusedSimpArgs false
theorem isrsFit1_any (y x : IsR) (sy sx : Sl) (X : Nat) (w : World) (hX : w.heap[X]? = some (.cells (isrC x sx) 72)) :
  Calls Tryz.prog 67 #[.agg (isrC y sy), .pointer (some ⟨X, 0, none⟩)] w fun e w' => e = .returned (.bool (apartB y x)) ∧ Below w.heap.size w w' := by
 have hb := below_alloc w (.cells (isrC y sy) 72)
 have hX0 : (w.alloc (.cells (isrC y sy) 72)).heap[X]? = some (.cells (isrC x sx) 72) := (hb.block X (heap_lt hX)).trans hX
 have hY0 := heap_alloc_new w (.cells (isrC y sy) 72)
 have ka := areApart_any y x sy sx (w.alloc (.cells (isrC y sy) 72))
 have hi88 : (Tryz.prog.info? 72).map (·.size) = some (isrC x sx).size := by kernel_rfl
 have hi88' : (Tryz.prog.info? 72).map (·.size) = some (isrC y sy).size := by kernel_rfl
 generalize apartB y x = bb at *
 clear hX
 unfold isrC at *
 have a0 := cell_of_row _ X 0 _ _ (0, 0) hX0
 have a1 := cell_of_row _ X 1 _ _ (0, 0) hX0
 have a2 := cell_of_row _ X 2 _ _ (0, 0) hX0
 simp at a0 a1 a2
 clear hX0 hY0
 go_enter Tryz.func67, Tryz.ntmps67
 go_wp2_with (go_at_call 68; refine ka.mono ?_; clear ka; rintro e w' ⟨rfl, hb2⟩)
 go_ret
 exact ⟨rfl, hb.trans (hb2.mono hb.size)⟩
theorem relem_sz (w : World) : (sizeOf (Tryz.prog.elem 27)).run Tryz.prog w = .ok 3 w := by
 have : Tryz.prog.elem 27 = 72 := by kernel_rfl
 rw [this]
 have h : (Tryz.prog.info? 72).map (·.size) = some 3 := by kernel_rfl
 cases hq : Tryz.prog.info? 72 with
 | none => rw [hq] at h; cases h
 | some i =>
  rw [hq] at h
  simp at h
  simp [sizeOf, typeInfo, hq, h]
theorem rundS : Tryz.prog.underlying 27 = some (.slice (Tryz.prog.elem 27)) := by kernel_rfl
theorem rsl_to (g off L c m : Nat) (h : m ≤ c) (wx : World) :
  (Instr.slice 27 (.slice (some ⟨g, off, none⟩) L c) none (some (I m)) none).run Tryz.prog wx = .ok (.slice (some ⟨g, off, none⟩) m c) wx := by
 rw [run_slice_h wx 27 _ L c rundS .i64 (m : Int) (by omega) (by omega), relem_sz]
 have e1 : ((m : Int)).toNat = m := by omega
 simp only [Result.andThen, sliced, e1, Option.map_some, Nat.zero_mul, Nat.sub_zero]
 simp [Addr.add]
theorem RowsAt.take {α : Type} {w : World} {k : Nat} {P : α → Nat → Value → Prop} {s : Sl} {l : List α} (h : RowsAt w k P s l) (j : Nat) (hj : j ≤ s.n) : RowsAt w k P ⟨s.a, j, s.c⟩ (l.take j) := by
 refine ⟨by rw [List.length_take]; have := h.n; simp only; omega, Nat.le_trans hj h.c, h.m, fun i x hx => ?_⟩
 refine h.row i x ?_
 rw [List.getElem?_take] at hx
 split at hx
 ·exact hx
 ·cases hx
theorem isrsFit_any (tb : Tb) (v : Ts) (w : World) (h : TbAt w tb v) : Calls Tryz.prog 23 #[.agg (tbC tb v)] w fun e w' => e = .returned (.bool (isrsG tb [] tb.isrs)) ∧ Below w.heap.size w w' := by
 have hV := heap_alloc_new w (.cells (tbC tb v) 30)
 have HB : Hid (Below w.heap.size w (w.alloc (.cells (tbC tb v) 30))) := below_alloc w _
 have HT : Hid (TbAt (w.alloc (.cells (tbC tb v) 30)) tb v) := h.below HB.out
 have HVV : Hid ((w.alloc (.cells (tbC tb v) 30)).heap[w.heap.size]? = some (.cells (tbC tb v) 30)) := hV
 obtain ⟨c0, c1, c2, c3, c4, c5, c6, c7, c8, c9, c10, c11, c12⟩ := var13 hV
 have HS : Hid (v.i.n = tb.isrs.length) := h.i.n
 have hsc : v.i.n ≤ v.i.c := h.i.c
 have hsm : v.i.c ≤ maxLen := h.i.m
 unfold maxLen at hsm
 have hi30 : (Tryz.prog.info? 30).map (·.size) = some (tbC tb v).size := by kernel_rfl
 obtain ⟨R, hR⟩ : ∃ R, R = isrsG tb [] tb.isrs := ⟨_, rfl⟩
 rw [← hR]
 have HR : Hid (R = isrsG tb (tb.isrs.take 0) (tb.isrs.drop 0)) := by show _ = _; simpa using hR
 clear hR h hV c0 c1 c2 c3 c4 c5 c6 c8 c9 c10 c11 c12
 go_enter Tryz.func23, Tryz.ntmps23
 unfold tbC at *
 generalize hW : w.alloc (.cells #[I tb.uses, I tb.modes, .slice v.t.a v.t.n v.t.c, .slice v.g.a v.g.n v.g.c, .slice v.r.a v.r.n v.r.c, .slice v.k.a v.k.n v.k.c, .slice v.a.a v.a.n v.a.c, .slice v.i.a v.i.n v.i.c, .slice v.s.a v.s.n v.s.c, I tb.depth, I tb.frames, I tb.errors, I tb.calls] 30) = W1 at *
 go_upto_region 1 with fail
 clear hW
 go_wp2
 go_loopw [3, 4, 8] (fun _ _ iv wr => ∃ (j : Nat), j ≤ v.i.n ∧ iv = .int .i64 j ∧ Hid (R = isrsG tb (tb.isrs.take j) (tb.isrs.drop j) ∧ Below W1.heap.size W1 wr)) (fun _ _ iv _ => v.i.n - (intOf iv).toNat)
 case atStart => exact ⟨0, by omega, rfl, HR.out, Below.refl _ _⟩
 case round =>
  clear HR
  obtain ⟨j, hj, rfl, HJ⟩ := hrel
  by_cases hlt : j < v.i.n
  ·have hlt' : (j : Int) < v.i.n := by omega
   obtain ⟨x, hx⟩ : ∃ x, tb.isrs[j]? = some x := ⟨_, List.getElem?_eq_getElem (by rw [← HS.out]; exact hlt)⟩
   obtain ⟨g5, o5, s2, e5, hg5, x0, x1, x2, r2⟩ := isr_at (HT.out.below HJ.out.2) hx
   have HX : Hid (R = (isB tb x && (tb.isrs.take j).all (fun a => apartB a x) && isrsG tb (tb.isrs.take (j + 1)) (tb.isrs.drop (j + 1)))) := by
    have h9 := HJ.out.1
    rw [drop_at hx, isrsG] at h9
    rw [List.take_add_one, hx]
    exact h9
   have b0 := HJ.out.2
   have bX : Below W1.heap.size W1 (wr.alloc (.cells #[I x.cat, I x.prio, .slice s2.a s2.n s2.c] 72)) := b0.trans ((below_alloc wr _).mono b0.size)
   have hXX := heap_alloc_new wr (.cells #[I x.cat, I x.prio, .slice s2.a s2.n s2.c] 72)
   have hV0 : (wr.alloc (.cells #[I x.cat, I x.prio, .slice s2.a s2.n s2.c] 72)).heap[w.heap.size]? = some (.cells #[I tb.uses, I tb.modes, .slice v.t.a v.t.n v.t.c, .slice v.g.a v.g.n v.g.c, .slice v.r.a v.r.n v.r.c, .slice v.k.a v.k.n v.k.c, .slice v.a.a v.a.n v.a.c, .slice v.i.a v.i.n v.i.c, .slice v.s.a v.s.n v.s.c, I tb.depth, I tb.frames, I tb.errors, I tb.calls] 30) := (bX.block w.heap.size (heap_lt HVV.out)).trans HVV.out
   have r20 := r2.below (below_alloc wr (.cells #[I x.cat, I x.prio, .slice s2.a s2.n s2.c] 72)) (fun _ _ _ _ h => h)
   have hga := e5
   rw [e5]
   clear hx HJ b0 r2
   go_upto_region 4 with fail
   generalize wr.heap.size = X at *
   generalize (wr.alloc (.cells #[I x.cat, I x.prio, .slice s2.a s2.n s2.c] 72)) = W0 at *
   have kf := isrFits_any tb v x s2 W0 (HT.out.below bX) r20
   unfold tbC isrC at kf
   have ke : ∀ W2, Below W0.heap.size W0 W2 → Calls Tryz.prog 66 #[.slice (some ⟨g5, o5, none⟩) j v.i.c, .func (.func 67) #[] #[.pointer (some ⟨X, 0, none⟩)]] W2 fun e w' => e = .returned (.bool ((tb.isrs.take j).all (fun a => apartB a x))) ∧ Below W2.heap.size W2 w' := fun W2 hW2 =>
    every_isr W2 ⟨some ⟨g5, o5, none⟩, j, v.i.c⟩ (tb.isrs.take j) (fun W hW => by
     have := ((HT.out.below bX).below (hW2.trans (hW.mono hW2.size))).i.take j (by omega)
     rw [hga] at this
     exact this) 67 #[.pointer (some ⟨X, 0, none⟩)] (enters_of Tryz.func67 (by kernel_rfl) rfl) (fun a => apartB a x) (fun W hW y hy sy _ => isrsFit1_any y x sy s2 X W (((hW2.trans (hW.mono hW2.size)).block X (heap_lt hXX)).trans hXX))
   have hsl := fun wx => rsl_to g5 o5 v.i.n v.i.c j (by omega) wx
   have y0 := cell_of_row _ X 0 _ _ (0, 0) hXX
   have y1 := cell_of_row _ X 1 _ _ (0, 0) hXX
   have y2 := cell_of_row _ X 2 _ _ (0, 0) hXX
   simp at y0 y1 y2
   have HV7 : Hid (∀ W2, Below W0.heap.size W0 W2 → W2.cell? ⟨w.heap.size, 7, none⟩ = some (.slice (some ⟨g5, o5, none⟩) v.i.n v.i.c)) := fun W2 hW2 => by
    have h1 := (var13 ((hW2.block w.heap.size (heap_lt hV0)).trans hV0)).2.2.2.2.2.2.2.1
    rw [hga] at h1
    exact h1
   have HB0 : Hid (Below w.heap.size w W0) := HB.out.trans (bX.mono HB.out.size)
   have HBX : Hid (Below W1.heap.size W1 W0) := bX
   clear hXX bX r20 e5 hga x0 x1 x2
   have hV0' : Hid (W0.heap[w.heap.size]? = some (.cells #[I tb.uses, I tb.modes, .slice v.t.a v.t.n v.t.c, .slice v.g.a v.g.n v.g.c, .slice v.r.a v.r.n v.r.c, .slice v.k.a v.k.n v.k.c, .slice v.a.a v.a.n v.a.c, .slice v.i.a v.i.n v.i.c, .slice v.s.a v.s.n v.s.c, I tb.depth, I tb.frames, I tb.errors, I tb.calls] 30)) := hV0
   clear hV0
   cases b1 : isB tb x with
   | false =>
    rw [b1] at kf HX
    go_wp2_with (first
     | (refine wpList_load_row rfl 30 _ rfl w.heap.size rfl 30 _ (0, 0) _ hV0'.out Tryz.underlying30 rfl hi30 ?_)
     | (go_at_call 65; refine kf.mono ?_; clear kf; rintro e w2 ⟨rfl, hb2⟩))
    go_ret
    exact ⟨ret_bool' (by rw [HX.out]; simp), HB0.out.trans (hb2.mono HB0.out.size)⟩
   | true =>
    rw [b1] at kf HX
    cases b2 : (tb.isrs.take j).all (fun a => apartB a x) with
    | false =>
     rw [b2] at HX
     go_wp2_with (first
      | (refine wpList_load_row rfl 30 _ rfl w.heap.size rfl 30 _ (0, 0) _ hV0'.out Tryz.underlying30 rfl hi30 ?_)
      | (go_at_call 65; refine kf.mono ?_; clear kf; rintro e w2 ⟨rfl, hb2⟩; have q7 := HV7.out w2 hb2; have kg := ke w2 hb2; rw [b2] at kg)
      | (go_at_call 66; refine kg.mono ?_; clear kg; rintro e w3 ⟨rfl, hb3⟩))
     go_ret
     exact ⟨ret_bool' (by rw [HX.out]; simp), HB0.out.trans ((hb2.trans (hb3.mono hb2.size)).mono HB0.out.size)⟩
    | true =>
     rw [b2] at HX
     go_wp2_with (first
      | (refine wpList_load_row rfl 30 _ rfl w.heap.size rfl 30 _ (0, 0) _ hV0'.out Tryz.underlying30 rfl hi30 ?_)
      | (go_at_call 65; refine kf.mono ?_; clear kf; rintro e w2 ⟨rfl, hb2⟩; have q7 := HV7.out w2 hb2; have kg := ke w2 hb2; rw [b2] at kg)
      | (go_at_call 66; refine kg.mono ?_; clear kg; rintro e w3 ⟨rfl, hb3⟩))
     go_roundw
     case rel => exact ⟨j + 1, by omega, by go_num, by rw [HX.out]; simp, HBX.out.trans ((hb2.trans (hb3.mono hb2.size)).mono HBX.out.size)⟩
     case measure => simp [intOf]; omega
  ·obtain rfl : j = v.i.n := by omega
   have hlt' : ¬ ((v.i.n : Nat) : Int) < (v.i.n : Nat) := by omega
   have HE : Hid (R = true) := by
    have := HJ.out.1
    rw [List.drop_eq_nil_of_le (by rw [HS.out]; exact Nat.le_refl _), isrsG] at this
    exact this
   have HB9 : Hid (Below w.heap.size w wr) := HB.out.trans (HJ.out.2.mono HB.out.size)
   clear HJ
   go_wp2
   go_ret
   exact ⟨ret_bool' HE.out.symm, HB9.out⟩
end Go.Proofs.YtmidaeljeoifdaaGreatDoor
