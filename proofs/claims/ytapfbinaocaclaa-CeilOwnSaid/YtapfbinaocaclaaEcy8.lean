import Derived.Test.YtapfbinaocaclaaEcx8
namespace Go.Proofs.Ytapfbinaocaclaa
open Go.RowKit Go.Maps
set_option linter.unusedVariables false
set_option linter.unusedSimpArgs false

def cpV (tt tr ti : Sl) : Vs := ⟨nilS, tt, tr, nilS, nilS, nilS, ti, nilS⟩
structure CpO (w : World) (c : Cf) (tt tr ti : Sl) (W : World) : Prop where
  t : ∃ xs, W.ownsRow w.heap.size 47 8 (.slice tt.a tt.n tt.c) c.tasks.length xs ∧ RowsX 8 (tkO W w.heap.size) c.tasks xs
  r : ∃ xs, W.ownsRow w.heap.size 89 3 (.slice tr.a tr.n tr.c) c.ress.length xs ∧ RowsX 3 rsP c.ress xs
  i : ∃ xs, W.ownsRow w.heap.size 49 5 (.slice ti.a ti.n ti.c) c.isrs.length xs ∧ RowsX 5 (isO W w.heap.size) c.isrs xs
theorem CpO.cf {w : World} {c : Cf} {tt tr ti : Sl} {W : World} (h : CpO w c tt tr ti W) : CfAt W (cpyC c) (cpV tt tr ti) := by
  obtain ⟨xt, t1, t2⟩ := h.t
  obtain ⟨xr, r1, r2⟩ := h.r
  obtain ⟨xi, i1, i2⟩ := h.i
  refine ⟨rows_nil _ _ _, ?_, RowsX.rows r1 r2, rows_nil _ _ _, rows_nil _ _ _, rows_nil _ _ _, ?_, rows_nil _ _ _⟩
  · exact RowsX.rows (l := c.tasks.map cpT) (by rw [List.length_map]; exact t1) (t2.map cpT (fun x i u hu => tkO_P hu))
  · exact RowsX.rows (l := c.isrs.map cpI) (by rw [List.length_map]; exact i1) (i2.map cpI (fun x i u hu => isO_P hu))
theorem CpO.below {w : World} {c : Cf} {tt tr ti : Sl} {W W' : World} (h : CpO w c tt tr ti W) (hb : Below W.heap.size W W') : CpO w c tt tr ti W' := by
  obtain ⟨xt, t1, t2⟩ := h.t
  obtain ⟨xr, r1, r2⟩ := h.r
  obtain ⟨xi, i1, i2⟩ := h.i
  exact ⟨⟨xt, own_below t1 hb, t2.mono (tkO_mono (fun _ _ _ h => own_below h hb))⟩, ⟨xr, own_below r1 hb, r2⟩, ⟨xi, own_below i1 hb, i2.mono (isO_mono (fun _ _ _ h => own_below h hb))⟩⟩
def CpyP (w : World) (c : Cf) (e : Ending) (w' : World) : Prop := ∃ tt tr ti : Sl, e = .returned (.agg (cfC (cpyC c) (cpV tt tr ti))) ∧ CpO w c tt tr ti w' ∧ Below w.heap.size w w'
set_option maxHeartbeats 8000000 in
set_option maxRecDepth 100000 in
theorem copy_any (w : World) (c : Cf) (v : Vs) (h : CfAt w c v) (hz : SizeOK c) : Calls Try.prog 15 #[.agg (cfC c v)] w fun e w' => CpyP w c e w' := by
  have HNT : Hid (v.t.n = c.tasks.length) := h.t.n
  have HNR : Hid (v.r.n = c.ress.length) := h.r.n
  have HNI : Hid (v.i.n = c.isrs.length) := h.i.n
  have ht1 : v.t.n ≤ v.t.c := h.t.c
  have ht2 : v.t.c ≤ 9223372036854775807 := h.t.m
  have hr1 : v.r.n ≤ v.r.c := h.r.c
  have hr2 : v.r.c ≤ 9223372036854775807 := h.r.m
  have hi1 : v.i.n ≤ v.i.c := h.i.c
  have hi2 : v.i.c ≤ 9223372036854775807 := h.i.m
  have HZ : Hid (SizeOK c) := hz
  have HCf : Hid (CfAt w c v) := h
  have HCV : Hid (∀ W : World, W.heap[w.heap.size]? = some (.cells (cfC c v) 33 (0, 0)) → W.cell? ⟨w.heap.size, 11, none⟩ = some (.slice v.t.a v.t.n v.t.c) ∧ W.cell? ⟨w.heap.size, 12, none⟩ = some (.slice v.r.a v.r.n v.r.c) ∧ W.cell? ⟨w.heap.size, 16, none⟩ = some (.slice v.i.a v.i.n v.i.c)) := fun W hW => by
    obtain ⟨_, h10, h11, h12, h13, h14, h15, h16, h17⟩ := var18_all hW
    exact ⟨h11, h12, h16⟩
  have f9 : ∀ h : 9 < (cfC c v).size, (cfC c v)[9] = .bool c.o8 := fun _ => rfl
  have hs18 : (cfC c v).size = 18 := rfl
  have H0 : Hid (CpS w c v 0 0 0 (.slice none 0 0) (.slice none 0 0) (.slice none 0 0) ((((w.alloc (.cells (cfC c v) 33)).alloc (.cells (dC false (.slice none 0 0) (.slice none 0 0) (.slice none 0 0)) 33)).alloc (.cells (dC c.o8 (.slice none 0 0) (.slice none 0 0) (.slice none 0 0)) 33)))) := by
    refine ⟨(((Below.refl w.heap.size w).alloc (Nat.le_refl _) _).alloc (by simp) _).alloc (by simp; omega) _, heap_over _ _ (heap_two0 w _ _), heap_over _ _ (heap_two w _ _), ?_, by simp, ⟨[], by simpa using World.ownsRow_nil _ _ _ _, by simpa using RowsX.nil _ _⟩, ⟨[], by simpa using World.ownsRow_nil _ _ _ _, by simpa using RowsX.nil _ _⟩, ⟨[], by simpa using World.ownsRow_nil _ _ _ _, by simpa using RowsX.nil _ _⟩⟩
    have := heap_alloc_new ((w.alloc (.cells (cfC c v) 33)).alloc (.cells (dC false (.slice none 0 0) (.slice none 0 0) (.slice none 0 0)) 33)) (.cells (dC c.o8 (.slice none 0 0) (.slice none 0 0) (.slice none 0 0)) 33)
    simp only [World.size_alloc] at this
    exact this
  generalize hCC : cfC c v = C at *
  replace f9 := f9 (by omega)
  clear h hz
  go_enter Try.func15, Try.ntmps15
  go_upto_region 3 with fail
  change Code.wp _ _ _ _ (((w.alloc (.cells C 33)).alloc (.cells (dC false (.slice none 0 0) (.slice none 0 0) (.slice none 0 0)) 33)).alloc (.cells (dC c.o8 (.slice none 0 0) (.slice none 0 0) (.slice none 0 0)) 33))
  generalize (((w.alloc (.cells C 33)).alloc (.cells (dC false (.slice none 0 0) (.slice none 0 0) (.slice none 0 0)) 33)).alloc (.cells (dC c.o8 (.slice none 0 0) (.slice none 0 0) (.slice none 0 0)) 33)) = W3 at *
  clear f9 hs18
  go_wp2
  go_loopw [4] (fun iv wr => ∃ (j : Nat) (st : Sl), j ≤ v.t.n ∧ iv = .int .i64 j ∧ Hid (CpS w c v j 0 0 (.slice st.a st.n st.c) (.slice none 0 0) (.slice none 0 0) wr)) (fun iv _ => v.t.n - (intOf iv).toNat)
  case atStart => exact ⟨0, nilS, by omega, rfl, H0.out⟩
  case round =>
    clear H0
    obtain ⟨j, st, hj, rfl, HJ⟩ := hrel
    obtain ⟨y11, y12, y16⟩ := HCV.out _ (by rw [← hCC]; exact HJ.out.vc)
    by_cases hlt : j < v.t.n
    · have hlt' : (j : Int) < v.t.n := by omega
      obtain ⟨x, hx⟩ : ∃ x, c.tasks[j]? = some x := ⟨_, List.getElem?_eq_getElem (by rw [← HNT.out]; exact hlt)⟩
      obtain ⟨g, off, s4, sx, s6, s7, e, hg, a0, a1, a2, a3, a4, a5, a6, a7, r4, r5, r6, r7⟩ := tk_at (HCf.out.below HJ.out.b) hx
      have hng : g ≠ wr.heap.size := Nat.ne_of_lt hg
      have hst : (storeCells ⟨wr.heap.size, 0, none⟩ [S x.name, I x.prio, .bool x.full, I x.act, .slice s4.a s4.n s4.c, .slice sx.a sx.n sx.c, .slice s6.a s6.n s6.c, .slice s7.a s7.n s7.c] 0).run Try.prog (wr.alloc (.cells #[.string ⟨#[]⟩, .int .i64 0, .bool false, .int .i64 0, .slice none 0 0, .slice none 0 0, .slice none 0 0, .slice none 0 0] 47)) = .ok () (wr.alloc (.cells #[S x.name, I x.prio, .bool x.full, I x.act, .slice s4.a s4.n s4.c, .slice sx.a sx.n sx.c, .slice s6.a s6.n s6.c, .slice s7.a s7.n s7.c] 47)) :=
        run_storeCells_new (P := Try.prog) wr 47 #[.string ⟨#[]⟩, .int .i64 0, .bool false, .int .i64 0, .slice none 0 0, .slice none 0 0, .slice none 0 0, .slice none 0 0] #[S x.name, I x.prio, .bool x.full, I x.act, .slice s4.a s4.n s4.c, .slice sx.a sx.n sx.c, .slice s6.a s6.n s6.c, .slice s7.a s7.n s7.c] (by kernel_rfl) rfl (by simp [Value.oneCell'])
      have hal := below_alloc wr (.cells #[S x.name, I x.prio, .bool x.full, I x.act, .slice s4.a s4.n s4.c, .slice sx.a sx.n sx.c, .slice s6.a s6.n s6.c, .slice s7.a s7.n s7.c] 47)
      have hdr : Below (wr.alloc (.cells #[S x.name, I x.prio, .bool x.full, I x.act, .slice s4.a s4.n s4.c, .slice sx.a sx.n sx.c, .slice s6.a s6.n s6.c, .slice s7.a s7.n s7.c] 47)).heap.size (wr.alloc (.cells #[S x.name, I x.prio, .bool x.full, I x.act, .slice s4.a s4.n s4.c, .slice sx.a sx.n sx.c, .slice s6.a s6.n s6.c, .slice s7.a s7.n s7.c] 47)) (wr.alloc (.cells #[S x.name, I x.prio, .bool x.full, I x.act, .slice s4.a s4.n s4.c, .slice sx.a sx.n sx.c, .slice s6.a s6.n s6.c, .slice s7.a s7.n s7.c] 47)).drew := ⟨rfl, rfl, rfl, Nat.le_refl _, fun _ _ => rfl⟩
      have hb2 := hal.trans (hdr.mono hal.size)
      have hTv : (wr.alloc (.cells #[S x.name, I x.prio, .bool x.full, I x.act, .slice s4.a s4.n s4.c, .slice sx.a sx.n sx.c, .slice s6.a s6.n s6.c, .slice s7.a s7.n s7.c] 47)).drew.heap[wr.heap.size]? = some (.cells #[S x.name, I x.prio, .bool x.full, I x.act, .slice s4.a s4.n s4.c, .slice sx.a sx.n sx.c, .slice s6.a s6.n s6.c, .slice s7.a s7.n s7.c] 47 (0, 0)) := heap_alloc_new _ _
      have HC2 : Hid (CpS w c v j 0 0 (.slice st.a st.n st.c) (.slice none 0 0) (.slice none 0 0) (wr.alloc (.cells #[S x.name, I x.prio, .bool x.full, I x.act, .slice s4.a s4.n s4.c, .slice sx.a sx.n sx.c, .slice s6.a s6.n s6.c, .slice s7.a s7.n s7.c] 47)).drew) := HJ.out.below hb2
      have HRX : Hid (RowsAt (wr.alloc (.cells #[S x.name, I x.prio, .bool x.full, I x.act, .slice s4.a s4.n s4.c, .slice sx.a sx.n sx.c, .slice s6.a s6.n s6.c, .slice s7.a s7.n s7.c] 47)).drew 1 intP sx x.res) := r5.below hb2 (fun _ _ _ _ h => h)
      have HX8 : Hid (x.res.length * 8 ≤ 140737488351232) := HZ.out.tr x (List.mem_of_getElem? hx)
      have HX8L : Hid ((j + 1) * 136 ≤ 140737488351232) := by have h1 := HZ.out.t; have h2 := (List.getElem?_eq_some_iff.1 hx).1; show _ ≤ _; omega
      have HX : Hid (c.tasks[j]? = some x) := hx
      have HTL : Hid (∀ g, (Value.slice st.a st.n st.c).ownBlock = some g → g < wr.heap.size) := fun g eg => by obtain ⟨xs, o1, _⟩ := HJ.out.ot; exact (o1.lt g eg).2
      have HTS : Hid (w.heap.size + 3 ≤ wr.heap.size) := HJ.out.sz
      clear hx HJ r4 r5 r6 r7 y12 y16
      rw [e] at y11
      clear e
      go_upto_region 8 with fail
      clear a0 a1 a2 a3 a4 a5 a6 a7 hst hng y11 hal hdr hb2
      generalize hTT : wr.heap.size = T at *
      clear hTT
      generalize hWW : (wr.alloc (.cells #[S x.name, I x.prio, .bool x.full, I x.act, .slice s4.a s4.n s4.c, .slice sx.a sx.n sx.c, .slice s6.a s6.n s6.c, .slice s7.a s7.n s7.c] 47)) = w1 at *
      generalize hWD : w1.drew = w2 at *
      have HT : Hid (∀ W, Below w2.heap.size w2 W → W.cell? ⟨T, 0, none⟩ = some (S x.name) ∧ W.cell? ⟨T, 1, none⟩ = some (I x.prio) ∧ W.cell? ⟨T, 2, none⟩ = some (.bool x.full) ∧ W.cell? ⟨T, 5, none⟩ = some (.slice sx.a sx.n sx.c)) := fun W hW => by
        have h1 := (hW.block _ (heap_lt hTv)).trans hTv
        exact ⟨by rw [cell_of_row W _ 0 _ _ (0, 0) h1]; rfl, by rw [cell_of_row W _ 1 _ _ (0, 0) h1]; rfl, by rw [cell_of_row W _ 2 _ _ (0, 0) h1]; rfl, by rw [cell_of_row W _ 5 _ _ (0, 0) h1]; rfl⟩
      have HTG : Hid (∀ W w6 : World, Below w2.heap.size w2 W → W.grownBy w6 (Value.slice st.a st.n st.c).ownBlock → w6.cell? ⟨T, 0, none⟩ = some (S x.name) ∧ w6.cell? ⟨T, 1, none⟩ = some (I x.prio) ∧ w6.cell? ⟨T, 2, none⟩ = some (.bool x.full) ∧ w6.cell? ⟨T, 5, none⟩ = some (.slice sx.a sx.n sx.c)) := fun W w6 hW hg6 => by
        have k := HT.out W hW
        have hT6 : (some T : Option Nat) ≠ (Value.slice st.a st.n st.c).ownBlock := fun eT => by have := HTL.out T eT.symm; omega
        exact ⟨hg6.cell k.1 hT6, hg6.cell k.2.1 hT6, hg6.cell k.2.2.1 hT6, hg6.cell k.2.2.2 hT6⟩
      have HTD : Hid (∀ W : World, (W.cell? ⟨T, 0, none⟩ = some (S x.name) ∧ W.cell? ⟨T, 1, none⟩ = some (I x.prio) ∧ W.cell? ⟨T, 2, none⟩ = some (.bool x.full) ∧ W.cell? ⟨T, 5, none⟩ = some (.slice sx.a sx.n sx.c)) → ∀ u, (W.setCell ⟨w.heap.size + 1 + 1, 11, none⟩ u).cell? ⟨T, 0, none⟩ = some (S x.name) ∧ (W.setCell ⟨w.heap.size + 1 + 1, 11, none⟩ u).cell? ⟨T, 1, none⟩ = some (I x.prio) ∧ (W.setCell ⟨w.heap.size + 1 + 1, 11, none⟩ u).cell? ⟨T, 2, none⟩ = some (.bool x.full) ∧ (W.setCell ⟨w.heap.size + 1 + 1, 11, none⟩ u).cell? ⟨T, 5, none⟩ = some (.slice sx.a sx.n sx.c)) := fun W k u => by
        have gs := grown_set W (w.heap.size + 1 + 1) 11 u
        have hTD : (some T : Option Nat) ≠ some (w.heap.size + 1 + 1) := fun eT => by have := Option.some.inj eT; have := HTS.out; omega
        exact ⟨gs.cell k.1 hTD, gs.cell k.2.1 hTD, gs.cell k.2.2.1 hTD, gs.cell k.2.2.2 hTD⟩
      clear hTv HTL HTS
      obtain ⟨i8, hi8, hy0, hy1, hy2⟩ := info_parts Try.infoTask
      refine wp_region_held_drew (S := fun W' => W'.cell? ⟨T, 0, none⟩ = some (S x.name) ∧ W'.cell? ⟨T, 1, none⟩ = some (I x.prio) ∧ W'.cell? ⟨T, 2, none⟩ = some (.bool x.full) ∧ W'.cell? ⟨T, 5, none⟩ = some (.slice sx.a sx.n sx.c)) (by kernel_rfl) (by rw [hWD]; exact HT.out _ (Below.refl _ _)) (fun hHeld => ?_)
      rw [hWD] at hHeld ⊢
      clear hWD hWW
      refine wpAnyH_take (i := 0) (v := ?_) rfl (by kernel_rfl) (by kernel_rfl) (by kernel_rfl) (fun _ _ _ h => h) (Or.inl ⟨by rfl, ?_⟩) hHeld ?_
      rotate_left
      · rintro w' ⟨hS0, hS1, hS2, hS3⟩
        go_simp
        try with_reducible rfl
      try simp only [Act.put, List.getElem_toArray, List.getElem_cons_succ, List.getElem_cons_zero, List.setIfInBounds_toArray, List.set_cons_zero, List.set_cons_succ]
      refine wpAnyH_take (i := 2) (v := ?_) rfl (by kernel_rfl) (by kernel_rfl) (by kernel_rfl) (fun _ _ _ h => h) (Or.inl ⟨by rfl, ?_⟩) hHeld ?_
      rotate_left
      · rintro w' ⟨hS0, hS1, hS2, hS3⟩
        go_simp
        try with_reducible rfl
      try simp only [Act.put, List.getElem_toArray, List.getElem_cons_succ, List.getElem_cons_zero, List.setIfInBounds_toArray, List.set_cons_zero, List.set_cons_succ]
      refine wpAnyH_take (i := 3) (v := ?_) rfl (by kernel_rfl) (by kernel_rfl) (by kernel_rfl) (fun _ _ _ h => h) (Or.inl ⟨by rfl, ?_⟩) hHeld ?_
      rotate_left
      · rintro w' ⟨hS0, hS1, hS2, hS3⟩
        go_simp
        try with_reducible rfl
      try simp only [Act.put, List.getElem_toArray, List.getElem_cons_succ, List.getElem_cons_zero, List.setIfInBounds_toArray, List.set_cons_zero, List.set_cons_succ]
      refine wpAnyH_take (i := 4) (v := ?_) rfl (by kernel_rfl) (by kernel_rfl) (by kernel_rfl) (fun _ _ _ h => h) (Or.inl ⟨by rfl, ?_⟩) hHeld ?_
      rotate_left
      · rintro w' ⟨hS0, hS1, hS2, hS3⟩
        go_simp
        try with_reducible rfl
      try simp only [Act.put, List.getElem_toArray, List.getElem_cons_succ, List.getElem_cons_zero, List.setIfInBounds_toArray, List.set_cons_zero, List.set_cons_succ]
      refine wpAnyH_take (i := 5) (v := ?_) rfl (by kernel_rfl) (by kernel_rfl) (by kernel_rfl) (fun _ _ _ h => h) (Or.inl ⟨by rfl, ?_⟩) hHeld ?_
      rotate_left
      · rintro w' ⟨hS0, hS1, hS2, hS3⟩
        go_simp
        try with_reducible rfl
      try simp only [Act.put, List.getElem_toArray, List.getElem_cons_succ, List.getElem_cons_zero, List.setIfInBounds_toArray, List.set_cons_zero, List.set_cons_succ]
      refine wpAnyH_take (i := 6) (v := ?_) rfl (by kernel_rfl) (by kernel_rfl) (by kernel_rfl) (fun _ _ _ h => h) (Or.inl ⟨by rfl, ?_⟩) hHeld ?_
      rotate_left
      · rintro w' ⟨hS0, hS1, hS2, hS3⟩
        go_simp
        try with_reducible rfl
      try simp only [Act.put, List.getElem_toArray, List.getElem_cons_succ, List.getElem_cons_zero, List.setIfInBounds_toArray, List.set_cons_zero, List.set_cons_succ]
      refine wpAnyH_take (i := 7) (v := ?_) rfl (by kernel_rfl) (by kernel_rfl) (by kernel_rfl) (fun _ _ _ h => h) (Or.inl ⟨by rfl, ?_⟩) hHeld ?_
      rotate_left
      · rintro w' ⟨hS0, hS1, hS2, hS3⟩
        go_simp
        try with_reducible rfl
      try simp only [Act.put, List.getElem_toArray, List.getElem_cons_succ, List.getElem_cons_zero, List.setIfInBounds_toArray, List.set_cons_zero, List.set_cons_succ]
      refine wpAnyH_take (i := 8) (v := ?_) rfl (by kernel_rfl) (by kernel_rfl) (by kernel_rfl) (fun _ _ _ h => h) (Or.inl ⟨by rfl, ?_⟩) hHeld ?_
      rotate_left
      · rintro w' ⟨hS0, hS1, hS2, hS3⟩
        go_simp
        try with_reducible rfl
      try simp only [Act.put, List.getElem_toArray, List.getElem_cons_succ, List.getElem_cons_zero, List.setIfInBounds_toArray, List.set_cons_zero, List.set_cons_succ]
      refine wpAnyH_take (i := 9) (v := ?_) rfl (by kernel_rfl) (by kernel_rfl) (by kernel_rfl) (fun _ _ _ h => h) (Or.inl ⟨by rfl, ?_⟩) hHeld ?_
      rotate_left
      · rintro w' ⟨hS0, hS1, hS2, hS3⟩
        go_simp
        try with_reducible rfl
      try simp only [Act.put, List.getElem_toArray, List.getElem_cons_succ, List.getElem_cons_zero, List.setIfInBounds_toArray, List.set_cons_zero, List.set_cons_succ]
      refine wpAnyH_take (i := 10) (v := ?_) rfl (by kernel_rfl) (by kernel_rfl) (by kernel_rfl) (fun _ _ _ h => h) (Or.inl ⟨by rfl, ?_⟩) hHeld ?_
      rotate_left
      · rintro w' ⟨hS0, hS1, hS2, hS3⟩
        go_simp
        try with_reducible rfl
      try simp only [Act.put, List.getElem_toArray, List.getElem_cons_succ, List.getElem_cons_zero, List.setIfInBounds_toArray, List.set_cons_zero, List.set_cons_succ]
      refine wpAnyH_ready (rs := [1, 11]) (by kernel_rfl) (by simp) ?_
      refine AllReadyH.cons rfl (fun K hK => ?_) (AllReadyH.cons rfl (fun K hK => ?_) AllReadyH.nil)
      · have cD := HC2.out.d.1
        go_simp
        refine hK.out _ _ (HT.out _ (Below.refl _ _)) (fun hHeld => ?_)
        clear hK K cD
        try simp only [Act.put, List.getElem_toArray, List.getElem_cons_succ, List.getElem_cons_zero, List.setIfInBounds_toArray, List.set_cons_zero, List.set_cons_succ]
        refine wpAnyH_ready (rs := [11]) (by kernel_rfl) (by simp) ?_
        refine AllReadyH.cons rfl (fun K hK => ?_) AllReadyH.nil
        refine step_copy_ints rfl (.tmp 36) (.tmp 38) rfl (w.heap.size + 3) rfl sx x.res rfl HRX.out HX8.out HC2.out.sz ?_
        intro u2 w3 hO3 hb3
        obtain ⟨q2, rfl, hq2⟩ := slice_of_own hO3
        clear hq2
        have A3 := HC2.out.below hb3
        refine hK.out _ _ (HT.out _ hb3) (fun hHeld => ?_)
        clear hK K
        try simp only [Act.put, List.getElem_toArray, List.getElem_cons_succ, List.getElem_cons_zero, List.setIfInBounds_toArray, List.set_cons_zero, List.set_cons_succ]
        refine wpAnyH_take (i := 12) (v := ?_) rfl (by kernel_rfl) (by kernel_rfl) (by kernel_rfl) (fun _ _ _ h => h) (Or.inl ⟨by rfl, ?_⟩) hHeld ?_
        rotate_left
        · rintro w' ⟨hS0, hS1, hS2, hS3⟩
          go_simp
          try with_reducible rfl
        try simp only [Act.put, List.getElem_toArray, List.getElem_cons_succ, List.getElem_cons_zero, List.setIfInBounds_toArray, List.set_cons_zero, List.set_cons_succ]
        refine wpAnyH_ready (rs := [13]) (by kernel_rfl) (by simp) ?_
        refine AllReadyH.cons rfl (fun K hK => ?_) AllReadyH.nil
        go_simp
        have hb4 := below_alloc w3 (.cells #[S x.name, I x.prio, .bool x.full, I 0, .slice none 0 0, .slice q2.a q2.n q2.c, .slice none 0 0, .slice none 0 0] 47)
        have A4 := A3.below hb4
        have hS4 := HT.out _ (hb3.trans (hb4.mono hb3.size))
        refine hK.out _ _ hS4 (fun hHeld => ?_)
        clear hK K
        try simp only [Act.put, List.getElem_toArray, List.getElem_cons_succ, List.getElem_cons_zero, List.setIfInBounds_toArray, List.set_cons_zero, List.set_cons_succ]
        refine wpAnyH_ready (rs := [14]) (by kernel_rfl) (by simp) ?_
        refine AllReadyH.cons rfl (fun K hK => ?_) AllReadyH.nil
        obtain ⟨xs, o1, o2⟩ := A4.ot
        have hnl := take_len HX.out
        refine step_append_at rfl (.tmp 29) (.tmp 41) 25 rfl (w.heap.size + 3) 47 i8 (.agg #[.string ⟨#[]⟩, .int .i64 0, .bool false, .int .i64 0, .slice none 0 0, .slice none 0 0, .slice none 0 0, .slice none 0 0]) 8 136 Try.underlying25 hi8 hy0 hy1 hy2 rfl (by decide) _ _ xs rfl o1 ⟨w3.heap.size, 0, none⟩ 1 1 [S x.name, I x.prio, .bool x.full, I 0, .slice none 0 0, .slice q2.a q2.n q2.c, .slice none 0 0, .slice none 0 0] rfl rfl (cells_lit w3 #[S x.name, I x.prio, .bool x.full, I 0, .slice none 0 0, .slice q2.a q2.n q2.c, .slice none 0 0, .slice none 0 0] _) (by intro u hu; simp only [List.mem_cons, List.not_mem_nil, or_false] at hu; rcases hu with rfl | rfl | rfl | rfl | rfl | rfl | rfl | rfl <;> rfl) (by unfold maxLen; have := HX8L.out; omega) (by have := HX8L.out; omega) A4.sz ?_
        intro v6 w6 h6 hg6 hw6
        obtain ⟨s6, rfl⟩ := own_slice h6
        obtain ⟨vd6, A7⟩ := CpS.task A4 HX.out (own_below hO3 hb4) o1 o2 h6 hg6
        have z6 : w6.cell? ⟨w.heap.size + 1 + 1, 11, none⟩ = some (.slice st.a st.n st.c) := by rw [cell_of_row w6 _ 11 _ _ (0, 0) vd6]; rfl
        have fz6 : w6.frozen? ⟨w.heap.size + 1 + 1, 11, none⟩ = false := frozen_of_row w6 (w.heap.size + 2) 11 _ _ vd6
        have hS6 := HTG.out _ _ (hb3.trans (hb4.mono hb3.size)) hg6
        refine hK.out _ _ hS6 (fun hHeld => ?_)
        clear hK K
        try simp only [Act.put, List.getElem_toArray, List.getElem_cons_succ, List.getElem_cons_zero, List.setIfInBounds_toArray, List.set_cons_zero, List.set_cons_succ]
        refine wpAnyH_take (i := 15) (v := ?_) rfl (by kernel_rfl) (by kernel_rfl) (by kernel_rfl) (fun _ _ _ h => h) (Or.inl ⟨by rfl, ?_⟩) hHeld ?_
        rotate_left
        · rintro w' ⟨hS0, hS1, hS2, hS3⟩
          go_simp
          try with_reducible rfl
        try simp only [Act.put, List.getElem_toArray, List.getElem_cons_succ, List.getElem_cons_zero, List.setIfInBounds_toArray, List.set_cons_zero, List.set_cons_succ]
        refine wpAnyH_ready (rs := [16]) (by kernel_rfl) (by simp) ?_
        refine AllReadyH.cons rfl (fun K hK => ?_) AllReadyH.nil
        go_simp
        refine hK.out _ _ (HTD.out _ hS6 _) (fun hHeld => ?_)
        clear hK K
        refine wpAnyH_done (by kernel_rfl) ?_ _
        have H7 : Hid (CpS w c v (j + 1) 0 0 (.slice s6.a s6.n s6.c) (.slice none 0 0) (.slice none 0 0) (w6.setCell ⟨w.heap.size + 1 + 1, 11, none⟩ (.slice s6.a s6.n s6.c))) := A7
        clear A7 A4 A3 hS6 hS4 h6 hg6 hw6 o1 o2 vd6 z6 fz6 hb4 hb3 hO3 hHeld
        generalize w6.setCell ⟨w.heap.size + 1 + 1, 11, none⟩ (.slice s6.a s6.n s6.c) = w7 at *
        go_wp2
        go_roundw
        case rel => exact ⟨j + 1, s6, by omega, by go_num, H7.out⟩
        case measure => simp [intOf]; omega
      · refine step_copy_ints rfl (.tmp 36) (.tmp 38) rfl (w.heap.size + 3) rfl sx x.res rfl HRX.out HX8.out HC2.out.sz ?_
        intro u2 w3 hO3 hb3
        obtain ⟨q2, rfl, hq2⟩ := slice_of_own hO3
        clear hq2
        have A3 := HC2.out.below hb3
        refine hK.out _ _ (HT.out _ hb3) (fun hHeld => ?_)
        clear hK K
        try simp only [Act.put, List.getElem_toArray, List.getElem_cons_succ, List.getElem_cons_zero, List.setIfInBounds_toArray, List.set_cons_zero, List.set_cons_succ]
        refine wpAnyH_take (i := 12) (v := ?_) rfl (by kernel_rfl) (by kernel_rfl) (by kernel_rfl) (fun _ _ _ h => h) (Or.inl ⟨by rfl, ?_⟩) hHeld ?_
        rotate_left
        · rintro w' ⟨hS0, hS1, hS2, hS3⟩
          go_simp
          try with_reducible rfl
        try simp only [Act.put, List.getElem_toArray, List.getElem_cons_succ, List.getElem_cons_zero, List.setIfInBounds_toArray, List.set_cons_zero, List.set_cons_succ]
        refine wpAnyH_ready (rs := [1, 13]) (by kernel_rfl) (by simp) ?_
        refine AllReadyH.cons rfl (fun K hK => ?_) (AllReadyH.cons rfl (fun K hK => ?_) AllReadyH.nil)
        · have cD := A3.d.1
          go_simp
          refine hK.out _ _ (HT.out _ hb3) (fun hHeld => ?_)
          clear hK K cD
          try simp only [Act.put, List.getElem_toArray, List.getElem_cons_succ, List.getElem_cons_zero, List.setIfInBounds_toArray, List.set_cons_zero, List.set_cons_succ]
          refine wpAnyH_ready (rs := [13]) (by kernel_rfl) (by simp) ?_
          refine AllReadyH.cons rfl (fun K hK => ?_) AllReadyH.nil
          go_simp
          have hb4 := below_alloc w3 (.cells #[S x.name, I x.prio, .bool x.full, I 0, .slice none 0 0, .slice q2.a q2.n q2.c, .slice none 0 0, .slice none 0 0] 47)
          have A4 := A3.below hb4
          have hS4 := HT.out _ (hb3.trans (hb4.mono hb3.size))
          refine hK.out _ _ hS4 (fun hHeld => ?_)
          clear hK K
          try simp only [Act.put, List.getElem_toArray, List.getElem_cons_succ, List.getElem_cons_zero, List.setIfInBounds_toArray, List.set_cons_zero, List.set_cons_succ]
          refine wpAnyH_ready (rs := [14]) (by kernel_rfl) (by simp) ?_
          refine AllReadyH.cons rfl (fun K hK => ?_) AllReadyH.nil
          obtain ⟨xs, o1, o2⟩ := A4.ot
          have hnl := take_len HX.out
          refine step_append_at rfl (.tmp 29) (.tmp 41) 25 rfl (w.heap.size + 3) 47 i8 (.agg #[.string ⟨#[]⟩, .int .i64 0, .bool false, .int .i64 0, .slice none 0 0, .slice none 0 0, .slice none 0 0, .slice none 0 0]) 8 136 Try.underlying25 hi8 hy0 hy1 hy2 rfl (by decide) _ _ xs rfl o1 ⟨w3.heap.size, 0, none⟩ 1 1 [S x.name, I x.prio, .bool x.full, I 0, .slice none 0 0, .slice q2.a q2.n q2.c, .slice none 0 0, .slice none 0 0] rfl rfl (cells_lit w3 #[S x.name, I x.prio, .bool x.full, I 0, .slice none 0 0, .slice q2.a q2.n q2.c, .slice none 0 0, .slice none 0 0] _) (by intro u hu; simp only [List.mem_cons, List.not_mem_nil, or_false] at hu; rcases hu with rfl | rfl | rfl | rfl | rfl | rfl | rfl | rfl <;> rfl) (by unfold maxLen; have := HX8L.out; omega) (by have := HX8L.out; omega) A4.sz ?_
          intro v6 w6 h6 hg6 hw6
          obtain ⟨s6, rfl⟩ := own_slice h6
          obtain ⟨vd6, A7⟩ := CpS.task A4 HX.out (own_below hO3 hb4) o1 o2 h6 hg6
          have z6 : w6.cell? ⟨w.heap.size + 1 + 1, 11, none⟩ = some (.slice st.a st.n st.c) := by rw [cell_of_row w6 _ 11 _ _ (0, 0) vd6]; rfl
          have fz6 : w6.frozen? ⟨w.heap.size + 1 + 1, 11, none⟩ = false := frozen_of_row w6 (w.heap.size + 2) 11 _ _ vd6
          have hS6 := HTG.out _ _ (hb3.trans (hb4.mono hb3.size)) hg6
          refine hK.out _ _ hS6 (fun hHeld => ?_)
          clear hK K
          try simp only [Act.put, List.getElem_toArray, List.getElem_cons_succ, List.getElem_cons_zero, List.setIfInBounds_toArray, List.set_cons_zero, List.set_cons_succ]
          refine wpAnyH_take (i := 15) (v := ?_) rfl (by kernel_rfl) (by kernel_rfl) (by kernel_rfl) (fun _ _ _ h => h) (Or.inl ⟨by rfl, ?_⟩) hHeld ?_
          rotate_left
          · rintro w' ⟨hS0, hS1, hS2, hS3⟩
            go_simp
            try with_reducible rfl
          try simp only [Act.put, List.getElem_toArray, List.getElem_cons_succ, List.getElem_cons_zero, List.setIfInBounds_toArray, List.set_cons_zero, List.set_cons_succ]
          refine wpAnyH_ready (rs := [16]) (by kernel_rfl) (by simp) ?_
          refine AllReadyH.cons rfl (fun K hK => ?_) AllReadyH.nil
          go_simp
          refine hK.out _ _ (HTD.out _ hS6 _) (fun hHeld => ?_)
          clear hK K
          refine wpAnyH_done (by kernel_rfl) ?_ _
          have H7 : Hid (CpS w c v (j + 1) 0 0 (.slice s6.a s6.n s6.c) (.slice none 0 0) (.slice none 0 0) (w6.setCell ⟨w.heap.size + 1 + 1, 11, none⟩ (.slice s6.a s6.n s6.c))) := A7
          clear A7 A4 A3 hS6 hS4 h6 hg6 hw6 o1 o2 vd6 z6 fz6 hb4 hb3 hO3 hHeld
          generalize w6.setCell ⟨w.heap.size + 1 + 1, 11, none⟩ (.slice s6.a s6.n s6.c) = w7 at *
          go_wp2
          go_roundw
          case rel => exact ⟨j + 1, s6, by omega, by go_num, H7.out⟩
          case measure => simp [intOf]; omega
        · go_simp
          have hb4 := below_alloc w3 (.cells #[S x.name, I x.prio, .bool x.full, I 0, .slice none 0 0, .slice q2.a q2.n q2.c, .slice none 0 0, .slice none 0 0] 47)
          have A4 := A3.below hb4
          have hS4 := HT.out _ (hb3.trans (hb4.mono hb3.size))
          refine hK.out _ _ hS4 (fun hHeld => ?_)
          clear hK K
          try simp only [Act.put, List.getElem_toArray, List.getElem_cons_succ, List.getElem_cons_zero, List.setIfInBounds_toArray, List.set_cons_zero, List.set_cons_succ]
          refine wpAnyH_ready (rs := [1]) (by kernel_rfl) (by simp) ?_
          refine AllReadyH.cons rfl (fun K hK => ?_) AllReadyH.nil
          have cD := A4.d.1
          go_simp
          refine hK.out _ _ hS4 (fun hHeld => ?_)
          clear hK K cD
          try simp only [Act.put, List.getElem_toArray, List.getElem_cons_succ, List.getElem_cons_zero, List.setIfInBounds_toArray, List.set_cons_zero, List.set_cons_succ]
          refine wpAnyH_ready (rs := [14]) (by kernel_rfl) (by simp) ?_
          refine AllReadyH.cons rfl (fun K hK => ?_) AllReadyH.nil
          obtain ⟨xs, o1, o2⟩ := A4.ot
          have hnl := take_len HX.out
          refine step_append_at rfl (.tmp 29) (.tmp 41) 25 rfl (w.heap.size + 3) 47 i8 (.agg #[.string ⟨#[]⟩, .int .i64 0, .bool false, .int .i64 0, .slice none 0 0, .slice none 0 0, .slice none 0 0, .slice none 0 0]) 8 136 Try.underlying25 hi8 hy0 hy1 hy2 rfl (by decide) _ _ xs rfl o1 ⟨w3.heap.size, 0, none⟩ 1 1 [S x.name, I x.prio, .bool x.full, I 0, .slice none 0 0, .slice q2.a q2.n q2.c, .slice none 0 0, .slice none 0 0] rfl rfl (cells_lit w3 #[S x.name, I x.prio, .bool x.full, I 0, .slice none 0 0, .slice q2.a q2.n q2.c, .slice none 0 0, .slice none 0 0] _) (by intro u hu; simp only [List.mem_cons, List.not_mem_nil, or_false] at hu; rcases hu with rfl | rfl | rfl | rfl | rfl | rfl | rfl | rfl <;> rfl) (by unfold maxLen; have := HX8L.out; omega) (by have := HX8L.out; omega) A4.sz ?_
          intro v6 w6 h6 hg6 hw6
          obtain ⟨s6, rfl⟩ := own_slice h6
          obtain ⟨vd6, A7⟩ := CpS.task A4 HX.out (own_below hO3 hb4) o1 o2 h6 hg6
          have z6 : w6.cell? ⟨w.heap.size + 1 + 1, 11, none⟩ = some (.slice st.a st.n st.c) := by rw [cell_of_row w6 _ 11 _ _ (0, 0) vd6]; rfl
          have fz6 : w6.frozen? ⟨w.heap.size + 1 + 1, 11, none⟩ = false := frozen_of_row w6 (w.heap.size + 2) 11 _ _ vd6
          have hS6 := HTG.out _ _ (hb3.trans (hb4.mono hb3.size)) hg6
          refine hK.out _ _ hS6 (fun hHeld => ?_)
          clear hK K
          try simp only [Act.put, List.getElem_toArray, List.getElem_cons_succ, List.getElem_cons_zero, List.setIfInBounds_toArray, List.set_cons_zero, List.set_cons_succ]
          refine wpAnyH_take (i := 15) (v := ?_) rfl (by kernel_rfl) (by kernel_rfl) (by kernel_rfl) (fun _ _ _ h => h) (Or.inl ⟨by rfl, ?_⟩) hHeld ?_
          rotate_left
          · rintro w' ⟨hS0, hS1, hS2, hS3⟩
            go_simp
            try with_reducible rfl
          try simp only [Act.put, List.getElem_toArray, List.getElem_cons_succ, List.getElem_cons_zero, List.setIfInBounds_toArray, List.set_cons_zero, List.set_cons_succ]
          refine wpAnyH_ready (rs := [16]) (by kernel_rfl) (by simp) ?_
          refine AllReadyH.cons rfl (fun K hK => ?_) AllReadyH.nil
          go_simp
          refine hK.out _ _ (HTD.out _ hS6 _) (fun hHeld => ?_)
          clear hK K
          refine wpAnyH_done (by kernel_rfl) ?_ _
          have H7 : Hid (CpS w c v (j + 1) 0 0 (.slice s6.a s6.n s6.c) (.slice none 0 0) (.slice none 0 0) (w6.setCell ⟨w.heap.size + 1 + 1, 11, none⟩ (.slice s6.a s6.n s6.c))) := A7
          clear A7 A4 A3 hS6 hS4 h6 hg6 hw6 o1 o2 vd6 z6 fz6 hb4 hb3 hO3 hHeld
          generalize w6.setCell ⟨w.heap.size + 1 + 1, 11, none⟩ (.slice s6.a s6.n s6.c) = w7 at *
          go_wp2
          go_roundw
          case rel => exact ⟨j + 1, s6, by omega, by go_num, H7.out⟩
          case measure => simp [intOf]; omega
    · obtain rfl : j = v.t.n := by omega
      have hlt' : ¬ ((v.t.n : Nat) : Int) < (v.t.n : Nat) := by omega
      obtain ⟨tt, rfl⟩ : ∃ tt : Sl, tt = st := ⟨_, rfl⟩
      have H0 : Hid (CpS w c v v.t.n 0 0 (.slice tt.a tt.n tt.c) (.slice none 0 0) (.slice none 0 0) wr) := HJ.out
      clear HJ y16
      go_wp2
      clear y11 y12
      go_loopw [7] (fun iv wr => ∃ (j : Nat) (st : Sl), j ≤ v.r.n ∧ iv = .int .i64 j ∧ Hid (CpS w c v v.t.n j 0 (.slice tt.a tt.n tt.c) (.slice st.a st.n st.c) (.slice none 0 0) wr)) (fun iv _ => v.r.n - (intOf iv).toNat)
      case atStart => exact ⟨0, nilS, by omega, rfl, H0.out⟩
      case round =>
        clear H0
        obtain ⟨j, st, hj, rfl, HJ⟩ := hrel
        obtain ⟨y11, y12, y16⟩ := HCV.out _ (by rw [← hCC]; exact HJ.out.vc)
        by_cases hlt : j < v.r.n
        · have hlt' : (j : Int) < v.r.n := by omega
          obtain ⟨x, hx⟩ : ∃ x, c.ress[j]? = some x := ⟨_, List.getElem?_eq_getElem (by rw [← HNR.out]; exact hlt)⟩
          obtain ⟨g, off, e, hg, a0, a1, a2⟩ := rs_at HCf.out hx
          have HC2 : Hid (CpS w c v v.t.n j 0 (.slice tt.a tt.n tt.c) (.slice st.a st.n st.c) (.slice none 0 0) wr.drew) := HJ.out.below ⟨rfl, rfl, rfl, Nat.le_refl _, fun _ _ => rfl⟩
          have HX8L : Hid ((j + 1) * 32 ≤ 140737488351232) := by have h1 := HZ.out.r; have h2 := (List.getElem?_eq_some_iff.1 hx).1; show _ ≤ _; omega
          have HX : Hid (c.ress[j]? = some x) := hx
          have HTL : Hid (∀ g, (Value.slice st.a st.n st.c).ownBlock = some g → w.heap.size + 3 ≤ g) := fun g eg => by obtain ⟨xs, o1, _⟩ := HJ.out.or'; exact (o1.lt g eg).1
          rw [e] at y12
          clear hx HJ y11 y16
          go_upto_region 12 with fail
          generalize hWD : wr.drew = w2 at *
          have HT : Hid (∀ W, Below w2.heap.size w2 W → W.cell? ⟨w.heap.size, 12, none⟩ = some (.slice (some ⟨g, off, none⟩) v.r.n v.r.c) ∧ W.cell? ⟨g, off + j * 3, none⟩ = some (S x.name) ∧ W.cell? ⟨g, off + j * 3 + 1, none⟩ = some (I x.kind) ∧ W.cell? ⟨g, off + j * 3 + 2, none⟩ = some (I x.link)) := fun W hW => by
            have hA := HC2.out.below hW
            have k12 := (HCV.out W (by rw [← hCC]; exact hA.vc)).2.1
            rw [e] at k12
            exact ⟨k12, by rw [cell_below hA.b _ _ hg]; exact a0, by rw [cell_below hA.b _ _ hg]; exact a1, by rw [cell_below hA.b _ _ hg]; exact a2⟩
          have HTG : Hid (∀ W w6 : World, Below w2.heap.size w2 W → W.grownBy w6 (Value.slice st.a st.n st.c).ownBlock → w6.cell? ⟨w.heap.size, 12, none⟩ = some (.slice (some ⟨g, off, none⟩) v.r.n v.r.c) ∧ w6.cell? ⟨g, off + j * 3, none⟩ = some (S x.name) ∧ w6.cell? ⟨g, off + j * 3 + 1, none⟩ = some (I x.kind) ∧ w6.cell? ⟨g, off + j * 3 + 2, none⟩ = some (I x.link)) := fun W w6 hW hg6 => by
            have k := HT.out W hW
            have n1 : (some w.heap.size : Option Nat) ≠ (Value.slice st.a st.n st.c).ownBlock := fun eT => by have := HTL.out _ eT.symm; omega
            have n2 : (some g : Option Nat) ≠ (Value.slice st.a st.n st.c).ownBlock := fun eT => by have := HTL.out _ eT.symm; omega
            exact ⟨hg6.cell k.1 n1, hg6.cell k.2.1 n2, hg6.cell k.2.2.1 n2, hg6.cell k.2.2.2 n2⟩
          have HTD : Hid (∀ W : World, (W.cell? ⟨w.heap.size, 12, none⟩ = some (.slice (some ⟨g, off, none⟩) v.r.n v.r.c) ∧ W.cell? ⟨g, off + j * 3, none⟩ = some (S x.name) ∧ W.cell? ⟨g, off + j * 3 + 1, none⟩ = some (I x.kind) ∧ W.cell? ⟨g, off + j * 3 + 2, none⟩ = some (I x.link)) → ∀ u, (W.setCell ⟨w.heap.size + 1 + 1, 12, none⟩ u).cell? ⟨w.heap.size, 12, none⟩ = some (.slice (some ⟨g, off, none⟩) v.r.n v.r.c) ∧ (W.setCell ⟨w.heap.size + 1 + 1, 12, none⟩ u).cell? ⟨g, off + j * 3, none⟩ = some (S x.name) ∧ (W.setCell ⟨w.heap.size + 1 + 1, 12, none⟩ u).cell? ⟨g, off + j * 3 + 1, none⟩ = some (I x.kind) ∧ (W.setCell ⟨w.heap.size + 1 + 1, 12, none⟩ u).cell? ⟨g, off + j * 3 + 2, none⟩ = some (I x.link)) := fun W k u => by
            have gs := grown_set W (w.heap.size + 1 + 1) 12 u
            have n1 : (some w.heap.size : Option Nat) ≠ some (w.heap.size + 1 + 1) := fun eT => by have := Option.some.inj eT; omega
            have n2 : (some g : Option Nat) ≠ some (w.heap.size + 1 + 1) := fun eT => by have := Option.some.inj eT; omega
            exact ⟨gs.cell k.1 n1, gs.cell k.2.1 n2, gs.cell k.2.2.1 n2, gs.cell k.2.2.2 n2⟩
          clear HTL a0 a1 a2 e y12
          obtain ⟨i8, hi8, hy0, hy1, hy2⟩ := info_parts Try.infoRes
          refine wp_region_held_drew (S := fun W' => W'.cell? ⟨w.heap.size, 12, none⟩ = some (.slice (some ⟨g, off, none⟩) v.r.n v.r.c) ∧ W'.cell? ⟨g, off + j * 3, none⟩ = some (S x.name) ∧ W'.cell? ⟨g, off + j * 3 + 1, none⟩ = some (I x.kind) ∧ W'.cell? ⟨g, off + j * 3 + 2, none⟩ = some (I x.link)) (by kernel_rfl) (by rw [hWD]; exact HT.out _ (Below.refl _ _)) (fun hHeld => ?_)
          rw [hWD] at hHeld ⊢
          clear hWD
          refine wpAnyH_take (i := 0) (v := ?_) rfl (by kernel_rfl) (by kernel_rfl) (by kernel_rfl) (fun _ _ _ h => h) (Or.inl ⟨by rfl, ?_⟩) hHeld ?_
          rotate_left
          · rintro w' ⟨hS0, hS1, hS2, hS3⟩
            go_simp
            try with_reducible rfl
          try simp only [Act.put, List.getElem_toArray, List.getElem_cons_succ, List.getElem_cons_zero, List.setIfInBounds_toArray, List.set_cons_zero, List.set_cons_succ]
          refine wpAnyH_take (i := 2) (v := ?_) rfl (by kernel_rfl) (by kernel_rfl) (by kernel_rfl) (fun _ _ _ h => h) (Or.inl ⟨by rfl, ?_⟩) hHeld ?_
          rotate_left
          · rintro w' ⟨hS0, hS1, hS2, hS3⟩
            go_simp
            try with_reducible rfl
          try simp only [Act.put, List.getElem_toArray, List.getElem_cons_succ, List.getElem_cons_zero, List.setIfInBounds_toArray, List.set_cons_zero, List.set_cons_succ]
          refine wpAnyH_take (i := 3) (v := ?_) rfl (by kernel_rfl) (by kernel_rfl) (by kernel_rfl) (fun _ _ _ h => h) (Or.inl ⟨by rfl, ?_⟩) hHeld ?_
          rotate_left
          · rintro w' ⟨hS0, hS1, hS2, hS3⟩
            go_simp
            try with_reducible rfl
          try simp only [Act.put, List.getElem_toArray, List.getElem_cons_succ, List.getElem_cons_zero, List.setIfInBounds_toArray, List.set_cons_zero, List.set_cons_succ]
          refine wpAnyH_take (i := 4) (v := ?_) rfl (by kernel_rfl) (by kernel_rfl) (by kernel_rfl) (fun _ _ _ h => h) (Or.inl ⟨by rfl, ?_⟩) hHeld ?_
          rotate_left
          · rintro w' ⟨hS0, hS1, hS2, hS3⟩
            go_simp
            try with_reducible rfl
          try simp only [Act.put, List.getElem_toArray, List.getElem_cons_succ, List.getElem_cons_zero, List.setIfInBounds_toArray, List.set_cons_zero, List.set_cons_succ]
          refine wpAnyH_take (i := 5) (v := ?_) rfl (by kernel_rfl) (by kernel_rfl) (by kernel_rfl) (fun _ _ _ h => h) (Or.inl ⟨by rfl, ?_⟩) hHeld ?_
          rotate_left
          · rintro w' ⟨hS0, hS1, hS2, hS3⟩
            go_simp
            try with_reducible rfl
          try simp only [Act.put, List.getElem_toArray, List.getElem_cons_succ, List.getElem_cons_zero, List.setIfInBounds_toArray, List.set_cons_zero, List.set_cons_succ]
          refine wpAnyH_take (i := 6) (v := ?_) rfl (by kernel_rfl) (by kernel_rfl) (by kernel_rfl) (fun _ _ _ h => h) (Or.inl ⟨by rfl, ?_⟩) hHeld ?_
          rotate_left
          · rintro w' ⟨hS0, hS1, hS2, hS3⟩
            go_simp
            try with_reducible rfl
          try simp only [Act.put, List.getElem_toArray, List.getElem_cons_succ, List.getElem_cons_zero, List.setIfInBounds_toArray, List.set_cons_zero, List.set_cons_succ]
          refine wpAnyH_ready (rs := [1, 7]) (by kernel_rfl) (by simp) ?_
          refine AllReadyH.cons rfl (fun K hK => ?_) (AllReadyH.cons rfl (fun K hK => ?_) AllReadyH.nil)
          · have cD := HC2.out.d.2.1
            go_simp
            refine hK.out _ _ (HT.out _ (Below.refl _ _)) (fun hHeld => ?_)
            clear hK K cD
            try simp only [Act.put, List.getElem_toArray, List.getElem_cons_succ, List.getElem_cons_zero, List.setIfInBounds_toArray, List.set_cons_zero, List.set_cons_succ]
            refine wpAnyH_ready (rs := [7]) (by kernel_rfl) (by simp) ?_
            refine AllReadyH.cons rfl (fun K hK => ?_) AllReadyH.nil
            go_simp
            have hb4 := below_alloc w2 (.cells #[S x.name, I x.kind, I x.link] 89)
            have A4 := HC2.out.below hb4
            have hS4 := HT.out _ hb4
            refine hK.out _ _ hS4 (fun hHeld => ?_)
            clear hK K
            try simp only [Act.put, List.getElem_toArray, List.getElem_cons_succ, List.getElem_cons_zero, List.setIfInBounds_toArray, List.set_cons_zero, List.set_cons_succ]
            refine wpAnyH_ready (rs := [8]) (by kernel_rfl) (by simp) ?_
            refine AllReadyH.cons rfl (fun K hK => ?_) AllReadyH.nil
            obtain ⟨xs, o1, o2⟩ := A4.or'
            have hnl := take_len HX.out
            refine step_append_at rfl (.tmp 52) (.tmp 58) 26 rfl (w.heap.size + 3) 89 i8 (.agg #[.string ⟨#[]⟩, .int .i64 0, .int .i64 0]) 3 32 Try.underlying26 hi8 hy0 hy1 hy2 rfl (by decide) _ _ xs rfl o1 ⟨w2.heap.size, 0, none⟩ 1 1 [S x.name, I x.kind, I x.link] rfl rfl (cells_lit w2 #[S x.name, I x.kind, I x.link] _) (by intro u hu; simp only [List.mem_cons, List.not_mem_nil, or_false] at hu; rcases hu with rfl | rfl | rfl <;> rfl) (by unfold maxLen; have := HX8L.out; omega) (by have := HX8L.out; omega) A4.sz ?_
            intro v6 w6 h6 hg6 hw6
            obtain ⟨s6, rfl⟩ := own_slice h6
            obtain ⟨vd6, A7⟩ := CpS.res A4 HX.out o1 o2 h6 hg6
            have z6 : w6.cell? ⟨w.heap.size + 1 + 1, 12, none⟩ = some (.slice st.a st.n st.c) := by rw [cell_of_row w6 _ 12 _ _ (0, 0) vd6]; rfl
            have fz6 : w6.frozen? ⟨w.heap.size + 1 + 1, 12, none⟩ = false := frozen_of_row w6 (w.heap.size + 2) 12 _ _ vd6
            have hS6 := HTG.out _ _ hb4 hg6
            refine hK.out _ _ hS6 (fun hHeld => ?_)
            clear hK K
            try simp only [Act.put, List.getElem_toArray, List.getElem_cons_succ, List.getElem_cons_zero, List.setIfInBounds_toArray, List.set_cons_zero, List.set_cons_succ]
            refine wpAnyH_take (i := 9) (v := ?_) rfl (by kernel_rfl) (by kernel_rfl) (by kernel_rfl) (fun _ _ _ h => h) (Or.inl ⟨by rfl, ?_⟩) hHeld ?_
            rotate_left
            · rintro w' ⟨hS0, hS1, hS2, hS3⟩
              go_simp
              try with_reducible rfl
            try simp only [Act.put, List.getElem_toArray, List.getElem_cons_succ, List.getElem_cons_zero, List.setIfInBounds_toArray, List.set_cons_zero, List.set_cons_succ]
            refine wpAnyH_ready (rs := [10]) (by kernel_rfl) (by simp) ?_
            refine AllReadyH.cons rfl (fun K hK => ?_) AllReadyH.nil
            go_simp
            refine hK.out _ _ (HTD.out _ hS6 _) (fun hHeld => ?_)
            clear hK K
            refine wpAnyH_done (by kernel_rfl) ?_ _
            have H7 : Hid (CpS w c v v.t.n (j + 1) 0 (.slice tt.a tt.n tt.c) (.slice s6.a s6.n s6.c) (.slice none 0 0) (w6.setCell ⟨w.heap.size + 1 + 1, 12, none⟩ (.slice s6.a s6.n s6.c))) := A7
            clear A7 A4 hS6 hS4 h6 hg6 hw6 o1 o2 vd6 z6 fz6 hb4 hHeld
            generalize w6.setCell ⟨w.heap.size + 1 + 1, 12, none⟩ (.slice s6.a s6.n s6.c) = w7 at *
            go_wp2
            go_roundw
            case rel => exact ⟨j + 1, s6, by omega, by go_num, H7.out⟩
            case measure => simp [intOf]; omega
          · go_simp
            have hb4 := below_alloc w2 (.cells #[S x.name, I x.kind, I x.link] 89)
            have A4 := HC2.out.below hb4
            have hS4 := HT.out _ hb4
            refine hK.out _ _ hS4 (fun hHeld => ?_)
            clear hK K
            try simp only [Act.put, List.getElem_toArray, List.getElem_cons_succ, List.getElem_cons_zero, List.setIfInBounds_toArray, List.set_cons_zero, List.set_cons_succ]
            refine wpAnyH_ready (rs := [1]) (by kernel_rfl) (by simp) ?_
            refine AllReadyH.cons rfl (fun K hK => ?_) AllReadyH.nil
            have cD := A4.d.2.1
            go_simp
            refine hK.out _ _ hS4 (fun hHeld => ?_)
            clear hK K cD
            try simp only [Act.put, List.getElem_toArray, List.getElem_cons_succ, List.getElem_cons_zero, List.setIfInBounds_toArray, List.set_cons_zero, List.set_cons_succ]
            refine wpAnyH_ready (rs := [8]) (by kernel_rfl) (by simp) ?_
            refine AllReadyH.cons rfl (fun K hK => ?_) AllReadyH.nil
            obtain ⟨xs, o1, o2⟩ := A4.or'
            have hnl := take_len HX.out
            refine step_append_at rfl (.tmp 52) (.tmp 58) 26 rfl (w.heap.size + 3) 89 i8 (.agg #[.string ⟨#[]⟩, .int .i64 0, .int .i64 0]) 3 32 Try.underlying26 hi8 hy0 hy1 hy2 rfl (by decide) _ _ xs rfl o1 ⟨w2.heap.size, 0, none⟩ 1 1 [S x.name, I x.kind, I x.link] rfl rfl (cells_lit w2 #[S x.name, I x.kind, I x.link] _) (by intro u hu; simp only [List.mem_cons, List.not_mem_nil, or_false] at hu; rcases hu with rfl | rfl | rfl <;> rfl) (by unfold maxLen; have := HX8L.out; omega) (by have := HX8L.out; omega) A4.sz ?_
            intro v6 w6 h6 hg6 hw6
            obtain ⟨s6, rfl⟩ := own_slice h6
            obtain ⟨vd6, A7⟩ := CpS.res A4 HX.out o1 o2 h6 hg6
            have z6 : w6.cell? ⟨w.heap.size + 1 + 1, 12, none⟩ = some (.slice st.a st.n st.c) := by rw [cell_of_row w6 _ 12 _ _ (0, 0) vd6]; rfl
            have fz6 : w6.frozen? ⟨w.heap.size + 1 + 1, 12, none⟩ = false := frozen_of_row w6 (w.heap.size + 2) 12 _ _ vd6
            have hS6 := HTG.out _ _ hb4 hg6
            refine hK.out _ _ hS6 (fun hHeld => ?_)
            clear hK K
            try simp only [Act.put, List.getElem_toArray, List.getElem_cons_succ, List.getElem_cons_zero, List.setIfInBounds_toArray, List.set_cons_zero, List.set_cons_succ]
            refine wpAnyH_take (i := 9) (v := ?_) rfl (by kernel_rfl) (by kernel_rfl) (by kernel_rfl) (fun _ _ _ h => h) (Or.inl ⟨by rfl, ?_⟩) hHeld ?_
            rotate_left
            · rintro w' ⟨hS0, hS1, hS2, hS3⟩
              go_simp
              try with_reducible rfl
            try simp only [Act.put, List.getElem_toArray, List.getElem_cons_succ, List.getElem_cons_zero, List.setIfInBounds_toArray, List.set_cons_zero, List.set_cons_succ]
            refine wpAnyH_ready (rs := [10]) (by kernel_rfl) (by simp) ?_
            refine AllReadyH.cons rfl (fun K hK => ?_) AllReadyH.nil
            go_simp
            refine hK.out _ _ (HTD.out _ hS6 _) (fun hHeld => ?_)
            clear hK K
            refine wpAnyH_done (by kernel_rfl) ?_ _
            have H7 : Hid (CpS w c v v.t.n (j + 1) 0 (.slice tt.a tt.n tt.c) (.slice s6.a s6.n s6.c) (.slice none 0 0) (w6.setCell ⟨w.heap.size + 1 + 1, 12, none⟩ (.slice s6.a s6.n s6.c))) := A7
            clear A7 A4 hS6 hS4 h6 hg6 hw6 o1 o2 vd6 z6 fz6 hb4 hHeld
            generalize w6.setCell ⟨w.heap.size + 1 + 1, 12, none⟩ (.slice s6.a s6.n s6.c) = w7 at *
            go_wp2
            go_roundw
            case rel => exact ⟨j + 1, s6, by omega, by go_num, H7.out⟩
            case measure => simp [intOf]; omega
        · obtain rfl : j = v.r.n := by omega
          have hlt' : ¬ ((v.r.n : Nat) : Int) < (v.r.n : Nat) := by omega
          obtain ⟨tr, rfl⟩ : ∃ tr : Sl, tr = st := ⟨_, rfl⟩
          have H0 : Hid (CpS w c v v.t.n v.r.n 0 (.slice tt.a tt.n tt.c) (.slice tr.a tr.n tr.c) (.slice none 0 0) wr) := HJ.out
          clear HJ y11
          go_wp2
          clear y12 y16
          go_loopw [8] (fun iv wr => ∃ (j : Nat) (st : Sl), j ≤ v.i.n ∧ iv = .int .i64 j ∧ Hid (CpS w c v v.t.n v.r.n j (.slice tt.a tt.n tt.c) (.slice tr.a tr.n tr.c) (.slice st.a st.n st.c) wr)) (fun iv _ => v.i.n - (intOf iv).toNat)
          case atStart => exact ⟨0, nilS, by omega, rfl, H0.out⟩
          case round =>
            clear H0
            obtain ⟨j, st, hj, rfl, HJ⟩ := hrel
            obtain ⟨y11, y12, y16⟩ := HCV.out _ (by rw [← hCC]; exact HJ.out.vc)
            by_cases hlt : j < v.i.n
            · have hlt' : (j : Int) < v.i.n := by omega
              obtain ⟨x, hx⟩ : ∃ x, c.isrs[j]? = some x := ⟨_, List.getElem?_eq_getElem (by rw [← HNI.out]; exact hlt)⟩
              obtain ⟨g, off, sx, s4, e, hg, a0, a1, a2, a3, a4, r3, r4⟩ := is_at (HCf.out.below HJ.out.b) hx
              have hng : g ≠ wr.heap.size := Nat.ne_of_lt hg
              have hst : (storeCells ⟨wr.heap.size, 0, none⟩ [S x.name, I x.cat, I x.prio, .slice sx.a sx.n sx.c, .slice s4.a s4.n s4.c] 0).run Try.prog (wr.alloc (.cells #[.string ⟨#[]⟩, .int .i64 0, .int .i64 0, .slice none 0 0, .slice none 0 0] 49)) = .ok () (wr.alloc (.cells #[S x.name, I x.cat, I x.prio, .slice sx.a sx.n sx.c, .slice s4.a s4.n s4.c] 49)) :=
                run_storeCells_new (P := Try.prog) wr 49 #[.string ⟨#[]⟩, .int .i64 0, .int .i64 0, .slice none 0 0, .slice none 0 0] #[S x.name, I x.cat, I x.prio, .slice sx.a sx.n sx.c, .slice s4.a s4.n s4.c] (by kernel_rfl) rfl (by simp [Value.oneCell'])
              have hal := below_alloc wr (.cells #[S x.name, I x.cat, I x.prio, .slice sx.a sx.n sx.c, .slice s4.a s4.n s4.c] 49)
              have hdr : Below (wr.alloc (.cells #[S x.name, I x.cat, I x.prio, .slice sx.a sx.n sx.c, .slice s4.a s4.n s4.c] 49)).heap.size (wr.alloc (.cells #[S x.name, I x.cat, I x.prio, .slice sx.a sx.n sx.c, .slice s4.a s4.n s4.c] 49)) (wr.alloc (.cells #[S x.name, I x.cat, I x.prio, .slice sx.a sx.n sx.c, .slice s4.a s4.n s4.c] 49)).drew := ⟨rfl, rfl, rfl, Nat.le_refl _, fun _ _ => rfl⟩
              have hb2 := hal.trans (hdr.mono hal.size)
              have hTv : (wr.alloc (.cells #[S x.name, I x.cat, I x.prio, .slice sx.a sx.n sx.c, .slice s4.a s4.n s4.c] 49)).drew.heap[wr.heap.size]? = some (.cells #[S x.name, I x.cat, I x.prio, .slice sx.a sx.n sx.c, .slice s4.a s4.n s4.c] 49 (0, 0)) := heap_alloc_new _ _
              have HC2 : Hid (CpS w c v v.t.n v.r.n j (.slice tt.a tt.n tt.c) (.slice tr.a tr.n tr.c) (.slice st.a st.n st.c) (wr.alloc (.cells #[S x.name, I x.cat, I x.prio, .slice sx.a sx.n sx.c, .slice s4.a s4.n s4.c] 49)).drew) := HJ.out.below hb2
              have HRX : Hid (RowsAt (wr.alloc (.cells #[S x.name, I x.cat, I x.prio, .slice sx.a sx.n sx.c, .slice s4.a s4.n s4.c] 49)).drew 1 intP sx x.res) := r3.below hb2 (fun _ _ _ _ h => h)
              have HX8 : Hid (x.res.length * 8 ≤ 140737488351232) := HZ.out.ir x (List.mem_of_getElem? hx)
              have HX8L : Hid ((j + 1) * 80 ≤ 140737488351232) := by have h1 := HZ.out.i; have h2 := (List.getElem?_eq_some_iff.1 hx).1; show _ ≤ _; omega
              have HX : Hid (c.isrs[j]? = some x) := hx
              have HTL : Hid (∀ g, (Value.slice st.a st.n st.c).ownBlock = some g → g < wr.heap.size) := fun g eg => by obtain ⟨xs, o1, _⟩ := HJ.out.oi; exact (o1.lt g eg).2
              have HTS : Hid (w.heap.size + 3 ≤ wr.heap.size) := HJ.out.sz
              clear hx HJ r3 r4 y12 y11
              rw [e] at y16
              clear e
              go_upto_region 18 with fail
              clear a0 a1 a2 a3 a4 hst hng y16 hal hdr hb2
              generalize hTT : wr.heap.size = T at *
              clear hTT
              generalize hWW : (wr.alloc (.cells #[S x.name, I x.cat, I x.prio, .slice sx.a sx.n sx.c, .slice s4.a s4.n s4.c] 49)) = w1 at *
              generalize hWD : w1.drew = w2 at *
              have HT : Hid (∀ W, Below w2.heap.size w2 W → W.cell? ⟨T, 0, none⟩ = some (S x.name) ∧ W.cell? ⟨T, 2, none⟩ = some (I x.prio) ∧ W.cell? ⟨T, 3, none⟩ = some (.slice sx.a sx.n sx.c)) := fun W hW => by
                have h1 := (hW.block _ (heap_lt hTv)).trans hTv
                exact ⟨by rw [cell_of_row W _ 0 _ _ (0, 0) h1]; rfl, by rw [cell_of_row W _ 2 _ _ (0, 0) h1]; rfl, by rw [cell_of_row W _ 3 _ _ (0, 0) h1]; rfl⟩
              have HTG : Hid (∀ W w6 : World, Below w2.heap.size w2 W → W.grownBy w6 (Value.slice st.a st.n st.c).ownBlock → w6.cell? ⟨T, 0, none⟩ = some (S x.name) ∧ w6.cell? ⟨T, 2, none⟩ = some (I x.prio) ∧ w6.cell? ⟨T, 3, none⟩ = some (.slice sx.a sx.n sx.c)) := fun W w6 hW hg6 => by
                have k := HT.out W hW
                have hT6 : (some T : Option Nat) ≠ (Value.slice st.a st.n st.c).ownBlock := fun eT => by have := HTL.out T eT.symm; omega
                exact ⟨hg6.cell k.1 hT6, hg6.cell k.2.1 hT6, hg6.cell k.2.2 hT6⟩
              have HTD : Hid (∀ W : World, (W.cell? ⟨T, 0, none⟩ = some (S x.name) ∧ W.cell? ⟨T, 2, none⟩ = some (I x.prio) ∧ W.cell? ⟨T, 3, none⟩ = some (.slice sx.a sx.n sx.c)) → ∀ u, (W.setCell ⟨w.heap.size + 1 + 1, 16, none⟩ u).cell? ⟨T, 0, none⟩ = some (S x.name) ∧ (W.setCell ⟨w.heap.size + 1 + 1, 16, none⟩ u).cell? ⟨T, 2, none⟩ = some (I x.prio) ∧ (W.setCell ⟨w.heap.size + 1 + 1, 16, none⟩ u).cell? ⟨T, 3, none⟩ = some (.slice sx.a sx.n sx.c)) := fun W k u => by
                have gs := grown_set W (w.heap.size + 1 + 1) 16 u
                have hTD : (some T : Option Nat) ≠ some (w.heap.size + 1 + 1) := fun eT => by have := Option.some.inj eT; have := HTS.out; omega
                exact ⟨gs.cell k.1 hTD, gs.cell k.2.1 hTD, gs.cell k.2.2 hTD⟩
              clear hTv HTL HTS
              obtain ⟨i8, hi8, hy0, hy1, hy2⟩ := info_parts Try.infoIsr
              refine wp_region_held_drew (S := fun W' => W'.cell? ⟨T, 0, none⟩ = some (S x.name) ∧ W'.cell? ⟨T, 2, none⟩ = some (I x.prio) ∧ W'.cell? ⟨T, 3, none⟩ = some (.slice sx.a sx.n sx.c)) (by kernel_rfl) (by rw [hWD]; exact HT.out _ (Below.refl _ _)) (fun hHeld => ?_)
              rw [hWD] at hHeld ⊢
              clear hWD hWW
              refine wpAnyH_take (i := 0) (v := ?_) rfl (by kernel_rfl) (by kernel_rfl) (by kernel_rfl) (fun _ _ _ h => h) (Or.inl ⟨by rfl, ?_⟩) hHeld ?_
              rotate_left
              · rintro w' ⟨hS0, hS1, hS2⟩
                go_simp
                try with_reducible rfl
              try simp only [Act.put, List.getElem_toArray, List.getElem_cons_succ, List.getElem_cons_zero, List.setIfInBounds_toArray, List.set_cons_zero, List.set_cons_succ]
              refine wpAnyH_take (i := 2) (v := ?_) rfl (by kernel_rfl) (by kernel_rfl) (by kernel_rfl) (fun _ _ _ h => h) (Or.inl ⟨by rfl, ?_⟩) hHeld ?_
              rotate_left
              · rintro w' ⟨hS0, hS1, hS2⟩
                go_simp
                try with_reducible rfl
              try simp only [Act.put, List.getElem_toArray, List.getElem_cons_succ, List.getElem_cons_zero, List.setIfInBounds_toArray, List.set_cons_zero, List.set_cons_succ]
              refine wpAnyH_take (i := 3) (v := ?_) rfl (by kernel_rfl) (by kernel_rfl) (by kernel_rfl) (fun _ _ _ h => h) (Or.inl ⟨by rfl, ?_⟩) hHeld ?_
              rotate_left
              · rintro w' ⟨hS0, hS1, hS2⟩
                go_simp
                try with_reducible rfl
              try simp only [Act.put, List.getElem_toArray, List.getElem_cons_succ, List.getElem_cons_zero, List.setIfInBounds_toArray, List.set_cons_zero, List.set_cons_succ]
              refine wpAnyH_take (i := 4) (v := ?_) rfl (by kernel_rfl) (by kernel_rfl) (by kernel_rfl) (fun _ _ _ h => h) (Or.inl ⟨by rfl, ?_⟩) hHeld ?_
              rotate_left
              · rintro w' ⟨hS0, hS1, hS2⟩
                go_simp
                try with_reducible rfl
              try simp only [Act.put, List.getElem_toArray, List.getElem_cons_succ, List.getElem_cons_zero, List.setIfInBounds_toArray, List.set_cons_zero, List.set_cons_succ]
              refine wpAnyH_take (i := 5) (v := ?_) rfl (by kernel_rfl) (by kernel_rfl) (by kernel_rfl) (fun _ _ _ h => h) (Or.inl ⟨by rfl, ?_⟩) hHeld ?_
              rotate_left
              · rintro w' ⟨hS0, hS1, hS2⟩
                go_simp
                try with_reducible rfl
              try simp only [Act.put, List.getElem_toArray, List.getElem_cons_succ, List.getElem_cons_zero, List.setIfInBounds_toArray, List.set_cons_zero, List.set_cons_succ]
              refine wpAnyH_take (i := 6) (v := ?_) rfl (by kernel_rfl) (by kernel_rfl) (by kernel_rfl) (fun _ _ _ h => h) (Or.inl ⟨by rfl, ?_⟩) hHeld ?_
              rotate_left
              · rintro w' ⟨hS0, hS1, hS2⟩
                go_simp
                try with_reducible rfl
              try simp only [Act.put, List.getElem_toArray, List.getElem_cons_succ, List.getElem_cons_zero, List.setIfInBounds_toArray, List.set_cons_zero, List.set_cons_succ]
              refine wpAnyH_take (i := 7) (v := ?_) rfl (by kernel_rfl) (by kernel_rfl) (by kernel_rfl) (fun _ _ _ h => h) (Or.inl ⟨by rfl, ?_⟩) hHeld ?_
              rotate_left
              · rintro w' ⟨hS0, hS1, hS2⟩
                go_simp
                try with_reducible rfl
              try simp only [Act.put, List.getElem_toArray, List.getElem_cons_succ, List.getElem_cons_zero, List.setIfInBounds_toArray, List.set_cons_zero, List.set_cons_succ]
              refine wpAnyH_take (i := 8) (v := ?_) rfl (by kernel_rfl) (by kernel_rfl) (by kernel_rfl) (fun _ _ _ h => h) (Or.inl ⟨by rfl, ?_⟩) hHeld ?_
              rotate_left
              · rintro w' ⟨hS0, hS1, hS2⟩
                go_simp
                try with_reducible rfl
              try simp only [Act.put, List.getElem_toArray, List.getElem_cons_succ, List.getElem_cons_zero, List.setIfInBounds_toArray, List.set_cons_zero, List.set_cons_succ]
              refine wpAnyH_ready (rs := [1, 9]) (by kernel_rfl) (by simp) ?_
              refine AllReadyH.cons rfl (fun K hK => ?_) (AllReadyH.cons rfl (fun K hK => ?_) AllReadyH.nil)
              · have cD := HC2.out.d.2.2
                go_simp
                refine hK.out _ _ (HT.out _ (Below.refl _ _)) (fun hHeld => ?_)
                clear hK K cD
                try simp only [Act.put, List.getElem_toArray, List.getElem_cons_succ, List.getElem_cons_zero, List.setIfInBounds_toArray, List.set_cons_zero, List.set_cons_succ]
                refine wpAnyH_ready (rs := [9]) (by kernel_rfl) (by simp) ?_
                refine AllReadyH.cons rfl (fun K hK => ?_) AllReadyH.nil
                refine step_copy_ints rfl (.tmp 79) (.tmp 81) rfl (w.heap.size + 3) rfl sx x.res rfl HRX.out HX8.out HC2.out.sz ?_
                intro u2 w3 hO3 hb3
                obtain ⟨q2, rfl, hq2⟩ := slice_of_own hO3
                clear hq2
                have A3 := HC2.out.below hb3
                refine hK.out _ _ (HT.out _ hb3) (fun hHeld => ?_)
                clear hK K
                try simp only [Act.put, List.getElem_toArray, List.getElem_cons_succ, List.getElem_cons_zero, List.setIfInBounds_toArray, List.set_cons_zero, List.set_cons_succ]
                refine wpAnyH_take (i := 10) (v := ?_) rfl (by kernel_rfl) (by kernel_rfl) (by kernel_rfl) (fun _ _ _ h => h) (Or.inl ⟨by rfl, ?_⟩) hHeld ?_
                rotate_left
                · rintro w' ⟨hS0, hS1, hS2⟩
                  go_simp
                  try with_reducible rfl
                try simp only [Act.put, List.getElem_toArray, List.getElem_cons_succ, List.getElem_cons_zero, List.setIfInBounds_toArray, List.set_cons_zero, List.set_cons_succ]
                refine wpAnyH_ready (rs := [11]) (by kernel_rfl) (by simp) ?_
                refine AllReadyH.cons rfl (fun K hK => ?_) AllReadyH.nil
                go_simp
                have hb4 := below_alloc w3 (.cells #[S x.name, I 0, I x.prio, .slice q2.a q2.n q2.c, .slice none 0 0] 49)
                have A4 := A3.below hb4
                have hS4 := HT.out _ (hb3.trans (hb4.mono hb3.size))
                refine hK.out _ _ hS4 (fun hHeld => ?_)
                clear hK K
                try simp only [Act.put, List.getElem_toArray, List.getElem_cons_succ, List.getElem_cons_zero, List.setIfInBounds_toArray, List.set_cons_zero, List.set_cons_succ]
                refine wpAnyH_ready (rs := [12]) (by kernel_rfl) (by simp) ?_
                refine AllReadyH.cons rfl (fun K hK => ?_) AllReadyH.nil
                obtain ⟨xs, o1, o2⟩ := A4.oi
                have hnl := take_len HX.out
                refine step_append_at rfl (.tmp 74) (.tmp 84) 30 rfl (w.heap.size + 3) 49 i8 (.agg #[.string ⟨#[]⟩, .int .i64 0, .int .i64 0, .slice none 0 0, .slice none 0 0]) 5 80 Try.underlying30 hi8 hy0 hy1 hy2 rfl (by decide) _ _ xs rfl o1 ⟨w3.heap.size, 0, none⟩ 1 1 [S x.name, I 0, I x.prio, .slice q2.a q2.n q2.c, .slice none 0 0] rfl rfl (cells_lit w3 #[S x.name, I 0, I x.prio, .slice q2.a q2.n q2.c, .slice none 0 0] _) (by intro u hu; simp only [List.mem_cons, List.not_mem_nil, or_false] at hu; rcases hu with rfl | rfl | rfl | rfl | rfl <;> rfl) (by unfold maxLen; have := HX8L.out; omega) (by have := HX8L.out; omega) A4.sz ?_
                intro v6 w6 h6 hg6 hw6
                obtain ⟨s6, rfl⟩ := own_slice h6
                obtain ⟨vd6, A7⟩ := CpS.isr A4 HX.out (own_below hO3 hb4) o1 o2 h6 hg6
                have z6 : w6.cell? ⟨w.heap.size + 1 + 1, 16, none⟩ = some (.slice st.a st.n st.c) := by rw [cell_of_row w6 _ 16 _ _ (0, 0) vd6]; rfl
                have fz6 : w6.frozen? ⟨w.heap.size + 1 + 1, 16, none⟩ = false := frozen_of_row w6 (w.heap.size + 2) 16 _ _ vd6
                have hS6 := HTG.out _ _ (hb3.trans (hb4.mono hb3.size)) hg6
                refine hK.out _ _ hS6 (fun hHeld => ?_)
                clear hK K
                try simp only [Act.put, List.getElem_toArray, List.getElem_cons_succ, List.getElem_cons_zero, List.setIfInBounds_toArray, List.set_cons_zero, List.set_cons_succ]
                refine wpAnyH_take (i := 13) (v := ?_) rfl (by kernel_rfl) (by kernel_rfl) (by kernel_rfl) (fun _ _ _ h => h) (Or.inl ⟨by rfl, ?_⟩) hHeld ?_
                rotate_left
                · rintro w' ⟨hS0, hS1, hS2⟩
                  go_simp
                  try with_reducible rfl
                try simp only [Act.put, List.getElem_toArray, List.getElem_cons_succ, List.getElem_cons_zero, List.setIfInBounds_toArray, List.set_cons_zero, List.set_cons_succ]
                refine wpAnyH_ready (rs := [14]) (by kernel_rfl) (by simp) ?_
                refine AllReadyH.cons rfl (fun K hK => ?_) AllReadyH.nil
                go_simp
                refine hK.out _ _ (HTD.out _ hS6 _) (fun hHeld => ?_)
                clear hK K
                refine wpAnyH_done (by kernel_rfl) ?_ _
                have H7 : Hid (CpS w c v v.t.n v.r.n (j + 1) (.slice tt.a tt.n tt.c) (.slice tr.a tr.n tr.c) (.slice s6.a s6.n s6.c) (w6.setCell ⟨w.heap.size + 1 + 1, 16, none⟩ (.slice s6.a s6.n s6.c))) := A7
                clear A7 A4 A3 hS6 hS4 h6 hg6 hw6 o1 o2 vd6 z6 fz6 hb4 hb3 hO3 hHeld
                generalize w6.setCell ⟨w.heap.size + 1 + 1, 16, none⟩ (.slice s6.a s6.n s6.c) = w7 at *
                go_wp2
                go_roundw
                case rel => exact ⟨j + 1, s6, by omega, by go_num, H7.out⟩
                case measure => simp [intOf]; omega
              · refine step_copy_ints rfl (.tmp 79) (.tmp 81) rfl (w.heap.size + 3) rfl sx x.res rfl HRX.out HX8.out HC2.out.sz ?_
                intro u2 w3 hO3 hb3
                obtain ⟨q2, rfl, hq2⟩ := slice_of_own hO3
                clear hq2
                have A3 := HC2.out.below hb3
                refine hK.out _ _ (HT.out _ hb3) (fun hHeld => ?_)
                clear hK K
                try simp only [Act.put, List.getElem_toArray, List.getElem_cons_succ, List.getElem_cons_zero, List.setIfInBounds_toArray, List.set_cons_zero, List.set_cons_succ]
                refine wpAnyH_take (i := 10) (v := ?_) rfl (by kernel_rfl) (by kernel_rfl) (by kernel_rfl) (fun _ _ _ h => h) (Or.inl ⟨by rfl, ?_⟩) hHeld ?_
                rotate_left
                · rintro w' ⟨hS0, hS1, hS2⟩
                  go_simp
                  try with_reducible rfl
                try simp only [Act.put, List.getElem_toArray, List.getElem_cons_succ, List.getElem_cons_zero, List.setIfInBounds_toArray, List.set_cons_zero, List.set_cons_succ]
                refine wpAnyH_ready (rs := [1, 11]) (by kernel_rfl) (by simp) ?_
                refine AllReadyH.cons rfl (fun K hK => ?_) (AllReadyH.cons rfl (fun K hK => ?_) AllReadyH.nil)
                · have cD := A3.d.2.2
                  go_simp
                  refine hK.out _ _ (HT.out _ hb3) (fun hHeld => ?_)
                  clear hK K cD
                  try simp only [Act.put, List.getElem_toArray, List.getElem_cons_succ, List.getElem_cons_zero, List.setIfInBounds_toArray, List.set_cons_zero, List.set_cons_succ]
                  refine wpAnyH_ready (rs := [11]) (by kernel_rfl) (by simp) ?_
                  refine AllReadyH.cons rfl (fun K hK => ?_) AllReadyH.nil
                  go_simp
                  have hb4 := below_alloc w3 (.cells #[S x.name, I 0, I x.prio, .slice q2.a q2.n q2.c, .slice none 0 0] 49)
                  have A4 := A3.below hb4
                  have hS4 := HT.out _ (hb3.trans (hb4.mono hb3.size))
                  refine hK.out _ _ hS4 (fun hHeld => ?_)
                  clear hK K
                  try simp only [Act.put, List.getElem_toArray, List.getElem_cons_succ, List.getElem_cons_zero, List.setIfInBounds_toArray, List.set_cons_zero, List.set_cons_succ]
                  refine wpAnyH_ready (rs := [12]) (by kernel_rfl) (by simp) ?_
                  refine AllReadyH.cons rfl (fun K hK => ?_) AllReadyH.nil
                  obtain ⟨xs, o1, o2⟩ := A4.oi
                  have hnl := take_len HX.out
                  refine step_append_at rfl (.tmp 74) (.tmp 84) 30 rfl (w.heap.size + 3) 49 i8 (.agg #[.string ⟨#[]⟩, .int .i64 0, .int .i64 0, .slice none 0 0, .slice none 0 0]) 5 80 Try.underlying30 hi8 hy0 hy1 hy2 rfl (by decide) _ _ xs rfl o1 ⟨w3.heap.size, 0, none⟩ 1 1 [S x.name, I 0, I x.prio, .slice q2.a q2.n q2.c, .slice none 0 0] rfl rfl (cells_lit w3 #[S x.name, I 0, I x.prio, .slice q2.a q2.n q2.c, .slice none 0 0] _) (by intro u hu; simp only [List.mem_cons, List.not_mem_nil, or_false] at hu; rcases hu with rfl | rfl | rfl | rfl | rfl <;> rfl) (by unfold maxLen; have := HX8L.out; omega) (by have := HX8L.out; omega) A4.sz ?_
                  intro v6 w6 h6 hg6 hw6
                  obtain ⟨s6, rfl⟩ := own_slice h6
                  obtain ⟨vd6, A7⟩ := CpS.isr A4 HX.out (own_below hO3 hb4) o1 o2 h6 hg6
                  have z6 : w6.cell? ⟨w.heap.size + 1 + 1, 16, none⟩ = some (.slice st.a st.n st.c) := by rw [cell_of_row w6 _ 16 _ _ (0, 0) vd6]; rfl
                  have fz6 : w6.frozen? ⟨w.heap.size + 1 + 1, 16, none⟩ = false := frozen_of_row w6 (w.heap.size + 2) 16 _ _ vd6
                  have hS6 := HTG.out _ _ (hb3.trans (hb4.mono hb3.size)) hg6
                  refine hK.out _ _ hS6 (fun hHeld => ?_)
                  clear hK K
                  try simp only [Act.put, List.getElem_toArray, List.getElem_cons_succ, List.getElem_cons_zero, List.setIfInBounds_toArray, List.set_cons_zero, List.set_cons_succ]
                  refine wpAnyH_take (i := 13) (v := ?_) rfl (by kernel_rfl) (by kernel_rfl) (by kernel_rfl) (fun _ _ _ h => h) (Or.inl ⟨by rfl, ?_⟩) hHeld ?_
                  rotate_left
                  · rintro w' ⟨hS0, hS1, hS2⟩
                    go_simp
                    try with_reducible rfl
                  try simp only [Act.put, List.getElem_toArray, List.getElem_cons_succ, List.getElem_cons_zero, List.setIfInBounds_toArray, List.set_cons_zero, List.set_cons_succ]
                  refine wpAnyH_ready (rs := [14]) (by kernel_rfl) (by simp) ?_
                  refine AllReadyH.cons rfl (fun K hK => ?_) AllReadyH.nil
                  go_simp
                  refine hK.out _ _ (HTD.out _ hS6 _) (fun hHeld => ?_)
                  clear hK K
                  refine wpAnyH_done (by kernel_rfl) ?_ _
                  have H7 : Hid (CpS w c v v.t.n v.r.n (j + 1) (.slice tt.a tt.n tt.c) (.slice tr.a tr.n tr.c) (.slice s6.a s6.n s6.c) (w6.setCell ⟨w.heap.size + 1 + 1, 16, none⟩ (.slice s6.a s6.n s6.c))) := A7
                  clear A7 A4 A3 hS6 hS4 h6 hg6 hw6 o1 o2 vd6 z6 fz6 hb4 hb3 hO3 hHeld
                  generalize w6.setCell ⟨w.heap.size + 1 + 1, 16, none⟩ (.slice s6.a s6.n s6.c) = w7 at *
                  go_wp2
                  go_roundw
                  case rel => exact ⟨j + 1, s6, by omega, by go_num, H7.out⟩
                  case measure => simp [intOf]; omega
                · go_simp
                  have hb4 := below_alloc w3 (.cells #[S x.name, I 0, I x.prio, .slice q2.a q2.n q2.c, .slice none 0 0] 49)
                  have A4 := A3.below hb4
                  have hS4 := HT.out _ (hb3.trans (hb4.mono hb3.size))
                  refine hK.out _ _ hS4 (fun hHeld => ?_)
                  clear hK K
                  try simp only [Act.put, List.getElem_toArray, List.getElem_cons_succ, List.getElem_cons_zero, List.setIfInBounds_toArray, List.set_cons_zero, List.set_cons_succ]
                  refine wpAnyH_ready (rs := [1]) (by kernel_rfl) (by simp) ?_
                  refine AllReadyH.cons rfl (fun K hK => ?_) AllReadyH.nil
                  have cD := A4.d.2.2
                  go_simp
                  refine hK.out _ _ hS4 (fun hHeld => ?_)
                  clear hK K cD
                  try simp only [Act.put, List.getElem_toArray, List.getElem_cons_succ, List.getElem_cons_zero, List.setIfInBounds_toArray, List.set_cons_zero, List.set_cons_succ]
                  refine wpAnyH_ready (rs := [12]) (by kernel_rfl) (by simp) ?_
                  refine AllReadyH.cons rfl (fun K hK => ?_) AllReadyH.nil
                  obtain ⟨xs, o1, o2⟩ := A4.oi
                  have hnl := take_len HX.out
                  refine step_append_at rfl (.tmp 74) (.tmp 84) 30 rfl (w.heap.size + 3) 49 i8 (.agg #[.string ⟨#[]⟩, .int .i64 0, .int .i64 0, .slice none 0 0, .slice none 0 0]) 5 80 Try.underlying30 hi8 hy0 hy1 hy2 rfl (by decide) _ _ xs rfl o1 ⟨w3.heap.size, 0, none⟩ 1 1 [S x.name, I 0, I x.prio, .slice q2.a q2.n q2.c, .slice none 0 0] rfl rfl (cells_lit w3 #[S x.name, I 0, I x.prio, .slice q2.a q2.n q2.c, .slice none 0 0] _) (by intro u hu; simp only [List.mem_cons, List.not_mem_nil, or_false] at hu; rcases hu with rfl | rfl | rfl | rfl | rfl <;> rfl) (by unfold maxLen; have := HX8L.out; omega) (by have := HX8L.out; omega) A4.sz ?_
                  intro v6 w6 h6 hg6 hw6
                  obtain ⟨s6, rfl⟩ := own_slice h6
                  obtain ⟨vd6, A7⟩ := CpS.isr A4 HX.out (own_below hO3 hb4) o1 o2 h6 hg6
                  have z6 : w6.cell? ⟨w.heap.size + 1 + 1, 16, none⟩ = some (.slice st.a st.n st.c) := by rw [cell_of_row w6 _ 16 _ _ (0, 0) vd6]; rfl
                  have fz6 : w6.frozen? ⟨w.heap.size + 1 + 1, 16, none⟩ = false := frozen_of_row w6 (w.heap.size + 2) 16 _ _ vd6
                  have hS6 := HTG.out _ _ (hb3.trans (hb4.mono hb3.size)) hg6
                  refine hK.out _ _ hS6 (fun hHeld => ?_)
                  clear hK K
                  try simp only [Act.put, List.getElem_toArray, List.getElem_cons_succ, List.getElem_cons_zero, List.setIfInBounds_toArray, List.set_cons_zero, List.set_cons_succ]
                  refine wpAnyH_take (i := 13) (v := ?_) rfl (by kernel_rfl) (by kernel_rfl) (by kernel_rfl) (fun _ _ _ h => h) (Or.inl ⟨by rfl, ?_⟩) hHeld ?_
                  rotate_left
                  · rintro w' ⟨hS0, hS1, hS2⟩
                    go_simp
                    try with_reducible rfl
                  try simp only [Act.put, List.getElem_toArray, List.getElem_cons_succ, List.getElem_cons_zero, List.setIfInBounds_toArray, List.set_cons_zero, List.set_cons_succ]
                  refine wpAnyH_ready (rs := [14]) (by kernel_rfl) (by simp) ?_
                  refine AllReadyH.cons rfl (fun K hK => ?_) AllReadyH.nil
                  go_simp
                  refine hK.out _ _ (HTD.out _ hS6 _) (fun hHeld => ?_)
                  clear hK K
                  refine wpAnyH_done (by kernel_rfl) ?_ _
                  have H7 : Hid (CpS w c v v.t.n v.r.n (j + 1) (.slice tt.a tt.n tt.c) (.slice tr.a tr.n tr.c) (.slice s6.a s6.n s6.c) (w6.setCell ⟨w.heap.size + 1 + 1, 16, none⟩ (.slice s6.a s6.n s6.c))) := A7
                  clear A7 A4 A3 hS6 hS4 h6 hg6 hw6 o1 o2 vd6 z6 fz6 hb4 hb3 hO3 hHeld
                  generalize w6.setCell ⟨w.heap.size + 1 + 1, 16, none⟩ (.slice s6.a s6.n s6.c) = w7 at *
                  go_wp2
                  go_roundw
                  case rel => exact ⟨j + 1, s6, by omega, by go_num, H7.out⟩
                  case measure => simp [intOf]; omega
            · obtain rfl : j = v.i.n := by omega
              have hlt' : ¬ ((v.i.n : Nat) : Int) < (v.i.n : Nat) := by omega
              have hVd := HJ.out.vd
              have hVr := HJ.out.vr
              have hi5 : (Try.prog.info? 33).map (·.size) = some 18 := by kernel_rfl
              have HJ2 : Hid (CpS w c v v.t.n v.r.n v.i.n (.slice tt.a tt.n tt.c) (.slice tr.a tr.n tr.c) (.slice st.a st.n st.c) wr) := HJ.out
              have hone : (dC c.o8 (.slice tt.a tt.n tt.c) (.slice tr.a tr.n tr.c) (.slice st.a st.n st.c)).all (·.oneCell') = true := by simp [dC, Value.oneCell']
              have hdz : (dC c.o8 (.slice tt.a tt.n tt.c) (.slice tr.a tr.n tr.c) (.slice st.a st.n st.c)).size = 18 := rfl
              have hdy : (dC false (.slice none 0 0) (.slice none 0 0) (.slice none 0 0)).size = 18 := rfl
              clear HJ y11 y12
              generalize hDD : dC c.o8 (.slice tt.a tt.n tt.c) (.slice tr.a tr.n tr.c) (.slice st.a st.n st.c) = DD at *
              generalize dC false (.slice none 0 0) (.slice none 0 0) (.slice none 0 0) = DZ at *
              rw [← hdz] at hi5
              go_wp2_with (first | (refine wpList_load_row rfl 33 _ rfl (w.heap.size + 1 + 1) rfl 33 _ (0, 0) _ hVd Try.underlying33 rfl hi5 ?_) | (refine wpList_store_row rfl 33 _ _ rfl (w.heap.size + 1) DD rfl rfl 33 _ hVr hi5 (by rw [hdy, hdz]) hone ?_))
              (try simp only [Exit.inBlock, Exit.then])
              have hgr := grown_row wr (w.heap.size + 1) DD
              have hv9 := setRow_heap wr (w.heap.size + 1) _ DD _ _ hVr
              refine bodyPost_ret (results_cell_row Try.results15 _ _ (w.heap.size + 1) 33 DD (0, 0) _ rfl hv9 Try.underlying33 rfl hi5) rfl ?_
              have hS := HJ2.out
              obtain ⟨xt, t1, t2⟩ := hS.ot
              obtain ⟨xr, r1, r2⟩ := hS.or'
              obtain ⟨xi, i1, i2⟩ := hS.oi
              have e1 : c.tasks.take v.t.n = c.tasks := List.take_of_length_le (by rw [HNT.out]; exact Nat.le_refl _)
              have e2 : c.ress.take v.r.n = c.ress := List.take_of_length_le (by rw [HNR.out]; exact Nat.le_refl _)
              have e3 : c.isrs.take v.i.n = c.isrs := List.take_of_length_le (by rw [HNI.out]; exact Nat.le_refl _)
              rw [e1] at t1 t2
              rw [e2] at r1 r2
              rw [e3] at i1 i2
              have ki : ∀ (n : Nat) (u : Value) (ys : List Value), wr.ownsRow (w.heap.size + 3) 3 1 u n ys → (wr.setRow (w.heap.size + 1) DD).ownsRow (w.heap.size + 3) 3 1 u n ys := fun n u ys ho => own_kept_blk ho hgr (by omega)
              have t1' := own_kept_blk t1 hgr (by omega)
              have r1' := own_kept_blk r1 hgr (by omega)
              have i1' := own_kept_blk i1 hgr (by omega)
              have t2' := t2.mono (tkO_mono ki)
              have i2' := i2.mono (isO_mono ki)
              have hbw := hS.b.grown hgr hS.b.size (fun k e => by cases e; omega)
              have mt : ∀ (x : Tk) (i : Nat) (u : Value), tkO (wr.setRow (w.heap.size + 1) DD) (w.heap.size + 3) x i u → tkO (wr.setRow (w.heap.size + 1) DD) w.heap.size x i u := fun x i u hu => by
                unfold tkO at hu ⊢
                split at hu <;> first | exact hu | exact own_mono hu (by omega)
              have mi : ∀ (x : Is) (i : Nat) (u : Value), isO (wr.setRow (w.heap.size + 1) DD) (w.heap.size + 3) x i u → isO (wr.setRow (w.heap.size + 1) DD) w.heap.size x i u := fun x i u hu => by
                unfold isO at hu ⊢
                split at hu <;> first | exact hu | exact own_mono hu (by omega)
              exact ⟨tt, tr, st, by rw [← hDD]; rfl, ⟨⟨xt, own_mono t1' (by omega), t2'.mono mt⟩, ⟨xr, own_mono r1' (by omega), r2⟩, ⟨xi, own_mono i1' (by omega), i2'.mono mi⟩⟩, hbw⟩
end Go.Proofs.Ytapfbinaocaclaa
