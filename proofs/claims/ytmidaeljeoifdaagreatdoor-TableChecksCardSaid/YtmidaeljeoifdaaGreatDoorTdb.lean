import Derived.Test.YtmidaeljeoifdaaGreatDoorTcz
namespace Go.Proofs.YtmidaeljeoifdaaGreatDoor
open Go.RowKit Go.Shelf Go.Sort
set_option linter.unusedVariables false
set_option linter.unusedSimpArgs false

/-! ### The document's actionRow -/
set_option maxHeartbeats 16000000 in
set_option maxRecDepth 100000 in
theorem actionRow_any (tb : Tb) (v : Ts) (a : AcR) (lo hi : Int) (w : World) (h : TbAt w tb v) : Calls Tryz.prog 75 #[.agg (tbC tb v), .agg (acrC a), I lo, I hi] w fun e w' => e = .returned (.bool (acB tb a lo hi)) ∧ Below w.heap.size w w' := by
  have hb : Below w.heap.size w ((w.alloc (.cells (tbC tb v) 30)).alloc (.cells (acrC a) 93)) := (below_alloc w _).trans ((below_alloc _ _).mono (by simp))
  have hV1 : ((w.alloc (.cells (tbC tb v) 30)).alloc (.cells (acrC a) 93)).heap[w.heap.size]? = some (.cells (tbC tb v) 30) := by
    rw [heap_alloc_old _ _ (by simp)]; exact heap_alloc_new w _
  have hV2 : ((w.alloc (.cells (tbC tb v) 30)).alloc (.cells (acrC a) 93)).heap[w.heap.size + 1]? = some (.cells (acrC a) 93) := by
    have := heap_alloc_new (w.alloc (.cells (tbC tb v) 30)) (.cells (acrC a) 93)
    rw [World.size_alloc] at this
    exact this
  have HT : Hid (TbAt ((w.alloc (.cells (tbC tb v) 30)).alloc (.cells (acrC a) 93)) tb v) := h.below hb
  have HB0 : Hid (Below w.heap.size w ((w.alloc (.cells (tbC tb v) 30)).alloc (.cells (acrC a) 93))) := hb
  have HN : Hid (v.t.n = tb.tasks.length) := h.t.n
  have htc : v.t.n ≤ v.t.c := h.t.c
  have htm : v.t.c ≤ maxLen := h.t.m
  unfold maxLen at htm
  obtain ⟨R, hR⟩ : ∃ R, R = acB tb a lo hi := ⟨_, rfl⟩
  rw [← hR]
  have HR : Hid (R = (inI a.kind lo hi && (if a.kind = 1 then idB a.task v.t.n && (a.mask == 0) else if a.kind = 2 then idB a.task v.t.n && (a.mask != 0) && (bits BinOp.andNot IntKind.u32 (a.mask : Int) (maskOf tb a.task : Int) == 0) else (a.task == 0) && (a.mask == 0)))) := by
    show _ = _
    rw [hR, HN.out]
    rfl
  clear hR h hb
  unfold acrC tbC at *
  generalize a.kind = ak at *
  generalize a.task = at_ at *
  generalize a.mask = am at *
  go_enter Tryz.func75, Tryz.ntmps75
  go_upto_region 1 with fail
  generalize ((w.alloc (.cells #[I tb.uses, I tb.modes, .slice v.t.a v.t.n v.t.c, .slice v.g.a v.g.n v.g.c, .slice v.r.a v.r.n v.r.c, .slice v.k.a v.k.n v.k.c, .slice v.a.a v.a.n v.a.c, .slice v.i.a v.i.n v.i.c, .slice v.s.a v.s.n v.s.c, I tb.depth, I tb.frames, I tb.errors, I tb.calls] 30)).alloc (.cells #[I ak, I at_, .int .u32 (am : Int)] 93)) = W0 at *
  have z2 := cell_of_row _ w.heap.size 2 _ _ (0, 0) hV1
  have y0 := cell_of_row _ (w.heap.size + 1) 0 _ _ (0, 0) hV2
  have y1 := cell_of_row _ (w.heap.size + 1) 1 _ _ (0, 0) hV2
  have y2 := cell_of_row _ (w.heap.size + 1) 2 _ _ (0, 0) hV2
  simp at z2 y0 y1 y2
  clear hV1 hV2
  by_cases g1 : ak < lo
  · have HE : Hid (R = false) := by
      show _ = _
      rw [HR.out]
      have : inI ak lo hi = false := by unfold inI; simp; omega
      rw [this]; rfl
    clear HR
    go_wp2
    go_ret
    exact ⟨ret_bool' (by rw [HE.out]), HB0.out⟩
  by_cases g2 : hi < ak
  · have HE : Hid (R = false) := by
      show _ = _
      rw [HR.out]
      have : inI ak lo hi = false := by unfold inI; simp; omega
      rw [this]; rfl
    clear HR
    go_wp2
    go_ret
    exact ⟨ret_bool' (by rw [HE.out]), HB0.out⟩
  have HI : Hid (inI ak lo hi = true) := by show _ = _; unfold inI; simp; omega
  by_cases k1 : ak = 1
  · subst k1
    rw [HI.out] at HR
    by_cases t0 : at_ < 0
    · have HE : Hid (R = false) := by
        show _ = _
        rw [HR.out]
        have : idB at_ v.t.n = false := by unfold idB; simp; omega
        simp [this]
      clear HR HI
      go_wp2
      go_ret
      exact ⟨ret_bool' (by rw [HE.out]), HB0.out⟩
    · obtain ⟨k, rfl⟩ := Int.eq_ofNat_of_zero_le (show 0 ≤ at_ by omega)
      by_cases t1 : v.t.n ≤ k
      · have HE : Hid (R = false) := by
          show _ = _
          rw [HR.out]
          have : idB (k : Int) v.t.n = false := by unfold idB; simp; omega
          simp [this]
        clear HR HI
        go_wp2
        go_ret
        exact ⟨ret_bool' (by rw [HE.out]), HB0.out⟩
      · have HE : Hid (R = (am == 0)) := by
          show _ = _
          rw [HR.out]
          have : idB (k : Int) v.t.n = true := by unfold idB; simp; omega
          simp [this]
        clear HR HI
        go_wp2
        go_ret
        exact ⟨ret_bool' (by rw [HE.out, Bool.eq_iff_iff]; simp), HB0.out⟩
  have k1' : (ak == 1) = false := by simpa using k1
  by_cases k2 : ak = 2
  · subst k2
    rw [HI.out] at HR
    by_cases t0 : at_ < 0
    · have HE : Hid (R = false) := by
        show _ = _
        rw [HR.out]
        have : idB at_ v.t.n = false := by unfold idB; simp; omega
        simp [this]
      clear HR HI
      go_wp2
      go_ret
      exact ⟨ret_bool' (by rw [HE.out]), HB0.out⟩
    · obtain ⟨k, rfl⟩ := Int.eq_ofNat_of_zero_le (show 0 ≤ at_ by omega)
      by_cases t1 : v.t.n ≤ k
      · have HE : Hid (R = false) := by
          show _ = _
          rw [HR.out]
          have : idB (k : Int) v.t.n = false := by unfold idB; simp; omega
          simp [this]
        clear HR HI
        go_wp2
        go_ret
        exact ⟨ret_bool' (by rw [HE.out]), HB0.out⟩
      · obtain ⟨x, hx⟩ : ∃ x, tb.tasks[k]? = some x := ⟨_, List.getElem?_eq_getElem (by rw [← HN.out]; omega)⟩
        obtain ⟨g5, o5, s6, e5, hg5, q0, q1, q2, q3, q4, q5, q6, q7, r6⟩ := tkr_at HT.out hx
        have HE : Hid (R = ((am != 0) && (bits BinOp.andNot IntKind.u32 (am : Int) (x.mask : Int) == 0))) := by
          show _ = _
          rw [HR.out]
          have h1 : idB (k : Int) v.t.n = true := by unfold idB; simp; omega
          have h2 : maskOf tb (k : Int) = x.mask := by unfold maskOf; rw [Int.toNat_natCast, hx]
          simp [h1, h2]
        rw [e5] at z2
        have t2 : (k : Int) < v.t.n := by omega
        clear HR HI hx e5 q0 q1 q2 q3 q5 q6 q7 r6 hg5
        generalize x.mask = xm at *
        have x2 := cell_regrown z2
        have x0 := cell_regrown y0
        have x1 := cell_regrown y1
        have x5 := cell_regrown y2
        have xm4 := cell_regrown q4
        cases m0 : ((am : Int) != 0) with
        | false =>
          have m1 : am = 0 := by simp at m0; omega
          go_wp2
          refine wp_region_quiet_below (by kernel_rfl) (by kernel_rfl) ?_
          repeat (go_big_quiet_step (first | fail))
          refine wpQuiet_nil ?_
          rintro _ ⟨⟨dq, osq⟩, rfl⟩
          dsimp only
          have HB9 : Hid (Below w.heap.size w (grow (redrawn W0 dq) osq)) := HB0.out.trans ((below_regrown W0 dq osq).mono HB0.out.size)
          clear x2 x0 x1 x5 xm4
          generalize grow (redrawn W0 dq) osq = w9 at *
          go_wp2
          go_ret
          exact ⟨ret_bool' (by rw [HE.out, m1]; rfl), HB9.out⟩
        | true =>
          have HM : Hid ((am != 0) = true) := by show _ = _; simp at m0; simp; omega
          go_wp2
          refine wp_region_quiet_below (by kernel_rfl) (by kernel_rfl) ?_
          repeat (go_big_quiet_step (first | fail))
          refine wpQuiet_nil ?_
          rintro _ ⟨⟨dq, osq⟩, rfl⟩
          dsimp only
          have HB9 : Hid (Below w.heap.size w (grow (redrawn W0 dq) osq)) := HB0.out.trans ((below_regrown W0 dq osq).mono HB0.out.size)
          clear x2 x0 x1 x5 xm4
          generalize grow (redrawn W0 dq) osq = w9 at *
          go_wp2
          go_ret
          exact ⟨ret_bool' (by rw [HE.out, HM.out]; simp), HB9.out⟩
  have k2' : (ak == 2) = false := by simpa using k2
  rw [if_neg k1, if_neg k2, HI.out] at HR
  by_cases t0 : at_ = 0
  · subst t0
    have HE : Hid (R = (am == 0)) := by show _ = _; rw [HR.out]; simp
    clear HR HI
    go_wp2
    go_ret
    exact ⟨ret_bool' (by rw [HE.out, Bool.eq_iff_iff]; simp), HB0.out⟩
  · have t0' : (at_ == 0) = false := by simpa using t0
    have HE : Hid (R = false) := by show _ = _; rw [HR.out, t0']; rfl
    clear HR HI
    go_wp2
    go_ret
    exact ⟨ret_bool' (by rw [HE.out]), HB0.out⟩
end Go.Proofs.YtmidaeljeoifdaaGreatDoor
