import Derived.Test.YtapfbinaocaclaaEea
namespace Go.Proofs.Ytapfbinaocaclaa
open Go.RowKit Go.Sort
set_option linter.unusedVariables false
set_option linter.unusedSimpArgs false

/-! ### The document's ceiling -/
def useT (c : Cf) (r : Int) (k : Nat) : Option Int := (c.tasks.take k).foldl (fun t x => if usesB c x.res r = true then topAdd t x.prio else t) none
def useI (c : Cf) (r : Int) (k : Nat) : Option Int := (c.isrs.take k).foldl (fun t x => if usesB c x.res r = true then topAdd t x.prio else t) (useT c r c.tasks.length)
theorem useT_succ {c : Cf} {r : Int} {k : Nat} {x : Tk} (h : c.tasks[k]? = some x) : useT c r (k + 1) = if usesB c x.res r = true then topAdd (useT c r k) x.prio else useT c r k := by
  unfold useT
  rw [List.take_add_one, h, Option.toList_some, List.foldl_append]
  rfl
theorem useI_succ {c : Cf} {r : Int} {k : Nat} {x : Is} (h : c.isrs[k]? = some x) : useI c r (k + 1) = if usesB c x.res r = true then topAdd (useI c r k) x.prio else useI c r k := by
  unfold useI
  rw [List.take_add_one, h, Option.toList_some, List.foldl_append]
  rfl
theorem topAdd_twice (t : Option Int) (p : Int) : topAdd (topAdd t p) p = topAdd t p := by
  cases t with
  | none => simp [topAdd]
  | some q => simp only [topAdd]; congr 1; omega
theorem addL_any (c : Cf) (p : Int) (l : List Int) (f : Nat → Option Int) (k : Nat) : addL c p l f k = if (l.any (fun x => rootN c x == (k : Int))) = true then topAdd (f k) p else f k := by
  unfold addL
  have gen : ∀ (m : List Int) (t : Option Int), m ≠ [] → m.foldl (fun t _ => topAdd t p) t = topAdd t p := by
    intro m
    induction m with
    | nil => intro t h; exact absurd rfl h
    | cons y r ih =>
      intro t _
      rw [List.foldl_cons]
      cases r with
      | nil => rfl
      | cons z r => rw [ih _ (by simp), topAdd_twice]
  cases hf : l.filter (fun id => rootN c id == (k : Int)) with
  | nil =>
    rw [if_neg]
    · rfl
    · intro h
      obtain ⟨x, hx, hb⟩ := List.any_eq_true.1 h
      have : x ∈ l.filter (fun id => rootN c id == (k : Int)) := List.mem_filter.2 ⟨hx, hb⟩
      rw [hf] at this
      cases this
  | cons y r =>
    rw [if_pos, gen _ _ (by simp)]
    have : y ∈ l.filter (fun id => rootN c id == (k : Int)) := by rw [hf]; simp
    obtain ⟨h1, h2⟩ := List.mem_filter.1 this
    exact List.any_eq_true.2 ⟨y, h1, h2⟩
/-- The program's ceiling is the document's. -/
theorem ceilE_use (c : Cf) (i : Nat) (h : 0 ≤ rootN c (i : Int)) : ceilE c i = toldI (useI c (i : Int) c.isrs.length) := by
  obtain ⟨q, hq⟩ := Int.eq_ofNat_of_zero_le h
  have hT : ∀ (l : List Tk) (f : Nat → Option Int) (t : Option Int), f q = t → l.foldl (fun f x => addL c x.prio x.res f) f q = l.foldl (fun t x => if usesB c x.res (i : Int) = true then topAdd t x.prio else t) t := by
    intro l
    induction l with
    | nil => intro f t h; exact h
    | cons x r ih =>
      intro f t h
      rw [List.foldl_cons, List.foldl_cons]
      refine ih _ _ ?_
      rw [addL_any, h]
      unfold usesB
      rw [hq]
  have hI : ∀ (l : List Is) (f : Nat → Option Int) (t : Option Int), f q = t → l.foldl (fun f x => addL c x.prio x.res f) f q = l.foldl (fun t x => if usesB c x.res (i : Int) = true then topAdd t x.prio else t) t := by
    intro l
    induction l with
    | nil => intro f t h; exact h
    | cons x r ih =>
      intro f t h
      rw [List.foldl_cons, List.foldl_cons]
      refine ih _ _ ?_
      rw [addL_any, h]
      unfold usesB
      rw [hq]
  unfold ceilE
  rw [hq]
  show toldI (topI c c.isrs.length q) = _
  unfold topI useI
  rw [hI _ _ _ (show topT c c.tasks.length q = useT c (i : Int) c.tasks.length from hT _ _ _ rfl)]
def optI (t : Option Int) : Int := match t with | none => 0 | some p => p
set_option maxHeartbeats 8000000 in
set_option maxRecDepth 100000 in
theorem rceiling_any (w : World) (c : Cf) (v : Vs) (h : CfAt w c v) (hn : c.ress.length ≤ 8796093022208) (hlk : LinksOK c) (hmt : meetB c = true) (r : Nat) (hr : r < c.ress.length) :
    Calls Try.prog 38 #[.agg (cfC c v), I (r : Int)] w fun e w' => e = .returned (I (toldI (useI c (r : Int) c.isrs.length))) ∧ Below w.heap.size w w' := by
  have hi18 : (Try.prog.info? 33).map (·.size) = some (cfC c v).size := by rw [show (cfC c v).size = 18 from rfl]; kernel_rfl
  have hV0 := heap_alloc_new w (.cells (cfC c v) 33)
  have hb := below_alloc w (.cells (cfC c v) 33)
  have HNT : Hid (v.t.n = c.tasks.length) := h.t.n
  have HNI : Hid (v.i.n = c.isrs.length) := h.i.n
  have hct : v.t.n ≤ v.t.c := h.t.c
  have hmtt : v.t.c ≤ maxLen := h.t.m
  have hci : v.i.n ≤ v.i.c := h.i.c
  have hmi : v.i.c ≤ maxLen := h.i.m
  unfold maxLen at hmtt hmi
  have HU : Hid (∀ W, Below w.heap.size w W → ∀ (s : Sl) (l : List Int), RowsAt W 1 intP s l → (∀ x ∈ l, isId x c.ress.length = true) → Calls Try.prog 42 #[.agg (cfC c v), .slice s.a s.n s.c, I (r : Int)] W fun e w' => e = .returned (.bool (usesB c l (r : Int))) ∧ Below W.heap.size W w') := fun W hW s l hl hid => ruses_any W c v (h.below hW) hn hlk s l hl hid r hr
  have HMT : Hid (meetB c = true) := hmt
  have hcv : ∀ W : World, W.heap[w.heap.size]? = some (.cells (cfC c v) 33 (0, 0)) → W.cell? ⟨w.heap.size, 11, none⟩ = some (.slice v.t.a v.t.n v.t.c) ∧ W.cell? ⟨w.heap.size, 16, none⟩ = some (.slice v.i.a v.i.n v.i.c) := fun W hW => by
    obtain ⟨_, h10, h11, h12, h13, h14, h15, h16, h17⟩ := var18_all hW
    exact ⟨h11, h16⟩
  generalize cfC c v = C at *
  have HF : Hid (∀ W, Below (w.alloc (.cells C 33)).heap.size (w.alloc (.cells C 33)) W → W.heap[w.heap.size]? = some (.cells C 33 (0, 0)) ∧ W.cell? ⟨w.heap.size, 11, none⟩ = some (.slice v.t.a v.t.n v.t.c) ∧ W.cell? ⟨w.heap.size, 16, none⟩ = some (.slice v.i.a v.i.n v.i.c) ∧ CfAt W c v ∧ Below w.heap.size w W) := fun W hW => by
    have hVW := (hW.block _ (heap_lt hV0)).trans hV0
    have hbW := hb.trans (hW.mono hb.size)
    exact ⟨hVW, (hcv W hVW).1, (hcv W hVW).2, h.below hbW, hbW⟩
  clear h hb hV0 hlk hmt hcv
  go_enter Try.func38, Try.ntmps38
  go_wp2
  generalize w.alloc (.cells C 33) = W0 at *
  go_loopw [5, 6, 7] (fun tv sv iv wr => ∃ (j : Nat) (t : Int) (s : Bool), j ≤ v.t.n ∧ iv = .int .i64 j ∧ tv = .int .i64 t ∧ sv = .bool s ∧ Hid (Below W0.heap.size W0 wr ∧ t = optI (useT c (r : Int) j) ∧ s = (useT c (r : Int) j).isSome)) (fun _ _ iv _ => v.t.n - (intOf iv).toNat)
  case atStart => exact ⟨0, 0, false, by omega, rfl, rfl, rfl, Below.refl _ _, rfl, rfl⟩
  case round =>
    obtain ⟨j, t, sb, hj, rfl, rfl, rfl, HJ⟩ := hrel
    obtain ⟨hV, y11, y16, hCf, hbw⟩ := HF.out _ HJ.out.1
    have Hbw : Hid (Below w.heap.size w wr) := hbw
    by_cases hlt : j < v.t.n
    · have hlt' : (j : Int) < v.t.n := by omega
      obtain ⟨x, hx⟩ : ∃ x, c.tasks[j]? = some x := ⟨_, List.getElem?_eq_getElem (by rw [← HNT.out]; exact hlt)⟩
      obtain ⟨g, off, s4, s5, s6, s7, e, hg, a0, a1, a2, a3, a4, a5, a6, a7, r4, r5, r6, r7⟩ := tk_at hCf hx
      have hid := (meet_task HMT.out hn (List.mem_of_getElem? hx)).1
      have cr1 := cell_regrown y11
      have cr2 := cell_regrown a1
      have cr3 := cell_regrown a5
      rw [e] at cr1
      have c1 : ∀ d os, Calls Try.prog 42 #[.agg C, .slice s5.a s5.n s5.c, I (r : Int)] (grow (redrawn wr d) os) fun e w'' => e = .returned (.bool (usesB c x.res (r : Int))) ∧ ∃ p : Regrown, w'' = grow (redrawn wr p.d) p.os := fun d os => Calls.regrown_of (HU.out _ (Hbw.out.trans ((below_regrown _ d os).mono Hbw.out.size)) s5 x.res (r5.below (below_regrown _ d os) (fun _ _ _ _ h => h)) hid)
      have HS : Hid (useT c (r : Int) (j + 1) = if usesB c x.res (r : Int) = true then topAdd (useT c (r : Int) j) x.prio else useT c (r : Int) j) := useT_succ hx
      have HB0 : Hid (Below W0.heap.size W0 wr) := HJ.out.1
      have HTS : Hid (t = optI (useT c (r : Int) j) ∧ sb = (useT c (r : Int) j).isSome) := HJ.out.2
      rw [e] at y11
      clear hx hCf hbw HJ hid y16 e r4 r5 r6 r7 a0 a2 a3 a4 a6 a7 a1 a5
      generalize usesB c x.res (r : Int) = ub at *
      generalize useT c (r : Int) j = T at *
      have hsp : ub = false ∨ (ub = true ∧ T = none) ∨ (ub = true ∧ ∃ q, T = some q ∧ x.prio > q) ∨ (ub = true ∧ ∃ q, T = some q ∧ ¬ x.prio > q) := by
        cases ub with
        | false => exact .inl rfl
        | true =>
          cases T with
          | none => exact .inr (.inl ⟨rfl, rfl⟩)
          | some q =>
            by_cases hp : x.prio > q
            · exact .inr (.inr (.inl ⟨rfl, q, rfl, hp⟩))
            · exact .inr (.inr (.inr ⟨rfl, q, rfl, hp⟩))
      rcases hsp with rfl | ⟨rfl, rfl⟩ | ⟨rfl, q, rfl, hp⟩ | ⟨rfl, q, rfl, hp⟩

      · have HS2 : Hid (useT c (r : Int) (j + 1) = T) := HS.out
        go_wp2
        refine wp_region_quiet_below (by kernel_rfl) (by kernel_rfl) ?_
        refine wpQuiet_load_row rfl 33 _ rfl w.heap.size rfl 33 _ (0, 0) _ (heap_regrown hV) Try.underlying33 rfl hi18 ?_
        quiet_step (fail)
        repeat (go_big_quiet_step (first | exact c1 _ _))
        refine wpQuiet_nil ?_
        rintro _ ⟨⟨dq, osq⟩, rfl⟩
        dsimp only
        have hb4 := below_regrown wr dq osq
        have HB4 : Hid (Below W0.heap.size W0 (grow (redrawn wr dq) osq)) := HB0.out.trans (hb4.mono HB0.out.size)
        have z1 := cr1 dq osq
        have z2 := cr2 dq osq
        clear c1 cr1 cr2 cr3 hb4 hV HB0 Hbw y11
        generalize grow (redrawn wr dq) osq = w4 at *
        go_wp2
        go_roundw
        case rel => exact ⟨j + 1, t, sb, by omega, by go_num, rfl, rfl, HB4.out, by rw [HS2.out]; exact HTS.out⟩
        case measure => simp [intOf]; omega
      · obtain ⟨rfl, rfl⟩ : t = 0 ∧ sb = false := HTS.out
        have HS2 : Hid (useT c (r : Int) (j + 1) = some x.prio) := HS.out
        go_wp2
        refine wp_region_quiet_below (by kernel_rfl) (by kernel_rfl) ?_
        refine wpQuiet_load_row rfl 33 _ rfl w.heap.size rfl 33 _ (0, 0) _ (heap_regrown hV) Try.underlying33 rfl hi18 ?_
        quiet_step (fail)
        repeat (go_big_quiet_step (first | exact c1 _ _))
        refine wpQuiet_nil ?_
        rintro _ ⟨⟨dq, osq⟩, rfl⟩
        dsimp only
        have hb4 := below_regrown wr dq osq
        have HB4 : Hid (Below W0.heap.size W0 (grow (redrawn wr dq) osq)) := HB0.out.trans (hb4.mono HB0.out.size)
        have z1 := cr1 dq osq
        have z2 := cr2 dq osq
        clear c1 cr1 cr2 cr3 hb4 hV HB0 Hbw y11
        generalize grow (redrawn wr dq) osq = w4 at *
        go_wp2
        go_roundw
        case rel => exact ⟨j + 1, x.prio, true, by omega, by go_num, rfl, rfl, HB4.out, by rw [HS2.out]; exact ⟨rfl, rfl⟩⟩
        case measure => simp [intOf]; omega
      · obtain ⟨rfl, rfl⟩ : t = q ∧ sb = true := HTS.out
        have HS2 : Hid (useT c (r : Int) (j + 1) = some x.prio) := by show _ = _; rw [HS.out, if_pos rfl]; show some (max x.prio _) = _; congr 1; omega
        go_wp2
        refine wp_region_quiet_below (by kernel_rfl) (by kernel_rfl) ?_
        refine wpQuiet_load_row rfl 33 _ rfl w.heap.size rfl 33 _ (0, 0) _ (heap_regrown hV) Try.underlying33 rfl hi18 ?_
        quiet_step (fail)
        repeat (go_big_quiet_step (first | exact c1 _ _))
        refine wpQuiet_nil ?_
        rintro _ ⟨⟨dq, osq⟩, rfl⟩
        dsimp only
        have hb4 := below_regrown wr dq osq
        have HB4 : Hid (Below W0.heap.size W0 (grow (redrawn wr dq) osq)) := HB0.out.trans (hb4.mono HB0.out.size)
        have z1 := cr1 dq osq
        have z2 := cr2 dq osq
        clear c1 cr1 cr2 cr3 hb4 hV HB0 Hbw y11
        generalize grow (redrawn wr dq) osq = w4 at *
        go_wp2
        go_roundw
        case rel => exact ⟨j + 1, x.prio, true, by omega, by go_num, rfl, rfl, HB4.out, by rw [HS2.out]; exact ⟨rfl, rfl⟩⟩
        case measure => simp [intOf]; omega
      · obtain ⟨rfl, rfl⟩ : t = q ∧ sb = true := HTS.out
        have HS2 : Hid (useT c (r : Int) (j + 1) = some t) := by show _ = _; rw [HS.out, if_pos rfl]; show some (max x.prio _) = _; congr 1; omega
        go_wp2
        refine wp_region_quiet_below (by kernel_rfl) (by kernel_rfl) ?_
        refine wpQuiet_load_row rfl 33 _ rfl w.heap.size rfl 33 _ (0, 0) _ (heap_regrown hV) Try.underlying33 rfl hi18 ?_
        quiet_step (fail)
        repeat (go_big_quiet_step (first | exact c1 _ _))
        refine wpQuiet_nil ?_
        rintro _ ⟨⟨dq, osq⟩, rfl⟩
        dsimp only
        have hb4 := below_regrown wr dq osq
        have HB4 : Hid (Below W0.heap.size W0 (grow (redrawn wr dq) osq)) := HB0.out.trans (hb4.mono HB0.out.size)
        have z1 := cr1 dq osq
        have z2 := cr2 dq osq
        clear c1 cr1 cr2 cr3 hb4 hV HB0 Hbw y11
        generalize grow (redrawn wr dq) osq = w4 at *
        go_wp2
        go_roundw
        case rel => exact ⟨j + 1, _, true, by omega, by go_num, rfl, rfl, HB4.out, by rw [HS2.out]; exact ⟨rfl, rfl⟩⟩
        case measure => simp [intOf]; omega
    · obtain rfl : j = v.t.n := by omega
      have hlt' : ¬ ((v.t.n : Nat) : Int) < (v.t.n : Nat) := by omega
      have H0 : Hid (Below W0.heap.size W0 wr ∧ t = optI (useI c (r : Int) 0) ∧ sb = (useI c (r : Int) 0).isSome) := by
        have := HJ.out
        rw [HNT.out] at this
        exact this
      clear hCf hbw hV y16 HJ Hbw
      go_wp2
      clear y11
      go_loopw [5, 6, 8] (fun tv sv iv wr => ∃ (j : Nat) (t : Int) (s : Bool), j ≤ v.i.n ∧ iv = .int .i64 j ∧ tv = .int .i64 t ∧ sv = .bool s ∧ Hid (Below W0.heap.size W0 wr ∧ t = optI (useI c (r : Int) j) ∧ s = (useI c (r : Int) j).isSome)) (fun _ _ iv _ => v.i.n - (intOf iv).toNat)
      case atStart => exact ⟨0, _, _, by omega, rfl, rfl, rfl, H0.out⟩
      case round =>
        obtain ⟨j, t, sb, hj, rfl, rfl, rfl, HJ⟩ := hrel
        obtain ⟨hV, y11, y16, hCf, hbw⟩ := HF.out _ HJ.out.1
        have Hbw : Hid (Below w.heap.size w wr) := hbw
        by_cases hlt : j < v.i.n
        · have hlt' : (j : Int) < v.i.n := by omega
          obtain ⟨x, hx⟩ : ∃ x, c.isrs[j]? = some x := ⟨_, List.getElem?_eq_getElem (by rw [← HNI.out]; exact hlt)⟩
          obtain ⟨g, off, s3, s4, e, hg, a0, a1, a2, a3, a4, r3, r4⟩ := is_at hCf hx
          have hid := (meet_isr HMT.out hn (List.mem_of_getElem? hx)).1
          have cr1 := cell_regrown y16
          have cr2 := cell_regrown a2
          have cr3 := cell_regrown a3
          rw [e] at cr1
          have c1 : ∀ d os, Calls Try.prog 42 #[.agg C, .slice s3.a s3.n s3.c, I (r : Int)] (grow (redrawn wr d) os) fun e w'' => e = .returned (.bool (usesB c x.res (r : Int))) ∧ ∃ p : Regrown, w'' = grow (redrawn wr p.d) p.os := fun d os => Calls.regrown_of (HU.out _ (Hbw.out.trans ((below_regrown _ d os).mono Hbw.out.size)) s3 x.res (r3.below (below_regrown _ d os) (fun _ _ _ _ h => h)) hid)
          have HS : Hid (useI c (r : Int) (j + 1) = if usesB c x.res (r : Int) = true then topAdd (useI c (r : Int) j) x.prio else useI c (r : Int) j) := useI_succ hx
          have HB0 : Hid (Below W0.heap.size W0 wr) := HJ.out.1
          have HTS : Hid (t = optI (useI c (r : Int) j) ∧ sb = (useI c (r : Int) j).isSome) := HJ.out.2
          rw [e] at y16
          clear hx hCf hbw HJ hid y11 e r3 r4 a0 a1 a4 a2 a3
          generalize usesB c x.res (r : Int) = ub at *
          generalize useI c (r : Int) j = T at *
          have hsp : ub = false ∨ (ub = true ∧ T = none) ∨ (ub = true ∧ ∃ q, T = some q ∧ x.prio > q) ∨ (ub = true ∧ ∃ q, T = some q ∧ ¬ x.prio > q) := by
            cases ub with
            | false => exact .inl rfl
            | true =>
              cases T with
              | none => exact .inr (.inl ⟨rfl, rfl⟩)
              | some q =>
                by_cases hp : x.prio > q
                · exact .inr (.inr (.inl ⟨rfl, q, rfl, hp⟩))
                · exact .inr (.inr (.inr ⟨rfl, q, rfl, hp⟩))
          rcases hsp with rfl | ⟨rfl, rfl⟩ | ⟨rfl, q, rfl, hp⟩ | ⟨rfl, q, rfl, hp⟩

          · have HS2 : Hid (useI c (r : Int) (j + 1) = T) := HS.out
            go_wp2
            refine wp_region_quiet_below (by kernel_rfl) (by kernel_rfl) ?_
            refine wpQuiet_load_row rfl 33 _ rfl w.heap.size rfl 33 _ (0, 0) _ (heap_regrown hV) Try.underlying33 rfl hi18 ?_
            quiet_step (fail)
            repeat (go_big_quiet_step (first | exact c1 _ _))
            refine wpQuiet_nil ?_
            rintro _ ⟨⟨dq, osq⟩, rfl⟩
            dsimp only
            have hb4 := below_regrown wr dq osq
            have HB4 : Hid (Below W0.heap.size W0 (grow (redrawn wr dq) osq)) := HB0.out.trans (hb4.mono HB0.out.size)
            have z1 := cr1 dq osq
            have z2 := cr2 dq osq
            clear c1 cr1 cr2 cr3 hb4 hV HB0 Hbw y16
            generalize grow (redrawn wr dq) osq = w4 at *
            go_wp2
            go_roundw
            case rel => exact ⟨j + 1, t, sb, by omega, by go_num, rfl, rfl, HB4.out, by rw [HS2.out]; exact HTS.out⟩
            case measure => simp [intOf]; omega
          · obtain ⟨rfl, rfl⟩ : t = 0 ∧ sb = false := HTS.out
            have HS2 : Hid (useI c (r : Int) (j + 1) = some x.prio) := HS.out
            go_wp2
            refine wp_region_quiet_below (by kernel_rfl) (by kernel_rfl) ?_
            refine wpQuiet_load_row rfl 33 _ rfl w.heap.size rfl 33 _ (0, 0) _ (heap_regrown hV) Try.underlying33 rfl hi18 ?_
            quiet_step (fail)
            repeat (go_big_quiet_step (first | exact c1 _ _))
            refine wpQuiet_nil ?_
            rintro _ ⟨⟨dq, osq⟩, rfl⟩
            dsimp only
            have hb4 := below_regrown wr dq osq
            have HB4 : Hid (Below W0.heap.size W0 (grow (redrawn wr dq) osq)) := HB0.out.trans (hb4.mono HB0.out.size)
            have z1 := cr1 dq osq
            have z2 := cr2 dq osq
            clear c1 cr1 cr2 cr3 hb4 hV HB0 Hbw y16
            generalize grow (redrawn wr dq) osq = w4 at *
            go_wp2
            go_roundw
            case rel => exact ⟨j + 1, x.prio, true, by omega, by go_num, rfl, rfl, HB4.out, by rw [HS2.out]; exact ⟨rfl, rfl⟩⟩
            case measure => simp [intOf]; omega
          · obtain ⟨rfl, rfl⟩ : t = q ∧ sb = true := HTS.out
            have HS2 : Hid (useI c (r : Int) (j + 1) = some x.prio) := by show _ = _; rw [HS.out, if_pos rfl]; show some (max x.prio _) = _; congr 1; omega
            go_wp2
            refine wp_region_quiet_below (by kernel_rfl) (by kernel_rfl) ?_
            refine wpQuiet_load_row rfl 33 _ rfl w.heap.size rfl 33 _ (0, 0) _ (heap_regrown hV) Try.underlying33 rfl hi18 ?_
            quiet_step (fail)
            repeat (go_big_quiet_step (first | exact c1 _ _))
            refine wpQuiet_nil ?_
            rintro _ ⟨⟨dq, osq⟩, rfl⟩
            dsimp only
            have hb4 := below_regrown wr dq osq
            have HB4 : Hid (Below W0.heap.size W0 (grow (redrawn wr dq) osq)) := HB0.out.trans (hb4.mono HB0.out.size)
            have z1 := cr1 dq osq
            have z2 := cr2 dq osq
            clear c1 cr1 cr2 cr3 hb4 hV HB0 Hbw y16
            generalize grow (redrawn wr dq) osq = w4 at *
            go_wp2
            go_roundw
            case rel => exact ⟨j + 1, x.prio, true, by omega, by go_num, rfl, rfl, HB4.out, by rw [HS2.out]; exact ⟨rfl, rfl⟩⟩
            case measure => simp [intOf]; omega
          · obtain ⟨rfl, rfl⟩ : t = q ∧ sb = true := HTS.out
            have HS2 : Hid (useI c (r : Int) (j + 1) = some t) := by show _ = _; rw [HS.out, if_pos rfl]; show some (max x.prio _) = _; congr 1; omega
            go_wp2
            refine wp_region_quiet_below (by kernel_rfl) (by kernel_rfl) ?_
            refine wpQuiet_load_row rfl 33 _ rfl w.heap.size rfl 33 _ (0, 0) _ (heap_regrown hV) Try.underlying33 rfl hi18 ?_
            quiet_step (fail)
            repeat (go_big_quiet_step (first | exact c1 _ _))
            refine wpQuiet_nil ?_
            rintro _ ⟨⟨dq, osq⟩, rfl⟩
            dsimp only
            have hb4 := below_regrown wr dq osq
            have HB4 : Hid (Below W0.heap.size W0 (grow (redrawn wr dq) osq)) := HB0.out.trans (hb4.mono HB0.out.size)
            have z1 := cr1 dq osq
            have z2 := cr2 dq osq
            clear c1 cr1 cr2 cr3 hb4 hV HB0 Hbw y16
            generalize grow (redrawn wr dq) osq = w4 at *
            go_wp2
            go_roundw
            case rel => exact ⟨j + 1, _, true, by omega, by go_num, rfl, rfl, HB4.out, by rw [HS2.out]; exact ⟨rfl, rfl⟩⟩
            case measure => simp [intOf]; omega
        · obtain rfl : j = v.i.n := by omega
          have hlt' : ¬ ((v.i.n : Nat) : Int) < (v.i.n : Nat) := by omega
          have HTS : Hid (t = optI (useI c (r : Int) c.isrs.length) ∧ sb = (useI c (r : Int) c.isrs.length).isSome) := by
            have := HJ.out.2
            rw [HNI.out] at this
            exact this
          clear hCf hbw hV y11 HJ
          cases hT : useI c (r : Int) c.isrs.length with
          | none =>
            rw [hT] at HTS
            obtain ⟨rfl, rfl⟩ : t = 0 ∧ sb = false := HTS.out
            have HT : Hid (toldI (useI c (r : Int) c.isrs.length) = -1) := by show _ = _; rw [hT]; rfl
            clear hT HTS
            go_wp2
            go_ret
            exact ⟨ret_int HT.out.symm, Hbw.out⟩
          | some q =>
            rw [hT] at HTS
            obtain ⟨rfl, rfl⟩ : t = q ∧ sb = true := HTS.out
            have HT : Hid (toldI (useI c (r : Int) c.isrs.length) = t) := by show _ = _; rw [hT]; rfl
            clear hT HTS
            go_wp2
            go_ret
            exact ⟨ret_int HT.out.symm, Hbw.out⟩
end Go.Proofs.Ytapfbinaocaclaa
