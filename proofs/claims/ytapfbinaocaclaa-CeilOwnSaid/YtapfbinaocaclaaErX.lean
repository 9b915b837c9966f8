import Derived.Test.YtapfbinaocaclaaErk8
import Derived.Test.YtapfbinaocaclaaEey
namespace Go.Proofs.Ytapfbinaocaclaa
open Go.RowKit Go.Maps
set_option linter.unusedVariables false
set_option linter.unusedSimpArgs false

/-! ### The document's Reckon: its lists -/
def cnD (c : Cf) (j : Nat) : List Int := (c.isrs.take j).map (fun x => (x.res.length : Int))
def ceJ (c : Cf) (j : Nat) : List Int := (List.range j).map (ceilE c)
def ruJ (c : Cf) (j : Nat) : List Int := (c.tasks.take j).map (runD c)
theorem ceJ_succ (c : Cf) (j : Nat) : ceJ c (j + 1) = ceJ c j ++ [ceilE c j] := by unfold ceJ; rw [List.range_succ, List.map_append]; rfl
theorem ruJ_succ {c : Cf} {j : Nat} {x : Tk} (h : c.tasks[j]? = some x) : ruJ c (j + 1) = ruJ c j ++ [runD c x] := by unfold ruJ; rw [take_snoc h, List.map_append]; rfl
theorem cnD_succ {c : Cf} {j : Nat} {x : Is} (h : c.isrs[j]? = some x) : cnD c (j + 1) = cnD c j ++ [(x.res.length : Int)] := by unfold cnD; rw [take_snoc h, List.map_append]; rfl
theorem ceJ_len (c : Cf) (j : Nat) : (ceJ c j).length = j := by simp [ceJ]
theorem ruJ_len (c : Cf) (j : Nat) : (ruJ c j).length ≤ j := by simp [ruJ]; omega
theorem cntT_len2 (c : Cf) (j : Nat) : (cntT c j).length ≤ j := by simp [cntT]; omega
theorem cnD_len (c : Cf) (j : Nat) : (cnD c j).length ≤ j := by simp [cnD]; omega
theorem cnt_same {c : Cf} (h : lookE c = 0) : cnD c c.isrs.length = cntI c c.isrs.length := by
  unfold cnD cntI
  rw [List.take_length]
  apply List.map_congr_left
  intro x hx
  have h1 := (look_fit h).2
  unfold fitB at h1
  have h2 := List.all_eq_true.1 (Bool.and_eq_true_iff.1 h1).2 x hx
  unfold fitU at h2
  have h3 := of_decide_eq_true h2
  have h4 : (takenL c x.res).length ≤ x.res.length := List.length_filter_le _ _
  simp only [if_true] at h3
  unfold cntU
  simp
  omega
theorem run_all {c : Cf} (h : lookE c = 0) : ruJ c c.tasks.length = c.tasks.map (runP c) := by
  unfold ruJ
  rw [List.take_length]
  apply List.map_congr_left
  intro x hx
  exact (run_same h hx).symm
/-- A round of the document's loop: what is reckoned, and how many are counted. -/
def nJ (c : Cf) (l : List Int) (j : Nat) : Nat := (takenL c (l.take j)).length
def rJ (c : Cf) (l : List Int) (p : Int) (j : Nat) : Int := runF c (l.take j) p
theorem nJ_succ {c : Cf} {l : List Int} {j : Nat} {r : Int} (h : l[j]? = some r) : nJ c l (j + 1) = nJ c l j + (if (rkind c r == 3) = true then 0 else 1) := by
  unfold nJ
  rw [takenL_snoc c l j r h, List.length_append]
  by_cases hk : rkind c r = 3
  · rw [if_neg (by simp [hk]), if_pos (by simp [hk])]; rfl
  · rw [if_pos (by simp [hk]), if_neg (by simp [hk])]; rfl
theorem rJ_succ {c : Cf} {l : List Int} {p : Int} {j : Nat} {r : Int} (h : l[j]? = some r) : rJ c l p (j + 1) = if (rkind c r == 3) = true then (if ceilE c r.toNat > rJ c l p j then ceilE c r.toNat else rJ c l p j) else rJ c l p j := by
  unfold rJ runF
  rw [take_snoc h, List.foldl_append, List.foldl_cons, List.foldl_nil]
  by_cases hk : (rkind c r == 3) = true
  · rw [if_pos hk, if_pos hk]
    split <;> omega
  · rw [if_neg hk, if_neg hk]
theorem nJ_le (c : Cf) (l : List Int) (j : Nat) : nJ c l j ≤ l.length := by
  unfold nJ takenL
  exact Nat.le_trans (List.length_filter_le _ _) (by rw [List.length_take]; omega)
theorem nJ_all (c : Cf) (l : List Int) : (nJ c l l.length : Int) + (if c.o8 = true then 1 else 0) = (cntU c false l : Int) := by
  unfold nJ cntU
  rw [List.take_length]
  cases c.o8 <;> simp
theorem rJ_all (c : Cf) (x : Tk) : (if x.full = true then rJ c x.res x.prio x.res.length else schE c) = runD c x := by
  unfold rJ runD
  rw [List.take_length]
end Go.Proofs.Ytapfbinaocaclaa

namespace Go.Proofs.Ytapfbinaocaclaa
open Go.RowKit Go.Maps
set_option linter.unusedVariables false
set_option linter.unusedSimpArgs false

/-! ### The document's Reckon -/
set_option maxHeartbeats 8000000 in
set_option maxRecDepth 100000 in
theorem rreckon_any (w : World) (c : Cf) (v : Vs) (h : CfAt w c v) (hn : c.ress.length ≤ 8796093022208) (hz : SizeOK c) : Calls Try.prog 16 #[.agg (cfC c v)] w fun e w' => RckP w (rckX c) (lookE c) e w' := by
  obtain ⟨i0, hi0, hz0, hz1, hz2⟩ := info_parts Try.infoInt
  have hi18 : (Try.prog.info? 33).map (·.size) = some (cfC c v).size := by rw [show (cfC c v).size = 18 from rfl]; kernel_rfl
  have hi5 : (Try.prog.info? 36).map (·.size) = some 5 := by kernel_rfl
  have hb2 : Below w.heap.size w ((w.alloc (.cells (cfC c v) 33)).alloc (.cells ceZ 36)) := ((Below.refl w.heap.size w).alloc (Nat.le_refl _) _).alloc (by simp) _
  have hV0 := heap_two0 w (.cells (cfC c v) 33) (.cells ceZ 36)
  have hV1 := heap_two w (.cells (cfC c v) 33) (.cells ceZ 36)
  have HA0 : Hid (RkA w c v none none ((w.alloc (.cells (cfC c v) 33)).alloc (.cells ceZ 36))) := ⟨hb2, by simp, hV0, hV1, (fun _ e => by cases e), (fun _ _ e => by cases e)⟩
  have krf := rcheck_any _ c v (h.below hb2) hn
  have HCf : Hid (CfAt w c v) := h
  have HZ : Hid (SizeOK c) := hz
  have HNT : Hid (v.t.n = c.tasks.length) := h.t.n
  have HNR : Hid (v.r.n = c.ress.length) := h.r.n
  have HNI : Hid (v.i.n = c.isrs.length) := h.i.n
  have ht1 : v.t.n ≤ v.t.c := h.t.c
  have ht2 : v.t.c ≤ 9223372036854775807 := h.t.m
  have hr1 : v.r.n ≤ v.r.c := h.r.c
  have hr2 : v.r.c ≤ 9223372036854775807 := h.r.m
  have hi1 : v.i.n ≤ v.i.c := h.i.c
  have hi2 : v.i.c ≤ 9223372036854775807 := h.i.m
  have HCV : Hid (∀ W : World, W.heap[w.heap.size]? = some (.cells (cfC c v) 33 (0, 0)) → W.cell? ⟨w.heap.size, 11, none⟩ = some (.slice v.t.a v.t.n v.t.c) ∧ W.cell? ⟨w.heap.size, 12, none⟩ = some (.slice v.r.a v.r.n v.r.c) ∧ W.cell? ⟨w.heap.size, 16, none⟩ = some (.slice v.i.a v.i.n v.i.c) ∧ W.cell? ⟨w.heap.size, 9, none⟩ = some (.bool c.o8)) := fun W hW => by
    obtain ⟨_, h10, h11, h12, h13, h14, h15, h16, h17⟩ := var18_all hW
    exact ⟨h11, h12, h16, by rw [cell_of_row W _ 9 _ _ (0, 0) hW]; rfl⟩
  unfold ceZ at hV0 hV1 HA0 krf
  obtain ⟨E, hE⟩ : ∃ E, E = lookE c := ⟨_, rfl⟩
  rw [← hE] at krf ⊢
  have HE : Hid (E = lookE c) := hE
  by_cases hE0 : E = 0
  · subst hE0
    have HX : Hid (rckX c = ⟨ceilL c, schE c, c.tasks.map (runP c), cntT c c.tasks.length, cntI c c.isrs.length⟩) := by show _ = _; unfold rckX; rw [if_pos HE.out.symm]
    have hlk := look_lk HE.out.symm
    have HMT : Hid (meetB c = true) := hlk.1
    have HKS : Hid (∀ W, Below w.heap.size w W → Calls Try.prog 37 #[.agg (cfC c v)] W fun e w' => e = .returned (I (schE c)) ∧ Below W.heap.size W w') := fun W hW => rscheduler_any W c v (HCf.out.below hW)
    have HKI : Hid (∀ W, Below w.heap.size w W → ∀ q : Nat, q < c.ress.length → Calls Try.prog 39 #[.agg (cfC c v), I (q : Int)] W fun e w' => e = .returned (.bool (rkind c (q : Int) == 3)) ∧ Below W.heap.size W w') := fun W hW q hq => rinternal_any W c v (HCf.out.below hW) q hq
    have HKC : Hid (∀ W, Below w.heap.size w W → ∀ q : Nat, q < c.ress.length → Calls Try.prog 38 #[.agg (cfC c v), I (q : Int)] W fun e w' => e = .returned (I (ceilE c q)) ∧ Below W.heap.size W w') := fun W hW q hq => by
      rw [ceilE_use c q (endsB_at hlk.2.2 hq)]
      exact rceiling_any W c v (HCf.out.below hW) hn (lk_links hlk.2.1) hlk.1 q hq
    clear hlk h hE
    generalize hCC : cfC c v = C at *
    clear hb2 hV1
    have HVC : Hid (∀ W X k u0 u2 u3 u4 l0 l2 l3 l4, RkS w c v X k u0 u2 u3 u4 l0 l2 l3 l4 W → W.heap[w.heap.size]? = some (.cells C 33 (0, 0))) := fun W X k u0 u2 u3 u4 l0 l2 l3 l4 hA => by rw [← hCC]; exact hA.vc
    have HVA : Hid (∀ W, RkA w c v none none W → W.heap[w.heap.size]? = some (.cells C 33 (0, 0))) := fun W hA => by rw [← hCC]; exact hA.vc
    go_enter Try.func16, Try.ntmps16
    go_upto_region 4 with (first | (refine wpList_load_row rfl 33 _ rfl w.heap.size rfl 33 _ (0, 0) _ hV0 Try.underlying33 rfl hi18 ?_) | (go_at_call 17; refine krf.mono ?_; rintro e w1 ⟨rfl, hb1⟩; have HA1 : Hid (RkA w c v none none w1) := HA0.out.below hb1; clear krf hb1 HA0 hV0))
    have hV0 := HVA.out _ HA1.out
    go_upto_region 5 with (first | (refine wpList_load_row rfl 33 _ rfl w.heap.size rfl 33 _ (0, 0) _ hV0 Try.underlying33 rfl hi18 ?_) | (go_at_call 37; refine (HKS.out _ HA1.out.b).mono ?_; rintro e w2 ⟨rfl, hb2⟩; have HA2 : Hid (RkA w c v none none w2) := HA1.out.below hb2; clear hb2 HA1 hV0))
    change Code.wp _ _ _ _ (w2.alloc (.cells #[.slice none 0 0, I (schE c), .slice none 0 0, .slice none 0 0, .slice none 0 0] 36))
    have H0 : Hid (RkS w c v w2.heap.size (schE c) (.slice none 0 0) (.slice none 0 0) (.slice none 0 0) (.slice none 0 0) [] [] [] [] (w2.alloc (.cells #[.slice none 0 0, I (schE c), .slice none 0 0, .slice none 0 0, .slice none 0 0] 36))) := by
      have hA := HA2.out.below (below_alloc w2 (.cells #[.slice none 0 0, I (schE c), .slice none 0 0, .slice none 0 0, .slice none 0 0] 36))
      have an : Apt (.slice none 0 0) (.slice none 0 0) := fun g e => by cases e
      exact ⟨hA.b, hA.vc, hA.vr, heap_alloc_new _ _, HA2.out.sz, World.ownsRow_nil _ _ _ _, World.ownsRow_nil _ _ _ _, World.ownsRow_nil _ _ _ _, World.ownsRow_nil _ _ _ _, an, an, an, an, an, an⟩
    generalize (w2.alloc (.cells #[.slice none 0 0, I (schE c), .slice none 0 0, .slice none 0 0, .slice none 0 0] 36)) = W3 at *
    generalize hXX : w2.heap.size = X at *
    have HXl : Hid (w.heap.size + 2 ≤ X) := H0.out.lo
    clear hXX HA2 HVA
    generalize hSC : schE c = sch at *
    have HSC : Hid (schE c = sch) := hSC
    clear hSC
    go_wp2
    go_loopw [6] (fun iv wr => ∃ (j : Nat) (st : Sl), j ≤ v.r.n ∧ iv = .int .i64 j ∧ Hid (RkS w c v X sch (.slice st.a st.n st.c) (.slice none 0 0) (.slice none 0 0) (.slice none 0 0) (ceJ c j) [] [] [] wr)) (fun iv _ => v.r.n - (intOf iv).toNat)
    case atStart => exact ⟨0, nilS, by omega, rfl, H0.out⟩
    case round =>
      clear H0
      obtain ⟨j, st, hj, rfl, HJ⟩ := hrel
      obtain ⟨y11, y12, y16, y9⟩ := HCV.out _ (HVC.out _ _ _ _ _ _ _ _ _ _ _ HJ.out)
      by_cases hlt : j < v.r.n
      · have hlt' : (j : Int) < v.r.n := by omega
        have HC2 : Hid (RkS w c v X sch (.slice st.a st.n st.c) (.slice none 0 0) (.slice none 0 0) (.slice none 0 0) (ceJ c j) [] [] [] wr.drew) := HJ.out.below ⟨rfl, rfl, rfl, Nat.le_refl _, fun _ _ => rfl⟩
        have HQ : Hid (j < c.ress.length) := by show _ < _; rw [← HNR.out]; exact hlt
        clear HJ y11 y16 y9
        go_upto_region 8 with fail
        clear y12
        generalize hWD : wr.drew = w2 at *
        refine wp_region_held_drew (S := fun W' => W'.heap[w.heap.size]? = some (.cells C 33 (0, 0))) (by kernel_rfl) (by rw [hWD]; exact HVC.out _ _ _ _ _ _ _ _ _ _ _ HC2.out) (fun hHeld => ?_)
        rw [hWD] at hHeld ⊢
        clear hWD
        refine wpAnyH_take (i := 0) (v := ?_) rfl (by kernel_rfl) (by kernel_rfl) (by kernel_rfl) (fun _ _ _ h => h) (Or.inl ⟨by rfl, ?_⟩) hHeld ?_
        rotate_left
        · rintro w' hSw
          go_simp
          try with_reducible rfl
        try simp only [Act.put, List.getElem_toArray, List.getElem_cons_succ, List.getElem_cons_zero, List.setIfInBounds_toArray, List.set_cons_zero, List.set_cons_succ]
        refine wpAnyH_take (i := 2) (v := .agg C) rfl (by kernel_rfl) (by kernel_rfl) (by kernel_rfl) (fun _ _ _ h => h) (yieldsIf_load_row (by rfl) 33 _ rfl w.heap.size rfl 33 C (0, 0) _ (fun _ hw => hw) Try.underlying33 rfl hi18) hHeld ?_
        try simp only [Act.put, List.getElem_toArray, List.getElem_cons_succ, List.getElem_cons_zero, List.setIfInBounds_toArray, List.set_cons_zero, List.set_cons_succ]
        refine wpAnyH_take (i := 3) (v := ?_) rfl (by kernel_rfl) (by kernel_rfl) (by kernel_rfl) (fun _ _ _ h => h) (Or.inl ⟨by rfl, ?_⟩) hHeld ?_
        rotate_left
        · rintro w' hSw
          go_simp
          try with_reducible rfl
        try simp only [Act.put, List.getElem_toArray, List.getElem_cons_succ, List.getElem_cons_zero, List.setIfInBounds_toArray, List.set_cons_zero, List.set_cons_succ]
        have A2 := HC2.out
        clear HC2
        refine wpAnyH_ready (rs := [1, 4]) (by kernel_rfl) (by simp) ?_
        refine AllReadyH.cons rfl (fun K hK => ?_) (AllReadyH.cons rfl (fun K hK => ?_) AllReadyH.nil)
        · have zz := True.intro
          have cD := (A2).d.1
          go_simp
          refine hK.out _ _ (HVC.out _ _ _ _ _ _ _ _ _ _ _ (A2)) (fun hHeld => ?_)
          clear hK K cD
          try simp only [Act.put, List.getElem_toArray, List.getElem_cons_succ, List.getElem_cons_zero, List.setIfInBounds_toArray, List.set_cons_zero, List.set_cons_succ]
          refine wpAnyH_ready (rs := [4]) (by kernel_rfl) (by simp) ?_
          refine AllReadyH.cons rfl (fun K hK => ?_) AllReadyH.nil
          go_simp
          go_wp2_with (go_at_call 38; refine (HKC.out _ (A2).b j HQ.out).mono ?_; rintro e w3 ⟨rfl, hb3⟩)
          have A3 := (A2).below hb3
          refine hK.out _ _ (HVC.out _ _ _ _ _ _ _ _ _ _ _ A3) (fun hHeld => ?_)
          clear hK K hb3
          try simp only [Act.put, List.getElem_toArray, List.getElem_cons_succ, List.getElem_cons_zero, List.setIfInBounds_toArray, List.set_cons_zero, List.set_cons_succ]
          refine wpAnyH_ready (rs := [5]) (by kernel_rfl) (by simp) ?_
          refine AllReadyH.cons rfl (fun K hK => ?_) AllReadyH.nil
          go_simp
          have A4 := (A3).below (below_alloc w3 (.cells #[I (ceilE c j)] 3))
          refine hK.out _ _ (HVC.out _ _ _ _ _ _ _ _ _ _ _ A4) (fun hHeld => ?_)
          clear hK K
          try simp only [Act.put, List.getElem_toArray, List.getElem_cons_succ, List.getElem_cons_zero, List.setIfInBounds_toArray, List.set_cons_zero, List.set_cons_succ]
          refine wpAnyH_ready (rs := [6]) (by kernel_rfl) (by simp) ?_
          refine AllReadyH.cons rfl (fun K hK => ?_) AllReadyH.nil
          have o1 := A4.o0
          have hnl := ceJ_len c j
          have hXs := heap_lt A4.vd
          have hq8 := HQ.out
          refine step_append_at rfl (.tmp 31) (.tmp 35) 34 rfl (X + 1) 3 i0 (.int .i64 0) 1 8 Try.underlying34 hi0 hz0 hz1 hz2 rfl (by decide) _ _ _ rfl o1 ⟨w3.heap.size, 0, none⟩ 1 1 [I (ceilE c j)] rfl rfl (cells_lit w3 #[I (ceilE c j)] _) (by intro u hu; simp only [List.mem_cons, List.not_mem_nil, or_false] at hu; subst hu; rfl) (by unfold maxLen; omega) (by omega) (by omega) ?_
          intro v6 w6 h6 hg6 hw6
          obtain ⟨s6, rfl⟩ := own_slice h6
          obtain ⟨vd6, A7⟩ := RkS.app0 A4 h6 hg6 hw6
          obtain ⟨q0, q1, q2, q3, q4⟩ := row5 vd6
          have fz6 : w6.frozen? ⟨X, 0, none⟩ = false := frozen_of_row w6 X 0 _ _ vd6
          have hS6 : w6.heap[w.heap.size]? = some (.cells C 33 (0, 0)) := heap_kept (HVC.out _ _ _ _ _ _ _ _ _ _ _ A4) hg6 (fun e => by have := (o1.lt _ e.symm).1; have := HXl.out; omega)
          refine hK.out _ _ hS6 (fun hHeld => ?_)
          clear hK K
          try simp only [Act.put, List.getElem_toArray, List.getElem_cons_succ, List.getElem_cons_zero, List.setIfInBounds_toArray, List.set_cons_zero, List.set_cons_succ]
          refine wpAnyH_take (i := 7) (v := ?_) rfl (by kernel_rfl) (by kernel_rfl) (by kernel_rfl) (fun _ _ _ h => h) (Or.inl ⟨by rfl, ?_⟩) hHeld ?_
          rotate_left
          · rintro w' hSw
            go_simp
            try with_reducible rfl
          try simp only [Act.put, List.getElem_toArray, List.getElem_cons_succ, List.getElem_cons_zero, List.setIfInBounds_toArray, List.set_cons_zero, List.set_cons_succ]
          refine wpAnyH_ready (rs := [8]) (by kernel_rfl) (by simp) ?_
          refine AllReadyH.cons rfl (fun K hK => ?_) AllReadyH.nil
          go_simp
          refine hK.out _ _ (HVC.out _ _ _ _ _ _ _ _ _ _ _ A7) (fun hHeld => ?_)
          clear hK K
          refine wpAnyH_done (by kernel_rfl) ?_ _
          have H7 : Hid (RkS w c v X sch (.slice s6.a s6.n s6.c) (.slice none 0 0) (.slice none 0 0) (.slice none 0 0) (ceJ c (j + 1)) [] [] [] (w6.setCell ⟨X, 0, none⟩ (.slice s6.a s6.n s6.c))) := by rw [ceJ_succ]; exact A7
          clear A7 A2 A3 A4 hS6 h6 hg6 hw6 o1 vd6 q0 q1 q2 q3 q4 fz6 hHeld hnl hXs hq8
          generalize w6.setCell ⟨X, 0, none⟩ (.slice s6.a s6.n s6.c) = w7 at *
          go_wp2
          go_roundw
          case rel => exact ⟨j + 1, s6, by omega, by go_num, H7.out⟩
          case measure => simp [intOf]; omega
        · have zz := True.intro
          go_simp
          go_wp2_with (go_at_call 38; refine (HKC.out _ (A2).b j HQ.out).mono ?_; rintro e w3 ⟨rfl, hb3⟩)
          have A3 := (A2).below hb3
          refine hK.out _ _ (HVC.out _ _ _ _ _ _ _ _ _ _ _ A3) (fun hHeld => ?_)
          clear hK K hb3
          try simp only [Act.put, List.getElem_toArray, List.getElem_cons_succ, List.getElem_cons_zero, List.setIfInBounds_toArray, List.set_cons_zero, List.set_cons_succ]
          refine wpAnyH_ready (rs := [1, 5]) (by kernel_rfl) (by simp) ?_
          refine AllReadyH.cons rfl (fun K hK => ?_) (AllReadyH.cons rfl (fun K hK => ?_) AllReadyH.nil)
          · have zz := True.intro
            have cD := (A3).d.1
            go_simp
            refine hK.out _ _ (HVC.out _ _ _ _ _ _ _ _ _ _ _ (A3)) (fun hHeld => ?_)
            clear hK K cD
            try simp only [Act.put, List.getElem_toArray, List.getElem_cons_succ, List.getElem_cons_zero, List.setIfInBounds_toArray, List.set_cons_zero, List.set_cons_succ]
            refine wpAnyH_ready (rs := [5]) (by kernel_rfl) (by simp) ?_
            refine AllReadyH.cons rfl (fun K hK => ?_) AllReadyH.nil
            go_simp
            have A4 := (A3).below (below_alloc w3 (.cells #[I (ceilE c j)] 3))
            refine hK.out _ _ (HVC.out _ _ _ _ _ _ _ _ _ _ _ A4) (fun hHeld => ?_)
            clear hK K
            try simp only [Act.put, List.getElem_toArray, List.getElem_cons_succ, List.getElem_cons_zero, List.setIfInBounds_toArray, List.set_cons_zero, List.set_cons_succ]
            refine wpAnyH_ready (rs := [6]) (by kernel_rfl) (by simp) ?_
            refine AllReadyH.cons rfl (fun K hK => ?_) AllReadyH.nil
            have o1 := A4.o0
            have hnl := ceJ_len c j
            have hXs := heap_lt A4.vd
            have hq8 := HQ.out
            refine step_append_at rfl (.tmp 31) (.tmp 35) 34 rfl (X + 1) 3 i0 (.int .i64 0) 1 8 Try.underlying34 hi0 hz0 hz1 hz2 rfl (by decide) _ _ _ rfl o1 ⟨w3.heap.size, 0, none⟩ 1 1 [I (ceilE c j)] rfl rfl (cells_lit w3 #[I (ceilE c j)] _) (by intro u hu; simp only [List.mem_cons, List.not_mem_nil, or_false] at hu; subst hu; rfl) (by unfold maxLen; omega) (by omega) (by omega) ?_
            intro v6 w6 h6 hg6 hw6
            obtain ⟨s6, rfl⟩ := own_slice h6
            obtain ⟨vd6, A7⟩ := RkS.app0 A4 h6 hg6 hw6
            obtain ⟨q0, q1, q2, q3, q4⟩ := row5 vd6
            have fz6 : w6.frozen? ⟨X, 0, none⟩ = false := frozen_of_row w6 X 0 _ _ vd6
            have hS6 : w6.heap[w.heap.size]? = some (.cells C 33 (0, 0)) := heap_kept (HVC.out _ _ _ _ _ _ _ _ _ _ _ A4) hg6 (fun e => by have := (o1.lt _ e.symm).1; have := HXl.out; omega)
            refine hK.out _ _ hS6 (fun hHeld => ?_)
            clear hK K
            try simp only [Act.put, List.getElem_toArray, List.getElem_cons_succ, List.getElem_cons_zero, List.setIfInBounds_toArray, List.set_cons_zero, List.set_cons_succ]
            refine wpAnyH_take (i := 7) (v := ?_) rfl (by kernel_rfl) (by kernel_rfl) (by kernel_rfl) (fun _ _ _ h => h) (Or.inl ⟨by rfl, ?_⟩) hHeld ?_
            rotate_left
            · rintro w' hSw
              go_simp
              try with_reducible rfl
            try simp only [Act.put, List.getElem_toArray, List.getElem_cons_succ, List.getElem_cons_zero, List.setIfInBounds_toArray, List.set_cons_zero, List.set_cons_succ]
            refine wpAnyH_ready (rs := [8]) (by kernel_rfl) (by simp) ?_
            refine AllReadyH.cons rfl (fun K hK => ?_) AllReadyH.nil
            go_simp
            refine hK.out _ _ (HVC.out _ _ _ _ _ _ _ _ _ _ _ A7) (fun hHeld => ?_)
            clear hK K
            refine wpAnyH_done (by kernel_rfl) ?_ _
            have H7 : Hid (RkS w c v X sch (.slice s6.a s6.n s6.c) (.slice none 0 0) (.slice none 0 0) (.slice none 0 0) (ceJ c (j + 1)) [] [] [] (w6.setCell ⟨X, 0, none⟩ (.slice s6.a s6.n s6.c))) := by rw [ceJ_succ]; exact A7
            clear A7 A2 A3 A4 hS6 h6 hg6 hw6 o1 vd6 q0 q1 q2 q3 q4 fz6 hHeld hnl hXs hq8
            generalize w6.setCell ⟨X, 0, none⟩ (.slice s6.a s6.n s6.c) = w7 at *
            go_wp2
            go_roundw
            case rel => exact ⟨j + 1, s6, by omega, by go_num, H7.out⟩
            case measure => simp [intOf]; omega
          · have zz := True.intro
            go_simp
            have A4 := (A3).below (below_alloc w3 (.cells #[I (ceilE c j)] 3))
            refine hK.out _ _ (HVC.out _ _ _ _ _ _ _ _ _ _ _ A4) (fun hHeld => ?_)
            clear hK K
            try simp only [Act.put, List.getElem_toArray, List.getElem_cons_succ, List.getElem_cons_zero, List.setIfInBounds_toArray, List.set_cons_zero, List.set_cons_succ]
            refine wpAnyH_ready (rs := [1]) (by kernel_rfl) (by simp) ?_
            refine AllReadyH.cons rfl (fun K hK => ?_) AllReadyH.nil
            have cD := (A4).d.1
            go_simp
            refine hK.out _ _ (HVC.out _ _ _ _ _ _ _ _ _ _ _ (A4)) (fun hHeld => ?_)
            clear hK K cD
            try simp only [Act.put, List.getElem_toArray, List.getElem_cons_succ, List.getElem_cons_zero, List.setIfInBounds_toArray, List.set_cons_zero, List.set_cons_succ]
            refine wpAnyH_ready (rs := [6]) (by kernel_rfl) (by simp) ?_
            refine AllReadyH.cons rfl (fun K hK => ?_) AllReadyH.nil
            have o1 := A4.o0
            have hnl := ceJ_len c j
            have hXs := heap_lt A4.vd
            have hq8 := HQ.out
            refine step_append_at rfl (.tmp 31) (.tmp 35) 34 rfl (X + 1) 3 i0 (.int .i64 0) 1 8 Try.underlying34 hi0 hz0 hz1 hz2 rfl (by decide) _ _ _ rfl o1 ⟨w3.heap.size, 0, none⟩ 1 1 [I (ceilE c j)] rfl rfl (cells_lit w3 #[I (ceilE c j)] _) (by intro u hu; simp only [List.mem_cons, List.not_mem_nil, or_false] at hu; subst hu; rfl) (by unfold maxLen; omega) (by omega) (by omega) ?_
            intro v6 w6 h6 hg6 hw6
            obtain ⟨s6, rfl⟩ := own_slice h6
            obtain ⟨vd6, A7⟩ := RkS.app0 A4 h6 hg6 hw6
            obtain ⟨q0, q1, q2, q3, q4⟩ := row5 vd6
            have fz6 : w6.frozen? ⟨X, 0, none⟩ = false := frozen_of_row w6 X 0 _ _ vd6
            have hS6 : w6.heap[w.heap.size]? = some (.cells C 33 (0, 0)) := heap_kept (HVC.out _ _ _ _ _ _ _ _ _ _ _ A4) hg6 (fun e => by have := (o1.lt _ e.symm).1; have := HXl.out; omega)
            refine hK.out _ _ hS6 (fun hHeld => ?_)
            clear hK K
            try simp only [Act.put, List.getElem_toArray, List.getElem_cons_succ, List.getElem_cons_zero, List.setIfInBounds_toArray, List.set_cons_zero, List.set_cons_succ]
            refine wpAnyH_take (i := 7) (v := ?_) rfl (by kernel_rfl) (by kernel_rfl) (by kernel_rfl) (fun _ _ _ h => h) (Or.inl ⟨by rfl, ?_⟩) hHeld ?_
            rotate_left
            · rintro w' hSw
              go_simp
              try with_reducible rfl
            try simp only [Act.put, List.getElem_toArray, List.getElem_cons_succ, List.getElem_cons_zero, List.setIfInBounds_toArray, List.set_cons_zero, List.set_cons_succ]
            refine wpAnyH_ready (rs := [8]) (by kernel_rfl) (by simp) ?_
            refine AllReadyH.cons rfl (fun K hK => ?_) AllReadyH.nil
            go_simp
            refine hK.out _ _ (HVC.out _ _ _ _ _ _ _ _ _ _ _ A7) (fun hHeld => ?_)
            clear hK K
            refine wpAnyH_done (by kernel_rfl) ?_ _
            have H7 : Hid (RkS w c v X sch (.slice s6.a s6.n s6.c) (.slice none 0 0) (.slice none 0 0) (.slice none 0 0) (ceJ c (j + 1)) [] [] [] (w6.setCell ⟨X, 0, none⟩ (.slice s6.a s6.n s6.c))) := by rw [ceJ_succ]; exact A7
            clear A7 A2 A3 A4 hS6 h6 hg6 hw6 o1 vd6 q0 q1 q2 q3 q4 fz6 hHeld hnl hXs hq8
            generalize w6.setCell ⟨X, 0, none⟩ (.slice s6.a s6.n s6.c) = w7 at *
            go_wp2
            go_roundw
            case rel => exact ⟨j + 1, s6, by omega, by go_num, H7.out⟩
            case measure => simp [intOf]; omega
      · obtain rfl : j = v.r.n := by omega
        have hlt' : ¬ ((v.r.n : Nat) : Int) < (v.r.n : Nat) := by omega
        obtain ⟨t0, rfl⟩ : ∃ t0 : Sl, t0 = st := ⟨_, rfl⟩
        have H0 : Hid (RkS w c v X sch (.slice t0.a t0.n t0.c) (.slice none 0 0) (.slice none 0 0) (.slice none 0 0) (ceilL c) [] [] [] wr) := by
          have h1 := HJ.out
          have e1 : ceJ c v.r.n = ceilL c := by rw [HNR.out]; rfl
          rw [e1] at h1
          exact h1
        clear HJ y11 y16 y9
        go_wp2
        clear y12
        go_loopw [7, 9, 10, 11, 12] (fun iv _ _ _ _ wr => ∃ (j : Nat) (s2 s3 : Sl), j ≤ v.t.n ∧ iv = .int .i64 j ∧ Hid (RkS w c v X sch (.slice t0.a t0.n t0.c) (.slice s2.a s2.n s2.c) (.slice s3.a s3.n s3.c) (.slice none 0 0) (ceilL c) (ruJ c j) (cntT c j) [] wr)) (fun iv _ _ _ _ _ => v.t.n - (intOf iv).toNat)
        case atStart => exact ⟨0, nilS, nilS, by omega, rfl, H0.out⟩
        case round =>
          clear H0
          obtain ⟨j, s2, s3, hj, rfl, HJ⟩ := hrel
          obtain ⟨y11, y12, y16, y9⟩ := HCV.out _ (HVC.out _ _ _ _ _ _ _ _ _ _ _ HJ.out)
          by_cases hlt : j < v.t.n
          · have hlt' : (j : Int) < v.t.n := by omega
            obtain ⟨x, hx⟩ : ∃ x, c.tasks[j]? = some x := ⟨_, List.getElem?_eq_getElem (by rw [← HNT.out]; exact hlt)⟩
            have hmx := meet_task HMT.out hn (List.mem_of_getElem? hx)
            have HID : Hid (∀ y ∈ x.res, isId y c.ress.length = true) := hmx.1
            have hlen := hmx.2
            have HX2 : Hid (c.tasks[j]? = some x) := hx
            have HJT : Hid (j * 8 + 8 ≤ 140737488351232) := by have h1 := HZ.out.t; have h2 := (List.getElem?_eq_some_iff.1 hx).1; show _ ≤ _; omega
            obtain ⟨g, off, s4, sx, s6, s7, e, hg, a0, a1, a2, a3, a4, a5, a6, a7, r4, r5, r6, r7⟩ := tk_at (HCf.out.below HJ.out.b) hx
            have hng : g ≠ wr.heap.size := Nat.ne_of_lt hg
            have hst : (storeCells ⟨wr.heap.size, 0, none⟩ [S x.name, I x.prio, .bool x.full, I x.act, .slice s4.a s4.n s4.c, .slice sx.a sx.n sx.c, .slice s6.a s6.n s6.c, .slice s7.a s7.n s7.c] 0).run Try.prog (wr.alloc (.cells #[.string ⟨#[]⟩, .int .i64 0, .bool false, .int .i64 0, .slice none 0 0, .slice none 0 0, .slice none 0 0, .slice none 0 0] 47)) = .ok () (wr.alloc (.cells #[S x.name, I x.prio, .bool x.full, I x.act, .slice s4.a s4.n s4.c, .slice sx.a sx.n sx.c, .slice s6.a s6.n s6.c, .slice s7.a s7.n s7.c] 47)) :=
              run_storeCells_new (P := Try.prog) wr 47 #[.string ⟨#[]⟩, .int .i64 0, .bool false, .int .i64 0, .slice none 0 0, .slice none 0 0, .slice none 0 0, .slice none 0 0] #[S x.name, I x.prio, .bool x.full, I x.act, .slice s4.a s4.n s4.c, .slice sx.a sx.n sx.c, .slice s6.a s6.n s6.c, .slice s7.a s7.n s7.c] (by kernel_rfl) rfl (by simp [Value.oneCell'])
            have hal := below_alloc wr (.cells #[S x.name, I x.prio, .bool x.full, I x.act, .slice s4.a s4.n s4.c, .slice sx.a sx.n sx.c, .slice s6.a s6.n s6.c, .slice s7.a s7.n s7.c] 47)
            have hTv : (wr.alloc (.cells #[S x.name, I x.prio, .bool x.full, I x.act, .slice s4.a s4.n s4.c, .slice sx.a sx.n sx.c, .slice s6.a s6.n s6.c, .slice s7.a s7.n s7.c] 47)).heap[wr.heap.size]? = some (.cells #[S x.name, I x.prio, .bool x.full, I x.act, .slice s4.a s4.n s4.c, .slice sx.a sx.n sx.c, .slice s6.a s6.n s6.c, .slice s7.a s7.n s7.c] 47 (0, 0)) := heap_alloc_new _ _
            have hT1 : (wr.alloc (.cells #[S x.name, I x.prio, .bool x.full, I x.act, .slice s4.a s4.n s4.c, .slice sx.a sx.n sx.c, .slice s6.a s6.n s6.c, .slice s7.a s7.n s7.c] 47)).cell? ⟨wr.heap.size, 1, none⟩ = some (I x.prio) := by rw [cell_of_row _ _ 1 _ _ (0, 0) hTv]; rfl
            have HC2 : Hid (RkS w c v X sch (.slice t0.a t0.n t0.c) (.slice s2.a s2.n s2.c) (.slice s3.a s3.n s3.c) (.slice none 0 0) (ceilL c) (ruJ c j) (cntT c j) [] (wr.alloc (.cells #[S x.name, I x.prio, .bool x.full, I x.act, .slice s4.a s4.n s4.c, .slice sx.a sx.n sx.c, .slice s6.a s6.n s6.c, .slice s7.a s7.n s7.c] 47))) := HJ.out.below hal
            have HRX : Hid (RowsAt (wr.alloc (.cells #[S x.name, I x.prio, .bool x.full, I x.act, .slice s4.a s4.n s4.c, .slice sx.a sx.n sx.c, .slice s6.a s6.n s6.c, .slice s7.a s7.n s7.c] 47)) 1 intP sx x.res) := r5.below hal (fun _ _ _ _ h => h)
            clear hx HJ r4 r5 r6 r7 y12 y16 y9 hmx
            rw [e] at y11
            clear e
            go_upto_region 14 with fail
            clear a0 a1 a2 a3 a4 a5 a6 a7 hst hng y11 hal hT1
            generalize hTT : wr.heap.size = T at *
            clear hTT
            generalize hWW : (wr.alloc (.cells #[S x.name, I x.prio, .bool x.full, I x.act, .slice s4.a s4.n s4.c, .slice sx.a sx.n sx.c, .slice s6.a s6.n s6.c, .slice s7.a s7.n s7.c] 47)) = w1 at *
            clear hWW
            have HT : Hid (∀ W, Below w1.heap.size w1 W → W.cell? ⟨T, 5, none⟩ = some (.slice sx.a sx.n sx.c) ∧ W.cell? ⟨T, 2, none⟩ = some (.bool x.full) ∧ RkS w c v X sch (.slice t0.a t0.n t0.c) (.slice s2.a s2.n s2.c) (.slice s3.a s3.n s3.c) (.slice none 0 0) (ceilL c) (ruJ c j) (cntT c j) [] W ∧ RowsAt W 1 intP sx x.res ∧ Below w.heap.size w W) := fun W hW => by
              have h1 := (hW.block _ (heap_lt hTv)).trans hTv
              have hS := HC2.out.below hW
              exact ⟨by rw [cell_of_row W _ 5 _ _ (0, 0) h1]; rfl, by rw [cell_of_row W _ 2 _ _ (0, 0) h1]; rfl, hS, HRX.out.below hW (fun _ _ _ _ h => h), hS.b⟩
            have HB1 : Hid (Below w1.heap.size w1 w1) := Below.refl _ _
            clear hTv HC2 HRX
            go_wp2
            go_loopw [9, 10, 11, 12] (fun rv nv kv _ wr => ∃ k : Nat, k ≤ x.res.length ∧ kv = .int .i64 k ∧ rv = .int .i64 (rJ c x.res x.prio k) ∧ nv = .int .i64 (nJ c x.res k : Nat) ∧ Hid (Below w1.heap.size w1 wr)) (fun _ _ kv _ _ => x.res.length - (intOf kv).toNat)
            case atStart => exact ⟨0, by omega, rfl, rfl, rfl, HB1.out⟩
            case round =>
              clear HB1
              obtain ⟨k, hk, rfl, rfl, rfl, HB⟩ := hrel
              obtain ⟨p5, p2, hS, r5, hbw⟩ := HT.out _ HB.out
              have hV := HVC.out _ _ _ _ _ _ _ _ _ _ _ hS
              have hN := nJ_le c x.res k
              have HS5 : Hid (sx.n = x.res.length) := r5.n
              by_cases hkt : k < x.res.length
              · have hkt' : (k : Int) < sx.n := by rw [HS5.out]; omega
                obtain ⟨r, hr⟩ : ∃ r, x.res[k]? = some r := ⟨_, List.getElem?_eq_getElem hkt⟩
                have hbd : 0 ≤ r ∧ r < c.ress.length := by simpa [isId] using HID.out r (List.mem_of_getElem? hr)
                obtain ⟨q, rfl⟩ := Int.eq_ofNat_of_zero_le hbd.1
                have HQ : Hid (q < c.ress.length) := by show _ < _; omega
                obtain ⟨g5, o5, e5, hg5, f5⟩ := ints_at r5 hr
                have HR1 : Hid (rJ c x.res x.prio (k + 1) = if (rkind c (q : Int) == 3) = true then (if ceilE c q > rJ c x.res x.prio k then ceilE c q else rJ c x.res x.prio k) else rJ c x.res x.prio k) := rJ_succ hr
                have HN1 : Hid (nJ c x.res (k + 1) = nJ c x.res k + (if (rkind c (q : Int) == 3) = true then 0 else 1)) := nJ_succ hr
                have ki := HKI.out _ hbw q HQ.out
                have HKQ : Hid (∀ W, Below w.heap.size w W → Calls Try.prog 38 #[.agg C, I (q : Int)] W fun e w' => e = .returned (I (ceilE c q)) ∧ Below W.heap.size W w') := fun W hW => HKC.out W hW q HQ.out
                have HHV : Hid (∀ W, Below w1.heap.size w1 W → W.heap[w.heap.size]? = some (.cells C 33 (0, 0)) ∧ Below w.heap.size w W) := fun W hW => ⟨HVC.out _ _ _ _ _ _ _ _ _ _ _ (HT.out W hW).2.2.1, (HT.out W hW).2.2.2.2⟩
                rw [e5] at p5
                clear hbd hr e5 r5 hbw hS p2
                generalize (rkind c (q : Int) == 3) = i3 at *
                generalize ceilE c q = ce at *
                generalize hrr : rJ c x.res x.prio k = R0 at *
                generalize hnn : nJ c x.res k = N0 at *
                clear hrr hnn
                have hi : i3 = true ∨ i3 = false := by cases i3 <;> simp
                rcases hi with rfl | rfl
                · by_cases hce : ce > R0
                  · have HR2 : Hid (rJ c x.res x.prio (k + 1) = ce) := by show _ = _; rw [HR1.out, if_pos rfl, if_pos hce]
                    have HN2 : Hid (nJ c x.res (k + 1) = N0) := HN1.out
                    have hce2 : decide (ce > R0) = true := decide_eq_true hce
                    have hce3 : R0 < ce := hce
                    clear HR1 HN1
                    go_wp2_with (first | (refine wpList_load_row rfl 33 _ rfl w.heap.size rfl 33 _ (0, 0) _ hV4 Try.underlying33 rfl hi18 ?_) | (refine wpList_load_row rfl 33 _ rfl w.heap.size rfl 33 _ (0, 0) _ hV3 Try.underlying33 rfl hi18 ?_) | (refine wpList_load_row rfl 33 _ rfl w.heap.size rfl 33 _ (0, 0) _ hV Try.underlying33 rfl hi18 ?_) | (go_at_call 39; refine ki.mono ?_; rintro e w3 ⟨rfl, hb3⟩; have HB3 : Hid (Below w1.heap.size w1 w3) := HB.out.trans (hb3.mono HB.out.size); obtain ⟨hV3, hbw3⟩ := HHV.out _ HB3.out; clear hb3 ki hV HB) | (go_at_call 38; refine (HKQ.out _ hbw4).mono ?_; rintro e w5 ⟨rfl, hb5⟩; have HB5 : Hid (Below w1.heap.size w1 w5) := HB4.out.trans (hb5.mono HB4.out.size); clear hb5 hV4 HB4 hbw4) | (go_at_call 38; refine (HKQ.out _ hbw3).mono ?_; rintro e w4 ⟨rfl, hb4⟩; have HB4 : Hid (Below w1.heap.size w1 w4) := HB3.out.trans (hb4.mono HB3.out.size); obtain ⟨hV4, hbw4⟩ := HHV.out _ HB4.out; clear hb4 hV3 HB3 hbw3))
                    go_roundw
                    case rel => exact ⟨k + 1, by omega, by go_num, by rw [HR2.out], by rw [HN2.out], HB5.out⟩
                    case measure => simp [intOf]; omega
                  · have HR2 : Hid (rJ c x.res x.prio (k + 1) = R0) := by show _ = _; rw [HR1.out, if_pos rfl, if_neg hce]
                    have HN2 : Hid (nJ c x.res (k + 1) = N0) := HN1.out
                    have hce2 : decide (ce > R0) = false := decide_eq_false hce
                    have hce3 : ¬ R0 < ce := hce
                    clear HR1 HN1
                    go_wp2_with (first | (refine wpList_load_row rfl 33 _ rfl w.heap.size rfl 33 _ (0, 0) _ hV4 Try.underlying33 rfl hi18 ?_) | (refine wpList_load_row rfl 33 _ rfl w.heap.size rfl 33 _ (0, 0) _ hV3 Try.underlying33 rfl hi18 ?_) | (refine wpList_load_row rfl 33 _ rfl w.heap.size rfl 33 _ (0, 0) _ hV Try.underlying33 rfl hi18 ?_) | (go_at_call 39; refine ki.mono ?_; rintro e w3 ⟨rfl, hb3⟩; have HB3 : Hid (Below w1.heap.size w1 w3) := HB.out.trans (hb3.mono HB.out.size); obtain ⟨hV3, hbw3⟩ := HHV.out _ HB3.out; clear hb3 ki hV HB) | (go_at_call 38; refine (HKQ.out _ hbw3).mono ?_; rintro e w4 ⟨rfl, hb4⟩; have HB4 : Hid (Below w1.heap.size w1 w4) := HB3.out.trans (hb4.mono HB3.out.size); obtain ⟨hV4, hbw4⟩ := HHV.out _ HB4.out; clear hb4 hV3 HB3 hbw3))
                    go_roundw
                    case rel => exact ⟨k + 1, by omega, by go_num, by rw [HR2.out], by rw [HN2.out], HB4.out⟩
                    case measure => simp [intOf]; omega
                · have HR2 : Hid (rJ c x.res x.prio (k + 1) = R0) := HR1.out
                  have HN2 : Hid (nJ c x.res (k + 1) = N0 + 1) := HN1.out
                  clear HR1 HN1
                  go_wp2_with (first | (refine wpList_load_row rfl 33 _ rfl w.heap.size rfl 33 _ (0, 0) _ hV3 Try.underlying33 rfl hi18 ?_) | (refine wpList_load_row rfl 33 _ rfl w.heap.size rfl 33 _ (0, 0) _ hV Try.underlying33 rfl hi18 ?_) | (go_at_call 39; refine ki.mono ?_; rintro e w3 ⟨rfl, hb3⟩; have HB3 : Hid (Below w1.heap.size w1 w3) := HB.out.trans (hb3.mono HB.out.size); obtain ⟨hV3, hbw3⟩ := HHV.out _ HB3.out; clear hb3 ki hV HB))
                  go_roundw
                  case rel => exact ⟨k + 1, by omega, by go_num, by rw [HR2.out], by rw [HN2.out]; go_num, HB3.out⟩
                  case measure => simp [intOf]; omega
              · obtain rfl : k = x.res.length := by omega
                have hkt' : ¬ ((x.res.length : Nat) : Int) < sx.n := by rw [HS5.out]; omega
                have HRU : Hid ((if x.full = true then rJ c x.res x.prio x.res.length else sch) = runD c x) := by show _ = _; rw [← HSC.out]; exact rJ_all c x
                have HCU : Hid ((nJ c x.res x.res.length : Int) + (if c.o8 = true then 1 else 0) = (cntU c false x.res : Int)) := nJ_all c x.res
                obtain ⟨y11, y12, y16, y9⟩ := HCV.out _ hV
                obtain ⟨z0, z1, z2, z3, z4⟩ := hS.d
                have HSS : Hid (RkS w c v X sch (.slice t0.a t0.n t0.c) (.slice s2.a s2.n s2.c) (.slice s3.a s3.n s3.c) (.slice none 0 0) (ceilL c) (ruJ c j) (cntT c j) [] wr) := hS
                have HXT : Hid (ruJ c (j + 1) = ruJ c j ++ [runD c x] ∧ cntT c (j + 1) = cntT c j ++ [(cntU c false x.res : Int)]) := ⟨ruJ_succ HX2.out, cntT_succ HX2.out⟩
                clear hS hV r5 hbw HB HT HID y11 y12 y16 z0 z4
                generalize hrr : rJ c x.res x.prio x.res.length = R0 at *
                generalize hnn : nJ c x.res x.res.length = N0 at *
                generalize runD c x = RD at *
                generalize cntU c false x.res = CN at *
                clear hrr hnn
                generalize hfl : x.full = fl at *
                clear hfl
                generalize hol : c.o8 = ol at *
                clear hol
                rcases (show (fl = true ∨ fl = false) from by cases fl <;> simp) with rfl | rfl
                · rcases (show (ol = true ∨ ol = false) from by cases ol <;> simp) with rfl | rfl
                  · have HR3 : Hid (R0 = RD) := HRU.out
                    have HN3 : Hid (((N0 : Int) + 1) = (CN : Int)) := by have := HCU.out; simp at this; exact this
                    clear HRU HCU
                    go_upto_region 26 with fail
                    clear p2 p5 y9
                    have B4 := (HSS.out).below (below_alloc wr (.cells #[.int .i64 R0] 3))
                    have hnl := ruJ_len c j
                    have hXs := heap_lt B4.vd
                    have hq8 := HJT.out
                    go_wp2_with (at_builtin; refine wpList_append_own_at _ rfl (.tmp 89) (.tmp 91) 34 rfl (X + 1) 3 i0 (.int .i64 0) 1 8 Try.underlying34 hi0 hz0 hz1 hz2 rfl (by decide) _ _ _ rfl B4.o2 ⟨wr.heap.size, 0, none⟩ 1 1 [.int .i64 R0] rfl rfl (cells_lit wr #[.int .i64 R0] _) (by intro u hu; simp only [List.mem_cons, List.not_mem_nil, or_false] at hu; subst hu; rfl) (by unfold maxLen; omega) (by omega) (by omega) ?_)
                    intro v6 w6 h6 hg6 _ hw6
                    obtain ⟨s8, rfl⟩ := own_slice h6
                    obtain ⟨vd6, A7⟩ := RkS.app2 (a := R0) B4 h6 hg6 (hw6.imp_right (fun h => h.trans (by simp)))
                    obtain ⟨q0, q1, q2, q3, q4⟩ := row5 vd6
                    have fz6 : w6.frozen? ⟨X, 2, none⟩ = false := frozen_of_row w6 X 2 _ _ vd6
                    go_upto_region 27 with fail
                    have HA7 : Hid (RkS w c v X sch (.slice t0.a t0.n t0.c) (.slice s8.a s8.n s8.c) (.slice s3.a s3.n s3.c) (.slice none 0 0) (ceilL c) (ruJ c j ++ [R0]) (cntT c j) [] (w6.setCell ⟨X, 2, none⟩ (.slice s8.a s8.n s8.c))) := A7
                    clear A7 vd6 q0 q1 q2 q3 q4 fz6 h6 hg6 hw6 B4 HSS hnl hXs hq8 z1 z2 z3
                    generalize w6.setCell ⟨X, 2, none⟩ (.slice s8.a s8.n s8.c) = w7 at *
                    obtain ⟨z0, z1, z2, z3, z4⟩ := HA7.out.d
                    have B4 := (HA7.out).below (below_alloc w7 (.cells #[.int .i64 ((N0 : Int) + 1)] 3))
                    have hnl := cntT_len2 c j
                    have hXs := heap_lt B4.vd
                    have hq8 := HJT.out
                    go_wp2_with (at_builtin; refine wpList_append_own_at _ rfl (.tmp 95) (.tmp 97) 34 rfl (X + 1) 3 i0 (.int .i64 0) 1 8 Try.underlying34 hi0 hz0 hz1 hz2 rfl (by decide) _ _ _ rfl B4.o3 ⟨w7.heap.size, 0, none⟩ 1 1 [.int .i64 ((N0 : Int) + 1)] rfl rfl (cells_lit w7 #[.int .i64 ((N0 : Int) + 1)] _) (by intro u hu; simp only [List.mem_cons, List.not_mem_nil, or_false] at hu; subst hu; rfl) (by unfold maxLen; omega) (by omega) (by omega) ?_)
                    intro v6 w6' h6 hg6 _ hw6
                    obtain ⟨s9, rfl⟩ := own_slice h6
                    obtain ⟨vd6, A7⟩ := RkS.app3 (a := ((N0 : Int) + 1)) B4 h6 hg6 (hw6.imp_right (fun h => h.trans (by simp)))
                    obtain ⟨q0, q1, q2, q3, q4⟩ := row5 vd6
                    have fz6 : w6'.frozen? ⟨X, 3, none⟩ = false := frozen_of_row w6' X 3 _ _ vd6
                    go_upto_region 11 with fail
                    have HA8 : Hid (RkS w c v X sch (.slice t0.a t0.n t0.c) (.slice s8.a s8.n s8.c) (.slice s9.a s9.n s9.c) (.slice none 0 0) (ceilL c) (ruJ c (j + 1)) (cntT c (j + 1)) [] (w6'.setCell ⟨X, 3, none⟩ (.slice s9.a s9.n s9.c))) := by
                      have e1 := HXT.out.1
                      have e2 := HXT.out.2
                      rw [← HR3.out] at e1
                      rw [← HN3.out] at e2
                      rw [e1, e2]
                      exact A7
                    clear A7 vd6 q0 q1 q2 q3 q4 fz6 h6 hg6 hw6 B4 HA7 hnl hXs hq8 z0 z1 z2 z3 z4
                    generalize w6'.setCell ⟨X, 3, none⟩ (.slice s9.a s9.n s9.c) = w8 at *
                    go_wp2
                    go_roundw
                    case rel => exact ⟨j + 1, s8, s9, by omega, by go_num, HA8.out⟩
                    case measure => simp [intOf]; omega
                  · have HR3 : Hid (R0 = RD) := HRU.out
                    have HN3 : Hid ((N0 : Int) = (CN : Int)) := by have := HCU.out; simp at this; exact this
                    clear HRU HCU
                    go_upto_region 26 with fail
                    clear p2 p5 y9
                    have B4 := (HSS.out).below (below_alloc wr (.cells #[.int .i64 R0] 3))
                    have hnl := ruJ_len c j
                    have hXs := heap_lt B4.vd
                    have hq8 := HJT.out
                    go_wp2_with (at_builtin; refine wpList_append_own_at _ rfl (.tmp 89) (.tmp 91) 34 rfl (X + 1) 3 i0 (.int .i64 0) 1 8 Try.underlying34 hi0 hz0 hz1 hz2 rfl (by decide) _ _ _ rfl B4.o2 ⟨wr.heap.size, 0, none⟩ 1 1 [.int .i64 R0] rfl rfl (cells_lit wr #[.int .i64 R0] _) (by intro u hu; simp only [List.mem_cons, List.not_mem_nil, or_false] at hu; subst hu; rfl) (by unfold maxLen; omega) (by omega) (by omega) ?_)
                    intro v6 w6 h6 hg6 _ hw6
                    obtain ⟨s8, rfl⟩ := own_slice h6
                    obtain ⟨vd6, A7⟩ := RkS.app2 (a := R0) B4 h6 hg6 (hw6.imp_right (fun h => h.trans (by simp)))
                    obtain ⟨q0, q1, q2, q3, q4⟩ := row5 vd6
                    have fz6 : w6.frozen? ⟨X, 2, none⟩ = false := frozen_of_row w6 X 2 _ _ vd6
                    go_upto_region 27 with fail
                    have HA7 : Hid (RkS w c v X sch (.slice t0.a t0.n t0.c) (.slice s8.a s8.n s8.c) (.slice s3.a s3.n s3.c) (.slice none 0 0) (ceilL c) (ruJ c j ++ [R0]) (cntT c j) [] (w6.setCell ⟨X, 2, none⟩ (.slice s8.a s8.n s8.c))) := A7
                    clear A7 vd6 q0 q1 q2 q3 q4 fz6 h6 hg6 hw6 B4 HSS hnl hXs hq8 z1 z2 z3
                    generalize w6.setCell ⟨X, 2, none⟩ (.slice s8.a s8.n s8.c) = w7 at *
                    obtain ⟨z0, z1, z2, z3, z4⟩ := HA7.out.d
                    have B4 := (HA7.out).below (below_alloc w7 (.cells #[.int .i64 (N0 : Int)] 3))
                    have hnl := cntT_len2 c j
                    have hXs := heap_lt B4.vd
                    have hq8 := HJT.out
                    go_wp2_with (at_builtin; refine wpList_append_own_at _ rfl (.tmp 95) (.tmp 97) 34 rfl (X + 1) 3 i0 (.int .i64 0) 1 8 Try.underlying34 hi0 hz0 hz1 hz2 rfl (by decide) _ _ _ rfl B4.o3 ⟨w7.heap.size, 0, none⟩ 1 1 [.int .i64 (N0 : Int)] rfl rfl (cells_lit w7 #[.int .i64 (N0 : Int)] _) (by intro u hu; simp only [List.mem_cons, List.not_mem_nil, or_false] at hu; subst hu; rfl) (by unfold maxLen; omega) (by omega) (by omega) ?_)
                    intro v6 w6' h6 hg6 _ hw6
                    obtain ⟨s9, rfl⟩ := own_slice h6
                    obtain ⟨vd6, A7⟩ := RkS.app3 (a := (N0 : Int)) B4 h6 hg6 (hw6.imp_right (fun h => h.trans (by simp)))
                    obtain ⟨q0, q1, q2, q3, q4⟩ := row5 vd6
                    have fz6 : w6'.frozen? ⟨X, 3, none⟩ = false := frozen_of_row w6' X 3 _ _ vd6
                    go_upto_region 11 with fail
                    have HA8 : Hid (RkS w c v X sch (.slice t0.a t0.n t0.c) (.slice s8.a s8.n s8.c) (.slice s9.a s9.n s9.c) (.slice none 0 0) (ceilL c) (ruJ c (j + 1)) (cntT c (j + 1)) [] (w6'.setCell ⟨X, 3, none⟩ (.slice s9.a s9.n s9.c))) := by
                      have e1 := HXT.out.1
                      have e2 := HXT.out.2
                      rw [← HR3.out] at e1
                      rw [← HN3.out] at e2
                      rw [e1, e2]
                      exact A7
                    clear A7 vd6 q0 q1 q2 q3 q4 fz6 h6 hg6 hw6 B4 HA7 hnl hXs hq8 z0 z1 z2 z3 z4
                    generalize w6'.setCell ⟨X, 3, none⟩ (.slice s9.a s9.n s9.c) = w8 at *
                    go_wp2
                    go_roundw
                    case rel => exact ⟨j + 1, s8, s9, by omega, by go_num, HA8.out⟩
                    case measure => simp [intOf]; omega
                · rcases (show (ol = true ∨ ol = false) from by cases ol <;> simp) with rfl | rfl
                  · have HR3 : Hid (sch = RD) := HRU.out
                    have HN3 : Hid (((N0 : Int) + 1) = (CN : Int)) := by have := HCU.out; simp at this; exact this
                    clear HRU HCU
                    go_upto_region 26 with fail
                    clear p2 p5 y9
                    have B4 := (HSS.out).below (below_alloc wr (.cells #[I sch] 3))
                    have hnl := ruJ_len c j
                    have hXs := heap_lt B4.vd
                    have hq8 := HJT.out
                    go_wp2_with (at_builtin; refine wpList_append_own_at _ rfl (.tmp 89) (.tmp 91) 34 rfl (X + 1) 3 i0 (.int .i64 0) 1 8 Try.underlying34 hi0 hz0 hz1 hz2 rfl (by decide) _ _ _ rfl B4.o2 ⟨wr.heap.size, 0, none⟩ 1 1 [I sch] rfl rfl (cells_lit wr #[I sch] _) (by intro u hu; simp only [List.mem_cons, List.not_mem_nil, or_false] at hu; subst hu; rfl) (by unfold maxLen; omega) (by omega) (by omega) ?_)
                    intro v6 w6 h6 hg6 _ hw6
                    obtain ⟨s8, rfl⟩ := own_slice h6
                    obtain ⟨vd6, A7⟩ := RkS.app2 (a := sch) B4 h6 hg6 (hw6.imp_right (fun h => h.trans (by simp)))
                    obtain ⟨q0, q1, q2, q3, q4⟩ := row5 vd6
                    have fz6 : w6.frozen? ⟨X, 2, none⟩ = false := frozen_of_row w6 X 2 _ _ vd6
                    go_upto_region 27 with fail
                    have HA7 : Hid (RkS w c v X sch (.slice t0.a t0.n t0.c) (.slice s8.a s8.n s8.c) (.slice s3.a s3.n s3.c) (.slice none 0 0) (ceilL c) (ruJ c j ++ [sch]) (cntT c j) [] (w6.setCell ⟨X, 2, none⟩ (.slice s8.a s8.n s8.c))) := A7
                    clear A7 vd6 q0 q1 q2 q3 q4 fz6 h6 hg6 hw6 B4 HSS hnl hXs hq8 z1 z2 z3
                    generalize w6.setCell ⟨X, 2, none⟩ (.slice s8.a s8.n s8.c) = w7 at *
                    obtain ⟨z0, z1, z2, z3, z4⟩ := HA7.out.d
                    have B4 := (HA7.out).below (below_alloc w7 (.cells #[.int .i64 ((N0 : Int) + 1)] 3))
                    have hnl := cntT_len2 c j
                    have hXs := heap_lt B4.vd
                    have hq8 := HJT.out
                    go_wp2_with (at_builtin; refine wpList_append_own_at _ rfl (.tmp 95) (.tmp 97) 34 rfl (X + 1) 3 i0 (.int .i64 0) 1 8 Try.underlying34 hi0 hz0 hz1 hz2 rfl (by decide) _ _ _ rfl B4.o3 ⟨w7.heap.size, 0, none⟩ 1 1 [.int .i64 ((N0 : Int) + 1)] rfl rfl (cells_lit w7 #[.int .i64 ((N0 : Int) + 1)] _) (by intro u hu; simp only [List.mem_cons, List.not_mem_nil, or_false] at hu; subst hu; rfl) (by unfold maxLen; omega) (by omega) (by omega) ?_)
                    intro v6 w6' h6 hg6 _ hw6
                    obtain ⟨s9, rfl⟩ := own_slice h6
                    obtain ⟨vd6, A7⟩ := RkS.app3 (a := ((N0 : Int) + 1)) B4 h6 hg6 (hw6.imp_right (fun h => h.trans (by simp)))
                    obtain ⟨q0, q1, q2, q3, q4⟩ := row5 vd6
                    have fz6 : w6'.frozen? ⟨X, 3, none⟩ = false := frozen_of_row w6' X 3 _ _ vd6
                    go_upto_region 11 with fail
                    have HA8 : Hid (RkS w c v X sch (.slice t0.a t0.n t0.c) (.slice s8.a s8.n s8.c) (.slice s9.a s9.n s9.c) (.slice none 0 0) (ceilL c) (ruJ c (j + 1)) (cntT c (j + 1)) [] (w6'.setCell ⟨X, 3, none⟩ (.slice s9.a s9.n s9.c))) := by
                      have e1 := HXT.out.1
                      have e2 := HXT.out.2
                      rw [← HR3.out] at e1
                      rw [← HN3.out] at e2
                      rw [e1, e2]
                      exact A7
                    clear A7 vd6 q0 q1 q2 q3 q4 fz6 h6 hg6 hw6 B4 HA7 hnl hXs hq8 z0 z1 z2 z3 z4
                    generalize w6'.setCell ⟨X, 3, none⟩ (.slice s9.a s9.n s9.c) = w8 at *
                    go_wp2
                    go_roundw
                    case rel => exact ⟨j + 1, s8, s9, by omega, by go_num, HA8.out⟩
                    case measure => simp [intOf]; omega
                  · have HR3 : Hid (sch = RD) := HRU.out
                    have HN3 : Hid ((N0 : Int) = (CN : Int)) := by have := HCU.out; simp at this; exact this
                    clear HRU HCU
                    go_upto_region 26 with fail
                    clear p2 p5 y9
                    have B4 := (HSS.out).below (below_alloc wr (.cells #[I sch] 3))
                    have hnl := ruJ_len c j
                    have hXs := heap_lt B4.vd
                    have hq8 := HJT.out
                    go_wp2_with (at_builtin; refine wpList_append_own_at _ rfl (.tmp 89) (.tmp 91) 34 rfl (X + 1) 3 i0 (.int .i64 0) 1 8 Try.underlying34 hi0 hz0 hz1 hz2 rfl (by decide) _ _ _ rfl B4.o2 ⟨wr.heap.size, 0, none⟩ 1 1 [I sch] rfl rfl (cells_lit wr #[I sch] _) (by intro u hu; simp only [List.mem_cons, List.not_mem_nil, or_false] at hu; subst hu; rfl) (by unfold maxLen; omega) (by omega) (by omega) ?_)
                    intro v6 w6 h6 hg6 _ hw6
                    obtain ⟨s8, rfl⟩ := own_slice h6
                    obtain ⟨vd6, A7⟩ := RkS.app2 (a := sch) B4 h6 hg6 (hw6.imp_right (fun h => h.trans (by simp)))
                    obtain ⟨q0, q1, q2, q3, q4⟩ := row5 vd6
                    have fz6 : w6.frozen? ⟨X, 2, none⟩ = false := frozen_of_row w6 X 2 _ _ vd6
                    go_upto_region 27 with fail
                    have HA7 : Hid (RkS w c v X sch (.slice t0.a t0.n t0.c) (.slice s8.a s8.n s8.c) (.slice s3.a s3.n s3.c) (.slice none 0 0) (ceilL c) (ruJ c j ++ [sch]) (cntT c j) [] (w6.setCell ⟨X, 2, none⟩ (.slice s8.a s8.n s8.c))) := A7
                    clear A7 vd6 q0 q1 q2 q3 q4 fz6 h6 hg6 hw6 B4 HSS hnl hXs hq8 z1 z2 z3
                    generalize w6.setCell ⟨X, 2, none⟩ (.slice s8.a s8.n s8.c) = w7 at *
                    obtain ⟨z0, z1, z2, z3, z4⟩ := HA7.out.d
                    have B4 := (HA7.out).below (below_alloc w7 (.cells #[.int .i64 (N0 : Int)] 3))
                    have hnl := cntT_len2 c j
                    have hXs := heap_lt B4.vd
                    have hq8 := HJT.out
                    go_wp2_with (at_builtin; refine wpList_append_own_at _ rfl (.tmp 95) (.tmp 97) 34 rfl (X + 1) 3 i0 (.int .i64 0) 1 8 Try.underlying34 hi0 hz0 hz1 hz2 rfl (by decide) _ _ _ rfl B4.o3 ⟨w7.heap.size, 0, none⟩ 1 1 [.int .i64 (N0 : Int)] rfl rfl (cells_lit w7 #[.int .i64 (N0 : Int)] _) (by intro u hu; simp only [List.mem_cons, List.not_mem_nil, or_false] at hu; subst hu; rfl) (by unfold maxLen; omega) (by omega) (by omega) ?_)
                    intro v6 w6' h6 hg6 _ hw6
                    obtain ⟨s9, rfl⟩ := own_slice h6
                    obtain ⟨vd6, A7⟩ := RkS.app3 (a := (N0 : Int)) B4 h6 hg6 (hw6.imp_right (fun h => h.trans (by simp)))
                    obtain ⟨q0, q1, q2, q3, q4⟩ := row5 vd6
                    have fz6 : w6'.frozen? ⟨X, 3, none⟩ = false := frozen_of_row w6' X 3 _ _ vd6
                    go_upto_region 11 with fail
                    have HA8 : Hid (RkS w c v X sch (.slice t0.a t0.n t0.c) (.slice s8.a s8.n s8.c) (.slice s9.a s9.n s9.c) (.slice none 0 0) (ceilL c) (ruJ c (j + 1)) (cntT c (j + 1)) [] (w6'.setCell ⟨X, 3, none⟩ (.slice s9.a s9.n s9.c))) := by
                      have e1 := HXT.out.1
                      have e2 := HXT.out.2
                      rw [← HR3.out] at e1
                      rw [← HN3.out] at e2
                      rw [e1, e2]
                      exact A7
                    clear A7 vd6 q0 q1 q2 q3 q4 fz6 h6 hg6 hw6 B4 HA7 hnl hXs hq8 z0 z1 z2 z3 z4
                    generalize w6'.setCell ⟨X, 3, none⟩ (.slice s9.a s9.n s9.c) = w8 at *
                    go_wp2
                    go_roundw
                    case rel => exact ⟨j + 1, s8, s9, by omega, by go_num, HA8.out⟩
                    case measure => simp [intOf]; omega
          · obtain rfl : j = v.t.n := by omega
            have hlt' : ¬ ((v.t.n : Nat) : Int) < (v.t.n : Nat) := by omega
            obtain ⟨t2, rfl⟩ : ∃ t2 : Sl, t2 = s2 := ⟨_, rfl⟩
            obtain ⟨t3, rfl⟩ : ∃ t3 : Sl, t3 = s3 := ⟨_, rfl⟩
            have H0 : Hid (RkS w c v X sch (.slice t0.a t0.n t0.c) (.slice t2.a t2.n t2.c) (.slice t3.a t3.n t3.c) (.slice none 0 0) (ceilL c) (c.tasks.map (runP c)) (cntT c c.tasks.length) [] wr) := by
              have h1 := HJ.out
              have e1 : ruJ c v.t.n = c.tasks.map (runP c) := by rw [HNT.out]; exact run_all HE.out.symm
              have e2 : cntT c v.t.n = cntT c c.tasks.length := by rw [HNT.out]
              rw [e1, e2] at h1
              exact h1
            clear HJ y12 y16 y9
            go_wp2
            clear y11
            go_loopw [13] (fun iv wr => ∃ (j : Nat) (st : Sl), j ≤ v.i.n ∧ iv = .int .i64 j ∧ Hid (RkS w c v X sch (.slice t0.a t0.n t0.c) (.slice t2.a t2.n t2.c) (.slice t3.a t3.n t3.c) (.slice st.a st.n st.c) (ceilL c) (c.tasks.map (runP c)) (cntT c c.tasks.length) (cnD c j) wr)) (fun iv _ => v.i.n - (intOf iv).toNat)
            case atStart => exact ⟨0, nilS, by omega, rfl, H0.out⟩
            case round =>
              clear H0
              obtain ⟨j, st, hj, rfl, HJ⟩ := hrel
              obtain ⟨y11, y12, y16, y9⟩ := HCV.out _ (HVC.out _ _ _ _ _ _ _ _ _ _ _ HJ.out)
              by_cases hlt : j < v.i.n
              · have hlt' : (j : Int) < v.i.n := by omega
                obtain ⟨x, hx⟩ : ∃ x, c.isrs[j]? = some x := ⟨_, List.getElem?_eq_getElem (by rw [← HNI.out]; exact hlt)⟩
                obtain ⟨g, off, sx, s4, e, hg, a0, a1, a2, a3, a4, r3, r4⟩ := is_at HCf.out hx
                have HLX : Hid (sx.n = x.res.length) := r3.n
                have hsx1 : sx.n ≤ sx.c := r3.c
                have hsx2 : sx.c ≤ 9223372036854775807 := r3.m
                have HC2 : Hid (RkS w c v X sch (.slice t0.a t0.n t0.c) (.slice t2.a t2.n t2.c) (.slice t3.a t3.n t3.c) (.slice st.a st.n st.c) (ceilL c) (c.tasks.map (runP c)) (cntT c c.tasks.length) (cnD c j) wr.drew) := HJ.out.below ⟨rfl, rfl, rfl, Nat.le_refl _, fun _ _ => rfl⟩
                have HJT : Hid (j * 8 + 8 ≤ 140737488351232) := by have h1 := HZ.out.i; have h2 := (List.getElem?_eq_some_iff.1 hx).1; show _ ≤ _; omega
                have HX2 : Hid (c.isrs[j]? = some x) := hx
                have HTL : Hid (∀ g, (Value.slice st.a st.n st.c).ownBlock = some g → X + 1 ≤ g) := fun g eg => (HJ.out.o4.lt g eg).1
                rw [e] at y16
                clear hx HJ y11 y12 y9 r3 r4 a0 a1 a2 a4
                go_upto_region 31 with fail
                generalize hWD : wr.drew = w2 at *
                have HT : Hid (∀ W, Below w2.heap.size w2 W → W.cell? ⟨w.heap.size, 16, none⟩ = some (.slice (some ⟨g, off, none⟩) v.i.n v.i.c) ∧ W.cell? ⟨g, off + j * 5 + 3, none⟩ = some (.slice sx.a sx.n sx.c)) := fun W hW => by
                  have hA := HC2.out.below hW
                  have k16 := (HCV.out W (HVC.out _ _ _ _ _ _ _ _ _ _ _ hA)).2.2.1
                  rw [e] at k16
                  exact ⟨k16, by rw [cell_below hA.b _ _ hg]; exact a3⟩
                have HTG : Hid (∀ W w6 : World, Below w2.heap.size w2 W → W.grownBy w6 (Value.slice st.a st.n st.c).ownBlock → w6.cell? ⟨w.heap.size, 16, none⟩ = some (.slice (some ⟨g, off, none⟩) v.i.n v.i.c) ∧ w6.cell? ⟨g, off + j * 5 + 3, none⟩ = some (.slice sx.a sx.n sx.c)) := fun W w6 hW hg6 => by
                  have k := HT.out W hW
                  have hL := HXl.out
                  have n1 : (some w.heap.size : Option Nat) ≠ (Value.slice st.a st.n st.c).ownBlock := fun eT => by have := HTL.out _ eT.symm; omega
                  have n2 : (some g : Option Nat) ≠ (Value.slice st.a st.n st.c).ownBlock := fun eT => by have := HTL.out _ eT.symm; omega
                  exact ⟨hg6.cell k.1 n1, hg6.cell k.2 n2⟩
                have HTD : Hid (∀ W : World, (W.cell? ⟨w.heap.size, 16, none⟩ = some (.slice (some ⟨g, off, none⟩) v.i.n v.i.c) ∧ W.cell? ⟨g, off + j * 5 + 3, none⟩ = some (.slice sx.a sx.n sx.c)) → ∀ u, (W.setCell ⟨X, 4, none⟩ u).cell? ⟨w.heap.size, 16, none⟩ = some (.slice (some ⟨g, off, none⟩) v.i.n v.i.c) ∧ (W.setCell ⟨X, 4, none⟩ u).cell? ⟨g, off + j * 5 + 3, none⟩ = some (.slice sx.a sx.n sx.c)) := fun W k u => by
                  have gs := grown_set W X 4 u
                  have hL := HXl.out
                  have n1 : (some w.heap.size : Option Nat) ≠ some X := fun eT => by have := Option.some.inj eT; omega
                  have n2 : (some g : Option Nat) ≠ some X := fun eT => by have := Option.some.inj eT; omega
                  exact ⟨gs.cell k.1 n1, gs.cell k.2 n2⟩
                clear HTL a3 e y16
                refine wp_region_held_drew (S := fun W' => W'.cell? ⟨w.heap.size, 16, none⟩ = some (.slice (some ⟨g, off, none⟩) v.i.n v.i.c) ∧ W'.cell? ⟨g, off + j * 5 + 3, none⟩ = some (.slice sx.a sx.n sx.c)) (by kernel_rfl) (by rw [hWD]; exact HT.out _ (Below.refl _ _)) (fun hHeld => ?_)
                rw [hWD] at hHeld ⊢
                clear hWD
                have A2 := HC2.out
                clear HC2
                refine wpAnyH_take (i := 0) (v := ?_) rfl (by kernel_rfl) (by kernel_rfl) (by kernel_rfl) (fun _ _ _ h => h) (Or.inl ⟨by rfl, ?_⟩) hHeld ?_
                rotate_left
                · rintro w' ⟨hS0, hS1⟩
                  go_simp
                  try with_reducible rfl
                try simp only [Act.put, List.getElem_toArray, List.getElem_cons_succ, List.getElem_cons_zero, List.setIfInBounds_toArray, List.set_cons_zero, List.set_cons_succ]
                refine wpAnyH_take (i := 2) (v := ?_) rfl (by kernel_rfl) (by kernel_rfl) (by kernel_rfl) (fun _ _ _ h => h) (Or.inl ⟨by rfl, ?_⟩) hHeld ?_
                rotate_left
                · rintro w' ⟨hS0, hS1⟩
                  go_simp
                  try with_reducible rfl
                try simp only [Act.put, List.getElem_toArray, List.getElem_cons_succ, List.getElem_cons_zero, List.setIfInBounds_toArray, List.set_cons_zero, List.set_cons_succ]
                refine wpAnyH_take (i := 3) (v := ?_) rfl (by kernel_rfl) (by kernel_rfl) (by kernel_rfl) (fun _ _ _ h => h) (Or.inl ⟨by rfl, ?_⟩) hHeld ?_
                rotate_left
                · rintro w' ⟨hS0, hS1⟩
                  go_simp
                  try with_reducible rfl
                try simp only [Act.put, List.getElem_toArray, List.getElem_cons_succ, List.getElem_cons_zero, List.setIfInBounds_toArray, List.set_cons_zero, List.set_cons_succ]
                refine wpAnyH_take (i := 4) (v := ?_) rfl (by kernel_rfl) (by kernel_rfl) (by kernel_rfl) (fun _ _ _ h => h) (Or.inl ⟨by rfl, ?_⟩) hHeld ?_
                rotate_left
                · rintro w' ⟨hS0, hS1⟩
                  go_simp
                  try with_reducible rfl
                try simp only [Act.put, List.getElem_toArray, List.getElem_cons_succ, List.getElem_cons_zero, List.setIfInBounds_toArray, List.set_cons_zero, List.set_cons_succ]
                refine wpAnyH_take (i := 5) (v := ?_) rfl (by kernel_rfl) (by kernel_rfl) (by kernel_rfl) (fun _ _ _ h => h) (Or.inl ⟨by rfl, ?_⟩) hHeld ?_
                rotate_left
                · rintro w' ⟨hS0, hS1⟩
                  go_simp
                  try with_reducible rfl
                try simp only [Act.put, List.getElem_toArray, List.getElem_cons_succ, List.getElem_cons_zero, List.setIfInBounds_toArray, List.set_cons_zero, List.set_cons_succ]
                refine wpAnyH_take (i := 6) (v := ?_) rfl (by kernel_rfl) (by kernel_rfl) (by kernel_rfl) (fun _ _ _ h => h) (Or.inl ⟨by rfl, ?_⟩) hHeld ?_
                rotate_left
                · rintro w' ⟨hS0, hS1⟩
                  go_simp
                  try with_reducible rfl
                try simp only [Act.put, List.getElem_toArray, List.getElem_cons_succ, List.getElem_cons_zero, List.setIfInBounds_toArray, List.set_cons_zero, List.set_cons_succ]
                refine wpAnyH_take (i := 7) (v := ?_) rfl (by kernel_rfl) (by kernel_rfl) (by kernel_rfl) (fun _ _ _ h => h) (Or.inl ⟨by rfl, ?_⟩) hHeld ?_
                rotate_left
                · rintro w' ⟨hS0, hS1⟩
                  go_simp
                  try with_reducible rfl
                try simp only [Act.put, List.getElem_toArray, List.getElem_cons_succ, List.getElem_cons_zero, List.setIfInBounds_toArray, List.set_cons_zero, List.set_cons_succ]
                refine wpAnyH_take (i := 8) (v := ?_) rfl (by kernel_rfl) (by kernel_rfl) (by kernel_rfl) (fun _ _ _ h => h) (Or.inl ⟨by rfl, ?_⟩) hHeld ?_
                rotate_left
                · rintro w' ⟨hS0, hS1⟩
                  go_simp
                  try with_reducible rfl
                try simp only [Act.put, List.getElem_toArray, List.getElem_cons_succ, List.getElem_cons_zero, List.setIfInBounds_toArray, List.set_cons_zero, List.set_cons_succ]
                refine wpAnyH_ready (rs := [1, 9]) (by kernel_rfl) (by simp) ?_
                refine AllReadyH.cons rfl (fun K hK => ?_) (AllReadyH.cons rfl (fun K hK => ?_) AllReadyH.nil)
                · have zz := True.intro
                  have cD := (A2).d.2.2.2.2
                  go_simp
                  refine hK.out _ _ (HT.out _ (Below.refl _ _)) (fun hHeld => ?_)
                  clear hK K cD
                  try simp only [Act.put, List.getElem_toArray, List.getElem_cons_succ, List.getElem_cons_zero, List.setIfInBounds_toArray, List.set_cons_zero, List.set_cons_succ]
                  refine wpAnyH_ready (rs := [9]) (by kernel_rfl) (by simp) ?_
                  refine AllReadyH.cons rfl (fun K hK => ?_) AllReadyH.nil
                  go_simp
                  have hb4 := below_alloc w2 (.cells #[.int .i64 (sx.n : Int)] 3)
                  have A4 := (A2).below hb4
                  have hS4 := HT.out _ hb4
                  refine hK.out _ _ hS4 (fun hHeld => ?_)
                  clear hK K
                  try simp only [Act.put, List.getElem_toArray, List.getElem_cons_succ, List.getElem_cons_zero, List.setIfInBounds_toArray, List.set_cons_zero, List.set_cons_succ]
                  refine wpAnyH_ready (rs := [10]) (by kernel_rfl) (by simp) ?_
                  refine AllReadyH.cons rfl (fun K hK => ?_) AllReadyH.nil
                  have o1 := A4.o4
                  have hnl := cnD_len c j
                  have hXs := heap_lt A4.vd
                  have hq8 := HJT.out
                  refine step_append_at rfl (.tmp 108) (.tmp 116) 34 rfl (X + 1) 3 i0 (.int .i64 0) 1 8 Try.underlying34 hi0 hz0 hz1 hz2 rfl (by decide) _ _ _ rfl o1 ⟨w2.heap.size, 0, none⟩ 1 1 [.int .i64 (sx.n : Int)] rfl rfl (cells_lit w2 #[.int .i64 (sx.n : Int)] _) (by intro u hu; simp only [List.mem_cons, List.not_mem_nil, or_false] at hu; subst hu; rfl) (by unfold maxLen; omega) (by omega) (by omega) ?_
                  intro v6 w6 h6 hg6 hw6
                  obtain ⟨s6, rfl⟩ := own_slice h6
                  obtain ⟨vd6, A7⟩ := RkS.app4 A4 h6 hg6 hw6
                  obtain ⟨q0, q1, q2, q3, q4⟩ := row5 vd6
                  have fz6 : w6.frozen? ⟨X, 4, none⟩ = false := frozen_of_row w6 X 4 _ _ vd6
                  have hS6 := HTG.out _ _ hb4 hg6
                  refine hK.out _ _ hS6 (fun hHeld => ?_)
                  clear hK K
                  try simp only [Act.put, List.getElem_toArray, List.getElem_cons_succ, List.getElem_cons_zero, List.setIfInBounds_toArray, List.set_cons_zero, List.set_cons_succ]
                  refine wpAnyH_take (i := 11) (v := ?_) rfl (by kernel_rfl) (by kernel_rfl) (by kernel_rfl) (fun _ _ _ h => h) (Or.inl ⟨by rfl, ?_⟩) hHeld ?_
                  rotate_left
                  · rintro w' ⟨hS0, hS1⟩
                    go_simp
                    try with_reducible rfl
                  try simp only [Act.put, List.getElem_toArray, List.getElem_cons_succ, List.getElem_cons_zero, List.setIfInBounds_toArray, List.set_cons_zero, List.set_cons_succ]
                  refine wpAnyH_ready (rs := [12]) (by kernel_rfl) (by simp) ?_
                  refine AllReadyH.cons rfl (fun K hK => ?_) AllReadyH.nil
                  go_simp
                  refine hK.out _ _ (HTD.out _ hS6 _) (fun hHeld => ?_)
                  clear hK K
                  refine wpAnyH_done (by kernel_rfl) ?_ _
                  have H7 : Hid (RkS w c v X sch (.slice t0.a t0.n t0.c) (.slice t2.a t2.n t2.c) (.slice t3.a t3.n t3.c) (.slice s6.a s6.n s6.c) (ceilL c) (c.tasks.map (runP c)) (cntT c c.tasks.length) (cnD c (j + 1)) (w6.setCell ⟨X, 4, none⟩ (.slice s6.a s6.n s6.c))) := by
                    have h1 := A7
                    rw [HLX.out, ← cnD_succ HX2.out] at h1
                    exact h1
                  clear A7 A2 A4 hS6 hS4 h6 hg6 hw6 o1 vd6 q0 q1 q2 q3 q4 fz6 hb4 hHeld hnl hXs hq8
                  generalize w6.setCell ⟨X, 4, none⟩ (.slice s6.a s6.n s6.c) = w7 at *
                  go_wp2
                  go_roundw
                  case rel => exact ⟨j + 1, s6, by omega, by go_num, H7.out⟩
                  case measure => simp [intOf]; omega
                · have zz := True.intro
                  go_simp
                  have hb4 := below_alloc w2 (.cells #[.int .i64 (sx.n : Int)] 3)
                  have A4 := (A2).below hb4
                  have hS4 := HT.out _ hb4
                  refine hK.out _ _ hS4 (fun hHeld => ?_)
                  clear hK K
                  try simp only [Act.put, List.getElem_toArray, List.getElem_cons_succ, List.getElem_cons_zero, List.setIfInBounds_toArray, List.set_cons_zero, List.set_cons_succ]
                  refine wpAnyH_ready (rs := [1]) (by kernel_rfl) (by simp) ?_
                  refine AllReadyH.cons rfl (fun K hK => ?_) AllReadyH.nil
                  have cD := (A4).d.2.2.2.2
                  go_simp
                  refine hK.out _ _ (hS4) (fun hHeld => ?_)
                  clear hK K cD
                  try simp only [Act.put, List.getElem_toArray, List.getElem_cons_succ, List.getElem_cons_zero, List.setIfInBounds_toArray, List.set_cons_zero, List.set_cons_succ]
                  refine wpAnyH_ready (rs := [10]) (by kernel_rfl) (by simp) ?_
                  refine AllReadyH.cons rfl (fun K hK => ?_) AllReadyH.nil
                  have o1 := A4.o4
                  have hnl := cnD_len c j
                  have hXs := heap_lt A4.vd
                  have hq8 := HJT.out
                  refine step_append_at rfl (.tmp 108) (.tmp 116) 34 rfl (X + 1) 3 i0 (.int .i64 0) 1 8 Try.underlying34 hi0 hz0 hz1 hz2 rfl (by decide) _ _ _ rfl o1 ⟨w2.heap.size, 0, none⟩ 1 1 [.int .i64 (sx.n : Int)] rfl rfl (cells_lit w2 #[.int .i64 (sx.n : Int)] _) (by intro u hu; simp only [List.mem_cons, List.not_mem_nil, or_false] at hu; subst hu; rfl) (by unfold maxLen; omega) (by omega) (by omega) ?_
                  intro v6 w6 h6 hg6 hw6
                  obtain ⟨s6, rfl⟩ := own_slice h6
                  obtain ⟨vd6, A7⟩ := RkS.app4 A4 h6 hg6 hw6
                  obtain ⟨q0, q1, q2, q3, q4⟩ := row5 vd6
                  have fz6 : w6.frozen? ⟨X, 4, none⟩ = false := frozen_of_row w6 X 4 _ _ vd6
                  have hS6 := HTG.out _ _ hb4 hg6
                  refine hK.out _ _ hS6 (fun hHeld => ?_)
                  clear hK K
                  try simp only [Act.put, List.getElem_toArray, List.getElem_cons_succ, List.getElem_cons_zero, List.setIfInBounds_toArray, List.set_cons_zero, List.set_cons_succ]
                  refine wpAnyH_take (i := 11) (v := ?_) rfl (by kernel_rfl) (by kernel_rfl) (by kernel_rfl) (fun _ _ _ h => h) (Or.inl ⟨by rfl, ?_⟩) hHeld ?_
                  rotate_left
                  · rintro w' ⟨hS0, hS1⟩
                    go_simp
                    try with_reducible rfl
                  try simp only [Act.put, List.getElem_toArray, List.getElem_cons_succ, List.getElem_cons_zero, List.setIfInBounds_toArray, List.set_cons_zero, List.set_cons_succ]
                  refine wpAnyH_ready (rs := [12]) (by kernel_rfl) (by simp) ?_
                  refine AllReadyH.cons rfl (fun K hK => ?_) AllReadyH.nil
                  go_simp
                  refine hK.out _ _ (HTD.out _ hS6 _) (fun hHeld => ?_)
                  clear hK K
                  refine wpAnyH_done (by kernel_rfl) ?_ _
                  have H7 : Hid (RkS w c v X sch (.slice t0.a t0.n t0.c) (.slice t2.a t2.n t2.c) (.slice t3.a t3.n t3.c) (.slice s6.a s6.n s6.c) (ceilL c) (c.tasks.map (runP c)) (cntT c c.tasks.length) (cnD c (j + 1)) (w6.setCell ⟨X, 4, none⟩ (.slice s6.a s6.n s6.c))) := by
                    have h1 := A7
                    rw [HLX.out, ← cnD_succ HX2.out] at h1
                    exact h1
                  clear A7 A2 A4 hS6 hS4 h6 hg6 hw6 o1 vd6 q0 q1 q2 q3 q4 fz6 hb4 hHeld hnl hXs hq8
                  generalize w6.setCell ⟨X, 4, none⟩ (.slice s6.a s6.n s6.c) = w7 at *
                  go_wp2
                  go_roundw
                  case rel => exact ⟨j + 1, s6, by omega, by go_num, H7.out⟩
                  case measure => simp [intOf]; omega
              · obtain rfl : j = v.i.n := by omega
                have hlt' : ¬ ((v.i.n : Nat) : Int) < (v.i.n : Nat) := by omega
                have hVd := HJ.out.vd
                have hVr := HJ.out.vr
                have HJ2 : Hid (RkS w c v X sch (.slice t0.a t0.n t0.c) (.slice t2.a t2.n t2.c) (.slice t3.a t3.n t3.c) (.slice st.a st.n st.c) (ceilL c) (c.tasks.map (runP c)) (cntT c c.tasks.length) (cnD c v.i.n) wr) := HJ.out
                have hone : (#[.slice t0.a t0.n t0.c, I sch, .slice t2.a t2.n t2.c, .slice t3.a t3.n t3.c, .slice st.a st.n st.c] : Array Value).all (·.oneCell') = true := by simp [Value.oneCell']
                have hdz : (#[.slice t0.a t0.n t0.c, I sch, .slice t2.a t2.n t2.c, .slice t3.a t3.n t3.c, .slice st.a st.n st.c] : Array Value).size = 5 := rfl
                have hdy : ceZ.size = 5 := rfl
                clear HJ y11 y12 y9
                generalize hDD : (#[.slice t0.a t0.n t0.c, I sch, .slice t2.a t2.n t2.c, .slice t3.a t3.n t3.c, .slice st.a st.n st.c] : Array Value) = DD at *
                generalize ceZ = DZ at *
                rw [← hdz] at hi5
                go_wp2_with (first | (refine wpList_load_row rfl 36 _ rfl X rfl 36 _ (0, 0) _ hVd Try.underlying36 rfl hi5 ?_) | (refine wpList_store_row rfl 36 _ _ rfl (w.heap.size + 1) DD rfl rfl 36 _ hVr hi5 (by rw [hdy, hdz]) hone ?_))
                (try simp only [Exit.inBlock, Exit.then])
                have hv9 := setRow_heap wr (w.heap.size + 1) _ DD _ _ hVr
                have hf := HJ2.out.fin 0
                rw [hDD] at hf
                have ec : cnD c v.i.n = cntI c c.isrs.length := by rw [HNI.out]; exact cnt_same HE.out.symm
                rw [ec] at hf
                rw [← HX.out] at hf
                subst hDD
                refine bodyPost_ret (res_ce Try.results16 _ (w.heap.size + 1) _ _ _ _ _ _ _ rfl rfl hv9) rfl ?_
                exact hf
  · have HX : Hid (rckX c = ⟨[], 0, [], [], []⟩) := by show _ = _; unfold rckX; rw [if_neg (by rw [← HE.out]; exact hE0)]
    have hE1 : (E != 0) = true := by simpa using hE0
    clear h hE
    generalize hCC : cfC c v = C at *
    clear hb2 hV1
    go_enter Try.func16, Try.ntmps16
    go_upto_region 3 with (first | (refine wpList_load_row rfl 33 _ rfl w.heap.size rfl 33 _ (0, 0) _ hV0 Try.underlying33 rfl hi18 ?_) | (go_at_call 17; refine krf.mono ?_; rintro e w1 ⟨rfl, hb1⟩; have HA1 : Hid (RkA w c v none none w1) := HA0.out.below hb1; clear krf hb1 HA0 hV0))
    have vr := HA1.out.vr
    obtain ⟨r0, r1, r2, r3, r4⟩ := row5 vr
    have fz := fun i => frozen_of_row w1 (w.heap.size + 1) i _ _ vr
    go_wp2
    (try simp only [Exit.inBlock, Exit.then])
    refine bodyPost_ret (res_ce Try.results16 _ (w.heap.size + 1) _ _ _ _ _ _ _ rfl rfl (set5_at _ _ _ _ _ _ _ _ _ _ _ _ _ vr)) rfl ?_
    exact rck_nil HX.out rfl (HA1.out.b.grown (grown_set5 w1 (w.heap.size + 1) _ _ _ _ _) HA1.out.b.size (fun k e => by cases e; omega))
end Go.Proofs.Ytapfbinaocaclaa

