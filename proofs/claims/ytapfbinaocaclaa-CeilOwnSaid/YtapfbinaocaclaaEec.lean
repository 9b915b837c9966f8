import Derived.Test.YtapfbinaocaclaaEeb
namespace Go.Proofs.Ytapfbinaocaclaa
open Go.RowKit Go.Sort
set_option linter.unusedVariables false
set_option linter.unusedSimpArgs false

/-! ### The document's scheduler and rising -/
theorem schT_nil {c : Cf} (h : c.tasks.length = 0) : schE c = -1 := by
  unfold schE schT
  rw [h]
  rfl
set_option maxHeartbeats 4000000 in
set_option maxRecDepth 100000 in
theorem rscheduler_any (w : World) (c : Cf) (v : Vs) (h : CfAt w c v) : Calls Try.prog 37 #[.agg (cfC c v)] w fun e w' => e = .returned (I (schE c)) ∧ Below w.heap.size w w' := by
  have HN : Hid (v.t.n = c.tasks.length) := h.t.n
  have hct : v.t.n ≤ v.t.c := h.t.c
  have hmt : v.t.c ≤ maxLen := h.t.m
  unfold maxLen at hmt
  have hb := below_alloc w
  have f11 : ∀ h : 11 < (cfC c v).size, (cfC c v)[11] = .slice v.t.a v.t.n v.t.c := fun _ => rfl
  have hs18 : (cfC c v).size = 18 := rfl
  generalize cfC c v = C at *
  replace f11 := f11 (by omega)
  by_cases h0 : v.t.n = 0
  · have HE : Hid (schE c = -1) := schT_nil (by rw [← HN.out, h0])
    have h0' : (v.t.n : Int) = 0 := by omega
    clear h
    go_enter Try.func37, Try.ntmps37
    go_wp2
    go_ret
    exact ⟨ret_int HE.out.symm, hb _⟩
  · have h0' : ¬ (v.t.n : Int) = 0 := by omega
    have hlt0 : (0 : Int) < v.t.n := by omega
    obtain ⟨x0, hx0⟩ : ∃ x, c.tasks[0]? = some x := ⟨_, List.getElem?_eq_getElem (by rw [← HN.out]; omega)⟩
    obtain ⟨g, off, s4, s5, s6, s7, e, hg, a0, a1, a2, a3, a4, a5, a6, a7, r4, r5, r6, r7⟩ := tk_at h hx0
    have hne : g ≠ w.heap.size := by omega
    have HX0 : Hid (c.tasks[0]? = some x0) := hx0
    have HH : Hid (CfAt w c v) := h
    have b1 : w.cell? ⟨g, off + 1, none⟩ = some (I x0.prio) := a1
    clear h hx0 r4 r5 r6 r7 a0 a2 a3 a4 a5 a6 a7 a1
    rw [e] at f11
    go_enter Try.func37, Try.ntmps37
    go_wp2
    go_loop [3, 4] (fun tv iv => ∃ (j : Nat) (t : Int), j ≤ v.t.n ∧ iv = .int .i64 j ∧ tv = .int .i64 t ∧ Hid ((j = 0 ∧ t = x0.prio) ∨ schT c j = some t)) (fun _ iv => v.t.n - (intOf iv).toNat)
    case atStart => exact ⟨0, x0.prio, by omega, rfl, rfl, .inl ⟨rfl, rfl⟩⟩
    case round =>
      obtain ⟨j, t, hj, rfl, rfl, HJ⟩ := hrel
      by_cases hlt : j < v.t.n
      · have hlt' : (j : Int) < v.t.n := by omega
        obtain ⟨x, hx⟩ : ∃ x, c.tasks[j]? = some x := ⟨_, List.getElem?_eq_getElem (by rw [← HN.out]; exact hlt)⟩
        obtain ⟨g', off', s4, s5, s6, s7, e', hg', a0, a1, a2, a3, a4, a5, a6, a7, r4, r5, r6, r7⟩ := tk_at HH.out hx
        obtain ⟨rfl, rfl⟩ : g = g' ∧ off = off' := by rw [e] at e'; cases e'; exact ⟨rfl, rfl⟩
        have HS : Hid (schT c (j + 1) = some (max x.prio t)) := by
          show _ = _
          rw [schT_succ hx]
          rcases HJ.out with ⟨rfl, rfl⟩ | hs
          · have := HX0.out
            rw [hx] at this
            cases this
            show some x0.prio = some _
            congr 1; omega
          · rw [hs]; rfl
        clear hx r4 r5 r6 r7 a0 a2 a3 a4 a5 a6 a7 e' HJ
        by_cases hp : x.prio > t
        · have HS2 : Hid (schT c (j + 1) = some x.prio) := by show _ = _; rw [HS.out]; congr 1; omega
          clear HS
          go_wp2
          go_round
          case rel => exact ⟨j + 1, x.prio, by omega, by go_num, rfl, .inr HS2.out⟩
          case measure => simp [intOf]; omega
        · have HS2 : Hid (schT c (j + 1) = some t) := by show _ = _; rw [HS.out]; congr 1; omega
          clear HS
          go_wp2
          go_round
          case rel => exact ⟨j + 1, t, by omega, by go_num, rfl, .inr HS2.out⟩
          case measure => simp [intOf]; omega
      · obtain rfl : j = v.t.n := by omega
        have hlt' : ¬ ((v.t.n : Nat) : Int) < (v.t.n : Nat) := by omega
        have HE : Hid (schE c = t) := by
          show _ = _
          rcases HJ.out with ⟨h1, _⟩ | hs
          · exact absurd h1 h0
          · unfold schE; rw [← HN.out, hs]; rfl
        clear HJ
        go_wp2
        go_ret
        exact ⟨ret_int HE.out.symm, hb _⟩
set_option maxHeartbeats 4000000 in
set_option maxRecDepth 100000 in
theorem rrising_any (w : World) (c : Cf) (v : Vs) (hC : CfAt w c v) (s : Sl) (l : List Int) (h : RowsAt w 1 intP s l) : Calls Try.prog 57 #[.agg (cfC c v), .slice s.a s.n s.c] w fun e w' => Ans w (risF (-1) l c.ress.length) e w' := by
  obtain ⟨sa, sn, sc⟩ := s
  have HN : Hid (sn = l.length) := h.n
  have hc : sn ≤ sc := h.c
  have hm : sc ≤ maxLen := h.m
  dsimp only
  unfold maxLen at hm
  have HNR : Hid (v.r.n = c.ress.length) := hC.r.n
  have hcr : v.r.n ≤ v.r.c := hC.r.c
  have hmr : v.r.c ≤ maxLen := hC.r.m
  unfold maxLen at hmr
  have hV0 := heap_alloc_new w (.cells (cfC c v) 33)
  have hb := below_alloc w (.cells (cfC c v) 33)
  have hcv : ∀ W : World, W.heap[w.heap.size]? = some (.cells (cfC c v) 33 (0, 0)) → W.cell? ⟨w.heap.size, 12, none⟩ = some (.slice v.r.a v.r.n v.r.c) := fun W hW => by
    obtain ⟨_, h10, h11, h12, h13, h14, h15, h16, h17⟩ := var18_all hW
    exact h12
  generalize cfC c v = C at *
  have HF : Hid (∀ W, Below (w.alloc (.cells C 33)).heap.size (w.alloc (.cells C 33)) W → W.cell? ⟨w.heap.size, 12, none⟩ = some (.slice v.r.a v.r.n v.r.c) ∧ Below w.heap.size w W) := fun W hW => by
    have hVW := (hW.block _ (heap_lt hV0)).trans hV0
    exact ⟨hcv W hVW, hb.trans (hW.mono hb.size)⟩
  have HH : Hid (RowsAt w 1 intP ⟨sa, sn, sc⟩ l) := h
  clear hcv hV0 hb h hC
  go_enter Try.func57, Try.ntmps57
  go_wp2
  generalize w.alloc (.cells C 33) = W0 at *
  go_loopw [5] (fun i wr => ∃ (j : Nat) (a : Int), j ≤ sn ∧ i = .int .i64 j ∧ Hid (Below W0.heap.size W0 wr ∧ risF (-1) l c.ress.length = risF a (l.drop j) c.ress.length ∧ ((j = 0 ∧ a = -1) ∨ (0 < j ∧ l[j - 1]? = some a)))) (fun i _ => sn - (intOf i).toNat)
  case atStart => exact ⟨0, -1, by omega, rfl, Below.refl _ _, rfl, .inl ⟨rfl, rfl⟩⟩
  case round =>
    obtain ⟨j, a, hj, rfl, HJ⟩ := hrel
    obtain ⟨hB0, hR, hA⟩ := HJ.out
    obtain ⟨y12, hB⟩ := HF.out _ hB0
    have HB0 : Hid (Below W0.heap.size W0 wr) := hB0
    have HR : Hid (risF (-1) l c.ress.length = risF a (l.drop j) c.ress.length) := hR
    clear HJ hR hB0
    by_cases hlt : j < sn
    · have hlt' : (j : Int) < sn := by omega
      have hjl : j < l.length := by rw [← HN.out]; exact hlt
      obtain ⟨x, hx⟩ : ∃ x, l[j]? = some x := ⟨l[j], List.getElem?_eq_getElem hjl⟩
      obtain ⟨g, off, e, hg, hcx⟩ := ints_at (HH.out.below hB (fun _ _ _ _ h => h)) hx
      dsimp only at e
      subst e
      have HE : Hid (risF (-1) l c.ress.length = (isId x c.ress.length && decide (a < x) && risF x (l.drop (j + 1)) c.ress.length)) := by
        show _ = _
        rw [HR.out, List.drop_eq_getElem_cons hjl, risF]
        rw [List.getElem?_eq_getElem hjl] at hx
        rw [Option.some.inj hx]
      have HA2 : Hid (l[j + 1 - 1]? = some x) := hx
      clear hjl HR
      by_cases h0 : x < 0
      · have HF : Hid (risF (-1) l c.ress.length = false) := by show _ = _; rw [HE.out, isId, decide_eq_false (show ¬ 0 ≤ x by omega)]; rfl
        clear HE hA hx
        go_wp2
        go_quiet (fail)
        go_wp2
        go_ret
        exact ⟨ret_bool HF.out.symm, below_drewN hB _⟩
      · have h0x : Hid (0 ≤ x) := by show _ ≤ _; omega
        by_cases h1 : (v.r.n : Int) ≤ x
        · have HF : Hid (risF (-1) l c.ress.length = false) := by show _ = _; rw [HE.out, isId, decide_eq_false (show ¬ x < c.ress.length by rw [← HNR.out]; omega), Bool.and_false]; rfl
          clear HE hA hx
          go_wp2
          have d0 : ¬ x < 0 := by omega
          go_quiet (fail)
          go_wp2
          go_ret
          exact ⟨ret_bool HF.out.symm, below_drewN hB _⟩
        · have HE1 : Hid (risF (-1) l c.ress.length = (decide (a < x) && risF x (l.drop (j + 1)) c.ress.length)) := by show _ = _; rw [HE.out, isId, decide_eq_true h0x.out, decide_eq_true (show x < c.ress.length by rw [← HNR.out]; omega)]; rfl
          clear HE
          rcases hA with ⟨rfl, rfl⟩ | ⟨hj0, hA⟩
          · have hcx0 : wr.cell? ⟨g, off, none⟩ = some (I x) := hcx
            have hl0 : (0 : Int) < sn := by omega
            have HG : Hid (risF (-1) l c.ress.length = risF x (l.drop (0 + 1)) c.ress.length) := by show _ = _; rw [HE1.out, decide_eq_true (by omega)]; rfl
            clear HE1 hx
            go_wp2
            have d0 : ¬ x < 0 := by omega
            have d1 : ¬ (v.r.n : Int) ≤ x := by omega
            go_quiet (fail)
            go_wp2
            go_roundw
            case rel => exact ⟨_ + 1, x, by omega, by go_num, below_drewN HB0.out _, HG.out, .inr ⟨by omega, HA2.out⟩⟩
            case measure => simp [intOf]; omega
          · obtain ⟨k, rfl⟩ : ∃ k, j = k + 1 := ⟨j - 1, by omega⟩
            obtain ⟨g', off', e', hg', hcy⟩ := ints_at (HH.out.below hB (fun _ _ _ _ h => h)) (show l[k]? = some a from hA)
            dsimp only at e'
            obtain ⟨rfl, rfl⟩ : g = g' ∧ off = off' := by cases e'; exact ⟨rfl, rfl⟩
            have hk0 : (0 : Int) ≤ k := by omega
            by_cases hax : x ≤ a
            · have HF : Hid (risF (-1) l c.ress.length = false) := by show _ = _; rw [HE1.out, decide_eq_false (by omega)]; rfl
              clear HE1 hx hA e'
              go_wp2
              have d0 : ¬ x < 0 := by omega
              have d1 : ¬ (v.r.n : Int) ≤ x := by omega
              have d2 : (0 : Int) < (k : Int) + 1 := by omega
              have d3 : x ≤ a := by omega
              go_quiet (fail)
              go_wp2
              go_ret
              exact ⟨ret_bool HF.out.symm, below_drewN hB _⟩
            · have HG : Hid (risF (-1) l c.ress.length = risF x (l.drop (k + 1 + 1)) c.ress.length) := by show _ = _; rw [HE1.out, decide_eq_true (by omega)]; rfl
              clear HE1 hx hA e'
              go_wp2
              have d0 : ¬ x < 0 := by omega
              have d1 : ¬ (v.r.n : Int) ≤ x := by omega
              have d2 : (0 : Int) < (k : Int) + 1 := by omega
              have d3 : ¬ x ≤ a := by omega
              go_quiet (fail)
              go_wp2
              go_roundw
              case rel => exact ⟨_ + 1, x, by omega, by go_num, below_drewN HB0.out _, HG.out, .inr ⟨by omega, HA2.out⟩⟩
              case measure => simp [intOf]; omega
    · obtain rfl : j = sn := by omega
      have hlt' : ¬ (j : Int) < j := by omega
      have HF : Hid (risF (-1) l c.ress.length = true) := by show _ = _; rw [HR.out, List.drop_eq_nil_of_le (by rw [← HN.out]; exact Nat.le_refl _), risF]
      clear hA
      go_wp2
      go_ret
      exact ⟨ret_bool HF.out.symm, hB⟩
end Go.Proofs.Ytapfbinaocaclaa
