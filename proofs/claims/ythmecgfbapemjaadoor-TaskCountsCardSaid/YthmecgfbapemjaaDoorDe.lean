import Derived.Test.YthmecgfbapemjaaDoorDd
namespace Go.Proofs.YthmecgfbapemjaaDoor
open Go.RowKit Go.Shelf Go.Sort
set_option linter.unusedVariables false
set_option linter.unusedSimpArgs false

/-! ### What is told -/
theorem iinfo : (Tryd.prog.info? 3).map (fun i => (i.zero, i.size, i.bytes)) = some (some (.int .i64 0), 1, 8) := by kernel_rfl
theorem cell_one_new (w : World) (v : Value) (t : TypeId) : ∀ (j : Nat) (u : Value), [v][j]? = some u → (w.alloc (.cells #[v] t)).cell? ((⟨w.heap.size, 0, none⟩ : Addr).add j) = some u := by
  intro j u hu
  match j, hu with
  | 0, hu => cases hu; rw [addr_add]; rw [cell_of_row _ _ _ _ _ (0, 0) (heap_alloc_new w _)]; rfl
section
variable {w w' : World} {B : Nat} {v u : Value} {rs : List Rw} {ss : List Sd}
set_option maxHeartbeats 2000000 in
set_option maxRecDepth 100000 in
theorem Running_any (h : Ck w B v u rs ss) : Calls Tryd.prog 13 #[cP B] w fun e w' => e = .returned (I (runI ss)) ∧ Below w.heap.size w w' := by
  have hN := none_any h
  have HH : Hid (Ck w B v u rs ss) := h
  obtain ⟨c0, c1, c2⟩ := h.cells
  obtain ⟨a, cc, rfl⟩ := own_sl h.q
  have hl : ss.length ≤ 256 := by have := h.n; have := h.m; omega
  have HI : Hid (Below w.heap.size w w ∧ ∀ (j : Nat) (y : Sd), j < 0 → ss[j]? = some y → y.1 ≠ 0) := ⟨Below.refl _ _, fun j y hj => absurd hj (by omega)⟩
  clear h
  go_enter Tryd.func13, Tryd.ntmps13
  go_wp2_with (first | (go_at_call 32; refine hN.mono ?_; clear hN; rintro e w1 ⟨rfl, rfl⟩))
  go_loopw [3, 4, 12] (fun _ _ v12 wr => ∃ k : Nat, k ≤ ss.length ∧ v12 = I k ∧ Hid (Below w.heap.size w wr ∧ ∀ (j : Nat) (y : Sd), j < k → ss[j]? = some y → y.1 ≠ 0)) (fun _ _ v12 _ => ss.length - (intOf v12).toNat)
  case atStart => exact ⟨0, by omega, rfl, HI.out⟩
  case round =>
    clear HI
    obtain ⟨k, hk, rfl, HJ⟩ := hrel
    by_cases hlt : k < ss.length
    · have hltI : (k : Int) < ss.length := by omega
      obtain ⟨x, hx⟩ : ∃ x, ss[k]? = some x := ⟨_, List.getElem?_eq_getElem hlt⟩
      obtain ⟨r, hr⟩ : ∃ r, rs[k]? = some r := ⟨_, List.getElem?_eq_getElem (by have := HH.out.n; omega)⟩
      obtain ⟨g, c, g2, cc2, e1, e2, -, -, q3, q4, -⟩ := (HH.out.below HJ.out.1).at hr hx
      cases e2
      have HB : Hid (∀ o, Below w.heap.size w (wr.alloc o)) := fun o => HJ.out.1.trans ((below_alloc wr o).mono HJ.out.1.size)
      by_cases h0 : x.1 = 0
      · have HR : Hid (runI ss = (k : Int)) := by
          have := runF_at ss 0 k x hx h0 HJ.out.2
          show runI ss = _
          rw [runI, this]
          simp
        rw [h0] at q3
        clear HJ h0 hx hr
        go_wp2
        go_ret
        exact ⟨ret_int HR.out.symm, HB.out _⟩
      · have hne : ((x.1 : Int) == 0) = false := beq_eq_false_iff_ne.2 (by omega)
        have HN : Hid (∀ (j : Nat) (y : Sd), j < k + 1 → ss[j]? = some y → y.1 ≠ 0) := fun j y hj hy => by
          by_cases e : j = k
          · subst e; rw [hx] at hy; cases hy; exact h0
          · exact HJ.out.2 j y (by omega) hy
        have h0I : ¬ ((x.1 : Int) = 0) := by omega
        clear HJ h0 hx hr
        go_wp2
        go_roundw
        case rel => exact ⟨k + 1, by omega, by go_num, HB.out _, HN.out⟩
        case measure => simp [intOf]; omega
    · obtain rfl : k = ss.length := by omega
      have hge : ¬ ((ss.length : Int) < ss.length) := by omega
      have HR : Hid (runI ss = -1) := runF_no ss 0 (fun j y hy => HJ.out.2 j y (List.getElem?_eq_some_iff.1 hy).1 hy)
      go_wp2
      go_ret
      exact ⟨ret_int HR.out.symm, HJ.out.1⟩
theorem State_any (h : Ck w B v u rs ss) (t : Int) : Calls Tryd.prog 15 #[cP B, I t] w fun e w' => e = .returned (.tuple #[I (staS rs.length ss t), I (eidS rs.length t)]) ∧ w = w' := by
  have hH := has_any h t
  obtain ⟨c0, c1, c2⟩ := h.cells
  unfold staS eidS
  rcases has_cases h.n t with ⟨h0, _⟩ | ⟨k, r, x, rfl, hk, hr, hx⟩
  · rw [h0] at hH ⊢
    go_enter Tryd.func15, Tryd.ntmps15
    go_wp2_with (first | (go_at_call 30; refine hH.mono ?_; clear hH; rintro e w1 ⟨rfl, rfl⟩))
    go_ret2
    exact ⟨rfl, rfl⟩
  · rw [hasB_at hk] at hH ⊢
    rw [sdA_at hx, if_pos rfl, if_pos rfl]
    have hkI : (k : Int) < ss.length := by have := h.n; omega
    obtain ⟨g, c, g2, cc2, rfl, rfl, q1, q2, q3, q4, q5⟩ := h.at hr hx
    go_enter Tryd.func15, Tryd.ntmps15
    go_wp2_with (first | (go_at_call 30; refine hH.mono ?_; clear hH; rintro e w1 ⟨rfl, rfl⟩))
    go_ret2
    exact ⟨rfl, rfl⟩
theorem Active_any (h : Ck w B v u rs ss) (t : Int) : Calls Tryd.prog 19 #[cP B, I t] w fun e w' => e = .returned (I (actN rs.length ss t)) ∧ w = w' := by
  have hH := has_any h t
  obtain ⟨c0, c1, c2⟩ := h.cells
  unfold actN
  rcases has_cases h.n t with ⟨h0, _⟩ | ⟨k, r, x, rfl, hk, hr, hx⟩
  · rw [h0] at hH ⊢
    go_enter Tryd.func19, Tryd.ntmps19
    go_wp2_with (first | (go_at_call 30; refine hH.mono ?_; clear hH; rintro e w1 ⟨rfl, rfl⟩))
    go_ret
    exact ⟨rfl, rfl⟩
  · rw [hasB_at hk] at hH ⊢
    rw [sdA_at hx, if_pos rfl]
    have hkI : (k : Int) < ss.length := by have := h.n; omega
    obtain ⟨g, c, g2, cc2, rfl, rfl, q1, q2, q3, q4, q5⟩ := h.at hr hx
    go_enter Tryd.func19, Tryd.ntmps19
    go_wp2_with (first | (go_at_call 30; refine hH.mono ?_; clear hH; rintro e w1 ⟨rfl, rfl⟩))
    go_ret
    exact ⟨rfl, rfl⟩
set_option maxHeartbeats 4000000 in
set_option maxRecDepth 100000 in
theorem Those_any (h : Ck w B v u rs ss) (s : Int) : Calls Tryd.prog 21 #[cP B, I s] w fun e w' => ∃ a c, e = .returned (.slice a (thF s 0 ss).length c) ∧ w'.ownsRow w.heap.size 3 1 (.slice a (thF s 0 ss).length c) (thF s 0 ss).length (inL (thF s 0 ss)) ∧ Below w.heap.size w w' := by
  obtain ⟨i0, hi0, hz0, hz1, hz2⟩ := info_parts iinfo
  have hN := none_any h
  have HH : Hid (Ck w B v u rs ss) := h
  obtain ⟨c0, c1, c2⟩ := h.cells
  obtain ⟨a, cc, rfl⟩ := own_sl h.q
  have hl : ss.length ≤ 256 := by have := h.n; have := h.m; omega
  have HI : Hid (w.ownsRow w.heap.size 3 1 (.slice none 0 0) (thF s 0 (ss.take 0)).length (inL (thF s 0 (ss.take 0))) ∧ Below w.heap.size w w) := ⟨by simpa [thF, inL] using World.ownsRow_nil w _ _ _, Below.refl _ _⟩
  clear h
  go_enter Tryd.func21, Tryd.ntmps21
  go_wp2_with (first | (go_at_call 32; refine hN.mono ?_; clear hN; rintro e w1 ⟨rfl, rfl⟩))
  go_loopw [5, 6, 7, 15] (fun v5 _ _ v15 wr => ∃ k : Nat, k ≤ ss.length ∧ v15 = I k ∧ Hid (wr.ownsRow w.heap.size 3 1 v5 (thF s 0 (ss.take k)).length (inL (thF s 0 (ss.take k))) ∧ Below w.heap.size w wr)) (fun _ _ _ v15 _ => ss.length - (intOf v15).toNat)
  case atStart => exact ⟨0, by omega, rfl, HI.out⟩
  case round =>
    clear HI
    obtain ⟨k, hk, rfl, HJ⟩ := hrel
    by_cases hlt : k < ss.length
    · have hltI : (k : Int) < ss.length := by omega
      obtain ⟨x, hx⟩ : ∃ x, ss[k]? = some x := ⟨_, List.getElem?_eq_getElem hlt⟩
      obtain ⟨r, hr⟩ : ∃ r, rs[k]? = some r := ⟨_, List.getElem?_eq_getElem (by have := HH.out.n; omega)⟩
      obtain ⟨g, c, g2, cc2, e1, e2, -, -, q3, q4, -⟩ := (HH.out.below HJ.out.2).at hr hx
      cases e2
      have HB : Hid (∀ o, Below w.heap.size w (wr.alloc o)) := fun o => HJ.out.2.trans ((below_alloc wr o).mono HJ.out.2.size)
      have HD : Hid (thF s 0 (ss.take (k + 1)) = thF s 0 (ss.take k) ++ (if (x.1 : Int) = s then [k] else [])) := by
        show _ = _
        rw [take_snoc hx, thF_snoc, List.length_take, show min k ss.length = k by omega, Nat.zero_add]
      have hlen : (thF s 0 (ss.take k)).length ≤ 256 := by
        have := thF_len s (ss.take k) 0
        rw [List.length_take] at this
        omega
      by_cases h0 : (x.1 : Int) = s
      · have h0b : ((x.1 : Int) == s) = true := by simpa using h0
        have HD2 : Hid (thF s 0 (ss.take (k + 1)) = thF s 0 (ss.take k) ++ [k]) := by show _ = _; rw [HD.out, if_pos h0]
        have hW : w.heap.size ≤ wr.heap.size := HJ.out.2.size
        have hc1 : ∀ (j : Nat) (z : Value), [I (k : Int)][j]? = some z → ((wr.alloc (.cells #[I x.1, I x.2] 71)).alloc (.cells #[I (k : Int)] 3)).cell? ((⟨wr.heap.size + 1, 0, none⟩ : Addr).add j) = some z := by
          have := cell_one_new (wr.alloc (.cells #[I x.1, I x.2] 71)) (I (k : Int)) 3
          simpa using this
        have hO2 : ((wr.alloc (.cells #[I x.1, I x.2] 71)).alloc (.cells #[I (k : Int)] 3)).ownsRow w.heap.size 3 1 u5 (thF s 0 (ss.take k)).length (inL (thF s 0 (ss.take k))) := (HJ.out.1.alloc _).alloc _
        have H1 : Hid (wr.ownsRow w.heap.size 3 1 u5 (thF s 0 (ss.take k)).length (inL (thF s 0 (ss.take k)))) := HJ.out.1
        rw [h0] at q3 hO2 hc1
        clear HJ h0 hx hr HD h0b
        go_wp2_with (first
          | (at_builtin; refine wpList_append_own _ rfl (.tmp 24) (.tmp 26) 46 rfl w.heap.size 3 i0 (.int .i64 0) 1 8 Tryd.underlying46 hi0 hz0 hz1 hz2 rfl (by decide) _ _ _ rfl hO2 ⟨wr.heap.size + 1, 0, none⟩ 1 1 [I (k : Int)] rfl rfl hc1 (by intro u hu; simp at hu; subst hu; rfl) (by unfold maxLen; omega) (by omega) (by simp; omega) ?_))
        intro v6 w6 ho6 hg6 _
        have f6 : Below w.heap.size w w6 := (HB.out (.cells #[I s, I x.2] 71)).trans (((below_alloc _ _).mono (HB.out _).size).trans (Fz.below (M := fun b => u5.ownBlock = some b) ⟨hg6.os, hg6.tape, hg6.output, hg6.size, fun i hi hne => hg6.block i hi (fun e => hne e.symm)⟩ (by simp; omega) (fun b e => (H1.out.lt b e).1)))
        have H6 : Hid (w6.ownsRow w.heap.size 3 1 v6 (thF s 0 (ss.take (k + 1))).length (inL (thF s 0 (ss.take (k + 1)))) ∧ Below w.heap.size w w6) := by
          refine ⟨?_, f6⟩
          rw [HD2.out, List.length_append]
          unfold inL
          rw [List.map_append]
          exact ho6
        clear ho6 hg6 f6 hO2 H1 HD2 hc1
        go_wp2
        go_roundw
        case rel => exact ⟨k + 1, by omega, by go_num, H6.out⟩
        case measure => simp [intOf]; omega
      · have h0b : ((x.1 : Int) == s) = false := by simpa using h0
        have HD2 : Hid (thF s 0 (ss.take (k + 1)) = thF s 0 (ss.take k)) := by show _ = _; rw [HD.out, if_neg h0]; simp
        clear HD hx hr
        go_wp2
        go_roundw
        case rel => exact ⟨k + 1, by omega, by go_num, by rw [HD2.out]; exact HJ.out.1.alloc _, HB.out _⟩
        case measure => simp [intOf]; omega
    · obtain rfl : k = ss.length := by omega
      have hge : ¬ ((ss.length : Int) < ss.length) := by omega
      obtain ⟨a5, c5, e5⟩ := own_sl HJ.out.1
      have H9 := HJ.out
      rw [List.take_length] at H9 e5
      subst e5
      have H9' : Hid (wr.ownsRow w.heap.size 3 1 (.slice a5 (thF s 0 ss).length c5) (thF s 0 ss).length (inL (thF s 0 ss)) ∧ Below w.heap.size w wr) := H9
      clear HJ H9
      go_wp2
      go_ret
      exact ⟨_, _, rfl, H9'.out.1, H9'.out.2⟩
end
end Go.Proofs.YthmecgfbapemjaaDoor
