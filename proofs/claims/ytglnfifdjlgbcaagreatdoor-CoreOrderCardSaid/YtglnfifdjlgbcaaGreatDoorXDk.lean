import Derived.Test.YtglnfifdjlgbcaaGreatDoorXDi
namespace Go.Proofs.YtglnfifdjlgbcaaGreatDoor.Tk
open Go.RowKit Go.Shelf Go.Sort
set_option linter.unusedVariables false
set_option linter.unusedSimpArgs false

/-! ### New, Copy -/
set_option maxHeartbeats 2000000 in
set_option maxRecDepth 100000 in
theorem New_no {w : World} {v : Value} {rs : List Rw} (h : Src w 2 v rs.length (flR rs)) (hm : mayN rs = false) (hl : rs.length ≤ 9007199254740992) : Calls Tryz.prog 30 #[v] w fun e w' => e = .returned (.tuple #[.pointer none, I 182]) ∧ Below w.heap.size w w' := by
  by_cases h0 : rs.length ≤ 256
  · have HA : Hid (∃ (k : Nat) (r : Rw), rs[k]? = some r ∧ mayR r = false) := by
      rw [mayN, show decide (rs.length ≤ 256) = true by simpa using h0, Bool.true_and] at hm
      have := List.all_eq_false.1 hm
      obtain ⟨x, hx, h2⟩ := this
      obtain ⟨k, hk⟩ := List.getElem?_of_mem hx
      exact ⟨k, x, hk, by simpa using h2⟩
    have HH : Hid (Src w 2 v rs.length (flR rs)) := h
    have hnI : ¬ ((256 : Int) < rs.length) := by omega
    obtain ⟨a, c, rfl⟩ := h.sl
    have HI : Hid (Below w.heap.size w w ∧ ∀ (j : Nat) (y : Rw), j < 0 → rs[j]? = some y → mayR y = true) := ⟨Below.refl _ _, fun j y hj => absurd hj (by omega)⟩
    clear h hm
    go_enter Tryz.func30, Tryz.ntmps30
    go_wp2
    go_loopw [5, 12] (fun _ v12 wr => ∃ k : Nat, k ≤ rs.length ∧ v12 = I k ∧ Hid (Below w.heap.size w wr ∧ ∀ (j : Nat) (y : Rw), j < k → rs[j]? = some y → mayR y = true)) (fun _ v12 _ => rs.length - (intOf v12).toNat)
    case atStart => exact ⟨0, by omega, rfl, HI.out⟩
    case round =>
      clear HI
      obtain ⟨k, hk, rfl, HJ⟩ := hrel
      by_cases hlt : k < rs.length
      · have hltI : (k : Int) < rs.length := by omega
        obtain ⟨x, hx⟩ : ∃ x, rs[k]? = some x := ⟨_, List.getElem?_eq_getElem hlt⟩
        obtain ⟨g, off, c2, e1, q1, q2⟩ := (HH.out.up HJ.out.1).at hx
        cases e1
        have HB : Hid (∀ o, Below w.heap.size w (wr.alloc o)) := fun o => HJ.out.1.trans ((below_alloc wr o).mono HJ.out.1.size)
        have hM := fun o => mayBe_any (wr.alloc o) x
        have z0 : (wr.alloc (.cells #[I x.1, .bool x.2] 167)).cell? ⟨wr.heap.size, 0, none⟩ = some (I x.1) := by rw [cell_of_row _ _ _ _ _ (0, 0) (heap_alloc_new wr _)]; rfl
        have z1 : (wr.alloc (.cells #[I x.1, .bool x.2] 167)).cell? ⟨wr.heap.size, 1, none⟩ = some (.bool x.2) := by rw [cell_of_row _ _ _ _ _ (0, 0) (heap_alloc_new wr _)]; rfl
        cases hv : mayR x with
        | false =>
          rw [hv] at hM
          clear HJ hx hv
          go_wp2_with (first | (go_at_call 104; refine (hM _).mono ?_; clear hM; rintro e w2 ⟨rfl, b2⟩; have H2 : Hid (Below w.heap.size w w2) := (HB.out _).trans (b2.mono (HB.out _).size); clear b2))
          go_ret2
          exact ⟨rfl, H2.out⟩
        | true =>
          rw [hv] at hM
          have HN : Hid (∀ (j : Nat) (y : Rw), j < k + 1 → rs[j]? = some y → mayR y = true) := fun j y hj hy => by
            by_cases e : j = k
            · subst e; rw [hx] at hy; cases hy; exact hv
            · exact HJ.out.2 j y (by omega) hy
          clear HJ hx hv
          go_wp2_with (first | (go_at_call 104; refine (hM _).mono ?_; clear hM; rintro e w2 ⟨rfl, b2⟩; have H2 : Hid (Below w.heap.size w w2) := (HB.out _).trans (b2.mono (HB.out _).size); clear b2))
          go_roundw
          case rel => exact ⟨k + 1, by omega, by go_num, H2.out, HN.out⟩
          case measure => simp [intOf]; omega
      · exfalso
        obtain ⟨j, r, hr, hf⟩ := HA.out
        have := HJ.out.2 j r (by have := (List.getElem?_eq_some_iff.1 hr).1; omega) hr
        rw [hf] at this
        cases this
  · have hnI : (256 : Int) < rs.length := by omega
    obtain ⟨a, c, rfl⟩ := h.sl
    clear h hm
    go_enter Tryz.func30, Tryz.ntmps30
    go_wp2
    go_ret2
    exact ⟨rfl, Below.refl _ _⟩
theorem flS_zero (n : Nat) : flS (List.replicate n (0, 0)) = (madeCells (Value.agg #[.int .i64 0, .int .i64 0]).cells (n * 2)).toList := by
  apply List.ext_getElem?
  intro j
  by_cases hj : j < n * 2
  · have hz : (List.replicate n ((0, 0) : Sd))[j / 2]? = some (0, 0) := by rw [List.getElem?_replicate, if_pos (by omega)]
    obtain ⟨h1, h2⟩ := flS_at hz
    have hr : (madeCells (Value.agg #[.int .i64 0, .int .i64 0]).cells (n * 2)).toList[j]? = some ((#[Value.int .i64 0, .int .i64 0] : Array Value)[j % 2]!) := by
      simp [madeCells, Value.cells, hj]
    rw [hr]
    rcases (by omega : j = j / 2 * 2 ∨ j = j / 2 * 2 + 1) with e | e
    · rw [e, h1, show j / 2 * 2 % 2 = 0 by omega]; rfl
    · rw [e, h2, show (j / 2 * 2 + 1) % 2 = 1 by omega]; rfl
  · rw [List.getElem?_eq_none (by rw [flS_len, List.length_replicate]; omega), List.getElem?_eq_none (by simp [madeCells]; omega)]
/-- a table, made of two rows that are new -/
theorem Ck.mk0 {w w1 : World} {g g2 n c c2 : Nat} {rs : List Rw} {ss : List Sd} (b1 : Below w.heap.size w w1) (h1 : w1.ownsRow w.heap.size 167 2 (.slice (some ⟨g, 0, none⟩) rs.length c) rs.length (flR rs)) (h2 : w1.ownsRow w.heap.size 202 2 (.slice (some ⟨g2, 0, none⟩) n c2) n (flS ss)) (hg : g ≠ g2) (hn : ss.length = rs.length) (hn2 : n = ss.length) (hm : rs.length ≤ 256) (hp : 0 < w.heap.size) :
    Ck (w1.alloc (.cells #[.bool true, .slice (some ⟨g, 0, none⟩) rs.length c, .slice (some ⟨g2, 0, none⟩) n c2] 180)) w1.heap.size (.slice (some ⟨g, 0, none⟩) rs.length c) (.slice (some ⟨g2, 0, none⟩) n c2) rs ss ∧ (∀ b, Cb w1.heap.size (.slice (some ⟨g, 0, none⟩) rs.length c) (.slice (some ⟨g2, 0, none⟩) n c2) b → w.heap.size ≤ b) := by
  subst hn2
  have l1 := h1.lt g rfl
  have l2 := h2.lt g2 rfl
  have hs := b1.size
  refine ⟨⟨heap_alloc_new w1 _, own_base (own_below h1 (below_alloc _ _)) (Nat.zero_le _), own_base (own_below h2 (below_alloc _ _)) (Nat.zero_le _), ?_, ?_, ?_, hn, hm, by omega, ?_, ?_⟩, ?_⟩
  · intro e; simp [Value.ownBlock] at e; omega
  · intro e; simp [Value.ownBlock] at e; omega
  · intro x e1 e2; cases e1; cases e2; exact hg rfl
  · intro e; simp [Value.ownBlock] at e; omega
  · intro e; simp [Value.ownBlock] at e; omega
  · rintro b (rfl | e | e)
    · omega
    · cases e; exact l1.1
    · cases e; exact l2.1
set_option maxHeartbeats 4000000 in
set_option maxRecDepth 100000 in
theorem New_ok {w : World} {v : Value} {rs : List Rw} (h : Src w 2 v rs.length (flR rs)) (hE : EnvR w) (hm : mayN rs = true) : Calls Tryz.prog 30 #[v] w fun e w' => ∃ B v' u', e = .returned (.tuple #[cP B, I 0]) ∧ Ck w' B v' u' rs (rstL rs.length) ∧ (∀ b, Cb B v' u' b → w.heap.size ≤ b) ∧ Below w.heap.size w w' := by
  obtain ⟨i0, hi0, hz0, hz1, hz2⟩ := info_parts sinfo
  rw [mayN, Bool.and_eq_true, decide_eq_true_eq, List.all_eq_true] at hm
  obtain ⟨hm1, hm2⟩ := hm
  have HM : Hid (∀ x ∈ rs, mayR x = true) := hm2
  have HH : Hid (Src w 2 v rs.length (flR rs)) := h
  have HP : Hid (0 < w.heap.size) := hE.pos
  have hnI : ¬ ((256 : Int) < rs.length) := by omega
  have hC : ∀ W, Below w.heap.size w W → Calls Tryz.prog 105 #[v] W _ := fun W hb => copiedR_any hm1 (h.up hb)
  obtain ⟨a, c, rfl⟩ := h.sl
  have HI : Hid (Below w.heap.size w w) := Below.refl _ _
  obtain ⟨ZZ, hZZ⟩ : ∃ Z : Array Value, Z = madeCells (Value.agg #[.int .i64 0, .int .i64 0]).cells (rs.length * 2) := ⟨_, rfl⟩
  have HZ : Hid (ZZ = madeCells (Value.agg #[.int .i64 0, .int .i64 0]).cells (rs.length * 2)) := hZZ
  clear hZZ h hm2 hE
  have hmk : ∀ W : World, (Instr.makeSlice 178 (I rs.length) (I rs.length)).run Tryz.prog W = .ok (.slice (some ⟨W.heap.size, 0, none⟩) rs.length rs.length) (W.alloc (.cells ZZ 202)) := fun W => by
    have hmk := run_make (P := Tryz.prog) W 178 202 i0 _ Tryz.underlying178 hi0 hz0 .i64 .i64 (rs.length : Int) (rs.length : Int) (by omega) (Int.le_refl _) (by rw [hz2]; omega) (by omega)
    rw [hz1, Int.toNat_natCast] at hmk
    rw [HZ.out]
    exact hmk
  go_enter Tryz.func30, Tryz.ntmps30
  go_wp2
  go_loopw [5, 12] (fun _ v12 wr => ∃ k : Nat, k ≤ rs.length ∧ v12 = I k ∧ Hid (Below w.heap.size w wr)) (fun _ v12 _ => rs.length - (intOf v12).toNat)
  case atStart => exact ⟨0, by omega, rfl, HI.out⟩
  case round =>
    clear HI
    obtain ⟨k, hk, rfl, HJ⟩ := hrel
    by_cases hlt : k < rs.length
    · have hltI : (k : Int) < rs.length := by omega
      obtain ⟨x, hx⟩ : ∃ x, rs[k]? = some x := ⟨_, List.getElem?_eq_getElem hlt⟩
      obtain ⟨g, off, c2, e1, q1, q2⟩ := (HH.out.up HJ.out).at hx
      cases e1
      have HB : Hid (∀ o, Below w.heap.size w (wr.alloc o)) := fun o => HJ.out.trans ((below_alloc wr o).mono HJ.out.size)
      have hM := fun o => mayBe_any (wr.alloc o) x
      have z0 : (wr.alloc (.cells #[I x.1, .bool x.2] 167)).cell? ⟨wr.heap.size, 0, none⟩ = some (I x.1) := by rw [cell_of_row _ _ _ _ _ (0, 0) (heap_alloc_new wr _)]; rfl
      have z1 : (wr.alloc (.cells #[I x.1, .bool x.2] 167)).cell? ⟨wr.heap.size, 1, none⟩ = some (.bool x.2) := by rw [cell_of_row _ _ _ _ _ (0, 0) (heap_alloc_new wr _)]; rfl
      rw [HM.out x (List.mem_of_getElem? hx)] at hM
      clear HJ hx hC hmk
      go_wp2_with (first | (go_at_call 104; refine (hM _).mono ?_; clear hM; rintro e w2 ⟨rfl, b2⟩; have H2 : Hid (Below w.heap.size w w2) := (HB.out _).trans (b2.mono (HB.out _).size); clear b2))
      go_roundw
      case rel => exact ⟨k + 1, by omega, by go_num, H2.out⟩
      case measure => simp [intOf]; omega
    · obtain rfl : k = rs.length := by omega
      have hge : ¬ ((rs.length : Int) < rs.length) := by omega
      go_upto_region 9 with (first | fail)
      have HJd : Hid (Below w.heap.size w wr.drew) := HJ.out.drew
      have HJa : Hid (Below w.heap.size w (wr.alloc (.cells ZZ 202)).drew) := (HJ.out.trans ((below_alloc wr _).mono HJ.out.size)).drew
      go_region_held_law (fun _ => True) (first | exact trivial | (go_keep; done)) (first
        | (go_at_call 105; refine (hC _ HJd.out).mono ?_; clear hC; rintro e w3 ⟨rfl, o3, b3⟩; have H3 : Hid (_ ∧ _) := ⟨o3, b3⟩; clear o3 b3)
        | (go_at_call 105; refine (hC _ HJa.out).mono ?_; clear hC; rintro e w3 ⟨rfl, o3, b3⟩; have H3a : Hid (_ ∧ _) := ⟨o3, b3⟩; clear o3 b3))
      · have hsD : wr.drew.heap.size = wr.heap.size := rfl
        rw [hsD] at H3
        have hW := HJ.out.size
        have l3 : wr.heap.size < w3.heap.size := (H3.out.1.lt _ rfl).2
        have b4 : Below w.heap.size w (w3.alloc (.cells ZZ 202)) := HJd.out.trans ((H3.out.2.mono hW).trans ((below_alloc _ _).mono (by omega)))
        have h1 : (w3.alloc (.cells ZZ 202)).ownsRow w.heap.size 167 2 (.slice (some ⟨wr.heap.size, 0, none⟩) rs.length rs.length) rs.length (flR rs) := own_base (own_below H3.out.1 (below_alloc _ _)) hW
        have h2 : (w3.alloc (.cells ZZ 202)).ownsRow w.heap.size 202 2 (.slice (some ⟨w3.heap.size, 0, none⟩) rs.length rs.length) rs.length (flS (List.replicate rs.length (0, 0))) := by
          rw [flS_zero, ← HZ.out]
          refine World.ownsRow_lit w3 ZZ rs.length (by omega) (by unfold maxLen; omega) ?_
          rw [HZ.out, size_madeCells]
        obtain ⟨K5, O5⟩ := Ck.mk0 b4 h1 h2 (by omega) (by simp) (by simp) hm1 HP.out
        rw [show (w3.alloc (.cells ZZ 202)).heap.size = w3.heap.size + 1 by simp] at K5 O5
        have B5 : Hid (Below w.heap.size w ((w3.alloc (.cells ZZ 202)).alloc (.cells #[.bool true, .slice (some ⟨wr.heap.size, 0, none⟩) rs.length rs.length, .slice (some ⟨w3.heap.size, 0, none⟩) rs.length rs.length] 180))) := b4.trans ((below_alloc _ _).mono b4.size)
        have HK5 : Hid (Ck ((w3.alloc (.cells ZZ 202)).alloc (.cells #[.bool true, .slice (some ⟨wr.heap.size, 0, none⟩) rs.length rs.length, .slice (some ⟨w3.heap.size, 0, none⟩) rs.length rs.length] 180)) (w3.heap.size + 1) (.slice (some ⟨wr.heap.size, 0, none⟩) rs.length rs.length) (.slice (some ⟨w3.heap.size, 0, none⟩) rs.length rs.length) rs (List.replicate rs.length (0, 0)) ∧ (∀ b, Cb (w3.heap.size + 1) (.slice (some ⟨wr.heap.size, 0, none⟩) rs.length rs.length) (.slice (some ⟨w3.heap.size, 0, none⟩) rs.length rs.length) b → w.heap.size ≤ b)) := ⟨K5, O5⟩
        clear K5 O5 h1 h2 b4 HJd HJa HJ HH HM HZ hmk H3
        go_upto_region 10 with (first | fail)
        generalize ((w3.alloc (.cells ZZ 202)).alloc (.cells #[.bool true, .slice (some ⟨wr.heap.size, 0, none⟩) rs.length rs.length, .slice (some ⟨w3.heap.size, 0, none⟩) rs.length rs.length] 180)) = w5 at *
        have hR := Reset_any HK5.out.1
        go_wp2_with (first | (go_at_call 89; refine hR.mono ?_; clear hR; rintro e w6 ⟨rfl, k6, f6⟩))
        go_ret2
        exact ⟨_, _, _, rfl, k6, HK5.out.2, B5.out.trans (f6.below B5.out.size HK5.out.2)⟩
      · have hsD : (wr.alloc (.cells ZZ 202)).drew.heap.size = wr.heap.size + 1 := by show (wr.alloc _).heap.size = _; simp
        rw [hsD] at H3a
        have hW := HJ.out.size
        have l3 : wr.heap.size + 1 < w3.heap.size := (H3a.out.1.lt _ rfl).2
        have b4 : Below w.heap.size w w3 := HJa.out.trans (H3a.out.2.mono (by omega))
        have h1 : w3.ownsRow w.heap.size 167 2 (.slice (some ⟨wr.heap.size + 1, 0, none⟩) rs.length rs.length) rs.length (flR rs) := own_base H3a.out.1 (by omega)
        have h2 : w3.ownsRow w.heap.size 202 2 (.slice (some ⟨wr.heap.size, 0, none⟩) rs.length rs.length) rs.length (flS (List.replicate rs.length (0, 0))) := by
          have h0 : (wr.alloc (.cells ZZ 202)).drew.ownsRow w.heap.size 202 2 (.slice (some ⟨wr.heap.size, 0, none⟩) rs.length rs.length) rs.length (flS (List.replicate rs.length (0, 0))) := by
            rw [flS_zero, ← HZ.out]
            refine own_below (World.ownsRow_lit wr ZZ rs.length hW (by unfold maxLen; omega) ?_) (Below.refl _ _).drew
            rw [HZ.out, size_madeCells]
          refine own_below h0 ?_
          rw [hsD]
          exact H3a.out.2
        obtain ⟨K5, O5⟩ := Ck.mk0 b4 h1 h2 (by omega) (by simp) (by simp) hm1 HP.out
        have B5 : Hid (Below w.heap.size w (w3.alloc (.cells #[.bool true, .slice (some ⟨wr.heap.size + 1, 0, none⟩) rs.length rs.length, .slice (some ⟨wr.heap.size, 0, none⟩) rs.length rs.length] 180))) := b4.trans ((below_alloc _ _).mono b4.size)
        have HK5 : Hid (Ck (w3.alloc (.cells #[.bool true, .slice (some ⟨wr.heap.size + 1, 0, none⟩) rs.length rs.length, .slice (some ⟨wr.heap.size, 0, none⟩) rs.length rs.length] 180)) w3.heap.size (.slice (some ⟨wr.heap.size + 1, 0, none⟩) rs.length rs.length) (.slice (some ⟨wr.heap.size, 0, none⟩) rs.length rs.length) rs (List.replicate rs.length (0, 0)) ∧ (∀ b, Cb w3.heap.size (.slice (some ⟨wr.heap.size + 1, 0, none⟩) rs.length rs.length) (.slice (some ⟨wr.heap.size, 0, none⟩) rs.length rs.length) b → w.heap.size ≤ b)) := ⟨K5, O5⟩
        clear K5 O5 h1 h2 b4 HJd HJa HJ HH HM HZ hmk H3a
        go_upto_region 10 with (first | fail)
        generalize (w3.alloc (.cells #[.bool true, .slice (some ⟨wr.heap.size + 1, 0, none⟩) rs.length rs.length, .slice (some ⟨wr.heap.size, 0, none⟩) rs.length rs.length] 180)) = w5 at *
        have hR := Reset_any HK5.out.1
        go_wp2_with (first | (go_at_call 89; refine hR.mono ?_; clear hR; rintro e w6 ⟨rfl, k6, f6⟩))
        go_ret2
        exact ⟨_, _, _, rfl, k6, HK5.out.2, B5.out.trans (f6.below B5.out.size HK5.out.2)⟩
section
variable {w w' : World} {B : Nat} {v u : Value} {rs : List Rw} {ss : List Sd}
set_option maxHeartbeats 4000000 in
set_option maxRecDepth 100000 in
theorem Copy_any (h : Ck w B v u rs ss) (hE : EnvR w) : Calls Tryz.prog 81 #[cP B] w fun e w' => ∃ B2 v2 u2, e = .returned (cP B2) ∧ Ck w' B2 v2 u2 rs ss ∧ (∀ b, Cb B2 v2 u2 b → w.heap.size ≤ b) ∧ Below w.heap.size w w' := by
  obtain ⟨c0, c1, c2⟩ := h.cells
  have hN := none_any h
  have HH : Hid (Ck w B v u rs ss) := h
  have HP : Hid (0 < w.heap.size) := hE.pos
  have hm := h.m
  have hn := h.n
  have HN : Hid (ss.length = rs.length) := hn
  have hC1 : ∀ W, Below w.heap.size w W → Calls Tryz.prog 105 #[v] W _ := fun W hb => copiedR_any hm (Src.own (own_below h.p hb))
  have hC2 : ∀ W, Below w.heap.size w W → Calls Tryz.prog 180 #[u] W _ := fun W hb => copiedS_any (by omega) (Src.own (own_below h.q hb))
  obtain ⟨a, c, rfl⟩ := own_sl h.p
  obtain ⟨a2, cc2, rfl⟩ := own_sl h.q
  have HD : Hid (Below w.heap.size w w.drew) := (Below.refl _ _).drew
  clear h hE hn
  go_enter Tryz.func81, Tryz.ntmps81
  go_wp2_with (first | (go_at_call 118; refine hN.mono ?_; clear hN; rintro e w1 ⟨rfl, rfl⟩))
  go_region_held_law (fun w' => w'.cell? ⟨B, 1, none⟩ = some (.slice a rs.length c) ∧ w'.cell? ⟨B, 2, none⟩ = some (.slice a2 ss.length cc2)) (first | exact ⟨c1, c2⟩ | exact ⟨k1, k2⟩ | exact ⟨j1, j2⟩ | (go_keep; done)) (first
    | (go_at_call 105; refine (hC1 _ HD.out).mono ?_; clear hC1; rintro e w3 ⟨rfl, o3, b3⟩; have H3 : Hid (w3.ownsRow w.heap.size 167 2 (.slice (some ⟨w.heap.size, 0, none⟩) rs.length rs.length) rs.length (flR rs) ∧ Below w.heap.size w w3) := ⟨o3, HD.out.trans b3⟩; clear o3 b3; obtain ⟨k0, k1, k2⟩ := (HH.out.below H3.out.2).cells)
    | (go_at_call 180; refine (hC2 _ H3.out.2).mono ?_; clear hC2; rintro e w4 ⟨rfl, o4, b4⟩; have H4 : Hid (w4.ownsRow w3.heap.size 202 2 (.slice (some ⟨w3.heap.size, 0, none⟩) ss.length ss.length) ss.length (flS ss) ∧ Below w3.heap.size w3 w4) := ⟨o4, b4⟩; clear o4 b4; obtain ⟨j0, j1, j2⟩ := (HH.out.below (H3.out.2.trans (H4.out.2.mono H3.out.2.size))).cells))
  all_goals
    have hlt : w.heap.size < w3.heap.size := (H3.out.1.lt _ rfl).2
    have b4 : Below w.heap.size w w4 := H3.out.2.trans (H4.out.2.mono H3.out.2.size)
    obtain ⟨K5, O5⟩ := Ck.mk0 b4 (own_below H3.out.1 H4.out.2) (own_base H4.out.1 (Nat.le_of_lt hlt)) (by omega) HN.out rfl hm HP.out
    have HK5 : Hid (_ ∧ _) := ⟨K5, O5⟩
    have B5 := b4.trans ((below_alloc w4 (.cells #[.bool true, .slice (some ⟨w.heap.size, 0, none⟩) rs.length rs.length, .slice (some ⟨w3.heap.size, 0, none⟩) ss.length ss.length] 180)).mono b4.size)
    have HB5 : Hid (Below w.heap.size w _) := B5
    clear K5 O5 b4 B5 H3 H4 HH
    go_wp2
    go_ret
    exact ⟨w4.heap.size, .slice (some ⟨w.heap.size, 0, none⟩) rs.length rs.length, .slice (some ⟨w3.heap.size, 0, none⟩) ss.length ss.length, rfl, HK5.out.1, HK5.out.2, HB5.out⟩
end
end Go.Proofs.YtglnfifdjlgbcaaGreatDoor.Tk

namespace Go.Proofs.YtglnfifdjlgbcaaGreatDoor.Tk
open Go.RowKit Go.Shelf Go.Sort
set_option linter.unusedVariables false
set_option linter.unusedSimpArgs false

/-! ### A table, and the world that it was made in -/
structure Tb (W w : World) (B : Nat) (v u : Value) (rs : List Rw) (ss : List Sd) : Prop where
  c : Ck w B v u rs ss
  k : OKs rs ss
  b : Below W.heap.size W w
  o : ∀ b, Cb B v u b → W.heap.size ≤ b
  e : EnvR W
section
variable {W w w' : World} {B : Nat} {v u : Value} {rs : List Rw} {ss ss' : List Sd}
theorem Tb.env (h : Tb W w B v u rs ss) : EnvR w := h.e.up h.b
theorem Tb.below (h : Tb W w B v u rs ss) (hb : Below w.heap.size w w') : Tb W w' B v u rs ss := ⟨h.c.below hb, h.k, h.b.trans (hb.mono h.b.size), h.o, h.e⟩
theorem Tb.step (h : Tb W w B v u rs ss) (c : Ck w' B v u rs ss') (k : OKs rs ss') (f : Fz (Cb B v u) w w') : Tb W w' B v u rs ss' := ⟨c, k, h.b.trans (f.below h.b.size h.o), h.o, h.e⟩
theorem Tb.keep (h : Tb W w B v u rs ss) {M : Nat → Prop} (hf : Fz M w w') (hM : ∀ b, Cb B v u b → ¬ M b) (hW : ∀ b, M b → W.heap.size ≤ b) : Tb W w' B v u rs ss := ⟨h.c.keptZ hf hM, h.k, h.b.trans (hf.below h.b.size hW), h.o, h.e⟩
theorem tNew {x : Value} (h : Src w 2 x rs.length (flR rs)) (hb : Below W.heap.size W w) (hE : EnvR W) (hm : mayN rs = true) : Calls Tryz.prog 30 #[x] w fun e w' => ∃ B v u, e = .returned (.tuple #[cP B, I 0]) ∧ Tb W w' B v u rs (rstL rs.length) ∧ (∀ b, Cb B v u b → w.heap.size ≤ b) ∧ Below w.heap.size w w' := by
  refine (New_ok h (hE.up hb) hm).mono ?_
  rintro e w' ⟨B, v, u, rfl, k, o, b⟩
  have hs := hb.size
  exact ⟨B, v, u, rfl, ⟨k, OKs.rst hm, hb.trans (b.mono hs), fun x hx => by have := o x hx; omega, hE⟩, o, b⟩
theorem tActivate (h : Tb W w B v u rs ss) (t : Int) : Calls Tryz.prog 39 #[cP B, I t] w fun e w' => e = .returned (.tuple #[.bool (actB rs ss t), I (actS rs ss t)]) ∧ Tb W w' B v u rs (actL rs ss t) ∧ Fz (Cb B v u) w w' := by
  refine (Activate_any h.c h.k h.env t).mono ?_
  rintro e w' ⟨rfl, k, f⟩
  exact ⟨rfl, h.step k (h.k.act t) f, f⟩
theorem tStart (h : Tb W w B v u rs ss) (t : Int) : Calls Tryz.prog 44 #[cP B, I t] w fun e w' => e = .returned (I (staE rs ss t)) ∧ Tb W w' B v u rs (staL rs ss t) ∧ Fz (Cb B v u) w w' := by
  refine (Start_any h.c h.env t).mono ?_
  rintro e w' ⟨rfl, k, f⟩
  exact ⟨rfl, h.step k (h.k.sta t) f, f⟩
theorem tRelease (h : Tb W w B v u rs ss) (t : Int) : Calls Tryz.prog 113 #[cP B, I t] w fun e w' => e = .returned (I (relE rs ss t)) ∧ Tb W w' B v u rs (relL rs ss t) ∧ Fz (Cb B v u) w w' := by
  refine (Release_any h.c h.k h.env t).mono ?_
  rintro e w' ⟨rfl, k, f⟩
  exact ⟨rfl, h.step k (h.k.rel t) f, f⟩
theorem tPreempt (h : Tb W w B v u rs ss) : Calls Tryz.prog 225 #[cP B] w fun e w' => e = .returned (.tuple #[I (leaI rs ss 2), I (leaE rs ss 2)]) ∧ Tb W w' B v u rs (leaL rs ss 2) ∧ Fz (Cb B v u) w w' := by
  refine (Preempt_any h.c h.env).mono ?_
  rintro e w' ⟨rfl, k, f⟩
  exact ⟨rfl, h.step k (h.k.lea 2 (by omega)) f, f⟩
theorem tAgain (h : Tb W w B v u rs ss) : Calls Tryz.prog 222 #[cP B] w fun e w' => e = .returned (.tuple #[I (leaI rs ss 2), I (leaE rs ss 2)]) ∧ Tb W w' B v u rs (leaL rs ss 2) ∧ Fz (Cb B v u) w w' := by
  refine (Again_any h.c h.env).mono ?_
  rintro e w' ⟨rfl, k, f⟩
  exact ⟨rfl, h.step k (h.k.lea 2 (by omega)) f, f⟩
theorem tWait (h : Tb W w B v u rs ss) : Calls Tryz.prog 223 #[cP B] w fun e w' => e = .returned (.tuple #[I (leaI rs ss 1), I (leaE rs ss 1)]) ∧ Tb W w' B v u rs (leaL rs ss 1) ∧ Fz (Cb B v u) w w' := by
  refine (Wait_any h.c h.env).mono ?_
  rintro e w' ⟨rfl, k, f⟩
  exact ⟨rfl, h.step k (h.k.lea 1 (by omega)) f, f⟩
theorem tEnd (h : Tb W w B v u rs ss) : Calls Tryz.prog 221 #[cP B] w fun e w' => e = .returned (.tuple #[I (runI ss), I (endS ss), I (endE ss)]) ∧ Tb W w' B v u rs (endL ss) ∧ Fz (Cb B v u) w w' := by
  refine (End_any h.c h.k h.env).mono ?_
  rintro e w' ⟨rfl, k, f⟩
  exact ⟨rfl, h.step k h.k.fin f, f⟩
theorem tReset (h : Tb W w B v u rs ss) : Calls Tryz.prog 89 #[cP B] w fun e w' => e = .returned (.tuple #[]) ∧ Tb W w' B v u rs (rstL rs.length) ∧ Fz (Cb B v u) w w' := by
  refine (Reset_any h.c).mono ?_
  rintro e w' ⟨rfl, k, f⟩
  exact ⟨rfl, h.step k (OKs.rst h.k.may) f, f⟩
theorem tRunning (h : Tb W w B v u rs ss) : Calls Tryz.prog 42 #[cP B] w fun e w' => e = .returned (I (runI ss)) ∧ Tb W w' B v u rs ss ∧ Below w.heap.size w w' := by
  refine (Running_any h.c).mono ?_
  rintro e w' ⟨rfl, b⟩
  exact ⟨rfl, h.below b, b⟩
end
/-! ### num, alive -/
abbrev aR : List Rw := [(2, false), (1, true)]
theorem av0 : mayN aR = true := by kernel_rfl
theorem av1 : actB aR [(3, 0), (3, 0)] 0 = true ∧ actS aR [(3, 0), (3, 0)] 0 = 0 ∧ actL aR [(3, 0), (3, 0)] 0 = [(2, 1), (3, 0)] := by refine ⟨?_, ?_, ?_⟩ <;> kernel_rfl
theorem av2 : actB aR [(2, 1), (3, 0)] 0 = false ∧ actS aR [(2, 1), (3, 0)] 0 = 0 ∧ actL aR [(2, 1), (3, 0)] 0 = [(2, 2), (3, 0)] := by refine ⟨?_, ?_, ?_⟩ <;> kernel_rfl
theorem av3 : actB aR [(2, 2), (3, 0)] 0 = false ∧ actS aR [(2, 2), (3, 0)] 0 = 4 ∧ actL aR [(2, 2), (3, 0)] 0 = [(2, 2), (3, 0)] := by refine ⟨?_, ?_, ?_⟩ <;> kernel_rfl
theorem av4 : staE aR [(2, 2), (3, 0)] 0 = 0 ∧ staL aR [(2, 2), (3, 0)] 0 = [(0, 2), (3, 0)] := by refine ⟨?_, ?_⟩ <;> kernel_rfl
theorem av5 : staE aR [(0, 2), (3, 0)] 1 = 181 ∧ staL aR [(0, 2), (3, 0)] 1 = [(0, 2), (3, 0)] := by refine ⟨?_, ?_⟩ <;> kernel_rfl
theorem av6 : runI [(0, 2), (3, 0)] = 0 ∧ endS [(0, 2), (3, 0)] = 2 ∧ endE [(0, 2), (3, 0)] = 0 ∧ endL [(0, 2), (3, 0)] = [(2, 1), (3, 0)] := by refine ⟨?_, ?_, ?_, ?_⟩ <;> kernel_rfl
theorem av7 : actN aR.length [(2, 1), (3, 0)] 0 = 1 ∧ runI [(2, 1), (3, 0)] = -1 := by refine ⟨?_, ?_⟩ <;> kernel_rfl
end Go.Proofs.YtglnfifdjlgbcaaGreatDoor.Tk

