import Derived.Test.YthhckhifaolmkaaGreatXXj
namespace Go.Proofs.YthhckhifaolmkaaGreat
open Go.RowKit Go.Shelf Go.Sort
open Go.Proofs.YthhckhifaolmkaaGreat.Cl (Fx Fz Ck Cb Alm psA dueA dueF U Q cP own_sl own_some own_below own_base inL ret_bool ret_int heap_lt iinfo cell_one_new take_snoc)
set_option linter.unusedVariables false
set_option linter.unusedSimpArgs false

/-! ### Requests -/
def isI (tb : Tb) (t : Int) : Bool := decide (0 ≤ t) && decide (t < tb.isrs.length)
def reqL (tb : Tb) (q : Nat → Nat) (k : Nat) : List Nat := (List.range k).filter (hasQ q)
theorem reqL_succ (tb : Tb) (q : Nat → Nat) (k : Nat) : reqL tb q (k + 1) = reqL tb q k ++ (if hasQ q k then [k] else []) := by
  unfold reqL
  rw [List.range_succ, List.filter_append]
  congr 1
  by_cases h : hasQ q k = true <;> simp [h]
theorem reqL_len (tb : Tb) (q : Nat → Nat) (k : Nat) : (reqL tb q k).length ≤ k := by
  unfold reqL
  exact Nat.le_trans (List.length_filter_le _ _) (by simp)
structure Gt where
  shut : Bool
  all : Int
  os : Int
abbrev gtV (g : Gt) : Value := .agg #[.bool g.shut, I g.all, I g.os]
def pasB (tb : Tb) (g : Gt) (i : Nat) : Bool := !g.shut && (g.all == 0) && ((isK tb i).cat != 2 || g.os == 0)
/-- Next, one ISR after another: the best and the level -/
def nxS (tb : Tb) (q : Nat → Nat) (g : Gt) (x : Int × Int) (i : Nat) : Int × Int := if hasQ q i && (decide (x.2 < (isK tb i).prio) && pasB tb g i) then ((i : Int), (isK tb i).prio) else x
def nxL (tb : Tb) (q : Nat → Nat) (g : Gt) (l : Int) (k : Nat) : Int × Int := (List.range k).foldl (nxS tb q g) (-1, l)
theorem nxL_succ (tb : Tb) (q : Nat → Nat) (g : Gt) (l : Int) (k : Nat) : nxL tb q g l (k + 1) = nxS tb q g (nxL tb q g l k) k := by
  unfold nxL
  rw [List.range_succ, List.foldl_append]
  rfl
section
variable {w w' : World} {zn : Nat → Nat} {tb : Tb} {B : Nat} {p : Pl} {s : Bs}
theorem isIsr_any (h : Bo w zn tb B p s) (t : Int) : Calls Tryz.prog 34 #[bP B, I t] w fun e w' => e = .returned (.bool (isI tb t)) ∧ w = w' := by
  obtain ⟨c0, c1, c2, c3, -⟩ := h.cells
  obtain ⟨a, cc, hv⟩ := own_sl h.i
  rw [hv] at c3
  have hN := bnone_any h
  unfold isI
  generalize tb.isrs.length = n at *
  by_cases h0 : 0 ≤ t
  · by_cases h1 : t < n
    · rw [show (decide (0 ≤ t) && decide (t < (n : Int))) = true by simp [h0, h1]]
      go_enter Tryz.func34, Tryz.ntmps34
      go_wp2_with (first | (go_at_call 28; refine hN.mono ?_; rintro e w1 ⟨rfl, rfl⟩))
      go_ret
      exact ⟨by simp [h0, h1], rfl⟩
    · rw [show (decide (0 ≤ t) && decide (t < (n : Int))) = false by simp [h1]]
      go_enter Tryz.func34, Tryz.ntmps34
      go_wp2_with (first | (go_at_call 28; refine hN.mono ?_; rintro e w1 ⟨rfl, rfl⟩))
      go_ret
      exact ⟨by simp [h0, h1], rfl⟩
  · rw [show (decide (0 ≤ t) && decide (t < (n : Int))) = false by simp [h0]]
    go_enter Tryz.func34, Tryz.ntmps34
    go_wp2_with (first | (go_at_call 28; refine hN.mono ?_; rintro e w1 ⟨rfl, rfl⟩))
    go_ret
    exact ⟨by simp [h0], rfl⟩
def reqS (tb : Tb) (t : Int) : Int := if isI tb t then 0 else 3
def reqT (tb : Tb) (s : Bs) (t : Int) : Bs := if isI tb t then ⟨s.v, s.a, addQ s.q t.toNat⟩ else s
theorem isI_nat {tb : Tb} {t : Int} (h : isI tb t = true) : ∃ i : Nat, t = i ∧ i < tb.isrs.length := by
  unfold isI at h
  simp at h
  exact ⟨t.toNat, by omega, by omega⟩
theorem bRequest (h : Bo w zn tb B p s) (t : Int) : Calls Tryz.prog 13 #[bP B, I t] w fun e w' => e = .returned (I (reqS tb t)) ∧ Bo w' zn tb B p (reqT tb s t) ∧ Fz (Wr zn) w w' := by
  have hI := isIsr_any h t
  unfold reqS reqT
  cases hi : isI tb t with
  | false =>
    rw [hi] at hI
    simp only [Bool.false_eq_true, if_false]
    have HH : Hid (Bo w zn tb B p s) := h
    clear h hi
    go_enter Tryz.func13, Tryz.ntmps13
    go_wp2_with (first | (go_at_call 34; refine hI.mono ?_; rintro e w1 ⟨rfl, rfl⟩))
    go_ret
    exact ⟨rfl, HH.out, Fz.refl _ _⟩
  | true =>
    rw [hi] at hI
    simp only [if_true]
    obtain ⟨i, rfl, hlt⟩ := isI_nat hi
    have hA := add_any h i (by have := h.ok.ni; omega)
    rw [Int.toNat_natCast]
    clear h hi hlt
    go_enter Tryz.func13, Tryz.ntmps13
    go_wp2_with (first | (go_at_call 34; refine hI.mono ?_; rintro e w1 ⟨rfl, rfl⟩) | (go_at_call 35; refine hA.mono ?_; rintro e w2 ⟨rfl, k2, z2⟩))
    go_ret
    exact ⟨rfl, k2, z2⟩
def serS (tb : Tb) (s : Bs) (t : Int) : Int := if isI tb t && hasQ s.q t.toNat then 0 else 2
def serT (tb : Tb) (s : Bs) (t : Int) : Bs := if isI tb t && hasQ s.q t.toNat then ⟨s.v, s.a, remQ s.q t.toNat⟩ else s
set_option maxRecDepth 100000 in
theorem bServe (h : Bo w zn tb B p s) (t : Int) : Calls Tryz.prog 14 #[bP B, I t] w fun e w' => e = .returned (I (serS tb s t)) ∧ Bo w' zn tb B p (serT tb s t) ∧ Fz (Wr zn) w w' := by
  have hI := isIsr_any h t
  have hN := bnone_any h
  unfold serS serT
  cases hi : isI tb t with
  | false =>
    rw [hi] at hI
    simp only [Bool.false_and, Bool.false_eq_true, if_false]
    have HH : Hid (Bo w zn tb B p s) := h
    clear h hi
    go_enter Tryz.func14, Tryz.ntmps14
    go_wp2_with (first | (go_at_call 28; refine hN.mono ?_; rintro e w1 ⟨rfl, rfl⟩) | (go_at_call 34; refine hI.mono ?_; rintro e w1 ⟨rfl, rfl⟩))
    go_ret
    exact ⟨rfl, HH.out, Fz.refl _ _⟩
  | true =>
    rw [hi] at hI
    simp only [Bool.true_and]
    obtain ⟨i, rfl, hlt⟩ := isI_nat hi
    obtain ⟨-, -, -, -, c4, c5, c6, c7⟩ := h.cells
    have hi32 : i < 32 := by have := h.ok.ni; omega
    have hH := has_any w s.q h.q i hi32
    have hR := fun W (hb : Below w.heap.size w W) => remove_any (h.below hb) i hi32
    have HH : Hid (Bo w zn tb B p s) := h
    rw [Int.toNat_natCast]
    cases hq : hasQ s.q i with
    | false =>
      rw [hq] at hH
      simp only [Bool.false_eq_true, if_false]
      clear h hi hlt hq hR
      go_enter Tryz.func14, Tryz.ntmps14
      go_wp2_with (first | (go_at_call 28; refine hN.mono ?_; rintro e w1 ⟨rfl, rfl⟩) | (go_at_call 34; refine hI.mono ?_; rintro e w1 ⟨rfl, rfl⟩) | (go_at_call 36; refine hH.mono ?_; rintro e w2 ⟨rfl, b2⟩))
      go_ret
      exact ⟨rfl, HH.out.below b2, Fz.of_below b2⟩
    | true =>
      rw [hq] at hH
      simp only [if_true]
      clear h hi hlt hq
      go_enter Tryz.func14, Tryz.ntmps14
      go_wp2_with (first | (go_at_call 28; refine hN.mono ?_; rintro e w1 ⟨rfl, rfl⟩) | (go_at_call 34; refine hI.mono ?_; rintro e w1 ⟨rfl, rfl⟩) | (go_at_call 36; refine hH.mono ?_; rintro e w2 ⟨rfl, b2⟩; have hC := hR _ b2) | (go_at_call 37; refine hC.mono ?_; rintro e w3 ⟨rfl, k3, z3⟩))
      go_ret
      exact ⟨rfl, k3, (Fz.of_below b2).trans z3⟩
set_option maxRecDepth 100000 in
set_option maxHeartbeats 4000000 in
theorem bRequested (h : Bo w zn tb B p s) : Calls Tryz.prog 42 #[bP B] w fun e w' => ∃ v, e = .returned v ∧ w'.ownsRow w.heap.size 3 1 v (reqL tb s.q tb.isrs.length).length (inL (reqL tb s.q tb.isrs.length)) ∧ Below w.heap.size w w' := by
  obtain ⟨i0, hi0, hz0, hz1, hz2⟩ := info_parts iinfo
  obtain ⟨c0, c1, c2, c3, c4, c5, c6, c7⟩ := h.cells
  obtain ⟨a, cc, hv⟩ := own_sl h.i
  rw [hv] at c3
  have hN := bnone_any h
  have hn := h.ok.ni
  have HH : Hid (Bo w zn tb B p s) := h
  have HI : Hid (w.ownsRow w.heap.size 3 1 (.slice none 0 0) (reqL tb s.q 0).length (inL (reqL tb s.q 0)) ∧ Below w.heap.size w w) := ⟨by simpa [reqL, inL] using World.ownsRow_nil w _ _ _, Below.refl _ _⟩
  clear h hv
  generalize tb.isrs.length = n at *
  go_enter Tryz.func42, Tryz.ntmps42
  go_wp2_with (first | (go_at_call 28; refine hN.mono ?_; rintro e w1 ⟨rfl, rfl⟩))
  clear c0 c1 c2 c3 c4 c5 c6 c7
  go_loopw [3, 4, 12] (fun v3 _ v12 wr => ∃ k : Nat, k ≤ n ∧ v12 = I k ∧ Hid (wr.ownsRow w.heap.size 3 1 v3 (reqL tb s.q k).length (inL (reqL tb s.q k)) ∧ Below w.heap.size w wr)) (fun _ _ v12 _ => n - (intOf v12).toNat)
  case atStart => exact ⟨0, by omega, rfl, HI.out⟩
  case round =>
    clear HI
    obtain ⟨k, hk, rfl, HJ⟩ := hrel
    by_cases hlt : k < n
    · have hltI : (k : Int) < n := by omega
      have hr := HH.out.below HJ.out.2
      obtain ⟨-, -, -, -, c4, c5, c6, c7⟩ := hr.cells
      have hH := has_any wr s.q hr.q k (by omega)
      have hlen : (reqL tb s.q k).length ≤ 32 := by have := reqL_len tb s.q k; omega
      have HS : Hid (reqL tb s.q (k + 1) = reqL tb s.q k ++ (if hasQ s.q k then [k] else [])) := reqL_succ tb s.q k
      have hsz : w.heap.size ≤ wr.heap.size := HJ.out.2.size
      clear hr
      cases hq : hasQ s.q k with
      | false =>
        rw [hq] at hH HS
        have HS2 : Hid (reqL tb s.q (k + 1) = reqL tb s.q k) := by show _ = _; rw [HS.out]; simp
        clear HS hq
        go_wp2_with (first | (go_at_call 36; refine hH.mono ?_; clear hH; rintro e w1 ⟨rfl, b1⟩; have H1 : Hid (Below wr.heap.size wr w1) := b1; clear b1))
        go_roundw
        case rel => exact ⟨k + 1, by omega, by go_num, by rw [HS2.out]; exact ⟨own_below HJ.out.1 H1.out, HJ.out.2.trans (H1.out.mono hsz)⟩⟩
        case measure => simp [intOf]; omega
      | true =>
        rw [hq] at hH HS
        have HS2 : Hid (reqL tb s.q (k + 1) = reqL tb s.q k ++ [k]) := by show _ = _; rw [HS.out]; simp
        clear HS hq
        go_wp2_with (first
          | (go_at_call 36; refine hH.mono ?_; clear hH; rintro e w1 ⟨rfl, b1⟩; have H1 : Hid (Below w.heap.size w w1) := HJ.out.2.trans (b1.mono hsz); have hO2 := (own_below HJ.out.1 b1).alloc (.cells #[I (k : Int)] 3); have hs1 : w.heap.size ≤ w1.heap.size := H1.out.size; clear b1 c4 c5 c6 c7)
          | (at_builtin; refine wpList_append_own _ rfl (.tmp 21) (.tmp 23) 40 rfl w.heap.size 3 i0 (.int .i64 0) 1 8 Tryz.underlying40 hi0 hz0 hz1 hz2 rfl (by decide) _ _ _ rfl hO2 ⟨w1.heap.size, 0, none⟩ 1 1 [I (k : Int)] rfl rfl (cell_one_new _ _ _) (by intro u hu; simp at hu; subst hu; rfl) (by unfold maxLen; omega) (by omega) (by simp; omega) ?_))
        intro v6 w6 ho6 hg6 _
        have f6 : Below w.heap.size w w6 := ⟨hg6.os.trans H1.out.os, hg6.tape.trans H1.out.tape, hg6.output.trans H1.out.output, by have := hg6.size; simp at this; omega, fun i hi => by
          have e1 : (w1.alloc (.cells #[I (k : Int)] 3)).heap[i]? = w1.heap[i]? := heap_alloc_old _ _ (by omega)
          rw [hg6.block i (by simp; omega) (fun e => by have := (HJ.out.1.lt i e.symm).1; omega), e1]
          exact H1.out.block i hi⟩
        have H6 : Hid (w6.ownsRow w.heap.size 3 1 v6 (reqL tb s.q (k + 1)).length (inL (reqL tb s.q (k + 1))) ∧ Below w.heap.size w w6) := by
          refine ⟨?_, f6⟩
          rw [HS2.out, List.length_append]
          unfold inL
          rw [List.map_append]
          exact ho6
        clear ho6 hg6 f6 hO2 H1 HS2
        go_wp2
        go_roundw
        case rel => exact ⟨k + 1, by omega, by go_num, H6.out⟩
        case measure => simp [intOf]; omega
    · obtain rfl : k = n := by omega
      have hge : ¬ ((k : Int) < k) := by omega
      go_wp2
      go_ret
      exact ⟨_, rfl, HJ.out.1, HJ.out.2⟩
end
end Go.Proofs.YthhckhifaolmkaaGreat

namespace Go.Proofs.YthhckhifaolmkaaGreat
open Go.RowKit Go.Shelf Go.Sort
open Go.Proofs.YthhckhifaolmkaaGreat.Cl (Fx Fz Ck Cb Alm psA dueA dueF U Q cP own_sl own_some own_below own_base inL ret_bool ret_int heap_lt iinfo cell_one_new take_snoc)
set_option linter.unusedVariables false
set_option linter.unusedSimpArgs false

/-! ### Next -/
def nxO (x : Int) : Bool := x != -1
theorem nxL_best (tb : Tb) (q : Nat → Nat) (g : Gt) (l : Int) : ∀ k, (nxL tb q g l k).1 = -1 ∨ 0 ≤ (nxL tb q g l k).1
  | 0 => .inl rfl
  | k + 1 => by
    rw [nxL_succ]
    unfold nxS
    split
    · exact .inr (by show (0 : Int) ≤ (k : Int); omega)
    · exact nxL_best tb q g l k
section
variable {w w' : World} {zn : Nat → Nat} {tb : Tb} {B : Nat} {p : Pl} {s : Bs}
set_option maxRecDepth 100000 in
set_option maxHeartbeats 8000000 in
theorem bNext (h : Bo w zn tb B p s) (l : Int) (g : Gt) : Calls Tryz.prog 23 #[bP B, I l, gtV g] w fun e w' => e = .returned (.tuple #[I (nxL tb s.q g l tb.isrs.length).1, .bool (nxO (nxL tb s.q g l tb.isrs.length).1)]) ∧ Below w.heap.size w w' := by
  have hb0 := below_alloc w (.cells #[.bool g.shut, I g.all, I g.os] 46)
  have hg0 := heap_alloc_new w (.cells #[.bool g.shut, I g.all, I g.os] 46)
  have hlt0 : w.heap.size < (w.alloc (.cells #[.bool g.shut, I g.all, I g.os] 46)).heap.size := by simp
  have h0 := h.below hb0
  have hN := bnone_any h0
  obtain ⟨c0, c1, c2, c3, -⟩ := h0.cells
  obtain ⟨a, cc, hv⟩ := own_sl h.i
  rw [hv] at c3
  have hn := h.ok.ni
  have HH : Hid (Bo (w.alloc (.cells #[.bool g.shut, I g.all, I g.os] 46)) zn tb B p s ∧ Below w.heap.size w (w.alloc (.cells #[.bool g.shut, I g.all, I g.os] 46)) ∧ (w.alloc (.cells #[.bool g.shut, I g.all, I g.os] 46)).heap[w.heap.size]? = some (.cells #[.bool g.shut, I g.all, I g.os] 46) ∧ slT p.vi = .slice a tb.isrs.length cc) := ⟨h0, hb0, hg0, hv⟩
  clear h h0 hb0 hg0 hlt0
  have HB : Hid (∀ k, (nxL tb s.q g l k).1 = -1 ∨ 0 ≤ (nxL tb s.q g l k).1) := nxL_best tb s.q g l
  go_enter Tryz.func23, Tryz.ntmps23
  go_upto_region 1 with fail
  generalize w.alloc (.cells #[.bool g.shut, I g.all, I g.os] 46) = wg at *
  have HI : Hid (Below wg.heap.size wg wg) := Below.refl _ _
  have HL : Hid ((I l, I (-1)) = (I (nxL tb s.q g l 0).2, I (nxL tb s.q g l 0).1)) := rfl
  generalize hn1 : tb.isrs.length = n at *
  have HN : Hid (tb.isrs.length = n) := hn1
  clear hn1 hv
  go_wp2_with (first | (go_at_call 28; refine hN.mono ?_; rintro e w1 ⟨rfl, rfl⟩))
  clear c0 c1 c2 c3 hN
  go_loopw [1, 8, 9, 10, 18] (fun v1 v8 _ _ v18 wr => ∃ k : Nat, k ≤ n ∧ v18 = I k ∧ v1 = I (nxL tb s.q g l k).2 ∧ v8 = I (nxL tb s.q g l k).1 ∧ Hid (Below wg.heap.size wg wr)) (fun _ _ _ _ v18 _ => n - (intOf v18).toNat)
  case atStart => exact ⟨0, by omega, rfl, by have := HL.out; cases this; rfl, rfl, HI.out⟩
  case round =>
    clear HI HL
    obtain ⟨k, hk, rfl, rfl, rfl, HJ⟩ := hrel
    by_cases hlt : k < n
    · have hltI : (k : Int) < n := by omega
      have hr := HH.out.1.below HJ.out
      obtain ⟨gi, ci, ei, d0, d1⟩ := hr.is (j := k) (by rw [HN.out]; exact hlt)
      have ea : a = some ⟨gi, 0, none⟩ := by have := HH.out.2.2.2; rw [this] at ei; cases ei; rfl
      have hb1 := below_alloc wr (.cells #[I (isK tb k).cat, I (isK tb k).prio] 90)
      have hv1 := heap_alloc_new wr (.cells #[I (isK tb k).cat, I (isK tb k).prio] 90)
      have H1 : Hid (Below wg.heap.size wg (wr.alloc (.cells #[I (isK tb k).cat, I (isK tb k).prio] 90)) ∧ (wr.alloc (.cells #[I (isK tb k).cat, I (isK tb k).prio] 90)).heap[wr.heap.size]? = some (.cells #[I (isK tb k).cat, I (isK tb k).prio] 90)) := ⟨HJ.out.trans (hb1.mono HJ.out.size), hv1⟩
      have HS : Hid (nxL tb s.q g l (k + 1) = nxS tb s.q g (nxL tb s.q g l k) k) := nxL_succ tb s.q g l k
      clear hr hb1 hv1 ei HJ
      subst ea
      go_upto_region 7 with fail
      clear d0 d1
      generalize wr.alloc (.cells #[I (isK tb k).cat, I (isK tb k).prio] 90) = w1 at *
      generalize wr.heap.size = X1 at *
      have h1 := HH.out.1.below H1.out.1
      obtain ⟨-, -, -, -, c4, c5, c6, c7⟩ := h1.cells
      have y1 : w1.cell? ⟨X1, 1, none⟩ = some (I (isK tb k).prio) := by rw [cell_of_row _ _ _ _ _ (0, 0) H1.out.2]; rfl
      have hH := has_any w1 s.q h1.q k (by omega)
      have HF : Hid (∀ W, Below w1.heap.size w1 W → Below wg.heap.size wg W ∧ W.cell? ⟨X1, 0, none⟩ = some (I (isK tb k).cat) ∧ W.cell? ⟨X1, 1, none⟩ = some (I (isK tb k).prio) ∧ W.cell? ⟨w.heap.size, 0, none⟩ = some (.bool g.shut) ∧ W.cell? ⟨w.heap.size, 1, none⟩ = some (I g.all) ∧ W.cell? ⟨w.heap.size, 2, none⟩ = some (I g.os)) := fun W hb => by
        have q1 := (hb.block _ (heap_lt H1.out.2)).trans H1.out.2
        have b2 := H1.out.1.trans (hb.mono H1.out.1.size)
        have q2 := (b2.block _ (heap_lt HH.out.2.2.1)).trans HH.out.2.2.1
        exact ⟨b2, by rw [cell_of_row _ _ _ _ _ (0, 0) q1]; rfl, by rw [cell_of_row _ _ _ _ _ (0, 0) q1]; rfl, by rw [cell_of_row _ _ _ _ _ (0, 0) q2]; rfl, by rw [cell_of_row _ _ _ _ _ (0, 0) q2]; rfl, by rw [cell_of_row _ _ _ _ _ (0, 0) q2]; rfl⟩
      have hP := fun W => passes_any W (isK tb k).cat (isK tb k).prio g.shut g.all g.os
      rw [show (!g.shut && (g.all == 0) && ((isK tb k).cat != 2 || g.os == 0)) = pasB tb g k from rfl] at hP
      clear h1 H1
      unfold nxS at HS
      cases hq : hasQ s.q k with
      | false =>
        rw [hq] at hH HS
        have HS2 : Hid (nxL tb s.q g l (k + 1) = nxL tb s.q g l k) := by show _ = _; rw [HS.out]; simp
        clear HS hq hP
        generalize hb1 : (nxL tb s.q g l k).1 = b1 at *
        generalize hb2 : (nxL tb s.q g l k).2 = b2 at *
        have HQ : Hid ((nxL tb s.q g l (k + 1)).1 = b1 ∧ (nxL tb s.q g l (k + 1)).2 = b2) := by rw [HS2.out]; exact ⟨hb1, hb2⟩
        clear hb1 hb2 HS2
        go_wp2_with (first | (go_at_call 36; refine hH.mono ?_; clear hH; rintro e w2 ⟨rfl, bb⟩; have H2 : Hid (Below w1.heap.size w1 w2) := bb; clear bb))
        go_roundw
        case rel => exact ⟨k + 1, by omega, by go_num, by rw [HQ.out.2], by rw [HQ.out.1], (HF.out _ H2.out).1⟩
        case measure => simp [intOf]; omega
      | true =>
        rw [hq] at hH HS
        simp only [Bool.true_and] at HS
        by_cases hp : (nxL tb s.q g l k).2 < (isK tb k).prio
        · cases hx : pasB tb g k with
          | false =>
            rw [hx] at hP HS
            have HS2 : Hid (nxL tb s.q g l (k + 1) = nxL tb s.q g l k) := by show _ = _; rw [HS.out]; simp
            clear HS hq hx
            generalize hb1 : (nxL tb s.q g l k).1 = b1 at *
            generalize hb2 : (nxL tb s.q g l k).2 = b2 at *
            have HQ : Hid ((nxL tb s.q g l (k + 1)).1 = b1 ∧ (nxL tb s.q g l (k + 1)).2 = b2) := by rw [HS2.out]; exact ⟨hb1, hb2⟩
            clear hb1 hb2 HS2
            go_wp2_with (first
              | (go_at_call 36; refine hH.mono ?_; clear hH; rintro e w2 ⟨rfl, bb⟩; have H2 : Hid (Below w1.heap.size w1 w2) := bb; clear bb y1; obtain ⟨-, y0, y1, z0, z1, z2⟩ := HF.out _ H2.out)
              | (go_at_call 58; refine (hP _).mono ?_; clear hP; rintro e w3 ⟨rfl, bb⟩; have H3 : Hid (Below w1.heap.size w1 w3) := H2.out.trans (bb.mono H2.out.size); clear bb))
            go_roundw
            case rel => exact ⟨k + 1, by omega, by go_num, by rw [HQ.out.2], by rw [HQ.out.1], (HF.out _ H3.out).1⟩
            case measure => simp [intOf]; omega
          | true =>
            rw [hx] at hP HS
            have HQ : Hid ((nxL tb s.q g l (k + 1)).1 = (k : Int) ∧ (nxL tb s.q g l (k + 1)).2 = (isK tb k).prio) := by
              rw [HS.out, if_pos (by simpa using hp)]
              exact ⟨rfl, rfl⟩
            clear HS hq hx
            generalize (nxL tb s.q g l k).1 = b1 at *
            generalize (nxL tb s.q g l k).2 = b2 at *
            go_upto_region 8 with (first
              | (go_at_call 36; refine hH.mono ?_; clear hH; rintro e w2 ⟨rfl, bb⟩; have H2 : Hid (Below w1.heap.size w1 w2) := bb; clear bb y1; obtain ⟨-, y0, y1, z0, z1, z2⟩ := HF.out _ H2.out)
              | (go_at_call 58; refine (hP _).mono ?_; clear hP; rintro e w3 ⟨rfl, bb⟩; have H3 : Hid (Below w1.heap.size w1 w3) := H2.out.trans (bb.mono H2.out.size); clear bb y0 y1 z0 z1 z2; obtain ⟨-, y0, y1, -⟩ := HF.out _ H3.out))
            go_region_held_law (fun w' => w'.cell? ⟨X1, 1, none⟩ = some (I (isK tb k).prio)) (first | exact y1 | (go_keep; done)) (fail)
            all_goals
              go_wp2
              go_roundw
              case rel => exact ⟨k + 1, by omega, by go_num, by rw [HQ.out.2], by rw [HQ.out.1], (HF.out _ H3.out).1.drew⟩
              case measure => simp [intOf]; omega
        · have HS2 : Hid (nxL tb s.q g l (k + 1) = nxL tb s.q g l k) := by show _ = _; rw [HS.out, if_neg (by simp [hp])]
          clear HS hq hP
          generalize hb1 : (nxL tb s.q g l k).1 = b1 at *
          generalize hb2 : (nxL tb s.q g l k).2 = b2 at *
          have HQ : Hid ((nxL tb s.q g l (k + 1)).1 = b1 ∧ (nxL tb s.q g l (k + 1)).2 = b2) := by rw [HS2.out]; exact ⟨hb1, hb2⟩
          clear hb1 hb2 HS2
          go_wp2_with (first | (go_at_call 36; refine hH.mono ?_; clear hH; rintro e w2 ⟨rfl, bb⟩; have H2 : Hid (Below w1.heap.size w1 w2) := bb; clear bb y1; obtain ⟨-, y0, y1, z0, z1, z2⟩ := HF.out _ H2.out))
          go_roundw
          case rel => exact ⟨k + 1, by omega, by go_num, by rw [HQ.out.2], by rw [HQ.out.1], (HF.out _ H2.out).1⟩
          case measure => simp [intOf]; omega
    · obtain rfl : k = n := by omega
      have hge : ¬ ((k : Int) < k) := by omega
      have hd := HB.out k
      have HE : Hid (Below w.heap.size w wr) := HH.out.2.1.trans (HJ.out.mono HH.out.2.1.size)
      clear HB HJ HH
      generalize hb1 : (nxL tb s.q g l k).1 = b1 at *
      generalize (nxL tb s.q g l k).2 = b2 at *
      have Hx : Hid ((nxL tb s.q g l k).1 = b1) := hb1
      clear hb1
      by_cases hb : b1 = -1
      · subst hb
        go_wp2
        go_ret2
        exact ⟨by rw [HN.out, Hx.out, show nxO (-1) = false from rfl]; rfl, HE.out⟩
      · have hbq : (b1 != -1) = true := by simpa using hb
        go_wp2
        go_ret2
        exact ⟨by rw [HN.out, Hx.out, show nxO b1 = true by simpa [nxO] using hb]; rfl, HE.out⟩
end
end Go.Proofs.YthhckhifaolmkaaGreat

namespace Go.Proofs.YthhckhifaolmkaaGreat
open Go.RowKit Go.Shelf Go.Sort
open Go.Proofs.YthhckhifaolmkaaGreat.Cl (Fx Fz Ck Cb Alm psA dueA dueF U Q cP own_sl own_some own_below own_base inL ret_bool ret_int heap_lt iinfo cell_one_new take_snoc aftN)
set_option linter.unusedVariables false
set_option linter.unusedSimpArgs false

/-! ### Calm -/
def calA (a : Nat → Alm) (k : Nat) : Nat → Alm := fun j => if j < k then (0, 0) else a j
theorem calA_zero (a : Nat → Alm) : calA a 0 = a := by funext j; simp [calA]
theorem calA_succ (a : Nat → Alm) (k : Nat) : upN (calA a k) k (0, 0) = calA a (k + 1) := by
  funext j
  unfold upN calA
  by_cases h : j = k
  · subst h; simp
  · rw [if_neg h]
    by_cases h2 : j < k
    · rw [if_pos h2, if_pos (by omega)]
    · rw [if_neg h2, if_neg (by omega)]
def calT (tb : Tb) (s : Bs) : Bs := ⟨s.v, calA s.a tb.als.length, fun _ => 0⟩
section
variable {w w' : World} {zn : Nat → Nat} {tb : Tb} {B : Nat} {p : Pl} {s : Bs}
set_option maxRecDepth 100000 in
set_option maxHeartbeats 8000000 in
theorem bCalm (h : Bo w zn tb B p s) : Calls Tryz.prog 20 #[bP B] w fun e w' => e = .returned (I 0) ∧ Bo w' zn tb B p (calT tb s) ∧ Fz (Wr zn) w w' := by
  obtain ⟨c0, c1, c2, c3, -⟩ := h.cells
  have hN := bnone_any h
  obtain ⟨a, cc, hv⟩ := own_sl h.a
  rw [hv] at c2
  have hn := h.ok.na
  have HI : Hid (Bo w zn tb B p ⟨s.v, calA s.a 0, s.q⟩ ∧ Fz (Wr zn) w w) := ⟨by rw [calA_zero]; exact h, Fz.refl _ _⟩
  clear h hv
  go_enter Tryz.func20, Tryz.ntmps20
  go_wp2_with (first | (go_at_call 28; refine hN.mono ?_; rintro e w1 ⟨rfl, rfl⟩))
  clear c0 c1 c2 c3 hN
  go_loopw [3, 11] (fun _ v11 wr => ∃ k : Nat, k ≤ tb.als.length ∧ v11 = I k ∧ Hid (Bo wr zn tb B p ⟨s.v, calA s.a k, s.q⟩ ∧ Fz (Wr zn) w wr)) (fun _ v11 _ => tb.als.length - (intOf v11).toNat)
  case atStart => exact ⟨0, by omega, rfl, HI.out⟩
  case round =>
    clear HI
    obtain ⟨k, hk, rfl, HJ⟩ := hrel
    by_cases hlt : k < tb.als.length
    · have hltI : (k : Int) < tb.als.length := by omega
      have hC := bCancel HJ.out.1 k
      have e1 : canT tb ⟨s.v, calA s.a k, s.q⟩ (k : Int) = ⟨s.v, calA s.a (k + 1), s.q⟩ := by
        unfold canT
        rw [if_neg (in_out hlt), Int.toNat_natCast]
        show (⟨s.v, upN (calA s.a k) k (0, 0), s.q⟩ : Bs) = _
        rw [calA_succ]
      rw [e1] at hC
      generalize getB tb ⟨s.v, calA s.a k, s.q⟩ (k : Int) = r at *
      clear e1
      go_wp2_with (first | (go_at_call 12; refine hC.mono ?_; clear hC; rintro e w2 ⟨rfl, k2, z2⟩; have H2 : Hid (Bo w2 zn tb B p ⟨s.v, calA s.a (k + 1), s.q⟩ ∧ Fz (Wr zn) w w2) := ⟨k2, HJ.out.2.trans z2⟩; clear k2 z2))
      go_roundw
      case rel => exact ⟨k + 1, by omega, by go_num, H2.out⟩
      case measure => simp [intOf]; omega
    · obtain rfl : k = tb.als.length := by omega
      have hge : ¬ ((tb.als.length : Int) < tb.als.length) := by omega
      have h0 := HJ.out.1
      obtain ⟨h1, z1⟩ := h0.setQ (k := 0) (x := 0) (by omega) (by omega)
      obtain ⟨h2, z2⟩ := h1.setQ (k := 1) (x := 0) (by omega) (by omega)
      obtain ⟨h3, z3⟩ := h2.setQ (k := 2) (x := 0) (by omega) (by omega)
      obtain ⟨h4, z4⟩ := h3.setQ (k := 3) (x := 0) (by omega) (by omega)
      obtain ⟨u0, y0⟩ : ∃ u, wr.cell? ⟨B, 4, none⟩ = some (.int .u8 u) := ⟨_, h0.byte (k := 0) (by omega)⟩
      have f0 : wr.frozen? ⟨B, 4, none⟩ = false := h0.frz 4
      obtain ⟨u1, y1⟩ : ∃ u, (wr.setCell ⟨B, 4, none⟩ (.int .u8 0)).cell? ⟨B, 5, none⟩ = some (.int .u8 u) := ⟨_, h1.byte (k := 1) (by omega)⟩
      have f1 : (wr.setCell ⟨B, 4, none⟩ (.int .u8 0)).frozen? ⟨B, 5, none⟩ = false := h1.frz 5
      obtain ⟨u2, y2⟩ : ∃ u, ((wr.setCell ⟨B, 4, none⟩ (.int .u8 0)).setCell ⟨B, 5, none⟩ (.int .u8 0)).cell? ⟨B, 6, none⟩ = some (.int .u8 u) := ⟨_, h2.byte (k := 2) (by omega)⟩
      have f2 : ((wr.setCell ⟨B, 4, none⟩ (.int .u8 0)).setCell ⟨B, 5, none⟩ (.int .u8 0)).frozen? ⟨B, 6, none⟩ = false := h2.frz 6
      obtain ⟨u3, y3⟩ : ∃ u, (((wr.setCell ⟨B, 4, none⟩ (.int .u8 0)).setCell ⟨B, 5, none⟩ (.int .u8 0)).setCell ⟨B, 6, none⟩ (.int .u8 0)).cell? ⟨B, 7, none⟩ = some (.int .u8 u) := ⟨_, h3.byte (k := 3) (by omega)⟩
      have f3 : (((wr.setCell ⟨B, 4, none⟩ (.int .u8 0)).setCell ⟨B, 5, none⟩ (.int .u8 0)).setCell ⟨B, 6, none⟩ (.int .u8 0)).frozen? ⟨B, 7, none⟩ = false := h3.frz 7
      have HE : Hid (Bo ((((wr.setCell ⟨B, 4, none⟩ (.int .u8 0)).setCell ⟨B, 5, none⟩ (.int .u8 0)).setCell ⟨B, 6, none⟩ (.int .u8 0)).setCell ⟨B, 7, none⟩ (.int .u8 0)) zn tb B p (calT tb s) ∧ Fz (Wr zn) w ((((wr.setCell ⟨B, 4, none⟩ (.int .u8 0)).setCell ⟨B, 5, none⟩ (.int .u8 0)).setCell ⟨B, 6, none⟩ (.int .u8 0)).setCell ⟨B, 7, none⟩ (.int .u8 0))) := by
        refine ⟨⟨?_, h4.c, h4.a, h4.i, h4.k, h4.n, h4.zB, h4.zc, h4.za, h4.zi, h4.zk, h4.zm, h4.zs, h4.ok, fun _ => by show 0 < 256; omega, h4.l⟩, (((HJ.out.2.trans z1).trans z2).trans z3).trans z4⟩
        exact h4.o
      clear h0 h1 h2 h3 h4 z1 z2 z3 z4 HJ
      go_wp2
      go_ret
      exact ⟨rfl, HE.out.1, HE.out.2⟩
end
end Go.Proofs.YthhckhifaolmkaaGreat

namespace Go.Proofs.YthhckhifaolmkaaGreat
open Go.RowKit Go.Shelf Go.Sort
open Go.Proofs.YthhckhifaolmkaaGreat.Cl (Fx Fz Ck Cb Alm psA dueA dueF U Q cP own_sl own_some own_below own_base inL ret_bool ret_int heap_lt iinfo cell_one_new take_snoc aftN)
set_option linter.unusedVariables false
set_option linter.unusedSimpArgs false

/-! ### Copy -/
/-- five cells of a block, written one after another -/
theorem five {W : World} {g : Nat} {x0 x1 x2 x3 x4 : Value} {t : TypeId} (h : W.heap[g]? = some (.cells #[x0, x1, x2, x3, x4] t)) (y0 y1 y2 y3 y4 : Value) :
    W.cell? ⟨g, 0, none⟩ = some x0 ∧ (W.setCell ⟨g, 0, none⟩ y0).cell? ⟨g, 1, none⟩ = some x1 ∧ ((W.setCell ⟨g, 0, none⟩ y0).setCell ⟨g, 1, none⟩ y1).cell? ⟨g, 2, none⟩ = some x2 ∧ (((W.setCell ⟨g, 0, none⟩ y0).setCell ⟨g, 1, none⟩ y1).setCell ⟨g, 2, none⟩ y2).cell? ⟨g, 3, none⟩ = some x3 ∧ ((((W.setCell ⟨g, 0, none⟩ y0).setCell ⟨g, 1, none⟩ y1).setCell ⟨g, 2, none⟩ y2).setCell ⟨g, 3, none⟩ y3).cell? ⟨g, 4, none⟩ = some x4 ∧
    W.frozen? ⟨g, 0, none⟩ = false ∧ (W.setCell ⟨g, 0, none⟩ y0).frozen? ⟨g, 1, none⟩ = false ∧ ((W.setCell ⟨g, 0, none⟩ y0).setCell ⟨g, 1, none⟩ y1).frozen? ⟨g, 2, none⟩ = false ∧ (((W.setCell ⟨g, 0, none⟩ y0).setCell ⟨g, 1, none⟩ y1).setCell ⟨g, 2, none⟩ y2).frozen? ⟨g, 3, none⟩ = false ∧ ((((W.setCell ⟨g, 0, none⟩ y0).setCell ⟨g, 1, none⟩ y1).setCell ⟨g, 2, none⟩ y2).setCell ⟨g, 3, none⟩ y3).frozen? ⟨g, 4, none⟩ = false ∧
    (((((W.setCell ⟨g, 0, none⟩ y0).setCell ⟨g, 1, none⟩ y1).setCell ⟨g, 2, none⟩ y2).setCell ⟨g, 3, none⟩ y3).setCell ⟨g, 4, none⟩ y4).heap[g]? = some (.cells #[y0, y1, y2, y3, y4] t) := by
  have h1 := heap_setCell_same W g 0 _ _ y0 h
  have h2 := heap_setCell_same _ g 1 _ _ y1 h1
  have h3 := heap_setCell_same _ g 2 _ _ y2 h2
  have h4 := heap_setCell_same _ g 3 _ _ y3 h3
  have h5 := heap_setCell_same _ g 4 _ _ y4 h4
  refine ⟨?_, ?_, ?_, ?_, ?_, frozen_of_row _ _ _ _ _ h, frozen_of_row _ _ _ _ _ h1, frozen_of_row _ _ _ _ _ h2, frozen_of_row _ _ _ _ _ h3, frozen_of_row _ _ _ _ _ h4, h5⟩
  · rw [cell_of_row _ _ _ _ _ (0, 0) h]; rfl
  · rw [cell_of_row _ _ _ _ _ (0, 0) h1]; rfl
  · rw [cell_of_row _ _ _ _ _ (0, 0) h2]; rfl
  · rw [cell_of_row _ _ _ _ _ (0, 0) h3]; rfl
  · rw [cell_of_row _ _ _ _ _ (0, 0) h4]; rfl
theorem res_ctr {fn : Func} {n : Nat} (hf : fn.results = #[.cell n 85]) (tmps : Array Value) (b : Nat) (w : World) (v0 v1 v2 v3 v4 : Value)
    (h2 : tmps[n]? = some (.pointer (some ⟨b, 0, none⟩))) (hk : w.heap[b]? = some (.cells #[v0, v1, v2, v3, v4] 85 (0, 0))) :
    (results fn tmps).run Tryz.prog w = .ok (.agg #[v0, v1, v2, v3, v4]) w := by
  have a1 := fun i => cell_of_row w b i _ _ (0, 0) hk
  have z0 := a1 0; have z1 := a1 1; have z2 := a1 2; have z3 := a1 3; have z4 := a1 4
  simp at z0 z1 z2 z3 z4
  simp [results, hf, go_sem, h2, z0, z1, z2, z3, z4]
abbrev zC : Obj := .cells #[.pointer none, .int .u32 0, .int .u32 0, .int .u32 0, .slice none 0 0] 85
section
variable {w w' : World} {zn : Nat → Nat} {tb : Tb} {B : Nat} {p : Pl} {s : Bs}
set_option maxRecDepth 100000 in
set_option maxHeartbeats 8000000 in
theorem balike (h : Bo w zn tb B p s) {k : Nat} (hk : k < tb.ctrs.length) : Calls Tryz.prog 44 #[ctV tb p k] w fun e w' => ∃ B2 v2, e = .returned (.agg #[cP B2, U (ctK tb k).max, U (ctK tb k).base, U (ctK tb k).min, slT (p.ca k)]) ∧ Ck w' B2 v2 (ctK tb k).max (ctK tb k).min (s.v k) (alC tb s.a k) ∧ (∀ b, Cb B2 v2 b → w.heap.size + 1 < b) ∧ Below w.heap.size w w' := by
  have hbb : Below w.heap.size w ((w.alloc (.cells #[cP (p.cb k), U (ctK tb k).max, U (ctK tb k).base, U (ctK tb k).min, slT (p.ca k)] 85)).alloc zC) := (below_alloc w _).trans ((below_alloc _ _).mono (by simp))
  have hs2 : ((w.alloc (.cells #[cP (p.cb k), U (ctK tb k).max, U (ctK tb k).base, U (ctK tb k).min, slT (p.ca k)] 85)).alloc zC).heap.size = w.heap.size + 1 + 1 := by simp
  have hC := Cl.Copy_any ((h.below hbb).k k hk)
  rw [hs2] at hC
  have q1 := two_at1 w (.cells #[cP (p.cb k), U (ctK tb k).max, U (ctK tb k).base, U (ctK tb k).min, slT (p.ca k)] 85) zC
  have q2 := two_at2 w (.cells #[cP (p.cb k), U (ctK tb k).max, U (ctK tb k).base, U (ctK tb k).min, slT (p.ca k)] 85) (.pointer none) (.int .u32 0) (.int .u32 0) (.int .u32 0) (.slice none 0 0) 85
  have H0 : Hid (Below w.heap.size w ((w.alloc (.cells #[cP (p.cb k), U (ctK tb k).max, U (ctK tb k).base, U (ctK tb k).min, slT (p.ca k)] 85)).alloc zC) ∧ ((w.alloc (.cells #[cP (p.cb k), U (ctK tb k).max, U (ctK tb k).base, U (ctK tb k).min, slT (p.ca k)] 85)).alloc zC).heap[w.heap.size]? = some (.cells #[cP (p.cb k), U (ctK tb k).max, U (ctK tb k).base, U (ctK tb k).min, slT (p.ca k)] 85) ∧ ((w.alloc (.cells #[cP (p.cb k), U (ctK tb k).max, U (ctK tb k).base, U (ctK tb k).min, slT (p.ca k)] 85)).alloc zC).heap[w.heap.size + 1]? = some zC) := ⟨hbb, q1, q2⟩
  have c0 : ((w.alloc (.cells #[cP (p.cb k), U (ctK tb k).max, U (ctK tb k).base, U (ctK tb k).min, slT (p.ca k)] 85)).alloc zC).cell? ⟨w.heap.size, 0, none⟩ = some (cP (p.cb k)) := by rw [cell_of_row _ _ _ _ _ (0, 0) q1]; rfl
  clear h hbb hs2 q1 q2
  go_enter Tryz.func44, Tryz.ntmps44
  go_upto_region 1 with fail
  generalize ((w.alloc (.cells #[cP (p.cb k), U (ctK tb k).max, U (ctK tb k).base, U (ctK tb k).min, slT (p.ca k)] 85)).alloc zC) = w1 at *
  go_upto_region 2 with (first | (go_at_call 83; refine hC.mono ?_; clear hC; rintro e w3 ⟨B2, v2, rfl, k3, n3, b3⟩; have e1 := (b3.block _ (by omega)).trans H0.out.2.1; have e2 := (b3.block _ (by omega)).trans H0.out.2.2; have x0 : w3.cell? ⟨w.heap.size, 0, none⟩ = some (cP (p.cb k)) := (by rw [cell_of_row _ _ _ _ _ (0, 0) e1]; rfl); have f0 := frozen_of_row w3 w.heap.size 0 _ _ e1; have H3 : Hid (Ck w3 B2 v2 (ctK tb k).max (ctK tb k).min (s.v k) (alC tb s.a k) ∧ (∀ b, Cb B2 v2 b → w.heap.size + 1 < b) ∧ Below w.heap.size w w3 ∧ w3.heap[w.heap.size]? = some (.cells #[cP (p.cb k), U (ctK tb k).max, U (ctK tb k).base, U (ctK tb k).min, slT (p.ca k)] 85) ∧ w3.heap[w.heap.size + 1]? = some zC) := ⟨k3, fun b hb => by have := n3 b hb; omega, H0.out.1.trans (b3.mono (by omega)), e1, e2⟩; clear k3 n3 b3 e1 e2))
  clear c0 x0 f0 H0
  have F1 : Fz (fun b => b = w.heap.size) w3 (w3.setCell ⟨w.heap.size, 0, none⟩ (cP B2)) := (Fz.refl (fun b => b = w.heap.size) w3).set (.inl rfl) _ _
  obtain ⟨k3, n3, b3, e1, e2⟩ := H3.out
  have g1 := heap_setCell_same w3 w.heap.size 0 _ _ (cP B2) e1
  have g2 := F1.heap e2 (by omega)
  have k4 := k3.keptZ F1 (fun b hb e => by have := n3 b hb; omega)
  have b4 := below_set (g := w.heap.size) (i := 0) (v := cP B2) b3 (Nat.le_refl _)
  clear H3 k3 b3 e1 e2 F1
  generalize w3.setCell ⟨w.heap.size, 0, none⟩ (cP B2) = w4 at *
  have g1' : w4.heap[w.heap.size]? = some (.cells #[cP B2, U (ctK tb k).max, U (ctK tb k).base, U (ctK tb k).min, slT (p.ca k)] 85) := g1
  have y0 : w4.cell? ⟨w.heap.size, 0, none⟩ = some (cP B2) := by rw [cell_of_row _ _ _ _ _ (0, 0) g1']; rfl
  have y1 : w4.cell? ⟨w.heap.size, 1, none⟩ = some (U (ctK tb k).max) := by rw [cell_of_row _ _ _ _ _ (0, 0) g1']; rfl
  have y2 : w4.cell? ⟨w.heap.size, 2, none⟩ = some (U (ctK tb k).base) := by rw [cell_of_row _ _ _ _ _ (0, 0) g1']; rfl
  have y3 : w4.cell? ⟨w.heap.size, 3, none⟩ = some (U (ctK tb k).min) := by rw [cell_of_row _ _ _ _ _ (0, 0) g1']; rfl
  have y4 : w4.cell? ⟨w.heap.size, 4, none⟩ = some (slT (p.ca k)) := by rw [cell_of_row _ _ _ _ _ (0, 0) g1']; rfl
  obtain ⟨r0, r1, r2, r3, r4, f0, f1, f2, f3, f4, hq⟩ := five g2 (cP B2) (U (ctK tb k).max) (U (ctK tb k).base) (U (ctK tb k).min) (slT (p.ca k))
  have F5 : Fz (fun b => b = w.heap.size + 1) w4 (((((w4.setCell ⟨w.heap.size + 1, 0, none⟩ (cP B2)).setCell ⟨w.heap.size + 1, 1, none⟩ (U (ctK tb k).max)).setCell ⟨w.heap.size + 1, 2, none⟩ (U (ctK tb k).base)).setCell ⟨w.heap.size + 1, 3, none⟩ (U (ctK tb k).min)).setCell ⟨w.heap.size + 1, 4, none⟩ (slT (p.ca k))) := (((((Fz.refl (fun b => b = w.heap.size + 1) w4).set (.inl rfl) _ _).set (.inl rfl) _ _).set (.inl rfl) _ _).set (.inl rfl) _ _).set (.inl rfl) _ _
  have H5 : Hid (Ck (((((w4.setCell ⟨w.heap.size + 1, 0, none⟩ (cP B2)).setCell ⟨w.heap.size + 1, 1, none⟩ (U (ctK tb k).max)).setCell ⟨w.heap.size + 1, 2, none⟩ (U (ctK tb k).base)).setCell ⟨w.heap.size + 1, 3, none⟩ (U (ctK tb k).min)).setCell ⟨w.heap.size + 1, 4, none⟩ (slT (p.ca k))) B2 v2 (ctK tb k).max (ctK tb k).min (s.v k) (alC tb s.a k) ∧ (∀ b, Cb B2 v2 b → w.heap.size + 1 < b) ∧ Below w.heap.size w (((((w4.setCell ⟨w.heap.size + 1, 0, none⟩ (cP B2)).setCell ⟨w.heap.size + 1, 1, none⟩ (U (ctK tb k).max)).setCell ⟨w.heap.size + 1, 2, none⟩ (U (ctK tb k).base)).setCell ⟨w.heap.size + 1, 3, none⟩ (U (ctK tb k).min)).setCell ⟨w.heap.size + 1, 4, none⟩ (slT (p.ca k)))) := ⟨k4.keptZ F5 (fun b hb e => by have := n3 b hb; omega), n3, b4.trans (F5.below (by have := b4.size; omega) (by rintro b rfl; omega))⟩
  clear g1 g1' g2 k4 b4 F5
  go_wp2
  refine bodyPost_ret (res_ctr Tryz.results44 _ (w.heap.size + 1) _ _ _ _ _ _ rfl hq) rfl ?_
  exact ⟨B2, v2, rfl, H5.out.1, H5.out.2.1, H5.out.2.2⟩
/-- Clocks that were made so far, each in blocks of its own. -/
structure Cks (w : World) (tb : Tb) (lo n : Nat) (cb : Nat → Nat) (cv : Nat → Value) (zk : Nat → Nat) (V : Nat → Nat) (a : Nat → Alm) : Prop where
  c : ∀ i, i < n → Ck w (cb i) (cv i) (ctK tb i).max (ctK tb i).min (V i) (alC tb a i)
  z : ∀ i, i < n → ∀ b, Cb (cb i) (cv i) b → zk b = 10 + i
  s : ∀ b, zk b ≠ 0 → lo ≤ b ∧ b < w.heap.size ∧ 10 ≤ zk b
theorem Cks.zero (w : World) (tb : Tb) (lo : Nat) (V : Nat → Nat) (a : Nat → Alm) : Cks w tb lo 0 (fun _ => 0) (fun _ => .pointer none) (fun _ => 0) V a := ⟨fun i hi => by omega, fun i hi => by omega, fun b hb => absurd rfl hb⟩
theorem Cks.keep {lo k : Nat} {cb : Nat → Nat} {cv : Nat → Value} {zk V : Nat → Nat} {a : Nat → Alm} (h : Cks w tb lo k cb cv zk V a) {M : Nat → Prop} (hf : Fz M w w') (hM : ∀ b, zk b ≠ 0 → ¬ M b) : Cks w' tb lo k cb cv zk V a :=
  ⟨fun i hi => (h.c i hi).keptZ hf (fun b hb => hM b (by rw [h.z i hi b hb]; omega)), h.z, fun b hb => ⟨(h.s b hb).1, Nat.lt_of_lt_of_le (h.s b hb).2.1 hf.size, (h.s b hb).2.2⟩⟩
theorem Cks.below {lo k : Nat} {cb : Nat → Nat} {cv : Nat → Value} {zk V : Nat → Nat} {a : Nat → Alm} (h : Cks w tb lo k cb cv zk V a) (hb : Below w.heap.size w w') : Cks w' tb lo k cb cv zk V a := h.keep (M := fun _ => False) (Fz.of_below hb) (fun _ _ e => e)
theorem Cks.next {lo k : Nat} {cb : Nat → Nat} {cv : Nat → Value} {zk V : Nat → Nat} {a : Nat → Alm} (h : Cks w tb lo k cb cv zk V a) (hb : Below w.heap.size w w') (hlo : lo ≤ w.heap.size) {B2 : Nat} {v2 : Value} (hk : Ck w' B2 v2 (ctK tb k).max (ctK tb k).min (V k) (alC tb a k)) (hn : ∀ b, Cb B2 v2 b → w.heap.size ≤ b) :
    Cks w' tb lo (k + 1) (upN cb k B2) (upN cv k v2) (fun b => if w.heap.size ≤ b ∧ b < w'.heap.size then 10 + k else zk b) V a := by
  have h' := h.below hb
  refine ⟨fun i hi => ?_, fun i hi b hcb => ?_, fun b hz => ?_⟩
  · by_cases e : i = k
    · subst e
      simp only [upN_same]
      exact hk
    · simp only [upN_ne _ _ e]
      exact h'.c i (by omega)
  · by_cases e : i = k
    · subst e
      simp only [upN_same] at hcb
      have := hn b hcb
      have := hk.lt hcb
      show (if _ then _ else _) = _
      rw [if_pos (by omega)]
    · simp only [upN_ne _ _ e] at hcb
      have := (h.c i (by omega)).lt hcb
      show (if _ then _ else _) = _
      rw [if_neg (by omega)]
      exact h.z i (by omega) b hcb
  · have hz' : (if w.heap.size ≤ b ∧ b < w'.heap.size then 10 + k else zk b) ≠ 0 := hz
    show lo ≤ b ∧ b < w'.heap.size ∧ 10 ≤ (if w.heap.size ≤ b ∧ b < w'.heap.size then 10 + k else zk b)
    split at hz'
    · rename_i e
      rw [if_pos e]
      omega
    · rename_i e
      rw [if_neg e]
      have := h'.s b hz'
      exact this
end
end Go.Proofs.YthhckhifaolmkaaGreat

