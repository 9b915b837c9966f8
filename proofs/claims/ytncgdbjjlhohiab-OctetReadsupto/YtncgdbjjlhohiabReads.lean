import Derived.Test.YtncgdbjjlhohiabRdsH
import Derived.Test.YtncgdbjjlhohiabQuoB
namespace Go.Proofs.Ytncgdbjjlhohiab
open Go.RowKit
set_option linter.unusedVariables false

theorem cell_one_new' (w : World) (v : Value) (e : TypeId) : ∀ j u, [v][j]? = some u → (w.alloc (.cells #[v] e)).cell? ((⟨w.heap.size, 0, none⟩ : Addr).add j) = some u := by
  intro j u hj
  match j, hj with
  | 0, hj => simp at hj; subst hj; simp [Addr.add]
theorem left_q {w : World} {base r n k : Nat} {l : List UInt8} (h : Rdr w base r (l.drop k)) (hl : l.length = n) (hk : k ≤ n) (q : Nat) : Calls Try.prog 26 #[.pointer (some ⟨r, 0, none⟩)] (w.drewN q) fun e w' => e = .returned (.int .i64 ((n : Int) - k)) ∧ w' = w.drewN q := by
  obtain ⟨a, cap, h⟩ := h
  have e : ((l.drop k).length : Int) = (n : Int) - k := by rw [List.length_drop]; omega
  have := rleft_made (h.below (drewN_below (Below.refl _ _) q))
  rw [e] at this
  exact this.mono fun e w' ⟨h1, h2⟩ => ⟨h1, h2.symm⟩
theorem end_q {w : World} {base r n k : Nat} {l : List UInt8} (z : Int) (h : Rdr w base r (l.drop k)) (hl : l.length = n) (hz : (n - k = 0 ∧ z = 0) ∨ (n - k ≠ 0 ∧ z = 11)) (q : Nat) : Calls Try.prog 27 #[.pointer (some ⟨r, 0, none⟩)] (w.drewN q) fun e w' => e = .returned (.int .i64 z) ∧ w' = w.drewN q := by
  obtain ⟨a, cap, h⟩ := h
  have := rend_made (h.below (drewN_below (Below.refl _ _) q))
  have e : (if (l.drop k).length = 0 then (0 : Int) else 11) = z := by
    rw [List.length_drop, hl]
    rcases hz with ⟨h1, h2⟩ | ⟨h1, h2⟩
    · rw [if_pos h1, h2]
    · rw [if_neg h1, h2]
  rw [e] at this
  exact this.mono fun e w' ⟨h1, h2⟩ => ⟨h1, h2.symm⟩

set_option maxRecDepth 100000 in
set_option maxHeartbeats 2000000 in
theorem reads_walk (a : Option Addr) (n c : Nat) (l : List UInt8) (a2 : Option Addr) (ns cs : Nat) (ps : List Cl) (w : World) (ha : Rd w a n c l) (hp : RdC w a2 ns cs ps) (hn : n ≤ 1048576) (hns : ns ≤ 1048576) :
    Calls Try.prog 5 #[.slice a n c, .slice a2 ns cs] w fun e w' => e = .returned (.bool true) ∧ Below w.heap.size w w' := by
  obtain ⟨i0, hi, hz0, hz1, hz2⟩ := info_parts Try.info5
  go_enter Try.func5, Try.ntmps5
  go_wp2_with fail
  refine (copy_any _ _ _ _ _ ha).mono ?_
  rintro e w1 ⟨rfl, ho1, hb1⟩
  have s1 := hb1.size
  go_wp2_with (at_builtin; refine wpList_append_own _ rfl (.tmp 28) (.tmp 29) 30 rfl w.heap.size 5 i0 (.int .u8 0) 1 1 Try.underlying30 hi hz0 hz1 hz2 rfl (by decide) _ _ _ rfl (ho1.alloc _) ⟨w1.heap.size, 0, none⟩ 1 1 [.int .u8 90] rfl rfl (cell_one_new _ _ _) (by intro u hu; simp at hu; subst hu; rfl) (by unfold maxLen; omega) (by omega) (by simp; omega) ?_)
  intro v2 w2 ho2 hg2 hne2
  have hb2 : Below w.heap.size w w2 := hb1.grown (grown_alloc hg2) s1 (fun k e => (ho1.lt k e).1)
  have s2 := hb2.size
  have hle2 : ∃ g c2, v2 = .slice (some ⟨g, 0, none⟩) (n + 1) c2 ∧ n + 1 ≤ c2 := by
    rcases ho2.2 with ⟨_, h0⟩ | ⟨g, c2, cur, rfl, _, _, h3, _⟩
    · omega
    · exact ⟨g, c2, rfl, h3⟩
  obtain ⟨g, c2, rfl, hgc⟩ := hle2
  have hr2 : Rd w2 (some ⟨g, 0, none⟩) (n + 1) c2 (l ++ [90]) := by
    refine rd_of_owns (base := w.heap.size) ?_ (by omega)
    rw [List.map_append]; exact ho2
  have hr3 : Rd w2 (some ⟨g, 0, none⟩) n c2 l := by
    have := rd_take hr2 n (by omega) (by simp)
    rwa [List.take_left' ha.hlen] at this
  have hglt := (ho2.lt g rfl)
  have ha2 := ha.below hb2
  have hp2 := hp.below hb2
  clear hg2 hb1 ho1 hne2 hr2
  go_wp2_with fail
  refine (newReader_lo _ _ _ _ _ hr3).mono ?_
  rintro e w3 ⟨r, a3, c3, rfl, hR3, hH3, hb3⟩
  have s3 := hb3.size
  go_wp2_with fail
  refine (new_any _ _ _ _ _ (ha2.below hb3)).mono ?_
  rintro e w4 ⟨p, rfl, hP4, hbp, hb4⟩
  have s4 := hb4.size
  have hrlt := hR3.rlt
  have hR4 := hR3.below hb4
  have ho4 : w4.ownsRow w.heap.size 5 1 (.slice (some ⟨g, 0, none⟩) (n + 1) c2) (n + 1) ((l ++ [90]).map B) := by
    have k := ho2.kept (row := none) ⟨hb3.os, hb3.tape, hb3.output, hb3.size, fun k hk _ => hb3.block k hk⟩ (by simp [Value.ownBlock])
    have k2 := k.kept (row := none) ⟨hb4.os, hb4.tape, hb4.output, hb4.size, fun k hk _ => hb4.block k hk⟩ (by simp [Value.ownBlock])
    rw [List.map_append]; exact k2
  have b04 : Below w.heap.size w w4 := (hb2.trans (hb3.mono s2)).trans (hb4.mono (by omega))
  have HYL : Hid ((l ++ [90]).length = n + 1) := by show _ = _; simp [ha.hlen]
  clear ho2 hR3 hr3 hb2 hb3 hb4 ha2 hp2
  generalize l ++ [90] = ys0 at *
  go_wp2_with fail
  go_loopw [8] (fun i wr => ∃ (j : Nat) (ys : List UInt8), j ≤ n + 1 ∧ i = .int .i64 j ∧ ys.length = n + 1 ∧ wr.ownsRow w.heap.size 5 1 (.slice (some ⟨g, 0, none⟩) (n + 1) c2) (n + 1) (ys.map B) ∧ IsR wr w2.heap.size r a3 n c3 l ∧ IsP wr w3.heap.size p (some ⟨w3.heap.size, 0, none⟩) n n 0 l ∧ Below w.heap.size w wr) (fun i _ => n + 1 - (intOf i).toNat)
  case atStart => exact ⟨0, ys0, by omega, rfl, HYL.out, ho4, hR4, hP4, b04⟩
  case round =>
    clear ho4 hR4 hP4 b04
    obtain ⟨j, ys, hj, rfl, hyl, ho, hR, hP, hb⟩ := hrel
    have HY : Hid (ys.length = n + 1) := hyl
    clear hyl
    by_cases hlt : j < n + 1
    · obtain ⟨y, hy⟩ : ∃ y, ys[j]? = some y := ⟨ys[j]'(by rw [HY.out]; exact hlt), List.getElem?_eq_getElem _⟩
      have hy8 := y.toNat_lt
      have cy : wr.cell? ⟨g, j, none⟩ = some (.int .u8 (y.toNat : Int)) := by
        rw [ho.cellAt j (by omega), List.getElem?_map, hy]; rfl
      have fy := ho.frozenAt j
      have hv : Value.int .u8 (((y.toNat : Int) + 1) % 256) = B (y + 1) := by
        unfold B
        rw [UInt8.toNat_add]
        congr 1
      have st := ho.stored j (.int .u8 (((y.toNat : Int) + 1) % 256))
      have HS : Hid (∀ W, wr.setCell ⟨g, j, none⟩ (.int .u8 (((y.toNat : Int) + 1) % 256)) = W → W.ownsRow w.heap.size 5 1 (.slice (some ⟨g, 0, none⟩) (n + 1) c2) (n + 1) ((ys.set j (y + 1)).map B) ∧ IsR W w2.heap.size r a3 n c3 l ∧ IsP W w3.heap.size p (some ⟨w3.heap.size, 0, none⟩) n n 0 l ∧ Below w.heap.size w W) := by
        rintro W rfl
        have hgr : wr.grownBy (wr.setCell ⟨g, j, none⟩ (.int .u8 (((y.toNat : Int) + 1) % 256))) (some g) := ⟨rfl, rfl, rfl, by simp, fun k _ hk => heap_setCell_other wr ⟨g, j, none⟩ k _ (fun e => hk (by simp [e]))⟩
        refine ⟨?_, isR_low hR hH3 hgr (by omega), isP_other hP hgr (by omega) (by omega), hb.setCell hglt.1 _⟩
        rw [List.map_set, ← hv]; exact st.1
      have hlt' : (j : Int) < (n : Int) + 1 := by omega
      clear hy hv st ho hR hP hb
      go_wp2
      go_roundw
      case rel => exact ⟨j + 1, ys.set j (y + 1), by omega, by go_num, by rw [List.length_set]; exact HY.out, (HS.out _ rfl).1, (HS.out _ rfl).2.1, (HS.out _ rfl).2.2.1, (HS.out _ rfl).2.2.2⟩
      case measure => simp [intOf]; omega
    · have hjn : j = n + 1 := by omega
      subst hjn
      have hps := hP.plt
      have hR5 : Rdr wr w2.heap.size r (l.drop 0) := hR.rdr
      clear ho HY hR
      rw [show ((n + 1 : Nat) : Int) = (n : Int) + 1 from by omega]
      go_wp2
      go_loopw [9, 10] (fun v i wt => ∃ (t k : Nat) (Vs : List (Option Addr × Nat × List UInt8)), t ≤ ns ∧ i = .int .i64 t ∧ GotF wt (p + 1) v Vs ∧ Vs.length ≤ t ∧ Rdr wt w2.heap.size r (l.drop k) ∧ IsP wt w3.heap.size p (some ⟨w3.heap.size, 0, none⟩) n n k l ∧ Below w.heap.size w wt) (fun _ i _ => ns - (intOf i).toNat)
      case atStart => exact ⟨0, 0, [], by omega, rfl, GotF.nil _ _, by simp, hR5, hP, hb⟩
      case round =>
        clear hR5 hP hb
        obtain ⟨t, k, Vs, ht, rfl, hG, hVt, hR, hP, hb⟩ := hrel
        by_cases hlt2 : t < ns
        · obtain ⟨b, off, rfl, hbw, hcs⟩ := hp.hcell (by omega)
          obtain ⟨q, hq⟩ : ∃ q, ps[t]? = some q := ⟨ps[t]'(by rw [hp.hlen]; exact hlt2), List.getElem?_eq_getElem _⟩
          have q0 : wr.cell? ⟨b, off + t * 2, none⟩ = some (.int .i64 q.kind) := (hb.cell (p := ⟨b, off + t * 2, none⟩) hbw).trans (hcs t q hq 0 _ rfl)
          have q1 : wr.cell? ⟨b, off + t * 2 + 1, none⟩ = some (.int .i64 q.n) := (hb.cell (p := ⟨b, off + t * 2 + 1, none⟩) hbw).trans (hcs t q hq 1 _ rfl)
          have hqn := hp.hn q (List.mem_of_getElem? hq)
          obtain ⟨qk, qn⟩ := q
          clear hcs hq
          have HLN : Hid (l.length = n) := ha.hlen
          have hpl := hP.plt
          have hrb0 : w2.heap.size ≤ r := by obtain ⟨_, _, h⟩ := hR; exact h.hbase
          have hpb0 := hP.hbase
          have hrlt3 : r < w3.heap.size := hrlt
          by_cases k1 : qk = 1
          · skip
            subst k1
            have hBa := (Below.refl wr.heap.size wr).alloc (Nat.le_refl _) (.cells #[.int .i64 1, .int .i64 qn] 47)
            have hR1 := rdr_below hR hBa (Nat.le_refl _) (by omega)
            have hP1 := hP.below hBa
            have hG1 := hG.below hBa
            have hb1 := hb.alloc hb.size (.cells #[.int .i64 1, .int .i64 qn] 47)
            have x1 : (wr.alloc (.cells #[.int .i64 1, .int .i64 qn] 47)).cell? ⟨wr.heap.size, 1, none⟩ = some (.int .i64 qn) := by
              rw [cell_of_row _ _ _ _ 47 (0, 0) (heap_alloc_new wr _)]; rfl
            go_wp2_with fail
            refine (rnum_u hR1 qn).mono ?_
            rintro e w5 ⟨rfl, hR5, hg5⟩
            have hP5 := isP_other hP1 hg5 (by omega) (by omega)
            have hG5 := hG1.keep hg5 (by omega)
            have x5 : w5.cell? ⟨wr.heap.size, 1, none⟩ = some (.int .i64 qn) := hg5.cell x1 (by simp; omega)
            have hb5 := hb1.grown hg5 (by simp; have := hb.size; omega) (fun k e => by simp at e; omega)
            have s5 := hg5.size
            clear hg5 hR1 hP1 hG1 hb1 x1
            go_wp2_with fail
            refine (pnum_u hP5 qn).mono ?_
            rintro e W ⟨rfl, hP', hg6⟩
            have hR' : Rdr W w2.heap.size r (l.drop (k + nK (l.drop k) qn)) := by
              rw [← List.drop_drop]; exact isR_other hR5 hg6 (by omega)
            have hG' := hG5.keep hg6 (by omega)
            have hb' := hb5.grown hg6 (by have := hb5.size; omega) (fun k e => by simp at e; omega)
            have hrW : r < W.heap.size := by have := hP'.plt; omega
            clear hg6 hP5 hR5 hG5 hb5 x5 hR hP hG hb hBa q0 q1
            generalize nV (l.drop k) qn = vv at *
            generalize nE (l.drop k) qn = ee at *
            generalize hKK : k + nK (l.drop k) qn = k' at *
            clear hKK
            have c0 := hP'.c0
            have c1 := hP'.c1
            have hkn := hP'.hk
            have HF : Hid (GotF W (p + 1) u9 Vs ∧ Rdr W w2.heap.size r (l.drop (k')) ∧ IsP W w3.heap.size p (some ⟨w3.heap.size, 0, none⟩) n n (k') l ∧ Below w.heap.size w W) := ⟨hG', hR', hP', hb'⟩
            by_cases hk0 : k' = n
            · have hkz : ¬ ((k' : Nat) : Int) < n := by omega
              have HZ : Hid (n - (k') = 0) := by show _ = _; omega
              clear hG' hR' hP' hb' hk0
              go_wp2
              go_quiet (fail)
              have hR2 := rdr_below HF.out.2.1 (drewN_below (Below.refl _ _) nq) (Nat.le_refl _) hrW
              have hP2 := HF.out.2.2.1.drew nq
              have hG2 := HF.out.1.below (drewN_below (Below.refl _ _) nq)
              have hb2 := drewN_below HF.out.2.2.2 nq
              clear HF c0 c1 hrW
              generalize W.drewN nq = W2 at *
              have d0 := hP2.c0
              have d1 := hP2.c1
              have hrW2 : r < W2.heap.size := by have := hP2.plt; omega
              have HLQ : Hid (∀ q, Calls Try.prog 26 #[.pointer (some ⟨r, 0, none⟩)] (W2.drewN q) fun e w' => e = .returned (.int .i64 ((n : Int) - (k' : Nat))) ∧ w' = W2.drewN q) := fun q => left_q hR2 HLN.out hkn q
              have HEQ : Hid (∀ q, Calls Try.prog 27 #[.pointer (some ⟨r, 0, none⟩)] (W2.drewN q) fun e w' => e = .returned (.int .i64 0) ∧ w' = W2.drewN q) := fun q => end_q 0 hR2 HLN.out (.inl ⟨HZ.out, rfl⟩) q
              have HF2 : Hid (GotF W2 (p + 1) u9 Vs ∧ Rdr W2 w2.heap.size r (l.drop (k')) ∧ IsP W2 w3.heap.size p (some ⟨w3.heap.size, 0, none⟩) n n (k') l ∧ Below w.heap.size w W2) := ⟨hG2, hR2, hP2, hb2⟩
              have hwk : IntKind.i64.wrap ((n : Int) - (k' : Nat)) = (n : Int) - (k' : Nat) := by rw [IntKind.wrap_i64]; omega
              clear hR2 hP2 hG2 hb2
              go_wp2
              go_quiet (first | (go_at_call 26; exact Calls.quiet_of_same (HLQ.out _)) | (go_at_call 27; exact Calls.quiet_of_same (HEQ.out _)))
              go_wp2
              go_roundw
              case rel => exact ⟨t + 1, k', Vs, by omega, by go_num, HF2.out.1.below (drewN_below (Below.refl _ _) _), by omega, rdr_below HF2.out.2.1 (drewN_below (Below.refl _ _) _) (Nat.le_refl _) hrW2, HF2.out.2.2.1.drew _, drewN_below HF2.out.2.2.2 _⟩
              case measure => simp [intOf]; omega
            · have hkz : ((k' : Nat) : Int) < n := by omega
              have HZ : Hid (n - (k') ≠ 0) := by show _ ≠ _; omega
              clear hG' hR' hP' hb' hk0
              go_wp2
              go_quiet (fail)
              have hR2 := rdr_below HF.out.2.1 (drewN_below (Below.refl _ _) nq) (Nat.le_refl _) hrW
              have hP2 := HF.out.2.2.1.drew nq
              have hG2 := HF.out.1.below (drewN_below (Below.refl _ _) nq)
              have hb2 := drewN_below HF.out.2.2.2 nq
              clear HF c0 c1 hrW
              generalize W.drewN nq = W2 at *
              have d0 := hP2.c0
              have d1 := hP2.c1
              have hrW2 : r < W2.heap.size := by have := hP2.plt; omega
              have HLQ : Hid (∀ q, Calls Try.prog 26 #[.pointer (some ⟨r, 0, none⟩)] (W2.drewN q) fun e w' => e = .returned (.int .i64 ((n : Int) - (k' : Nat))) ∧ w' = W2.drewN q) := fun q => left_q hR2 HLN.out hkn q
              have HEQ : Hid (∀ q, Calls Try.prog 27 #[.pointer (some ⟨r, 0, none⟩)] (W2.drewN q) fun e w' => e = .returned (.int .i64 11) ∧ w' = W2.drewN q) := fun q => end_q 11 hR2 HLN.out (.inr ⟨HZ.out, rfl⟩) q
              have HF2 : Hid (GotF W2 (p + 1) u9 Vs ∧ Rdr W2 w2.heap.size r (l.drop (k')) ∧ IsP W2 w3.heap.size p (some ⟨w3.heap.size, 0, none⟩) n n (k') l ∧ Below w.heap.size w W2) := ⟨hG2, hR2, hP2, hb2⟩
              have hwk : IntKind.i64.wrap ((n : Int) - (k' : Nat)) = (n : Int) - (k' : Nat) := by rw [IntKind.wrap_i64]; omega
              clear hR2 hP2 hG2 hb2
              go_wp2
              go_quiet (first | (go_at_call 26; exact Calls.quiet_of_same (HLQ.out _)) | (go_at_call 27; exact Calls.quiet_of_same (HEQ.out _)))
              go_wp2
              go_roundw
              case rel => exact ⟨t + 1, k', Vs, by omega, by go_num, HF2.out.1.below (drewN_below (Below.refl _ _) _), by omega, rdr_below HF2.out.2.1 (drewN_below (Below.refl _ _) _) (Nat.le_refl _) hrW2, HF2.out.2.2.1.drew _, drewN_below HF2.out.2.2.2 _⟩
              case measure => simp [intOf]; omega
          · by_cases k2 : qk = 2
            · skip
              subst k2
              have hBa := (Below.refl wr.heap.size wr).alloc (Nat.le_refl _) (.cells #[.int .i64 2, .int .i64 qn] 47)
              have hR1 := rdr_below hR hBa (Nat.le_refl _) (by omega)
              have hP1 := hP.below hBa
              have hG1 := hG.below hBa
              have hb1 := hb.alloc hb.size (.cells #[.int .i64 2, .int .i64 qn] 47)
              have x1 : (wr.alloc (.cells #[.int .i64 2, .int .i64 qn] 47)).cell? ⟨wr.heap.size, 1, none⟩ = some (.int .i64 qn) := by
                rw [cell_of_row _ _ _ _ 47 (0, 0) (heap_alloc_new wr _)]; rfl
              have hbl : (bL (l.drop k) qn).length ≤ n := by
                unfold bL
                rw [List.length_take, List.length_drop, HLN.out]; omega
              go_wp2_with fail
              refine (rbyt_u hR1 qn).mono ?_
              rintro e w5 ⟨a5, c5, rfl, hO5, hR5, hg5⟩
              have hP5 := isP_other hP1 hg5 (by omega) (by omega)
              have hG5 := hG1.keep hg5 (by omega)
              have x5 : w5.cell? ⟨wr.heap.size, 1, none⟩ = some (.int .i64 qn) := hg5.cell x1 (by simp; omega)
              have hb5 := hb1.grown hg5 (by simp; have := hb.size; omega) (fun k e => by simp at e; omega)
              have s5 := hg5.size
              have hO5' : Own1 w5 (p + 1) a5 c5 (bL (l.drop k) qn) := hO5.mono (by simp; omega)
              have hA5 : ∀ x ∈ Vs, Apart (sv x) (.slice a5 (bL (l.drop k) qn).length c5) := fun x hx => apart_of (hG1.hi x hx) hO5.lo
              clear hg5 hR1 hP1 hG1 hb1 x1 hO5
              go_wp2_with fail
              refine (pbyt_u hP5 qn).mono ?_
              rintro e w6 ⟨a6, c6, rfl, hr6, hP6, hg6⟩
              have hR6 : Rdr w6 w2.heap.size r (l.drop (k + bK (l.drop k) qn)) := by
                rw [← List.drop_drop]; exact isR_other hR5 hg6 (by omega)
              have hG6 := hG5.keep hg6 (by omega)
              have hO6 := own1_kept hO5' hg6 (by omega)
              have hb6 := hb5.grown hg6 (by have := hb5.size; omega) (fun k e => by simp at e; omega)
              have hpl6 := hP6.plt
              clear hg6 hP5 hR5 hG5 hb5 x5 hR hP hG hb hBa q0 q1 hO5'
              generalize bL (l.drop k) qn = bb at *
              generalize bE (l.drop k) qn = ee at *
              generalize hKK : k + bK (l.drop k) qn = k' at *
              clear hKK
              go_wp2_with fail
              refine (same_yes _ _ _ _ _ _ bb _ (hO6.rd (by omega)) hr6).mono ?_
              rintro e w7 ⟨rfl, hb67⟩
              have hR7 := rdr_below hR6 hb67 (Nat.le_refl _) (by omega)
              have hP7 := hP6.below hb67
              have hG7 := hG6.below hb67
              have hO7 := hO6.below hb67
              have hb7 : Below w.heap.size w w7 := hb6.trans (hb67.mono hb6.size)
              have s7 := hb67.size
              have hVn : Vs.length ≤ 1048576 := by omega
              obtain ⟨i3, hi3, hz30, hz31, hz32⟩ := info_parts Try.info30
              clear hR6 hP6 hG6 hO6 hb6 hb67 hr6
              go_wp2_with (at_builtin; refine wpList_append_own _ rfl (.tmp 116) (.tmp 118) 38 rfl (p + 1) 30 i3 (.slice none 0 0) 1 24 Try.underlying38 hi3 hz30 hz31 hz32 rfl (by decide) _ _ _ rfl (hG7.row.alloc _) ⟨w7.heap.size, 0, none⟩ 1 1 [sv (a5, c5, bb)] rfl rfl (cell_one_new' _ _ _) (by intro u hu; simp at hu; subst hu; rfl) (by unfold maxLen; omega) (by omega) (by simp; omega) ?_)
              intro v9 W ho9 hg9 _
              have hg9' := grown_alloc hg9
              have hG' := hG7.push (a5, c5, bb) hO7 (show bb.length ≤ 1048576 by omega) hA5 ho9 hg9'
              have hBp : Below (p + 1) w7 W := (Below.refl _ _).grown hg9' (by omega) (fun k e => (hG7.row.lt k e).1)
              have hR' := rdr_below hR7 hBp (by omega) (by omega)
              have hP' := isP_below hP7 hBp (by omega) (by omega)
              have hb' : Below w.heap.size w W := hb7.trans (hBp.mono (by omega))
              have hrW : r < W.heap.size := by have := hP'.plt; omega
              clear hg9 hg9' ho9 hBp hR7 hP7 hG7 hO7 hb7 hA5
              have c0 := hP'.c0
              have c1 := hP'.c1
              have hkn := hP'.hk
              have HF : Hid (GotF W (p + 1) v9 (Vs ++ [(a5, c5, bb)]) ∧ Rdr W w2.heap.size r (l.drop (k')) ∧ IsP W w3.heap.size p (some ⟨w3.heap.size, 0, none⟩) n n (k') l ∧ Below w.heap.size w W) := ⟨hG', hR', hP', hb'⟩
              by_cases hk0 : k' = n
              · have hkz : ¬ ((k' : Nat) : Int) < n := by omega
                have HZ : Hid (n - (k') = 0) := by show _ = _; omega
                clear hG' hR' hP' hb' hk0
                go_wp2
                go_quiet (fail)
                have hR2 := rdr_below HF.out.2.1 (drewN_below (Below.refl _ _) nq) (Nat.le_refl _) hrW
                have hP2 := HF.out.2.2.1.drew nq
                have hG2 := HF.out.1.below (drewN_below (Below.refl _ _) nq)
                have hb2 := drewN_below HF.out.2.2.2 nq
                clear HF c0 c1 hrW
                generalize W.drewN nq = W2 at *
                have d0 := hP2.c0
                have d1 := hP2.c1
                have hrW2 : r < W2.heap.size := by have := hP2.plt; omega
                have HLQ : Hid (∀ q, Calls Try.prog 26 #[.pointer (some ⟨r, 0, none⟩)] (W2.drewN q) fun e w' => e = .returned (.int .i64 ((n : Int) - (k' : Nat))) ∧ w' = W2.drewN q) := fun q => left_q hR2 HLN.out hkn q
                have HEQ : Hid (∀ q, Calls Try.prog 27 #[.pointer (some ⟨r, 0, none⟩)] (W2.drewN q) fun e w' => e = .returned (.int .i64 0) ∧ w' = W2.drewN q) := fun q => end_q 0 hR2 HLN.out (.inl ⟨HZ.out, rfl⟩) q
                have HF2 : Hid (GotF W2 (p + 1) v9 (Vs ++ [(a5, c5, bb)]) ∧ Rdr W2 w2.heap.size r (l.drop (k')) ∧ IsP W2 w3.heap.size p (some ⟨w3.heap.size, 0, none⟩) n n (k') l ∧ Below w.heap.size w W2) := ⟨hG2, hR2, hP2, hb2⟩
                have hwk : IntKind.i64.wrap ((n : Int) - (k' : Nat)) = (n : Int) - (k' : Nat) := by rw [IntKind.wrap_i64]; omega
                clear hR2 hP2 hG2 hb2
                go_wp2
                go_quiet (first | (go_at_call 26; exact Calls.quiet_of_same (HLQ.out _)) | (go_at_call 27; exact Calls.quiet_of_same (HEQ.out _)))
                go_wp2
                go_roundw
                case rel => exact ⟨t + 1, k', (Vs ++ [(a5, c5, bb)]), by omega, by go_num, HF2.out.1.below (drewN_below (Below.refl _ _) _), by simp; omega, rdr_below HF2.out.2.1 (drewN_below (Below.refl _ _) _) (Nat.le_refl _) hrW2, HF2.out.2.2.1.drew _, drewN_below HF2.out.2.2.2 _⟩
                case measure => simp [intOf]; omega
              · have hkz : ((k' : Nat) : Int) < n := by omega
                have HZ : Hid (n - (k') ≠ 0) := by show _ ≠ _; omega
                clear hG' hR' hP' hb' hk0
                go_wp2
                go_quiet (fail)
                have hR2 := rdr_below HF.out.2.1 (drewN_below (Below.refl _ _) nq) (Nat.le_refl _) hrW
                have hP2 := HF.out.2.2.1.drew nq
                have hG2 := HF.out.1.below (drewN_below (Below.refl _ _) nq)
                have hb2 := drewN_below HF.out.2.2.2 nq
                clear HF c0 c1 hrW
                generalize W.drewN nq = W2 at *
                have d0 := hP2.c0
                have d1 := hP2.c1
                have hrW2 : r < W2.heap.size := by have := hP2.plt; omega
                have HLQ : Hid (∀ q, Calls Try.prog 26 #[.pointer (some ⟨r, 0, none⟩)] (W2.drewN q) fun e w' => e = .returned (.int .i64 ((n : Int) - (k' : Nat))) ∧ w' = W2.drewN q) := fun q => left_q hR2 HLN.out hkn q
                have HEQ : Hid (∀ q, Calls Try.prog 27 #[.pointer (some ⟨r, 0, none⟩)] (W2.drewN q) fun e w' => e = .returned (.int .i64 11) ∧ w' = W2.drewN q) := fun q => end_q 11 hR2 HLN.out (.inr ⟨HZ.out, rfl⟩) q
                have HF2 : Hid (GotF W2 (p + 1) v9 (Vs ++ [(a5, c5, bb)]) ∧ Rdr W2 w2.heap.size r (l.drop (k')) ∧ IsP W2 w3.heap.size p (some ⟨w3.heap.size, 0, none⟩) n n (k') l ∧ Below w.heap.size w W2) := ⟨hG2, hR2, hP2, hb2⟩
                have hwk : IntKind.i64.wrap ((n : Int) - (k' : Nat)) = (n : Int) - (k' : Nat) := by rw [IntKind.wrap_i64]; omega
                clear hR2 hP2 hG2 hb2
                go_wp2
                go_quiet (first | (go_at_call 26; exact Calls.quiet_of_same (HLQ.out _)) | (go_at_call 27; exact Calls.quiet_of_same (HEQ.out _)))
                go_wp2
                go_roundw
                case rel => exact ⟨t + 1, k', (Vs ++ [(a5, c5, bb)]), by omega, by go_num, HF2.out.1.below (drewN_below (Below.refl _ _) _), by simp; omega, rdr_below HF2.out.2.1 (drewN_below (Below.refl _ _) _) (Nat.le_refl _) hrW2, HF2.out.2.2.1.drew _, drewN_below HF2.out.2.2.2 _⟩
                case measure => simp [intOf]; omega
            · by_cases k3 : qk = 3
              · skip
                subst k3
                have hBa := (Below.refl wr.heap.size wr).alloc (Nat.le_refl _) (.cells #[.int .i64 3, .int .i64 qn] 47)
                have hR1 := rdr_below hR hBa (Nat.le_refl _) (by omega)
                have hP1 := hP.below hBa
                have hG1 := hG.below hBa
                have hb1 := hb.alloc hb.size (.cells #[.int .i64 3, .int .i64 qn] 47)
                have x1 : (wr.alloc (.cells #[.int .i64 3, .int .i64 qn] 47)).cell? ⟨wr.heap.size, 1, none⟩ = some (.int .i64 qn) := by
                  rw [cell_of_row _ _ _ _ 47 (0, 0) (heap_alloc_new wr _)]; rfl
                go_wp2_with fail
                refine (rtxt_u hR1).mono ?_
                rintro e w5 ⟨rfl, hR5, hg5⟩
                have hP5 := isP_other hP1 hg5 (by omega) (by omega)
                have hG5 := hG1.keep hg5 (by omega)
                have hb5 := hb1.grown hg5 (by simp; have := hb.size; omega) (fun k e => by simp at e; omega)
                have s5 := hg5.size
                clear hg5 hR1 hP1 hG1 hb1 x1
                go_wp2_with fail
                refine (ptxt_u hP5).mono ?_
                rintro e W ⟨rfl, hP', hg6⟩
                have hR' : Rdr W w2.heap.size r (l.drop (k + tK (l.drop k))) := by
                  rw [← List.drop_drop]; exact isR_other hR5 hg6 (by omega)
                have hG' := hG5.keep hg6 (by omega)
                have hb' := hb5.grown hg6 (by have := hb5.size; omega) (fun k e => by simp at e; omega)
                have hrW : r < W.heap.size := by have := hP'.plt; omega
                clear hg6 hP5 hR5 hG5 hb5 hR hP hG hb hBa q0 q1
                generalize (⟨(tS (l.drop k)).toArray⟩ : ByteArray) = vv at *
                generalize tE (l.drop k) = ee at *
                generalize hKK : k + tK (l.drop k) = k' at *
                clear hKK
                have c0 := hP'.c0
                have c1 := hP'.c1
                have hkn := hP'.hk
                have HF : Hid (GotF W (p + 1) u9 Vs ∧ Rdr W w2.heap.size r (l.drop (k')) ∧ IsP W w3.heap.size p (some ⟨w3.heap.size, 0, none⟩) n n (k') l ∧ Below w.heap.size w W) := ⟨hG', hR', hP', hb'⟩
                by_cases hk0 : k' = n
                · have hkz : ¬ ((k' : Nat) : Int) < n := by omega
                  have HZ : Hid (n - (k') = 0) := by show _ = _; omega
                  clear hG' hR' hP' hb' hk0
                  go_wp2
                  go_quiet (fail)
                  have hR2 := rdr_below HF.out.2.1 (drewN_below (Below.refl _ _) nq) (Nat.le_refl _) hrW
                  have hP2 := HF.out.2.2.1.drew nq
                  have hG2 := HF.out.1.below (drewN_below (Below.refl _ _) nq)
                  have hb2 := drewN_below HF.out.2.2.2 nq
                  clear HF c0 c1 hrW
                  generalize W.drewN nq = W2 at *
                  have d0 := hP2.c0
                  have d1 := hP2.c1
                  have hrW2 : r < W2.heap.size := by have := hP2.plt; omega
                  have HLQ : Hid (∀ q, Calls Try.prog 26 #[.pointer (some ⟨r, 0, none⟩)] (W2.drewN q) fun e w' => e = .returned (.int .i64 ((n : Int) - (k' : Nat))) ∧ w' = W2.drewN q) := fun q => left_q hR2 HLN.out hkn q
                  have HEQ : Hid (∀ q, Calls Try.prog 27 #[.pointer (some ⟨r, 0, none⟩)] (W2.drewN q) fun e w' => e = .returned (.int .i64 0) ∧ w' = W2.drewN q) := fun q => end_q 0 hR2 HLN.out (.inl ⟨HZ.out, rfl⟩) q
                  have HF2 : Hid (GotF W2 (p + 1) u9 Vs ∧ Rdr W2 w2.heap.size r (l.drop (k')) ∧ IsP W2 w3.heap.size p (some ⟨w3.heap.size, 0, none⟩) n n (k') l ∧ Below w.heap.size w W2) := ⟨hG2, hR2, hP2, hb2⟩
                  have hwk : IntKind.i64.wrap ((n : Int) - (k' : Nat)) = (n : Int) - (k' : Nat) := by rw [IntKind.wrap_i64]; omega
                  clear hR2 hP2 hG2 hb2
                  go_wp2
                  go_quiet (first | (go_at_call 26; exact Calls.quiet_of_same (HLQ.out _)) | (go_at_call 27; exact Calls.quiet_of_same (HEQ.out _)))
                  go_wp2
                  go_roundw
                  case rel => exact ⟨t + 1, k', Vs, by omega, by go_num, HF2.out.1.below (drewN_below (Below.refl _ _) _), by omega, rdr_below HF2.out.2.1 (drewN_below (Below.refl _ _) _) (Nat.le_refl _) hrW2, HF2.out.2.2.1.drew _, drewN_below HF2.out.2.2.2 _⟩
                  case measure => simp [intOf]; omega
                · have hkz : ((k' : Nat) : Int) < n := by omega
                  have HZ : Hid (n - (k') ≠ 0) := by show _ ≠ _; omega
                  clear hG' hR' hP' hb' hk0
                  go_wp2
                  go_quiet (fail)
                  have hR2 := rdr_below HF.out.2.1 (drewN_below (Below.refl _ _) nq) (Nat.le_refl _) hrW
                  have hP2 := HF.out.2.2.1.drew nq
                  have hG2 := HF.out.1.below (drewN_below (Below.refl _ _) nq)
                  have hb2 := drewN_below HF.out.2.2.2 nq
                  clear HF c0 c1 hrW
                  generalize W.drewN nq = W2 at *
                  have d0 := hP2.c0
                  have d1 := hP2.c1
                  have hrW2 : r < W2.heap.size := by have := hP2.plt; omega
                  have HLQ : Hid (∀ q, Calls Try.prog 26 #[.pointer (some ⟨r, 0, none⟩)] (W2.drewN q) fun e w' => e = .returned (.int .i64 ((n : Int) - (k' : Nat))) ∧ w' = W2.drewN q) := fun q => left_q hR2 HLN.out hkn q
                  have HEQ : Hid (∀ q, Calls Try.prog 27 #[.pointer (some ⟨r, 0, none⟩)] (W2.drewN q) fun e w' => e = .returned (.int .i64 11) ∧ w' = W2.drewN q) := fun q => end_q 11 hR2 HLN.out (.inr ⟨HZ.out, rfl⟩) q
                  have HF2 : Hid (GotF W2 (p + 1) u9 Vs ∧ Rdr W2 w2.heap.size r (l.drop (k')) ∧ IsP W2 w3.heap.size p (some ⟨w3.heap.size, 0, none⟩) n n (k') l ∧ Below w.heap.size w W2) := ⟨hG2, hR2, hP2, hb2⟩
                  have hwk : IntKind.i64.wrap ((n : Int) - (k' : Nat)) = (n : Int) - (k' : Nat) := by rw [IntKind.wrap_i64]; omega
                  clear hR2 hP2 hG2 hb2
                  go_wp2
                  go_quiet (first | (go_at_call 26; exact Calls.quiet_of_same (HLQ.out _)) | (go_at_call 27; exact Calls.quiet_of_same (HEQ.out _)))
                  go_wp2
                  go_roundw
                  case rel => exact ⟨t + 1, k', Vs, by omega, by go_num, HF2.out.1.below (drewN_below (Below.refl _ _) _), by omega, rdr_below HF2.out.2.1 (drewN_below (Below.refl _ _) _) (Nat.le_refl _) hrW2, HF2.out.2.2.1.drew _, drewN_below HF2.out.2.2.2 _⟩
                  case measure => simp [intOf]; omega
              · have n1 : (qk == 1) = false := by simpa using k1
                have n2 : (qk == 2) = false := by simpa using k2
                have n3 : (qk == 3) = false := by simpa using k3
                clear k1 k2 k3
                go_wp2
                have hBa := (Below.refl wr.heap.size wr).alloc (Nat.le_refl _) (.cells #[.int .i64 qk, .int .i64 qn] 47)
                have hR' := rdr_below hR hBa (Nat.le_refl _) (by have := hP.plt; omega)
                have hP' := hP.below hBa
                have hG' := hG.below hBa
                have hb' := hb.alloc hb.size (.cells #[.int .i64 qk, .int .i64 qn] 47)
                generalize wr.alloc (.cells #[.int .i64 qk, .int .i64 qn] 47) = W at *
                have hrW : r < W.heap.size := by have := hP'.plt; omega
                clear hR hP hG hb hBa q0 q1
                have c0 := hP'.c0
                have c1 := hP'.c1
                have hkn := hP'.hk
                have HF : Hid (GotF W (p + 1) u9 Vs ∧ Rdr W w2.heap.size r (l.drop (k)) ∧ IsP W w3.heap.size p (some ⟨w3.heap.size, 0, none⟩) n n (k) l ∧ Below w.heap.size w W) := ⟨hG', hR', hP', hb'⟩
                by_cases hk0 : k = n
                · have hkz : ¬ ((k : Nat) : Int) < n := by omega
                  have HZ : Hid (n - (k) = 0) := by show _ = _; omega
                  clear hG' hR' hP' hb' hk0
                  go_wp2
                  go_quiet (fail)
                  have hR2 := rdr_below HF.out.2.1 (drewN_below (Below.refl _ _) nq) (Nat.le_refl _) hrW
                  have hP2 := HF.out.2.2.1.drew nq
                  have hG2 := HF.out.1.below (drewN_below (Below.refl _ _) nq)
                  have hb2 := drewN_below HF.out.2.2.2 nq
                  clear HF c0 c1 hrW
                  generalize W.drewN nq = W2 at *
                  have d0 := hP2.c0
                  have d1 := hP2.c1
                  have hrW2 : r < W2.heap.size := by have := hP2.plt; omega
                  have HLQ : Hid (∀ q, Calls Try.prog 26 #[.pointer (some ⟨r, 0, none⟩)] (W2.drewN q) fun e w' => e = .returned (.int .i64 ((n : Int) - (k : Nat))) ∧ w' = W2.drewN q) := fun q => left_q hR2 HLN.out hkn q
                  have HEQ : Hid (∀ q, Calls Try.prog 27 #[.pointer (some ⟨r, 0, none⟩)] (W2.drewN q) fun e w' => e = .returned (.int .i64 0) ∧ w' = W2.drewN q) := fun q => end_q 0 hR2 HLN.out (.inl ⟨HZ.out, rfl⟩) q
                  have HF2 : Hid (GotF W2 (p + 1) u9 Vs ∧ Rdr W2 w2.heap.size r (l.drop (k)) ∧ IsP W2 w3.heap.size p (some ⟨w3.heap.size, 0, none⟩) n n (k) l ∧ Below w.heap.size w W2) := ⟨hG2, hR2, hP2, hb2⟩
                  have hwk : IntKind.i64.wrap ((n : Int) - (k : Nat)) = (n : Int) - (k : Nat) := by rw [IntKind.wrap_i64]; omega
                  clear hR2 hP2 hG2 hb2
                  go_wp2
                  go_quiet (first | (go_at_call 26; exact Calls.quiet_of_same (HLQ.out _)) | (go_at_call 27; exact Calls.quiet_of_same (HEQ.out _)))
                  go_wp2
                  go_roundw
                  case rel => exact ⟨t + 1, k, Vs, by omega, by go_num, HF2.out.1.below (drewN_below (Below.refl _ _) _), by omega, rdr_below HF2.out.2.1 (drewN_below (Below.refl _ _) _) (Nat.le_refl _) hrW2, HF2.out.2.2.1.drew _, drewN_below HF2.out.2.2.2 _⟩
                  case measure => simp [intOf]; omega
                · have hkz : ((k : Nat) : Int) < n := by omega
                  have HZ : Hid (n - (k) ≠ 0) := by show _ ≠ _; omega
                  clear hG' hR' hP' hb' hk0
                  go_wp2
                  go_quiet (fail)
                  have hR2 := rdr_below HF.out.2.1 (drewN_below (Below.refl _ _) nq) (Nat.le_refl _) hrW
                  have hP2 := HF.out.2.2.1.drew nq
                  have hG2 := HF.out.1.below (drewN_below (Below.refl _ _) nq)
                  have hb2 := drewN_below HF.out.2.2.2 nq
                  clear HF c0 c1 hrW
                  generalize W.drewN nq = W2 at *
                  have d0 := hP2.c0
                  have d1 := hP2.c1
                  have hrW2 : r < W2.heap.size := by have := hP2.plt; omega
                  have HLQ : Hid (∀ q, Calls Try.prog 26 #[.pointer (some ⟨r, 0, none⟩)] (W2.drewN q) fun e w' => e = .returned (.int .i64 ((n : Int) - (k : Nat))) ∧ w' = W2.drewN q) := fun q => left_q hR2 HLN.out hkn q
                  have HEQ : Hid (∀ q, Calls Try.prog 27 #[.pointer (some ⟨r, 0, none⟩)] (W2.drewN q) fun e w' => e = .returned (.int .i64 11) ∧ w' = W2.drewN q) := fun q => end_q 11 hR2 HLN.out (.inr ⟨HZ.out, rfl⟩) q
                  have HF2 : Hid (GotF W2 (p + 1) u9 Vs ∧ Rdr W2 w2.heap.size r (l.drop (k)) ∧ IsP W2 w3.heap.size p (some ⟨w3.heap.size, 0, none⟩) n n (k) l ∧ Below w.heap.size w W2) := ⟨hG2, hR2, hP2, hb2⟩
                  have hwk : IntKind.i64.wrap ((n : Int) - (k : Nat)) = (n : Int) - (k : Nat) := by rw [IntKind.wrap_i64]; omega
                  clear hR2 hP2 hG2 hb2
                  go_wp2
                  go_quiet (first | (go_at_call 26; exact Calls.quiet_of_same (HLQ.out _)) | (go_at_call 27; exact Calls.quiet_of_same (HEQ.out _)))
                  go_wp2
                  go_roundw
                  case rel => exact ⟨t + 1, k, Vs, by omega, by go_num, HF2.out.1.below (drewN_below (Below.refl _ _) _), by omega, rdr_below HF2.out.2.1 (drewN_below (Below.refl _ _) _) (Nat.le_refl _) hrW2, HF2.out.2.2.1.drew _, drewN_below HF2.out.2.2.2 _⟩
                  case measure => simp [intOf]; omega
        · have hv : ∃ av cv, u9 = .slice av Vs.length cv := by
            rcases hG.row.2 with ⟨h1, h2⟩ | ⟨g', cap', cur, h3, _⟩
            · exact ⟨none, 0, by rw [h1, h2]⟩
            · exact ⟨_, _, h3⟩
          obtain ⟨av, cv, rfl⟩ := hv
          have hpl := hP.plt
          have hsz := hb.size
          have hwp : w.heap.size ≤ p + 1 := by have := hP.hbase; omega
          obtain ⟨b0, hIN⟩ := hG.ownIn (by omega) (by omega)
          clear hG hR hP
          go_wp2_with fail
          refine (own_keep _ (p + 1) Vs.length cv b0 0 av _ _ _ hIN).mono ?_
          rintro e w8 ⟨rfl, hb8, _⟩
          have hb9 : Below w.heap.size w w8 := hb.trans (hb8.mono hwp)
          have s9 := hb9.size
          clear hIN hb8 hb
          go_wp2_with fail
          refine (heads_any _).mono ?_
          rintro e w10 ⟨rfl, hb10⟩
          go_wp2
          go_ret
          exact ⟨rfl, hb9.trans (hb10.mono s9)⟩
end Go.Proofs.Ytncgdbjjlhohiab
