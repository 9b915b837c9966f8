import Derived.Test.YtiggbnkmggbpiaaGreatDoorLor
namespace Go.Proofs.YtiggbnkmggbpiaaGreatDoor
open Go.RowKit
set_option linter.unusedVariables false

theorem Good.len {t : List UInt8} {off : Nat} {ts : List (Tk × Nat)} (h : Good t off ts) : ts.length + off ≤ t.length + 1 := by
  induction h with
  | @fin off ho h1 h2 => simp; omega
  | @more off len o k ts ho h1 h2 h3 h4 h5 h6 hg ih => simp; omega
theorem spt_of {w : World} {b : Nat} {a ln cl : Int} (h : w.heap[b]? = some (.cells #[.int .i64 a, .int .i64 ln, .int .i64 cl] 25 (0, 0))) : w.cell? ⟨b, 0, none⟩ = some (.int .i64 a) ∧ w.cell? ⟨b, 1, none⟩ = some (.int .i64 ln) ∧ w.cell? ⟨b, 2, none⟩ = some (.int .i64 cl) := by
  have f1 := fun i => cell_of_row w b i _ _ (0, 0) h
  exact ⟨f1 0, f1 1, f1 2⟩
theorem cut_run (s : ByteArray) (o n : Nat) (kt : List UInt8) (h : o + n ≤ s.size) (e : (s.data.toList.drop o).take n = kt) (w : World) (z : Int) (hz : z = (o : Int) + n) : (Instr.slice 9 (.string s) (some (.int .i64 (o : Int))) (some (.int .i64 z)) none).run Tryz.prog w = .ok (.string ⟨kt.toArray⟩) w := by
  subst hz
  have h1 : s.extract o (o + n) = ⟨kt.toArray⟩ := (same_bytes kt _ (by rw [Lib.extract_data, ← e]; congr 1; omega)).symm
  have h2 : (0 : Int) ≤ o ∧ (o : Int) ≤ (o : Int) + n ∧ (o : Int) + n ≤ s.size := by omega
  have h3 : ((o : Int) + n).toNat = o + n := by omega
  simp [go_sem, h2, h3, h1]
set_option pp.maxSteps 200000 in
set_option maxHeartbeats 4000000 in
set_option maxRecDepth 100000 in
theorem order_good (B0 : Nat) (p : Nat → Addr) (s : ByteArray) (w : World) (hE : Env B0 p w) (hF : EnvF B0 p w) (hT : EnvT w) (hs : s.size < 4611686018427387904) (ts : List (Tk × Nat)) (hx : scanA s.data.toList = .inl ts) :
    Calls Tryz.prog 3 #[.string s] w fun e w' => e = .returned (.bool true) ∧ Below w.heap.size w w' := by
  have c1 := Scan_any B0 p s w hE hF hs
  rw [hx] at c1
  obtain ⟨hG, hl⟩ := scanA_good hx
  rw [len_all] at hl
  have cal : ∀ W, Below w.heap.size w W → Calls Tryz.prog 12 #[] W fun e w' => e = .returned (.bool true) ∧ Below W.heap.size W w' := fun W hb => alive_any B0 p W (hE.below (hb.mono hE.size)) (hF.below hE (hb.mono hE.size)) (hT.below hb)
  go_enter Tryz.func3, Tryz.ntmps3
  go_wp2_with fail
  refine c1.mono ?_
  rintro e w1 ⟨v, rfl, hO, hb1⟩
  rw [tks_tps] at hO
  have hR := row_own hO (by simp)
  obtain ⟨g, cap, hv⟩ : ∃ g cap, v = .slice (some ⟨g, 0, none⟩) ts.length cap := by
    rcases hO.2 with ⟨_, h0⟩ | ⟨g, cap, cur, hv, _⟩
    · exact absurd (List.eq_nil_of_length_eq_zero h0) hG.ne
    · exact ⟨g, cap, hv⟩
  subst hv
  unfold zero5
  clear c1 hO
  have hRa := rowT_below hR ((Below.refl w1.heap.size w1).alloc (Nat.le_refl _) (.cells #[.int .i64 0, .int .i64 0, .int .i64 0, .int .i64 0, .string ⟨#[]⟩] 27))
  have hba := hb1.alloc hb1.size (.cells #[.int .i64 0, .int .i64 0, .int .i64 0, .int .i64 0, .string ⟨#[]⟩] 27)
  go_wp2_with fail
  generalize (w1.alloc (.cells #[.int .i64 0, .int .i64 0, .int .i64 0, .int .i64 0, .string ⟨#[]⟩] 27)) = wa at *
  obtain ⟨n, hn⟩ : ∃ n, n = ts.length := ⟨_, rfl⟩
  rw [← hn] at hRa ⊢
  have HN : Hid (n = ts.length) := hn
  have hnl : n ≤ 262145 := by have := hG.len; rw [len_all] at this; omega
  clear hn hR
  go_loopw [7, 8] (fun la i wr => ∃ j : Nat, j ≤ n ∧ i = .int .i64 j ∧ (∃ z : Int, la = .int .i64 z ∧ ∀ k o, ts[j]? = some (k, o) → z < o) ∧ Below wa.heap.size wa wr) (fun _ i _ => n - (intOf i).toNat)
  case atStart => exact ⟨0, by omega, rfl, ⟨-1, rfl, fun k o _ => by omega⟩, Below.refl _ _⟩
  case round =>
    obtain ⟨j, hj, rfl, ⟨z, rfl, hz⟩, hb⟩ := hrel
    by_cases hlt : j < n
    · have hlt' : (j : Int) < n := by omega
      obtain ⟨⟨k, o⟩, hjo⟩ : ∃ x, ts[j]? = some x := ⟨ts[j]'(by rw [← HN.out]; exact hlt), List.getElem?_eq_getElem _⟩
      obtain ⟨o1, o2, o3, o4, o5, o6⟩ := hG.ord hjo
      have hzo := hz k o hjo
      rw [len_all] at o1 o2
      have hRr := rowT_below hRa hb
      have hcell : ∀ i, i < 7 → ∀ u, (tpL (tpOf s.data.toList (k, o)))[i]? = some u → wr.cell? ⟨g, j * 7 + i, none⟩ = some u := fun i hi u hu => by
        have := rowT_at hRr (j * 7 + i) u (by rw [tps_at _ j (tpOf s.data.toList (k, o)) (by rw [List.getElem?_map, hjo]; rfl) i hi]; exact hu)
        rwa [Nat.zero_add] at this
      obtain ⟨kk, kt, kv, kh⟩ := k
      have x0 : wr.cell? ⟨g, j * 7, none⟩ = some (.int .i64 (kk : Int)) := hcell 0 (by omega) _ rfl
      have x1 : wr.cell? ⟨g, j * 7 + 1, none⟩ = some (.int .i64 (o : Int)) := hcell 1 (by omega) _ rfl
      have x2 : wr.cell? ⟨g, j * 7 + 2, none⟩ = some (.int .i64 (lineN s.data.toList o : Int)) := hcell 2 (by omega) _ rfl
      have x3 : wr.cell? ⟨g, j * 7 + 3, none⟩ = some (.int .i64 (colN s.data.toList o : Int)) := hcell 3 (by omega) _ rfl
      have x4 : wr.cell? ⟨g, j * 7 + 4, none⟩ = some (.string ⟨kt.toArray⟩) := hcell 4 (by omega) _ rfl
      clear hcell
      have ca := fun w => at_any s (o : Int) w hs
      rw [inN_nat s o o1] at ca
      unfold spV at ca
      obtain ⟨ln, hln⟩ : ∃ ln, ln = lineN s.data.toList o := ⟨_, rfl⟩
      obtain ⟨cl, hcl⟩ : ∃ cl, cl = colN s.data.toList o := ⟨_, rfl⟩
      rw [← hln, ← hcl] at ca
      rw [← hln] at x2
      rw [← hcl] at x3
      have HZ : Hid (z < (o : Int)) := hzo
      have i3 : ¬ s.size < o := by omega
      have hgr : g < wr.heap.size := by
        cases hRr with
        | some hg _ _ => exact hg
      have hvb : (wr.alloc (.cells #[.int .i64 (o : Int), .int .i64 (ln : Int), .int .i64 (cl : Int)] 25)).heap[wr.heap.size]? = some (.cells #[.int .i64 (o : Int), .int .i64 (ln : Int), .int .i64 (cl : Int)] 25 (0, 0)) := push_at wr.heap _
      obtain ⟨b0, b1, b2⟩ := spt_of hvb
      have hlb := heap_lt hvb
      have hbr : Below wr.heap.size wr (wr.alloc (.cells #[.int .i64 (o : Int), .int .i64 (ln : Int), .int .i64 (cl : Int)] 25)) := (Below.refl _ _).alloc (Nat.le_refl _) _
      have y0 := (cell_below hbr g (j * 7) hgr).trans x0
      have y4 := (cell_below hbr g (j * 7 + 4) hgr).trans x4
      have hgb : g < (wr.alloc (.cells #[.int .i64 (o : Int), .int .i64 (ln : Int), .int .i64 (cl : Int)] 25)).heap.size := Nat.lt_of_lt_of_le hgr hbr.size
      have hbb := hb.trans (hbr.mono hb.size)
      have HO4 : Hid (∀ k' o', ts[j + 1]? = some (k', o') → o < o') := o4
      have HO2 : Hid (o = s.size ↔ kk = 0) := o2
      have HO3 : Hid (kk = 0 ↔ j + 1 = ts.length) := o3
      have HO5 : Hid (kk = 1 → o + kt.length ≤ s.data.toList.length ∧ (s.data.toList.drop o).take kt.length = kt) := o5
      have HO6 : Hid (kk = 3 → s.data.toList[o]? = some 34) := o6
      clear hln hcl o2 o3 o4 o5 o6 hz hvb hbr hRr hjo hzo hx
      go_wp2
      generalize (wr.alloc (.cells #[.int .i64 (o : Int), .int .i64 (ln : Int), .int .i64 (cl : Int)] 25)) = wb at *
      have hca := ca (wb.drewN 1)
      have i1 : ¬ (o : Int) ≤ z := by have := HZ.out; omega
      obtain ⟨e0, j0⟩ : ∃ e0, ((kk : Int) == 0) = e0 := ⟨_, rfl⟩
      have j1 : ((o : Int) == (s.size : Int)) = e0 := by
        rw [← j0, Bool.eq_iff_iff, beq_iff_eq, beq_iff_eq]
        have := HO2.out
        constructor <;> intro h <;> omega
      have j2 : (IntKind.i64.wrap ((j : Int) + 1) == (n : Int)) = e0 := by
        rw [← j0, Bool.eq_iff_iff, beq_iff_eq, beq_iff_eq, show IntKind.i64.wrap ((j : Int) + 1) = (j : Int) + 1 from by rw [IntKind.wrap_i64]; omega]
        have h9 := HO3.out
        have h8 := HN.out
        constructor <;> intro h <;> omega
      go_region_held_law (fun w' => w'.cell? ⟨wr.heap.size, 0, none⟩ = some (.int .i64 (o : Int)) ∧ w'.cell? ⟨wr.heap.size, 1, none⟩ = some (.int .i64 (ln : Int)) ∧ w'.cell? ⟨wr.heap.size, 2, none⟩ = some (.int .i64 (cl : Int)) ∧ w'.cell? ⟨g, j * 7, none⟩ = some (.int .i64 (kk : Int)))
        (first | exact ⟨b0, b1, b2, y0⟩ | exact k1 | (go_keep; done))
        (first | (go_at_call 10; refine hca.mono ?_; rintro e w2 ⟨rfl, hb2⟩; have hbd : Below wb.heap.size wb w2 := (below_drewN (Below.refl _ _) 1).trans (hb2.mono (by rw [World.heap_drewN]; exact Nat.le_refl _)); have k1 : (fun w' => w'.cell? ⟨wr.heap.size, 0, none⟩ = some (.int .i64 (o : Int)) ∧ w'.cell? ⟨wr.heap.size, 1, none⟩ = some (.int .i64 (ln : Int)) ∧ w'.cell? ⟨wr.heap.size, 2, none⟩ = some (.int .i64 (cl : Int)) ∧ w'.cell? ⟨g, j * 7, none⟩ = some (.int .i64 (kk : Int))) w2 := ⟨(cell_below hbd _ _ hlb).trans b0, (cell_below hbd _ _ hlb).trans b1, (cell_below hbd _ _ hlb).trans b2, (cell_below hbd _ _ hgb).trans y0⟩))
      obtain ⟨q0, q1, q2, q3⟩ := k1
      have q4 := (cell_below hbd g (j * 7 + 4) hgb).trans y4
      have hb5 := hbb.trans (hbd.mono hbb.size)
      clear b0 b1 b2 y0 y4 hca hb2 j0 j1 j2 i1
      by_cases hk1 : kk = 1
      · subst hk1
        obtain ⟨l1, l2⟩ := HO5.out rfl
        rw [len_all] at l1
        have HM : Hid (o + kt.length ≤ s.size ∧ (s.data.toList.drop o).take kt.length = kt) := ⟨l1, l2⟩
        clear l1 l2
        go_wp2
        have hw1 : IntKind.i64.wrap ((s.size : Int) - o) = (s.size : Int) - o := by have := HM.out.1; rw [IntKind.wrap_i64]; omega
        have hw2 : IntKind.i64.wrap ((o : Int) + kt.length) = (o : Int) + kt.length := by have := HM.out.1; rw [IntKind.wrap_i64]; omega
        have m1 : ¬ ((s.size : Int) - o < kt.length) := by have := HM.out.1; omega
        have m2 : ¬ (IntKind.i64.wrap ((s.size : Int) - o) < kt.length) := by rw [hw1]; exact m1
        have hsl := fun w => cut_run s o kt.length kt HM.out.1 HM.out.2 w ((o : Int) + kt.length) rfl
        have hsl2 := fun w => cut_run s o kt.length kt HM.out.1 HM.out.2 w (IntKind.i64.wrap ((o : Int) + kt.length)) hw2
        clear hw1 hw2
        go_quiet (fail)
        have hb6 := below_drewN hb5 nq
        generalize (w2.drewN nq) = w6 at *
        clear q0 q1 q2 q3 q4 hb5
        go_wp2
        go_roundw
        case rel => exact ⟨j + 1, by omega, by go_num, ⟨(o : Int), rfl, fun k' o' h => by have := HO4.out k' o' h; omega⟩, hb6⟩
        case measure => simp [intOf]; omega
      · have hk1' : ((kk : Int) == 1) = false := by rw [beq_eq_false_iff_ne]; omega
        by_cases hk3 : kk = 3
        · subst hk3
          have l1 := HO6.out rfl
          have ho : o < s.size := by
            obtain ⟨h, _⟩ := List.getElem?_eq_some_iff.1 l1
            rw [len_all] at h
            exact h
          have l2 : s[o] = 34 := by have := snoc_all s o ho; rw [l1] at this; exact (Option.some.inj this).symm
          have hix : ∀ w, (Instr.index 9 (.string s) (.int .i64 (o : Int))).run Tryz.prog w = .ok (.int .u8 34) w := fun w => by
            have := index_at s o _ w ho rfl
            rw [l2] at this
            exact this
          clear l1 l2
          go_wp2
          go_quiet (fail)
          have hb6 := below_drewN hb5 nq
          generalize (w2.drewN nq) = w6 at *
          clear q0 q1 q2 q3 q4 hb5
          go_wp2
          go_roundw
          case rel => exact ⟨j + 1, by omega, by go_num, ⟨(o : Int), rfl, fun k' o' h => by have := HO4.out k' o' h; omega⟩, hb6⟩
          case measure => simp [intOf]; omega
        · have hk3' : ((kk : Int) == 3) = false := by rw [beq_eq_false_iff_ne]; omega
          go_wp2
          go_quiet (fail)
          have hb6 := below_drewN hb5 nq
          generalize (w2.drewN nq) = w6 at *
          clear q0 q1 q2 q3 q4 hb5
          go_wp2
          go_roundw
          case rel => exact ⟨j + 1, by omega, by go_num, ⟨(o : Int), rfl, fun k' o' h => by have := HO4.out k' o' h; omega⟩, hb6⟩
          case measure => simp [intOf]; omega
    · have hlt' : ¬ (j : Int) < n := by omega
      have hn0 : 0 < n := by
        rw [HN.out]
        cases hc : ts with
        | nil => exact absurd hc hG.ne
        | cons x y => simp
      have hn0' : (0 : Int) < n := by omega
      have hbw := hba.trans (hb.mono hba.size)
      clear hz hx
      go_wp2_with fail
      refine (cal _ hbw).mono ?_
      rintro e w9 ⟨rfl, hb9⟩
      have hbz := hbw.trans (hb9.mono hbw.size)
      clear hb9 cal
      go_wp2
      go_ret
      exact ⟨rfl, hbz⟩
theorem order_any (B0 : Nat) (p : Nat → Addr) (s : ByteArray) (w : World) (hE : Env B0 p w) (hF : EnvF B0 p w) (hT : EnvT w) (hs : s.size < 4611686018427387904) :
    Calls Tryz.prog 3 #[.string s] w fun e w' => e = .returned (.bool true) ∧ Below w.heap.size w w' := by
  cases hx : scanA s.data.toList with
  | inl ts => exact order_good B0 p s w hE hF hT hs ts hx
  | inr ca => exact order_bad B0 p s w hE hF hT hs ca.1 ca.2 hx
end Go.Proofs.YtiggbnkmggbpiaaGreatDoor
