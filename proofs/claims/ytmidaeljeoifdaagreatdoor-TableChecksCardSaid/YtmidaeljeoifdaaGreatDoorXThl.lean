import Derived.Test.YtmidaeljeoifdaaGreatDoorXTde
import Derived.Test.YtmidaeljeoifdaaGreatDoorTdf
import Derived.Test.YtmidaeljeoifdaaGreatDoorTdh
import Derived.Test.YtmidaeljeoifdaaGreatDoorTdc
import Derived.Test.YtmidaeljeoifdaaGreatDoorXTcm
namespace Go.Proofs.YtmidaeljeoifdaaGreatDoor
open Go.RowKit Go.Shelf Go.Sort
set_option linter.unusedVariables false
set_option linter.unusedSimpArgs false

/-! ### The document's Check -/
theorem counts_l (tb : Tb) (v : Ts) (w : World) (h : TbAt w tb v) : countsB tb = decide (0 ≤ tb.uses ∧ tb.uses ≤ 255 ∧ 1 ≤ tb.modes ∧ tb.modes ≤ 8 ∧ 1 ≤ (v.t.n : Int) ∧ (v.t.n : Int) ≤ 256 ∧ (v.r.n : Int) ≤ 65 ∧ (v.k.n : Int) ≤ 16 ∧ (v.a.n : Int) ≤ 64 ∧ (v.i.n : Int) ≤ 32 ∧ (v.s.n : Int) ≤ 64) := by
  unfold countsB inI
  rw [← h.t.n, ← h.r.n, ← h.k.n, ← h.a.n, ← h.i.n, ← h.s.n]
  rw [Bool.eq_iff_iff]
  simp
  omega
def rmQ (tb : Tb) : Bool := roomB tb (max (mostD tb.ctrs.length (tb.als.map fun x => x.ctr)) (mostD tb.msgs.length (rcvL tb)))
theorem chkD_l (tb : Tb) : chkD tb = (countsB tb && (tb.ress.all (fun r => inI r.ceil (-1) 127) && (tkD tb && ((tb.ctrs.all ctB && tb.als.all (alB tb)) && (isrsG tb [] tb.isrs && (tb.msgs.all (msD tb) && rmQ tb)))))) := by
  unfold chkD
  rw [show (fun x : TkR => idB x.ring tb.rings.length && (prioAt tb.rings x.ring == x.prio) && restB tb x) = tkE tb from rfl]
  unfold tkD rmQ
  simp only [Bool.and_assoc]
theorem ret_int' {a b : Int} (h : a = b) : (Ending.returned (.int .i64 a)) = .returned (I b) := by rw [h]
def zOf (b : Bool) : Int := if b then 0 else 90
set_option maxHeartbeats 16000000 in
set_option maxRecDepth 100000 in
theorem docCheck_any9 (tb : Tb) (v : Ts) (w : World) (h : TbAt w tb v) : Calls Tryz.prog 9 #[.agg (tbC tb v)] w fun e w' => e = .returned (I (zOf (chkD tb))) ∧ Below w.heap.size w w' := by
  have hb := below_alloc w (.cells (tbC tb v) 30)
  have hV0 := heap_alloc_new w (.cells (tbC tb v) 30)
  have HT : Hid (TbAt (w.alloc (.cells (tbC tb v) 30)) tb v) := h.below hb
  have HB0 : Hid (Below w.heap.size w (w.alloc (.cells (tbC tb v) 30))) := hb
  have HV0 : Hid ((w.alloc (.cells (tbC tb v) 30)).heap[w.heap.size]? = some (.cells (tbC tb v) 30)) := hV0
  obtain ⟨c0, c1, c2, c3, c4, c5, c6, c7, c8, c9, c10, c11, c12⟩ := var13 hV0
  have HRn : Hid (v.r.n = tb.ress.length) := h.r.n
  have hrc : v.r.n ≤ v.r.c := h.r.c
  have hrm : v.r.c ≤ maxLen := h.r.m
  have HLN : Hid (v.t.n = tb.tasks.length ∧ v.i.n = tb.isrs.length ∧ v.a.n = tb.als.length ∧ v.s.n = tb.msgs.length) := ⟨h.t.n, h.i.n, h.a.n, h.s.n⟩
  unfold maxLen at hrm
  obtain ⟨Z, hZ⟩ : ∃ Z, Z = zOf (chkD tb) := ⟨_, rfl⟩
  rw [← hZ]
  obtain ⟨T1, hT1⟩ : ∃ T1, T1 = tkD tb := ⟨_, rfl⟩
  obtain ⟨T2, hT2⟩ : ∃ T2, T2 = (tb.ctrs.all ctB && tb.als.all (alB tb)) := ⟨_, rfl⟩
  obtain ⟨T3, hT3⟩ : ∃ T3, T3 = isrsG tb [] tb.isrs := ⟨_, rfl⟩
  obtain ⟨T4, hT4⟩ : ∃ T4, T4 = tb.msgs.all (msD tb) := ⟨_, rfl⟩
  obtain ⟨d1, hd1⟩ : ∃ d1 : Int, d1 = (tb.rings.length : Int) := ⟨_, rfl⟩
  obtain ⟨d2, hd2⟩ : ∃ d2 : Int, d2 = (tb.isrs.length : Int) + 4 := ⟨_, rfl⟩
  obtain ⟨d3, hd3⟩ : ∃ d3 : Int, d3 = ((max 2 (max (mostD tb.ctrs.length (tb.als.map fun x => x.ctr)) (mostD tb.msgs.length (rcvL tb))) : Nat) : Int) := ⟨_, rfl⟩
  obtain ⟨d4, hd4⟩ : ∃ d4 : Int, d4 = (callsN tb : Int) := ⟨_, rfl⟩
  have HX : Hid (Z = zOf (decide (0 ≤ tb.uses ∧ tb.uses ≤ 255 ∧ 1 ≤ tb.modes ∧ tb.modes ≤ 8 ∧ 1 ≤ (v.t.n : Int) ∧ (v.t.n : Int) ≤ 256 ∧ (v.r.n : Int) ≤ 65 ∧ (v.k.n : Int) ≤ 16 ∧ (v.a.n : Int) ≤ 64 ∧ (v.i.n : Int) ≤ 32 ∧ (v.s.n : Int) ≤ 64) && (tb.ress.all (fun r => inI r.ceil (-1) 127) && (T1 && (T2 && (T3 && (T4 && ((tb.depth == d1) && (tb.frames == d2) && (tb.errors == d3) && (tb.calls == d4))))))))) := by
    show _ = _
    rw [hZ, chkD_l, counts_l tb v w h, hT1, hT2, hT3, hT4, hd1, hd2, hd3, hd4]
    rfl
  have HK1 : Hid (∀ (W : World), TbAt W tb v → 1 ≤ tb.modes ∧ tb.modes ≤ 8 → tb.tasks.length ≤ 256 → Calls Tryz.prog 26 #[.agg (tbC tb v)] W fun e w' => e = .returned (.bool T1) ∧ Below W.heap.size W w') := fun W hT hm hl => by rw [hT1]; exact tasks_any9 tb v W hT hm hl
  have HK2 : Hid (∀ (W : World), TbAt W tb v → 1 ≤ tb.modes ∧ tb.modes ≤ 8 → Calls Tryz.prog 27 #[.agg (tbC tb v)] W fun e w' => e = .returned (.bool T2) ∧ Below W.heap.size W w') := fun W hT hm => by rw [hT2]; exact clocks_any9 tb v W hT hm
  have HK3 : Hid (∀ (W : World), TbAt W tb v → Calls Tryz.prog 28 #[.agg (tbC tb v)] W fun e w' => e = .returned (.bool T3) ∧ Below W.heap.size W w') := fun W hT => by rw [hT3]; exact isrs_any9 tb v W hT
  have HK4 : Hid (∀ (W : World), TbAt W tb v → Calls Tryz.prog 29 #[.agg (tbC tb v)] W fun e w' => e = .returned (.bool T4) ∧ Below W.heap.size W w') := fun W hT => by rw [hT4]; exact messages_any9 tb v W hT
  have HK5 : Hid (∀ (W : World), TbAt W tb v → tb.isrs.length ≤ 32 ∧ tb.als.length ≤ 64 ∧ tb.msgs.length ≤ 64 → Calls Tryz.prog 30 #[.agg (tbC tb v)] W fun e w' => e = .returned (.tuple #[I d1, I d2, I d3, I d4]) ∧ Below W.heap.size W w') := fun W hT hl => by rw [hd1, hd2, hd3, hd4]; exact room_any9 tb v W hT hl
  have hi30 : (Tryz.prog.info? 30).map (·.size) = some (tbC tb v).size := by kernel_rfl
  clear h hb hV0 hT1 hT2 hT3 hT4 hd1 hd2 hd3 hd4 hZ
  unfold tbC at *
  go_enter Tryz.func9, Tryz.ntmps9
  generalize hW : w.alloc (.cells #[I tb.uses, I tb.modes, .slice v.t.a v.t.n v.t.c, .slice v.g.a v.g.n v.g.c, .slice v.r.a v.r.n v.r.c, .slice v.k.a v.k.n v.k.c, .slice v.a.a v.a.n v.a.c, .slice v.i.a v.i.n v.i.c, .slice v.s.a v.s.n v.s.c, I tb.depth, I tb.frames, I tb.errors, I tb.calls] 30) = W1 at *
  go_upto_region 1 with fail
  clear hW
  by_cases b0 : tb.uses < 0
  · have HE : Hid (Z = 90) := by show _ = _; rw [HX.out, decide_eq_false (by omega)]; rfl
    clear HX
    go_wp2
    go_ret
    exact ⟨ret_int' (by rw [HE.out]), HB0.out⟩
  by_cases b1 : 255 < tb.uses
  · have HE : Hid (Z = 90) := by show _ = _; rw [HX.out, decide_eq_false (by omega)]; rfl
    clear HX
    go_wp2
    go_ret
    exact ⟨ret_int' (by rw [HE.out]), HB0.out⟩
  by_cases b2 : tb.modes < 1
  · have HE : Hid (Z = 90) := by show _ = _; rw [HX.out, decide_eq_false (by omega)]; rfl
    clear HX
    go_wp2
    go_ret
    exact ⟨ret_int' (by rw [HE.out]), HB0.out⟩
  by_cases b3 : 8 < tb.modes
  · have HE : Hid (Z = 90) := by show _ = _; rw [HX.out, decide_eq_false (by omega)]; rfl
    clear HX
    go_wp2
    go_ret
    exact ⟨ret_int' (by rw [HE.out]), HB0.out⟩
  by_cases b4 : (v.t.n : Int) < 1
  · have HE : Hid (Z = 90) := by show _ = _; rw [HX.out, decide_eq_false (by omega)]; rfl
    clear HX
    go_wp2
    go_ret
    exact ⟨ret_int' (by rw [HE.out]), HB0.out⟩
  by_cases b5 : 256 < (v.t.n : Int)
  · have HE : Hid (Z = 90) := by show _ = _; rw [HX.out, decide_eq_false (by omega)]; rfl
    clear HX
    go_wp2
    go_ret
    exact ⟨ret_int' (by rw [HE.out]), HB0.out⟩
  by_cases b6 : 65 < (v.r.n : Int)
  · have HE : Hid (Z = 90) := by show _ = _; rw [HX.out, decide_eq_false (by omega)]; rfl
    clear HX
    go_wp2
    go_ret
    exact ⟨ret_int' (by rw [HE.out]), HB0.out⟩
  by_cases b7 : 16 < (v.k.n : Int)
  · have HE : Hid (Z = 90) := by show _ = _; rw [HX.out, decide_eq_false (by omega)]; rfl
    clear HX
    go_wp2
    go_ret
    exact ⟨ret_int' (by rw [HE.out]), HB0.out⟩
  by_cases b8 : 64 < (v.a.n : Int)
  · have HE : Hid (Z = 90) := by show _ = _; rw [HX.out, decide_eq_false (by omega)]; rfl
    clear HX
    go_wp2
    go_ret
    exact ⟨ret_int' (by rw [HE.out]), HB0.out⟩
  by_cases b9 : 32 < (v.i.n : Int)
  · have HE : Hid (Z = 90) := by show _ = _; rw [HX.out, decide_eq_false (by omega)]; rfl
    clear HX
    go_wp2
    go_ret
    exact ⟨ret_int' (by rw [HE.out]), HB0.out⟩
  by_cases b10 : 64 < (v.s.n : Int)
  · have HE : Hid (Z = 90) := by show _ = _; rw [HX.out, decide_eq_false (by omega)]; rfl
    clear HX
    go_wp2
    go_ret
    exact ⟨ret_int' (by rw [HE.out]), HB0.out⟩
  have HX2 : Hid (Z = zOf ((tb.ress.drop 0).all (fun r => inI r.ceil (-1) 127) && (T1 && (T2 && (T3 && (T4 && ((tb.depth == d1) && (tb.frames == d2) && (tb.errors == d3) && (tb.calls == d4)))))))) := by show _ = _; rw [HX.out, decide_eq_true (by omega)]; rfl
  have HM : Hid (1 ≤ tb.modes ∧ tb.modes ≤ 8) := ⟨by omega, by omega⟩
  have HL1 : Hid (tb.tasks.length ≤ 256) := by rw [← HLN.out.1]; show _ ≤ _; omega
  have HL5 : Hid (tb.isrs.length ≤ 32 ∧ tb.als.length ≤ 64 ∧ tb.msgs.length ≤ 64) := by rw [← HLN.out.2.1, ← HLN.out.2.2.1, ← HLN.out.2.2.2]; exact ⟨by omega, by omega, by omega⟩
  have HF : Hid (∀ W, Below W1.heap.size W1 W → W.heap[w.heap.size]? = some (.cells #[I tb.uses, I tb.modes, .slice v.t.a v.t.n v.t.c, .slice v.g.a v.g.n v.g.c, .slice v.r.a v.r.n v.r.c, .slice v.k.a v.k.n v.k.c, .slice v.a.a v.a.n v.a.c, .slice v.i.a v.i.n v.i.c, .slice v.s.a v.s.n v.s.c, I tb.depth, I tb.frames, I tb.errors, I tb.calls] 30) ∧ TbAt W tb v ∧ Below w.heap.size w W) := fun W hW => ⟨(hW.block _ (heap_lt HV0.out)).trans HV0.out, HT.out.below hW, HB0.out.trans (hW.mono HB0.out.size)⟩
  clear HX HLN HV0
  go_wp2
  go_loopw [3] (fun iv wr => ∃ j : Nat, j ≤ v.r.n ∧ iv = .int .i64 j ∧ wr = W1 ∧ Hid (Z = zOf ((tb.ress.drop j).all (fun r => inI r.ceil (-1) 127) && (T1 && (T2 && (T3 && (T4 && ((tb.depth == d1) && (tb.frames == d2) && (tb.errors == d3) && (tb.calls == d4))))))))) (fun iv _ => v.r.n - (intOf iv).toNat)
  case atStart => exact ⟨0, by omega, rfl, rfl, HX2.out⟩
  case round =>
    clear HX2
    obtain ⟨j, hj, rfl, rfl, HJ⟩ := hrel
    by_cases hlt : j < v.r.n
    · have hlt' : (j : Int) < v.r.n := by omega
      obtain ⟨x, hx⟩ : ∃ x, tb.ress[j]? = some x := ⟨_, List.getElem?_eq_getElem (by rw [← HRn.out]; exact hlt)⟩
      obtain ⟨g5, o5, e5, hg5, q0, q1⟩ := rsr_at HT.out hx
      have HX : Hid (Z = zOf (decide (-1 ≤ x.ceil ∧ x.ceil ≤ 127) && ((tb.ress.drop (j + 1)).all (fun r => inI r.ceil (-1) 127) && (T1 && (T2 && (T3 && (T4 && ((tb.depth == d1) && (tb.frames == d2) && (tb.errors == d3) && (tb.calls == d4))))))))) := by
        have h9 := HJ.out
        rw [drop_at hx, List.all_cons, Bool.and_assoc] at h9
        show _ = _
        rw [h9]
        congr 2
        unfold inI
        rw [Bool.eq_iff_iff]
        simp
      rw [e5] at c4
      clear hx HJ hg5 e5 q0
      generalize x.ceil = xc at *
      by_cases g0 : xc < -1
      · have HE : Hid (Z = 90) := by show _ = _; rw [HX.out, decide_eq_false (by omega)]; rfl
        clear HX
        go_wp2
        go_ret
        exact ⟨ret_int' (by rw [HE.out]), HB0.out⟩
      by_cases g1 : 127 < xc
      · have HE : Hid (Z = 90) := by show _ = _; rw [HX.out, decide_eq_false (by omega)]; rfl
        clear HX
        go_wp2
        go_ret
        exact ⟨ret_int' (by rw [HE.out]), HB0.out⟩
      have HN : Hid (Z = zOf ((tb.ress.drop (j + 1)).all (fun r => inI r.ceil (-1) 127) && (T1 && (T2 && (T3 && (T4 && ((tb.depth == d1) && (tb.frames == d2) && (tb.errors == d3) && (tb.calls == d4)))))))) := by show _ = _; rw [HX.out, decide_eq_true (by omega)]; rfl
      clear HX
      go_wp2
      go_roundw
      case rel => exact ⟨j + 1, by omega, by go_num, trivial, HN.out⟩
      case measure => simp [intOf]; omega
    · obtain rfl : j = v.r.n := by omega
      have hlt' : ¬ ((v.r.n : Nat) : Int) < (v.r.n : Nat) := by omega
      have HX : Hid (Z = zOf (T1 && (T2 && (T3 && (T4 && ((tb.depth == d1) && (tb.frames == d2) && (tb.errors == d3) && (tb.calls == d4))))))) := by
        have h9 := HJ.out
        rw [HRn.out, List.drop_length] at h9
        exact h9
      clear HJ
      go_upto_region 8 with fail
      clear c0 c1 c2 c3 c4 c5 c6 c7 c8 c9 c10 c11 c12 b0 b1 b2 b3 b4 b5 b6 b7 b8 b9 b10
      obtain ⟨hV1, t1, hB1⟩ := HF.out wr (Below.refl _ _)
      have HB1 : Hid (Below wr.heap.size wr wr ∧ Below w.heap.size w wr) := ⟨Below.refl _ _, hB1⟩
      have kA := HK1.out wr t1 HM.out HL1.out
      clear hB1 t1
      cases T1 with
      | false =>
        have HE : Hid (Z = 90) := by show _ = _; rw [HX.out]; rfl
        clear HX
        go_wp2_with (first | (with_reducible refine wpList_id9 ?_; refine wpList_load_row9 (by kernel_rfl) 30 _ rfl w.heap.size rfl 30 _ (0, 0) _ hV1 Tryz.underlying30 rfl hi30 ?_))
        refine kA.mono ?_
        clear kA
        rintro e w2 ⟨rfl, hb2⟩
        have HB2 : Hid (Below wr.heap.size wr w2 ∧ Below w.heap.size w w2) := ⟨HB1.out.1.trans (hb2.mono HB1.out.1.size), HB1.out.2.trans (hb2.mono HB1.out.2.size)⟩
        obtain ⟨hV2, t2, _⟩ := HF.out w2 HB2.out.1
        have kA := HK2.out w2 t2 HM.out
        clear hb2 t2 hV1
        clear kA
        go_wp2
        go_ret
        exact ⟨ret_int' (by rw [HE.out]), HB2.out.2⟩
      | true =>
        cases T2 with
        | false =>
          have HE : Hid (Z = 90) := by show _ = _; rw [HX.out]; rfl
          clear HX
          go_wp2_with (first | (with_reducible refine wpList_id9 ?_; refine wpList_load_row9 (by kernel_rfl) 30 _ rfl w.heap.size rfl 30 _ (0, 0) _ hV1 Tryz.underlying30 rfl hi30 ?_))
          refine kA.mono ?_
          clear kA
          rintro e w2 ⟨rfl, hb2⟩
          have HB2 : Hid (Below wr.heap.size wr w2 ∧ Below w.heap.size w w2) := ⟨HB1.out.1.trans (hb2.mono HB1.out.1.size), HB1.out.2.trans (hb2.mono HB1.out.2.size)⟩
          obtain ⟨hV2, t2, _⟩ := HF.out w2 HB2.out.1
          have kA := HK2.out w2 t2 HM.out
          clear hb2 t2 hV1
          go_wp2_with (first | (with_reducible refine wpList_id9 ?_; refine wpList_load_row9 (by kernel_rfl) 30 _ rfl w.heap.size rfl 30 _ (0, 0) _ hV2 Tryz.underlying30 rfl hi30 ?_))
          refine kA.mono ?_
          clear kA
          rintro e w3 ⟨rfl, hb3⟩
          have HB3 : Hid (Below wr.heap.size wr w3 ∧ Below w.heap.size w w3) := ⟨HB2.out.1.trans (hb3.mono HB2.out.1.size), HB2.out.2.trans (hb3.mono HB2.out.2.size)⟩
          obtain ⟨hV3, t3, _⟩ := HF.out w3 HB3.out.1
          have kA := HK3.out w3 t3
          clear hb3 t3 hV2
          clear kA
          go_wp2
          go_ret
          exact ⟨ret_int' (by rw [HE.out]), HB3.out.2⟩
        | true =>
          cases T3 with
          | false =>
            have HE : Hid (Z = 90) := by show _ = _; rw [HX.out]; rfl
            clear HX
            go_wp2_with (first | (with_reducible refine wpList_id9 ?_; refine wpList_load_row9 (by kernel_rfl) 30 _ rfl w.heap.size rfl 30 _ (0, 0) _ hV1 Tryz.underlying30 rfl hi30 ?_))
            refine kA.mono ?_
            clear kA
            rintro e w2 ⟨rfl, hb2⟩
            have HB2 : Hid (Below wr.heap.size wr w2 ∧ Below w.heap.size w w2) := ⟨HB1.out.1.trans (hb2.mono HB1.out.1.size), HB1.out.2.trans (hb2.mono HB1.out.2.size)⟩
            obtain ⟨hV2, t2, _⟩ := HF.out w2 HB2.out.1
            have kA := HK2.out w2 t2 HM.out
            clear hb2 t2 hV1
            go_wp2_with (first | (with_reducible refine wpList_id9 ?_; refine wpList_load_row9 (by kernel_rfl) 30 _ rfl w.heap.size rfl 30 _ (0, 0) _ hV2 Tryz.underlying30 rfl hi30 ?_))
            refine kA.mono ?_
            clear kA
            rintro e w3 ⟨rfl, hb3⟩
            have HB3 : Hid (Below wr.heap.size wr w3 ∧ Below w.heap.size w w3) := ⟨HB2.out.1.trans (hb3.mono HB2.out.1.size), HB2.out.2.trans (hb3.mono HB2.out.2.size)⟩
            obtain ⟨hV3, t3, _⟩ := HF.out w3 HB3.out.1
            have kA := HK3.out w3 t3
            clear hb3 t3 hV2
            go_wp2_with (first | (with_reducible refine wpList_id9 ?_; refine wpList_load_row9 (by kernel_rfl) 30 _ rfl w.heap.size rfl 30 _ (0, 0) _ hV3 Tryz.underlying30 rfl hi30 ?_))
            refine kA.mono ?_
            clear kA
            rintro e w4 ⟨rfl, hb4⟩
            have HB4 : Hid (Below wr.heap.size wr w4 ∧ Below w.heap.size w w4) := ⟨HB3.out.1.trans (hb4.mono HB3.out.1.size), HB3.out.2.trans (hb4.mono HB3.out.2.size)⟩
            obtain ⟨hV4, t4, _⟩ := HF.out w4 HB4.out.1
            have kA := HK4.out w4 t4
            clear hb4 t4 hV3
            clear kA
            go_wp2
            go_ret
            exact ⟨ret_int' (by rw [HE.out]), HB4.out.2⟩
          | true =>
            cases T4 with
            | false =>
              have HE : Hid (Z = 90) := by show _ = _; rw [HX.out]; rfl
              clear HX
              go_wp2_with (first | (with_reducible refine wpList_id9 ?_; refine wpList_load_row9 (by kernel_rfl) 30 _ rfl w.heap.size rfl 30 _ (0, 0) _ hV1 Tryz.underlying30 rfl hi30 ?_))
              refine kA.mono ?_
              clear kA
              rintro e w2 ⟨rfl, hb2⟩
              have HB2 : Hid (Below wr.heap.size wr w2 ∧ Below w.heap.size w w2) := ⟨HB1.out.1.trans (hb2.mono HB1.out.1.size), HB1.out.2.trans (hb2.mono HB1.out.2.size)⟩
              obtain ⟨hV2, t2, _⟩ := HF.out w2 HB2.out.1
              have kA := HK2.out w2 t2 HM.out
              clear hb2 t2 hV1
              go_wp2_with (first | (with_reducible refine wpList_id9 ?_; refine wpList_load_row9 (by kernel_rfl) 30 _ rfl w.heap.size rfl 30 _ (0, 0) _ hV2 Tryz.underlying30 rfl hi30 ?_))
              refine kA.mono ?_
              clear kA
              rintro e w3 ⟨rfl, hb3⟩
              have HB3 : Hid (Below wr.heap.size wr w3 ∧ Below w.heap.size w w3) := ⟨HB2.out.1.trans (hb3.mono HB2.out.1.size), HB2.out.2.trans (hb3.mono HB2.out.2.size)⟩
              obtain ⟨hV3, t3, _⟩ := HF.out w3 HB3.out.1
              have kA := HK3.out w3 t3
              clear hb3 t3 hV2
              go_wp2_with (first | (with_reducible refine wpList_id9 ?_; refine wpList_load_row9 (by kernel_rfl) 30 _ rfl w.heap.size rfl 30 _ (0, 0) _ hV3 Tryz.underlying30 rfl hi30 ?_))
              refine kA.mono ?_
              clear kA
              rintro e w4 ⟨rfl, hb4⟩
              have HB4 : Hid (Below wr.heap.size wr w4 ∧ Below w.heap.size w w4) := ⟨HB3.out.1.trans (hb4.mono HB3.out.1.size), HB3.out.2.trans (hb4.mono HB3.out.2.size)⟩
              obtain ⟨hV4, t4, _⟩ := HF.out w4 HB4.out.1
              have kA := HK4.out w4 t4
              clear hb4 t4 hV3
              go_wp2_with (first | (with_reducible refine wpList_id9 ?_; refine wpList_load_row9 (by kernel_rfl) 30 _ rfl w.heap.size rfl 30 _ (0, 0) _ hV4 Tryz.underlying30 rfl hi30 ?_))
              refine kA.mono ?_
              clear kA
              rintro e w5 ⟨rfl, hb5⟩
              have HB5 : Hid (Below wr.heap.size wr w5 ∧ Below w.heap.size w w5) := ⟨HB4.out.1.trans (hb5.mono HB4.out.1.size), HB4.out.2.trans (hb5.mono HB4.out.2.size)⟩
              obtain ⟨hV5, t5, _⟩ := HF.out w5 HB5.out.1
              have kA := HK5.out w5 t5 HL5.out
              clear hb5 t5 hV4
              clear kA
              go_wp2
              go_ret
              exact ⟨ret_int' (by rw [HE.out]), HB5.out.2⟩
            | true =>
              have HX9 : Hid (Z = zOf ((tb.depth == d1) && (tb.frames == d2) && (tb.errors == d3) && (tb.calls == d4))) := by show _ = _; rw [HX.out]; rfl
              clear HX
              go_wp2_with (first | (with_reducible refine wpList_id9 ?_; refine wpList_load_row9 (by kernel_rfl) 30 _ rfl w.heap.size rfl 30 _ (0, 0) _ hV1 Tryz.underlying30 rfl hi30 ?_))
              refine kA.mono ?_
              clear kA
              rintro e w2 ⟨rfl, hb2⟩
              have HB2 : Hid (Below wr.heap.size wr w2 ∧ Below w.heap.size w w2) := ⟨HB1.out.1.trans (hb2.mono HB1.out.1.size), HB1.out.2.trans (hb2.mono HB1.out.2.size)⟩
              obtain ⟨hV2, t2, _⟩ := HF.out w2 HB2.out.1
              have kA := HK2.out w2 t2 HM.out
              clear hb2 t2 hV1
              go_wp2_with (first | (with_reducible refine wpList_id9 ?_; refine wpList_load_row9 (by kernel_rfl) 30 _ rfl w.heap.size rfl 30 _ (0, 0) _ hV2 Tryz.underlying30 rfl hi30 ?_))
              refine kA.mono ?_
              clear kA
              rintro e w3 ⟨rfl, hb3⟩
              have HB3 : Hid (Below wr.heap.size wr w3 ∧ Below w.heap.size w w3) := ⟨HB2.out.1.trans (hb3.mono HB2.out.1.size), HB2.out.2.trans (hb3.mono HB2.out.2.size)⟩
              obtain ⟨hV3, t3, _⟩ := HF.out w3 HB3.out.1
              have kA := HK3.out w3 t3
              clear hb3 t3 hV2
              go_wp2_with (first | (with_reducible refine wpList_id9 ?_; refine wpList_load_row9 (by kernel_rfl) 30 _ rfl w.heap.size rfl 30 _ (0, 0) _ hV3 Tryz.underlying30 rfl hi30 ?_))
              refine kA.mono ?_
              clear kA
              rintro e w4 ⟨rfl, hb4⟩
              have HB4 : Hid (Below wr.heap.size wr w4 ∧ Below w.heap.size w w4) := ⟨HB3.out.1.trans (hb4.mono HB3.out.1.size), HB3.out.2.trans (hb4.mono HB3.out.2.size)⟩
              obtain ⟨hV4, t4, _⟩ := HF.out w4 HB4.out.1
              have kA := HK4.out w4 t4
              clear hb4 t4 hV3
              go_wp2_with (first | (with_reducible refine wpList_id9 ?_; refine wpList_load_row9 (by kernel_rfl) 30 _ rfl w.heap.size rfl 30 _ (0, 0) _ hV4 Tryz.underlying30 rfl hi30 ?_))
              refine kA.mono ?_
              clear kA
              rintro e w5 ⟨rfl, hb5⟩
              have HB5 : Hid (Below wr.heap.size wr w5 ∧ Below w.heap.size w w5) := ⟨HB4.out.1.trans (hb5.mono HB4.out.1.size), HB4.out.2.trans (hb5.mono HB4.out.2.size)⟩
              obtain ⟨hV5, t5, _⟩ := HF.out w5 HB5.out.1
              have kA := HK5.out w5 t5 HL5.out
              clear hb5 t5 hV4
              go_wp2_with (first | (with_reducible refine wpList_id9 ?_; refine wpList_load_row9 (by kernel_rfl) 30 _ rfl w.heap.size rfl 30 _ (0, 0) _ hV5 Tryz.underlying30 rfl hi30 ?_))
              refine kA.mono ?_
              clear kA
              rintro e w6 ⟨rfl, hb6⟩
              have HB6 : Hid (Below wr.heap.size wr w6 ∧ Below w.heap.size w w6) := ⟨HB5.out.1.trans (hb6.mono HB5.out.1.size), HB5.out.2.trans (hb6.mono HB5.out.2.size)⟩
              obtain ⟨hV6, t6, _⟩ := HF.out w6 HB6.out.1
              obtain ⟨_, _, _, _, _, _, _, _, _, f9, f10, f11, f12⟩ := var13 hV6
              clear hb6 hV5 hV6 t6
              go_upto_region 11 with fail
              cases y1 : (tb.depth == d1) with
              | true =>
                have y12 : (tb.depth != d1) = false := by simp only [bne, y1]; rfl
                have y15 : Hid ((tb.depth == d1) = true) := y1
                clear y1
                cases y2 : (tb.frames == d2) with
                | true =>
                  have y22 : (tb.frames != d2) = false := by simp only [bne, y2]; rfl
                  have y25 : Hid ((tb.frames == d2) = true) := y2
                  clear y2
                  cases y3 : (tb.errors == d3) with
                  | true =>
                    have y32 : (tb.errors != d3) = false := by simp only [bne, y3]; rfl
                    have y35 : Hid ((tb.errors == d3) = true) := y3
                    clear y3
                    cases y4 : (tb.calls == d4) with
                    | true =>
                      have y42 : (tb.calls != d4) = false := by simp only [bne, y4]; rfl
                      have y45 : Hid ((tb.calls == d4) = true) := y4
                      clear y4
                      have HE : Hid (Z = 0) := by show _ = _; rw [HX9.out, y15.out, y25.out, y35.out, y45.out]; rfl
                      clear HX9
                      go_wp2
                      go_ret
                      exact ⟨ret_int' (by rw [HE.out]), HB6.out.2⟩
                    | false =>
                      have y42 : (tb.calls != d4) = true := by simp only [bne, y4]; rfl
                      have HE : Hid (Z = 90) := by show _ = _; rw [HX9.out, y15.out, y25.out, y35.out, y4]; simp [zOf]
                      clear HX9 y4
                      go_wp2
                      go_ret
                      exact ⟨ret_int' (by rw [HE.out]), HB6.out.2⟩
                  | false =>
                    have y32 : (tb.errors != d3) = true := by simp only [bne, y3]; rfl
                    have HE : Hid (Z = 90) := by show _ = _; rw [HX9.out, y15.out, y25.out, y3]; simp [zOf]
                    clear HX9 y3
                    go_wp2
                    go_ret
                    exact ⟨ret_int' (by rw [HE.out]), HB6.out.2⟩
                | false =>
                  have y22 : (tb.frames != d2) = true := by simp only [bne, y2]; rfl
                  have HE : Hid (Z = 90) := by show _ = _; rw [HX9.out, y15.out, y2]; simp [zOf]
                  clear HX9 y2
                  go_wp2
                  go_ret
                  exact ⟨ret_int' (by rw [HE.out]), HB6.out.2⟩
              | false =>
                have y12 : (tb.depth != d1) = true := by simp only [bne, y1]; rfl
                have HE : Hid (Z = 90) := by show _ = _; rw [HX9.out, y1]; simp [zOf]
                clear HX9 y1
                go_wp2
                go_ret
                exact ⟨ret_int' (by rw [HE.out]), HB6.out.2⟩
end Go.Proofs.YtmidaeljeoifdaaGreatDoor

namespace Go.Proofs.YtmidaeljeoifdaaGreatDoor
open Go.RowKit Go.Shelf Go.Sort Go.Maps
set_option linter.unusedVariables false
set_option linter.unusedSimpArgs false
set_option maxHeartbeats 8000000
set_option maxRecDepth 100000

/-! ### heads -/
abbrev tbK2 : Tb := tbS (tkS 116) 0 1 2 4 2 0
theorem chkK : chkP tbK = true := by decide +kernel
theorem chkK2 : chkP tbK2 = false := by decide +kernel
theorem wfK (d f e c : Int) : WfT (tbS (tkS 116) 0 1 d f e c) := by
  refine ⟨fun x hx => ?_, (fun x hx => by cases hx), (fun x hx => by cases hx), (fun x hx => by cases hx)⟩
  have e1 : x = trow (tkS 116) := by simpa [tbS] using hx
  subst e1
  exact ⟨by decide, by decide⟩
theorem capK : IntKind.i64.wrap (capN [trow (tkS 116)] (tkS 116).prio) = 1 := by decide +kernel
theorem heads9_any (w : World) (hE : EnvE w) : Calls Tryz.prog 10 #[] w fun e w' => e = .returned (.bool true) ∧ Below w.heap.size w w' := by
  have kS := small_any w
  have HM : Hid (∀ (W : World) (bm g : Nat), Below w.heap.size w W → W.heap[bm]? = some (.cells #[S [109]] 9 (0, 0)) → W.heap[g]? = some (.cells (tkC 116).toArray 58 (0, 0)) → Calls Tryz.prog 11 #[.agg (cfC cS0 (vS0 bm g))] W fun e w' => (∃ v : Ts, e = .returned (.tuple #[.agg (tbC tbK v), I 0]) ∧ SO W.heap.size w' (tkS 116) v) ∧ Below W.heap.size W w') := fun W bm g hW h1 h2 => make_small W bm g (small_at h1 h2 [116] (by decide) (by unfold maxLen; decide) rfl) (hE.below hW)
  clear hE
  go_enter Tryz.func10, Tryz.ntmps10
  go_wp2_with (first | fail)
  refine kS.mono ?_
  clear kS
  rintro e w1 ⟨bm, g, rfl, b1, _, hm1, ht1⟩
  have kM := HM.out w1 bm g b1 hm1 ht1
  clear hm1 ht1 HM
  generalize cfC cS0 (vS0 bm g) = C at *
  go_wp2_with (first | fail)
  refine kM.mono ?_
  clear kM
  rintro e w2 ⟨⟨v, rfl, so⟩, b2⟩
  obtain ⟨at_, ct, ag, cg, ar, cr, ak, ck, aa, ca, ai, ci, am, cm2, rfl, h6, hG⟩ := so
  have so : SO w1.heap.size w2 (tkS 116) ⟨⟨at_, 1, ct⟩, ⟨ag, 1, cg⟩, ⟨ar, 0, cr⟩, ⟨ak, 0, ck⟩, ⟨aa, 0, ca⟩, ⟨ai, 0, ci⟩, ⟨am, 0, cm2⟩⟩ := ⟨at_, ct, ag, cg, ar, cr, ak, ck, aa, ca, ai, ci, am, cm2, rfl, h6, hG⟩
  have b3 := below_alloc w2 (.cells #[I 0, I 1, .slice at_ 1 ct, .slice ag 1 cg, .slice ar 0 cr, .slice ak 0 ck, .slice aa 0 ca, .slice ai 0 ci, .slice am 0 cm2, I 1, I 4, I 2, I 0] 30)
  have hT3 := heap_alloc_new w2 (.cells #[I 0, I 1, .slice at_ 1 ct, .slice ag 1 cg, .slice ar 0 cr, .slice ak 0 ck, .slice aa 0 ca, .slice ai 0 ci, .slice am 0 cm2, I 1, I 4, I 2, I 0] 30)
  have H3 : Hid (SO w1.heap.size (w2.alloc (.cells #[I 0, I 1, .slice at_ 1 ct, .slice ag 1 cg, .slice ar 0 cr, .slice ak 0 ck, .slice aa 0 ca, .slice ai 0 ci, .slice am 0 cm2, I 1, I 4, I 2, I 0] 30)) (tkS 116) ⟨⟨at_, 1, ct⟩, ⟨ag, 1, cg⟩, ⟨ar, 0, cr⟩, ⟨ak, 0, ck⟩, ⟨aa, 0, ca⟩, ⟨ai, 0, ci⟩, ⟨am, 0, cm2⟩⟩) := so.below b3
  have HB3 : Hid (Below w.heap.size w (w2.alloc (.cells #[I 0, I 1, .slice at_ 1 ct, .slice ag 1 cg, .slice ar 0 cr, .slice ak 0 ck, .slice aa 0 ca, .slice ai 0 ci, .slice am 0 cm2, I 1, I 4, I 2, I 0] 30))) := by
    have q := b1.trans (b2.mono b1.size)
    exact q.trans (b3.mono q.size)
  have HX : Hid (w.heap.size ≤ w2.heap.size) := (b1.trans (b2.mono b1.size)).size
  have hR := (RO.rows (l := [_]) (RG.below hG b3) (P := rgrP) (fun _ _ _ h => h)).row 0 _ rfl
  obtain ⟨gg, oo, eg, hgl, hrr⟩ := hR
  obtain ⟨u0, r0, f0⟩ := hrr 0 (by omega)
  obtain ⟨u1, r1, f1⟩ := hrr 1 (by omega)
  have f0' : u0 = I 1 := f0
  have f1' : u1 = I 1 := by have q : u1 = I (IntKind.i64.wrap (capN [trow (tkS 116)] (tkS 116).prio)) := f1; rw [capK] at q; exact q
  subst f0' f1'
  dsimp only at eg
  subst eg
  simp only [Nat.zero_mul, Nat.add_zero] at r0 r1
  have KC : Hid (∀ (W : World) (d : Int), SO w1.heap.size W (tkS 116) ⟨⟨at_, 1, ct⟩, ⟨some ⟨gg, oo, none⟩, 1, cg⟩, ⟨ar, 0, cr⟩, ⟨ak, 0, ck⟩, ⟨aa, 0, ca⟩, ⟨ai, 0, ci⟩, ⟨am, 0, cm2⟩⟩ → Calls Tryz.prog 8 #[.agg #[I 0, I 1, .slice at_ 1 ct, .slice (some ⟨gg, oo, none⟩) 1 cg, .slice ar 0 cr, .slice ak 0 ck, .slice aa 0 ca, .slice ai 0 ci, .slice am 0 cm2, I d, I 4, I 2, I 0]] W fun e w' => e = .returned (I (if chkP (tbS (tkS 116) 0 1 d 4 2 0) then 0 else 90)) ∧ Below W.heap.size W w') := fun W d hs => check_any (tbS (tkS 116) 0 1 d 4 2 0) ⟨⟨at_, 1, ct⟩, ⟨some ⟨gg, oo, none⟩, 1, cg⟩, ⟨ar, 0, cr⟩, ⟨ak, 0, ck⟩, ⟨aa, 0, ca⟩, ⟨ai, 0, ci⟩, ⟨am, 0, cm2⟩⟩ W (hs.at9 0 1 d 4 2 0) (wfK d 4 2 0)
  clear f0 f1 hrr hgl so h6 hG b1 b2 b3
  have hiT : (Tryz.prog.info? 30).map (·.size) = some (#[I 0, I 1, .slice at_ 1 ct, .slice (some ⟨gg, oo, none⟩) 1 cg, .slice ar 0 cr, .slice ak 0 ck, .slice aa 0 ca, .slice ai 0 ci, .slice am 0 cm2, I 1, I 4, I 2, I 0] : Array Value).size := by kernel_rfl
  have hz13 := heap_alloc_new w2 (.cells zT13 30)
  have hst : (w2.alloc (.cells zT13 30)).setRow w2.heap.size #[I 0, I 1, .slice at_ 1 ct, .slice (some ⟨gg, oo, none⟩) 1 cg, .slice ar 0 cr, .slice ak 0 ck, .slice aa 0 ca, .slice ai 0 ci, .slice am 0 cm2, I 1, I 4, I 2, I 0] = w2.alloc (.cells #[I 0, I 1, .slice at_ 1 ct, .slice (some ⟨gg, oo, none⟩) 1 cg, .slice ar 0 cr, .slice ak 0 ck, .slice aa 0 ca, .slice ai 0 ci, .slice am 0 cm2, I 1, I 4, I 2, I 0] 30) := World.setRow_alloc_new _ _ _ _
  have h1c : (#[I 0, I 1, .slice at_ 1 ct, .slice (some ⟨gg, oo, none⟩) 1 cg, .slice ar 0 cr, .slice ak 0 ck, .slice aa 0 ca, .slice ai 0 ci, .slice am 0 cm2, I 1, I 4, I 2, I 0] : Array Value).all (·.oneCell') = true := by simp [Value.oneCell']
  have hsz : zT13.size = (#[I 0, I 1, .slice at_ 1 ct, .slice (some ⟨gg, oo, none⟩) 1 cg, .slice ar 0 cr, .slice ak 0 ck, .slice aa 0 ca, .slice ai 0 ci, .slice am 0 cm2, I 1, I 4, I 2, I 0] : Array Value).size := rfl
  obtain ⟨TB, hTB⟩ : ∃ TB : Array Value, TB = #[I 0, I 1, .slice at_ 1 ct, .slice (some ⟨gg, oo, none⟩) 1 cg, .slice ar 0 cr, .slice ak 0 ck, .slice aa 0 ca, .slice ai 0 ci, .slice am 0 cm2, I 1, I 4, I 2, I 0] := ⟨_, rfl⟩
  rw [← hTB] at hiT hst h1c hsz
  have hgo : (tbC tbK ⟨⟨at_, 1, ct⟩, ⟨some ⟨gg, oo, none⟩, 1, cg⟩, ⟨ar, 0, cr⟩, ⟨ak, 0, ck⟩, ⟨aa, 0, ca⟩, ⟨ai, 0, ci⟩, ⟨am, 0, cm2⟩⟩) = TB := hTB.symm
  rw [hgo]
  clear hgo
  unfold zT13 at hz13 hst hsz
  go_upto_region 2 with (first | (with_reducible refine wpList_id99 ?_; refine wpList_store_row rfl 30 _ _ rfl w2.heap.size _ rfl rfl 30 _ hz13 hiT hsz h1c ?_; rw [hst]))
  clear hz13 hst h1c hsz hiT
  (try rw [hTB])
  clear hTB
  generalize (w2.alloc (.cells #[I 0, I 1, .slice at_ 1 ct, .slice (some ⟨gg, oo, none⟩) 1 cg, .slice ar 0 cr, .slice ak 0 ck, .slice aa 0 ca, .slice ai 0 ci, .slice am 0 cm2, I 1, I 4, I 2, I 0] 30)) = w3 at *
  generalize w2.heap.size = X at *
  have z2 := cell_of_row w3 X 2 _ _ (0, 0) hT3
  have z3 := cell_of_row w3 X 3 _ _ (0, 0) hT3
  have z9 := cell_of_row w3 X 9 _ _ (0, 0) hT3
  have z10 := cell_of_row w3 X 10 _ _ (0, 0) hT3
  have z11 := cell_of_row w3 X 11 _ _ (0, 0) hT3
  simp at z2 z3 z9 z10 z11
  have kC := KC.out w3 1 H3.out
  rw [show chkP (tbS (tkS 116) 0 1 1 4 2 0) = true from chkK] at kC
  have hi13 : (Tryz.prog.info? 30).map (·.size) = some (#[I 0, I 1, .slice at_ 1 ct, .slice (some ⟨gg, oo, none⟩) 1 cg, .slice ar 0 cr, .slice ak 0 ck, .slice aa 0 ca, .slice ai 0 ci, .slice am 0 cm2, I 1, I 4, I 2, I 0] : Array Value).size := by kernel_rfl
  go_upto_region 5 with (first | (with_reducible refine wpList_id99 ?_; refine wpList_load_row rfl 30 _ rfl X rfl 30 _ (0, 0) _ hT3 Tryz.underlying30 rfl hi13 ?_) | (go_at_call 8; refine kC.mono ?_; clear kC; rintro e w4 ⟨rfl, b4⟩))
  have hT4 := (b4.block _ (heap_lt hT3)).trans hT3
  have y9 := cell_of_row w4 X 9 _ _ (0, 0) hT4
  have fz := frozen_of_row w4 X 9 _ _ hT4
  simp at y9
  have g5 := grown_set w4 X 9 (I 2)
  have hT5 := heap_setCell_same w4 X 9 _ _ (I 2) hT4
  have hb4 : Below w.heap.size w w4 := HB3.out.trans (b4.mono HB3.out.size)
  have HB5 : Hid (Below w.heap.size w (w4.setCell ⟨X, 9, none⟩ (I 2))) := hb4.grown g5 hb4.size (fun k e => by cases e; exact HX.out)
  have so5 : SO w1.heap.size (w4.setCell ⟨X, 9, none⟩ (I 2)) (tkS 116) ⟨⟨at_, 1, ct⟩, ⟨some ⟨gg, oo, none⟩, 1, cg⟩, ⟨ar, 0, cr⟩, ⟨ak, 0, ck⟩, ⟨aa, 0, ca⟩, ⟨ai, 0, ci⟩, ⟨am, 0, cm2⟩⟩ := (H3.out.below b4).store hT4 g5
  have kC := KC.out _ 2 so5
  rw [show chkP (tbS (tkS 116) 0 1 2 4 2 0) = false from chkK2] at kC
  clear so5 g5 hT3 hT4 b4 z2 z3 z9 z10 z11 hi13 hb4 r0 r1
  go_upto_region 6 with fail
  generalize w4.setCell ⟨X, 9, none⟩ (I 2) = w5 at *
  clear y9 fz
  have hT6 : w5.heap[X]? = some (.cells #[I 0, I 1, .slice at_ 1 ct, .slice (some ⟨gg, oo, none⟩) 1 cg, .slice ar 0 cr, .slice ak 0 ck, .slice aa 0 ca, .slice ai 0 ci, .slice am 0 cm2, I 2, I 4, I 2, I 0] 30 (0, 0)) := hT5
  clear hT5
  have hi13 : (Tryz.prog.info? 30).map (·.size) = some (#[I 0, I 1, .slice at_ 1 ct, .slice (some ⟨gg, oo, none⟩) 1 cg, .slice ar 0 cr, .slice ak 0 ck, .slice aa 0 ca, .slice ai 0 ci, .slice am 0 cm2, I 2, I 4, I 2, I 0] : Array Value).size := by kernel_rfl
  go_wp2_with (first | (with_reducible refine wpList_id99 ?_; refine wpList_load_row9 (by kernel_rfl) 30 _ rfl X rfl 30 _ (0, 0) _ hT6 Tryz.underlying30 rfl hi13 ?_))
  refine kC.mono ?_
  clear kC
  rintro e w6 ⟨rfl, b6⟩
  go_wp2
  go_ret
  exact ⟨rfl, HB5.out.trans (b6.mono HB5.out.size)⟩
end Go.Proofs.YtmidaeljeoifdaaGreatDoor

