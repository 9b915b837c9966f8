import Derived.Test.YtlbgppijeoonjaaGreatDoorRrg
namespace Go.Proofs.YtlbgppijeoonjaaGreatDoor
open Go.RowKit
set_option linter.unusedVariables false

theorem objsAt_below {w w' : World} {F : Nat → Prop} (hb : Below w.heap.size w w') {v : Value} {l : List Ob} (h : ObjsAt w F v l) : ObjsAt w' F v l :=
  objsAt_move hb.size (fun g hF hl => ⟨hb.block g hl, hF⟩) h
theorem rd_new {w : World} {tb n cap : Nat} {xs : List Tp} (h : RowT w (.slice (some ⟨tb, 0, none⟩) n cap) xs) (hE : EndL xs) (hl : n ≤ 262145) (ht : tb < w.heap.size) :
    Rd (w.alloc (.cells #[.slice (some ⟨tb, 0, none⟩) n cap, .int .i64 0, .int .i64 0, .int .i64 0, .int .i64 0, .int .i64 0, .string ⟨#[]⟩] 101)) w.heap.size tb n cap xs (.live xs) := by
  have hn : xs.length = n := by cases h <;> rfl
  have hp := endL_pos hE
  refine ⟨fun j u hj => ?_, by omega, by simp; omega, hn, hl, ⟨0, by omega, rfl, heap_alloc_new w _⟩⟩
  rw [cell_below ((Below.refl w.heap.size w).alloc (Nat.le_refl _) _) _ _ ht]
  have := rowT_at h j u hj
  rwa [Nat.zero_add] at this
set_option maxHeartbeats 16000000 in
set_option maxRecDepth 100000 in
theorem rparse_good (s : ByteArray) (w : World) (hs : s.size < 4611686018427387904) (ts : List (Tk × Nat)) (hsc : scanA s.data.toList = .inl ts) :
    Calls Tryz.prog 25 #[.string s] w fun e w' => PsPost w (parseL s.data.toList) e w' := by
  obtain ⟨X, hX⟩ : ∃ X, X = parseL s.data.toList := ⟨_, rfl⟩
  rw [← hX]
  unfold parseL at hX
  rw [hsc] at hX
  obtain ⟨hgood, hsl⟩ := scanA_good hsc
  obtain ⟨hEnd, hln⟩ := good_end hgood
  have cs := fun w => rScan_any s w hs
  rw [hsc] at cs
  unfold SPost at cs
  dsimp only at cs hX
  obtain ⟨i0, hi0, hz0, hz1, hz2⟩ := info_parts Tryz.info71
  have hb2 := ((Below.refl w.heap.size w).alloc (Nat.le_refl _) (.cells #[.string ⟨#[]⟩, .string ⟨#[]⟩, .slice none 0 0, .bool false, .string ⟨#[]⟩] 24)).alloc (by simp) (.cells #[.int .i64 0, .int .i64 0, .int .i64 0, .int .i64 0, .string ⟨#[]⟩] 60)
  have ht2 := heap2_0' w (.cells #[.string ⟨#[]⟩, .string ⟨#[]⟩, .slice none 0 0, .bool false, .string ⟨#[]⟩] 24) (.cells #[.int .i64 0, .int .i64 0, .int .i64 0, .int .i64 0, .string ⟨#[]⟩] 60)
  have hf2 := heap2_1' w (.cells #[.string ⟨#[]⟩, .string ⟨#[]⟩, .slice none 0 0, .bool false, .string ⟨#[]⟩] 24) (.cells #[.int .i64 0, .int .i64 0, .int .i64 0, .int .i64 0, .string ⟨#[]⟩] 60)
  have hlx : (ts.map (tpOf s.data.toList)).length = ts.length := List.length_map ..
  have hlm : ts.length ≤ 262145 := by omega
  have cs2 : ∀ w, Calls Tryz.prog 23 #[.string s] w fun e w' => ∃ v, e = .returned (.tuple #[v, .agg zero5]) ∧ w'.ownsRow w.heap.size 57 7 v ts.length (tpsL (ts.map (tpOf s.data.toList))) ∧ Below w.heap.size w w' := fun w => by
    rw [← tks_tps]; exact cs w
  clear hgood cs hsc hln hsl
  generalize ts.map (tpOf s.data.toList) = xs at *
  generalize ts.length = n at *
  have HX : Hid (X = _) := hX
  clear hX
  obtain ⟨T, hT⟩ : ∃ T, T = textS (2 * n) (.live xs) := ⟨_, rfl⟩
  have HL : Hid (LkT (textL (2 * n) xs) T.1 T.2) := by
    show LkT _ _ _
    rw [hT]
    exact text_lk (2 * n) xs (by omega) hEnd
  have HT : Hid (T = _) := hT.trans (textS_one (2 * n) (.live xs))
  clear hT
  have hn1 := endL_pos hEnd
  obtain ⟨f, hf⟩ : ∃ f, f = 2 * n := ⟨_, rfl⟩
  rw [← hf] at HT HL HX
  have hf1 : 2 * n ≤ f := by omega
  clear hf
  go_enter Tryz.func25, Tryz.ntmps25
  go_wp2_with fail
  generalize ((w.alloc (.cells #[.string ⟨#[]⟩, .string ⟨#[]⟩, .slice none 0 0, .bool false, .string ⟨#[]⟩] 24)).alloc (.cells #[.int .i64 0, .int .i64 0, .int .i64 0, .int .i64 0, .string ⟨#[]⟩] 60)) = w2 at *
  refine (cs2 w2).mono ?_
  rintro e w3 ⟨v, rfl, hO, hb3⟩
  have hZ3 : Cz w w3 := Cz.below ⟨hb2, ht2, hf2⟩ hb3
  have hRow : RowT w3 v xs := row_own hO hlx.symm
  obtain ⟨_, ⟨_, h0⟩ | ⟨tb, cap, cur, rfl, htb, hh, _⟩⟩ := hO
  · omega
  have htl := heap_lt hh
  clear hb2 ht2 hf2 hb3 cs2 hh htb
  unfold zero5
  go_wp2_with fail
  have hal0 := (Below.refl w3.heap.size w3).alloc (Nat.le_refl _) (.cells #[.int .i64 0, .int .i64 0, .int .i64 0, .int .i64 0, .string ⟨#[]⟩] 60)
  have hZ4 := hZ3.below hal0
  have hRow4 := rowT_below hRow hal0
  have htl4 : tb < (w3.alloc (.cells #[.int .i64 0, .int .i64 0, .int .i64 0, .int .i64 0, .string ⟨#[]⟩] 60)).heap.size := Nat.lt_of_lt_of_le htl hal0.size
  have hs4 : (w3.alloc (.cells #[.int .i64 0, .int .i64 0, .int .i64 0, .int .i64 0, .string ⟨#[]⟩] 60)).heap.size = w3.heap.size + 1 := by simp
  have hs3 := heap_lt hZ3.f
  clear hal0 hZ3 hRow htl
  generalize (w3.alloc (.cells #[.int .i64 0, .int .i64 0, .int .i64 0, .int .i64 0, .string ⟨#[]⟩] 60)) = w4 at *
  have hRw5 := rd_new hRow4 hEnd hlm htl4
  have hal := (Below.refl w4.heap.size w4).alloc (Nat.le_refl _) (.cells #[.slice (some ⟨tb, 0, none⟩) n cap, .int .i64 0, .int .i64 0, .int .i64 0, .int .i64 0, .int .i64 0, .string ⟨#[]⟩] 101)
  have hZw5 := hZ4.below hal
  have hrb : w.heap.size + 1 < w4.heap.size := by omega
  clear hal hZ4 hRow4
  have hr4 : w4.heap.size = w3.heap.size + 1 := hs4
  generalize (w4.alloc (.cells #[.slice (some ⟨tb, 0, none⟩) n cap, .int .i64 0, .int .i64 0, .int .i64 0, .int .i64 0, .int .i64 0, .string ⟨#[]⟩] 101)) = w5 at *
  rw [← hr4]
  generalize w4.heap.size = r at *
  clear hs4 hr4 hs3
  have hEnd : OkS (.live xs) := hEnd
  have kz : szS (.live xs) ≤ n := by show xs.length ≤ n; omega
  have kk := word_okS hEnd oilV
  have koσ1 := kk.1
  have ksσ1 := kk.2
  have ct := fun (w : World) (hR : Rd w r tb n cap xs (.live xs)) => rdword_any hR hEnd oilV
  clear kk
  generalize wordS oilV (.live xs) = σ1 at koσ1 ksσ1 ct HT
  refine (ct w5 hRw5).mono ?_
  rintro e w6 ⟨rfl, hRw6, hg9⟩
  have hZw6 := hZw5.grown hg9 hrb
  clear hRw5 hZw5 hg9
  clear ct
  go_wp2_with fail
  have kk := take_okS koσ1 6
  have koσ2 := kk.1
  have ksσ2 := kk.2.1

  have ct := fun (w : World) (hR : Rd w r tb n cap xs σ1) => rtake_any hR koσ1 6
  clear kk
  generalize takeS 6 σ1 = qq at koσ2 ksσ2 ct HT
  obtain ⟨⟨⟨mk, mt, mv, mh⟩, mo, ml, mc⟩, σ2⟩ := qq
  dsimp only at koσ2 ksσ2 ct
  unfold tpV tzV tzC at ct
  refine (ct w6 hRw6).mono ?_
  rintro e w7 ⟨rfl, hRw7, hg9⟩
  have hZw7 := hZw6.grown hg9 hrb
  clear hRw6 hZw6 hg9
  clear ct
  go_wp2_with fail
  have kk := take_okS koσ2 3
  have koσ3 := kk.1
  have ksσ3 := kk.2.1

  have ct := fun (w : World) (hR : Rd w r tb n cap xs σ2) => rtake_any hR koσ2 3
  clear kk
  generalize takeS 3 σ2 = qq at koσ3 ksσ3 ct HT
  obtain ⟨⟨⟨aak, aat, aav, aah⟩, aao, aal, aac⟩, σ3⟩ := qq
  dsimp only at koσ3 ksσ3 ct
  unfold tpV tzV tzC at ct
  refine (ct w7 hRw7).mono ?_
  rintro e w8 ⟨rfl, hRw8, hg9⟩
  have hZw8 := hZw7.grown hg9 hrb
  clear hRw7 hZw7 hg9
  clear ct
  go_wp2_with fail
  have hal := (Below.refl w8.heap.size w8).alloc (Nat.le_refl _) (.cells #[.int .i64 aak, .int .i64 aao, .int .i64 aal, .int .i64 aac, .string ⟨aat.toArray⟩, .int .u32 (aav : Int), .bool aah] 57)
  have hbvw9 : (w8.alloc (.cells #[.int .i64 aak, .int .i64 aao, .int .i64 aal, .int .i64 aac, .string ⟨aat.toArray⟩, .int .u32 (aav : Int), .bool aah] 57)).heap[w8.heap.size]? = some (.cells #[.int .i64 aak, .int .i64 aao, .int .i64 aal, .int .i64 aac, .string ⟨aat.toArray⟩, .int .u32 (aav : Int), .bool aah] 57 (0, 0)) := heap_alloc_new w8 _
  have hrlw9 := hRw8.lt
  have hRw9 := hRw8.below hal
  have hZw9 := hZw8.below hal
  clear hRw8 hZw8 hal
  generalize (w8.alloc (.cells #[.int .i64 aak, .int .i64 aao, .int .i64 aal, .int .i64 aac, .string ⟨aat.toArray⟩, .int .u32 (aav : Int), .bool aah] 57)) = w9 at *
  generalize w8.heap.size = bv at *
  have kk := take_okS koσ3 7
  have koσ4 := kk.1
  have ksσ4 := kk.2.1

  have ct := fun (w : World) (hR : Rd w r tb n cap xs σ3) => rtake_any hR koσ3 7
  clear kk
  generalize takeS 7 σ3 = qq at koσ4 ksσ4 ct HT
  obtain ⟨⟨⟨mbk, mbt, mbv, mbh⟩, mbo, mbl, mbc⟩, σ4⟩ := qq
  dsimp only at koσ4 ksσ4 ct
  unfold tpV tzV tzC at ct
  refine (ct w9 hRw9).mono ?_
  rintro e w10 ⟨rfl, hRw10, hg9⟩
  have hZw10 := hZw9.grown hg9 hrb
  have hbvw10 := (hg9.block _ (heap_lt hbvw9) (fun e => by cases e; omega)).trans hbvw9
  clear hRw9 hZw9 hbvw9 hg9
  clear ct
  go_wp2_with fail
  have kk := word_okS koσ4 cpuW
  have koσ5 := kk.1
  have ksσ5 := kk.2
  have ct := fun (w : World) (hR : Rd w r tb n cap xs σ4) => rdword_any hR koσ4 cpuW
  clear kk
  generalize wordS cpuW σ4 = σ5 at koσ5 ksσ5 ct HT
  refine (ct w10 hRw10).mono ?_
  rintro e w11 ⟨rfl, hRw11, hg9⟩
  have hZw11 := hZw10.grown hg9 hrb
  have hbvw11 := (hg9.block _ (heap_lt hbvw10) (fun e => by cases e; omega)).trans hbvw10
  clear hRw10 hZw10 hbvw10 hg9
  clear ct
  go_wp2_with fail
  have kk := take_okS koσ5 1
  have koσ6 := kk.1
  have ksσ6 := kk.2.1

  have ct := fun (w : World) (hR : Rd w r tb n cap xs σ5) => rtake_any hR koσ5 1
  clear kk
  generalize takeS 1 σ5 = qq at koσ6 ksσ6 ct HT
  obtain ⟨⟨⟨bbk, bbt, bbv, bbh⟩, bbo, bbl, bbc⟩, σ6⟩ := qq
  dsimp only at koσ6 ksσ6 ct
  unfold tpV tzV tzC at ct
  refine (ct w11 hRw11).mono ?_
  rintro e w12 ⟨rfl, hRw12, hg9⟩
  have hZw12 := hZw11.grown hg9 hrb
  have hbvw12 := (hg9.block _ (heap_lt hbvw11) (fun e => by cases e; omega)).trans hbvw11
  clear hRw11 hZw11 hbvw11 hg9
  clear ct
  go_wp2_with fail
  have hal := (Below.refl w12.heap.size w12).alloc (Nat.le_refl _) (.cells #[.int .i64 bbk, .int .i64 bbo, .int .i64 bbl, .int .i64 bbc, .string ⟨bbt.toArray⟩, .int .u32 (bbv : Int), .bool bbh] 57)
  have hbcw13 : (w12.alloc (.cells #[.int .i64 bbk, .int .i64 bbo, .int .i64 bbl, .int .i64 bbc, .string ⟨bbt.toArray⟩, .int .u32 (bbv : Int), .bool bbh] 57)).heap[w12.heap.size]? = some (.cells #[.int .i64 bbk, .int .i64 bbo, .int .i64 bbl, .int .i64 bbc, .string ⟨bbt.toArray⟩, .int .u32 (bbv : Int), .bool bbh] 57 (0, 0)) := heap_alloc_new w12 _
  have hrlw13 := hRw12.lt
  have hRw13 := hRw12.below hal
  have hZw13 := hZw12.below hal
  have hbvw13 := (hal.block _ (heap_lt hbvw12)).trans hbvw12
  clear hRw12 hZw12 hbvw12 hal
  generalize (w12.alloc (.cells #[.int .i64 bbk, .int .i64 bbo, .int .i64 bbl, .int .i64 bbc, .string ⟨bbt.toArray⟩, .int .u32 (bbv : Int), .bool bbh] 57)) = w13 at *
  generalize w12.heap.size = bc at *
  have kk := take_okS koσ6 4
  have koσ7 := kk.1
  have ksσ7 := kk.2.1

  have ct := fun (w : World) (hR : Rd w r tb n cap xs σ6) => rtake_any hR koσ6 4
  clear kk
  generalize takeS 4 σ6 = qq at koσ7 ksσ7 ct HT
  obtain ⟨⟨⟨mck, mct, mcv, mch⟩, mco, mcl, mcc⟩, σ7⟩ := qq
  dsimp only at koσ7 ksσ7 ct
  unfold tpV tzV tzC at ct
  refine (ct w13 hRw13).mono ?_
  rintro e w14 ⟨rfl, hRw14, hg9⟩
  have hZw14 := hZw13.grown hg9 hrb
  have hbvw14 := (hg9.block _ (heap_lt hbvw13) (fun e => by cases e; omega)).trans hbvw13
  have hbcw14 := (hg9.block _ (heap_lt hbcw13) (fun e => by cases e; omega)).trans hbcw13
  clear hRw13 hZw13 hbvw13 hbcw13 hg9
  clear ct
  have hzs : szS σ7 ≤ n := by omega
  clear ksσ1 ksσ2 ksσ3 ksσ4 ksσ5 ksσ6 ksσ7 kz hEnd koσ1 koσ2 koσ3 koσ4 koσ5 koσ6
  obtain ⟨⟨_, _, _, _, v4, _, _⟩, _⟩ := var7 hbvw14
  obtain ⟨⟨_, _, _, _, c4, _, _⟩, _⟩ := var7 hbcw14
  go_wp2
  clear v4 c4 hbvw14 hbcw14
  have hal := (Below.refl w14.heap.size w14).alloc (Nat.le_refl _) (.cells #[.string ⟨aat.toArray⟩, .string ⟨bbt.toArray⟩, .slice none 0 0, .bool false, .string ⟨#[]⟩] 24)
  have hbaw15 : (w14.alloc (.cells #[.string ⟨aat.toArray⟩, .string ⟨bbt.toArray⟩, .slice none 0 0, .bool false, .string ⟨#[]⟩] 24)).heap[w14.heap.size]? = some (.cells #[.string ⟨aat.toArray⟩, .string ⟨bbt.toArray⟩, .slice none 0 0, .bool false, .string ⟨#[]⟩] 24 (0, 0)) := heap_alloc_new w14 _
  have hrlw15 := hRw14.lt
  have hRw15 := hRw14.below hal
  have hZw15 := hZw14.below hal
  clear hRw14 hZw14 hal
  generalize (w14.alloc (.cells #[.string ⟨aat.toArray⟩, .string ⟨bbt.toArray⟩, .slice none 0 0, .bool false, .string ⟨#[]⟩] 24)) = w15 at *
  generalize w14.heap.size = ba at *
  have hrba : r < ba := by omega
  generalize hQ : objsS f f [] σ7 = Q at HT
  have HQ : Hid (Q = objsS f f (([] : List (Ob × Value)).map Prod.fst) σ7) := hQ.symm
  clear hQ
  clear hrlw15 hrlw13 hrlw9
  go_loopw [] (fun wr => ∃ (g' : Nat) (σ' : Rs) (qs : List (Ob × Value)) (lv : Value), Hid (Q = objsS f g' (qs.map Prod.fst) σ') ∧ szS σ' + 1 ≤ g' ∧ szS σ' + qs.length ≤ n ∧ OkS σ' ∧ Rd wr r tb n cap xs σ' ∧ Cz w wr ∧ wr.heap[ba]? = some (.cells #[.string ⟨aat.toArray⟩, .string ⟨bbt.toArray⟩, lv, .bool false, .string ⟨#[]⟩] 24 (0, 0)) ∧ wr.ownsRow (ba + 1) 71 8 lv qs.length (rowsO qs) ∧ (∀ q, q ∈ qs → AttrsAt wr (fun g => ba < g ∧ lv.ownBlock ≠ some g) q.2 q.1.attrs)) (fun wr => rdSz wr r)
  case atStart => exact ⟨f, σ7, [], _, HQ, by omega, by simp; omega, koσ7, hRw15, hZw15, hbaw15, World.ownsRow_nil _ _ _ _, (fun p hp => by cases hp)⟩
  case round =>
    obtain ⟨g', σ', qs, lv, hh, hg', hlen, hO', hRwr, hZwr, hbawr, hOw, hA⟩ := hrel
    clear HQ hRw15 hZw15 hbaw15 koσ7
    obtain ⟨av, cv, rfl⟩ := own_shape8 hOw
    have hpl := rdSz_eq hRwr
    obtain ⟨g', rfl⟩ : ∃ g, g' = g + 1 := ⟨g' - 1, by omega⟩
    have h2 := hh.out
    rw [objsS] at h2
    have ci := ris_b hRwr hO' 1
    have hbas := heap_lt hbawr
    cases hi : isS 1 σ' with
    | true =>
      rw [hi] at ci
      rw [hi, if_pos rfl] at h2
      have hoo := obj_okS f σ' hO'
      have HOO : Hid (OkS (objS f σ').2 ∧ szS (objS f σ').2 + 1 ≤ szS σ') := ⟨hoo.1, hoo.2.2 hi⟩
      have HM3 : Hid (Q = objsS f g' (qs.map Prod.fst ++ [(objS f σ').1]) (objS f σ').2) := h2
      have HE : Hid (objS f σ' = _) := objS_one f σ'
      have hCOwr : Co (ba + 1) wr.heap.size wr (.slice av qs.length cv) qs := ⟨hOw, fun p hp => attrsAt_move (Nat.le_refl _) (fun g hF hl => ⟨rfl, hF.1, hF.2, hl⟩) (hA p hp), fun g e => hOw.lt g e⟩
      have hi1 : isS 1 σ' = true := hi
      clear hoo hh h2 hi hA hOw
      go_wp2_with fail
      refine ci.mono ?_
      rintro e wa ⟨rfl, hb1⟩
      have hzwa := hb1.size
      have hrba1 : r < ba + 1 := by omega
      have hszwr : wr.heap.size ≤ wr.heap.size := Nat.le_refl _
      have hszwa := Nat.le_trans hszwr hb1.size
      have hRwa := hRwr.below hb1
      have hZwa := hZwr.below hb1
      have hbawa := (hb1.block _ (heap_lt hbawr)).trans hbawr
      have hCOwa := hCOwr.below hb1
      clear hRwr hZwr hbawr hCOwr hb1
      clear hszwr
      clear hzwa ci
      go_wp2_with fail
      have kk := take_okS hO' 1
      have koτ1 := kk.1
      have ksτ1 := kk.2.1
      have kxτ1 := kk.2.2 (by decide) hi1
      have ct := fun (w : World) (hR : Rd w r tb n cap xs σ') => rtake_any hR hO' 1
      clear kk
      generalize takeS 1 σ' = qq at koτ1 ksτ1 kxτ1 ct HE
      obtain ⟨⟨⟨pk, pt, pv, ph⟩, po, pl, pc⟩, τ1⟩ := qq
      dsimp only at koτ1 ksτ1 kxτ1 ct
      unfold tpV tzV tzC at ct
      refine (ct wa hRwa).mono ?_
      rintro e wb ⟨rfl, hRwb, hg9⟩
      have hZwb := hZwa.grown hg9 hrb
      have hszwb := Nat.le_trans hszwa hg9.size
      have hbawb := (hg9.block _ (heap_lt hbawa) (fun e => by cases e; omega)).trans hbawa
      have hCOwb := hCOwa.grown hg9 (.inl hrba1)
      clear hRwa hZwa hbawa hCOwa hg9 hszwa
      clear ct
      go_wp2_with fail
      have hbk0 := hszwb
      have hal := (Below.refl wb.heap.size wb).alloc (Nat.le_refl _) (.cells #[.int .i64 pk, .int .i64 po, .int .i64 pl, .int .i64 pc, .string ⟨pt.toArray⟩, .int .u32 (pv : Int), .bool ph] 57)
      have hbkwc : (wb.alloc (.cells #[.int .i64 pk, .int .i64 po, .int .i64 pl, .int .i64 pc, .string ⟨pt.toArray⟩, .int .u32 (pv : Int), .bool ph] 57)).heap[wb.heap.size]? = some (.cells #[.int .i64 pk, .int .i64 po, .int .i64 pl, .int .i64 pc, .string ⟨pt.toArray⟩, .int .u32 (pv : Int), .bool ph] 57 (0, 0)) := heap_alloc_new wb _
      have hrlwc := hRwb.lt
      have hszwc := Nat.le_trans hszwb hal.size
      have hRwc := hRwb.below hal
      have hZwc := hZwb.below hal
      have hbawc := (hal.block _ (heap_lt hbawb)).trans hbawb
      have hCOwc := hCOwb.below hal
      clear hRwb hZwb hbawb hCOwb hal
      clear hszwb
      generalize (wb.alloc (.cells #[.int .i64 pk, .int .i64 po, .int .i64 pl, .int .i64 pc, .string ⟨pt.toArray⟩, .int .u32 (pv : Int), .bool ph] 57)) = wc at *
      generalize wb.heap.size = bk at *
      have kk := take_okS koτ1 1
      have koτ2 := kk.1
      have ksτ2 := kk.2.1

      have ct := fun (w : World) (hR : Rd w r tb n cap xs τ1) => rtake_any hR koτ1 1
      clear kk
      generalize takeS 1 τ1 = qq at koτ2 ksτ2 ct HE
      obtain ⟨⟨⟨qk, qt, qv, qh⟩, qo, ql, qc⟩, τ2⟩ := qq
      dsimp only at koτ2 ksτ2 ct
      unfold tpV tzV tzC at ct
      refine (ct wc hRwc).mono ?_
      rintro e wd ⟨rfl, hRwd, hg9⟩
      have hZwd := hZwc.grown hg9 hrb
      have hszwd := Nat.le_trans hszwc hg9.size
      have hbawd := (hg9.block _ (heap_lt hbawc) (fun e => by cases e; omega)).trans hbawc
      have hbkwd := (hg9.block _ (heap_lt hbkwc) (fun e => by cases e; omega)).trans hbkwc
      have hCOwd := hCOwc.grown hg9 (.inl hrba1)
      clear hRwc hZwc hbawc hbkwc hCOwc hg9 hszwc
      clear ct
      have hbkl := heap_lt hbkwd
      obtain ⟨⟨_, d1, d2, d3, d4, _, _⟩, _⟩ := var7 hbkwd
      have al : ∀ o j u, wd.cell? ⟨bk, j, none⟩ = some u → (wd.alloc o).cell? ⟨bk, j, none⟩ = some u := fun o j u hu => by rw [cell_below ((Below.refl wd.heap.size wd).alloc (Nat.le_refl _) o) _ _ hbkl]; exact hu
      have e1 := fun o => al o 1 _ d1
      have e2 := fun o => al o 2 _ d2
      have e3 := fun o => al o 3 _ d3
      have e4 := fun o => al o 4 _ d4
      clear al d1 d2 d3 d4 hbkl
      go_wp2_with fail
      clear e1 e2 e3 e4
      have hbn0 := hszwd
      have hal := (Below.refl wd.heap.size wd).alloc (Nat.le_refl _) (.cells #[.int .i64 qk, .int .i64 qo, .int .i64 ql, .int .i64 qc, .string ⟨qt.toArray⟩, .int .u32 (qv : Int), .bool qh] 57)
      have hal2 := hal.alloc (by simp) (.cells #[.string ⟨pt.toArray⟩, .string ⟨qt.toArray⟩, .int .i64 po, .int .i64 pl, .int .i64 pc, .slice none 0 0, .bool false, .string ⟨#[]⟩] 71)
      have hbowf : ((wd.alloc (.cells #[.int .i64 qk, .int .i64 qo, .int .i64 ql, .int .i64 qc, .string ⟨qt.toArray⟩, .int .u32 (qv : Int), .bool qh] 57)).alloc (.cells #[.string ⟨pt.toArray⟩, .string ⟨qt.toArray⟩, .int .i64 po, .int .i64 pl, .int .i64 pc, .slice none 0 0, .bool false, .string ⟨#[]⟩] 71)).heap[wd.heap.size + 1]? = some (.cells #[.string ⟨pt.toArray⟩, .string ⟨qt.toArray⟩, .int .i64 po, .int .i64 pl, .int .i64 pc, .slice none 0 0, .bool false, .string ⟨#[]⟩] 71 (0, 0)) := heap2_1' wd _ _
      clear hal
      have hszwf := Nat.le_trans hszwd hal2.size
      have hRwf := hRwd.below hal2
      have hZwf := hZwd.below hal2
      have hbawf := (hal2.block _ (heap_lt hbawd)).trans hbawd
      have hbkwf := (hal2.block _ (heap_lt hbkwd)).trans hbkwd
      have hCOwf := hCOwd.below hal2
      clear hRwd hZwd hbawd hbkwd hCOwd hal2
      clear hszwd
      generalize ((wd.alloc (.cells #[.int .i64 qk, .int .i64 qo, .int .i64 ql, .int .i64 qc, .string ⟨qt.toArray⟩, .int .u32 (qv : Int), .bool qh] 57)).alloc (.cells #[.string ⟨pt.toArray⟩, .string ⟨qt.toArray⟩, .int .i64 po, .int .i64 pl, .int .i64 pc, .slice none 0 0, .bool false, .string ⟨#[]⟩] 71)) = wf at *
      have hbo0 : wr.heap.size ≤ wd.heap.size + 1 := by omega
      generalize wd.heap.size + 1 = bo at *
      have hrbo : r < bo := by omega
      have hbabo : ba < bo := by omega
      have kk := take_okS koτ2 4
      have koτ3 := kk.1
      have ksτ3 := kk.2.1

      have ct := fun (w : World) (hR : Rd w r tb n cap xs τ2) => rtake_any hR koτ2 4
      clear kk
      generalize takeS 4 τ2 = qq at koτ3 ksτ3 ct HE
      obtain ⟨⟨⟨mdk, mdt, mdv, mdh⟩, mdo, mdl, mdc⟩, τ3⟩ := qq
      dsimp only at koτ3 ksτ3 ct
      unfold tpV tzV tzC at ct
      refine (ct wf hRwf).mono ?_
      rintro e wg ⟨rfl, hRwg, hg9⟩
      have hZwg := hZwf.grown hg9 hrb
      have hszwg := Nat.le_trans hszwf hg9.size
      have hbawg := (hg9.block _ (heap_lt hbawf) (fun e => by cases e; omega)).trans hbawf
      have hbowg := (hg9.block _ (heap_lt hbowf) (fun e => by cases e; omega)).trans hbowf
      have hCOwg := hCOwf.grown hg9 (.inl hrba1)
      clear hRwf hZwf hbawf hbowf hCOwf hg9 hszwf
      clear ct
      go_wp2_with fail
      have kr := (attr_okS (f - 1)).2 0 [] _ koτ3
      have koτ4 := kr.1
      have cr : ∀ w, Rd w r tb n cap xs τ3 → Calls Tryz.prog 56 #[.pointer (some ⟨r, 0, none⟩), .int .i64 0] w fun e w' => RwPost w r tb n cap xs (rowS (f - 1) 0 [] τ3) e w' := fun w hR => rattrs_any (d := 0) (by omega) (by omega) koτ3 hR
      clear kr
      generalize rowS (f - 1) 0 [] τ3 = qr at koτ4 cr HE
      obtain ⟨ats, τ4⟩ := qr
      dsimp only at koτ4 cr
      have hbP : bo < wg.heap.size := heap_lt hbowg
      refine (cr wg hRwg).mono ?_
      rintro e wh ⟨pv, rfl, hPAwh, hRwh, hg9⟩
      dsimp only at hPAwh hRwh
      generalize hbPe : wg.heap.size = bP at hPAwh hbP
      clear hbPe cr
      have hZwh := hZwg.grown hg9 hrb
      have hszwh := Nat.le_trans hszwg hg9.size
      have hbawh := (hg9.block _ (heap_lt hbawg) (fun e => by cases e; omega)).trans hbawg
      have hbowh := (hg9.block _ (heap_lt hbowg) (fun e => by cases e; omega)).trans hbowg
      have hCOwh := hCOwg.grown hg9 (.inl hrba1)
      clear hRwg hZwg hbawg hbowg hCOwg hg9 hszwg
      obtain ⟨pa, pn, pcc, rfl⟩ := attrsAt_shape hPAwh
      obtain ⟨⟨_, _, _, _, _, y5, _, _⟩, fy⟩ := var8 hbowh
      go_wp2_with fail
      have hg9 := grown_set wh bo 5 (.slice pa pn pcc)
      have hbowi := set8_5 wh bo _ _ _ _ _ _ _ _ _ (.slice pa pn pcc) hbowh
      have hPAwi := attrsAt_grown hg9 (fun hF => by omega) hPAwh
      have hRwi := hRwh.grown hg9 (by omega) (by omega)
      have hZwi := hZwh.grown hg9 (by omega)
      have hszwi := Nat.le_trans hszwh hg9.size
      have hbawi := (hg9.block _ (heap_lt hbawh) (fun e => by cases e; omega)).trans hbawh
      have hCOwi := hCOwh.grown hg9 (.inr hbo0)
      clear hg9 hbowh hPAwh hRwh hZwh hszwh hbawh hCOwh y5 fy
      generalize wh.setCell ⟨bo, 5, none⟩ (.slice pa pn pcc) = wi at *
      have kk := take_okS koτ4 5
      have koτ5 := kk.1
      have ksτ5 := kk.2.1

      have ct := fun (w : World) (hR : Rd w r tb n cap xs τ4) => rtake_any hR koτ4 5
      clear kk
      generalize takeS 5 τ4 = qq at koτ5 ksτ5 ct HE
      obtain ⟨⟨⟨mek, met, mev, meh⟩, meo, mel, mec⟩, τ5⟩ := qq
      dsimp only at koτ5 ksτ5 ct
      unfold tpV tzV tzC at ct
      refine (ct wi hRwi).mono ?_
      rintro e wj ⟨rfl, hRwj, hg9⟩
      have hZwj := hZwi.grown hg9 hrb
      have hszwj := Nat.le_trans hszwi hg9.size
      have hbawj := (hg9.block _ (heap_lt hbawi) (fun e => by cases e; omega)).trans hbawi
      have hbowj := (hg9.block _ (heap_lt hbowi) (fun e => by cases e; omega)).trans hbowi
      have hCOwj := hCOwi.grown hg9 (.inl hrba1)
      have hPAwj := attrsAt_grown hg9 (fun hF => by omega) hPAwi
      clear hRwi hZwi hbawi hbowi hCOwi hPAwi hg9 hszwi
      clear ct
      go_wp2_with fail
      have kk := note_okS koτ5
      have koτ6 := kk.1
      have ksτ6 := kk.2
      have ct := fun (w : World) (hR : Rd w r tb n cap xs τ5) => rnote_any hR koτ5
      clear kk
      generalize noteS τ5 = qq at koτ6 ksτ6 ct HE
      obtain ⟨nt, τ6⟩ := qq
      dsimp only at koτ6 ksτ6 ct
      unfold ntV at ct
      refine (ct wj hRwj).mono ?_
      rintro e wk ⟨rfl, hRwk, hg9⟩
      have hZwk := hZwj.grown hg9 hrb
      have hszwk := Nat.le_trans hszwj hg9.size
      have hbawk := (hg9.block _ (heap_lt hbawj) (fun e => by cases e; omega)).trans hbawj
      have hbowk := (hg9.block _ (heap_lt hbowj) (fun e => by cases e; omega)).trans hbowj
      have hCOwk := hCOwj.grown hg9 (.inl hrba1)
      have hPAwk := attrsAt_grown hg9 (fun hF => by omega) hPAwj
      clear hRwj hZwj hbawj hbowj hCOwj hPAwj hg9 hszwj
      clear ct
      obtain ⟨⟨_, _, _, _, _, _, y6, y7⟩, fy⟩ := var8 hbowk
      go_wp2_with fail
      have hg9 := setNote8_grown wk bo (.bool (noteB nt)) (.string ⟨(noteT nt).toArray⟩)
      have hbowl := setNote8_at wk bo _ _ _ _ _ _ _ _ _ (.bool (noteB nt)) (.string ⟨(noteT nt).toArray⟩) hbowk
      have hPAwl := attrsAt_grown hg9 (fun hF => by omega) hPAwk
      have hRwl := hRwk.grown hg9 (by omega) (by omega)
      have hZwl := hZwk.grown hg9 (by omega)
      have hszwl := Nat.le_trans hszwk hg9.size
      have hbawl := (hg9.block _ (heap_lt hbawk) (fun e => by cases e; omega)).trans hbawk
      have hCOwl := hCOwk.grown hg9 (.inr hbo0)
      clear hg9 hbowk hPAwk hRwk hZwk hszwk hbawk hCOwk y6 y7 fy
      generalize ((wk.setCell ⟨bo, 6, none⟩ (.bool (noteB nt))).setCell ⟨bo, 7, none⟩ (.string ⟨(noteT nt).toArray⟩)) = wl at *
      have kk := take_okS koτ6 7
      have koτ7 := kk.1
      have ksτ7 := kk.2.1

      have ct := fun (w : World) (hR : Rd w r tb n cap xs τ6) => rtake_any hR koτ6 7
      clear kk
      generalize takeS 7 τ6 = qq at koτ7 ksτ7 ct HE
      obtain ⟨⟨⟨mfk, mft, mfv, mfh⟩, mfo, mfl, mfc⟩, τ7⟩ := qq
      dsimp only at koτ7 ksτ7 ct
      unfold tpV tzV tzC at ct
      refine (ct wl hRwl).mono ?_
      rintro e wm ⟨rfl, hRwm, hg9⟩
      have hZwm := hZwl.grown hg9 hrb
      have hszwm := Nat.le_trans hszwl hg9.size
      have hbawm := (hg9.block _ (heap_lt hbawl) (fun e => by cases e; omega)).trans hbawl
      have hbowm := (hg9.block _ (heap_lt hbowl) (fun e => by cases e; omega)).trans hbowl
      have hCOwm := hCOwl.grown hg9 (.inl hrba1)
      have hPAwm := attrsAt_grown hg9 (fun hF => by omega) hPAwl
      clear hRwl hZwl hbawl hbowl hCOwl hPAwl hg9 hszwl
      clear ct
      have HE2 : Hid (objS f σ' = (⟨pt, qt, po, pl, pc, ats, noteB nt, noteT nt⟩, τ7)) := HE
      have HOO2 : Hid (OkS τ7 ∧ szS τ7 + 1 ≤ szS σ') := by
        have := HOO.out
        rw [HE2.out] at this
        exact this
      have HM9 : Hid (Q = objsS f g' ((qs ++ [((⟨pt, qt, po, pl, pc, ats, noteB nt, noteT nt⟩ : Ob), Value.slice pa pn pcc)]).map Prod.fst) τ7) := by
        show Q = _
        rw [HM3.out, HE2.out, List.map_append]
        rfl
      obtain ⟨⟨y0, y1, y2, y3, y4, y5, y6, y7⟩, fy⟩ := var8 hbowm
      obtain ⟨⟨_, _, x2, _, _⟩, fx⟩ := var5 hbawm
      have hlen2 : qs.length ≤ 262145 := by omega
      have hsba := heap_lt hbawm
      have hbab : ba + 1 ≤ wm.heap.size := by omega
      clear HE HOO HM3 HE2 hbowm
      go_wp2_with (at_builtin; refine wpList_append_own_at _ rfl (.tmp 75) (.tmp 77) 22 rfl (ba + 1) 71 i0 (.agg zero8) 8 104 Tryz.underlying22 hi0 hz0 hz1 hz2 rfl (by decide) _ _ _ rfl (hCOwm.own.alloc _) ⟨wm.heap.size, 0, none⟩ 1 1 [.string ⟨pt.toArray⟩, .string ⟨qt.toArray⟩, .int .i64 po, .int .i64 pl, .int .i64 pc, .slice pa pn pcc, .bool (noteB nt), .string ⟨(noteT nt).toArray⟩] rfl rfl (cell_new7 wm #[.string ⟨pt.toArray⟩, .string ⟨qt.toArray⟩, .int .i64 po, .int .i64 pl, .int .i64 pc, .slice pa pn pcc, .bool (noteB nt), .string ⟨(noteT nt).toArray⟩] _) (one8 _ _ _ _ _ _ _ _ _ _) (by unfold maxLen; omega) (by omega) (by simp; omega) ?_)
      intro v6 w6 ho6 hg6 _ hat6
      have hg7 := grown_alloc hg6
      have hblk : ∀ g, g < wm.heap.size → (Value.slice av qs.length cv).ownBlock ≠ some g → v6.ownBlock ≠ some g := fun g hl hne e => by
        rcases hat6 with h | h
        · rw [h] at e; exact hne e
        · rw [h] at e; cases e; omega
      have hob := hCOwm.blk
      have hR6 : Rd w6 r tb n cap xs τ7 := hRwm.grownO hg7 (fun e => by have := (hob _ e.symm).1; omega) (fun e => by have := (hob _ e.symm).1; omega)
      have hZ6 : Cz w w6 := ⟨⟨hg7.os.trans hZwm.bel.os, hg7.tape.trans hZwm.bel.tape, hg7.output.trans hZwm.bel.output, Nat.le_trans hZwm.bel.size hg7.size, fun i hi => (hg7.block i (Nat.lt_of_lt_of_le hi hZwm.bel.size) (fun e => by have := (hob _ e.symm).1; omega)).trans (hZwm.bel.block i hi)⟩, (hg7.block _ (heap_lt hZwm.v) (fun e => by have := (hob _ e.symm).1; omega)).trans hZwm.v, (hg7.block _ (heap_lt hZwm.f) (fun e => by have := (hob _ e.symm).1; omega)).trans hZwm.f⟩
      have hba6 := (hg7.block _ hsba (fun e => by have := (hob _ e.symm).1; omega)).trans hbawm
      obtain ⟨av6, cv6, rfl⟩ := own_shape8 ho6
      have hO6 : w6.ownsRow (ba + 1) 71 8 (.slice av6 (qs.length + 1) cv6) (qs ++ [((⟨pt, qt, po, pl, pc, ats, noteB nt, noteT nt⟩ : Ob), Value.slice pa pn pcc)]).length (rowsO (qs ++ [((⟨pt, qt, po, pl, pc, ats, noteB nt, noteT nt⟩ : Ob), Value.slice pa pn pcc)])) := by
        rw [rowsO_snoc, List.length_append]; exact ho6
      have hA6 : ∀ q, q ∈ qs ++ [((⟨pt, qt, po, pl, pc, ats, noteB nt, noteT nt⟩ : Ob), Value.slice pa pn pcc)] → AttrsAt w6 (fun g => ba < g ∧ (Value.slice av6 (qs.length + 1) cv6).ownBlock ≠ some g) q.2 q.1.attrs := fun q hq => by
        rcases List.mem_append.1 hq with hq | hq
        · exact attrsAt_move hg7.size (fun g hF hl => ⟨hg7.block g hl hF.2.1.symm, hF.1, hblk g hl hF.2.1⟩) (hCOwm.par q hq)
        · have hqe : q = _ := List.mem_singleton.1 hq
          subst hqe
          have hne : ∀ g, bP ≤ g → (Value.slice av qs.length cv).ownBlock ≠ some g := fun g hF e => by have := (hob g e).2; omega
          exact attrsAt_move hg7.size (fun g hF hl => ⟨hg7.block g hl (hne g hF).symm, by omega, hblk g hl (hne g hF)⟩) hPAwm
      have hgs := grown_set w6 ba 2 (.slice av6 (qs.length + 1) cv6)
      have hba7 := set5_2 w6 ba _ _ _ _ _ _ (.slice av6 (qs.length + 1) cv6) hba6
      have hR7 := hR6.grown hgs (by omega) (by omega)
      have hZ7 := hZ6.grown hgs (by omega)
      have hO7 := own_grown hO6 hgs (Nat.lt_succ_self _)
      have hA7 : ∀ q, q ∈ qs ++ [((⟨pt, qt, po, pl, pc, ats, noteB nt, noteT nt⟩ : Ob), Value.slice pa pn pcc)] → AttrsAt (w6.setCell ⟨ba, 2, none⟩ (.slice av6 (qs.length + 1) cv6)) (fun g => ba < g ∧ (Value.slice av6 (qs.length + 1) cv6).ownBlock ≠ some g) q.2 q.1.attrs := fun q hq => attrsAt_grown hgs (fun hF => absurd hF.1 (Nat.lt_irrefl _)) (hA6 q hq)
      obtain ⟨⟨_, _, x2', _, _⟩, fx'⟩ := var5 hba6
      have hpl7 := rdSz_eq hR7
      clear ho6 hg6 hg7 hCOwm hPAwm hRwm hZwm hob hblk hat6 hR6 hZ6 hba6 hO6 hA6 hgs x2 fx y0 y1 y2 y3 y4 y5 y6 y7 fy hbawm
      go_wp2
      go_roundw
      case rel =>
        have := HOO2.out.2
        exact ⟨g', τ7, qs ++ [((⟨pt, qt, po, pl, pc, ats, noteB nt, noteT nt⟩ : Ob), Value.slice pa pn pcc)], _, HM9, by omega, by simp; omega, HOO2.out.1, hR7, hZ7, hba7, hO7, hA7⟩
      case measure =>
        have := HOO2.out.2
        rw [hpl7, hpl]
        omega
    | false =>
      rw [hi] at ci
      rw [hi, if_neg (by decide)] at h2
      have HQ2 : Hid (Q = (qs.map Prod.fst, σ')) := h2
      have hOBwr : ObjsAt wr (fun g => ba < g) (.slice av qs.length cv) (qs.map Prod.fst) := objsAt_own hOw (fun g hg => hg) (fun q hq => attrsAt_mono (fun g hF => hF.1) (hA q hq))
      have HT2 : Hid (T = (⟨aat, bbt, qs.map Prod.fst, noteB (noteS (takeS 5 σ').2).1, noteT (noteS (takeS 5 σ').2).1⟩, (takeS 0 (takeS 7 (noteS (takeS 5 σ').2).2).2).2)) := by
        show T = _
        rw [HT.out, HQ2.out]
      have hszwr : wr.heap.size ≤ wr.heap.size := Nat.le_refl _
      clear hh h2 hi hA hOw HT HQ2
      go_wp2_with fail
      refine ci.mono ?_
      rintro e wa ⟨rfl, hb1⟩
      have hszwa := Nat.le_trans hszwr hb1.size
      have hRwa := hRwr.below hb1
      have hZwa := hZwr.below hb1
      have hbawa := (hb1.block _ (heap_lt hbawr)).trans hbawr
      have hOBwa := objsAt_below hb1 hOBwr
      clear hRwr hZwr hbawr hOBwr hb1
      clear hszwr
      clear ci
      go_wp2_with fail
      have kk := take_okS hO' 5
      have koτ1 := kk.1
      have ksτ1 := kk.2.1

      have ct := fun (w : World) (hR : Rd w r tb n cap xs σ') => rtake_any hR hO' 5
      clear kk
      generalize takeS 5 σ' = qq at koτ1 ksτ1 ct HT2
      obtain ⟨⟨⟨pk, pt, pv, ph⟩, po, pl, pc⟩, τ1⟩ := qq
      dsimp only at koτ1 ksτ1 ct
      unfold tpV tzV tzC at ct
      refine (ct wa hRwa).mono ?_
      rintro e wb ⟨rfl, hRwb, hg9⟩
      have hZwb := hZwa.grown hg9 hrb
      have hszwb := Nat.le_trans hszwa hg9.size
      have hbawb := (hg9.block _ (heap_lt hbawa) (fun e => by cases e; omega)).trans hbawa
      have hOBwb := objsAt_grown hg9 (fun hF => by omega) hOBwa
      clear hRwa hZwa hbawa hOBwa hg9 hszwa
      clear ct
      go_wp2_with fail
      have kk := note_okS koτ1
      have koτ2 := kk.1
      have ksτ2 := kk.2
      have ct := fun (w : World) (hR : Rd w r tb n cap xs τ1) => rnote_any hR koτ1
      clear kk
      generalize noteS τ1 = qq at koτ2 ksτ2 ct HT2
      obtain ⟨nt, τ2⟩ := qq
      dsimp only at koτ2 ksτ2 ct
      unfold ntV at ct
      refine (ct wb hRwb).mono ?_
      rintro e wc ⟨rfl, hRwc, hg9⟩
      have hZwc := hZwb.grown hg9 hrb
      have hszwc := Nat.le_trans hszwb hg9.size
      have hbawc := (hg9.block _ (heap_lt hbawb) (fun e => by cases e; omega)).trans hbawb
      have hOBwc := objsAt_grown hg9 (fun hF => by omega) hOBwb
      clear hRwb hZwb hbawb hOBwb hg9 hszwb
      clear ct
      obtain ⟨⟨_, _, _, y3, y4⟩, fy⟩ := var5 hbawc
      go_wp2_with fail
      have hg9 := setNote5_grown wc ba (.bool (noteB nt)) (.string ⟨(noteT nt).toArray⟩)
      have hbawd := setNote5_at wc ba _ _ _ _ _ _ (.bool (noteB nt)) (.string ⟨(noteT nt).toArray⟩) hbawc
      have hRwd := hRwc.grown hg9 (by omega) (by omega)
      have hZwd := hZwc.grown hg9 (by omega)
      have hszwd := Nat.le_trans hszwc hg9.size
      have hOBwd := objsAt_grown hg9 (fun hF => by omega) hOBwc
      clear hg9 hbawc hRwc hZwc hszwc hOBwc y3 y4 fy
      generalize ((wc.setCell ⟨ba, 3, none⟩ (.bool (noteB nt))).setCell ⟨ba, 4, none⟩ (.string ⟨(noteT nt).toArray⟩)) = wd at *
      have kk := take_okS koτ2 7
      have koτ3 := kk.1
      have ksτ3 := kk.2.1

      have ct := fun (w : World) (hR : Rd w r tb n cap xs τ2) => rtake_any hR koτ2 7
      clear kk
      generalize takeS 7 τ2 = qq at koτ3 ksτ3 ct HT2
      obtain ⟨⟨⟨qk, qt, qv, qh⟩, qo, ql, qc⟩, τ3⟩ := qq
      dsimp only at koτ3 ksτ3 ct
      unfold tpV tzV tzC at ct
      refine (ct wd hRwd).mono ?_
      rintro e we ⟨rfl, hRwe, hg9⟩
      have hZwe := hZwd.grown hg9 hrb
      have hszwe := Nat.le_trans hszwd hg9.size
      have hbawe := (hg9.block _ (heap_lt hbawd) (fun e => by cases e; omega)).trans hbawd
      have hOBwe := objsAt_grown hg9 (fun hF => by omega) hOBwd
      clear hRwd hZwd hbawd hOBwd hg9 hszwd
      clear ct
      go_wp2_with fail
      have kk := take_okS koτ3 0
      have koτ4 := kk.1
      have ksτ4 := kk.2.1

      have ct := fun (w : World) (hR : Rd w r tb n cap xs τ3) => rtake_any hR koτ3 0
      clear kk
      generalize takeS 0 τ3 = qq at koτ4 ksτ4 ct HT2
      obtain ⟨⟨⟨m2k, m2t, m2v, m2h⟩, m2o, m2l, m2c⟩, τ4⟩ := qq
      dsimp only at koτ4 ksτ4 ct
      unfold tpV tzV tzC at ct
      refine (ct we hRwe).mono ?_
      rintro e wf ⟨rfl, hRwf, hg9⟩
      have hZwf := hZwe.grown hg9 hrb
      have hszwf := Nat.le_trans hszwe hg9.size
      have hbawf := (hg9.block _ (heap_lt hbawe) (fun e => by cases e; omega)).trans hbawe
      have hOBwf := objsAt_grown hg9 (fun hF => by omega) hOBwe
      clear hRwe hZwe hbawe hOBwe hg9 hszwe
      clear ct
      go_wp2_with fail
      have HT3 : Hid (T = (⟨aat, bbt, qs.map Prod.fst, noteB nt, noteT nt⟩, τ4)) := HT2
      have hl := HL.out
      rw [HT3.out] at hl
      have ck := rok_any hRwf
      have hsba := heap_lt hbawf
      clear HT2 HT3 HL
      cases hTL : textL f xs with
      | ok tr rr =>
        rw [hTL] at hl
        obtain ⟨htr, ys, hτ⟩ := hl
        have HX2 : Hid (X = .inl tr) := by
          show X = _
          rw [HX.out, hTL]
        dsimp only at htr hτ
        subst hτ
        have HTR : Hid (_ = tr) := htr
        have ck' : Calls Tryz.prog 58 #[.pointer (some ⟨r, 0, none⟩)] wf fun e w' => e = .returned (.bool true) ∧ w' = wf := ck
        clear htr
        refine ck'.mono ?_
        rintro e wq ⟨rfl, rfl⟩
        obtain ⟨⟨y0, y1, y2, y3, y4⟩, fy⟩ := var5 hbawf
        obtain ⟨⟨u0, u1, u2, u3, u4⟩, fu⟩ := var5 hZwf.v
        have hl0 := heap_lt hZwf.f
        have ht5 := set5t_at wq w.heap.size _ _ _ _ _ _ (.string ⟨aat.toArray⟩) (.string ⟨bbt.toArray⟩) (.slice av qs.length cv) (.bool (noteB nt)) (.string ⟨(noteT nt).toArray⟩) hZwf.v
        have hg5 := set5t_grown wq w.heap.size (.string ⟨aat.toArray⟩) (.string ⟨bbt.toArray⟩) (.slice av qs.length cv) (.bool (noteB nt)) (.string ⟨(noteT nt).toArray⟩)
        have hf5 := (hg5.block _ hl0 (fun e => absurd (Option.some.inj e) (by omega))).trans hZwf.f
        have hb5 : Below w.heap.size w _ := hZwf.bel.trans (below_of_grown hg5 (Nat.le_refl _) hZwf.bel.size)
        have hOB5 := objsAt_grown hg5 (fun hF => by omega) hOBwf
        generalize hw5 : (((((wq.setCell ⟨w.heap.size, 0, none⟩ (.string ⟨aat.toArray⟩)).setCell ⟨w.heap.size, 1, none⟩ (.string ⟨bbt.toArray⟩)).setCell ⟨w.heap.size, 2, none⟩ (.slice av qs.length cv)).setCell ⟨w.heap.size, 3, none⟩ (.bool (noteB nt))).setCell ⟨w.heap.size, 4, none⟩ (.string ⟨(noteT nt).toArray⟩)) = w5 at ht5 hg5 hf5 hb5 hOB5
        obtain ⟨⟨z0, z1, z2, z3, z4⟩, fz⟩ := var5 hf5
        have hf6 := set5t_at w5 (w.heap.size + 1) _ _ _ _ _ _ (.int .i64 0) (.int .i64 0) (.int .i64 0) (.int .i64 0) (.string ⟨#[]⟩) hf5
        have hg6 := set5t_grown w5 (w.heap.size + 1) (.int .i64 0) (.int .i64 0) (.int .i64 0) (.int .i64 0) (.string ⟨#[]⟩)
        have ht6 := (hg6.block _ (heap_lt ht5) (fun e => absurd (Option.some.inj e) (by omega))).trans ht5
        have hb6 : Below w.heap.size w _ := hb5.trans (below_of_grown hg6 (Nat.le_succ _) hb5.size)
        have hOB6 := objsAt_grown hg6 (fun hF => by omega) hOB5
        clear hZwf hbawf hRwf hOBwf hg5 hg6 hf5 ht5 hb5 hOB5 ck ck' hTL HX
        go_wp2
        generalize (((((w5.setCell ⟨w.heap.size + 1, 0, none⟩ (.int .i64 0)).setCell ⟨w.heap.size + 1, 1, none⟩ (.int .i64 0)).setCell ⟨w.heap.size + 1, 2, none⟩ (.int .i64 0)).setCell ⟨w.heap.size + 1, 3, none⟩ (.int .i64 0)).setCell ⟨w.heap.size + 1, 4, none⟩ (.string ⟨#[]⟩)) = w6 at *
        rw [HX2.out, ← HTR.out]
        refine bodyPost_ret (res_parse Tryz.results25 _ w.heap.size (w.heap.size + 1) _ _ _ _ _ _ _ _ _ _ _ rfl rfl ht6 hf6) rfl ⟨_, rfl, ?_, hb6⟩
        exact objsAt_move (Nat.le_refl _) (fun g hF hl => ⟨rfl, by omega⟩) hOB6
      | bad c x =>
        rw [hTL] at hl
        have HX2 : Hid (X = .inr (c, x.o, x.l, x.c)) := by
          show X = _
          rw [HX.out, hTL]
        have hτ : τ4 = .dead c x := hl
        subst hτ
        have ck' : Calls Tryz.prog 58 #[.pointer (some ⟨r, 0, none⟩)] wf fun e w' => e = .returned (.bool false) ∧ w' = wf := ck
        refine ck'.mono ?_
        rintro e wq ⟨rfl, rfl⟩
        obtain ⟨N, hc, h3⟩ := hRwf.hh
        obtain ⟨⟨_, _, r2, r3, r4, r5, r6⟩, _⟩ := rd7 h3
        obtain ⟨⟨u0, u1, u2, u3, u4⟩, fu⟩ := var5 hZwf.v
        obtain ⟨⟨y0, y1, y2, y3, y4⟩, fy⟩ := var5 hZwf.f
        have hl0 := heap_lt hZwf.f
        have hne : w.heap.size + 1 ≠ w.heap.size := by omega
        have hne2 : r ≠ w.heap.size := by omega
        have hne3 : r ≠ w.heap.size + 1 := by omega
        have ht5 := set5t_at wq w.heap.size _ _ _ _ _ _ (.string ⟨#[]⟩) (.string ⟨#[]⟩) (.slice none 0 0) (.bool false) (.string ⟨#[]⟩) hZwf.v
        have hg5 := set5t_grown wq w.heap.size (.string ⟨#[]⟩) (.string ⟨#[]⟩) (.slice none 0 0) (.bool false) (.string ⟨#[]⟩)
        have hf5 := (hg5.block _ hl0 (fun e => absurd (Option.some.inj e) (by omega))).trans hZwf.f
        have hb5 : Below w.heap.size w _ := hZwf.bel.trans (below_of_grown hg5 (Nat.le_refl _) hZwf.bel.size)
        obtain ⟨xz, xo, xl, xc⟩ := x
        dsimp only at r3 r4 r5 HX2
        clear hZwf hbawf hRwf hOBwf hg5 ck ck' hTL HX h3 hl
        go_wp2
        go_region
        all_goals
          generalize (((((wq.setCell ⟨w.heap.size, 0, none⟩ (.string ⟨#[]⟩)).setCell ⟨w.heap.size, 1, none⟩ (.string ⟨#[]⟩)).setCell ⟨w.heap.size, 2, none⟩ (.slice none 0 0)).setCell ⟨w.heap.size, 3, none⟩ (.bool false)).setCell ⟨w.heap.size, 4, none⟩ (.string ⟨#[]⟩)) = w5 at *
          have hf6 := set5t_at w5 (w.heap.size + 1) _ _ _ _ _ _ (.int .i64 (c : Int)) (.int .i64 xo) (.int .i64 xl) (.int .i64 xc) (.string ⟨#[]⟩) hf5
          have hg6 := set5t_grown w5 (w.heap.size + 1) (.int .i64 (c : Int)) (.int .i64 xo) (.int .i64 xl) (.int .i64 xc) (.string ⟨#[]⟩)
          have ht6 := (hg6.block _ (heap_lt ht5) (fun e => absurd (Option.some.inj e) (by omega))).trans ht5
          have hb6 : Below w.heap.size w _ := hb5.trans (below_of_grown hg6 (Nat.le_succ _) hb5.size)
          generalize (((((w5.setCell ⟨w.heap.size + 1, 0, none⟩ (.int .i64 (c : Int))).setCell ⟨w.heap.size + 1, 1, none⟩ (.int .i64 xo)).setCell ⟨w.heap.size + 1, 2, none⟩ (.int .i64 xl)).setCell ⟨w.heap.size + 1, 3, none⟩ (.int .i64 xc)).setCell ⟨w.heap.size + 1, 4, none⟩ (.string ⟨#[]⟩)) = w6 at *
          have hb7 := hb6.drew
          have hf7 : w6.drew.heap[w.heap.size + 1]? = _ := hf6
          have ht7 : w6.drew.heap[w.heap.size]? = _ := ht6
          clear hb5 hb6 hf6 ht6 hg6 hf5 ht5 y0 y1 y2 y3 y4 u0 u1 u2 u3 u4 r2 r3 r4 r5 r6 fy fu
          generalize w6.drew = w7 at *
          go_wp2
          rw [HX2.out]
          exact bodyPost_ret (res_parse Tryz.results25 _ w.heap.size (w.heap.size + 1) _ _ _ _ _ _ _ _ _ _ _ rfl rfl ht7 hf7) rfl ⟨rfl, hb7⟩
theorem rparse_any (s : ByteArray) (w : World) (hs : s.size < 4611686018427387904) :
    Calls Tryz.prog 25 #[.string s] w fun e w' => PsPost w (parseL s.data.toList) e w' := by
  cases hx : scanA s.data.toList with
  | inr ca => obtain ⟨c, a⟩ := ca; exact rparse_bad s w hs c a hx
  | inl ts => exact rparse_good s w hs ts hx
end Go.Proofs.YtlbgppijeoonjaaGreatDoor
