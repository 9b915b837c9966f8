import Derived.Test.YtlbgppijeoonjaaGreatDoorRdrX
namespace Go.Proofs.YtlbgppijeoonjaaGreatDoor
open Go.RowKit
set_option linter.unusedVariables false

/-- How many tokens the reader has yet to read, by its block. -/
def rdSz (w : World) (r : Nat) : Nat := match w.cell? ⟨r, 2, none⟩ with
  | some (.int _ c) => if c = 0 then (match w.cell? ⟨r, 0, none⟩, w.cell? ⟨r, 1, none⟩ with | some (.slice _ n _), some (.int _ N) => n - N.toNat | _, _ => 0) else 0
  | _ => 0
theorem rdSz_eq {w : World} {r tb n cap : Nat} {ts : List Tp} {σ : Rs} (h : Rd w r tb n cap ts σ) : rdSz w r = szS σ := by
  have hh := h.hh
  unfold rdSz
  cases σ with
  | live xs =>
    obtain ⟨N, hN, hx, h3⟩ := hh
    obtain ⟨⟨q0, q1, q2, _⟩, _⟩ := rd7 h3
    rw [q0, q1, q2]
    show n - ((N : Int)).toNat = xs.length
    rw [hx, List.length_drop, h.len]
    simp
  | dead c x =>
    obtain ⟨N, hc, h3⟩ := hh
    obtain ⟨⟨q0, q1, q2, _⟩, _⟩ := rd7 h3
    rw [q2]
    show (if (c : Int) = 0 then _ else 0) = 0
    rw [if_neg (by omega)]
theorem rd_le {w : World} {r tb n cap : Nat} {ts : List Tp} {σ : Rs} (h : Rd w r tb n cap ts σ) : szS σ ≤ 262145 := by
  have hh := h.hh
  cases σ with
  | live xs =>
    obtain ⟨N, hN, hx, h3⟩ := hh
    show xs.length ≤ _
    rw [hx, List.length_drop, h.len]
    have := h.lim
    omega
  | dead c x => exact Nat.zero_le _
/-- What has been read so far is kept. -/
structure Cy (base bnd : Nat) (W : World) (lv : Value) (ps : List (At × Value)) : Prop where
  own : W.ownsRow base 34 12 lv ps.length (rowsA ps)
  par : ∀ p, p ∈ ps → AttrsAt W (fun g => base ≤ g ∧ lv.ownBlock ≠ some g ∧ g < bnd) p.2 p.1.params
  blk : ∀ g, lv.ownBlock = some g → base ≤ g ∧ g < bnd
theorem Cy.grown {base bnd b : Nat} {W W' : World} {lv : Value} {ps : List (At × Value)} (h : Cy base bnd W lv ps) (hg : W.grownBy W' (some b)) (hb : b < base ∨ bnd ≤ b) : Cy base bnd W' lv ps := by
  refine ⟨h.own.kept hg (.inr (fun e => by have := h.blk _ e; omega)), fun p hp => attrsAt_move hg.size (fun g hF hl => ⟨hg.block g hl (fun e => by cases e; omega), hF⟩) (h.par p hp), h.blk⟩
theorem Cy.below {base bnd : Nat} {W W' : World} {lv : Value} {ps : List (At × Value)} (h : Cy base bnd W lv ps) (hb : Below W.heap.size W W') : Cy base bnd W' lv ps :=
  ⟨own_below h.own hb, fun p hp => attrsAt_below hb (h.par p hp), h.blk⟩
theorem attrS_two (f d : Nat) (σ : Rs) : attrS (f + 2) d σ =
    if isS 4 (valueS (takeS 6 (takeS 1 σ).2).2).2 = true then
      (if d = 4 then tailS (takeS 1 σ).1 (valueS (takeS 6 (takeS 1 σ).2).2).1 false [] (failS 31 (valueS (takeS 6 (takeS 1 σ).2).2).2)
      else tailS (takeS 1 σ).1 (valueS (takeS 6 (takeS 1 σ).2).2).1 true (rowS f (d + 1) [] (skipS (valueS (takeS 6 (takeS 1 σ).2).2).2)).1 (takeS 5 (rowS f (d + 1) [] (skipS (valueS (takeS 6 (takeS 1 σ).2).2).2)).2).2)
    else tailS (takeS 1 σ).1 (valueS (takeS 6 (takeS 1 σ).2).2).1 false [] (valueS (takeS 6 (takeS 1 σ).2).2).2 := by rw [attrS]
def RwPost (w : World) (r tb n cap : Nat) (ts : List Tp) (x : List At × Rs) (e : Ending) (w' : World) : Prop :=
  ∃ v, e = .returned v ∧ AttrsAt w' (fun g => w.heap.size ≤ g) v x.1 ∧ Rd w' r tb n cap ts x.2 ∧ w.grownBy w' (some r)
def CRow (m : Nat) : Prop := ∀ (f d : Nat) (σ : Rs) (w : World) (r tb n cap : Nat) (ts : List Tp), szS σ ≤ m → 2 * szS σ + 1 ≤ f → d ≤ 4 → OkS σ → Rd w r tb n cap ts σ →
  Calls Tryz.prog 56 #[.pointer (some ⟨r, 0, none⟩), .int .i64 (d : Int)] w fun e w' => RwPost w r tb n cap ts (rowS f d [] σ) e w'
theorem set12_8 (w : World) (b : Nat) (t : TypeId) (o0 o1 o2 o3 o4 o5 o6 o7 o8 o9 o10 o11 v : Value) (k : w.heap[b]? = some (.cells #[o0, o1, o2, o3, o4, o5, o6, o7, o8, o9, o10, o11] t (0, 0))) : (w.setCell ⟨b, 8, none⟩ v).heap[b]? = some (.cells #[o0, o1, o2, o3, o4, o5, o6, o7, v, o9, o10, o11] t (0, 0)) := heap_setCell_same _ b 8 _ t _ k
theorem set12_9 (w : World) (b : Nat) (t : TypeId) (o0 o1 o2 o3 o4 o5 o6 o7 o8 o9 o10 o11 v : Value) (k : w.heap[b]? = some (.cells #[o0, o1, o2, o3, o4, o5, o6, o7, o8, o9, o10, o11] t (0, 0))) : (w.setCell ⟨b, 9, none⟩ v).heap[b]? = some (.cells #[o0, o1, o2, o3, o4, o5, o6, o7, o8, v, o10, o11] t (0, 0)) := heap_setCell_same _ b 9 _ t _ k
set_option maxHeartbeats 8000000 in
set_option maxRecDepth 100000 in
theorem row_step (m : Nat) (IH : ∀ k, k < m → CRow k) : CRow m := by
  intro f d σ w r tb n cap ts hm hf hd hO h
  obtain ⟨i0, hi0, hz0, hz1, hz2⟩ := info_parts Tryz.info34
  obtain ⟨M, hM⟩ : ∃ M, M = rowS f d [] σ := ⟨_, rfl⟩
  rw [← hM]
  have HM : Hid (M = rowS f d (([] : List (At × Value)).map Prod.fst) σ) := hM
  clear hM
  have hrl := h.lt
  have htl := h.tlt
  have hsl := rd_le h
  obtain ⟨S, hS⟩ : ∃ S, S = szS σ := ⟨_, rfl⟩
  rw [← hS] at hm hf hsl
  go_enter Tryz.func56, Tryz.ntmps56
  go_wp2
  go_loopw [5] (fun lv wr => ∃ (f' : Nat) (σ' : Rs) (ps : List (At × Value)), Hid (M = rowS f' d (ps.map Prod.fst) σ') ∧ 2 * szS σ' + 1 ≤ f' ∧ szS σ' + ps.length ≤ S ∧ OkS σ' ∧ Rd wr r tb n cap ts σ' ∧ wr.ownsRow w.heap.size 34 12 lv ps.length (rowsA ps) ∧ (∀ p, p ∈ ps → AttrsAt wr (fun g => w.heap.size ≤ g ∧ lv.ownBlock ≠ some g) p.2 p.1.params) ∧ w.grownBy wr (some r)) (fun _ wr => rdSz wr r)
  case atStart => exact ⟨f, σ, [], HM, by omega, by simp; omega, hO, h, World.ownsRow_nil _ _ _ _, (fun p hp => by cases hp), grown_refl _ _⟩
  case round =>
    obtain ⟨f', σ', ps, hh, hf', hlen, hO', hR, hOw, hA, hg⟩ := hrel
    clear HM h hO hS
    obtain ⟨av, cv, rfl⟩ := own_shape12 hOw
    have hpl := rdSz_eq hR
    obtain ⟨f', rfl⟩ : ∃ g, f' = g + 1 := ⟨f' - 1, by omega⟩
    have h2 := hh.out
    rw [rowS] at h2
    have ci := ris_b hR hO' 1
    cases hi : isS 1 σ' with
    | false =>
      rw [hi] at ci
      rw [hi, if_neg (by decide)] at h2
      have HM3 : Hid (M = (ps.map Prod.fst, σ')) := h2
      clear hh h2 hi
      go_wp2_with fail
      refine ci.mono ?_
      rintro e w1 ⟨rfl, hb1⟩
      have hR1 := hR.below hb1
      have hG1 := grown_trans hg (grown_of_below (r := some r) hb1)
      have hA1 : AttrsAt w1 (fun g => w.heap.size ≤ g) (.slice av ps.length cv) (ps.map Prod.fst) := attrsAt_own (own_below hOw hb1) (fun g hg => hg) (fun p hp => attrsAt_mono (fun g hg => hg.1) (attrsAt_below hb1 (hA p hp)))
      clear hR hg hA hOw hb1 ci
      go_wp2
      go_ret
      rw [HM3.out]
      exact ⟨_, rfl, hA1, hR1, hG1⟩
    | true =>
      rw [hi] at ci
      rw [hi, if_pos rfl] at h2
      have hs1 : 1 ≤ szS σ' := by
        obtain ⟨x, ys, rfl, _⟩ := isS_live hO' hi
        simp [szS]
      obtain ⟨g', rfl⟩ : ∃ g, f' = g + 2 := ⟨f' - 2, by omega⟩
      have HAO : Hid (OkS (attrS (g' + 2) d σ').2 ∧ szS (attrS (g' + 2) d σ').2 + 1 ≤ szS σ') := by
        have := (attr_okS (g' + 2)).1 d σ' hO'
        exact ⟨this.1, this.2.2 (by omega) hi⟩
      have HM3 : Hid (M = rowS (g' + 2) d (ps.map Prod.fst ++ [(attrS (g' + 2) d σ').1]) (attrS (g' + 2) d σ').2) := h2
      have HAE : Hid (attrS (g' + 2) d σ' = _) := attrS_two g' d σ'
      have hC0 : Cy w.heap.size wr.heap.size wr (.slice av ps.length cv) ps := ⟨hOw, fun p hp => attrsAt_move (Nat.le_refl _) (fun g hF hl => ⟨rfl, hF.1, hF.2, hl⟩) (hA p hp), fun g e => hOw.lt g e⟩
      have k1 := take_okS hO' 1
      have k1s : szS (takeS 1 σ').2 + 1 ≤ szS σ' := k1.2.2 (by decide) hi
      have k1o := k1.1
      have ct1 := fun (w : World) (hR : Rd w r tb n cap ts σ') => rtake_any hR hO' 1
      clear k1 hh h2 hi hA hOw
      generalize takeS 1 σ' = q1 at k1s k1o ct1 HAE
      obtain ⟨⟨⟨kk, kt, kv, kh⟩, xo, xl, xc⟩, σ1⟩ := q1
      dsimp only at k1s k1o ct1
      have k2 := take_okS k1o 6
      have k2o := k2.1
      have k2s := k2.2.1
      have ct2 := fun (w : World) (hR : Rd w r tb n cap ts σ1) => rtake_any hR k1o 6
      generalize takeS 6 σ1 = q2 at k2s k2o ct2 HAE
      obtain ⟨⟨⟨mk, mt, mv, mh⟩, mo, ml, mc⟩, σ2⟩ := q2
      dsimp only at k2s k2o ct2
      have k3 := value_okS k2o
      have k3o := k3.1
      have k3s := k3.2
      have ct3 := fun (w : World) (hR : Rd w r tb n cap ts σ2) => rvalue_any hR k2o
      generalize valueS σ2 = q3 at k3s k3o ct3 HAE
      obtain ⟨⟨vk, vt, vn, vh⟩, σ3⟩ := q3
      dsimp only at k3s k3o ct3
      unfold tpV tzV tzC at ct1 ct2
      unfold vlV at ct3
      clear k2 k3
      go_wp2_with fail
      refine ci.mono ?_
      rintro e w1 ⟨rfl, hb1⟩
      have hR1 := hR.below hb1
      have hC1 := hC0.below hb1
      have hG1 := grown_trans hg (grown_of_below (r := some r) hb1)
      have hz1s : wr.heap.size ≤ w1.heap.size := hb1.size
      clear hR hC0 hb1 ci
      go_wp2_with fail
      refine (ct1 w1 hR1).mono ?_
      rintro e w2 ⟨rfl, hR2, hg9⟩
      have hC2 := hC1.grown hg9 (.inl hrl)
      have hG2 := grown_trans hG1 hg9
      have hz2s : wr.heap.size ≤ w2.heap.size := Nat.le_trans hz1s hg9.size
      clear hR1 hC1 hG1 hg9 ct1
      go_wp2_with fail
      have hb3 := ((Below.refl w2.heap.size w2).alloc (Nat.le_refl _) (.cells #[.int .i64 kk, .int .i64 xo, .int .i64 xl, .int .i64 xc, .string ⟨kt.toArray⟩, .int .u32 (kv : Int), .bool kh] 57)).alloc (by simp) (.cells #[.string ⟨kt.toArray⟩, .int .i64 xo, .int .i64 xl, .int .i64 xc, .int .i64 0, .string ⟨#[]⟩, .int .u32 0, .bool false, .bool false, .slice none 0 0, .bool false, .string ⟨#[]⟩] 34)
      have hR3 := hR2.below hb3
      have hC3 := hC2.below hb3
      have ha3 : ((w2.alloc (.cells #[.int .i64 kk, .int .i64 xo, .int .i64 xl, .int .i64 xc, .string ⟨kt.toArray⟩, .int .u32 (kv : Int), .bool kh] 57)).alloc (.cells #[.string ⟨kt.toArray⟩, .int .i64 xo, .int .i64 xl, .int .i64 xc, .int .i64 0, .string ⟨#[]⟩, .int .u32 0, .bool false, .bool false, .slice none 0 0, .bool false, .string ⟨#[]⟩] 34)).heap[w2.heap.size + 1]? = some (.cells #[.string ⟨kt.toArray⟩, .int .i64 xo, .int .i64 xl, .int .i64 xc, .int .i64 0, .string ⟨#[]⟩, .int .u32 0, .bool false, .bool false, .slice none 0 0, .bool false, .string ⟨#[]⟩] 34 (0, 0)) := heap2_1' w2 _ _
      have hG3 := grown_trans hG2 (grown_of_below (r := some r) hb3)
      have hwr := hg.size
      have hba : wr.heap.size ≤ w2.heap.size + 1 := by omega
      clear hb3 hR2 hC2 hG2
      generalize ((w2.alloc (.cells #[.int .i64 kk, .int .i64 xo, .int .i64 xl, .int .i64 xc, .string ⟨kt.toArray⟩, .int .u32 (kv : Int), .bool kh] 57)).alloc (.cells #[.string ⟨kt.toArray⟩, .int .i64 xo, .int .i64 xl, .int .i64 xc, .int .i64 0, .string ⟨#[]⟩, .int .u32 0, .bool false, .bool false, .slice none 0 0, .bool false, .string ⟨#[]⟩] 34)) = w3 at *
      generalize w2.heap.size + 1 = ba at *
      have hbr : r < ba := by omega
      have hbt : tb < ba := by omega
      refine (ct2 w3 hR3).mono ?_
      rintro e w4 ⟨rfl, hR4, hg9⟩
      have hC4 := hC3.grown hg9 (.inl hrl)
      have ha4 := (hg9.block _ (heap_lt ha3) (fun e => by cases e; omega)).trans ha3
      have hG4 := grown_trans hG3 hg9
      clear hR3 hC3 hG3 ha3 hg9 ct2
      go_wp2_with fail
      refine (ct3 w4 hR4).mono ?_
      rintro e w5 ⟨rfl, hR5, hg9⟩
      have hC5 := hC4.grown hg9 (.inl hrl)
      have ha5 := (hg9.block _ (heap_lt ha4) (fun e => by cases e; omega)).trans ha4
      have hG5 := grown_trans hG4 hg9
      obtain ⟨⟨_, _, _, _, y4, y5, y6, y7, _, _, _, _⟩, fy⟩ := var12 ha5
      clear hR4 hC4 hG4 ha4 hg9 ct3
      go_wp2_with fail
      have ha6 := setVal_at w5 ba _ _ _ _ _ _ _ _ _ _ _ _ _ (.int .i64 vk) (.string ⟨vt.toArray⟩) (.int .u32 (vn : Int)) (.bool vh) ha5
      have hgs := setVal_grown w5 ba (.int .i64 vk) (.string ⟨vt.toArray⟩) (.int .u32 (vn : Int)) (.bool vh)
      have hR6 := hR5.grown hgs (by omega) (by omega)
      have hC6 := hC5.grown hgs (.inr hba)
      have hG6 := grown_new hG5 hgs (by omega)
      clear ha5 hgs hR5 hC5 hG5 y4 y5 y6 y7 fy
      generalize ((((w5.setCell ⟨ba, 4, none⟩ (.int .i64 vk)).setCell ⟨ba, 5, none⟩ (.string ⟨vt.toArray⟩)).setCell ⟨ba, 6, none⟩ (.int .u32 (vn : Int))).setCell ⟨ba, 7, none⟩ (.bool vh)) = w6 at *
      have ci4 := ris_b hR6 k3o 4
      cases hi4 : isS 4 σ3 with
      | false =>
        rw [hi4] at ci4
        have HT : Hid (attrS (g' + 2) d σ' = tailS ⟨⟨kk, kt, kv, kh⟩, xo, xl, xc⟩ ⟨vk, vt, vn, vh⟩ false [] σ3) := by
          show _ = _
          rw [HAE.out, hi4, if_neg (by decide)]
        refine ci4.mono ?_
        rintro e wT ⟨rfl, hb7⟩
        have hRT := hR6.below hb7
        have hCT := hC6.below hb7
        have haT := (hb7.block _ (heap_lt ha6)).trans ha6
        have hGT := grown_trans hG6 (grown_of_below (r := some r) hb7)
        have hPT : AttrsAt wT (fun g => ba + 1 ≤ g) (.slice none 0 0) [] := .nil
        have hOT := k3o
        have hbP : ba < ba + 1 := Nat.lt_succ_self _
        clear hR6 hC6 ha6 hG6 hb7 ci4 HAE hi4
        go_wp2_with fail
        have cn := rnote_any hRT hOT
        have kn := note_okS hOT
        unfold tailS at HT
        have kno := kn.1
        clear kn
        generalize noteS (σ3) = qn at cn kno HT
        obtain ⟨nt, σU⟩ := qn
        dsimp only at cn kno
        have ct7 := fun (w : World) (hR : Rd w r tb n cap ts σU) => rtake_any hR kno 7
        have HT7 : Hid (attrS (g' + 2) d σ' = (.mk kt xo xl xc ⟨vk, vt, vn, vh⟩ false [] (noteB nt) (noteT nt), (takeS 7 σU).2)) := HT
        clear HT
        generalize takeS 7 σU = q7 at ct7 HT7
        obtain ⟨⟨⟨zk, zt, zv, zh⟩, zo, zl, zc⟩, σV⟩ := q7
        have HT8 : Hid (attrS (g' + 2) d σ' = (.mk kt xo xl xc ⟨vk, vt, vn, vh⟩ false [] (noteB nt) (noteT nt), σV)) := HT7
        dsimp only at ct7
        unfold tpV tzV tzC at ct7
        unfold ntV at cn
        clear HT7
        refine cn.mono ?_
        rintro e wU ⟨rfl, hRU, hg9⟩
        have hCU := hCT.grown hg9 (.inl hrl)
        have haU := (hg9.block _ (heap_lt haT) (fun e => by cases e; omega)).trans haT
        have hPU := attrsAt_grown hg9 (fun hF => by omega) hPT
        have hGU := grown_trans hGT hg9
        obtain ⟨⟨_, _, _, _, _, _, _, _, _, _, y10, y11⟩, fy⟩ := var12 haU
        clear hRT hCT haT hPT hGT hg9 cn
        go_wp2_with fail
        have haX := setNote_at wU ba _ _ _ _ _ _ _ _ _ _ _ _ _ (.bool (noteB nt)) (.string ⟨(noteT nt).toArray⟩) haU
        have hgs := setNote_grown wU ba (.bool (noteB nt)) (.string ⟨(noteT nt).toArray⟩)
        have hRX := hRU.grown hgs (by omega) (by omega)
        have hCX := hCU.grown hgs (.inr hba)
        have hPX := attrsAt_grown hgs (fun hF => by omega) hPU
        have hGX := grown_new hGU hgs (by omega)
        clear hRU hCU haU hPU hGU hgs y10 y11 fy
        generalize ((wU.setCell ⟨ba, 10, none⟩ (.bool (noteB nt))).setCell ⟨ba, 11, none⟩ (.string ⟨(noteT nt).toArray⟩)) = wX at *
        refine (ct7 wX hRX).mono ?_
        rintro e wY ⟨rfl, hRY, hg9⟩
        have hCY := hCX.grown hg9 (.inl hrl)
        have haY := (hg9.block _ (heap_lt haX) (fun e => by cases e; omega)).trans haX
        have hPY := attrsAt_grown hg9 (fun hF => by omega) hPX
        have hGY := grown_trans hGX hg9
        obtain ⟨⟨y0, y1, y2, y3, y4, y5, y6, y7, y8, y9, y10, y11⟩, fy⟩ := var12 haY
        have hlen2 : ps.length ≤ 262145 := by omega
        clear hRX hCX haX hPX hGX hg9 ct7 haY
        go_wp2_with (at_builtin; refine wpList_append_own_at _ rfl (.tmp 53) (.tmp 55) 32 rfl w.heap.size 34 i0 (.agg zero12) 12 128 Tryz.underlying32 hi0 hz0 hz1 hz2 rfl (by decide) _ _ _ rfl (hCY.own.alloc _) ⟨wY.heap.size, 0, none⟩ 1 1 [.string ⟨kt.toArray⟩, .int .i64 xo, .int .i64 xl, .int .i64 xc, .int .i64 vk, .string ⟨vt.toArray⟩, .int .u32 (vn : Int), .bool vh, .bool false, .slice none 0 0, .bool (noteB nt), .string ⟨(noteT nt).toArray⟩] rfl rfl (cell_new7 wY #[.string ⟨kt.toArray⟩, .int .i64 xo, .int .i64 xl, .int .i64 xc, .int .i64 vk, .string ⟨vt.toArray⟩, .int .u32 (vn : Int), .bool vh, .bool false, .slice none 0 0, .bool (noteB nt), .string ⟨(noteT nt).toArray⟩] _) (one12 _ _ _ _ _ _ _ _ _ _ _ _ _ _) (by unfold maxLen; omega) (by omega) (by simp; have := hGY.size; omega) ?_)
        intro v6 w6 ho6 hg6 _ hat6
        have hg7 := grown_alloc hg6
        have hblk : ∀ g, g < wY.heap.size → (Value.slice av ps.length cv).ownBlock ≠ some g → v6.ownBlock ≠ some g := fun g hl hne e => by
          rcases hat6 with h | h
          · rw [h] at e; exact hne e
          · rw [h] at e; cases e; omega
        have hob := hCY.blk
        have hR6 : Rd w6 r tb n cap ts σV := hRY.grownO hg7 (fun e => by have := (hob _ e.symm).1; omega) (fun e => by have := (hob _ e.symm).1; omega)
        have hw6 : w.grownBy w6 (some r) := ⟨hg7.os.trans hGY.os, hg7.tape.trans hGY.tape, hg7.output.trans hGY.output, Nat.le_trans hGY.size hg7.size, fun i hi hr => (hg7.block i (Nat.lt_of_lt_of_le hi hGY.size) (fun e => by have := (hob _ e.symm).1; omega)).trans (hGY.block i hi hr)⟩
        have hO6 : w6.ownsRow w.heap.size 34 12 v6 (ps ++ [((.mk kt xo xl xc ⟨vk, vt, vn, vh⟩ false [] (noteB nt) (noteT nt) : At), Value.slice none 0 0)]).length (rowsA (ps ++ [((.mk kt xo xl xc ⟨vk, vt, vn, vh⟩ false [] (noteB nt) (noteT nt) : At), Value.slice none 0 0)])) := by
          rw [rowsA_snoc, List.length_append]; exact ho6
        have hA6 : ∀ p, p ∈ ps ++ [((.mk kt xo xl xc ⟨vk, vt, vn, vh⟩ false [] (noteB nt) (noteT nt) : At), Value.slice none 0 0)] → AttrsAt w6 (fun g => w.heap.size ≤ g ∧ v6.ownBlock ≠ some g) p.2 p.1.params := fun p hp => by
          rcases List.mem_append.1 hp with hp | hp
          · exact attrsAt_move hg7.size (fun g hF hl => ⟨hg7.block g hl hF.2.1.symm, hF.1, hblk g hl hF.2.1⟩) (hCY.par p hp)
          · have hpe : p = _ := List.mem_singleton.1 hp
            subst hpe
            have hne : ∀ g, ba + 1 ≤ g → (Value.slice av ps.length cv).ownBlock ≠ some g := fun g hF e => by have := (hob g e).2; omega
            exact attrsAt_move hg7.size (fun g hF hl => ⟨hg7.block g hl (hne g hF).symm, by omega, hblk g hl (hne g hF)⟩) hPY
        obtain ⟨av6, cv6, rfl⟩ := own_shape12 hO6
        have hpl6 := rdSz_eq hR6
        have HAO2 : Hid (OkS σV ∧ szS σV + 1 ≤ szS σ') := by
          have := HAO.out
          rw [HT8.out] at this
          exact this
        have HM9 : Hid (M = rowS (g' + 2) d ((ps ++ [((.mk kt xo xl xc ⟨vk, vt, vn, vh⟩ false [] (noteB nt) (noteT nt) : At), Value.slice none 0 0)]).map Prod.fst) σV) := by
          show M = _
          rw [HM3.out, HT8.out, List.map_append]
          rfl
        clear ho6 hg6 hg7 hCY hPY hRY hGY hob hblk hat6 HT8 HM3 HAO
        go_wp2
        go_roundw
        case rel =>
          have := HAO2.out.2
          exact ⟨g' + 2, σV, ps ++ [((.mk kt xo xl xc ⟨vk, vt, vn, vh⟩ false [] (noteB nt) (noteT nt) : At), Value.slice none 0 0)], HM9, by omega, by simp; omega, HAO2.out.1, hR6, hO6, hA6, hw6⟩
        case measure =>
          have := HAO2.out.2
          rw [hpl6, hpl]
          omega
      | true =>
        rw [hi4] at ci4
        by_cases hd4 : d = 4
        · have hd5 : ((d : Int) == 4) = true := by rw [hd4]; rfl
          have HT : Hid (attrS (g' + 2) d σ' = tailS ⟨⟨kk, kt, kv, kh⟩, xo, xl, xc⟩ ⟨vk, vt, vn, vh⟩ false [] (failS 31 σ3)) := by
            show _ = _
            rw [HAE.out, hi4, if_pos rfl, if_pos hd4]
          clear hd4
          refine ci4.mono ?_
          rintro e w7 ⟨rfl, hb7⟩
          have hR7 := hR6.below hb7
          have hC7 := hC6.below hb7
          have ha7 := (hb7.block _ (heap_lt ha6)).trans ha6
          have hG7 := grown_trans hG6 (grown_of_below (r := some r) hb7)
          clear hR6 hC6 ha6 hG6 hb7 ci4 HAE hi4
          go_wp2_with fail
          refine (rfail_any hR7 k3o 31 (.inr rfl)).mono ?_
          rintro e wT ⟨rfl, hRT, hg9⟩
          have hCT := hC7.grown hg9 (.inl hrl)
          have haT := (hg9.block _ (heap_lt ha7) (fun e => by cases e; omega)).trans ha7
          have hGT := grown_trans hG7 hg9
          have hPT : AttrsAt wT (fun g => ba + 1 ≤ g) (.slice none 0 0) [] := .nil
          have hOT := (fail_okS k3o 31 (.inr rfl)).1
          have hbP : ba < ba + 1 := Nat.lt_succ_self _
          clear hR7 hC7 ha7 hG7 hg9
          go_wp2_with fail
          have cn := rnote_any hRT hOT
          have kn := note_okS hOT
          unfold tailS at HT
          have kno := kn.1
          clear kn
          generalize noteS ((failS 31 σ3)) = qn at cn kno HT
          obtain ⟨nt, σU⟩ := qn
          dsimp only at cn kno
          have ct7 := fun (w : World) (hR : Rd w r tb n cap ts σU) => rtake_any hR kno 7
          have HT7 : Hid (attrS (g' + 2) d σ' = (.mk kt xo xl xc ⟨vk, vt, vn, vh⟩ false [] (noteB nt) (noteT nt), (takeS 7 σU).2)) := HT
          clear HT
          generalize takeS 7 σU = q7 at ct7 HT7
          obtain ⟨⟨⟨zk, zt, zv, zh⟩, zo, zl, zc⟩, σV⟩ := q7
          have HT8 : Hid (attrS (g' + 2) d σ' = (.mk kt xo xl xc ⟨vk, vt, vn, vh⟩ false [] (noteB nt) (noteT nt), σV)) := HT7
          dsimp only at ct7
          unfold tpV tzV tzC at ct7
          unfold ntV at cn
          clear HT7
          refine cn.mono ?_
          rintro e wU ⟨rfl, hRU, hg9⟩
          have hCU := hCT.grown hg9 (.inl hrl)
          have haU := (hg9.block _ (heap_lt haT) (fun e => by cases e; omega)).trans haT
          have hPU := attrsAt_grown hg9 (fun hF => by omega) hPT
          have hGU := grown_trans hGT hg9
          obtain ⟨⟨_, _, _, _, _, _, _, _, _, _, y10, y11⟩, fy⟩ := var12 haU
          clear hRT hCT haT hPT hGT hg9 cn
          go_wp2_with fail
          have haX := setNote_at wU ba _ _ _ _ _ _ _ _ _ _ _ _ _ (.bool (noteB nt)) (.string ⟨(noteT nt).toArray⟩) haU
          have hgs := setNote_grown wU ba (.bool (noteB nt)) (.string ⟨(noteT nt).toArray⟩)
          have hRX := hRU.grown hgs (by omega) (by omega)
          have hCX := hCU.grown hgs (.inr hba)
          have hPX := attrsAt_grown hgs (fun hF => by omega) hPU
          have hGX := grown_new hGU hgs (by omega)
          clear hRU hCU haU hPU hGU hgs y10 y11 fy
          generalize ((wU.setCell ⟨ba, 10, none⟩ (.bool (noteB nt))).setCell ⟨ba, 11, none⟩ (.string ⟨(noteT nt).toArray⟩)) = wX at *
          refine (ct7 wX hRX).mono ?_
          rintro e wY ⟨rfl, hRY, hg9⟩
          have hCY := hCX.grown hg9 (.inl hrl)
          have haY := (hg9.block _ (heap_lt haX) (fun e => by cases e; omega)).trans haX
          have hPY := attrsAt_grown hg9 (fun hF => by omega) hPX
          have hGY := grown_trans hGX hg9
          obtain ⟨⟨y0, y1, y2, y3, y4, y5, y6, y7, y8, y9, y10, y11⟩, fy⟩ := var12 haY
          have hlen2 : ps.length ≤ 262145 := by omega
          clear hRX hCX haX hPX hGX hg9 ct7 haY
          go_wp2_with (at_builtin; refine wpList_append_own_at _ rfl (.tmp 53) (.tmp 55) 32 rfl w.heap.size 34 i0 (.agg zero12) 12 128 Tryz.underlying32 hi0 hz0 hz1 hz2 rfl (by decide) _ _ _ rfl (hCY.own.alloc _) ⟨wY.heap.size, 0, none⟩ 1 1 [.string ⟨kt.toArray⟩, .int .i64 xo, .int .i64 xl, .int .i64 xc, .int .i64 vk, .string ⟨vt.toArray⟩, .int .u32 (vn : Int), .bool vh, .bool false, .slice none 0 0, .bool (noteB nt), .string ⟨(noteT nt).toArray⟩] rfl rfl (cell_new7 wY #[.string ⟨kt.toArray⟩, .int .i64 xo, .int .i64 xl, .int .i64 xc, .int .i64 vk, .string ⟨vt.toArray⟩, .int .u32 (vn : Int), .bool vh, .bool false, .slice none 0 0, .bool (noteB nt), .string ⟨(noteT nt).toArray⟩] _) (one12 _ _ _ _ _ _ _ _ _ _ _ _ _ _) (by unfold maxLen; omega) (by omega) (by simp; have := hGY.size; omega) ?_)
          intro v6 w6 ho6 hg6 _ hat6
          have hg7 := grown_alloc hg6
          have hblk : ∀ g, g < wY.heap.size → (Value.slice av ps.length cv).ownBlock ≠ some g → v6.ownBlock ≠ some g := fun g hl hne e => by
            rcases hat6 with h | h
            · rw [h] at e; exact hne e
            · rw [h] at e; cases e; omega
          have hob := hCY.blk
          have hR6 : Rd w6 r tb n cap ts σV := hRY.grownO hg7 (fun e => by have := (hob _ e.symm).1; omega) (fun e => by have := (hob _ e.symm).1; omega)
          have hw6 : w.grownBy w6 (some r) := ⟨hg7.os.trans hGY.os, hg7.tape.trans hGY.tape, hg7.output.trans hGY.output, Nat.le_trans hGY.size hg7.size, fun i hi hr => (hg7.block i (Nat.lt_of_lt_of_le hi hGY.size) (fun e => by have := (hob _ e.symm).1; omega)).trans (hGY.block i hi hr)⟩
          have hO6 : w6.ownsRow w.heap.size 34 12 v6 (ps ++ [((.mk kt xo xl xc ⟨vk, vt, vn, vh⟩ false [] (noteB nt) (noteT nt) : At), Value.slice none 0 0)]).length (rowsA (ps ++ [((.mk kt xo xl xc ⟨vk, vt, vn, vh⟩ false [] (noteB nt) (noteT nt) : At), Value.slice none 0 0)])) := by
            rw [rowsA_snoc, List.length_append]; exact ho6
          have hA6 : ∀ p, p ∈ ps ++ [((.mk kt xo xl xc ⟨vk, vt, vn, vh⟩ false [] (noteB nt) (noteT nt) : At), Value.slice none 0 0)] → AttrsAt w6 (fun g => w.heap.size ≤ g ∧ v6.ownBlock ≠ some g) p.2 p.1.params := fun p hp => by
            rcases List.mem_append.1 hp with hp | hp
            · exact attrsAt_move hg7.size (fun g hF hl => ⟨hg7.block g hl hF.2.1.symm, hF.1, hblk g hl hF.2.1⟩) (hCY.par p hp)
            · have hpe : p = _ := List.mem_singleton.1 hp
              subst hpe
              have hne : ∀ g, ba + 1 ≤ g → (Value.slice av ps.length cv).ownBlock ≠ some g := fun g hF e => by have := (hob g e).2; omega
              exact attrsAt_move hg7.size (fun g hF hl => ⟨hg7.block g hl (hne g hF).symm, by omega, hblk g hl (hne g hF)⟩) hPY
          obtain ⟨av6, cv6, rfl⟩ := own_shape12 hO6
          have hpl6 := rdSz_eq hR6
          have HAO2 : Hid (OkS σV ∧ szS σV + 1 ≤ szS σ') := by
            have := HAO.out
            rw [HT8.out] at this
            exact this
          have HM9 : Hid (M = rowS (g' + 2) d ((ps ++ [((.mk kt xo xl xc ⟨vk, vt, vn, vh⟩ false [] (noteB nt) (noteT nt) : At), Value.slice none 0 0)]).map Prod.fst) σV) := by
            show M = _
            rw [HM3.out, HT8.out, List.map_append]
            rfl
          clear ho6 hg6 hg7 hCY hPY hRY hGY hob hblk hat6 HT8 HM3 HAO
          go_wp2
          go_roundw
          case rel =>
            have := HAO2.out.2
            exact ⟨g' + 2, σV, ps ++ [((.mk kt xo xl xc ⟨vk, vt, vn, vh⟩ false [] (noteB nt) (noteT nt) : At), Value.slice none 0 0)], HM9, by omega, by simp; omega, HAO2.out.1, hR6, hO6, hA6, hw6⟩
          case measure =>
            have := HAO2.out.2
            rw [hpl6, hpl]
            omega
        · have hd5 : ((d : Int) == 4) = false := by rw [beq_eq_false_iff_ne]; omega
          have hd6 : (d : Int) ≤ 4 := by omega
          have hd7 : (0 : Int) ≤ (d : Int) := by omega
          have k4 := skip_okS k3o 4 (by decide) hi4
          have k4o := k4.1
          have k4s := k4.2
          have cr : ∀ w, Rd w r tb n cap ts (skipS σ3) → Calls Tryz.prog 56 #[.pointer (some ⟨r, 0, none⟩), .int .i64 ((d : Int) + 1)] w fun e w' => RwPost w r tb n cap ts (rowS g' (d + 1) [] (skipS σ3)) e w' := fun w hR =>
            IH (szS (skipS σ3)) (by omega) g' (d + 1) (skipS σ3) w r tb n cap ts (Nat.le_refl _) (by omega) (by omega) k4o hR
          have k5o := (attr_okS g').2 (d + 1) [] _ k4o
          have HT0 : Hid (attrS (g' + 2) d σ' = tailS ⟨⟨kk, kt, kv, kh⟩, xo, xl, xc⟩ ⟨vk, vt, vn, vh⟩ true (rowS g' (d + 1) [] (skipS σ3)).1 (takeS 5 (rowS g' (d + 1) [] (skipS σ3)).2).2) := by
            show _ = _
            rw [HAE.out, hi4, if_pos rfl, if_neg hd4]
          clear HAE k4
          generalize hSK : skipS σ3 = σ4 at cr k5o HT0 k4o k4s
          generalize rowS g' (d + 1) [] σ4 = q4 at cr k5o HT0
          obtain ⟨prm, σ5⟩ := q4
          dsimp only at cr k5o HT0
          have k5 := k5o.1
          have k6 := take_okS k5 5
          have hOT := k6.1
          have ct5 := fun (w : World) (hR : Rd w r tb n cap ts σ5) => rtake_any hR k5 5
          have HT : Hid (attrS (g' + 2) d σ' = tailS ⟨⟨kk, kt, kv, kh⟩, xo, xl, xc⟩ ⟨vk, vt, vn, vh⟩ true prm (takeS 5 σ5).2) := HT0
          generalize takeS 5 σ5 = q5 at hOT ct5 HT
          obtain ⟨⟨⟨nk, ntx, nv, nh⟩, no, nl, nc⟩, σ6⟩ := q5
          dsimp only at hOT ct5
          unfold tpV tzV tzC at ct5
          clear HT0 k5o k6 hd4
          refine ci4.mono ?_
          rintro e w7 ⟨rfl, hb7⟩
          have hR7 := hR6.below hb7
          have hC7 := hC6.below hb7
          have ha7 := (hb7.block _ (heap_lt ha6)).trans ha6
          have hG7 := grown_trans hG6 (grown_of_below (r := some r) hb7)
          obtain ⟨P, p1, hP1, hP2, fp, hnx⟩ := hR7.next k3o 4 (by decide) hi4
          obtain ⟨hR8, hg8⟩ := hnx _ rfl
          rw [hSK] at hR8
          have hC8 := hC7.grown hg8 (.inl hrl)
          have ha8 := (hg8.block _ (heap_lt ha7) (fun e => by cases e; omega)).trans ha7
          have hG8 := grown_trans hG7 hg8
          clear hR6 hC6 ha6 hG6 hb7 ci4 hi4 hnx hC7 ha7 hG7 hR7 hg8
          generalize hw8 : w7.setCell ⟨r, 1, none⟩ (.int .i64 ((P : Int) + 1)) = w8 at hR8 hC8 ha8 hG8
          have ha9 := set12_8 w8 ba _ _ _ _ _ _ _ _ _ _ _ _ _ (.bool true) ha8
          have hgs := grown_set w8 ba 8 (.bool true)
          have hR9 := hR8.grown hgs (by omega) (by omega)
          have hC9 := hC8.grown hgs (.inr hba)
          have hG9 := grown_new hG8 hgs (by omega)
          obtain ⟨⟨_, _, _, _, _, _, _, _, y8, _, _, _⟩, fy⟩ := var12 ha8
          clear hR8 hC8 hG8 ha8 hgs
          go_wp2_with fail
          clear hw8 y8 fy p1 fp
          generalize w8.setCell ⟨ba, 8, none⟩ (.bool true) = w9 at *
          refine (cr w9 hR9).mono ?_
          rintro e wa ⟨pv, rfl, hPa, hRa, hg9⟩
          have hbP : ba < w9.heap.size := heap_lt ha9
          generalize hbPe : w9.heap.size = bP at hPa hbP
          have hCa := hC9.grown hg9 (.inl hrl)
          have haa := (hg9.block _ (heap_lt ha9) (fun e => by cases e; omega)).trans ha9
          have hGa := grown_trans hG9 hg9
          obtain ⟨pa, pn, pc, rfl⟩ := attrsAt_shape hPa
          obtain ⟨⟨_, _, _, _, _, _, _, _, _, y9, _, _⟩, fy⟩ := var12 haa
          dsimp only at hRa hPa
          clear hR9 hC9 ha9 hG9 hg9 cr hbPe
          go_wp2_with fail
          have hab := set12_9 wa ba _ _ _ _ _ _ _ _ _ _ _ _ _ (.slice pa pn pc) haa
          have hgs := grown_set wa ba 9 (.slice pa pn pc)
          have hRb := hRa.grown hgs (by omega) (by omega)
          have hCb := hCa.grown hgs (.inr hba)
          have hPb := attrsAt_grown hgs (fun hF => by omega) hPa
          have hGb := grown_new hGa hgs (by omega)
          clear hRa hCa hGa haa hPa hgs y9 fy
          generalize wa.setCell ⟨ba, 9, none⟩ (.slice pa pn pc) = wb at *
          refine (ct5 wb hRb).mono ?_
          rintro e wT ⟨rfl, hRT, hg9⟩
          have hCT := hCb.grown hg9 (.inl hrl)
          have haT := (hg9.block _ (heap_lt hab) (fun e => by cases e; omega)).trans hab
          have hPT := attrsAt_grown hg9 (fun hF => by omega) hPb
          have hGT := grown_trans hGb hg9
          clear hRb hCb hab hPb hGb hg9 ct5
          go_wp2_with fail
          have cn := rnote_any hRT hOT
          have kn := note_okS hOT
          unfold tailS at HT
          have kno := kn.1
          clear kn
          generalize noteS (σ6) = qn at cn kno HT
          obtain ⟨nt, σU⟩ := qn
          dsimp only at cn kno
          have ct7 := fun (w : World) (hR : Rd w r tb n cap ts σU) => rtake_any hR kno 7
          have HT7 : Hid (attrS (g' + 2) d σ' = (.mk kt xo xl xc ⟨vk, vt, vn, vh⟩ true prm (noteB nt) (noteT nt), (takeS 7 σU).2)) := HT
          clear HT
          generalize takeS 7 σU = q7 at ct7 HT7
          obtain ⟨⟨⟨zk, zt, zv, zh⟩, zo, zl, zc⟩, σV⟩ := q7
          have HT8 : Hid (attrS (g' + 2) d σ' = (.mk kt xo xl xc ⟨vk, vt, vn, vh⟩ true prm (noteB nt) (noteT nt), σV)) := HT7
          dsimp only at ct7
          unfold tpV tzV tzC at ct7
          unfold ntV at cn
          clear HT7
          refine cn.mono ?_
          rintro e wU ⟨rfl, hRU, hg9⟩
          have hCU := hCT.grown hg9 (.inl hrl)
          have haU := (hg9.block _ (heap_lt haT) (fun e => by cases e; omega)).trans haT
          have hPU := attrsAt_grown hg9 (fun hF => by omega) hPT
          have hGU := grown_trans hGT hg9
          obtain ⟨⟨_, _, _, _, _, _, _, _, _, _, y10, y11⟩, fy⟩ := var12 haU
          clear hRT hCT haT hPT hGT hg9 cn
          go_wp2_with fail
          have haX := setNote_at wU ba _ _ _ _ _ _ _ _ _ _ _ _ _ (.bool (noteB nt)) (.string ⟨(noteT nt).toArray⟩) haU
          have hgs := setNote_grown wU ba (.bool (noteB nt)) (.string ⟨(noteT nt).toArray⟩)
          have hRX := hRU.grown hgs (by omega) (by omega)
          have hCX := hCU.grown hgs (.inr hba)
          have hPX := attrsAt_grown hgs (fun hF => by omega) hPU
          have hGX := grown_new hGU hgs (by omega)
          clear hRU hCU haU hPU hGU hgs y10 y11 fy
          generalize ((wU.setCell ⟨ba, 10, none⟩ (.bool (noteB nt))).setCell ⟨ba, 11, none⟩ (.string ⟨(noteT nt).toArray⟩)) = wX at *
          refine (ct7 wX hRX).mono ?_
          rintro e wY ⟨rfl, hRY, hg9⟩
          have hCY := hCX.grown hg9 (.inl hrl)
          have haY := (hg9.block _ (heap_lt haX) (fun e => by cases e; omega)).trans haX
          have hPY := attrsAt_grown hg9 (fun hF => by omega) hPX
          have hGY := grown_trans hGX hg9
          obtain ⟨⟨y0, y1, y2, y3, y4, y5, y6, y7, y8, y9, y10, y11⟩, fy⟩ := var12 haY
          have hlen2 : ps.length ≤ 262145 := by omega
          clear hRX hCX haX hPX hGX hg9 ct7 haY
          go_wp2_with (at_builtin; refine wpList_append_own_at _ rfl (.tmp 53) (.tmp 55) 32 rfl w.heap.size 34 i0 (.agg zero12) 12 128 Tryz.underlying32 hi0 hz0 hz1 hz2 rfl (by decide) _ _ _ rfl (hCY.own.alloc _) ⟨wY.heap.size, 0, none⟩ 1 1 [.string ⟨kt.toArray⟩, .int .i64 xo, .int .i64 xl, .int .i64 xc, .int .i64 vk, .string ⟨vt.toArray⟩, .int .u32 (vn : Int), .bool vh, .bool true, .slice pa pn pc, .bool (noteB nt), .string ⟨(noteT nt).toArray⟩] rfl rfl (cell_new7 wY #[.string ⟨kt.toArray⟩, .int .i64 xo, .int .i64 xl, .int .i64 xc, .int .i64 vk, .string ⟨vt.toArray⟩, .int .u32 (vn : Int), .bool vh, .bool true, .slice pa pn pc, .bool (noteB nt), .string ⟨(noteT nt).toArray⟩] _) (one12 _ _ _ _ _ _ _ _ _ _ _ _ _ _) (by unfold maxLen; omega) (by omega) (by simp; have := hGY.size; omega) ?_)
          intro v6 w6 ho6 hg6 _ hat6
          have hg7 := grown_alloc hg6
          have hblk : ∀ g, g < wY.heap.size → (Value.slice av ps.length cv).ownBlock ≠ some g → v6.ownBlock ≠ some g := fun g hl hne e => by
            rcases hat6 with h | h
            · rw [h] at e; exact hne e
            · rw [h] at e; cases e; omega
          have hob := hCY.blk
          have hR6 : Rd w6 r tb n cap ts σV := hRY.grownO hg7 (fun e => by have := (hob _ e.symm).1; omega) (fun e => by have := (hob _ e.symm).1; omega)
          have hw6 : w.grownBy w6 (some r) := ⟨hg7.os.trans hGY.os, hg7.tape.trans hGY.tape, hg7.output.trans hGY.output, Nat.le_trans hGY.size hg7.size, fun i hi hr => (hg7.block i (Nat.lt_of_lt_of_le hi hGY.size) (fun e => by have := (hob _ e.symm).1; omega)).trans (hGY.block i hi hr)⟩
          have hO6 : w6.ownsRow w.heap.size 34 12 v6 (ps ++ [((.mk kt xo xl xc ⟨vk, vt, vn, vh⟩ true prm (noteB nt) (noteT nt) : At), Value.slice pa pn pc)]).length (rowsA (ps ++ [((.mk kt xo xl xc ⟨vk, vt, vn, vh⟩ true prm (noteB nt) (noteT nt) : At), Value.slice pa pn pc)])) := by
            rw [rowsA_snoc, List.length_append]; exact ho6
          have hA6 : ∀ p, p ∈ ps ++ [((.mk kt xo xl xc ⟨vk, vt, vn, vh⟩ true prm (noteB nt) (noteT nt) : At), Value.slice pa pn pc)] → AttrsAt w6 (fun g => w.heap.size ≤ g ∧ v6.ownBlock ≠ some g) p.2 p.1.params := fun p hp => by
            rcases List.mem_append.1 hp with hp | hp
            · exact attrsAt_move hg7.size (fun g hF hl => ⟨hg7.block g hl hF.2.1.symm, hF.1, hblk g hl hF.2.1⟩) (hCY.par p hp)
            · have hpe : p = _ := List.mem_singleton.1 hp
              subst hpe
              have hne : ∀ g, bP ≤ g → (Value.slice av ps.length cv).ownBlock ≠ some g := fun g hF e => by have := (hob g e).2; omega
              exact attrsAt_move hg7.size (fun g hF hl => ⟨hg7.block g hl (hne g hF).symm, by omega, hblk g hl (hne g hF)⟩) hPY
          obtain ⟨av6, cv6, rfl⟩ := own_shape12 hO6
          have hpl6 := rdSz_eq hR6
          have HAO2 : Hid (OkS σV ∧ szS σV + 1 ≤ szS σ') := by
            have := HAO.out
            rw [HT8.out] at this
            exact this
          have HM9 : Hid (M = rowS (g' + 2) d ((ps ++ [((.mk kt xo xl xc ⟨vk, vt, vn, vh⟩ true prm (noteB nt) (noteT nt) : At), Value.slice pa pn pc)]).map Prod.fst) σV) := by
            show M = _
            rw [HM3.out, HT8.out, List.map_append]
            rfl
          clear ho6 hg6 hg7 hCY hPY hRY hGY hob hblk hat6 HT8 HM3 HAO
          go_wp2
          go_roundw
          case rel =>
            have := HAO2.out.2
            exact ⟨g' + 2, σV, ps ++ [((.mk kt xo xl xc ⟨vk, vt, vn, vh⟩ true prm (noteB nt) (noteT nt) : At), Value.slice pa pn pc)], HM9, by omega, by simp; omega, HAO2.out.1, hR6, hO6, hA6, hw6⟩
          case measure =>
            have := HAO2.out.2
            rw [hpl6, hpl]
            omega
theorem row_all (m : Nat) : CRow m := by
  induction m using Nat.strongRecOn with
  | _ m ih => exact row_step m ih
theorem rattrs_any {f d : Nat} {σ : Rs} {w : World} {r tb n cap : Nat} {ts : List Tp} (hf : 2 * szS σ + 1 ≤ f) (hd : d ≤ 4) (hO : OkS σ) (h : Rd w r tb n cap ts σ) :
    Calls Tryz.prog 56 #[.pointer (some ⟨r, 0, none⟩), .int .i64 (d : Int)] w fun e w' => RwPost w r tb n cap ts (rowS f d [] σ) e w' :=
  row_all (szS σ) f d σ w r tb n cap ts (Nat.le_refl _) hf hd hO h
end Go.Proofs.YtlbgppijeoonjaaGreatDoor
