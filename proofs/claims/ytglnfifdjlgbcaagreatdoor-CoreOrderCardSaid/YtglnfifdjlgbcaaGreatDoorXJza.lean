import Derived.Test.YtglnfifdjlgbcaaGreatDoorXJxa
import Derived.Deep.CutBlock
import Derived.Deep.CutRange
import Derived.Test.YtglnfifdjlgbcaaGreatDoorRows
import Derived.Test.YtglnfifdjlgbcaaGreatDoorTie
import Derived.Test.YtglnfifdjlgbcaaGreatDoorCards
import Derived.Test.YtglnfifdjlgbcaaGreatDoorThnl
import Derived.Test.YtglnfifdjlgbcaaGreatDoorDw
import Derived.ProofKit
import Derived.OpenShut
import Derived.ShutString
import Derived.ChangeOld
import Derived.SizedLaws
import Derived.LaidMore
import Derived.LaidSub
import Derived.Stop.Joined
import Derived.SevenTiedAt
namespace Go.Proofs.YtglnfifdjlgbcaaGreatDoor
open Go.RowKit Go.Maps Go.Shelf Go.Sort
open Go.Proofs.YtglnfifdjlgbcaaGreatDoor.St (Fx Fz iQ iP iV)
set_option linter.unusedVariables false
set_option linter.unusedSimpArgs false
set_option maxRecDepth 100000
set_option maxHeartbeats 16000000
theorem own_some20 {w : World} {b e k n : Nat} {v : Value} {xs : List Value} (h : w.ownsRow b e k v n xs) (hn : 0 < n) : ∃ g c, v = .slice (some ⟨g, 0, none⟩) n c := by
  obtain ⟨-, ⟨-, h0⟩ | ⟨g, cap, cur, h1, -⟩⟩ := h
  · omega
  · exact ⟨g, cap, h1⟩
theorem act_k20 {tb : Tb} {s : Cs} {t : Int} (h0 : Tk.actS (actR tb) s.ss t = 0) : ∃ (k : Nat) (x : TkR), t = (k : Int) ∧ tb.tasks[k]? = some x := by
  by_cases hb : Tk.hasB (actR tb).length t = true
  · unfold Tk.hasB at hb
    simp at hb
    obtain ⟨k, rfl⟩ := Int.eq_ofNat_of_zero_le hb.1
    exact ⟨k, _, rfl, List.getElem?_eq_getElem (by have : (actR tb).length = tb.tasks.length := by { unfold actR; simp }; omega)⟩
  · unfold Tk.actS at h0
    rw [if_neg hb] at h0
    cases h0
theorem order_bar (w : World) (hE : Tk.EnvR w) (tb : Tb) (v : Ts) (ht : TbAt w tb v) (hw : WfT tb) (hc : chkP tb = false) (u : Value) : Calls Tryz.prog 3 #[.agg (tbC tb v), u] w fun e w' => e = .returned (.bool true) ∧ Below w.heap.size w w' := by
  have hb0 := below_alloc w (.cells (tbC tb v) 30)
  have hV := heap_alloc_new w (.cells (tbC tb v) 30)
  have hN := cNew_no _ tb v (ht.below hb0) hw hc
  have hNum := num20
  have HA : Hid (∀ w', Below (w.alloc (.cells (tbC tb v) 30)).heap.size (w.alloc (.cells (tbC tb v) 30)) w' → Below w.heap.size w w' ∧ Tk.EnvR w') := fun w' hb => ⟨hb0.trans (hb.mono hb0.size), hE.up (hb0.trans (hb.mono hb0.size))⟩
  obtain ⟨c0, c1, c2, c3, c4, c5, c6, c7, c8, c9, c10, c11, c12⟩ := var13 hV
  clear ht hb0 hV hw hc hE
  unfold tbC at *
  go_enter Tryz.func3, Tryz.ntmps3
  go_upto_region 1 with fail
  generalize w.alloc (.cells #[I tb.uses, I tb.modes, .slice v.t.a v.t.n v.t.c, .slice v.g.a v.g.n v.g.c, .slice v.r.a v.r.n v.r.c, .slice v.k.a v.k.n v.k.c, .slice v.a.a v.a.n v.a.c, .slice v.i.a v.i.n v.i.c, .slice v.s.a v.s.n v.s.c, I tb.depth, I tb.frames, I tb.errors, I tb.calls] 30) = w1 at *
  go_wp2_with (first
    | (go_at_call 8; refine (hNum _ _).mono ?_; rintro e wn ⟨rfl, rfl⟩)
    | (go_at_call 7; refine hN.mono ?_; clear hN; rintro e w2 ⟨rfl, b2⟩; obtain ⟨bw, hE2⟩ := HA.out _ b2; have hA := alive20 w2 hE2; have HB : Hid (Below w.heap.size w w2) := bw; clear b2 bw hE2)
    | (go_at_call 9; refine hA.mono ?_; clear hA; rintro e w3 ⟨rfl, b3⟩; have HB3 : Hid (Below w.heap.size w w3) := HB.out.trans (b3.mono HB.out.size); clear b3))
  go_ret
  exact ⟨rfl, HB3.out⟩
theorem order_ok (w : World) (hE : Tk.EnvR w) (tb : Tb) (v : Ts) (ht : TbAt w tb v) (hw : WfT tb) (hc : chkP tb = true) (a : Option Addr) (c : Nat) (ts : List Int) (hsz : ts.length ≤ 9223372036854775807) (hts : ∀ (j : Nat) (x : Int), ts[j]? = some x → ∃ g off, a = some ⟨g, off, none⟩ ∧ g < w.heap.size ∧ w.cell? ⟨g, off + j, none⟩ = some (I x)) : Calls Tryz.prog 3 #[.agg (tbC tb v), .slice a ts.length c] w fun e w' => e = .returned (.bool true) ∧ Below w.heap.size w w' := by
  obtain ⟨ii, hii, hi0, hi1, hi2⟩ := info_parts iinfo9
  have hb0 := below_alloc w (.cells (tbC tb v) 30)
  have hV := heap_alloc_new w (.cells (tbC tb v) 30)
  have hN := cNew_ok _ tb v (ht.below hb0) hw hc (hE.up hb0)
  have hNum := num20
  have ck := ckT_of hc
  have HCK : Hid (CkT tb) := ck
  have hlt0 := heap_lt hV
  have HF : Hid (∀ w', Below (w.alloc (.cells (tbC tb v) 30)).heap.size (w.alloc (.cells (tbC tb v) 30)) w' → Below w.heap.size w w' ∧ Tk.EnvR w' ∧ TbAt w' tb v ∧ w'.heap[w.heap.size]? = some (.cells (tbC tb v) 30) ∧ (∀ (j : Nat) (x : Int), ts[j]? = some x → ∃ g off, a = some ⟨g, off, none⟩ ∧ w'.cell? ⟨g, off + j, none⟩ = some (I x))) := fun w' hb => by
    have hbb := hb0.trans (hb.mono hb0.size)
    refine ⟨hbb, hE.up hbb, ht.below hbb, (hb.block _ hlt0).trans hV, fun j x hj => ?_⟩
    obtain ⟨g, off, e1, e2, e3⟩ := hts j x hj
    exact ⟨g, off, e1, (cell_below hbb _ _ e2).trans e3⟩
  obtain ⟨c0, c1, c2, c3, c4, c5, c6, c7, c8, c9, c10, c11, c12⟩ := var13 hV
  clear ht hb0 hV hw hc hE hts ck hlt0
  unfold tbC at *
  go_enter Tryz.func3, Tryz.ntmps3
  go_upto_region 1 with fail
  generalize w.alloc (.cells #[I tb.uses, I tb.modes, .slice v.t.a v.t.n v.t.c, .slice v.g.a v.g.n v.g.c, .slice v.r.a v.r.n v.r.c, .slice v.k.a v.k.n v.k.c, .slice v.a.a v.a.n v.a.c, .slice v.i.a v.i.n v.i.c, .slice v.s.a v.s.n v.s.c, I tb.depth, I tb.frames, I tb.errors, I tb.calls] 30) = w0 at *
  generalize hX : w.heap.size = X at *
  have HX : Hid (w.heap.size = X) := hX
  clear hX
  go_upto_region 5 with (first
    | (go_at_call 8; refine (hNum _ _).mono ?_; rintro e wn ⟨rfl, rfl⟩)
    | (go_at_call 7; refine hN.mono ?_; clear hN; rintro e w1 ⟨zn, p, rfl, kN, hd, bN⟩))
  clear c0 c1 c2 c3 c4 c5 c6 c7 c8 c9 c10 c11 c12
  obtain ⟨hI, hLm⟩ := OI.new HCK.out kN
  have H0 : Hid (Ow w0 w1 w1 zn tb p (newS tb) (.slice none 0 0) []) := ⟨kN, hI, hLm, World.ownsRow_nil _ _ _ _, fun x hx => (kN.zW x hx).2, Fz.refl _ _, bN.size⟩
  clear kN hd bN hI hLm
  go_wp2
  go_loopw [7, 8, 9, 10, 11] (fun v7 v8 _ _ _ wr => ∃ i : Nat, i ≤ ts.length ∧ v8 = I i ∧ Hid (∃ s want, Ow w0 w1 wr zn tb p s v7 want)) (fun _ v8 _ _ _ _ => ts.length - (intOf v8).toNat)
  case atStart => exact ⟨0, by omega, rfl, _, _, H0.out⟩
  case round =>
    clear H0
    obtain ⟨i, hi, rfl, HJ⟩ := hrel
    by_cases hlt : i < ts.length
    · have hltI : (i : Int) < ts.length := by omega
      obtain ⟨s, want, hJ⟩ := HJ.out
      obtain ⟨t, hti⟩ : ∃ t, ts[i]? = some t := ⟨_, List.getElem?_eq_getElem hlt⟩
      obtain ⟨-, -, -, -, hts⟩ := HF.out _ hJ.c.lo
      obtain ⟨g, off, rfl, q0⟩ := hts i t hti
      have hA := cActivate hJ.c t
      have HJ2 : Hid (Ow w0 w1 wr zn tb p s u7 want) := hJ
      have HTI : Hid (ts[i]? = some t) := hti
      clear HJ hJ hts hti
      by_cases h0 : Tk.actS (actR tb) s.ss t = 0
      · rw [h0] at hA
        have HA0 : Hid (Tk.actS (actR tb) s.ss t = 0) := h0
        clear h0
        obtain ⟨k, x, rfl, hx⟩ := act_k20 HA0.out
        obtain ⟨aw, kw, rfl⟩ := own_slk19 HJ2.out.q
        have hwl := HJ2.out.len
        have HXX : Hid (tb.tasks[k]? = some x) := hx
        go_upto_region 10 with (first
          | (go_at_call 10; refine hA.mono ?_; clear hA q0; rintro e w3 ⟨rfl, k3, f3⟩))
        have HO : Hid (OI tb (actC tb s k) (insW tb want k) ∧ LimW tb (insW tb want k) ∧ OI tb s want) := ⟨(HJ2.out.i.act HCK.out HJ2.out.l hx HA0.out k3.q.fall).1, (HJ2.out.i.act HCK.out HJ2.out.l hx HA0.out k3.q.fall).2, HJ2.out.i⟩
        have HM : Hid (∀ W', Below w3.heap.size w3 W' → Co w0 W' zn tb p (actC tb s k) ∧ Fz (Zn zn) wr W' ∧ W'.ownsRow w1.heap.size 3 1 (.slice aw want.length kw) want.length (iV want) ∧ W'.cell? ⟨g, off + i, none⟩ = some (I k) ∧ W'.cell? ⟨X, 2, none⟩ = some (.slice v.t.a v.t.n v.t.c) ∧ TbAt W' tb v) := fun W' hb => by
          have k4 := k3.below hb
          obtain ⟨-, -, ht4, hV4, hts4⟩ := HF.out _ k4.lo
          obtain ⟨g', off', e', q4⟩ := hts4 i k HTI.out
          cases e'
          exact ⟨k4, f3.trans (Fz.of_below hb), own_below (HJ2.out.keep f3) hb, q4, (var13 (tb := tb) (v := v) hV4).2.2.1, ht4⟩
        obtain ⟨-, -, -, z0, x2, ht3⟩ := HM.out _ (Below.refl _ _)
        have hkn : (k : Int) < v.t.n := by have := (List.getElem?_eq_some_iff.1 hx).1; have := ht3.t.n; omega
        have hk0 : ¬ ((k : Int) < 0) := by omega
        clear k3 f3 ht3 hx
        go_quiet (fail)
        have B4 : Below w3.heap.size w3 (w3.drewN nq) := St.below_drewN _ (Below.refl _ _)
        clear z0 x2
        generalize w3.drewN nq = w4 at *
        have HB4 : Hid (Below w3.heap.size w3 w4) := B4
        clear B4
        go_upto_region 12 with fail
        go_upto_block 2 with fail
        go_cut [10] from 32 to 104 (fun s10 wz => ∃ j : Nat, j ≤ want.length ∧ s10 = I j ∧ Hid (Below w3.heap.size w3 wz ∧ (∀ (q : Nat) (y : Int), want[q]? = some y → j ≤ q → prT tb y < x.prio) ∧ (∀ (j' : Nat) (y : Int), j = j' + 1 → want[j']? = some y → x.prio ≤ prT tb y)))
        case first =>
          go_wp2
          go_loopw [10] (fun v10 wz => ∃ j : Nat, j ≤ want.length ∧ v10 = I j ∧ Hid (Below w3.heap.size w3 wz ∧ (∀ (q : Nat) (y : Int), want[q]? = some y → j ≤ q → prT tb y < x.prio))) (fun v10 _ => (intOf v10).toNat)
          case atStart => exact ⟨want.length, by omega, rfl, HB4.out, fun q y hq hl => by have := (List.getElem?_eq_some_iff.1 hq).1; omega⟩
          case round =>
            obtain ⟨j, hj, rfl, HL⟩ := hrel
            cases j with
            | zero =>
              have hng : ¬ ((0 : Int) > 0) := by omega
              clear HO HM HCK HJ2 HXX HTI hNum hwl HA0
              go_upto_region 13 with fail
              go_quiet (fail)
              have HB5 : Hid (Below w3.heap.size w3 (wr.drewN nq)) := St.below_drewN _ HL.out.1
              generalize wr.drewN nq = w5 at *
              go_wp2
              go_meet
              case rel => exact ⟨0, by omega, rfl, HB5.out, HL.out.2, fun j' y e _ => absurd e (by omega)⟩
            | succ j' =>
              have hg : ((j' + 1 : Nat) : Int) > 0 := by omega
              obtain ⟨y, hy⟩ : ∃ y, want[j']? = some y := ⟨_, List.getElem?_eq_getElem (by omega)⟩
              obtain ⟨r, hr, hyr⟩ := mem_all.1 (show y ∈ allL s.rq by rw [HO.out.2.2.all]; exact List.mem_of_getElem? hy)
              obtain ⟨-, hy0, hyn⟩ := HO.out.2.2.of r hr y hyr
              obtain ⟨ky, rfl⟩ := Int.eq_ofNat_of_zero_le hy0
              obtain ⟨xy, hxy⟩ : ∃ xy, tb.tasks[ky]? = some xy := ⟨_, List.getElem?_eq_getElem (by omega)⟩
              have hpy := prT_at hxy
              obtain ⟨-, -, kQ, z0, x2, ht3⟩ := HM.out _ HL.out.1
              obtain ⟨gt, ot, s6, e1, -, t0, -⟩ := tkr_at ht3 hxy
              obtain ⟨gt', ot', s6', e1', -, t0', -⟩ := tkr_at ht3 HXX.out
              rw [e1] at e1'
              cases e1'
              rw [e1] at x2
              obtain ⟨g9, c9, e9⟩ := own_some20 kQ (by omega)
              cases e9
              have z4 : wr.cell? ⟨g9, j', none⟩ = some (I ky) := by
                have h9 := kQ.cells rfl j' (I ky) (by simp [iV, hy])
                rwa [St.addr_add, Nat.zero_add] at h9
              have hkyn : (ky : Int) < v.t.n := by have := ht3.t.n; omega
              have hky0 : ¬ ((ky : Int) < 0) := by omega
              have HG : Hid (prT tb ky = xy.prio ∧ want[j']? = some (ky : Int)) := ⟨hpy, hy⟩
              have hjw : (j' : Int) < want.length := by omega
              clear hy hr hyr hy0 hyn hxy hpy e1 kQ ht3 hNum
              by_cases hlp : xy.prio < x.prio
              · go_upto_region 13 with fail
                go_quiet (fail)
                have HB5 : Hid (Below w3.heap.size w3 (wr.drewN nq)) := St.below_drewN _ HL.out.1
                clear z0 x2 t0 t0' z4
                generalize wr.drewN nq = w5 at *
                go_wp2
                go_roundw
                case rel => exact ⟨j', by omega, by go_num, HB5.out, fun q y' hq hl => by
                  rcases Nat.lt_or_eq_of_le hl with h | rfl
                  · exact HL.out.2 q y' hq h
                  · rw [HG.out.2] at hq; cases hq; rw [HG.out.1]; exact hlp⟩
                case measure => simp [intOf]
              · go_upto_region 13 with fail
                go_quiet (fail)
                have HB5 : Hid (Below w3.heap.size w3 (wr.drewN nq)) := St.below_drewN _ HL.out.1
                clear z0 x2 t0 t0' z4
                generalize wr.drewN nq = w5 at *
                go_wp2
                go_meet
                case rel => exact ⟨j' + 1, hj, by go_num, HB5.out, HL.out.2, fun j2 y' e hq => by obtain rfl : j2 = j' := by { omega }; rw [HG.out.2] at hq; cases hq; rw [HG.out.1]; omega⟩
        obtain ⟨j, hjl, rfl, HP⟩ := hcut
        have HS : Hid (insW tb want k = want.take j ++ [(k : Int)] ++ want.drop j) := insW_cut20 HO.out.2.2 HXX.out hjl HP.out.2.1 HP.out.2.2
        have BC : Hid (Below w3.heap.size w3 wc) := HP.out.1
        clear HP HB4
        go_upto_region 16 with fail
        have z0 := (HM.out _ BC.out).2.2.2.1
        have kQ := (HM.out _ BC.out).2.2.1
        have HOw : Hid (∀ (w7 : World) (u : Value), Below w3.heap.size w3 w7 → w7.ownsRow w3.heap.size 3 1 u (j + 1 + (want.length - j)) (iV (want.take j) ++ [I k] ++ iV (want.drop j)) → Ow w0 w1 w7 zn tb p (actC tb s k) u (insW tb want k)) := fun w7 u b7 h7 => by
          obtain ⟨c7, f7, -⟩ := HM.out _ b7
          have hle : w1.heap.size ≤ w3.heap.size := Nat.le_trans HJ2.out.f.size (HM.out _ (Below.refl _ _)).2.1.size
          refine HJ2.out.core c7 f7 HO.out.1 HO.out.2.1 ?_
          rw [HS.out]
          have hl : (want.take j ++ [(k : Int)] ++ want.drop j).length = j + 1 + (want.length - j) := by simp; omega
          have hv : iV (want.take j ++ [(k : Int)] ++ want.drop j) = iV (want.take j) ++ [I k] ++ iV (want.drop j) := by simp [iV]
          rw [hl, hv]
          exact own_down20 hle h7
        rcases kQ.2 with ⟨hnil, hn0⟩ | ⟨g9, c9, cur, hsome, hh⟩
        · have hw0 : want = [] := List.eq_nil_of_length_eq_zero (by first | exact hn0 | exact hn0.1 | omega)
          subst hw0
          obtain rfl : j = 0 := by simpa using hjl
          cases hnil
          clear kQ
          go_region_law (first
            | (refine step_append_at20 rfl (.tmp 93) (.tmp 98) 31 rfl w3.heap.size 3 ii (.int .i64 0) 1 8 Tryz.underlying31 hii hi0 hi1 hi2 rfl (by decide) (.slice none 0 0) 0 [] (by simp [Act.eval, Act.put]) (World.ownsRow_nil _ _ _ _) ⟨wc.heap.size, 0, none⟩ 1 1 [I k] (by simp [Act.eval, Act.put]) rfl (by first | exact cell_one20 _ _ _ | exact fun q u hu => cell_one20 wc _ _ q u hu | exact fun q u hu => cell_one20 wc.drew _ _ q u hu) (by simp [Value.oneCell']) (by unfold maxLen; omega) (by omega) (bel_size20 (by repeat' (first | exact BC.out | apply Below.drew | apply St.below_drewN | apply bel_alloc20))) ?_; intro v6 w6 h6 hg6; rw [Nat.zero_add, List.nil_append] at h6; obtain ⟨g6, k6, rfl⟩ := own_some20 h6 (by omega); have hk6 : 1 ≤ k6 := (by rcases h6.2 with ⟨-, h⟩ | ⟨g, cap, cur, h, hh⟩ <;> first | (cases h; exact hh.2.2.1) | (exfalso; omega)); have B6 : Hid (Below w3.heap.size w3 w6) := Below.grown (show Below w3.heap.size w3 _ from (by repeat' (first | exact BC.out | apply Below.drew | apply St.below_drewN | apply bel_alloc20))) hg6 (bel_size20 (by repeat' (first | exact BC.out | apply Below.drew | apply St.below_drewN | apply bel_alloc20))) (fun x e => by cases e); have H6 : Hid (w6.ownsRow w3.heap.size 3 1 (.slice (some ⟨g6, 0, none⟩) 1 k6) 1 [I k]) := h6; clear h6 hg6))
          all_goals
            have H8 : Hid (Ow w0 w1 w6 zn tb p (actC tb s k) (.slice (some ⟨g6, 0, none⟩) 1 k6) (insW tb [] k)) := HOw.out _ _ B6.out H6.out
            clear H6 B6 BC z0 hNum HM hk6
            go_wp2
            go_roundw
            case rel => exact ⟨i + 1, by omega, by go_num, _, _, H8.out⟩
            case measure => simp [intOf]; omega
        · cases hsome
          have hcc : want.length ≤ kw := hh.2.2.1
          have HCp : Hid (∀ W', Below w3.heap.size w3 W' → ∀ (q : Nat) (u : Value), (iV (want.take j))[q]? = some u → W'.cell? ((⟨g9, 0, none⟩ : Addr).add q) = some u) := fun W' hb q u hu => by
            refine (HM.out _ hb).2.2.1.cells rfl q u ?_
            unfold iV at hu ⊢
            rw [List.getElem?_map, List.getElem?_take] at hu
            split at hu
            · rw [List.getElem?_map]; exact hu
            · cases hu
          obtain ⟨ad, HAd, HCs⟩ : ∃ ad : Addr, Hid (ad = if kw = j then (⟨g9, 0, none⟩ : Addr) else ⟨g9, j, none⟩) ∧ Hid (∀ W', Below w3.heap.size w3 W' → ∀ (q : Nat) (u : Value), (iV (want.drop j))[q]? = some u → W'.cell? (ad.add q) = some u) := by
            refine ⟨_, rfl, ?_⟩
            intro W' hb q u hu
            by_cases hk : kw = j
            · have : want.drop j = [] := List.drop_eq_nil_of_le (by omega)
              rw [this] at hu
              cases hu
            · rw [if_neg hk, St.addr_add]
              have h9 := (HM.out _ hb).2.2.1.cells rfl (j + q) u (by unfold iV at hu ⊢; rw [List.getElem?_map, List.getElem?_drop] at hu; rw [List.getElem?_map]; exact hu)
              rwa [St.addr_add, Nat.zero_add] at h9
          have hjI : (j : Int) ≤ want.length := by omega
          have hjk : j ≤ kw := by omega
          clear kQ hh
          go_region_law (first
            | (refine step_append_at20 rfl (.tmp 89) (.tmp 92) 31 rfl w3.heap.size 3 ii (.int .i64 0) 1 8 Tryz.underlying31 hii hi0 hi1 hi2 rfl (by decide) (.slice none 0 0) 0 [] (by simp [Act.eval, Act.put]) (World.ownsRow_nil _ _ _ _) ⟨g9, 0, none⟩ j kw (iV (want.take j)) (by simp [Act.eval, Act.put]) (by simp [iV]; omega) (HCp.out _ (by repeat' (first | exact BC.out | apply Below.drew | apply St.below_drewN | apply bel_alloc20))) (one_iV20 _) (by unfold maxLen; omega) (by omega) (bel_size20 (by repeat' (first | exact BC.out | apply Below.drew | apply St.below_drewN | apply bel_alloc20))) ?_; intro v5 w5 h5 hg5; rw [Nat.zero_add, List.nil_append] at h5; obtain ⟨a5, k5, rfl⟩ := own_slk19 h5; have HY : Hid (∀ (q : Nat) (u : Value), [I (k : Int)][q]? = some u → w5.cell? ((⟨wc.heap.size, 0, none⟩ : Addr).add q) = some u) := (fun q u hu => by rw [St.addr_add]; refine (cell_below ((Below.refl _ _).grown hg5 (Nat.le_refl _) (fun k e => by cases e)) _ _ (by simp)).trans ?_; have h9 := cell_one20 wc.drew (I k) 3 q u hu; rw [St.addr_add] at h9; exact h9); have B5 : Hid (Below w3.heap.size w3 w5) := Below.grown (show Below w3.heap.size w3 _ from (by repeat' (first | exact BC.out | apply Below.drew | apply St.below_drewN | apply bel_alloc20))) hg5 (bel_size20 (by repeat' (first | exact BC.out | apply Below.drew | apply St.below_drewN | apply bel_alloc20))) (fun k e => by cases e); have z5 := (HM.out _ B5.out).2.2.2.1; have H5 : Hid (w5.ownsRow w3.heap.size 3 1 (.slice a5 j k5) j (iV (want.take j))) := h5; clear h5 hg5)
            | (refine step_append_at20 rfl (.tmp 89) (.tmp 92) 31 rfl w3.heap.size 3 ii (.int .i64 0) 1 8 Tryz.underlying31 hii hi0 hi1 hi2 rfl (by decide) (.slice none 0 0) 0 [] (by simp [Act.eval, Act.put]) (World.ownsRow_nil _ _ _ _) ⟨g9, 0, none⟩ j kw (iV (want.take j)) (by simp [Act.eval, Act.put]) (by simp [iV]; omega) (HCp.out _ (by repeat' (first | exact BC.out | apply Below.drew | apply St.below_drewN | apply bel_alloc20))) (one_iV20 _) (by unfold maxLen; omega) (by omega) (bel_size20 (by repeat' (first | exact BC.out | apply Below.drew | apply St.below_drewN | apply bel_alloc20))) ?_; intro v5 w5 h5 hg5; rw [Nat.zero_add, List.nil_append] at h5; obtain ⟨a5, k5, rfl⟩ := own_slk19 h5; have B5 : Hid (Below w3.heap.size w3 w5) := Below.grown (show Below w3.heap.size w3 _ from (by repeat' (first | exact BC.out | apply Below.drew | apply St.below_drewN | apply bel_alloc20))) hg5 (bel_size20 (by repeat' (first | exact BC.out | apply Below.drew | apply St.below_drewN | apply bel_alloc20))) (fun k e => by cases e); have z5 := (HM.out _ B5.out).2.2.2.1; have H5 : Hid (w5.ownsRow w3.heap.size 3 1 (.slice a5 j k5) j (iV (want.take j))) := h5; clear h5 hg5)
            | (refine step_append_at20 rfl (.tmp 93) (.tmp 98) 31 rfl w3.heap.size 3 ii (.int .i64 0) 1 8 Tryz.underlying31 hii hi0 hi1 hi2 rfl (by decide) (.slice a5 j k5) j (iV (want.take j)) (by simp [Act.eval, Act.put]) (own_below H5.out (by repeat' (first | exact (Below.refl _ _) | apply Below.drew | apply St.below_drewN | apply bel_alloc20))) ⟨wc.heap.size, 0, none⟩ 1 1 [I k] (by simp [Act.eval, Act.put]) rfl (fun q u hu => HY.out q u hu) (by simp [Value.oneCell']) (by unfold maxLen; omega) (by omega) (bel_size20 (by repeat' (first | exact B5.out | apply Below.drew | apply St.below_drewN | apply bel_alloc20))) ?_; intro v6 w6 h6 hg6; obtain ⟨a6, k6, rfl⟩ := own_slk19 h6; have B6 : Hid (Below w3.heap.size w3 w6) := Below.grown (show Below w3.heap.size w3 _ from (by repeat' (first | exact B5.out | apply Below.drew | apply St.below_drewN | apply bel_alloc20))) hg6 (bel_size20 (by repeat' (first | exact B5.out | apply Below.drew | apply St.below_drewN | apply bel_alloc20))) (fun x e => (H5.out.lt x e).1); have H6 : Hid (w6.ownsRow w3.heap.size 3 1 (.slice a6 (j + 1) k6) (j + 1) (iV (want.take j) ++ [I k])) := h6; clear h6 hg6)
            | (refine step_append_at20 rfl (.tmp 93) (.tmp 98) 31 rfl w3.heap.size 3 ii (.int .i64 0) 1 8 Tryz.underlying31 hii hi0 hi1 hi2 rfl (by decide) (.slice a5 j k5) j (iV (want.take j)) (by simp [Act.eval, Act.put]) (own_below H5.out (by repeat' (first | exact (Below.refl _ _) | apply Below.drew | apply St.below_drewN | apply bel_alloc20))) ⟨w5.heap.size, 0, none⟩ 1 1 [I k] (by simp [Act.eval, Act.put]) rfl (by first | exact cell_one20 _ _ _ | exact fun q u hu => cell_one20 w5 _ _ q u hu | exact fun q u hu => cell_one20 w5.drew _ _ q u hu) (by simp [Value.oneCell']) (by unfold maxLen; omega) (by omega) (bel_size20 (by repeat' (first | exact B5.out | apply Below.drew | apply St.below_drewN | apply bel_alloc20))) ?_; intro v6 w6 h6 hg6; obtain ⟨a6, k6, rfl⟩ := own_slk19 h6; have B6 : Hid (Below w3.heap.size w3 w6) := Below.grown (show Below w3.heap.size w3 _ from (by repeat' (first | exact B5.out | apply Below.drew | apply St.below_drewN | apply bel_alloc20))) hg6 (bel_size20 (by repeat' (first | exact B5.out | apply Below.drew | apply St.below_drewN | apply bel_alloc20))) (fun x e => (H5.out.lt x e).1); have H6 : Hid (w6.ownsRow w3.heap.size 3 1 (.slice a6 (j + 1) k6) (j + 1) (iV (want.take j) ++ [I k])) := h6; clear h6 hg6)
            | (refine step_append_at20 rfl (.tmp 99) (.tmp 102) 31 rfl w3.heap.size 3 ii (.int .i64 0) 1 8 Tryz.underlying31 hii hi0 hi1 hi2 rfl (by decide) (.slice a6 (j + 1) k6) (j + 1) (iV (want.take j) ++ [I k]) (by simp [Act.eval, Act.put]) (own_below H6.out (by repeat' (first | exact (Below.refl _ _) | apply Below.drew | apply St.below_drewN | apply bel_alloc20))) ad (want.length - j) (kw - j) (iV (want.drop j)) (by have e := HAd.out; simp [Act.eval, Act.put, e]; split <;> rfl) (by simp [iV]) (HCs.out _ (by repeat' (first | exact B6.out | apply Below.drew | apply St.below_drewN | apply bel_alloc20))) (one_iV20 _) (by unfold maxLen; omega) (by omega) (bel_size20 (by repeat' (first | exact B6.out | apply Below.drew | apply St.below_drewN | apply bel_alloc20))) ?_; intro v7 w7 h7 hg7; obtain ⟨a7, k7, rfl⟩ := own_slk19 h7; have B7 : Hid (Below w3.heap.size w3 w7) := Below.grown (show Below w3.heap.size w3 _ from (by repeat' (first | exact B6.out | apply Below.drew | apply St.below_drewN | apply bel_alloc20))) hg7 (bel_size20 (by repeat' (first | exact B6.out | apply Below.drew | apply St.below_drewN | apply bel_alloc20))) (fun x e => (H6.out.lt x e).1); have H7 : Hid (w7.ownsRow w3.heap.size 3 1 (.slice a7 (j + 1 + (want.length - j)) k7) (j + 1 + (want.length - j)) (iV (want.take j) ++ [I k] ++ iV (want.drop j))) := h7; clear h7 hg7))
          all_goals
            have H8 : Hid (Ow w0 w1 w7 zn tb p (actC tb s k) (.slice a7 (j + 1 + (want.length - j)) k7) (insW tb want k)) := HOw.out _ _ B7.out H7.out
            clear H5 H6 H7 B5 B6 BC HCp HCs HAd z0 z5 hNum HM
            go_wp2
            go_roundw
            case rel => exact ⟨i + 1, by omega, by go_num, _, _, H8.out⟩
            case measure => simp [intOf]; omega
      · have e1 : actC tb s t = s := by unfold actC; rw [if_neg h0]
        rw [e1] at hA
        generalize Tk.actS (actR tb) s.ss t = A at *
        have hA2 : (A == 0) = false := beq_eq_false_iff_ne.2 h0
        clear e1 h0
        go_wp2_with (first
          | (go_at_call 10; refine hA.mono ?_; clear hA; rintro e w3 ⟨rfl, k3, f3⟩; have H3 : Hid (Ow w0 w1 w3 zn tb p s u7 want) := HJ2.out.core k3 f3 HJ2.out.i HJ2.out.l (HJ2.out.keep f3); clear k3 f3))
        go_roundw
        case rel => exact ⟨i + 1, by omega, by go_num, _, _, H3.out⟩
        case measure => simp [intOf]; omega
    · obtain rfl : i = ts.length := by omega
      have hge : ¬ ((ts.length : Int) < ts.length) := by omega
      obtain ⟨s, want, hJ⟩ := HJ.out
      obtain ⟨aw, kw, rfl⟩ := own_slk19 hJ.q
      have hwl := hJ.len
      have HJ2 : Hid (Ow w0 w1 wr zn tb p s (.slice aw want.length kw) want) := hJ
      clear HJ hJ hi hlt
      go_upto_region 18 with fail
      clear hge
      go_wp2
      go_loopw [12, 13, 14, 15, 16] (fun v12 _ _ _ _ wz => ∃ j : Nat, j ≤ want.length ∧ v12 = I j ∧ Hid (∃ s', Co w0 wz zn tb p s' ∧ OI tb s' (want.drop j) ∧ wz.ownsRow w1.heap.size 3 1 (.slice aw want.length kw) want.length (iV want) ∧ ∀ x, zn x ≠ 0 → x < w1.heap.size)) (fun v12 _ _ _ _ _ => want.length - (intOf v12).toNat)
      case atStart => exact ⟨0, by omega, rfl, s, HJ2.out.c, HJ2.out.i, HJ2.out.q, HJ2.out.z⟩
      case round =>
        clear HJ2
        obtain ⟨j, hj, rfl, HK⟩ := hrel
        obtain ⟨s2, kC, kI, kQ, kZ⟩ := HK.out
        by_cases hlj : j < want.length
        · have hljI : (j : Int) < want.length := by omega
          obtain ⟨y, hy⟩ : ∃ y, want[j]? = some y := ⟨_, List.getElem?_eq_getElem hlj⟩
          have hdr : want.drop j = y :: want.drop (j + 1) := by
            rw [List.drop_eq_getElem_cons hlj]
            congr 1
            exact Option.some.inj ((List.getElem?_eq_getElem hlj).symm.trans hy)
          rw [hdr] at kI
          obtain ⟨r, hr, hyr⟩ := mem_all.1 (show y ∈ allL s2.rq by rw [kI.all]; exact List.mem_cons_self)
          obtain ⟨-, hy0, hyn⟩ := kI.of r hr y hyr
          obtain ⟨k, rfl⟩ := Int.eq_ofNat_of_zero_le hy0
          obtain ⟨xt, hxt⟩ : ∃ xt, tb.tasks[k]? = some xt := ⟨_, List.getElem?_eq_getElem (by omega)⟩
          have cy := kI.cyc hxt
          obtain ⟨g9, c9, e9⟩ := own_some20 kQ (by omega)
          cases e9
          have hR := cRun kC kI.okn
          rw [cy.t, cy.e] at hR
          have HC : Hid (Cyc tb s2 k (want.drop (j + 1)) ∧ (∀ x, zn x ≠ 0 → x < w1.heap.size) ∧ wr.ownsRow w1.heap.size 3 1 (.slice (some ⟨g9, 0, none⟩) want.length kw) want.length (iV want) ∧ want[j]? = some (k : Int)) := ⟨cy, kZ, kQ, hy⟩
          clear HK kC kI kQ kZ cy hr hyr hy0 hyn hdr hxt hy
          go_wp2_with (first
            | (go_at_call 8; refine (hNum _ _).mono ?_; rintro e wn ⟨rfl, rfl⟩)
            | (go_at_call 11; refine hR.mono ?_; clear hR; rintro e w4 ⟨rfl, k4, f4⟩; have q4 := f4.own HC.out.2.2.1 (fun x e m => by have h7 := HC.out.2.1 x m; have h8 := (HC.out.2.2.1.lt x e).1; omega); have z4 : w4.cell? ⟨g9, j, none⟩ = some (I k) := (by have h9 := q4.cells rfl j (I k) (by simp [iV, HC.out.2.2.2]); rwa [St.addr_add, Nat.zero_add] at h9); have hT := cTerminate k4; rw [HC.out.1.a] at hT; have Q4 : Hid (w4.ownsRow w1.heap.size 3 1 (.slice (some ⟨g9, 0, none⟩) want.length kw) want.length (iV want)) := q4; clear k4 f4 q4)
            | (go_at_call 12; refine hT.mono ?_; clear hT; rintro e w5 ⟨rfl, k5, f5⟩; have q5 := f5.own Q4.out (fun x e m => by have h7 := HC.out.2.1 x m; have h8 := (Q4.out.lt x e).1; omega); have hCa := cCarry_1 k5 HC.out.1.v (by rw [HC.out.1.r]; omega); rw [HC.out.1.r] at hCa; have Q5 : Hid (w5.ownsRow w1.heap.size 3 1 (.slice (some ⟨g9, 0, none⟩) want.length kw) want.length (iV want)) := q5; clear k5 f5 q5)
            | (go_at_call 13; refine hCa.mono ?_; clear hCa; rintro e w6 ⟨rfl, k6, f6⟩; have H6 : Hid (∃ s', Co w0 w6 zn tb p s' ∧ OI tb s' (want.drop (j + 1)) ∧ w6.ownsRow w1.heap.size 3 1 (.slice (some ⟨g9, 0, none⟩) want.length kw) want.length (iV want) ∧ ∀ x, zn x ≠ 0 → x < w1.heap.size) := ⟨_, k6, HC.out.1.n k6.q.fall, f6.own Q5.out (fun x e m => by have h7 := HC.out.2.1 x m; have h8 := (Q5.out.lt x e).1; omega), HC.out.2.1⟩; clear k6 f6))
          go_roundw
          case rel => exact ⟨j + 1, by omega, by go_num, H6.out⟩
          case measure => simp [intOf]; omega
        · obtain rfl : j = want.length := by omega
          have hge : ¬ ((want.length : Int) < want.length) := by omega
          rw [List.drop_length] at kI
          obtain ⟨f1, f2, f3, f4⟩ := kI.fin
          have hR := cRun kC kI.okn
          rw [f1, f2, f3] at hR
          have HQ : Hid (waitQ s2 = false) := f4
          clear HK kC kI kQ kZ f1 f2 f3 f4
          go_wp2_with (first
            | (go_at_call 8; refine (hNum _ _).mono ?_; rintro e wn ⟨rfl, rfl⟩)
            | (go_at_call 11; refine hR.mono ?_; clear hR; rintro e w4 ⟨rfl, k4, -⟩; have hW := cWaiting k4; rw [HQ.out] at hW; obtain ⟨bw4, hE4, -, -, -⟩ := HF.out _ k4.lo; have hA := alive20 w4 hE4; have HB : Hid (Below X w w4) := bw4; clear k4 bw4 hE4)
            | (go_at_call 14; refine hW.mono ?_; clear hW; rintro e w5 ⟨rfl, rfl⟩)
            | (go_at_call 9; refine hA.mono ?_; clear hA; rintro e w6 ⟨rfl, b6⟩; have HB6 : Hid (Below X w w6) := HB.out.trans (b6.mono (by have := HB.out.size; have := HX.out; omega)); clear b6))
          go_ret
          exact ⟨rfl, by rw [HX.out]; exact HB6.out⟩
end Go.Proofs.YtglnfifdjlgbcaaGreatDoor

namespace Go.Proofs.YtglnfifdjlgbcaaGreatDoor
open Go.ChangeShapes Go.WideShapes Go.ChangeAt Go.RowKit
set_option linter.unusedVariables false

theorem order_any (W : World) (hE : Tk.EnvR W) (tb : Tb) (v : Ts) (ht : TbAt W tb v) (hw : WfT tb) (s : Sl) (l : List Int) (hr : RowsAt W 1 intP s l) : Calls Tryz.prog 3 #[.agg (tbC tb v), .slice s.a s.n s.c] W fun e w' => e = .returned (.bool true) ∧ Below W.heap.size W w' := by
  by_cases hc : chkP tb = true
  · rw [hr.n]
    refine order_ok W hE tb v ht hw hc s.a s.c l (by have h1 := hr.n; have h2 := hr.c; have h3 := hr.m; unfold maxLen at h3; omega) (fun j x hj => ?_)
    obtain ⟨g, off, e1, hg, hx⟩ := hr.row j x hj
    obtain ⟨u, hu, hp⟩ := hx 0 (by omega)
    unfold intP at hp
    subst hp
    exact ⟨g, off, e1, hg, by simpa using hu⟩
  · exact order_bar W hE tb v ht hw (by simpa using hc) _
set_option maxRecDepth 100000 in
theorem coreOrder_lifted (os : Os) (started : os.Started) (H : Type) (enc : TypeId × Value → H) :
    ReturnsInHanded {} Tryz.checked os 3 .any (fun w args => (Rows.coreOrderSpec.pre enc Tryz.prog Tryz.f3 [] false w args ∧ laidMetH Tryz.prog Tk.laid1 w) ∧ sizedMet enc Tryz.prog Tryz.f3 (OpenSpec.ofChange Rows.coreOrderSpec) false w args)
      (Rows.coreOrderSpec.post enc Tryz.prog Tryz.f3 false true false false) := by
  refine returnsInHanded_of_change_and (C := Tryz.checked) (X := fun w _ => laidMetH Tryz.prog Tk.laid1 w) (fun _ _ _ hh h => h.of_heap hh) Tk.own started (by kernel_rfl) Tryz.func3
    (ChangeSpec.witness_shaped (enc := enc) (C := Tryz.checked) (os := os) (X := fun w _ => laidMetH Tryz.prog Tk.laid1 w) false (World.doorLaid Tryz.prog 400 os) #[.agg #[.int .i64 0, .int .i64 0, .slice none 0 0, .slice none 0 0, .slice none 0 0, .slice none 0 0, .slice none 0 0, .slice none 0 0, .slice none 0 0, .int .i64 0, .int .i64 0, .int .i64 0, .int .i64 0], .slice none 0 0] 8 rfl (World.shaped_of_RefB (by kernel_rfl) (by kernel_rfl)) (by kernel_rfl) (by kernel_rfl) (by kernel_rfl) (Tk.door_met os _)) ?_
  intro W base args ds gs before hval0 hW _ hsz0 hL _
  have hval : ∀ (j : Nat) t v, Tryz.f3.params[j]? = some t → args[j]? = some v → Value.okWide Tryz.prog W .any base t v := hval0
  have hW' := hW
  obtain ⟨p, q, hA0, hV, rfl, hfz, hnd⟩ := hW
  have hA : DataW.TrodAll enc Tryz.prog W 0 (fun _ => true) true Tryz.f3.params.toList args.toList ds p := hA0
  rw [Tryz.params3] at hA hval
  obtain ⟨v0, vs0, d0, ds0, p0, q0, hargs, rfl, rfl, h0, r0⟩ := trodAll_cons hA
  obtain ⟨v1, vs1, d1, ds1, p1, q1, rfl, rfl, rfl, h1, r1⟩ := trodAll_cons r0
  obtain ⟨rfl, rfl, rfl⟩ := trodAll_nil r1
  obtain rfl : args = #[v0, v1] := by cases args; simp_all
  obtain ⟨rfl, rfl⟩ := trodVars_none hV
  have k0 := h0
  have lt0 : ∀ x ∈ p0, x.block < W.heap.size := by obtain ⟨m, hm⟩ := k0; exact DataW.trod_lt m _ _ _ hm
  obtain ⟨tb0, tv0, rfl, ht0, hw0⟩ := tables_open (hval 0 30 v0 rfl rfl) h0
  have k1 := h1
  have lt1 : ∀ x ∈ p1, x.block < W.heap.size := by obtain ⟨m, hm⟩ := k1; exact DataW.trod_lt m _ _ _ hm
  obtain ⟨aa1, nn1, cc1, rfl⟩ := okWide_slice Tryz.underlying31 (hval 1 31 v1 rfl rfl)
  obtain ⟨fu1, hfu1⟩ := h1
  obtain ⟨⟨sa1, sn1, sc1⟩, l1, e1, hr1, hz1⟩ := rows_open ⟨0⟩ (by omega) Tryz.underlying31 p_int hfu1 one_int
  cases e1
  clear hA0 hval0
  refine (order_any W (Tk.env_of hL) tb0 tv0 ht0 hw0 ⟨sa1, sn1, sc1⟩ l1 hr1).mono fun e W' ⟨he, bel⟩ => ?_
  subst he
  exact ⟨_, rfl, _, _, _, [], _, [], hW', trodAll_mk1 (shut_bool Tryz.underlying4 _), (trodAll_cons_mk (Below.trod Tk.laidOut (by kernel_rfl) (of_decide_eq_true (by kernel_rfl)) k0 bel lt0) (trodAll_cons_mk (Below.trod Tk.laidOut (by kernel_rfl) (of_decide_eq_true (by kernel_rfl)) k1 bel lt1) trodAll_mk0)), rfl, bel.frame _, fun h => by cases h⟩
theorem coreOrder_over : Rows.CoreOrderSaid :=
  OpenClaim.holds_of_wide 3 Tryz.f3 rfl rfl rfl rfl rfl rfl rfl ⟨rfl, rfl, rfl, rfl, rfl⟩ rfl rfl rfl rfl rfl (by kernel_rfl) Tryz.func3 (by kernel_rfl)
    (of_decide_eq_true (by kernel_rfl)) (by unfold Func.isWrapper; first | (rw [if_pos (by decide +kernel)]; kernel_rfl) | (rw [if_neg (by decide +kernel)]; exact ⟨rfl, rfl⟩))
    (fun os started H enc _ => coreOrder_lifted os started H enc)
theorem coreOrder_holds : Rows.CoreOrderCardSaid :=
  Claim7.holds_tied_plain_at .later [] [.data] true _ true
    coreOrder_over (fun _ h => by cases h) (by kernel_rfl) (fun _ h => by cases h) coreOrder_row_tie rfl ⟨rfl, rfl⟩ (by kernel_rfl) rfl
    (fun f fn hf hfn => by
      obtain rfl : f = 3 := Option.some.inj ((show Tryz.prog.funcNamed "tappet/tappetlaw20.CoreOrder" = some 3 by kernel_rfl).symm.trans hf) |>.symm
      obtain rfl : fn = Tryz.f3 := (Option.some.inj (Tryz.func3.symm.trans hfn)).symm
      exact ⟨by kernel_rfl, fun j t ht => by
        rw [Tryz.params3] at ht
        have hm : t ∈ [30, 31] := by simpa using Array.mem_of_getElem? ht
        have hall : ([30, 31].all fun u => !Tryz.prog.wantsStandIn u) = true := by kernel_rfl
        exact (show Tryz.prog.wantsStandIn t = false by simpa using List.all_eq_true.1 hall t hm)⟩)
    (by kernel_rfl)
#print axioms coreOrder_holds
end Go.Proofs.YtglnfifdjlgbcaaGreatDoor

