import Derived.Test.YtidhjajobacnaaaGreatDoorKvq
namespace Go.Proofs.YtidhjajobacnaaaGreatDoor
open Go.RowKit
set_option linter.unusedVariables false

/-! ### ClassHolds -/
set_option maxHeartbeats 40000000 in
set_option maxRecDepth 100000 in
theorem holds_any (w : World) (c : Cf) (v : Vs) (h : CfAt w c v) (hl : LensOK c) (hMk : ∀ x ∈ c.evs, x.mask < 4294967296) (hE : EnvE w) : Calls Tryz.prog 3 #[.agg (cfC c v)] w fun e w' => Ans w true e w' := by
  have hi18 : (Tryz.prog.info? 33).map (·.size) = some (cfC c v).size := by rw [show (cfC c v).size = 18 from rfl]; kernel_rfl
  have hV0 := heap_alloc_new w (.cells (cfC c v) 33)
  have hbw := below_alloc w (.cells (cfC c v) 33)
  have kc := check_any _ c v (h.below hbw) hl (hE.below hbw)
  have kh := fun W (hW : Below w.heap.size w W) => heads_any W (hE.below hW)
  cases ho : allF c with
  | some r =>
    obtain ⟨cd, wd, ix⟩ := r
    have hcd := allF_code ho
    have hcd2 : (cd == 0) = false := by simpa using hcd
    rw [ho] at kc
    clear ho h
    generalize cfC c v = C at *
    go_enter Tryz.func3, Tryz.ntmps3
    go_wp2_with (first | (refine wpList_load_row rfl 33 _ rfl w.heap.size rfl 33 _ (0, 0) _ hV0 Tryz.underlying33 rfl hi18 ?_) | (go_at_call 7; refine kc.mono ?_; rintro e w1 ⟨he, hb1⟩; obtain rfl : e = .returned (.agg #[I cd, S wd, I ix]) := he; have hbw1 := hbw.trans (hb1.mono hbw.size)) | (go_at_call 8; refine (kh w1 hbw1).mono ?_; rintro e w2 ⟨rfl, hb2⟩))
    go_ret
    exact ⟨rfl, hbw1.trans (hb2.mono hbw1.size)⟩
  | none =>
    have hM := may_of ho
    rw [ho] at kc
    have HM : Hid (May c) := hM
    have HC : Hid (CfAt w c v) := h
    have HMk : Hid (∀ x ∈ c.evs, x.mask < 4294967296) := hMk
    have HNt : Hid (v.t.n = c.tasks.length) := h.t.n
    have HNr : Hid (v.r.n = c.ress.length) := h.r.n
    have HNe : Hid (v.e.n = c.evs.length) := h.e.n
    have HNk : Hid (v.k.n = c.ctrs.length) := h.k.n
    have HNa : Hid (v.a.n = c.als.length) := h.a.n
    have HNi : Hid (v.i.n = c.isrs.length) := h.i.n
    have ht1 : 1 ≤ v.t.n ∧ v.t.n ≤ 256 := by have := hM.t.1; rw [← HNt.out] at this; simp [inR] at this; omega
    have hm1 : 1 ≤ v.m.n ∧ v.m.n ≤ 8 := by have := hM.m.1; have e : v.m.n = c.modes.length := h.m.n; rw [← e] at this; simp [inR] at this; omega
    have ha1 : v.a.n ≤ 64 := by have := hM.a.1; rw [← HNa.out] at this; simp [inR] at this; omega
    have hi1 : v.i.n ≤ 32 := by have := hM.i.1; rw [← HNi.out] at this; simp [inR] at this; omega
    have t1 : ¬ (v.t.n : Int) < 1 := by omega
    have t2 : ¬ (v.t.n : Int) > 256 := by omega
    have m1 : ¬ (v.m.n : Int) < 1 := by omega
    have m2 : ¬ (v.m.n : Int) > 8 := by omega
    have hcc : Hid (∀ W : World, W.heap[w.heap.size]? = some (.cells (cfC c v) 33 (0, 0)) → W.cell? ⟨w.heap.size, 10, none⟩ = some (.slice v.m.a v.m.n v.m.c) ∧ W.cell? ⟨w.heap.size, 11, none⟩ = some (.slice v.t.a v.t.n v.t.c) ∧ W.cell? ⟨w.heap.size, 12, none⟩ = some (.slice v.r.a v.r.n v.r.c) ∧ W.cell? ⟨w.heap.size, 13, none⟩ = some (.slice v.e.a v.e.n v.e.c) ∧ W.cell? ⟨w.heap.size, 14, none⟩ = some (.slice v.k.a v.k.n v.k.c) ∧ W.cell? ⟨w.heap.size, 15, none⟩ = some (.slice v.a.a v.a.n v.a.c) ∧ W.cell? ⟨w.heap.size, 16, none⟩ = some (.slice v.i.a v.i.n v.i.c)) := fun W hW => cells_c hW
    clear ho h hM hMk
    have HC0 : Hid (∃ C, C = cfC c v ∧ True) := ⟨_, rfl, trivial⟩
    obtain ⟨C, hC, _⟩ := HC0.out
    rw [← hC] at hi18 hV0 hbw kc hcc ⊢
    have HCE : Hid (C = cfC c v) := hC
    clear hC HC0
    go_enter Tryz.func3, Tryz.ntmps3
    go_wp2_with (first | (refine wpList_load_row rfl 33 _ rfl w.heap.size rfl 33 _ (0, 0) _ hV0 Tryz.underlying33 rfl hi18 ?_) | (go_at_call 7; refine kc.mono ?_; rintro e w1 ⟨he, hb1⟩; obtain rfl : e = .returned (.agg #[I 0, S [], I 0]) := he; have hbw1 := hbw.trans (hb1.mono hbw.size); have hV1 := (hb1.block _ (heap_lt hV0)).trans hV0; obtain ⟨z10, z11, z12, z13, z14, z15, z16⟩ := hcc.out w1 hV1))
    have hgr := heap_lt hV1
    clear kc hbw hb1 hV0 z10 z11 z12 z13 z14 z15 z16
    go_loopw [3, 4, 5, 6, 7, 8, 9, 10] (fun iv _ _ _ _ _ _ _ wr => ∃ j : Nat, j ≤ v.t.n ∧ iv = .int .i64 j ∧ Hid (Below w1.heap.size w1 wr)) (fun iv _ _ _ _ _ _ _ _ => v.t.n - (intOf iv).toNat)
    case atStart => exact ⟨0, by omega, rfl, Below.refl _ _⟩
    case round =>
      obtain ⟨j, hj, rfl, HB⟩ := hrel
      have hB := HB.out
      have hbwr := hbw1.trans (hB.mono hbw1.size)
      have hVr := (hB.block _ (heap_lt hV1)).trans hV1
      obtain ⟨z10, z11, z12, z13, z14, z15, z16⟩ := hcc.out wr hVr
      have hgwr := heap_lt hVr
      by_cases hlt : j < v.t.n
      · have hlt' : (j : Int) < v.t.n := by omega
        obtain ⟨x, hx⟩ : ∃ x, c.tasks[j]? = some x := ⟨_, List.getElem?_eq_getElem (by rw [← HNt.out]; exact hlt)⟩
        obtain ⟨hpr, hac, hev, hrs, hex, hap, hnm⟩ := may_task HM.out hx
        obtain ⟨g, off, s4, s5, s6, s7, e, hg, a0, a1, a2, a3, a4, a5, a6, a7, r4, r5, r6, r7⟩ := tk_at (HC.out.below hbwr) hx
        have hst : (storeCells ⟨wr.heap.size, 0, none⟩ [S x.name, I x.prio, .bool x.full, I x.act, .slice s4.a s4.n s4.c, .slice s5.a s5.n s5.c, .slice s6.a s6.n s6.c, .slice s7.a s7.n s7.c] 0).run Tryz.prog (wr.alloc (.cells #[.string ⟨#[]⟩, .int .i64 0, .bool false, .int .i64 0, .slice none 0 0, .slice none 0 0, .slice none 0 0, .slice none 0 0] 41)) = .ok () (wr.alloc (.cells #[S x.name, I x.prio, .bool x.full, I x.act, .slice s4.a s4.n s4.c, .slice s5.a s5.n s5.c, .slice s6.a s6.n s6.c, .slice s7.a s7.n s7.c] 41)) :=
          run_storeCells_new (P := Tryz.prog) wr 41 #[.string ⟨#[]⟩, .int .i64 0, .bool false, .int .i64 0, .slice none 0 0, .slice none 0 0, .slice none 0 0, .slice none 0 0] #[S x.name, I x.prio, .bool x.full, I x.act, .slice s4.a s4.n s4.c, .slice s5.a s5.n s5.c, .slice s6.a s6.n s6.c, .slice s7.a s7.n s7.c] (by kernel_rfl) rfl (by simp [Value.oneCell'])
        have hal := below_alloc wr (.cells #[S x.name, I x.prio, .bool x.full, I x.act, .slice s4.a s4.n s4.c, .slice s5.a s5.n s5.c, .slice s6.a s6.n s6.c, .slice s7.a s7.n s7.c] 41)
        have HB2 : Hid (Below w1.heap.size w1 (wr.alloc (.cells #[S x.name, I x.prio, .bool x.full, I x.act, .slice s4.a s4.n s4.c, .slice s5.a s5.n s5.c, .slice s6.a s6.n s6.c, .slice s7.a s7.n s7.c] 41))) := hB.trans (hal.mono hB.size)
        have hV2 := (hal.block _ (heap_lt hVr)).trans hVr
        have hT2 := heap_alloc_new wr (.cells #[S x.name, I x.prio, .bool x.full, I x.act, .slice s4.a s4.n s4.c, .slice s5.a s5.n s5.c, .slice s6.a s6.n s6.c, .slice s7.a s7.n s7.c] 41)
        have hbw2 := hbwr.trans (hal.mono hbwr.size)
        have r5' := r5.below hal (fun _ _ _ _ h => h)
        have r6' := r6.below hal (fun _ _ _ _ h => h)
        have HHX : Hid (c.tasks[j]? = some x) := hx
        have HAP : Hid (apartF c 0 x.evs = true) := hap
        have HEV : Hid (∀ y ∈ x.evs, 0 ≤ y ∧ y < c.evs.length) := hev
        have HRS : Hid (∀ y ∈ x.res, 0 ≤ y ∧ y < c.ress.length) := hrs
        have HNM : Hid (∀ (k : Nat) (y : Tk), k < j → c.tasks[k]? = some y → y.name ≠ x.name) := hnm
        have HEX : Hid (0 < x.evs.length → x.act = 1) := hex
        have HTT : Hid (v.t.a = some ⟨g, off, none⟩) := e
        rw [e] at z11
        clear e hx hap hev hrs hnm hex r4 r5 r6 r7 HB hal
        go_wp2
        have w11 := (hcc.out _ hV2).2.1
        have w12 := (hcc.out _ hV2).2.2.1
        have w13 := (hcc.out _ hV2).2.2.2.1
        have y0 : (wr.alloc (.cells #[S x.name, I x.prio, .bool x.full, I x.act, .slice s4.a s4.n s4.c, .slice s5.a s5.n s5.c, .slice s6.a s6.n s6.c, .slice s7.a s7.n s7.c] 41)).cell? ⟨wr.heap.size, 0, none⟩ = some (S x.name) := cell_of_row _ wr.heap.size 0 _ _ (0, 0) hT2
        have y1 : (wr.alloc (.cells #[S x.name, I x.prio, .bool x.full, I x.act, .slice s4.a s4.n s4.c, .slice s5.a s5.n s5.c, .slice s6.a s6.n s6.c, .slice s7.a s7.n s7.c] 41)).cell? ⟨wr.heap.size, 1, none⟩ = some (I x.prio) := cell_of_row _ wr.heap.size 1 _ _ (0, 0) hT2
        have y3 : (wr.alloc (.cells #[S x.name, I x.prio, .bool x.full, I x.act, .slice s4.a s4.n s4.c, .slice s5.a s5.n s5.c, .slice s6.a s6.n s6.c, .slice s7.a s7.n s7.c] 41)).cell? ⟨wr.heap.size, 3, none⟩ = some (I x.act) := cell_of_row _ wr.heap.size 3 _ _ (0, 0) hT2
        have y5 : (wr.alloc (.cells #[S x.name, I x.prio, .bool x.full, I x.act, .slice s4.a s4.n s4.c, .slice s5.a s5.n s5.c, .slice s6.a s6.n s6.c, .slice s7.a s7.n s7.c] 41)).cell? ⟨wr.heap.size, 5, none⟩ = some (.slice s5.a s5.n s5.c) := cell_of_row _ wr.heap.size 5 _ _ (0, 0) hT2
        have y6 : (wr.alloc (.cells #[S x.name, I x.prio, .bool x.full, I x.act, .slice s4.a s4.n s4.c, .slice s5.a s5.n s5.c, .slice s6.a s6.n s6.c, .slice s7.a s7.n s7.c] 41)).cell? ⟨wr.heap.size, 6, none⟩ = some (.slice s6.a s6.n s6.c) := cell_of_row _ wr.heap.size 6 _ _ (0, 0) hT2
        rw [HTT.out] at w11
        clear hst a0 a1 a2 a3 a4 a5 a6 a7 z10 z11 z12 z13 z14 z15 z16 hB hbwr hVr
        generalize wr.alloc (.cells #[S x.name, I x.prio, .bool x.full, I x.act, .slice s4.a s4.n s4.c, .slice s5.a s5.n s5.c, .slice s6.a s6.n s6.c, .slice s7.a s7.n s7.c] 41) = W2 at *
        have HN6 : Hid (s6.n = x.evs.length) := r6'.n
        have HN5 : Hid (s5.n = x.res.length) := r5'.n
        have hc6 : s6.n ≤ s6.c := r6'.c
        have hm6 : s6.c ≤ maxLen := r6'.m
        have hc5 : s5.n ≤ s5.c := r5'.c
        have hm5 : s5.c ≤ maxLen := r5'.m
        unfold maxLen at hm6 hm5
        have HR5 : Hid (RowsAt W2 1 intP s5 x.res) := r5'
        have HR6 : Hid (RowsAt W2 1 intP s6 x.evs) := r6'
        have HC2 : Hid (CfAt W2 c v) := HC.out.below hbw2
        clear r5' r6' hT2
        go_loop [5, 6, 7, 8] (fun sv bv kv _ => ∃ k m : Nat, k ≤ s6.n ∧ kv = .int .i64 k ∧ sv = .int .u64 m ∧ bv = .int .u32 m ∧ m < 4294967296 ∧ Hid (apartF c (m : Int) (x.evs.drop k) = true)) (fun _ _ kv _ => s6.n - (intOf kv).toNat)
        case atStart => exact ⟨0, 0, by omega, rfl, rfl, rfl, by omega, HAP.out⟩
        case round =>
          obtain ⟨k, m, hk, rfl, rfl, rfl, hm, HAK⟩ := hrel
          by_cases hkl : k < s6.n
          · have hkl' : (k : Int) < s6.n := by omega
            have hkx : k < x.evs.length := by rw [← HN6.out]; exact hkl
            obtain ⟨ev, hev⟩ : ∃ y, x.evs[k]? = some y := ⟨_, List.getElem?_eq_getElem hkx⟩
            have hb := HEV.out ev (List.mem_of_getElem? hev)
            obtain ⟨en, rfl⟩ := Int.eq_ofNat_of_zero_le hb.1
            have hen : en < c.evs.length := by omega
            obtain ⟨ye, hye⟩ : ∃ y, c.evs[en]? = some y := ⟨_, List.getElem?_eq_getElem hen⟩
            obtain ⟨g6, o6, e6, hg6, b6⟩ := ints_at HR6.out hev
            obtain ⟨ge, oe, ee, hge, d0, d1, d2⟩ := ev_at HC2.out hye
            have hq := HMk.out ye (List.mem_of_getElem? hye)
            have hstep := apart_step (r := x.evs.drop (k + 1)) hm hye hq (by
              have := HAK.out
              rw [List.drop_eq_getElem_cons hkx] at this
              rw [List.getElem?_eq_getElem hkx] at hev
              rw [Option.some.inj hev] at this
              exact this)
            obtain ⟨hs1, hs2, hs3⟩ := hstep
            have HS3 : Hid (apartF c ((m + ye.mask : Nat) : Int) (x.evs.drop (k + 1)) = true) := hs3
            have hen2 : (en : Int) < v.e.n := by have := HNe.out; omega
            have hen3 : ¬ v.e.n ≤ en := by omega
            have hen0 : ¬ (en : Int) < 0 := by omega
            have v13 := w13
            have v6 := y6
            rw [ee] at v13
            rw [e6] at v6
            clear HAK hs3 hev hye hkx hb hen d0 d2 w11 w12 w13 y0 y1 y3 y5 y6
            go_wp2
            go_round
            case rel => exact ⟨k + 1, m + ye.mask, by omega, by go_num, by go_num, by first | exact congrArg _ hs2 | rfl, hs1, HS3⟩
            case measure => simp [intOf]; omega
          · obtain rfl : k = s6.n := by omega
            have hkl' : ¬ ((s6.n : Nat) : Int) < (s6.n : Nat) := by omega
            have hp1 : ¬ x.prio < 0 := by omega
            have hp2 : ¬ x.prio > 63 := by omega
            have ha2 : ¬ x.act < 1 := by omega
            have hsplit : (s6.n : Int) > 0 ∧ (x.act != 1) = false ∨ ¬ (s6.n : Int) > 0 := by
              rcases Nat.eq_zero_or_pos s6.n with h0 | h0
              · exact .inr (by omega)
              · refine .inl ⟨by omega, ?_⟩
                have := HEX.out (by rw [← HN6.out]; exact h0)
                simp [this]
            have HF : Hid (∀ W, Below W2.heap.size W2 W → W.cell? ⟨wr.heap.size, 0, none⟩ = some (S x.name) ∧ W.cell? ⟨wr.heap.size, 5, none⟩ = some (.slice s5.a s5.n s5.c) ∧ W.cell? ⟨w.heap.size, 11, none⟩ = some (.slice (some ⟨g, off, none⟩) v.t.n v.t.c) ∧ W.cell? ⟨w.heap.size, 12, none⟩ = some (.slice v.r.a v.r.n v.r.c)) := fun W hW =>
              ⟨by rw [cell_below hW _ _ (World.block_lt_of_cell? W2 _ y0)]; exact y0, by rw [cell_below hW _ _ (World.block_lt_of_cell? W2 _ y5)]; exact y5, by rw [cell_below hW _ _ (World.block_lt_of_cell? W2 _ w11)]; exact w11, by rw [cell_below hW _ _ (World.block_lt_of_cell? W2 _ w12)]; exact w12⟩
            clear HAK HAP HEV HEX HR6 HMk
            rcases hsplit with ⟨hs0, hs1⟩ | hs0 <;> (
              go_wp2
              clear y0 y1 y3 y5 y6 w11 w12 w13 hs0 hp1 hp2 ha2
              go_loopw [9] (fun kv wq => ∃ k : Nat, k ≤ s5.n ∧ kv = .int .i64 k ∧ Hid (Below W2.heap.size W2 wq)) (fun kv _ => s5.n - (intOf kv).toNat)
              case atStart => exact ⟨0, by omega, rfl, Below.refl _ _⟩
              case round =>
                rename_i wq _
                obtain ⟨k, hk, rfl, HBq⟩ := hrel
                obtain ⟨f0, f5, f11, f12⟩ := HF.out _ HBq.out
                by_cases hkl : k < s5.n
                · have hkl' : (k : Int) < s5.n := by omega
                  have hkx : k < x.res.length := by rw [← HN5.out]; exact hkl
                  obtain ⟨rv, hrv⟩ : ∃ y, x.res[k]? = some y := ⟨_, List.getElem?_eq_getElem hkx⟩
                  have hb := HRS.out rv (List.mem_of_getElem? hrv)
                  obtain ⟨g5, o5, e5, hg5, b5⟩ := ints_at (HR5.out.below HBq.out (fun _ _ _ _ h => h)) hrv
                  obtain ⟨rn, rfl⟩ := Int.eq_ofNat_of_zero_le hb.1
                  have hrn0 : ¬ (rn : Int) < 0 := by omega
                  have hrn1 : ¬ v.r.n ≤ rn := by have := HNr.out; omega
                  have hrn2 : (rn : Int) < v.r.n := by omega
                  rw [e5] at f5
                  clear hrv hb hkx
                  go_wp2
                  have hrn3 : ¬ (rn : Int) < 0 := by omega
                  have hrn4 : ¬ v.r.n ≤ rn := by omega
                  go_big_quiet (fail)
                  go_wp2
                  go_roundw
                  case rel => exact ⟨k + 1, by omega, by go_num, below_drewN HBq.out _⟩
                  case measure => simp [intOf]; omega
                · obtain rfl : k = s5.n := by omega
                  have hkm : ¬ ((s5.n : Nat) : Int) < (s5.n : Nat) := by omega
                  go_wp2
                  clear f0 f5 f11 f12
                  go_loopw [10] (fun kv wq => ∃ k : Nat, k ≤ j ∧ kv = .int .i64 k ∧ Hid (Below W2.heap.size W2 wq)) (fun kv _ => j - (intOf kv).toNat)
                  case atStart => exact ⟨0, by omega, rfl, HBq.out⟩
                  case round =>
                    clear HBq
                    obtain ⟨k, hk, rfl, HBq⟩ := hrel
                    obtain ⟨f0, f5, f11, f12⟩ := HF.out _ HBq.out
                    by_cases hkj : k < j
                    · have hkj' : (k : Int) < j := by omega
                      have hkt : (k : Int) < v.t.n := by omega
                      obtain ⟨y, hy⟩ : ∃ y, c.tasks[k]? = some y := ⟨_, List.getElem?_eq_getElem (by rw [← HNt.out]; omega)⟩
                      have hne := HNM.out k y hkj hy
                      have hne1 : (y.name == x.name) = false := by simpa using hne
                      obtain ⟨gq, oq, _, _, _, _, eq, hgq, c0, _, _, _, _, _, _, _, _, _, _, _⟩ := tk_at (HC2.out.below HBq.out) hy
                      rw [HTT.out] at eq
                      obtain ⟨rfl, rfl⟩ : g = gq ∧ off = oq := by cases eq; exact ⟨rfl, rfl⟩
                      clear hy eq
                      go_wp2
                      go_big_quiet (fail)
                      go_wp2
                      go_roundw
                      case rel => exact ⟨k + 1, by omega, by go_num, below_drewN HBq.out _⟩
                      case measure => simp [intOf]; omega
                    · obtain rfl : k = j := by omega
                      have hkj' : ¬ ((k : Nat) : Int) < (k : Nat) := by omega
                      go_wp2
                      go_roundw
                      case rel => exact ⟨k + 1, by omega, by go_num, HB2.out.trans (HBq.out.mono HB2.out.size)⟩
                      case measure => simp [intOf]; omega)
      · obtain rfl : j = v.t.n := by omega
        have hlt' : ¬ ((v.t.n : Nat) : Int) < (v.t.n : Nat) := by omega
        go_upto_region 31 with fail
        exact tail2 w w1 c v C HM HC hE HCE.out hbw1 hV1 _ _ _ _ _ _ _ _ _ _ _ _ _ _ _ _ _ _ _ _ _ _ _ _ _ _ _ _ _ _ _ _ _ _ _ _ _ _ _ _ _ _ _ _ _ _ _ _ _ _ _ _ _ _ _ _ _ _ _ _ _ _ _ _ _ _ _ _ _ _ _ _ _ _ _ _ _ _ _ _ _ _ _ _ _ _ _ _ _ _ _ _ _ _ _ _ _ _ _ _ _ _ _ _ _ _ _ _ _ _ _ _ _ _ _ _ _ _ _ _ _ _ _ _ _ _ _ _ _ _ _ _ _ _ _ _ _ _ _ _ _ _ _ _ _ _ _ _ _ _ _ _ _ _ _ _ _ _ _ _ _ _ _ _ _ _ _ _ _ _ _ _ _ _ _ _ _ _ _ _ _ _ _ _ _ _ _ _ _ _ _ _ _ _ _ _ _ _ _ _ _ _ _ _ _ _ _ _ _ _ _ _ _ _ _ _ _ _ _ _ _ _ _ _ _ _ _ _ _ _ _ _ _ _ _ _ _ _ _ _ _ _ _ _ _ _ _ _ _ _ _ _ _ _ _ _ _ _ _ _ HB _ _ (by assumption) (by assumption)
end Go.Proofs.YtidhjajobacnaaaGreatDoor
