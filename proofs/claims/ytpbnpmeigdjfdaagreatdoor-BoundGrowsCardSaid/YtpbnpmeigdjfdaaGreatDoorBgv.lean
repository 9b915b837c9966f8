import Derived.Test.YtpbnpmeigdjfdaaGreatDoorBgt
namespace Go.Proofs.YtpbnpmeigdjfdaaGreatDoor
open Go.RowKit Go.Sort
set_option linter.unusedVariables false
set_option linter.unusedSimpArgs false

set_option maxHeartbeats 8000000 in
set_option maxRecDepth 100000 in
theorem gw_eq (w : World) (c : Cf) (v : Vs) (h : CfAt w c v) (hl : LensOK c) (hE : EnvE w) (f : Fg) (vf : Vf) (hf : FgAt w f vf) (t : Int) (lim : Nat) (which : Int) (more less : Nat) (heq : wrap64 ((IntKind.u64.wrap which).tmod (vf.w.n : Int)) = t) :
    Calls Tryz.prog 3 #[.agg (cfC c v), .agg (fgC vf), I t, U lim, I which, U more, U less] w fun e w' => Ans w true e w' := by
  obtain ⟨i0, hi0, hz0, hz1, hz2⟩ := info_parts infoU
  have hi18 := cf_hi c v
  have hi5 := fg_hi vf
  have hb2 : Below w.heap.size w ((w.alloc (.cells (cfC c v) 33)).alloc (.cells (fgC vf) 37)) := ((Below.refl w.heap.size w).alloc (Nat.le_refl _) _).alloc (by simp) _
  have hV0 := heap_two0 w (.cells (cfC c v) 33) (.cells (fgC vf) 37)
  have hV1 := heap_two w (.cells (cfC c v) 33) (.cells (fgC vf) 37)
  have k1 := breckon_any _ c v (h.below hb2) hl (hE.below hb2) f vf (hf.below hb2) t lim
  have KH : Hid (∀ W, Below w.heap.size w W → Calls Tryz.prog 9 #[] W fun e w' => Ans W true e w') := fun W hW => heads27_any W (hE.below hW)
  have HCf : Hid (CfAt w c v) := h
  have HFg : Hid (FgAt w f vf) := hf
  have hcx : ∀ W : World, W.heap[w.heap.size + 1]? = some (.cells (fgC vf) 37 (0, 0)) → W.cell? ⟨w.heap.size + 1, 0, none⟩ = some (.slice vf.w.a vf.w.n vf.w.c) ∧ W.cell? ⟨w.heap.size + 1, 1, none⟩ = some (.slice vf.p.a vf.p.n vf.p.c) := fun W hW => ⟨cell_at3 hW 0, cell_at3 hW 1⟩
  have HX : Hid (∀ W, Below ((w.alloc (.cells (cfC c v) 33)).alloc (.cells (fgC vf) 37)).heap.size ((w.alloc (.cells (cfC c v) 33)).alloc (.cells (fgC vf) 37)) W → W.heap[w.heap.size]? = some (.cells (cfC c v) 33 (0, 0)) ∧ W.heap[w.heap.size + 1]? = some (.cells (fgC vf) 37 (0, 0)) ∧ W.cell? ⟨w.heap.size + 1, 0, none⟩ = some (.slice vf.w.a vf.w.n vf.w.c) ∧ W.cell? ⟨w.heap.size + 1, 1, none⟩ = some (.slice vf.p.a vf.p.n vf.p.c) ∧ Below w.heap.size w W) := fun W hW => by
    have q1 := (hW.block _ (heap_lt hV1)).trans hV1
    exact ⟨(hW.block _ (heap_lt hV0)).trans hV0, q1, (hcx W q1).1, (hcx W q1).2, hb2.trans (hW.mono hb2.size)⟩
  have HM : Hid (recZ c f t lim = 0 → lim ≤ 1000000 ∧ Fits c f ∧ ∃ n : Nat, t = n ∧ n < c.tasks.length ∧ recR c f t lim = rplF c f n lim) := rec_may
  have KR : Hid (∀ W, Below w.heap.size w W → ∀ (g : Fg) (vg : Vf), FgAt W g vg → ∀ lim, Calls Tryz.prog 8 #[.agg (cfC c v), .agg (fgC vg), I t, U lim] W fun e w' => e = .returned (.tuple #[.agg (rpC (recR c g t lim)), I (recZ c g t lim)]) ∧ Below W.heap.size W w') := fun W hW g vg hg lim => breckon_any W c v (HCf.out.below hW) hl (hE.below hW) g vg hg t lim
  obtain ⟨rp, hrp⟩ : ∃ rp, rp = recR c f t lim := ⟨_, rfl⟩
  obtain ⟨rz, hrz⟩ : ∃ rz, rz = recZ c f t lim := ⟨_, rfl⟩
  rw [← hrp, ← hrz] at k1
  rw [← hrp, ← hrz] at HM
  obtain ⟨rb, rr, rm⟩ := rp
  unfold rpC at k1
  dsimp only at k1
  generalize cfC c v = C at *
  clear h hf hl hE hcx hrp hrz
  have hFs : (fgC vf).size = 5 := rfl
  go_enter Tryz.func3, Tryz.ntmps3
  go_upto_region 1 with fail
  generalize (w.alloc (.cells C 33)).alloc (.cells (fgC vf) 37) = W2 at *
  go_upto_region 2 with (first | (refine wpList_load_row rfl 33 _ rfl w.heap.size rfl 33 _ (0, 0) _ hV0 Tryz.underlying33 rfl hi18 ?_) | (refine wpList_load_row rfl 37 _ rfl (w.heap.size + 1) rfl 37 _ (0, 0) _ hV1 Tryz.underlying37 rfl hi5 ?_) | (go_at_call 8; refine k1.mono ?_; clear k1; rintro e w1 ⟨rfl, hb1⟩))
  refine wp_worldB (w1.alloc (.cells #[U rb, U rr, .bool rm] 40)) ?_
  have hal := below_alloc w1 (.cells #[U rb, U rr, .bool rm] 40)
  have hA := heap_alloc_new w1 (.cells #[U rb, U rr, .bool rm] 40)
  have HB4 : Hid (Below W2.heap.size W2 (w1.alloc (.cells #[U rb, U rr, .bool rm] 40))) := hb1.trans (hal.mono hb1.size)
  clear hal hb1 hb2 hV0 hV1
  generalize w1.alloc (.cells #[U rb, U rr, .bool rm] 40) = w4 at *
  generalize w1.heap.size = T at *
  by_cases h0 : rz = 0
  · have h0' : (rz != 0) = false := by simp [h0]
    obtain ⟨hll, hF, n, rfl, hn, hrp⟩ := HM.out h0
    obtain ⟨q0, q1, y0, y1, hbw⟩ := HX.out _ HB4.out
    have hwn : 0 < vf.w.n := by have := HFg.out.k.n; have := (tim_len hF.t).1; omega
    have hw0 : ((vf.w.n : Int) == 0) = false := by simp; omega
    have hw0n : (vf.w.n == 0) = false := by simp; omega
    clear h0 HM
    go_upto_region 4 with fail
    have fone : (fgC vf).all (·.oneCell') = true := by simp [fgC, Value.oneCell']
    go_upto_region 5 with (first
      | (refine wpList_load_row rfl 37 _ rfl (w.heap.size + 1) rfl 37 _ (0, 0) _ q1 Tryz.underlying37 rfl hi5 ?_)
      | (rw [show (#[.slice none 0 0, .slice none 0 0, .slice none 0 0, .slice none 0 0, .slice none 0 0] : Array Value) = z5 from rfl]; refine wpList_store_row rfl 37 _ _ rfl w4.heap.size _ rfl rfl 37 _ (heap_alloc_new w4 (.cells z5 37)) hi5 (by rw [hFs]; rfl) fone ?_))
    rw [World.setRow_alloc_new]
    have hal := below_alloc w4 (.cells (fgC vf) 37)
    have HB5 : Hid (Below W2.heap.size W2 (w4.alloc (.cells (fgC vf) 37))) := HB4.out.trans (hal.mono HB4.out.size)
    have hG := heap_alloc_new w4 (.cells (fgC vf) 37)
    have hTG : T < w4.heap.size := heap_lt hA
    have hG4 : W2.heap.size ≤ w4.heap.size := HB4.out.size
    replace hA := (hal.block _ (heap_lt hA)).trans hA
    clear hal q0 q1 y0 y1 hbw
    obtain ⟨q0, q1, y0, y1, hbw⟩ := HX.out _ HB5.out
    generalize w4.alloc (.cells (fgC vf) 37) = w5 at *
    generalize w4.heap.size = G at *
    have hGl := heap_lt hG
    have hFl := heap_lt q1
    have hne1 : w.heap.size + 1 ≠ w5.heap.size := by omega
    have hne2 : G ≠ w5.heap.size := by omega
    have hFn := (tim_len hF.t).1
    have hFp := (tim_len hF.t).2.1
    have hle := may_lens hF.a
    have HWn : Hid (vf.w.n = f.w.length) := HFg.out.k.n
    have HPn : Hid (vf.p.n = f.p.length) := HFg.out.p.n
    obtain ⟨g2, o2, e2, hg2, _⟩ := nat_at HFg.out.k (List.getElem?_eq_getElem (l := f.w) (i := 0) (by omega))
    obtain ⟨g3, o3, e3, hg3, _⟩ := nat_at HFg.out.p (List.getElem?_eq_getElem (l := f.p) (i := 0) (by omega))
    have hWc : Hid (∀ W, Below w.heap.size w W → ∀ j u, (uL f.w)[j]? = some u → W.cell? ((⟨g2, o2, none⟩ : Addr).add j) = some u) := fun W hW => uL_cells (HFg.out.k.belowS hW) e2
    have hPc : Hid (∀ W, Below w.heap.size w W → ∀ j u, (uL f.p)[j]? = some u → W.cell? ((⟨g3, o3, none⟩ : Addr).add j) = some u) := fun W hW => uL_cells (HFg.out.p.belowS hW) e3
    have hae := below_alloc w5 (.cells #[] 38)
    have hoE := own_empty w5
    have hcE := hWc.out _ (hbw.trans (hae.mono hbw.size))
    rw [e2] at y0
    rw [e3] at y1
    have HGa : Hid (∀ W, (w5.alloc (.cells #[] 38)).grownBy W (some w5.heap.size) → W.heap[G]? = some (.cells (fgC vf) 37 (0, 0)) ∧ W.heap[T]? = some (.cells #[U rb, U rr, .bool rm] 40 (0, 0)) ∧ Below W2.heap.size W2 W) := fun W hg => ⟨heap_keptB (heap_over1 hG) hg (fun e => by cases e; omega), heap_keptB (heap_over1 hA) hg (fun e => by cases e; omega), (HB5.out.trans (hae.mono HB5.out.size)).grown hg (Nat.le_trans HB5.out.size hae.size) (fun k e => by cases e; exact HB5.out.size)⟩
    go_upto_region 6 with (at_builtin; refine wpList_append_own _ rfl (.tmp 41) (.tmp 43) 34 rfl w5.heap.size 38 i0 _ 1 8 Tryz.underlying34 hi0 hz0 hz1 hz2 rfl (by decide) _ _ _ rfl hoE ⟨g2, o2, none⟩ vf.w.n vf.w.c (uL f.w) rfl (by rw [uL_len, HWn.out]; simp) hcE (uL_one _) (by unfold maxLen; have := HWn.out; omega) (by have := HWn.out; omega) (by simp) ?_; intro v6 w6 ho6 hg6 _; obtain ⟨sa6, sc6, rfl⟩ := own_slB ho6; obtain ⟨hG6, hA6, hB6⟩ := HGa.out _ hg6; have cG := cell_at3 hG6 0; have fG := frozen_of_row w6 G 0 _ _ hG6; rw [Nat.zero_add, List.nil_append] at ho6; unfold fgC at cG; simp at cG)
    have hGs := heap_lt hG6
    have hO7 : (w6.setCell ⟨G, 0, none⟩ (.slice sa6 vf.w.n sc6)).ownsRow w5.heap.size 38 1 (.slice sa6 vf.w.n sc6) vf.w.n (uL f.w) := ho6.kept (grown_set _ _ _ _) (.inr (fun e => by have := (ho6.lt _ e).1; omega))
    have hG7 : (w6.setCell ⟨G, 0, none⟩ (.slice sa6 vf.w.n sc6)).heap[G]? = some (.cells (fgC ⟨⟨sa6, vf.w.n, sc6⟩, vf.p, vf.i, vf.e, vf.s⟩) 37 (0, 0)) := heap_setCell_same w6 G 0 _ _ _ hG6
    have hA7 : (w6.setCell ⟨G, 0, none⟩ (.slice sa6 vf.w.n sc6)).heap[T]? = some (.cells #[U rb, U rr, .bool rm] 40 (0, 0)) := heap_keptB hA6 (grown_set _ _ _ _) (fun e => by cases e; omega)
    have hB7 : Below W2.heap.size W2 (w6.setCell ⟨G, 0, none⟩ (.slice sa6 vf.w.n sc6)) := hB6.grown (grown_set _ _ _ _) hB6.size (fun k e => by cases e; exact hG4)
    have hz7 : w5.heap.size ≤ (w6.setCell ⟨G, 0, none⟩ (.slice sa6 vf.w.n sc6)).heap.size := by have := hg6.size; simp at this ⊢; omega
    clear ho6 hg6 hG6 hA6 hB6 cG fG hGs hG hA hae hoE hcE HGa q0 q1 y0 y1 hbw
    generalize w6.setCell ⟨G, 0, none⟩ (.slice sa6 vf.w.n sc6) = w7 at *
    obtain ⟨q0, q1, _, y1, hbw⟩ := HX.out _ hB7
    rw [e3] at y1
    have hFl7 := heap_lt q1
    have hGl7 := heap_lt hG7
    have hne3 : w.heap.size + 1 ≠ w7.heap.size := by omega
    have hne4 : G ≠ w7.heap.size := by omega
    have hae := below_alloc w7 (.cells #[] 38)
    have hoE := own_empty w7
    have hcE := hPc.out _ (hbw.trans (hae.mono hbw.size))
    have HGa : Hid (∀ W, (w7.alloc (.cells #[] 38)).grownBy W (some w7.heap.size) → W.heap[G]? = some (.cells (fgC ⟨⟨sa6, vf.w.n, sc6⟩, vf.p, vf.i, vf.e, vf.s⟩) 37 (0, 0)) ∧ W.heap[T]? = some (.cells #[U rb, U rr, .bool rm] 40 (0, 0)) ∧ W.ownsRow w5.heap.size 38 1 (.slice sa6 vf.w.n sc6) vf.w.n (uL f.w) ∧ Below W2.heap.size W2 W) := fun W hg => ⟨heap_keptB (heap_over1 hG7) hg (fun e => by cases e; omega), heap_keptB (heap_over1 hA7) hg (fun e => by cases e; omega), (own_below hO7 hae).kept hg (.inr (fun e => by have := (hO7.lt _ e).2; omega)), (hB7.trans (hae.mono hB7.size)).grown hg (Nat.le_trans hB7.size hae.size) (fun k e => by cases e; exact hB7.size)⟩
    go_upto_region 7 with (at_builtin; refine wpList_append_own _ rfl (.tmp 46) (.tmp 48) 34 rfl w7.heap.size 38 i0 _ 1 8 Tryz.underlying34 hi0 hz0 hz1 hz2 rfl (by decide) _ _ _ rfl hoE ⟨g3, o3, none⟩ vf.p.n vf.p.c (uL f.p) rfl (by rw [uL_len, HPn.out]; simp) hcE (uL_one _) (by unfold maxLen; have := HPn.out; omega) (by have := HPn.out; omega) (by simp) ?_; intro v8 w8 ho8 hg8 _; obtain ⟨sa8, sc8, rfl⟩ := own_slB ho8; obtain ⟨hG8, hA8, hO8, hB8⟩ := HGa.out _ hg8; have cG := cell_at3 hG8 1; have fG := frozen_of_row w8 G 1 _ _ hG8; rw [Nat.zero_add, List.nil_append] at ho8; unfold fgC at cG; simp at cG)
    have hP9 : (w8.setCell ⟨G, 1, none⟩ (.slice sa8 vf.p.n sc8)).ownsRow w7.heap.size 38 1 (.slice sa8 vf.p.n sc8) vf.p.n (uL f.p) := ho8.kept (grown_set _ _ _ _) (.inr (fun e => by have := (ho8.lt _ e).1; omega))
    have hO9 : (w8.setCell ⟨G, 1, none⟩ (.slice sa8 vf.p.n sc8)).ownsRow w5.heap.size 38 1 (.slice sa6 vf.w.n sc6) vf.w.n (uL f.w) := hO8.kept (grown_set _ _ _ _) (.inr (fun e => by have := (hO8.lt _ e).1; omega))
    have hG9 : (w8.setCell ⟨G, 1, none⟩ (.slice sa8 vf.p.n sc8)).heap[G]? = some (.cells (fgC ⟨⟨sa6, vf.w.n, sc6⟩, ⟨sa8, vf.p.n, sc8⟩, vf.i, vf.e, vf.s⟩) 37 (0, 0)) := heap_setCell_same w8 G 1 _ _ _ hG8
    have hA9 : (w8.setCell ⟨G, 1, none⟩ (.slice sa8 vf.p.n sc8)).heap[T]? = some (.cells #[U rb, U rr, .bool rm] 40 (0, 0)) := heap_keptB hA8 (grown_set _ _ _ _) (fun e => by cases e; omega)
    have hB9 : Below W2.heap.size W2 (w8.setCell ⟨G, 1, none⟩ (.slice sa8 vf.p.n sc8)) := hB8.grown (grown_set _ _ _ _) hB8.size (fun k e => by cases e; exact hG4)
    have hap : ∀ g g', (Value.slice sa6 vf.w.n sc6).ownBlock = some g → (Value.slice sa8 vf.p.n sc8).ownBlock = some g' → g ≠ g' := fun g g' e1 e2 => by have := (hO7.lt _ e1).2; have := (ho8.lt _ e2).1; omega
    clear ho8 hg8 hG8 hA8 hO8 hB8 cG fG hae hoE hcE HGa q0 q1 y1 hbw hO7 hG7 hA7 hB7
    generalize w8.setCell ⟨G, 1, none⟩ (.slice sa8 vf.p.n sc8) = w9 at *
    obtain ⟨q0, q1, y0, _, hbw⟩ := HX.out _ hB9
    obtain ⟨k, hk, hkk⟩ := idx_mod which vf.w.n hwn (by have := HWn.out; omega)
    have hun : IntKind.u64.wrap (vf.w.n : Int) = (vf.w.n : Int) := by rw [IntKind.wrap_u64]; have := HWn.out; omega
    have hun0 : ¬ (vf.w.n = 0) := by omega
    go_upto_region 8 with fail
    have hkn : n = k := by rw [hkk] at heq; omega
    rw [hkk]
    clear hkk heq
    obtain ⟨gw, rfl⟩ := own_some hO9 hwn
    obtain ⟨gp, rfl⟩ := own_some hP9 (by have := HWn.out; have := HPn.out; omega)
    have hgp : gw ≠ gp := hap gw gp rfl rfl
    obtain ⟨hc6, hm6⟩ := own_lenB hO9
    obtain ⟨hc8, hm8⟩ := own_lenB hP9
    unfold maxLen at hm6 hm8
    have hkp : k < vf.p.n := by have := HWn.out; have := HPn.out; omega
    have hki : (k : Int) < vf.w.n := by omega
    have hkpi : (k : Int) < vf.p.n := by omega
    obtain ⟨wk, hwk⟩ : ∃ wk, f.w[k]? = some wk := ⟨_, List.getElem?_eq_getElem (by have := HWn.out; omega)⟩
    obtain ⟨pk, hpk⟩ : ∃ pk, f.p[k]? = some pk := ⟨_, List.getElem?_eq_getElem (by have := HPn.out; omega)⟩
    have hwx := (tim_ok hF.t).1 _ (List.mem_of_getElem? hwk)
    have hpx := (tim_ok hF.t).2.1 _ (List.mem_of_getElem? hpk)
    subst hkn
    have hkn' : ((n : Int) != (n : Int)) = false := by simp
    have hG11 := hG9
    have hA11 := hA9
    have hB11 := hB9
    obtain ⟨f9, hf9⟩ : ∃ x : Fg, x = f := ⟨_, rfl⟩
    have hFA : FgAt w9 f9 ⟨⟨some ⟨gw, 0, none⟩, vf.w.n, sc6⟩, ⟨some ⟨gp, 0, none⟩, vf.p.n, sc8⟩, vf.i, vf.e, vf.s⟩ := by rw [hf9]; exact ⟨u_rows (s := ⟨some ⟨gw, 0, none⟩, vf.w.n, sc6⟩) hO9 HWn.out, u_rows (s := ⟨some ⟨gp, 0, none⟩, vf.p.n, sc8⟩) hP9 HPn.out, (HFg.out.below hbw).i, (HFg.out.below hbw).e, (HFg.out.below hbw).s⟩
    have hMo : More c f f9 n := by
      rw [hf9]
      refine ⟨rfl, rfl, rfl, by simp, by simp, fun j x y hx hy => ?_, fun j x y hx hy => ?_⟩
      · have hxx := (tim_ok hF.t).1 _ (List.mem_of_getElem? hx)
        rw [hx] at hy
        obtain rfl := Option.some.inj hy
        exact ⟨Nat.le_refl _, hxx.2, fun _ => rfl⟩
      · have hxx := (tim_ok hF.t).2.1 _ (List.mem_of_getElem? hx)
        rw [hx] at hy
        obtain rfl := Option.some.inj hy
        exact ⟨hxx.1, Nat.le_refl _⟩
    clear hf9 hO9 hP9 hG9 hA9 hB9
    generalize (⟨⟨some ⟨gw, 0, none⟩, vf.w.n, sc6⟩, ⟨some ⟨gp, 0, none⟩, vf.p.n, sc8⟩, vf.i, vf.e, vf.s⟩ : Vf) = v9 at *
    go_upto_region 11 with fail
    have hF9 := hMo.fits hF
    obtain ⟨z9, r9⟩ := rec_zero hF9 hn hll
    have k9 := KR.out _ hbw f9 v9 hFA lim
    rw [z9, r9] at k9
    obtain ⟨bb, hbb⟩ : ∃ b, b = rplF c f9 n lim := ⟨_, rfl⟩
    rw [← hbb] at k9
    obtain ⟨b1, b2, b3⟩ := bb
    unfold rpC at k9
    dsimp only at k9
    have hi9 := fg_hi v9
    go_upto_region 12 with (first | (refine wpList_load_row rfl 33 _ rfl w.heap.size rfl 33 _ (0, 0) _ q0 Tryz.underlying33 rfl hi18 ?_) | (refine wpList_load_row rfl 37 _ rfl G rfl 37 _ (0, 0) _ hG11 Tryz.underlying37 rfl hi9 ?_) | (go_at_call 8; refine k9.mono ?_; clear k9; rintro e u9 ⟨rfl, hb9⟩))
    refine wp_worldB (u9.alloc (.cells #[U b1, U b2, .bool b3] 40)) ?_
    have hal := below_alloc u9 (.cells #[U b1, U b2, .bool b3] 40)
    have hD := heap_alloc_new u9 (.cells #[U b1, U b2, .bool b3] 40)
    have hb12 := hb9.trans (hal.mono hb9.size)
    have HB12 : Hid (Below W2.heap.size W2 (u9.alloc (.cells #[U b1, U b2, .bool b3] 40))) := hB11.trans (hb12.mono hB11.size)
    have hA12 := (hb12.block _ (heap_lt hA11)).trans hA11
    clear hb9 hal hb12 hA11 hG11 hB11 hFA q0 q1 hbw hi9 hG4 hTG
    generalize u9.alloc (.cells #[U b1, U b2, .bool b3] 40) = w12 at *
    generalize u9.heap.size = T2 at *
    obtain ⟨lm, hlm⟩ : ∃ l, l = lim - less % (lim + 1) := ⟨_, rfl⟩
    have hlmm := Nat.mod_lt less (show 0 < lim + 1 by omega)
    have hlmle : lm ≤ lim := by omega
    obtain ⟨zd, rd⟩ := rec_zero hF hn (lim := lm) (by omega)
    have hans := ans_more hMo hF hn hlmle (lim := lim)
    have HXX : Hid (∀ W, Below w12.heap.size w12 W → (W.heap[w.heap.size]? = some (.cells C 33 (0, 0)) ∧ W.heap[w.heap.size + 1]? = some (.cells (fgC vf) 37 (0, 0))) ∧ W.heap[T]? = some (.cells #[U rb, U rr, .bool rm] 40 (0, 0)) ∧ W.heap[T2]? = some (.cells #[U b1, U b2, .bool b3] 40 (0, 0)) ∧ Below w.heap.size w W) := fun W hW => by
      obtain ⟨q0, q1, _, _, hbw⟩ := HX.out _ (HB12.out.trans (hW.mono HB12.out.size))
      exact ⟨⟨q0, q1⟩, (hW.block _ (heap_lt hA12)).trans hA12, (hW.block _ (heap_lt hD)).trans hD, hbw⟩
    rw [← hbb, ← hrp] at hans
    obtain ⟨dd, hdd⟩ : ∃ d, d = rplF c f n lm := ⟨_, rfl⟩
    rw [← hdd] at hans rd
    obtain ⟨d1, d2, d3⟩ := dd
    unfold ansB at hans
    dsimp only at hans
    obtain ⟨ha1, ha2, ha3⟩ := hans
    have hwz : IntKind.u64.wrap ((lim : Int) - (less : Int) % ((lim : Int) + 1)) = ((lm : Nat) : Int) := by rw [hlm, show (less : Int) % ((lim : Int) + 1) = ((less % (lim + 1) : Nat) : Int) by simp, IntKind.wrap_u64]; omega
    have hwl1 : IntKind.u64.wrap ((lim : Int) + 1) = (lim : Int) + 1 := by rw [IntKind.wrap_u64]; omega
    have hnz1 : ¬ ((lim : Int) + 1 = 0) := by omega
    have KR2 : Hid (∀ W, Below w12.heap.size w12 W → Calls Tryz.prog 8 #[.agg C, .agg (fgC vf), I n, .int .u64 (IntKind.u64.wrap ((lim : Int) - (less : Int) % ((lim : Int) + 1)))] W fun e w' => e = .returned (.tuple #[.agg #[U d1, U d2, .bool d3], I 0]) ∧ Below W.heap.size W w') := fun W hW => by
      rw [hwz]
      have hbW := (HXX.out W hW).2.2.2
      have := KR.out W hbW f vf (HFg.out.below hbW) lm
      rw [zd, rd] at this
      exact this
    clear hbb hrp hdd zd rd z9 r9 hF9 hMo hF hwz KR hap hA12 hD hwk hpk hwx hpx HX HB12 HCf
    refine (fun (hT : ∀ (W : World) (D : Nat), (W.heap[T]? = some (.cells #[U rb, U rr, .bool rm] 40 (0, 0)) ∧ W.heap[T2]? = some (.cells #[U b1, U b2, .bool b3] 40 (0, 0)) ∧ W.heap[D]? = some (.cells #[U d1, U d2, .bool d3] 40 (0, 0)) ∧ Below w.heap.size w W) → (?Pq27 : World → Nat → Prop) W D) => ?mn) ?tl
    case mn =>
      refine wp_region_held_drew (S := fun W => W.heap[w.heap.size]? = some (.cells C 33 (0, 0)) ∧ W.heap[w.heap.size + 1]? = some (.cells (fgC vf) 37 (0, 0))) (by kernel_rfl) (HXX.out w12.drew (Below.refl _ _).drew).1 (fun hHeld => ?_)
      change wpAnyH _ _ _ _ _ _ #[false, false, false, false, false, false, false, false, false, false, false, false, false, false, false, false] _ _
      try simp only [Act.put, List.getElem_toArray, List.getElem_cons_succ, List.getElem_cons_zero, List.setIfInBounds_toArray, List.set_cons_zero, List.set_cons_succ]
      refine wpAnyH_take (i := 0) (v := .agg C) rfl (by kernel_rfl) (by kernel_rfl) (by kernel_rfl) (fun _ _ _ h => h) (Or.inl ⟨by rfl, ?_⟩) hHeld ?_
      · intro w' hSw
        have hld := run_loadVar_row (P := Tryz.prog) w' w.heap.size 33 33 C (0, 0) _ hSw.1 Tryz.underlying33 rfl hi18
        simp [execOp, Act.eval, Instr.loadAt, Instr.sureAddr, hld]
      try simp only [Act.put, List.getElem_toArray, List.getElem_cons_succ, List.getElem_cons_zero, List.setIfInBounds_toArray, List.set_cons_zero, List.set_cons_succ]
      refine wpAnyH_take (i := 1) (v := .agg (fgC vf)) rfl (by kernel_rfl) (by kernel_rfl) (by kernel_rfl) (fun _ _ _ h => h) (Or.inl ⟨by rfl, ?_⟩) hHeld ?_
      · intro w' hSw
        have hld := run_loadVar_row (P := Tryz.prog) w' (w.heap.size + 1) 37 37 (fgC vf) (0, 0) _ hSw.2 Tryz.underlying37 rfl hi5
        simp [execOp, Act.eval, Instr.loadAt, Instr.sureAddr, hld]
      try simp only [Act.put, List.getElem_toArray, List.getElem_cons_succ, List.getElem_cons_zero, List.setIfInBounds_toArray, List.set_cons_zero, List.set_cons_succ]
      refine wpAnyH_take (i := 2) (v := ?_) rfl (by kernel_rfl) (by kernel_rfl) (by kernel_rfl) (fun _ _ _ h => h) (Or.inl ⟨by rfl, ?_⟩) hHeld ?_
      rotate_left
      · intro w' hSw
        go_simp
        try with_reducible rfl
      try simp only [Act.put, List.getElem_toArray, List.getElem_cons_succ, List.getElem_cons_zero, List.setIfInBounds_toArray, List.set_cons_zero, List.set_cons_succ]
      refine wpAnyH_take (i := 3) (v := ?_) rfl (by kernel_rfl) (by kernel_rfl) (by kernel_rfl) (fun _ _ _ h => h) (Or.inl ⟨by rfl, ?_⟩) hHeld ?_
      rotate_left
      · intro w' hSw
        go_simp
        try with_reducible rfl
      try simp only [Act.put, List.getElem_toArray, List.getElem_cons_succ, List.getElem_cons_zero, List.setIfInBounds_toArray, List.set_cons_zero, List.set_cons_succ]
      refine wpAnyH_take (i := 4) (v := ?_) rfl (by kernel_rfl) (by kernel_rfl) (by kernel_rfl) (fun _ _ _ h => h) (Or.inl ⟨by rfl, ?_⟩) hHeld ?_
      rotate_left
      · intro w' hSw
        go_simp
        try with_reducible rfl
      try simp only [Act.put, List.getElem_toArray, List.getElem_cons_succ, List.getElem_cons_zero, List.setIfInBounds_toArray, List.set_cons_zero, List.set_cons_succ]
      refine wpAnyH_take (i := 5) (v := ?_) rfl (by kernel_rfl) (by kernel_rfl) (by kernel_rfl) (fun _ _ _ h => h) (Or.inl ⟨by rfl, ?_⟩) hHeld ?_
      rotate_left
      · intro w' hSw
        go_simp
        try with_reducible rfl
      try simp only [Act.put, List.getElem_toArray, List.getElem_cons_succ, List.getElem_cons_zero, List.setIfInBounds_toArray, List.set_cons_zero, List.set_cons_succ]
      refine wpAnyH_take (i := 6) (v := ?_) rfl (by kernel_rfl) (by kernel_rfl) (by kernel_rfl) (fun _ _ _ h => h) (Or.inl ⟨by rfl, ?_⟩) hHeld ?_
      rotate_left
      · intro w' hSw
        go_simp
        try with_reducible rfl
      try simp only [Act.put, List.getElem_toArray, List.getElem_cons_succ, List.getElem_cons_zero, List.setIfInBounds_toArray, List.set_cons_zero, List.set_cons_succ]
      refine wpAnyH_take (i := 7) (v := ?_) rfl (by kernel_rfl) (by kernel_rfl) (by kernel_rfl) (fun _ _ _ h => h) (Or.inl ⟨by rfl, ?_⟩) hHeld ?_
      rotate_left
      · intro w' hSw
        go_simp
        try with_reducible rfl
      try simp only [Act.put, List.getElem_toArray, List.getElem_cons_succ, List.getElem_cons_zero, List.setIfInBounds_toArray, List.set_cons_zero, List.set_cons_succ]
      refine wpAnyH_take (i := 8) (v := ?_) rfl (by kernel_rfl) (by kernel_rfl) (by kernel_rfl) (fun _ _ _ h => h) (Or.inl ⟨by rfl, ?_⟩) hHeld ?_
      rotate_left
      · intro w' hSw
        go_simp
        try with_reducible rfl
      try simp only [Act.put, List.getElem_toArray, List.getElem_cons_succ, List.getElem_cons_zero, List.setIfInBounds_toArray, List.set_cons_zero, List.set_cons_succ]
      refine wpAnyH_ready (rs := [9, 13]) (by kernel_rfl) (by simp) ?_
      refine AllReadyH.cons rfl (fun K hK => ?_) (AllReadyH.cons rfl (fun K hK => ?_) AllReadyH.nil)
      · go_simp
        (go_at_call 8; refine (KR2.out _ (Below.refl _ _).drew).mono ?_; rintro e w13 ⟨rfl, hb13⟩)
        have HB13 : Hid (Below w12.heap.size w12 w13) := (Below.refl _ _).drew.trans hb13
        refine hK.out _ _ (HXX.out w13 HB13.out).1 (fun hHeld => ?_)
        clear hK K hb13
        try simp only [Act.put, List.getElem_toArray, List.getElem_cons_succ, List.getElem_cons_zero, List.setIfInBounds_toArray, List.set_cons_zero, List.set_cons_succ]
        refine wpAnyH_take (i := 10) (v := ?_) rfl (by kernel_rfl) (by kernel_rfl) (by kernel_rfl) (fun _ _ _ h => h) (Or.inl ⟨by rfl, ?_⟩) hHeld ?_
        rotate_left
        · intro w' hSw
          go_simp
          try with_reducible rfl
        try simp only [Act.put, List.getElem_toArray, List.getElem_cons_succ, List.getElem_cons_zero, List.setIfInBounds_toArray, List.set_cons_zero, List.set_cons_succ]
        refine wpAnyH_take (i := 11) (v := ?_) rfl (by kernel_rfl) (by kernel_rfl) (by kernel_rfl) (fun _ _ _ h => h) (Or.inl ⟨by rfl, ?_⟩) hHeld ?_
        rotate_left
        · intro w' hSw
          go_simp
          try with_reducible rfl
        try simp only [Act.put, List.getElem_toArray, List.getElem_cons_succ, List.getElem_cons_zero, List.setIfInBounds_toArray, List.set_cons_zero, List.set_cons_succ]
        refine wpAnyH_take (i := 12) (v := ?_) rfl (by kernel_rfl) (by kernel_rfl) (by kernel_rfl) (fun _ _ _ h => h) (Or.inl ⟨by rfl, ?_⟩) hHeld ?_
        rotate_left
        · intro w' hSw
          go_simp
          try with_reducible rfl
        try simp only [Act.put, List.getElem_toArray, List.getElem_cons_succ, List.getElem_cons_zero, List.setIfInBounds_toArray, List.set_cons_zero, List.set_cons_succ]
        refine wpAnyH_ready (rs := [13]) (by kernel_rfl) (by simp) ?_
        refine AllReadyH.cons rfl (fun K hK => ?_) AllReadyH.nil
        go_simp
        have HBa : Hid (Below w12.heap.size w12 (w13.alloc (.cells z3r 40))) := HB13.out.trans ((below_alloc w13 _).mono HB13.out.size)
        have hD := heap_alloc_new w13 (.cells z3r 40)
        refine hK.out _ _ (HXX.out _ HBa.out).1 (fun hHeld => ?_)
        clear hK K
        try simp only [Act.put, List.getElem_toArray, List.getElem_cons_succ, List.getElem_cons_zero, List.setIfInBounds_toArray, List.set_cons_zero, List.set_cons_succ]
        refine wpAnyH_ready (rs := [14]) (by kernel_rfl) (by simp) ?_
        refine AllReadyH.cons rfl (fun K hK => ?_) AllReadyH.nil
        go_simp
        have HB14 : Hid (Below w12.heap.size w12 (w13.alloc (.cells #[U d1, U d2, .bool d3] 40))) := HB13.out.trans ((below_alloc w13 _).mono HB13.out.size)
        have hDF := heap_alloc_new w13 (.cells #[U d1, U d2, .bool d3] 40)
        refine hK.out _ _ (HXX.out _ HB14.out).1 (fun hHeld => ?_)
        clear hK K hD HBa
        try simp only [Act.put, List.getElem_toArray, List.getElem_cons_succ, List.getElem_cons_zero, List.setIfInBounds_toArray, List.set_cons_zero, List.set_cons_succ]
        refine wpAnyH_take (i := 15) (v := ?_) rfl (by kernel_rfl) (by kernel_rfl) (by kernel_rfl) (fun _ _ _ h => h) (Or.inl ⟨by rfl, ?_⟩) hHeld ?_
        rotate_left
        · intro w' hSw
          go_simp
          try with_reducible rfl
        try simp only [Act.put, List.getElem_toArray, List.getElem_cons_succ, List.getElem_cons_zero, List.setIfInBounds_toArray, List.set_cons_zero, List.set_cons_succ]
        refine wpAnyH_done (by kernel_rfl) ?_ _
        obtain ⟨_, hTT, hTT2, hbwF⟩ := HXX.out _ HB14.out
        clear hHeld HB13 HB14
        generalize w13.alloc (.cells #[U d1, U d2, .bool d3] 40) = wF at hTT hTT2 hDF hbwF ⊢
        generalize w13.heap.size = D at hDF ⊢
        exact hT wF D ⟨hTT, hTT2, hDF, hbwF⟩
      · go_simp
        have HBa : Hid (Below w12.heap.size w12 (w12.drew.alloc (.cells z3r 40))) := (Below.refl _ _).drew.trans ((below_alloc w12.drew _).mono (Nat.le_refl _))
        have hD : (w12.drew.alloc (.cells z3r 40)).heap[w12.heap.size]? = some (.cells z3r 40 (0, 0)) := heap_alloc_new w12.drew _
        refine hK.out _ _ (HXX.out _ HBa.out).1 (fun hHeld => ?_)
        clear hK K
        try simp only [Act.put, List.getElem_toArray, List.getElem_cons_succ, List.getElem_cons_zero, List.setIfInBounds_toArray, List.set_cons_zero, List.set_cons_succ]
        refine wpAnyH_ready (rs := [9]) (by kernel_rfl) (by simp) ?_
        refine AllReadyH.cons rfl (fun K hK => ?_) AllReadyH.nil
        go_simp
        (go_at_call 8; refine (KR2.out _ HBa.out).mono ?_; rintro e w13 ⟨rfl, hb13⟩)
        have HB13 : Hid (Below w12.heap.size w12 w13) := HBa.out.trans (hb13.mono HBa.out.size)
        have hD' : w13.heap[w12.heap.size]? = some (.cells #[.int .u64 0, .int .u64 0, .bool false] 40 (0, 0)) := (hb13.block _ (heap_lt hD)).trans hD
        have c0 : w13.cell? ⟨w12.heap.size, 0, none⟩ = some (.int .u64 0) := cell_at3 hD' 0
        have c1 : w13.cell? ⟨w12.heap.size, 1, none⟩ = some (.int .u64 0) := cell_at3 hD' 1
        have c2 : w13.cell? ⟨w12.heap.size, 2, none⟩ = some (.bool false) := cell_at3 hD' 2
        have fz := fun i => frozen_of_row w13 w12.heap.size i _ _ hD'
        refine hK.out _ _ (HXX.out w13 HB13.out).1 (fun hHeld => ?_)
        clear hK K hb13 hD
        try simp only [Act.put, List.getElem_toArray, List.getElem_cons_succ, List.getElem_cons_zero, List.setIfInBounds_toArray, List.set_cons_zero, List.set_cons_succ]
        refine wpAnyH_take (i := 10) (v := ?_) rfl (by kernel_rfl) (by kernel_rfl) (by kernel_rfl) (fun _ _ _ h => h) (Or.inl ⟨by rfl, ?_⟩) hHeld ?_
        rotate_left
        · intro w' hSw
          go_simp
          try with_reducible rfl
        try simp only [Act.put, List.getElem_toArray, List.getElem_cons_succ, List.getElem_cons_zero, List.setIfInBounds_toArray, List.set_cons_zero, List.set_cons_succ]
        refine wpAnyH_take (i := 11) (v := ?_) rfl (by kernel_rfl) (by kernel_rfl) (by kernel_rfl) (fun _ _ _ h => h) (Or.inl ⟨by rfl, ?_⟩) hHeld ?_
        rotate_left
        · intro w' hSw
          go_simp
          try with_reducible rfl
        try simp only [Act.put, List.getElem_toArray, List.getElem_cons_succ, List.getElem_cons_zero, List.setIfInBounds_toArray, List.set_cons_zero, List.set_cons_succ]
        refine wpAnyH_take (i := 12) (v := ?_) rfl (by kernel_rfl) (by kernel_rfl) (by kernel_rfl) (fun _ _ _ h => h) (Or.inl ⟨by rfl, ?_⟩) hHeld ?_
        rotate_left
        · intro w' hSw
          go_simp
          try with_reducible rfl
        try simp only [Act.put, List.getElem_toArray, List.getElem_cons_succ, List.getElem_cons_zero, List.setIfInBounds_toArray, List.set_cons_zero, List.set_cons_succ]
        refine wpAnyH_ready (rs := [14]) (by kernel_rfl) (by simp) ?_
        refine AllReadyH.cons rfl (fun K hK => ?_) AllReadyH.nil
        go_simp
        have HB14 : Hid (Below w12.heap.size w12 (((w13.setCell ⟨w12.heap.size, 0, none⟩ (U d1)).setCell ⟨w12.heap.size, 1, none⟩ (U d2)).setCell ⟨w12.heap.size, 2, none⟩ (.bool d3))) := HB13.out.grown (grown3B w13 w12.heap.size (U d1) (U d2) (.bool d3)) HB13.out.size (fun k e => by cases e; exact Nat.le_refl _)
        have hDF := set3B _ _ _ (U d1) (U d2) (.bool d3) hD'
        refine hK.out _ _ (HXX.out _ HB14.out).1 (fun hHeld => ?_)
        clear hK K hD' c0 c1 c2 fz HBa
        try simp only [Act.put, List.getElem_toArray, List.getElem_cons_succ, List.getElem_cons_zero, List.setIfInBounds_toArray, List.set_cons_zero, List.set_cons_succ]
        refine wpAnyH_take (i := 15) (v := ?_) rfl (by kernel_rfl) (by kernel_rfl) (by kernel_rfl) (fun _ _ _ h => h) (Or.inl ⟨by rfl, ?_⟩) hHeld ?_
        rotate_left
        · intro w' hSw
          go_simp
          try with_reducible rfl
        try simp only [Act.put, List.getElem_toArray, List.getElem_cons_succ, List.getElem_cons_zero, List.setIfInBounds_toArray, List.set_cons_zero, List.set_cons_succ]
        refine wpAnyH_done (by kernel_rfl) ?_ _
        obtain ⟨_, hTT, hTT2, hbwF⟩ := HXX.out _ HB14.out
        clear hHeld HB13 HB14
        exact hT _ _ ⟨hTT, hTT2, hDF, hbwF⟩
    case tl =>
      rintro wF D ⟨hTT, hTT2, hDF, hbwF⟩
      have k9 := KH.out _ hbwF
      clear HXX KR2 KH HFg HB4 HB5 hWc hPc HWn HPn
      have cT0 : wF.cell? ⟨T, 0, none⟩ = some (U rb) := cell_at3 hTT 0
      have cT1 : wF.cell? ⟨T, 1, none⟩ = some (U rr) := cell_at3 hTT 1
      have cT2 : wF.cell? ⟨T, 2, none⟩ = some (.bool rm) := cell_at3 hTT 2
      have cU0 : wF.cell? ⟨T2, 0, none⟩ = some (U b1) := cell_at3 hTT2 0
      have cU1 : wF.cell? ⟨T2, 1, none⟩ = some (U b2) := cell_at3 hTT2 1
      have cU2 : wF.cell? ⟨T2, 2, none⟩ = some (.bool b3) := cell_at3 hTT2 2
      have cD0 : wF.cell? ⟨D, 0, none⟩ = some (U d1) := cell_at3 hDF 0
      have cD1 : wF.cell? ⟨D, 1, none⟩ = some (U d2) := cell_at3 hDF 1
      have cD2 : wF.cell? ⟨D, 2, none⟩ = some (.bool d3) := cell_at3 hDF 2
      have hx1 : decide (b1 < rb) = false := by simpa using ha1
      have hx2 : ¬ (b1 < rb) := by omega
      clear hTT hTT2 hDF ha1
      cases b3
      · clear ha2
        cases d3
        · clear ha3
          go_wp2_with (go_at_call 9; refine k9.mono ?_; clear k9; rintro e wZ ⟨rfl, hbZ⟩)
          go_ret
          exact ⟨rfl, hbwF.trans (hbZ.mono hbwF.size)⟩
        · have e3 := ha3 rfl
          injection e3 with e1 e2 e3
          subst e1 e2 e3
          clear ha3
          go_wp2_with (go_at_call 9; refine k9.mono ?_; clear k9; rintro e wZ ⟨rfl, hbZ⟩)
          go_ret
          exact ⟨rfl, hbwF.trans (hbZ.mono hbwF.size)⟩
      · obtain ⟨rfl, hle⟩ := ha2 rfl
        have hx3 : decide (b2 < rr) = false := by simpa using hle
        have hx4 : ¬ (b2 < rr) := by omega
        clear ha2 hle
        cases d3
        · clear ha3
          go_wp2_with (go_at_call 9; refine k9.mono ?_; clear k9; rintro e wZ ⟨rfl, hbZ⟩)
          go_ret
          exact ⟨rfl, hbwF.trans (hbZ.mono hbwF.size)⟩
        · have e3 := ha3 rfl
          injection e3 with e1 e2 e3
          subst e1 e2
          clear ha3
          go_wp2_with (go_at_call 9; refine k9.mono ?_; clear k9; rintro e wZ ⟨rfl, hbZ⟩)
          go_ret
          exact ⟨rfl, hbwF.trans (hbZ.mono hbwF.size)⟩
  · have h0' : (rz != 0) = true := by simpa using h0
    have hbw := (HX.out _ HB4.out).2.2.2.2
    have k2 := KH.out _ hbw
    clear h0 HM KR HX HCf HFg hA HB4 KH
    go_wp2_with (go_at_call 9; refine k2.mono ?_; clear k2; rintro e w5 ⟨rfl, hb5⟩)
    go_ret
    exact ⟨rfl, hbw.trans (hb5.mono hbw.size)⟩
end Go.Proofs.YtpbnpmeigdjfdaaGreatDoor
