import Derived.Test.YtpbnpmeigdjfdaaGreatDoorXBbl
import Derived.Test.YtpbnpmeigdjfdaaGreatDoorXBbn
import Derived.Test.YtpbnpmeigdjfdaaGreatDoorTie
import Derived.Test.YtpbnpmeigdjfdaaGreatDoorCards
import Derived.Test.YtpbnpmeigdjfdaaGreatDoorBfw
import Derived.Test.YtpbnpmeigdjfdaaGreatDoorKoq
import Derived.Test.YtpbnpmeigdjfdaaGreatDoorXBbb
import Derived.ChangeOld
import Derived.SevenTiedAt
namespace Go.Proofs.YtpbnpmeigdjfdaaGreatDoor
open Go.RowKit Go.Sort
set_option linter.unusedSimpArgs false
set_option linter.unusedVariables false
set_option maxHeartbeats 16000000
set_option maxRecDepth 100000
theorem wst_yes {own lim : Nat} {rs : List (Nat × Nat)} (h : (wst own rs lim).2 = true) : (wst own rs lim).1 ≤ lim ∧ needN own rs (wst own rs lim).1 = (wst own rs lim).1 ∧ own ≤ (wst own rs lim).1 ∧ ∀ q, q < (wst own rs lim).1 → needN own rs q ≠ q := by
 unfold wst at h ⊢
 cases hf : (List.range (lim + 1)).find? (fun r => needN own rs r == r) with
 | none => rw [hf] at h; cases h
 | some r =>
  dsimp only
  have h1 := List.find?_some hf
  have h2 := List.mem_range.1 (List.mem_of_find?_eq_some hf)
  have h3 : needN own rs r = r := by simpa using h1
  refine ⟨by omega, h3, by unfold needN at h3; omega, fun q hq he => ?_⟩
  obtain ⟨_, la, lb, hab, hn⟩ := List.find?_eq_some_iff_append.1 hf
  have hq2 : q ∈ la := by
   have hlen : la.length = r := by
    have h5 : (List.range (lim + 1))[la.length]? = some r := by rw [hab]; simp
    have h6 : la.length < lim + 1 := by
     have := congrArg List.length hab
     simp at this
     omega
    rw [List.getElem?_range h6] at h5
    exact Option.some.inj h5
   have h7 : (List.range (lim + 1))[q]? = some q := List.getElem?_range (by omega)
   rw [hab, List.getElem?_append_left (by omega)] at h7
   exact List.mem_of_getElem? h7
  have := hn q hq2
  simp [he] at this
theorem wst_no {own lim : Nat} {rs : List (Nat × Nat)} (h : (wst own rs lim).2 = false) : (wst own rs lim).1 = 0 ∧ ∀ q, q ≤ lim → needN own rs q ≠ q := by
 unfold wst at h ⊢
 cases hf : (List.range (lim + 1)).find? (fun r => needN own rs r == r) with
 | some r => rw [hf] at h; cases h
 | none =>
  refine ⟨rfl, fun q hq he => ?_⟩
  have := find_range.1 hf q (by omega)
  simp [he] at this
theorem rec_may {c : Cf} {f : Fg} {t : Int} {lim : Nat} (h : recZ c f t lim = 0) : lim ≤ 1000000 ∧ Fits c f ∧ ∃ n : Nat, t = n ∧ n < c.tasks.length ∧ recR c f t lim = rplF c f n lim := by
 have h9 := h
 unfold recZ at h
 by_cases h0 : atZ c f t = 0
 ·rw [if_pos h0] at h
  by_cases h1 : 1000000 < lim
  ·rw [if_pos h1] at h; cases h
  ·obtain ⟨h2, n, rfl, h3⟩ := at_may h0
   refine ⟨by omega, fits_of h2, n, rfl, h3, ?_⟩
   unfold recR
   rw [if_pos h9, Int.toNat_natCast]
 ·rw [if_neg h0] at h
  exact absurd h h0
theorem cap_eq {own lim q : Nat} {rs : List (Nat × Nat)} (hq : q ≤ lim) : min (needN own rs q) (lim + 1) = q ↔ needN own rs q = q := by omega
theorem least_any (w : World) (c : Cf) (v : Vs) (h : CfAt w c v) (hl : LensOK c) (hE : EnvE w) (f : Fg) (vf : Vf) (hf : FgAt w f vf) (t : Int) (lim other : Nat) :
  Calls Tryz.prog 4 #[.agg (cfC c v), .agg (fgC vf), I t, U lim, U other] w fun e w' => Ans w true e w' := by
 have hi18 := cf_hi c v
 have hi5 := fg_hi vf
 have hb2 : Below w.heap.size w ((w.alloc (.cells (cfC c v) 33)).alloc (.cells (fgC vf) 37)) := ((Below.refl w.heap.size w).alloc (Nat.le_refl _) _).alloc (by simp) _
 have hV0 := heap_two0 w (.cells (cfC c v) 33) (.cells (fgC vf) 37)
 have hV1 := heap_two w (.cells (cfC c v) 33) (.cells (fgC vf) 37)
 have k1 := breckon_any _ c v (h.below hb2) hl (hE.below hb2) f vf (hf.below hb2) t lim
 have KH : Hid (∀ W, Below w.heap.size w W → Calls Tryz.prog 9 #[] W fun e w' => Ans W true e w') := fun W hW => heads27_any W (hE.below hW)
 have HCf : Hid (CfAt w c v) := h
 have HFg : Hid (FgAt w f vf) := hf
 have hcx : ∀ W : World, W.heap[w.heap.size + 1]? = some (.cells (fgC vf) 37 (0, 0)) → W.cell? ⟨w.heap.size + 1, 0, none⟩ = some (.slice vf.w.a vf.w.n vf.w.c) := fun W hW => cell_at3 hW 0
 have HX : Hid (∀ W, Below ((w.alloc (.cells (cfC c v) 33)).alloc (.cells (fgC vf) 37)).heap.size ((w.alloc (.cells (cfC c v) 33)).alloc (.cells (fgC vf) 37)) W → W.heap[w.heap.size]? = some (.cells (cfC c v) 33 (0, 0)) ∧ W.heap[w.heap.size + 1]? = some (.cells (fgC vf) 37 (0, 0)) ∧ W.cell? ⟨w.heap.size + 1, 0, none⟩ = some (.slice vf.w.a vf.w.n vf.w.c) ∧ Below w.heap.size w W) := fun W hW => by
  have q1 := (hW.block _ (heap_lt hV1)).trans hV1
  exact ⟨(hW.block _ (heap_lt hV0)).trans hV0, q1, hcx W q1, hb2.trans (hW.mono hb2.size)⟩
 have HM : Hid (recZ c f t lim = 0 → lim ≤ 1000000 ∧ Fits c f ∧ ∃ n : Nat, t = n ∧ n < c.tasks.length ∧ recR c f t lim = rplF c f n lim) := rec_may
 have KS : Hid (Fits c f → lim ≤ 1000000 → ∀ W, Below w.heap.size w W → ∀ n, n < c.tasks.length → ∀ b r, b ≤ 2147483647 → r ≤ lim → Calls Tryz.prog 10 #[.agg (cfC c v), .agg (fgC vf), I n, U b, U r, U lim] W fun e w' => e = .returned (U (min (needN (natAt f.w n + b) (rvL c f n) r) (lim + 1))) ∧ Below W.heap.size W w') := fun hF hll W hW n hn b r hb hr => Sum27_any W c v (HCf.out.below hW) f vf (HFg.out.below hW) hF n hn b r lim hb hr hll
 obtain ⟨rp, hrp⟩ : ∃ rp, rp = recR c f t lim := ⟨_, rfl⟩
 obtain ⟨rz, hrz⟩ : ∃ rz, rz = recZ c f t lim := ⟨_, rfl⟩
 rw [← hrp, ← hrz] at k1
 rw [← hrp, ← hrz] at HM
 obtain ⟨rb, rr, rm⟩ := rp
 unfold rpC at k1
 dsimp only at k1
 generalize cfC c v = C at *
 generalize fgC vf = F at *
 clear h hf hl hE hcx hrp hrz
 go_enter Tryz.func4, Tryz.ntmps4
 go_upto_region 1 with fail
 generalize (w.alloc (.cells C 33)).alloc (.cells F 37) = W2 at *
 go_upto_region 2 with (first | (refine wpList_load_row rfl 33 _ rfl w.heap.size rfl 33 _ (0, 0) _ hV0 Tryz.underlying33 rfl hi18 ?_) | (refine wpList_load_row rfl 37 _ rfl (w.heap.size + 1) rfl 37 _ (0, 0) _ hV1 Tryz.underlying37 rfl hi5 ?_) | (go_at_call 8; refine k1.mono ?_; clear k1; rintro e w1 ⟨rfl, hb1⟩))
 refine wp_worldB (w1.alloc (.cells #[U rb, U rr, .bool rm] 40)) ?_
 have hal := below_alloc w1 (.cells #[U rb, U rr, .bool rm] 40)
 have hA := heap_alloc_new w1 (.cells #[U rb, U rr, .bool rm] 40)
 have HB4 : Hid (Below W2.heap.size W2 (w1.alloc (.cells #[U rb, U rr, .bool rm] 40))) := hb1.trans (hal.mono hb1.size)
 clear hal hb1 hb2 hV0 hV1
 generalize w1.alloc (.cells #[U rb, U rr, .bool rm] 40) = w4 at *
 generalize w1.heap.size = T at *
 by_cases h0 : rz = 0
 ·have h0' : (rz != 0) = false := by simp [h0]
  obtain ⟨hll, hF, n, rfl, hn, hrp⟩ := HM.out h0
  have hle := blk_le hF n
  obtain ⟨wk, hwk⟩ : ∃ wk, f.w[n]? = some wk := ⟨_, List.getElem?_eq_getElem (by rw [(tim_len hF.t).1]; exact hn)⟩
  have hwx := (tim_ok hF.t).1 _ (List.mem_of_getElem? hwk)
  have hrb : rb = blk c f n := congrArg Rp.b hrp
  have hrr : rr = (wst (natAt f.w n + blk c f n) (rvL c f n) lim).1 := congrArg Rp.r hrp
  have hrm : rm = (wst (natAt f.w n + blk c f n) (rvL c f n) lim).2 := congrArg Rp.m hrp
  have HNW : Hid (vf.w.n = f.w.length) := HFg.out.k.n
  have hnw : (n : Int) < vf.w.n := by have := HNW.out; have := (tim_len hF.t).1; omega
  have KS2 : Hid (∀ W, Below w.heap.size w W → ∀ r, r ≤ lim → Calls Tryz.prog 10 #[.agg C, .agg F, I n, U rb, U r, U lim] W fun e w' => e = .returned (U (min (needN (wk + rb) (rvL c f n) r) (lim + 1))) ∧ Below W.heap.size W w') := fun W hW r hr => by
   have := KS.out hF hll W hW n hn rb r (by omega) hr
   rw [natAt_at hwk] at this
   exact this
  rw [natAt_at hwk, ← hrb] at hrr hrm
  obtain ⟨g2, o2, e2, hg2, d2⟩ := nat_at HFg.out.k hwk
  have hmc := HFg.out.k.c
  have hmm := HFg.out.k.m
  unfold maxLen at hmm
  have HD : Hid (∀ W, Below w.heap.size w W → W.cell? ⟨g2, o2 + n, none⟩ = some (U wk)) := fun W hW => (cell_below hW _ _ hg2).trans d2
  have HXX : Hid (∀ W, Below w4.heap.size w4 W → W.heap[w.heap.size]? = some (.cells C 33 (0, 0)) ∧ W.heap[w.heap.size + 1]? = some (.cells F 37 (0, 0)) ∧ W.cell? ⟨w.heap.size + 1, 0, none⟩ = some (.slice (some ⟨g2, o2, none⟩) vf.w.n vf.w.c) ∧ W.cell? ⟨g2, o2 + n, none⟩ = some (U wk) ∧ W.cell? ⟨T, 0, none⟩ = some (U rb) ∧ W.cell? ⟨T, 1, none⟩ = some (U rr) ∧ W.cell? ⟨T, 2, none⟩ = some (.bool rm) ∧ Below w.heap.size w W) := fun W hW => by
   obtain ⟨q0, q1, q2, q3⟩ := HX.out W (HB4.out.trans (hW.mono HB4.out.size))
   have qA := (hW.block _ (heap_lt hA)).trans hA
   rw [e2] at q2
   exact ⟨q0, q1, q2, HD.out _ q3, cell_at3 qA 0, cell_at3 qA 1, cell_at3 qA 2, q3⟩
  have hyes : Hid (rm = true → rr ≤ lim ∧ needN (wk + rb) (rvL c f n) rr = rr ∧ wk + rb ≤ rr ∧ ∀ q, q < rr → needN (wk + rb) (rvL c f n) q ≠ q) := fun e => by rw [hrr]; exact wst_yes (by rw [← hrm]; exact e)
  have hno : Hid (rm = false → rr = 0 ∧ ∀ q, q ≤ lim → needN (wk + rb) (rvL c f n) q ≠ q) := fun e => by rw [hrr]; exact wst_no (by rw [← hrm]; exact e)
  have KHW : Hid (∀ W, Below w.heap.size w W → Calls Tryz.prog 9 #[] W fun e w' => Ans W true e w') := KH.out
  generalize rvL c f n = rs at *
  have hrb2 : rb ≤ 2147483647 := by rw [hrb]; exact hle
  obtain ⟨q0, q1, y0, dw, a0, a1, a2, hbw⟩ := HXX.out w4 (Below.refl _ _)
  obtain ⟨q, hq⟩ : ∃ q, q = other % (lim + 1) := ⟨_, rfl⟩
  have hqi : (other : Int) % ((lim : Int) + 1) = (q : Int) := by rw [hq]; simp
  have hql : q ≤ lim := by have := Nat.mod_lt other (show 0 < lim + 1 by omega); omega
  clear h0 HM KS hF hwk hrp hrb HD HX HCf HFg e2 hg2 d2 HNW hn hrr hrm hle hA hq KH
  have hwr : IntKind.u64.wrap ((wk : Int) + (rb : Int)) = (wk : Int) + (rb : Int) := by rw [IntKind.wrap_u64]; omega
  have hwl : IntKind.u64.wrap ((lim : Int) + 1) = (lim : Int) + 1 := by rw [IntKind.wrap_u64]; omega
  cases rm with
  | true =>
   obtain ⟨r1, r2, r3, r4⟩ := hyes.out rfl
   have HR4 : Hid (∀ q, q < rr → needN (wk + rb) rs q ≠ q) := r4
   have HR2 : Hid (min (needN (wk + rb) rs rr) (lim + 1) = rr) := cap_eq r1 |>.2 r2
   clear hyes hno r4 r2
   go_upto_region 7 with fail
   have g0 := heap_regrown q0
   have g1 := heap_regrown q1
   have ry := cell_regrown y0
   have rd := cell_regrown dw
   have ra0 := cell_regrown a0
   have ra1 := cell_regrown a1
   have dd1 : decide (lim < rr) = false := decide_eq_false (by omega)
   have dd2 : decide (rr < wk + rb) = false := decide_eq_false (by omega)
   have dd3 : decide ((rr : Int) < (wk : Int) + (rb : Int)) = false := decide_eq_false (by omega)
   have cS : ∀ d os, Calls Tryz.prog 10 #[.agg C, .agg F, I n, U rb, U rr, U lim] (grow (redrawn w4 d) os) fun e w'' => e = .returned (U rr) ∧ ∃ p : Regrown, w'' = grow (redrawn w4 p.d) p.os := fun d os => Calls.regrown_of (by have := KS2.out _ (hbw.trans ((below_regrown w4 d os).mono hbw.size)) rr r1; rw [HR2.out] at this; exact this)
   refine wp_region_quiet_below (by kernel_rfl) (by kernel_rfl) ?_
   repeat (first | (go_big_quiet_step (first | exact cS _ _)) | (refine wpQuiet_load_row (by kernel_rfl) 33 _ rfl w.heap.size rfl 33 _ (0, 0) _ g0 Tryz.underlying33 rfl hi18 ?_; simp only [Act.put, q7a, q7b, q7c, q7d, q7e, q7f]) | (refine wpQuiet_load_row (by kernel_rfl) 37 _ rfl (w.heap.size + 1) rfl 37 _ (0, 0) _ g1 Tryz.underlying37 rfl hi5 ?_; simp only [Act.put, q7a, q7b, q7c, q7d, q7e, q7f]))
   refine wpQuiet_nil ?_
   rintro _ ⟨⟨dq, osq⟩, rfl⟩
   dsimp only
   have hbg := below_regrown w4 dq osq
   obtain ⟨q0, q1, y0, dw, a0, a1, a2, hbw⟩ := HXX.out _ hbg
   clear g0 g1 ry rd ra0 ra1 cS hbg HR2
   generalize grow (redrawn w4 dq) osq = w5 at *
   have k5 := KS2.out _ hbw q hql
   have k9 := KHW.out _ hbw
   have HBS : Hid (∀ W, Below w5.heap.size w5 W → Below w.heap.size w W) := fun W hW => hbw.trans (hW.mono hbw.size)
   by_cases c1 : q < rr
   ·have c1b : decide (q < rr) = true := decide_eq_true c1
    by_cases c2 : 0 < q
    ·have c2b : decide (0 < q) = true := decide_eq_true c2
     have hS : ((min (needN (wk + rb) rs q) (lim + 1) : Nat) : Int) ≠ (q : Int) := fun e => HR4.out q c1 ((cap_eq hql).1 (by omega))
     obtain ⟨S1, hS1⟩ : ∃ S1, S1 = min (needN (wk + rb) rs q) (lim + 1) := ⟨_, rfl⟩
     rw [← hS1] at hS k5
     have hSb : ((S1 : Int) == (q : Int)) = false := by simpa using hS
     have hSn : (S1 == q) = false := by simp; omega
     clear hS1 HXX KS2 k9
     go_upto_region 12 with fail
     rw [hqi]
     go_wp2_with (first | (refine Ce.wpList_load_row_g 33 _ rfl w.heap.size rfl 33 _ (0, 0) _ q0 Tryz.underlying33 rfl hi18 (by kernel_rfl) ?_; simp only [Act.put, q7a, q7b, q7c, q7d, q7e, q7f]) | (refine Ce.wpList_load_row_g 37 _ rfl (w.heap.size + 1) rfl 37 _ (0, 0) _ q1 Tryz.underlying37 rfl hi5 (by kernel_rfl) ?_; simp only [Act.put, q7a, q7b, q7c, q7d, q7e, q7f]) | (go_at_call 10; refine k5.mono ?_; clear k5; rintro e w6 ⟨rfl, hb6⟩; have hbw9 := HBS.out _ hb6; have k9 := KHW.out _ hbw9) | (go_at_call 9; refine k9.mono ?_; clear k9; rintro e w9 ⟨rfl, hb9⟩))
     go_ret
     exact ⟨rfl, hbw9.trans (hb9.mono hbw9.size)⟩
    ·obtain rfl : q = 0 := by omega
     have c2b : decide (0 < 0) = false := rfl
     clear c2
     have hbw9 := hbw
     clear HXX KS2 KHW k5
     go_upto_region 12 with fail
     rw [hqi]
     go_wp2_with (go_at_call 9; refine k9.mono ?_; clear k9; rintro e w9 ⟨rfl, hb9⟩)
     go_ret
     exact ⟨rfl, hbw9.trans (hb9.mono hbw9.size)⟩
   ·have c1b : decide (q < rr) = false := decide_eq_false c1
    have hbw9 := hbw
    clear HXX KS2 KHW k5
    go_upto_region 12 with fail
    rw [hqi]
    go_wp2_with (go_at_call 9; refine k9.mono ?_; clear k9; rintro e w9 ⟨rfl, hb9⟩)
    go_ret
    exact ⟨rfl, hbw9.trans (hb9.mono hbw9.size)⟩
  | false =>
   obtain ⟨rfl, HR4⟩ := hno.out rfl
   have HR5 : Hid (∀ q, q ≤ lim → needN (wk + rb) rs q ≠ q) := HR4
   clear hyes hno HR4
   have k5 := KS2.out _ hbw q hql
   have k9 := KHW.out _ hbw
   have HBS : Hid (∀ W, Below w4.heap.size w4 W → Below w.heap.size w W) := fun W hW => hbw.trans (hW.mono hbw.size)
   by_cases c2 : 0 < q
   ·have c2b : decide (0 < q) = true := decide_eq_true c2
    have hS : ((min (needN (wk + rb) rs q) (lim + 1) : Nat) : Int) ≠ (q : Int) := fun e => HR5.out q hql ((cap_eq hql).1 (by omega))
    obtain ⟨S1, hS1⟩ : ∃ S1, S1 = min (needN (wk + rb) rs q) (lim + 1) := ⟨_, rfl⟩
    rw [← hS1] at hS k5
    have hSb : ((S1 : Int) == (q : Int)) = false := by simpa using hS
    have hSn : (S1 == q) = false := by simp; omega
    clear hS1 HXX KS2 k9
    go_upto_region 12 with fail
    rw [hqi]
    go_wp2_with (first | (refine Ce.wpList_load_row_g 33 _ rfl w.heap.size rfl 33 _ (0, 0) _ q0 Tryz.underlying33 rfl hi18 (by kernel_rfl) ?_; simp only [Act.put, q7a, q7b, q7c, q7d, q7e, q7f]) | (refine Ce.wpList_load_row_g 37 _ rfl (w.heap.size + 1) rfl 37 _ (0, 0) _ q1 Tryz.underlying37 rfl hi5 (by kernel_rfl) ?_; simp only [Act.put, q7a, q7b, q7c, q7d, q7e, q7f]) | (go_at_call 10; refine k5.mono ?_; clear k5; rintro e w6 ⟨rfl, hb6⟩; have hbw9 := HBS.out _ hb6; have k9 := KHW.out _ hbw9) | (go_at_call 9; refine k9.mono ?_; clear k9; rintro e w9 ⟨rfl, hb9⟩))
    go_ret
    exact ⟨rfl, hbw9.trans (hb9.mono hbw9.size)⟩
   ·obtain rfl : q = 0 := by omega
    have c2b : decide (0 < 0) = false := rfl
    clear c2
    have hbw9 := hbw
    clear HXX KS2 KHW k5
    go_upto_region 12 with fail
    rw [hqi]
    go_wp2_with (go_at_call 9; refine k9.mono ?_; clear k9; rintro e w9 ⟨rfl, hb9⟩)
    go_ret
    exact ⟨rfl, hbw9.trans (hb9.mono hbw9.size)⟩
 ·have h0' : (rz != 0) = true := by simpa using h0
  have hbw := (HX.out _ HB4.out).2.2.2
  have k2 := KH.out _ hbw
  clear h0 HM KS HX HCf HFg hA HB4 KH
  go_wp2_with (go_at_call 9; refine k2.mono ?_; clear k2; rintro e w5 ⟨rfl, hb5⟩)
  go_ret
  exact ⟨rfl, hbw.trans (hb5.mono hbw.size)⟩
end Go.Proofs.YtpbnpmeigdjfdaaGreatDoor
namespace Go.Proofs.YtpbnpmeigdjfdaaGreatDoor
open Go.ChangeShapes Go.RowKit Go.WideShapes
set_option linter.unusedSimpArgs false
set_option linter.unusedVariables false
set_option maxHeartbeats 16000000
set_option maxRecDepth 100000
theorem laidOutBrl : laidOutB Tryz.prog = true := by kernel_rfl
def zeroVBrl : Value := .agg #[.string ⟨#[]⟩, .string ⟨#[]⟩, .bool false, .bool false, .bool false, .bool false, .bool false, .bool false, .bool false, .bool false, .slice none 0 0, .slice none 0 0, .slice none 0 0, .slice none 0 0, .slice none 0 0, .slice none 0 0, .slice none 0 0, .slice none 0 0]
def zeroFBrl : Value := .agg #[.slice none 0 0, .slice none 0 0, .slice none 0 0, .slice none 0 0, .slice none 0 0]
theorem boundLeast_lifted (os : Os) (started : os.Started) (H : Type) (enc : TypeId × Value → H) :
  ReturnsInHanded {} Tryz.checked os 4 .any (fun w args => (Rows.boundLeastSpec.pre enc Tryz.prog Tryz.f4 [] false w args ∧ laidMetH Tryz.prog laidT w) ∧ sizedMet enc Tryz.prog Tryz.f4 (OpenSpec.ofChange Rows.boundLeastSpec) false w args)
   (Rows.boundLeastSpec.post enc Tryz.prog Tryz.f4 false true false false) := by
 refine lift_laid (C := Tryz.checked) (X := fun w => laidMetH Tryz.prog laidT w) (fun _ _ hh h => h.of_heap hh) own started (by kernel_rfl) Tryz.func4
  (ChangeSpec.witness_shaped (enc := enc) (C := Tryz.checked) (os := os) (X := fun w _ => laidMetH Tryz.prog laidT w) false (witW os) #[zeroVBrl, zeroFBrl, .int .i64 0, .int .u64 0, .int .u64 0] 8 (witW_os os) (wit_shaped os _) (by kernel_rfl) (by kernel_rfl) (by kernel_rfl) (wit_met os _)) ?_
 intro W base args ds gs before hval0 hW hsz0 hL hSh
 have hval : ∀ (j : Nat) t v, Tryz.f4.params[j]? = some t → args[j]? = some v → Value.okWide Tryz.prog W .any base t v := hval0
 have hW' := hW
 obtain ⟨p, q, hA0, hV, rfl, hfz, hnd⟩ := hW
 have hA : DataW.TrodAll enc Tryz.prog W 0 (fun _ => true) true Tryz.f4.params.toList args.toList ds p := hA0
 have hsz : (DataW.weightsEach Tryz.prog (Tryz.f4.params.toList ++ Rows.boundLeastSpec.plain.varTypes Tryz.prog) (ds ++ gs)).all (· ≤ reachBytes) = true := hsz0
 rw [Tryz.params4] at hA hval hsz
 obtain ⟨v0, vs0, d0, ds0, p0, q0, hargs, rfl, rfl, h0, r0⟩ := trodAll_cons hA
 obtain ⟨v1, vs1, d1, ds1, p1, q1, rfl, rfl, rfl, h1, r1⟩ := trodAll_cons r0
 obtain ⟨v2, vs2, d2, ds2, p2, q2, rfl, rfl, rfl, h2, r2⟩ := trodAll_cons r1
 obtain ⟨v3, vs3, d3, ds3, p3, q3, rfl, rfl, rfl, h3, r3⟩ := trodAll_cons r2
 obtain ⟨v4, vs4, d4, ds4, p4, q4, rfl, rfl, rfl, h4, r4⟩ := trodAll_cons r3
 obtain ⟨rfl, rfl, rfl⟩ := trodAll_nil r4
 obtain rfl : args = #[v0, v1, v2, v3, v4] := by cases args; simp_all
 obtain ⟨rfl, rfl⟩ := trodVars_none hV
 have k0 := h0
 have lt0 : ∀ x ∈ p0, x.block < W.heap.size := by obtain ⟨m, hm⟩ := k0; exact DataW.trod_lt m _ _ _ hm
 have z0 : Sized (d0.weights Tryz.prog 33) := fun n hn => sized_of_all hsz n (DataW.weights_mem_each (j := 0) rfl rfl n hn)
 obtain ⟨c, vv, rfl, hC, hLn, hMk⟩ := config_open (hval 0 33 v0 rfl rfl) h0 z0
 have k1 := h1
 have lt1 : ∀ x ∈ p1, x.block < W.heap.size := by obtain ⟨m, hm⟩ := k1; exact DataW.trod_lt m _ _ _ hm
 obtain ⟨f, vf, rfl, hF⟩ := figures_open (hval 1 37 v1 rfl rfl) h1
 obtain ⟨a2, rfl, rfl, rfl, wf2⟩ := open_int Tryz.underlying3 (hval 2 3 v2 rfl rfl) h2
 obtain ⟨z3, rfl, rfl, rfl, wf3⟩ := open_int Tryz.underlying38 (hval 3 38 v3 rfl rfl) h3
 obtain ⟨a3, rfl⟩ := Int.eq_ofNat_of_zero_le (bounds_u64 wf3).1
 obtain ⟨z4, rfl, rfl, rfl, wf4⟩ := open_int Tryz.underlying38 (hval 4 38 v4 rfl rfl) h4
 obtain ⟨a4, rfl⟩ := Int.eq_ofNat_of_zero_le (bounds_u64 wf4).1
 clear hA0 hval0
 refine (least_any W c vv hC hLn (et_of hL) f vf hF a2 a3 a4).mono fun e W' ⟨he, bel⟩ => ?_
 subst he
 exact ⟨_, rfl, _, _, _, [], _, [], hW', trodAll_mk1 (shut_bool Tryz.underlying4 _), (trodAll_cons_mk (Below.trod laidOutBrl (by kernel_rfl) (of_decide_eq_true (by kernel_rfl)) k0 bel lt0) (trodAll_cons_mk (Below.trod laidOutBrl (by kernel_rfl) (of_decide_eq_true (by kernel_rfl)) k1 bel lt1) (trodAll_cons_mk (shut_int Tryz.underlying3 wf2) (trodAll_cons_mk (shut_int Tryz.underlying38 wf3) (trodAll_cons_mk (shut_int Tryz.underlying38 wf4) trodAll_mk0))))), rfl, bel.frame _, fun h => by cases h⟩
theorem boundLeast_over : Rows.BoundLeastSaid :=
 OpenClaim.holds_of_wide 4 Tryz.f4 rfl rfl rfl rfl rfl rfl rfl ⟨rfl, rfl, rfl, rfl, rfl⟩ rfl rfl rfl rfl rfl (by kernel_rfl) Tryz.func4 (by kernel_rfl)
  (of_decide_eq_true (by kernel_rfl)) (by unfold Func.isWrapper; first | (rw [if_pos (by decide +kernel)]; kernel_rfl) | (rw [if_neg (by decide +kernel)]; exact ⟨rfl, rfl⟩))
  (fun os started H enc _ => boundLeast_lifted os started H enc)
theorem boundLeast_holds : Rows.BoundLeastCardSaid :=
 Claim7.holds_tied_plain_at .later [] [.handle] true _ true
  boundLeast_over (fun _ h => by cases h) (by kernel_rfl) (fun _ h => by cases h) boundLeast_row_tie rfl ⟨rfl, rfl⟩ (by kernel_rfl) rfl
  (fun f fn hf hfn => by
   obtain rfl : f = 4 := Option.some.inj ((show Tryz.prog.funcNamed "tappet/tappetlaw27.BoundLeast" = some 4 by kernel_rfl).symm.trans hf) |>.symm
   obtain rfl : fn = Tryz.f4 := (Option.some.inj (Tryz.func4.symm.trans hfn)).symm
   exact ⟨by kernel_rfl, fun j t ht => by
    rw [Tryz.params4] at ht
    have hm : t ∈ [33, 37, 3, 38, 38] := by simpa using Array.mem_of_getElem? ht
    have hall : ([33, 37, 3, 38, 38].all fun u => !Tryz.prog.wantsStandIn u) = true := by kernel_rfl
    exact (show Tryz.prog.wantsStandIn t = false by simpa using List.all_eq_true.1 hall t hm)⟩)
  (by kernel_rfl)
end Go.Proofs.YtpbnpmeigdjfdaaGreatDoor
