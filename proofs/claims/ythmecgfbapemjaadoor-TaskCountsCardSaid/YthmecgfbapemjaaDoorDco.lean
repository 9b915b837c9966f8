import Derived.Test.YthmecgfbapemjaaDoorDk
import Derived.Test.YthmecgfbapemjaaDoorDn
import Derived.Test.YthmecgfbapemjaaDoorDop
import Derived.Deep.CutBlock
import Derived.Deep.CutRange
namespace Go.Proofs.YthmecgfbapemjaaDoor
open Go.RowKit Go.Shelf Go.Sort
set_option linter.unusedVariables false
set_option linter.unusedSimpArgs false

/-! ### TaskCounts -/
section
variable {rs : List Rw} {ss : List Sd}
theorem nL_keep {k : Nat} {x : Sd} (hx : ss[k]? = some x) (y : Nat) : nL (ss.set k (y, x.2)) = nL ss := by rw [nL_set, set_self (nL_at hx)]
theorem nL_sta (hn : ss.length = rs.length) (t : Int) : nL (staL rs ss t) = nL ss := by
  unfold staL
  split
  · rename_i hs
    rcases has_cases hn t with ⟨h0, _⟩ | ⟨k, r, x, rfl, hk, hr, hx⟩
    · rw [staE, if_neg (by rw [h0]; decide)] at hs; cases hs
    · rw [sdA_at hx, Int.toNat_natCast, nL_keep hx]
  · rfl
theorem nL_rel (hn : ss.length = rs.length) (t : Int) : nL (relL rs ss t) = nL ss := by
  unfold relL
  split
  · rename_i hs
    rcases has_cases hn t with ⟨h0, _⟩ | ⟨k, r, x, rfl, hk, hr, hx⟩
    · rw [relE, if_neg (by rw [h0]; decide)] at hs; cases hs
    · rw [sdA_at hx, Int.toNat_natCast, nL_keep hx]
  · rfl
theorem nL_lea (q : Nat) : nL (leaL rs ss q) = nL ss := by
  unfold leaL
  split
  · rename_i hs
    rcases run_cases ss with ⟨e, _⟩ | ⟨k, n, e, hx⟩
    · rw [leaE, if_pos e] at hs; cases hs
    · rw [e, sdA_at hx, Int.toNat_natCast, nL_keep hx]
  · rfl
theorem one_runs (h : OKs rs ss) : (thF 0 0 ss).length ≤ 1 := by
  have key : ∀ (l : List Sd) (i : Nat), (∀ (a b : Nat) (x y : Sd), l[a]? = some x → l[b]? = some y → x.1 = 0 → y.1 = 0 → a = b) → (thF 0 i l).length ≤ 1 := by
    intro l
    induction l with
    | nil => intro i _; simp [thF]
    | cons x r ih =>
      intro i hu
      have hr : ∀ (a b : Nat) (p q : Sd), r[a]? = some p → r[b]? = some q → p.1 = 0 → q.1 = 0 → a = b := fun a b p q ha hb h1 h2 => by
        have := hu (a + 1) (b + 1) p q (by simpa using ha) (by simpa using hb) h1 h2
        omega
      by_cases hx : x.1 = 0
      · have hn : ∀ (l2 : List Sd) (j : Nat), (∀ (a : Nat) (p : Sd), l2[a]? = some p → p.1 ≠ 0) → thF 0 j l2 = [] := by
          intro l2
          induction l2 with
          | nil => intro j _; rfl
          | cons y r2 ih2 =>
            intro j h2
            have hy := h2 0 y (by simp)
            rw [thF, if_neg (by omega), List.nil_append]
            exact ih2 (j + 1) (fun a p ha => h2 (a + 1) p (by simpa using ha))
        rw [thF, hn r (i + 1) (fun a p ha h0 => by have := hu 0 (a + 1) x p (by simp) (by simpa using ha) hx h0; omega)]
        split <;> simp
      · rw [thF, if_neg (by omega), List.nil_append]
        exact ih (i + 1) hr
  exact key ss 0 h.o
end
structure Cn (W w : World) (B : Nat) (v u : Value) (g : Nat) (rs : List Rw) (ss sn : List Sd) : Prop where
  t : Tb W w B v u rs ss
  n : w.ownsRow W.heap.size 3 1 (.slice (some ⟨g, 0, none⟩) rs.length rs.length) rs.length (nL sn)
  o : ¬ Cb B v u g
section
variable {W w w' : World} {B g : Nat} {v u : Value} {rs : List Rw} {ss sn s2 : List Sd}
theorem Cn.below (h : Cn W w B v u g rs ss sn) (hb : Below w.heap.size w w') : Cn W w' B v u g rs ss sn := ⟨h.t.below hb, own_below h.n hb, h.o⟩
theorem Cn.step (h : Cn W w B v u g rs ss sn) (k : Tb W w' B v u rs s2) (f : Fz (Cb B v u) w w') : Cn W w' B v u g rs s2 sn :=
  ⟨k, f.own h.n (fun b e e2 => by cases e; exact h.o e2), h.o⟩
theorem Cn.like (h : Cn W w B v u g rs ss sn) (e : nL sn = nL s2) : Cn W w B v u g rs ss s2 := ⟨h.t, by rw [← e]; exact h.n, h.o⟩
theorem Cn.at (h : Cn W w B v u g rs ss sn) {k : Nat} {x : Sd} (hx : sn[k]? = some x) (hl : sn.length = rs.length) : w.cell? ⟨g, k, none⟩ = some (I x.2) ∧ ∀ j, w.frozen? ⟨g, j, none⟩ = false := by
  have hk : k < sn.length := (List.getElem?_eq_some_iff.1 hx).1
  exact ⟨by rw [h.n.cellAt _ (by omega)]; exact nL_at hx, h.n.frozenAt⟩
theorem Cn.put (h : Cn W w B v u g rs ss sn) (k y : Nat) (e : nL s2 = (nL sn).set k (I y)) : Cn W (w.setCell ⟨g, k, none⟩ (I y)) B v u g rs ss s2 := by
  have hf : Fz (fun b => b = g) w (w.setCell ⟨g, k, none⟩ (I y)) := (Fz.refl (fun b => b = g) w).set (.inl rfl) _ _
  have hg := (h.n.lt g rfl).1
  exact ⟨h.t.keep hf (fun b hb e => h.o (by rw [← e]; exact hb)) (fun b e => by omega), by rw [e]; exact (h.n.stored k (I y)).1, h.o⟩
end
set_option maxHeartbeats 8000000 in
set_option maxRecDepth 100000 in
theorem counts_no (W : World) (hE : EnvR W) (sr : Sl) (rs : List Rw) (hr : RowsAt W 2 rowP sr rs) (hrl : rs.length ≤ 8796093022208) (x : Value) (hm : mayN rs = false) : Calls Tryd.prog 4 #[.slice sr.a sr.n sr.c, x] W fun e w' => e = .returned (.bool true) ∧ Below W.heap.size W w' := by
  have hS := rows_src hr
  have h1 := New_no hS hm (by omega)
  have hA := fun Z (hz : Below W.heap.size W Z) => alive_any Z (hE.up hz)
  clear hE hS hm
  go_enter Tryd.func4, Tryd.ntmps4
  go_wp2_with (first
    | (go_at_call 8; refine h1.mono ?_; clear h1; rintro e w1 ⟨rfl, b1⟩; have h2 := hA w1 b1; have H1 : Hid (Below W.heap.size W w1) := b1; clear b1)
    | (go_at_call 9; refine (num_any _ _).mono ?_; rintro e w0 ⟨rfl, rfl⟩)
    | (go_at_call 10; refine h2.mono ?_; rintro e w7 ⟨rfl, b7⟩))
  go_ret
  exact ⟨rfl, H1.out.trans (b7.mono H1.out.size)⟩
set_option maxHeartbeats 16000000 in
set_option maxRecDepth 100000 in
theorem counts_ok (W : World) (hE : EnvR W) (sr : Sl) (rs : List Rw) (hr : RowsAt W 2 rowP sr rs) (hrl : rs.length ≤ 8796093022208) (ss : Sl) (l : List Cl) (hl : RowsAt W 2 actP ss l) (hll : l.length ≤ 8796093022208) (hm : mayN rs = true) : Calls Tryd.prog 4 #[.slice sr.a sr.n sr.c, .slice ss.a ss.n ss.c] W fun e w' => e = .returned (.bool true) ∧ Below W.heap.size W w' := by
  obtain ⟨ii, hii, hi0, hi1, hi2⟩ := info_parts iinfo
  have hS := rows_src hr
  obtain ⟨ar, nr, cr⟩ := sr
  have hnr := hr.n
  simp only at hnr
  subst hnr
  obtain ⟨a1, n1, c1⟩ := ss
  have hn1 := hl.n
  simp only at hn1
  subst hn1
  have h1 := tNew (W := W) hS (Below.refl _ _) hE hm
  dsimp only at h1
  have HS : Hid (Src W 2 (.slice ar rs.length cr) rs.length (flR rs)) := hS
  have hm1 : rs.length ≤ 256 := by rw [mayN, Bool.and_eq_true, decide_eq_true_eq] at hm; exact hm.1
  have hA := fun Z (hz : Below W.heap.size W Z) => alive_any Z (hE.up hz)
  clear hE hS hm
  go_enter Tryd.func4, Tryd.ntmps4
  go_upto_region 6 with (first
    | (go_at_call 8; refine h1.mono ?_; clear h1; rintro e w1 ⟨B, v, u, rfl, T1, -, -⟩; have HT1 : Hid (Tb W w1 B v u rs (rstL rs.length)) := T1; clear T1)
    | (go_at_call 9; refine (num_any _ _).mono ?_; rintro e w0 ⟨rfl, rfl⟩))
  obtain ⟨w2, hmk, ho2, hg2⟩ := run_make_full (P := Tryd.prog) w1 W.heap.size 46 3 ii _ 1 Tryd.underlying46 hii hi0 hi1 .i64 .i64 rs.length (by rw [hi2]; omega) (by unfold maxLen; omega) HT1.out.b.size
  have b2 : Below w1.heap.size w1 w2 := ⟨hg2.os, hg2.tape, hg2.output, hg2.size, fun i hi => hg2.block i hi (by simp)⟩
  have hz : nL (rstL rs.length) = (madeCells (Value.int .i64 0).cells (rs.length * 1)).toList := by
    apply List.ext_getElem?
    intro j
    by_cases hj : j < rs.length
    · simp [nL, rstL, madeCells, Value.cells, hj]
      first | done | (rw [Nat.mod_one]; rfl) | rfl
    · rw [List.getElem?_eq_none (by simp [nL, rstL]; omega), List.getElem?_eq_none (by simp [madeCells]; omega)]
  have HC : Hid (Cn W w2 B v u w1.heap.size rs (rstL rs.length) (rstL rs.length)) := ⟨HT1.out.below b2, by rw [hz]; exact ho2, fun e => by have := HT1.out.c.lt e; omega⟩
  clear HT1 ho2 hg2 b2 hz
  generalize rstL rs.length = s0 at *
  generalize w1.heap.size = g at *
  go_wp2
  go_loopw [8, 9, 10, 11, 12, 13, 14, 15, 16, 17] (fun v8 _ _ _ _ _ _ _ _ _ wr => ∃ (i : Nat) (s : List Sd), i ≤ l.length ∧ v8 = I i ∧ Hid (Cn W wr B v u g rs s s)) (fun v8 _ _ _ _ _ _ _ _ _ _ => l.length - (intOf v8).toNat)
  case atStart => exact ⟨0, s0, by omega, rfl, HC.out⟩
  case round =>
    clear HC
    obtain ⟨i, s, hi, rfl, HJ⟩ := hrel
    by_cases hlt : i < l.length
    · have hltI : (i : Int) < l.length := by omega
      obtain ⟨⟨kd, tk⟩, hx⟩ : ∃ x, l[i]? = some x := ⟨_, List.getElem?_eq_getElem hlt⟩
      obtain ⟨ga, off, rfl, -, hcx⟩ := acts_cell hl hx
      obtain ⟨x0, x1⟩ := hcx wr HJ.out.t.b
      clear hcx hx
      go_upto_block 2 with fail
      have HJ0 : Hid (Cn W (wr.alloc (.cells #[I kd, I tk] 48)) B v u g rs s s) := HJ.out.below (below_alloc _ _)
      have y1 : (wr.alloc (.cells #[I kd, I tk] 48)).cell? ⟨wr.heap.size, 1, none⟩ = some (I tk) := by rw [cell_of_row _ _ _ _ _ (0, 0) (heap_alloc_new wr _)]; rfl
      have hXn : ¬ Cb B v u wr.heap.size := fun e => by have := HJ.out.t.c.lt e; omega
      have hXg : wr.heap.size ≠ g := fun e => by have := (HJ.out.n.lt g rfl).2; omega
      clear HJ x0 x1
      generalize wr.heap.size = X at *
      generalize (wr.alloc (.cells #[I kd, I tk] 48)) = wx at *
      have HJ := HJ0
      clear HJ0
      go_cut [10, 11, 12, 13, 14] from 53 to 150 (fun _ _ _ _ _ wz => ∃ s : List Sd, Hid (Cn W wz B v u g rs s s))
      case first =>
        by_cases k1 : kd = 1
        · subst k1
          have r0 := tActivate HJ.out.t tk
          have hL := HJ.out.t.k.n
          rcases has_cases hL tk with ⟨h0, hor⟩ | ⟨k, r, x, rfl, hk, hr1, hx⟩
          · have e0 : actS rs s tk = 3 := by rw [actS, h0]; rfl
            rw [actB, actL, e0, if_neg (by decide)] at r0
            generalize (decide ((3 : Int) = 0) && decide ((sdA s tk).1 = 3)) = ab at *
            clear e0 h0
            by_cases hneg : tk < 0
            · have hnd : decide (tk < 0) = true := by simpa using hneg
              as_aux_lemma =>
                go_upto_region 16 with (first
                  | (go_at_call 11; refine r0.mono ?_; clear r0; rintro e w1 ⟨rfl, k1, f1⟩; have HK : Hid (Cn W w1 B v u g rs s s) := HJ.out.step k1 f1; have z1 := cell_regrown (f1.cell y1 hXn); clear k1 f1))
                refine wp_region_quiet_below (by kernel_rfl) (by kernel_rfl) ?_
                repeat (go_big_quiet_step (first | fail))
                refine wpQuiet_nil ?_
                rintro _ ⟨⟨dq, osq⟩, rfl⟩
                dsimp only
                have HK2 : Hid (Cn W (grow (redrawn w1 dq) osq) B v u g rs s s) := HK.out.below (below_regrown w1 dq osq)
                clear z1
                generalize grow (redrawn w1 dq) osq = w7 at *
                go_wp2
                go_meet
                case rel => exact ⟨_, HK2.out⟩
            · have hnd : decide (tk < 0) = false := by simpa using hneg
              have hge : decide ((rs.length : Int) ≤ tk) = true := by simp; omega
              have hgeP : (rs.length : Int) ≤ tk := by omega
              as_aux_lemma =>
                go_upto_region 16 with (first
                  | (go_at_call 11; refine r0.mono ?_; clear r0; rintro e w1 ⟨rfl, k1, f1⟩; have HK : Hid (Cn W w1 B v u g rs s s) := HJ.out.step k1 f1; have z1 := cell_regrown (f1.cell y1 hXn); clear k1 f1))
                refine wp_region_quiet_below (by kernel_rfl) (by kernel_rfl) ?_
                repeat (go_big_quiet_step (first | fail))
                refine wpQuiet_nil ?_
                rintro _ ⟨⟨dq, osq⟩, rfl⟩
                dsimp only
                have HK2 : Hid (Cn W (grow (redrawn w1 dq) osq) B v u g rs s s) := HK.out.below (below_regrown w1 dq osq)
                clear z1
                generalize grow (redrawn w1 dq) osq = w7 at *
                go_wp2
                go_meet
                case rel => exact ⟨_, HK2.out⟩
          · have e0 : actS rs s k = if r.1 ≤ (x.2 : Int) then 4 else 0 := by rw [actS, hasB_at hk, if_pos rfl, sdA_at hx, rwA_at hr1]
            have hok := HJ.out.t.k.s k r x hr1 hx
            have h255 := (HJ.out.t.k.le hx).2
            have hkI : decide ((k : Int) < 0) = false := by simp
            have hkP : ¬ ((k : Int) < 0) := by omega
            have hkR : (k : Int) < rs.length := by omega
            have hkR2 : decide ((rs.length : Int) ≤ k) = false := by simp; omega
            have hkR3 : decide (rs.length ≤ k) = false := by simp; omega
            have HX : Hid (s[k]? = some x ∧ s.length = rs.length ∧ rs[k]? = some r) := ⟨hx, hL, hr1⟩
            by_cases hle : r.1 ≤ (x.2 : Int)
            · have heq : r.1 = (x.2 : Int) := by have := hok.2.1; omega
              rw [actB, actL, e0, if_pos hle, if_neg (by decide)] at r0
              generalize (decide ((4 : Int) = 0) && decide ((sdA s (k : Int)).1 = 3)) = ab at *
              have HQ : Hid (∀ Z, Below W.heap.size W Z → ∃ gr off2 c2, ar = some ⟨gr, off2, none⟩ ∧ Z.cell? ⟨gr, off2 + k * 2, none⟩ = some (I (x.2 : Int))) := fun Z hz => by
                obtain ⟨gr, off2, c2, e1, q1, _⟩ := (HS.out.up hz).at hr1
                cases e1
                rw [heq] at q1
                exact ⟨gr, off2, cr, rfl, q1⟩
              clear e0 hok hle heq hk hx hr1 hL
              obtain ⟨gr, off2, c2, rfl, -⟩ := HQ.out W (Below.refl _ _)
              as_aux_lemma =>
                go_upto_region 16 with (first
                  | (go_at_call 11; refine r0.mono ?_; clear r0; rintro e w1 ⟨rfl, k1, f1⟩; have HK : Hid (Cn W w1 B v u g rs s s) := HJ.out.step k1 f1; have z1 := cell_regrown (f1.cell y1 hXn); clear k1 f1))
                have z2 := cell_regrown (HK.out.at HX.out.1 HX.out.2.1).1
                have z3 : ∀ d os, (grow (redrawn w1 d) os).cell? ⟨gr, off2 + k * 2, none⟩ = some (I (x.2 : Int)) := by
                  obtain ⟨gr', off', c2', e1, q1⟩ := HQ.out w1 HK.out.t.b
                  cases e1
                  exact cell_regrown q1
                refine wp_region_quiet_below (by kernel_rfl) (by kernel_rfl) ?_
                repeat (go_big_quiet_step (first | fail))
                refine wpQuiet_nil ?_
                rintro _ ⟨⟨dq, osq⟩, rfl⟩
                dsimp only
                have HK2 : Hid (Cn W (grow (redrawn w1 dq) osq) B v u g rs s s) := HK.out.below (below_regrown w1 dq osq)
                clear z1 z2 z3
                generalize grow (redrawn w1 dq) osq = w7 at *
                go_wp2
                go_meet
                case rel => exact ⟨_, HK2.out⟩
            · rw [actB, actL, e0, if_neg hle, if_pos rfl, sdA_at hx, Int.toNat_natCast] at r0
              generalize (decide ((0 : Int) = 0) && decide (x.1 = 3)) = ab at *
              generalize (if x.1 = 3 then 2 else x.1) = nx at *
              have HNL : Hid (nL (s.set k (nx, x.2 + 1)) = (nL s).set k (I ((x.2 + 1 : Nat) : Int))) := nL_set _ _ _
              clear e0 hok hle hk hx hr1 hL
              as_aux_lemma =>
                go_upto_region 15 with (first
                  | (go_at_call 11; refine r0.mono ?_; clear r0; rintro e w1 ⟨rfl, k1, f1⟩; have HK : Hid (Cn W w1 B v u g rs (s.set k (nx, x.2 + 1)) s) := HJ.out.step k1 f1; have z1 := f1.cell y1 hXn; clear k1 f1))
                obtain ⟨q1, q2⟩ := HK.out.at HX.out.1 HX.out.2.1
                have HK2 : Hid (Cn W (w1.setCell ⟨g, k, none⟩ (I ((x.2 : Int) + 1))) B v u g rs (s.set k (nx, x.2 + 1)) (s.set k (nx, x.2 + 1))) := HK.out.put k (x.2 + 1) HNL.out
                have z2 : (w1.setCell ⟨g, k, none⟩ (I ((x.2 : Int) + 1))).cell? ⟨X, 1, none⟩ = some (I k) := by rw [cell_set_ne hXg]; exact z1
                go_upto_region 16 with (first | fail)
                have z3 := cell_regrown z2
                clear z1 z2 q1 q2 HK
                generalize (w1.setCell ⟨g, k, none⟩ (I ((x.2 : Int) + 1))) = w8 at *
                refine wp_region_quiet_below (by kernel_rfl) (by kernel_rfl) ?_
                repeat (go_big_quiet_step (first | fail))
                refine wpQuiet_nil ?_
                rintro _ ⟨⟨dq, osq⟩, rfl⟩
                dsimp only
                have HK3 : Hid (Cn W (grow (redrawn w8 dq) osq) B v u g rs (s.set k (nx, x.2 + 1)) (s.set k (nx, x.2 + 1))) := HK2.out.below (below_regrown w8 dq osq)
                clear z3
                generalize grow (redrawn w8 dq) osq = w7 at *
                go_wp2
                go_meet
                case rel => exact ⟨_, HK3.out⟩
        by_cases k2 : kd = 2
        · subst k2
          have r0 := tStart HJ.out.t tk
          as_aux_lemma =>
            go_wp2_with (first | (go_at_call 12; refine r0.mono ?_; clear r0; rintro e w1 ⟨rfl, k1, f1⟩; have HK : Hid (Cn W w1 B v u g rs _ _) := (HJ.out.step k1 f1).like (nL_sta HJ.out.t.k.n tk).symm; clear k1 f1))
            go_meet
            case rel => exact ⟨_, HK.out⟩
        by_cases k3 : kd = 3
        · subst k3
          have r0 := tPreempt HJ.out.t
          as_aux_lemma =>
            go_wp2_with (first | (go_at_call 17; refine r0.mono ?_; clear r0; rintro e w1 ⟨rfl, k1, f1⟩; have HK : Hid (Cn W w1 B v u g rs _ _) := (HJ.out.step k1 f1).like (nL_lea (rs := rs) 2).symm; clear k1 f1))
            go_meet
            case rel => exact ⟨_, HK.out⟩
        by_cases k4 : kd = 4
        · subst k4
          have r0 := tWait HJ.out.t
          as_aux_lemma =>
            go_wp2_with (first | (go_at_call 14; refine r0.mono ?_; clear r0; rintro e w1 ⟨rfl, k1, f1⟩; have HK : Hid (Cn W w1 B v u g rs _ _) := (HJ.out.step k1 f1).like (nL_lea (rs := rs) 1).symm; clear k1 f1))
            go_meet
            case rel => exact ⟨_, HK.out⟩
        by_cases k5 : kd = 5
        · subst k5
          have r0 := tRelease HJ.out.t tk
          as_aux_lemma =>
            go_wp2_with (first | (go_at_call 16; refine r0.mono ?_; clear r0; rintro e w1 ⟨rfl, k1, f1⟩; have HK : Hid (Cn W w1 B v u g rs _ _) := (HJ.out.step k1 f1).like (nL_rel HJ.out.t.k.n tk).symm; clear k1 f1))
            go_meet
            case rel => exact ⟨_, HK.out⟩
        by_cases k7 : kd = 7
        · subst k7
          have r0 := tAgain HJ.out.t
          as_aux_lemma =>
            go_wp2_with (first | (go_at_call 18; refine r0.mono ?_; clear r0; rintro e w1 ⟨rfl, k1, f1⟩; have HK : Hid (Cn W w1 B v u g rs _ _) := (HJ.out.step k1 f1).like (nL_lea (rs := rs) 2).symm; clear k1 f1))
            go_meet
            case rel => exact ⟨_, HK.out⟩
        by_cases k6 : kd = 6
        · subst k6
          have r0 := tEnd HJ.out.t
          by_cases hr1 : runI s = -1
          · rw [endS, endE, endL, if_pos hr1, if_pos hr1, if_pos hr1, hr1] at r0
            clear hr1
            as_aux_lemma =>
              go_wp2_with (first
                | (go_at_call 20; refine r0.mono ?_; clear r0; rintro e w1 ⟨rfl, k1, f1⟩; have HK : Hid (Cn W w1 B v u g rs s s) := HJ.out.step k1 f1; clear k1 f1)
                | (go_at_call 9; refine (num_any _ _).mono ?_; rintro e w0 ⟨rfl, rfl⟩))
              go_meet
              case rel => exact ⟨_, HK.out⟩
          · obtain ⟨k, n, r, e, hk, hx, hr2, hn⟩ := HJ.out.t.k.runs hr1
            have hE1 : endE s = 0 := by rw [endE, if_neg hr1]
            have hEL : endL s = s.set k (endS s, n - 1) := by rw [endL, if_neg hr1, e, sdA_at hx, Int.toNat_natCast]
            rw [hE1, hEL, e] at r0
            generalize endS s = es at *
            have hn2 := (HJ.out.t.k.le hx).2
            have hkI : ¬ ((k : Int) < 0) := by omega
            have hkR : (k : Int) < rs.length := by omega
            have hkR2 : ¬ ((rs.length : Int) ≤ k) := by omega
            have HX : Hid (s[k]? = some (0, n) ∧ s.length = rs.length) := ⟨hx, HJ.out.t.k.n⟩
            have HE9 : Hid ((n : Int) - 1 = ((n - 1 : Nat) : Int)) := by show _ = _; omega
            have HNL : Hid (nL (s.set k (es, n - 1)) = (nL s).set k (I ((n - 1 : Nat) : Int))) := nL_set _ _ _
            clear hr1 hE1 hEL hx hr2 e
            as_aux_lemma =>
              go_upto_region 33 with (first
                | (go_at_call 20; refine r0.mono ?_; clear r0; rintro e w1 ⟨rfl, k1, f1⟩; have HK : Hid (Cn W w1 B v u g rs (s.set k (es, n - 1)) s) := HJ.out.step k1 f1; clear k1 f1)
                | (go_at_call 9; refine (num_any _ _).mono ?_; rintro e w0 ⟨rfl, rfl⟩))
              obtain ⟨q1, q2⟩ := HK.out.at HX.out.1 HX.out.2
              dsimp only at q1
              have HK2 : Hid (Cn W (w1.setCell ⟨g, k, none⟩ (I ((n : Int) - 1))) B v u g rs (s.set k (es, n - 1)) (s.set k (es, n - 1))) := by
                rw [HE9.out]
                exact HK.out.put k (n - 1) HNL.out
              go_wp2
              go_meet
              case rel => exact ⟨_, HK2.out⟩
        obtain ⟨b1, b2, b3, b4, b5, b6, b7⟩ : (kd == 1) = false ∧ (kd == 2) = false ∧ (kd == 3) = false ∧ (kd == 4) = false ∧ (kd == 5) = false ∧ (kd == 6) = false ∧ (kd == 7) = false := ⟨beq_eq_false_iff_ne.2 k1, beq_eq_false_iff_ne.2 k2, beq_eq_false_iff_ne.2 k3, beq_eq_false_iff_ne.2 k4, beq_eq_false_iff_ne.2 k5, beq_eq_false_iff_ne.2 k6, beq_eq_false_iff_ne.2 k7⟩
        clear k1 k2 k3 k4 k5 k6 k7
        go_wp2
        go_meet
        case rel => exact ⟨_, HJ.out⟩
      obtain ⟨s, HK⟩ := hcut
      clear HJ y1 hXn hXg
      have hT := Those_any HK.out.t.c 0
      have hone := one_runs HK.out.t.k
      generalize hte : thF 0 0 s = th at *
      clear hte
      have hone2 : ¬ ((1 : Int) < th.length) := by omega
      go_upto_region 36 with (first | (go_at_call 21; refine hT.mono ?_; clear hT; rintro e w1 ⟨a9, c9, rfl, -, b9⟩; have HK1 : Hid (Cn W w1 B v u g rs s s) := HK.out.below b9; clear b9))
      clear HK hone hone2
      go_wp2
      go_loopw [15, 16, 17] (fun v15 _ _ wr => ∃ k : Nat, k ≤ rs.length ∧ v15 = I k ∧ Hid (Cn W wr B v u g rs s s)) (fun v15 _ _ _ => rs.length - (intOf v15).toNat)
      case atStart => exact ⟨0, by omega, rfl, HK1.out⟩
      case round =>
        clear HK1
        obtain ⟨k, hk, rfl, HQ⟩ := hrel
        by_cases hlk : k < rs.length
        · have hlkI : (k : Int) < rs.length := by omega
          have hsl := HQ.out.t.k.n
          obtain ⟨x, hx⟩ : ∃ x, s[k]? = some x := ⟨_, List.getElem?_eq_getElem (by omega)⟩
          obtain ⟨r, hr1⟩ : ∃ r, rs[k]? = some r := ⟨_, List.getElem?_eq_getElem hlk⟩
          have hok := HQ.out.t.k.s k r x hr1 hx
          have h255 := (HQ.out.t.k.le hx).2
          have rS := State_any HQ.out.t.c (k : Int)
          rw [staS, eidS, if_pos (hasB_at hlk), if_pos (hasB_at hlk), sdA_at hx] at rS
          have cA : ∀ d os, Calls Tryd.prog 19 #[cP B, I k] (grow (redrawn wr d) os) fun e w'' => e = .returned (I (x.2 : Int)) ∧ ∃ p : Regrown, w'' = grow (redrawn wr p.d) p.os := fun d os => Calls.regrown_of (by
            have := Active_any (HQ.out.below (below_regrown wr d os)).t.c (k : Int)
            rw [actN, if_pos (hasB_at hlk), sdA_at hx] at this
            exact this.mono (fun e w' h => ⟨h.1, by rw [h.2]; exact Below.refl _ _⟩))
          have z1 := cell_regrown (HQ.out.at hx hsl).1
          obtain ⟨gr, off2, c2, e1, q1, q2⟩ := (HS.out.up HQ.out.t.b).at hr1
          cases e1
          have z2 := cell_regrown q1
          have z3 := cell_regrown q2
          obtain ⟨x1, x2⟩ := x
          obtain ⟨r1, rb⟩ := r
          obtain ⟨o1, o2, o3, o4⟩ := hok
          dsimp only at rS cA z1 z2 z3 o1 o2 o3 o4 h255
          have n1 : decide ((x2 : Int) < 0) = false := by simp
          have n2 : decide (r1 < (x2 : Int)) = false := by simp; omega
          clear q1 q2 hx hr1 hsl
          by_cases h3 : x1 = 3
          · obtain rfl : x2 = 0 := o3.1 h3
            subst h3
            have n3 : decide (r1 < (0 : Int)) = false := by simp; omega
            clear o1 o2 o3 o4 n2
            as_aux_lemma =>
              go_upto_region 40 with (first | (go_at_call 15; refine rS.mono ?_; clear rS; rintro e w3 ⟨rfl, rfl⟩))
              refine wp_region_quiet_below (by kernel_rfl) (by kernel_rfl) ?_
              repeat (go_big_quiet_step (first | exact cA _ _))
              refine wpQuiet_nil ?_
              rintro _ ⟨⟨dq, osq⟩, rfl⟩
              dsimp only
              have HK2 : Hid (Cn W (grow (redrawn wr dq) osq) B v u g rs s s) := HQ.out.below (below_regrown wr dq osq)
              clear z1 z2 z3 cA
              generalize grow (redrawn wr dq) osq = w7 at *
              go_wp2
              go_roundw
              case rel => exact ⟨k + 1, by omega, by go_num, HK2.out⟩
              case measure => simp [intOf]; omega
          · have hx2 : x2 ≠ 0 := fun e => h3 (o3.2 e)
            have m1 : ((x1 : Int) == 3) = false := beq_eq_false_iff_ne.2 (by omega)
            have m2 : ((x2 : Int) == 0) = false := beq_eq_false_iff_ne.2 (by omega)
            have m3 : ¬ ((x1 : Int) = 3) := by omega
            have m4 : ¬ ((x2 : Int) = 0) := by omega
            by_cases h1 : x1 = 1
            · obtain rfl : rb = true := o4 h1
              subst h1
              clear o1 o2 o3 o4 hx2 h3 m1 m3
              as_aux_lemma =>
                go_upto_region 40 with (first | (go_at_call 15; refine rS.mono ?_; clear rS; rintro e w3 ⟨rfl, rfl⟩))
                refine wp_region_quiet_below (by kernel_rfl) (by kernel_rfl) ?_
                repeat (go_big_quiet_step (first | exact cA _ _))
                refine wpQuiet_nil ?_
                rintro _ ⟨⟨dq, osq⟩, rfl⟩
                dsimp only
                have HK2 : Hid (Cn W (grow (redrawn wr dq) osq) B v u g rs s s) := HQ.out.below (below_regrown wr dq osq)
                clear z1 z2 z3 cA
                generalize grow (redrawn wr dq) osq = w7 at *
                go_wp2
                go_roundw
                case rel => exact ⟨k + 1, by omega, by go_num, HK2.out⟩
                case measure => simp [intOf]; omega
            · have m5 : ((x1 : Int) == 1) = false := beq_eq_false_iff_ne.2 (by omega)
              have m6 : ¬ ((x1 : Int) = 1) := by omega
              clear o1 o2 o3 o4 hx2 h3 h1
              as_aux_lemma =>
                go_upto_region 40 with (first | (go_at_call 15; refine rS.mono ?_; clear rS; rintro e w3 ⟨rfl, rfl⟩))
                refine wp_region_quiet_below (by kernel_rfl) (by kernel_rfl) ?_
                repeat (go_big_quiet_step (first | exact cA _ _))
                refine wpQuiet_nil ?_
                rintro _ ⟨⟨dq, osq⟩, rfl⟩
                dsimp only
                have HK2 : Hid (Cn W (grow (redrawn wr dq) osq) B v u g rs s s) := HQ.out.below (below_regrown wr dq osq)
                clear z1 z2 z3 cA
                generalize grow (redrawn wr dq) osq = w7 at *
                go_wp2
                go_roundw
                case rel => exact ⟨k + 1, by omega, by go_num, HK2.out⟩
                case measure => simp [intOf]; omega
        · obtain rfl : k = rs.length := by omega
          have hge : ¬ ((rs.length : Int) < rs.length) := by omega
          go_wp2
          go_roundw
          case rel => exact ⟨i + 1, s, by omega, by go_num, HQ.out⟩
          case measure => simp [intOf]; omega
    · obtain rfl : i = l.length := by omega
      have hge : ¬ ((l.length : Int) < l.length) := by omega
      have hA1 := hA wr HJ.out.t.b
      have HB : Hid (Below W.heap.size W wr) := HJ.out.t.b
      clear HJ
      go_wp2_with (first | (go_at_call 10; refine hA1.mono ?_; clear hA1; rintro e w7 ⟨rfl, b7⟩))
      go_ret
      exact ⟨rfl, HB.out.trans (b7.mono HB.out.size)⟩
theorem counts_law (W : World) (hE : EnvR W) (sr : Sl) (rs : List Rw) (hr : RowsAt W 2 rowP sr rs) (hrl : rs.length ≤ 8796093022208) (ss : Sl) (l : List Cl) (hl : RowsAt W 2 actP ss l) (hll : l.length ≤ 8796093022208) : Calls Tryd.prog 4 #[.slice sr.a sr.n sr.c, .slice ss.a ss.n ss.c] W fun e w' => e = .returned (.bool true) ∧ Below W.heap.size W w' := by
  cases hm : mayN rs with
  | false => exact counts_no W hE sr rs hr hrl _ hm
  | true => exact counts_ok W hE sr rs hr hrl ss l hl hll hm
end Go.Proofs.YthmecgfbapemjaaDoor
