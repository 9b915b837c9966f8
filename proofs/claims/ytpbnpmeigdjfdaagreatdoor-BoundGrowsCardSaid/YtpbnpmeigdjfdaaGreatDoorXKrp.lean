import Derived.Test.YtpbnpmeigdjfdaaGreatDoorXKrk
namespace Go.Proofs.YtpbnpmeigdjfdaaGreatDoor
open Go.RowKit
set_option linter.unusedSimpArgs false
set_option linter.unusedVariables false
set_option maxHeartbeats 16000000
set_option maxRecDepth 100000
theorem Tryz.infoU8 : (Tryz.prog.info? 5).map (fun i => (i.zero, i.size, i.bytes)) = some (some (.int .u8 0), 1, 1) := by kernel_rfl
theorem number_any (x : Nat) (n : Nat) (hn : 1 ≤ n) (h7 : n ≤ 7) (w : World) : Calls Tryz.prog 190 #[.int .u64 (x : Int), I n] w fun e w' => ∃ s, e = .returned (.tuple #[s, I (if fitsB x n = true then 0 else 2)]) ∧ Below w.heap.size w w' := by
 have c1 := fun w => width_any n w
 have hw : inR n 1 8 = true := by unfold inR; rw [decide_eq_true (by omega), decide_eq_true (by omega)]; rfl
 rw [hw] at c1
 have c2 := fits_any x n hn h7
 have hn1 : (1 : Int) ≤ n := by omega
 have hn7 : (n : Int) ≤ 7 := by omega
 cases hf : fitsB x n with
 | false =>
  rw [hf] at c2
  go_enter Tryz.func190, Tryz.ntmps190
  go_wp2_with (first | (go_at_call 191; refine (c1 _).mono ?_; rintro e w' ⟨rfl, rfl⟩) | (go_at_call 192; refine (c2 _).mono ?_; rintro e w' ⟨rfl, rfl⟩))
  all_goals (go_ret2; exact ⟨⟨_, rfl⟩, Below.refl _ _⟩)
 | true =>
  rw [hf] at c2
  obtain ⟨i0, hi0, hz0, hz1, hz2⟩ := info_parts Tryz.infoU8
  go_enter Tryz.func190, Tryz.ntmps190
  go_wp2_with (first | (go_at_call 191; refine (c1 _).mono ?_; rintro e w' ⟨rfl, rfl⟩) | (go_at_call 192; refine (c2 _).mono ?_; rintro e w' ⟨rfl, rfl⟩) | (refine wpList_make_full _ rfl _ _ 240 rfl w'.heap.size 5 i0 (.int .u8 0) 1 Tryz.underlying240 hi0 hz0 hz1 .i64 .i64 _ _ n rfl rfl rfl rfl (by rw [hz2]; omega) (by unfold maxLen; omega) (Nat.le_refl _) ?_; intro w1 ho1 hg1))
  have hb1 := below_none hg1
  clear hg1 c1 c2
  generalize (madeCells (Value.int IntKind.u8 0).cells (n * 1)).toList = xs0 at ho1
  generalize hbk : w'.heap.size = b at ho1 ⊢
  go_loopw [0, 7, 21] (fun v0 _ iv wr => ∃ (j : Nat) (y : Int) (xs : List Value), j ≤ n ∧ iv = .int .i64 j ∧ v0 = .int .u64 y ∧ Hid (wr.ownsRow b 5 1 (.slice (some ⟨b, 0, none⟩) n n) n xs ∧ Below b w' wr)) (fun _ _ iv _ => n - (intOf iv).toNat)
  case atStart => exact ⟨0, x, xs0, by omega, rfl, rfl, ho1, by rw [← hbk]; exact hb1⟩
  case round =>
   obtain ⟨j, y, xs, hj, rfl, rfl, HJ⟩ := hrel
   obtain ⟨hO, hB⟩ := HJ.out
   by_cases hlt : j < n
   ·have hlt' : (j : Int) < n := by omega
    have hxl : xs.length = n * 1 := hO.1
    obtain ⟨u, hu⟩ : ∃ u, xs[j]? = some u := ⟨_, List.getElem?_eq_getElem (by omega)⟩
    have hcx : wr.cell? ⟨b, j, none⟩ = some u := by rw [hO.cellAt j (by omega)]; exact hu
    have hfz := hO.frozenAt
    have hsr := hB.size
    have hst : ∀ z, Hid (∃ xs' : List Value, (wr.setCell ⟨b, j, none⟩ z).ownsRow b 5 1 (.slice (some ⟨b, 0, none⟩) n n) n xs' ∧ Below b w' (wr.setCell ⟨b, j, none⟩ z)) := fun z => by
     obtain ⟨hO3, hg3⟩ := hO.stored j z
     exact ⟨_, hO3, hB.trans (below_of_grown hg3 (Nat.le_refl _) (by omega))⟩
    clear hO hB HJ hu hxl
    go_wp2
    go_roundw
    case rel =>
     obtain ⟨xs', h1, h2⟩ := (hst _).out
     exact ⟨j + 1, _, xs', by omega, by go_num, rfl, h1, h2⟩
    case measure => simp [intOf]; omega
   ·obtain rfl : j = n := by omega
    have hlt' : ¬ (j : Int) < j := by omega
    clear hO HJ
    go_wp2
    all_goals (go_ret2; exact ⟨⟨_, rfl⟩, by first | exact hB | exact hB.drew⟩)
end Go.Proofs.YtpbnpmeigdjfdaaGreatDoor
namespace Go.Proofs.YtpbnpmeigdjfdaaGreatDoor
open Go.RowKit Go.Sort
set_option linter.unusedSimpArgs false
set_option linter.unusedVariables false
set_option maxHeartbeats 16000000
set_option maxRecDepth 100000
def fitI (x : Nat) (n : Int) : Bool := if n == 0 then (x : Int) == 0 else if inR n 1 7 then fitsB x n.toNat else true
theorem fitsInto_any (x : Nat) (n : Int) (w : World) : Calls Tryz.prog 183 #[.int .u64 (x : Int), I n] w fun e w' => e = .returned (.bool (fitI x n)) ∧ Below w.heap.size w w' := by
 obtain ⟨B, hB⟩ : ∃ B, B = fitI x n := ⟨_, rfl⟩
 rw [← hB]
 unfold fitI at hB
 have HB : Hid (B = _) := hB
 clear hB
 have c1 := within_int n 1 7
 cases hn : n == 0 with
 | true =>
  have HE : Hid (B = ((x : Int) == 0)) := by show _ = _; rw [HB.out, hn]; rfl
  clear HB
  go_enter Tryz.func183, Tryz.ntmps183
  go_wp2
  go_ret
  exact ⟨ret_bool HE.out.symm, Below.refl _ _⟩
 | false =>
  cases h1 : inR n 1 7 with
  | false =>
   have HE : Hid (B = true) := by show _ = _; rw [HB.out, hn, h1]; rfl
   rw [h1] at c1
   clear HB
   go_enter Tryz.func183, Tryz.ntmps183
   go_wp2_with (first | (go_at_call 86; refine (c1 _).mono ?_; clear c1; rintro e w' ⟨rfl, rfl⟩))
   go_ret
   exact ⟨ret_bool HE.out.symm, Below.refl _ _⟩
  | true =>
   have hr : 1 ≤ n ∧ n ≤ 7 := by simpa [inR] using h1
   obtain ⟨q, rfl⟩ := Int.eq_ofNat_of_zero_le (show 0 ≤ n by omega)
   have HE : Hid (B = fitsB x q) := by show _ = _; rw [HB.out, hn, h1]; simp
   have c2 := number_any x q (by omega) (by omega)
   rw [h1] at c1
   clear HB
   cases hf : fitsB x q with
   | true =>
    rw [hf] at c2 HE
    go_enter Tryz.func183, Tryz.ntmps183
    go_wp2_with (first | (go_at_call 86; refine (c1 _).mono ?_; clear c1; rintro e w' ⟨rfl, rfl⟩) | (go_at_call 190; refine (c2 _).mono ?_; clear c2; rintro e w2 ⟨s, rfl, hb2⟩))
    go_ret
    exact ⟨ret_bool HE.out.symm, hb2⟩
   | false =>
    rw [hf] at c2 HE
    go_enter Tryz.func183, Tryz.ntmps183
    go_wp2_with (first | (go_at_call 86; refine (c1 _).mono ?_; clear c1; rintro e w' ⟨rfl, rfl⟩) | (go_at_call 190; refine (c2 _).mono ?_; clear c2; rintro e w2 ⟨s, rfl, hb2⟩))
    go_ret
    exact ⟨ret_bool HE.out.symm, hb2⟩
theorem initFits_any (w : World) (c : Cf) (v : Vs) (h : CfAt w c v) (i : Nat) (x : Ms) (hi : c.msgs[i]? = some x) (hv : x.kind == 1 ∨ isId x.frm v.s.n = true) :
  Calls Tryz.prog 151 #[.agg (cfC c v), I i] w fun e w' => Ans w (x.kind == 1 || (decide ((x.init : Int) ≤ 4294967295) && fitI x.init (mlen c x.frm))) e w' := by
 have hn : v.s.n = c.msgs.length := h.s.n
 have hlt : (i : Int) < v.s.n := by have := (List.getElem?_eq_some_iff.1 hi).1; omega
 obtain ⟨g, off, e, hg, a0, a1, a2, a3, a4, a5, a6, a7, a8, a9⟩ := ms_at h hi
 have hne : g ≠ w.heap.size := by omega
 have hb := below_alloc w
 have hb2 := fun o o' => (hb o).trans ((below_alloc (w.alloc o) o').mono (hb o).size)
 obtain ⟨B, hB⟩ : ∃ B, B = (x.kind == 1 || (decide ((x.init : Int) ≤ 4294967295) && fitI x.init (mlen c x.frm))) := ⟨_, rfl⟩
 rw [← hB]
 have HB : Hid (B = _) := hB
 have HN : Hid (v.s.n = c.msgs.length) := h.s.n
 have hgl : g < w.heap.size + 1 := by omega
 have hne1 : g ≠ w.heap.size + 1 := by omega
 clear hB
 have f17 : ∀ h : 17 < (cfC c v).size, (cfC c v)[17] = .slice v.s.a v.s.n v.s.c := fun _ => rfl
 have hs18 : (cfC c v).size = 18 := rfl
 generalize cfC c v = C at *
 replace f17 := f17 (by omega)
 rw [e] at f17
 clear hi hn
 go_enter Tryz.func151, Tryz.ntmps151
 go_wp2
 have k1 : ((w.alloc (.cells C 33)).alloc (.cells #[S x.name, I x.kind, I x.len, I x.frm, .int .u64 (x.init : Int), I x.queue, I x.ac.kind, I x.ac.task, I x.ac.event, S x.ac.name] 173)).cell? ⟨w.heap.size + 1, 1, none⟩ = some (I x.kind) := by simp
 have k3 : ((w.alloc (.cells C 33)).alloc (.cells #[S x.name, I x.kind, I x.len, I x.frm, .int .u64 (x.init : Int), I x.queue, I x.ac.kind, I x.ac.task, I x.ac.event, S x.ac.name] 173)).cell? ⟨w.heap.size + 1, 3, none⟩ = some (I x.frm) := by simp
 have k4 : ((w.alloc (.cells C 33)).alloc (.cells #[S x.name, I x.kind, I x.len, I x.frm, .int .u64 (x.init : Int), I x.queue, I x.ac.kind, I x.ac.task, I x.ac.event, S x.ac.name] 173)).cell? ⟨w.heap.size + 1, 4, none⟩ = some (.int .u64 (x.init : Int)) := by simp
 have k17 : ((w.alloc (.cells C 33)).alloc (.cells #[S x.name, I x.kind, I x.len, I x.frm, .int .u64 (x.init : Int), I x.queue, I x.ac.kind, I x.ac.task, I x.ac.event, S x.ac.name] 173)).cell? ⟨w.heap.size, 17, none⟩ = some (.slice (some ⟨g, off, none⟩) v.s.n v.s.c) := by
  rw [cell_below (below_alloc _ _) _ _ (by simp), World.cell?_alloc_new, ← f17]
  exact Array.getElem?_eq_getElem _
 have hbw := hb2 (.cells C 33) (.cells #[S x.name, I x.kind, I x.len, I x.frm, .int .u64 (x.init : Int), I x.queue, I x.ac.kind, I x.ac.task, I x.ac.event, S x.ac.name] 173)
 have h2 := h.below hbw
 clear a0 a1 a2 a3 a4 a5 a6 a7 a8 a9 hb hb2 f17 hs18 h
 generalize ((w.alloc (.cells C 33)).alloc (.cells #[S x.name, I x.kind, I x.len, I x.frm, .int .u64 (x.init : Int), I x.queue, I x.ac.kind, I x.ac.task, I x.ac.event, S x.ac.name] 173)) = W2 at *
 replace k1 := cell_regrown k1
 replace k4 := cell_regrown k4
 replace k17 := cell_regrown k17
 cases hk1 : x.kind == 1 with
 | true =>
  have HE : Hid (B = true) := by show _ = _; rw [HB.out, hk1]; rfl
  clear HB hv h2
  have c2 : True := trivial
  refine wp_region_quiet_below (by kernel_rfl) (by kernel_rfl) ?_
  repeat (go_big_quiet_step (first | exact c2 _ _))
  refine wpQuiet_nil ?_
  intro _ hw'
  obtain ⟨⟨dq, osq⟩, hw''⟩ := hw'
  subst hw''
  go_wp2
  go_ret
  exact ⟨ret_bool HE.out.symm, hbw.trans ((below_regrown W2 dq osq).mono hbw.size)⟩
 | false =>
  have hid : isId x.frm v.s.n = true := by rcases hv with hv | hv; (rw [hk1] at hv; cases hv); exact hv
  have hr : 0 ≤ x.frm ∧ x.frm < v.s.n := by simpa [isId] using hid
  obtain ⟨q, hq⟩ := Int.eq_ofNat_of_zero_le hr.1
  have hq' : (q : Int) < v.s.n := by omega
  have hql : q < c.msgs.length := by rw [← HN.out]; omega
  obtain ⟨y, hy⟩ : ∃ y, c.msgs[q]? = some y := ⟨_, List.getElem?_eq_getElem hql⟩
  obtain ⟨g', off', e', hg', b0, b1, b2, b3, b4, b5, b6, b7, b8, b9⟩ := ms_at h2 hy
  rw [e] at e'
  obtain ⟨rfl, rfl⟩ : g = g' ∧ off = off' := by cases e'; exact ⟨rfl, rfl⟩
  have kl := cell_regrown b2
  rw [hq] at k3
  replace k3 := cell_regrown k3
  have HE0 : Hid (B = (decide ((x.init : Int) ≤ 4294967295) && fitI x.init y.len)) := by show _ = _; rw [HB.out, hk1, hq]; simp [mlen, hy]
  have c2 : ∀ d os, Calls Tryz.prog 183 #[.int .u64 (x.init : Int), I y.len] (grow (redrawn W2 d) os) fun e w'' => e = .returned (.bool (fitI x.init y.len)) ∧ ∃ p : Regrown, w'' = grow (redrawn W2 p.d) p.os := fun d os => Calls.regrown_of (fitsInto_any x.init y.len _)
  clear HB hid hr hq hql hy e' b0 b1 b2 b3 b4 b5 b6 b7 b8 b9 h2 hv
  generalize fitI x.init y.len = b at *
  by_cases hle : (x.init : Int) ≤ 4294967295
  ·have HE : Hid (B = b) := by show _ = _; rw [HE0.out, decide_eq_true hle]; rfl
   clear HE0
   refine wp_region_quiet_below (by kernel_rfl) (by kernel_rfl) ?_
   repeat (go_big_quiet_step (first | exact c2 _ _))
   refine wpQuiet_nil ?_
   intro _ hw'
   obtain ⟨⟨dq, osq⟩, hw''⟩ := hw'
   subst hw''
   go_wp2
   go_ret
   exact ⟨ret_bool HE.out.symm, hbw.trans ((below_regrown W2 dq osq).mono hbw.size)⟩
  ·have HE : Hid (B = false) := by show _ = _; rw [HE0.out, decide_eq_false hle]; rfl
   clear HE0
   refine wp_region_quiet_below (by kernel_rfl) (by kernel_rfl) ?_
   repeat (go_big_quiet_step (first | exact c2 _ _))
   refine wpQuiet_nil ?_
   intro _ hw'
   obtain ⟨⟨dq, osq⟩, hw''⟩ := hw'
   subst hw''
   go_wp2
   go_ret
   exact ⟨ret_bool HE.out.symm, hbw.trans ((below_regrown W2 dq osq).mono hbw.size)⟩
end Go.Proofs.YtpbnpmeigdjfdaaGreatDoor
namespace Go.Proofs.YtpbnpmeigdjfdaaGreatDoor
open Go.RowKit
set_option linter.unusedSimpArgs false
set_option linter.unusedVariables false
set_option maxHeartbeats 16000000
set_option maxRecDepth 100000
def uT (k : Int) : Bool := k == 1 || k == 2
def uE (k : Int) : Bool := k == 2
def uN (k : Int) : Bool := k == 3 || k == 4
theorem usesTask_any (k : Int) (w : World) : Calls Tryz.prog 187 #[I k] w fun e w' => e = .returned (.bool (uT k)) ∧ w' = w := by
 unfold uT
 cases h1 : k == 1 <;> (go_enter Tryz.func187, Tryz.ntmps187; go_wp2; go_ret; exact ⟨ret_bool (by simp), rfl⟩)
theorem usesEvent_any (k : Int) (w : World) : Calls Tryz.prog 188 #[I k] w fun e w' => e = .returned (.bool (uE k)) ∧ w' = w := by
 unfold uE
 go_enter Tryz.func188, Tryz.ntmps188
 go_wp2
 go_ret
 exact ⟨rfl, rfl⟩
theorem usesName_any (k : Int) (w : World) : Calls Tryz.prog 189 #[I k] w fun e w' => e = .returned (.bool (uN k)) ∧ w' = w := by
 unfold uN
 cases h1 : k == 3 <;> (go_enter Tryz.func189, Tryz.ntmps189; go_wp2; go_ret; exact ⟨ret_bool (by simp), rfl⟩)
def acC (a : Ac) : Array Value := #[I a.kind, I a.task, I a.event, S a.name]
def bareB (a : Ac) : Bool := (uT a.kind || a.task == 0) && (uE a.kind || a.event == 0) && (uN a.kind || a.name.isEmpty)
theorem isBare_any (a : Ac) (w : World) : Calls Tryz.prog 175 #[.agg (acC a)] w fun e w' => Ans w (bareB a) e w' := by
 have c1 := usesTask_any a.kind
 have c2 := usesEvent_any a.kind
 have c3 := usesName_any a.kind
 have hb := below_alloc w
 obtain ⟨B, hB⟩ : ∃ B, B = bareB a := ⟨_, rfl⟩
 rw [← hB]
 unfold bareB at hB
 have HB : Hid (B = _) := hB
 clear hB
 obtain ⟨k, t, e, n⟩ := a
 unfold acC
 dsimp only at c1 c2 c3 HB ⊢
 generalize uT k = b1 at *
 generalize uE k = b2 at *
 generalize uN k = b3 at *
 cases h1 : (b1 || t == 0) with
 | false =>
  obtain ⟨rfl, ht⟩ : b1 = false ∧ (t == 0) = false := by simpa using h1
  have HE : Hid (B = false) := by show _ = _; rw [HB.out, ht]; rfl
  clear HB h1
  go_enter Tryz.func175, Tryz.ntmps175
  go_wp2_with (first | (go_at_call 187; refine (c1 _).mono ?_; rintro e w' ⟨rfl, rfl⟩))
  go_ret
  exact ⟨ret_bool HE.out.symm, hb _⟩
 | true =>
  cases h2 : (b2 || e == 0) with
  | false =>
   obtain ⟨rfl, ht⟩ : b2 = false ∧ (e == 0) = false := by simpa using h2
   have HE : Hid (B = false) := by show _ = _; rw [HB.out, h1, ht]; rfl
   clear HB h2
   cases b1 with
   | true =>
    clear h1
    go_enter Tryz.func175, Tryz.ntmps175
    go_wp2_with (first | (go_at_call 187; refine (c1 _).mono ?_; rintro e w' ⟨rfl, rfl⟩) | (go_at_call 188; refine (c2 _).mono ?_; rintro e w' ⟨rfl, rfl⟩))
    go_ret
    exact ⟨ret_bool HE.out.symm, hb _⟩
   | false =>
    have h1' : (t == 0) = true := by simpa using h1
    clear h1
    go_enter Tryz.func175, Tryz.ntmps175
    go_wp2_with (first | (go_at_call 187; refine (c1 _).mono ?_; rintro e w' ⟨rfl, rfl⟩) | (go_at_call 188; refine (c2 _).mono ?_; rintro e w' ⟨rfl, rfl⟩))
    go_ret
    exact ⟨ret_bool HE.out.symm, hb _⟩
  | true =>
   have HE : Hid (B = (b3 || n.isEmpty)) := by show _ = _; rw [HB.out, h1, h2]; rfl
   clear HB
   cases b1 <;> cases b2 <;> cases b3 <;> (simp only [Bool.false_or, Bool.true_or] at h1 h2; go_enter Tryz.func175, Tryz.ntmps175; go_wp2_with (first | (go_at_call 187; refine (c1 _).mono ?_; rintro e w' ⟨rfl, rfl⟩) | (go_at_call 188; refine (c2 _).mono ?_; rintro e w' ⟨rfl, rfl⟩) | (go_at_call 189; refine (c3 _).mono ?_; rintro e w' ⟨rfl, rfl⟩)); go_ret; exact ⟨ret_bool (by rw [HE.out]; simp), hb _⟩)
def idxF (x : Int) (j : Nat) : List Int → Int
 | [] => -1
 | y :: r => if x == y then (j : Int) else idxF x (j + 1) r
def hasL (l : List Int) (x : Int) : Bool := l.any (fun y => x == y)
theorem idxF_has (x : Int) (l : List Int) (j : Nat) : decide (0 ≤ idxF x j l) = hasL l x := by
 induction l generalizing j with
 | nil => rfl
 | cons y r ih =>
  rw [idxF]
  cases h : x == y with
  | true =>
   simp only [if_true]
   rw [decide_eq_true (by omega)]
   simp [hasL, h]
  | false =>
   have h2 : hasL (y :: r) x = hasL r x := by simp [hasL, h]
   rw [h2, if_neg (by decide)]
   exact ih (j + 1)
theorem index_int (w : World) (s : Sl) (l : List Int) (h : RowsAt w 1 intP s l) (x : Int) : Calls Tryz.prog 90 #[.slice s.a s.n s.c, I x] w fun e w' => e = .returned (I (idxF x 0 l)) ∧ w' = w := by
 obtain ⟨sa, sn, sc⟩ := s
 have HN : Hid (sn = l.length) := h.n
 have hc : sn ≤ sc := h.c
 have hm : sc ≤ maxLen := h.m
 dsimp only
 unfold maxLen at hm
 go_enter Tryz.func90, Tryz.ntmps90
 go_wp2
 go_loop [5, 8] (fun _ i => ∃ j : Nat, j ≤ sn ∧ i = .int .i64 j ∧ Hid (idxF x 0 l = idxF x j (l.drop j))) (fun _ i => sn - (intOf i).toNat)
 case atStart => exact ⟨0, by omega, rfl, rfl⟩
 case round =>
  obtain ⟨j, hj, rfl, HR⟩ := hrel
  by_cases hlt : j < sn
  ·have hlt' : (j : Int) < sn := by omega
   have hjl : j < l.length := by rw [← HN.out]; exact hlt
   obtain ⟨y, hy⟩ : ∃ y, l[j]? = some y := ⟨l[j], List.getElem?_eq_getElem hjl⟩
   obtain ⟨g, off, e, hg, hcx⟩ := ints_at h hy
   dsimp only at e
   subst e
   have HE : Hid (idxF x 0 l = if x == y then (j : Int) else idxF x (j + 1) (l.drop (j + 1))) := by
    show _ = _
    rw [HR.out, List.drop_eq_getElem_cons hjl, idxF]
    rw [List.getElem?_eq_getElem hjl] at hy
    rw [Option.some.inj hy]
   clear hy hjl HR
   cases hk : x == y with
   | true =>
    have HE2 : Hid (idxF x 0 l = j) := by show _ = _; rw [HE.out, hk]; rfl
    clear HE
    go_wp2
    go_ret
    exact ⟨ret_int HE2.out.symm, rfl⟩
   | false =>
    have HE2 : Hid (idxF x 0 l = idxF x (j + 1) (l.drop (j + 1))) := by show _ = _; rw [HE.out, hk]; rfl
    clear HE
    go_wp2
    go_round
    case rel => exact ⟨j + 1, by omega, by go_num, HE2⟩
    case measure => simp [intOf]; omega
  ·obtain rfl : j = sn := by omega
   have hlt' : ¬ (j : Int) < j := by omega
   have HE2 : Hid (idxF x 0 l = -1) := by show _ = _; rw [HR.out, List.drop_eq_nil_of_le (by rw [← HN.out]; exact Nat.le_refl _), idxF]
   go_wp2
   go_ret
   exact ⟨ret_int HE2.out.symm, rfl⟩
theorem contains_int (w : World) (s : Sl) (l : List Int) (h : RowsAt w 1 intP s l) (x : Int) : Calls Tryz.prog 54 #[.slice s.a s.n s.c, I x] w fun e w' => e = .returned (.bool (hasL l x)) ∧ w' = w := by
 have c1 := index_int w s l h x
 have HH : Hid (decide (0 ≤ idxF x 0 l) = hasL l x) := idxF_has x l 0
 generalize idxF x 0 l = r at *
 go_enter Tryz.func54, Tryz.ntmps54
 go_wp2_with (first | (go_at_call 90; refine c1.mono ?_; rintro e w' ⟨rfl, rfl⟩))
 go_ret
 exact ⟨ret_bool (by rw [← HH.out]), rfl⟩
def actC (a : Ac) (lo hi : Int) : Array Value := #[I a.kind, I a.task, I a.event, S a.name, I lo, I hi]
theorem hasKind_any (a : Ac) (lo hi : Int) (w : World) : Calls Tryz.prog 173 #[.agg (actC a lo hi)] w fun e w' => Ans w (inR a.kind lo hi) e w' := by
 have c1 := within_ak a.kind lo hi
 have hb := below_alloc w
 unfold actC
 go_enter Tryz.func173, Tryz.ntmps173
 go_wp2_with (first | (go_at_call 186; refine (c1 _).mono ?_; rintro e w' ⟨rfl, rfl⟩))
 go_ret
 exact ⟨rfl, hb _⟩
def calB (a : Ac) : Bool := !uN a.kind || isNm a.name
theorem isCalled_any (a : Ac) (w : World) : Calls Tryz.prog 181 #[.agg (acC a)] w fun e w' => Ans w (calB a) e w' := by
 have c1 := usesName_any a.kind
 have c2 := isName_l a.name
 have hb := below_alloc w
 unfold calB acC
 generalize uN a.kind = b1 at *
 generalize isNm a.name = b2 at *
 cases b1 <;> cases b2 <;> (go_enter Tryz.func181, Tryz.ntmps181; go_wp2_with (first | (go_at_call 189; refine (c1 _).mono ?_; rintro e w' ⟨rfl, rfl⟩) | (go_at_call 88; refine (c2 _).mono ?_; rintro e w' ⟨rfl, rfl⟩)); go_ret; exact ⟨ret_bool (by simp), hb _⟩)
end Go.Proofs.YtpbnpmeigdjfdaaGreatDoor
namespace Go.Proofs.YtpbnpmeigdjfdaaGreatDoor
open Go.RowKit Go.Sort
set_option linter.unusedSimpArgs false
set_option linter.unusedVariables false
set_option maxHeartbeats 16000000
set_option maxRecDepth 100000
def objB (c : Cf) (a : Ac) : Bool := (!uT a.kind || isId a.task c.tasks.length) && (!uE a.kind || isId a.event c.evs.length)
theorem meetsObjects_any (w : World) (c : Cf) (v : Vs) (h : CfAt w c v) (a : Ac) : Calls Tryz.prog 177 #[.agg (cfC c v), .agg (acC a)] w fun e w' => Ans w (objB c a) e w' := by
 have c1 := usesTask_any a.kind
 have c2 := usesEvent_any a.kind
 have c3 := isID_any a.task v.t.n
 have c4 := isID_any a.event v.e.n
 have hb := below_alloc w
 have hb2 := fun o o' => (hb o).trans ((below_alloc (w.alloc o) o').mono (hb o).size)
 unfold objB
 rw [← h.t.n, ← h.e.n]
 unfold acC
 generalize uT a.kind = b1 at *
 generalize uE a.kind = b2 at *
 generalize isId a.task v.t.n = b3 at *
 generalize isId a.event v.e.n = b4 at *
 have f11 : ∀ h : 11 < (cfC c v).size, (cfC c v)[11] = .slice v.t.a v.t.n v.t.c := fun _ => rfl
 have f13 : ∀ h : 13 < (cfC c v).size, (cfC c v)[13] = .slice v.e.a v.e.n v.e.c := fun _ => rfl
 have hs18 : (cfC c v).size = 18 := rfl
 generalize cfC c v = C at *
 replace f11 := f11 (by omega)
 replace f13 := f13 (by omega)
 cases h1 : (!b1 || b3) with
 | false =>
  obtain ⟨rfl, rfl⟩ : b1 = true ∧ b3 = false := by simpa using h1
  go_enter Tryz.func177, Tryz.ntmps177
  go_wp2_with (first | (go_at_call 187; refine (c1 _).mono ?_; rintro e w' ⟨rfl, rfl⟩) | (go_at_call 165; refine (c3 _).mono ?_; rintro e w' ⟨rfl, rfl⟩))
  go_ret
  exact ⟨ret_bool (by simp), hb2 _ _⟩
 | true =>
  cases b1 with
  | false =>
   clear h1 c3
   cases b2 <;> (go_enter Tryz.func177, Tryz.ntmps177; go_wp2_with (first | (go_at_call 187; refine (c1 _).mono ?_; rintro e w' ⟨rfl, rfl⟩) | (go_at_call 188; refine (c2 _).mono ?_; rintro e w' ⟨rfl, rfl⟩) | (go_at_call 165; refine (c4 _).mono ?_; rintro e w' ⟨rfl, rfl⟩)); go_ret; exact ⟨ret_bool (by simp), hb2 _ _⟩)
  | true =>
   obtain rfl : b3 = true := by simpa using h1
   clear h1
   cases b2 <;> (go_enter Tryz.func177, Tryz.ntmps177; go_wp2_with (first | (go_at_call 187; refine (c1 _).mono ?_; rintro e w' ⟨rfl, rfl⟩) | (go_at_call 188; refine (c2 _).mono ?_; rintro e w' ⟨rfl, rfl⟩) | (go_at_call 165; refine (c3 _).mono ?_; clear c3; rintro e w' ⟨rfl, rfl⟩) | (go_at_call 165; refine (c4 _).mono ?_; rintro e w' ⟨rfl, rfl⟩)); go_ret; exact ⟨ret_bool (by simp), hb2 _ _⟩)
def evsOf (c : Cf) (t : Int) : List Int := match c.tasks[t.toNat]? with | some x => x.evs | none => []
def ownB (c : Cf) (a : Ac) : Bool := !uE a.kind || hasL (evsOf c a.task) a.event
theorem meetsOwner_any (w : World) (c : Cf) (v : Vs) (h : CfAt w c v) (a : Ac) (hv : uE a.kind = true → isId a.task v.t.n = true) : Calls Tryz.prog 179 #[.agg (cfC c v), .agg (acC a)] w fun e w' => Ans w (ownB c a) e w' := by
 have c1 := usesEvent_any a.kind
 have hb := below_alloc w
 have hb2 := fun o o' => (hb o).trans ((below_alloc (w.alloc o) o').mono (hb o).size)
 have h2 := fun o o' => h.below (hb2 o o')
 have HN : Hid (v.t.n = c.tasks.length) := h.t.n
 obtain ⟨B, hB⟩ : ∃ B, B = ownB c a := ⟨_, rfl⟩
 rw [← hB]
 unfold ownB at hB
 have HB : Hid (B = _) := hB
 clear hB
 unfold acC
 have f11 : ∀ h : 11 < (cfC c v).size, (cfC c v)[11] = .slice v.t.a v.t.n v.t.c := fun _ => rfl
 have hs18 : (cfC c v).size = 18 := rfl
 generalize cfC c v = C at *
 replace f11 := f11 (by omega)
 cases hu : uE a.kind with
 | false =>
  have HE : Hid (B = true) := by show _ = _; rw [HB.out, hu]; rfl
  rw [hu] at c1
  clear HB hv
  go_enter Tryz.func179, Tryz.ntmps179
  go_wp2
  go_quiet (first | (go_at_call 188; refine Calls.quiet_of_same (c1 _)))
  go_wp2
  go_ret
  exact ⟨ret_bool HE.out.symm, below_drewN (hb2 _ _) _⟩
 | true =>
  have hid := hv hu
  have hr : 0 ≤ a.task ∧ a.task < v.t.n := by simpa [isId] using hid
  obtain ⟨q, hq⟩ := Int.eq_ofNat_of_zero_le hr.1
  have hq' : (q : Int) < v.t.n := by omega
  have hql : q < c.tasks.length := by rw [← HN.out]; omega
  obtain ⟨x, hx⟩ : ∃ y, c.tasks[q]? = some y := ⟨_, List.getElem?_eq_getElem hql⟩
  obtain ⟨g, off, s4, s5, s6, s7, e, hg, a0, a1, a2, a3, a4, a5, a6, a7, r4, r5, r6, r7⟩ := tk_at h hx
  have hne : g ≠ w.heap.size := by omega
  have hgl : g < w.heap.size + 1 := by omega
  have hne1 : g ≠ w.heap.size + 1 := by omega
  rw [e] at f11
  have HE : Hid (B = hasL x.evs a.event) := by show _ = _; rw [HB.out, hu, hq]; simp [evsOf, hx]
  have c2 := fun W (hW : Below w.heap.size w W) => contains_int W s6 x.evs (r6.below hW (fun _ _ _ _ h => h)) a.event
  rw [hu] at c1
  obtain ⟨ak, at_, ae, an⟩ := a
  dsimp only at hq c1 c2 HE ⊢
  rw [hq]
  clear HB hv hid hr hql hx a0 a1 a2 a3 a4 a5 a7 r4 r5 r7 hu hq
  generalize hasL x.evs ae = b at *
  go_enter Tryz.func179, Tryz.ntmps179
  go_wp2
  go_quiet (first | (go_at_call 188; refine Calls.quiet_of_same (c1 _)) | (go_at_call 54; refine Calls.quiet_of_same (c2 _ (below_drewN (hb2 _ _) _))))
  go_wp2
  go_ret
  exact ⟨ret_bool HE.out.symm, below_drewN (hb2 _ _) _⟩
end Go.Proofs.YtpbnpmeigdjfdaaGreatDoor
