import Derived.Test.YtpbnpmeigdjfdaaGreatDoorXKrg
import Derived.Deep.WholeRow
namespace Go.Proofs.YtpbnpmeigdjfdaaGreatDoor
open Go.RowKit
set_option linter.unusedSimpArgs false
set_option linter.unusedVariables false
set_option maxHeartbeats 16000000
set_option maxRecDepth 100000
def ctrOf (c : Cf) (i : Int) : Ct := match c.ctrs[i.toNat]? with | some x => x | none => ⟨[], 0, 0, 0⟩
def timesL (c : Cf) (x : Al) : Bool := if (x.auto.length : Int) == 0 then ((x.time : Int) == 0 && (x.cycle : Int) == 0) else (inR x.time 1 (ctrOf c x.ctr).max && ((x.cycle : Int) == 0 || inR x.cycle (ctrOf c x.ctr).min (ctrOf c x.ctr).max))
theorem alarmTimesFit_any (w : World) (c : Cf) (v : Vs) (h : CfAt w c v) (i : Nat) (x : Al) (hi : c.als[i]? = some x) (hv : isId x.ctr v.k.n = true) :
  Calls Tryz.prog 139 #[.agg (cfC c v), I i] w fun e w' => Ans w (timesL c x) e w' := by
 have hn : v.a.n = c.als.length := h.a.n
 have hlt : (i : Int) < v.a.n := by have := (List.getElem?_eq_some_iff.1 hi).1; omega
 obtain ⟨g, off, s6, e, hg, a0, a1, a2, a3, a4, a5, a6, a7, a8, r6⟩ := al_at h hi
 have hne : g ≠ w.heap.size := by omega
 have hb := below_alloc w
 have hb2 := fun o o' => (hb o).trans ((below_alloc (w.alloc o) o').mono (hb o).size)
 have hl6 : Hid (s6.n = x.auto.length) := r6.n
 have hr : 0 ≤ x.ctr ∧ x.ctr < v.k.n := by simpa [isId] using hv
 obtain ⟨q, hq⟩ := Int.eq_ofNat_of_zero_le hr.1
 have hq' : (q : Int) < v.k.n := by omega
 have hql : q < c.ctrs.length := by have := h.k.n; omega
 obtain ⟨y, hy⟩ : ∃ y, c.ctrs[q]? = some y := ⟨_, List.getElem?_eq_getElem hql⟩
 obtain ⟨g', off', e', hg', b0, b1, b2, b3⟩ := ct_at h hy
 have hne' : g' ≠ w.heap.size := by omega
 have hgl : g' < w.heap.size + 1 := by omega
 have hne'' : g' ≠ w.heap.size + 1 := by omega
 have HY : Hid (ctrOf c x.ctr = y) := by show _ = _; rw [ctrOf, hq]; simp [hy]
 have c1 := within_u32 x.time 1 y.max
 have c2 := within_u32 x.cycle y.min y.max
 have hb3 := fun o o' o'' => (hb2 o o').trans ((below_alloc ((w.alloc o).alloc o') o'').mono (hb2 o o').size)
 obtain ⟨B, hB⟩ : ∃ B, B = timesL c x := ⟨_, rfl⟩
 rw [← hB]
 have HB : Hid (B = _) := hB
 rw [hq] at a1
 clear hB hv hr hq hql hy
 have f14 : ∀ h : 14 < (cfC c v).size, (cfC c v)[14] = .slice v.k.a v.k.n v.k.c := fun _ => rfl
 have f15 : ∀ h : 15 < (cfC c v).size, (cfC c v)[15] = .slice v.a.a v.a.n v.a.c := fun _ => rfl
 have hs18 : (cfC c v).size = 18 := rfl
 generalize cfC c v = C at *
 replace f14 := f14 (by omega)
 replace f15 := f15 (by omega)
 rw [e] at f15
 clear hi hn
 rw [e'] at f14
 cases hau : (s6.n : Int) == 0 with
 | true =>
  have HE : Hid (B = ((x.time : Int) == 0 && (x.cycle : Int) == 0)) := by show _ = _; rw [HB.out, timesL, ← hl6.out, hau]; rfl
  clear HB
  cases htm : (x.time : Int) == 0 with
  | false =>
   go_enter Tryz.func139, Tryz.ntmps139
   go_wp2
   go_ret
   exact ⟨ret_bool (by rw [HE.out, htm]; rfl), by first | exact hb2 _ _ | exact hb _⟩
  | true =>
   go_enter Tryz.func139, Tryz.ntmps139
   go_wp2
   go_ret
   exact ⟨ret_bool (by rw [HE.out, htm]; rfl), by first | exact hb2 _ _ | exact hb _⟩
 | false =>
  have HE : Hid (B = (inR x.time 1 y.max && ((x.cycle : Int) == 0 || inR x.cycle y.min y.max))) := by show _ = _; rw [HB.out, timesL, ← hl6.out, hau, HY.out]; rfl
  clear HB
  generalize inR x.time 1 y.max = b1 at *
  cases b1 with
  | false =>
   go_enter Tryz.func139, Tryz.ntmps139
   go_wp2_with (first | (go_at_call 170; refine (c1 _).mono ?_; clear c1; rintro e w' ⟨rfl, rfl⟩) | (go_at_call 170; refine (c2 _).mono ?_; clear c2; rintro e w' ⟨rfl, rfl⟩))
   go_ret
   exact ⟨ret_bool (by rw [HE.out]; rfl), hb3 _ _ _⟩
  | true =>
   cases hcy : (x.cycle : Int) == 0 with
   | true =>
    go_enter Tryz.func139, Tryz.ntmps139
    go_wp2_with (first | (go_at_call 170; refine (c1 _).mono ?_; clear c1; rintro e w' ⟨rfl, rfl⟩) | (go_at_call 170; refine (c2 _).mono ?_; clear c2; rintro e w' ⟨rfl, rfl⟩))
    go_ret
    exact ⟨ret_bool (by rw [HE.out, hcy]; rfl), hb3 _ _ _⟩
   | false =>
    generalize inR x.cycle y.min y.max = b2 at *
    go_enter Tryz.func139, Tryz.ntmps139
    go_wp2_with (first | (go_at_call 170; refine (c1 _).mono ?_; clear c1; rintro e w' ⟨rfl, rfl⟩) | (go_at_call 170; refine (c2 _).mono ?_; clear c2; rintro e w' ⟨rfl, rfl⟩))
    go_ret
    exact ⟨ret_bool (by rw [HE.out, hcy]; rfl), hb3 _ _ _⟩
def clashL (a x : Is) : Bool := a.prio == x.prio || (a.cat != x.cat && (decide (x.cat < a.cat) == decide (x.prio < a.prio)))
theorem below_set {B : Nat} {w W : World} (h : Below B w W) {b k : Nat} {v : Value} (hb : B ≤ b) (hs : B ≤ W.heap.size) : Below B w (W.setCell ⟨b, k, none⟩ v) := h.trans (below_of_grown (grown_set W b k v) hb hs)
theorem all_take {α : Type} (p : α → Bool) (l : List α) (j : Nat) (x : α) (hx : l[j]? = some x) : (l.take (j + 1)).all p = ((l.take j).all p && p x) := by
 rw [List.take_add_one, hx, Option.toList_some, List.all_append]
 simp
theorem all_short {α : Type} (p : α → Bool) (l : List α) (i j : Nat) (hij : j ≤ i) (h : (l.take j).all p = false) : (l.take i).all p = false := by
 rw [List.all_eq_false] at h ⊢
 obtain ⟨x, hx, hp⟩ := h
 refine ⟨x, ?_, hp⟩
 obtain ⟨k, hk⟩ := List.mem_iff_getElem?.1 hx
 rw [List.getElem?_take] at hk
 split at hk
 ·exact List.mem_iff_getElem?.2 ⟨k, by rw [List.getElem?_take, if_pos (by omega)]; exact hk⟩
 ·cases hk
theorem isrsAreInOrder_any (w : World) (c : Cf) (v : Vs) (h : CfAt w c v) (i : Nat) (x : Is) (hi : c.isrs[i]? = some x) :
  Calls Tryz.prog 146 #[.agg (cfC c v), I i] w fun e w' => Ans w ((c.isrs.take i).all (fun a => !clashL a x)) e w' := by
 have hn : v.i.n = c.isrs.length := h.i.n
 have hlt : (i : Int) < v.i.n := by have := (List.getElem?_eq_some_iff.1 hi).1; omega
 obtain ⟨g, off, s3, s4, e, hg, a0, a1, a2, a3, a4, r3, r4⟩ := is_at h hi
 have hne : g ≠ w.heap.size := by omega
 have hb := below_alloc w
 have hb2 := fun o o' => (hb o).trans ((below_alloc (w.alloc o) o').mono (hb o).size)
 have hic : i ≤ v.i.c := by have := h.i.c; omega
 have hic0 : ¬ v.i.c = 0 := by have := h.i.c; omega
 have HI : Hid (i < c.isrs.length) := (List.getElem?_eq_some_iff.1 hi).1
 have hil : (i : Int) ≤ 9223372036854775807 := by have := h.i.m; unfold maxLen at this; omega
 have f16 : ∀ h : 16 < (cfC c v).size, (cfC c v)[16] = .slice v.i.a v.i.n v.i.c := fun _ => rfl
 have hs18 : (cfC c v).size = 18 := rfl
 generalize cfC c v = C at *
 replace f16 := f16 (by omega)
 rw [e] at f16
 clear hi hn
 go_enter Tryz.func146, Tryz.ntmps146
 go_wp2
 have kx1 : ((w.alloc (.cells C 33)).alloc (.cells #[S x.name, I x.cat, I x.prio, .slice s3.a s3.n s3.c, .slice s4.a s4.n s4.c] 103)).cell? ⟨w.heap.size + 1, 1, none⟩ = some (I x.cat) := by
  simp
 have kx2 : ((w.alloc (.cells C 33)).alloc (.cells #[S x.name, I x.cat, I x.prio, .slice s3.a s3.n s3.c, .slice s4.a s4.n s4.c] 103)).cell? ⟨w.heap.size + 1, 2, none⟩ = some (I x.prio) := by
  simp
 have hbw := hb2 (.cells C 33) (.cells #[S x.name, I x.cat, I x.prio, .slice s3.a s3.n s3.c, .slice s4.a s4.n s4.c] 103)
 have hs2 : ((w.alloc (.cells C 33)).alloc (.cells #[S x.name, I x.cat, I x.prio, .slice s3.a s3.n s3.c, .slice s4.a s4.n s4.c] 103)).heap.size = w.heap.size + 2 := by simp
 have h2 := h.below hbw
 clear a0 a1 a2 a3 a4 r3 r4 h hb hb2 f16 hs18
 generalize ((w.alloc (.cells C 33)).alloc (.cells #[S x.name, I x.cat, I x.prio, .slice s3.a s3.n s3.c, .slice s4.a s4.n s4.c] 103)) = W2 at *
 go_loopw [7, 18] (fun _ iv wr => ∃ j : Nat, j ≤ i ∧ iv = .int .i64 j ∧ Hid (Below W2.heap.size W2 wr) ∧ Hid ((c.isrs.take j).all (fun a => !clashL a x) = true)) (fun _ iv _ => i - (intOf iv).toNat)
 case atStart => exact ⟨0, by omega, rfl, Below.refl _ _, by show _ = _; simp⟩
 case round =>
  obtain ⟨j, hj, rfl, HW, HA⟩ := hrel
  have hBr := HW.out
  have hszr := hBr.size
  by_cases hjl : j < i
  ·have hjl' : (j : Int) < i := by omega
   have hjn : j < c.isrs.length := by have := HI.out; omega
   obtain ⟨y, hy⟩ : ∃ y, c.isrs[j]? = some y := ⟨_, List.getElem?_eq_getElem hjn⟩
   obtain ⟨g', off', t3, t4, e', hg', b0, b1, b2, b3, b4, _, _⟩ := is_at (h2.below hBr) hy
   rw [e] at e'
   obtain ⟨rfl, rfl⟩ : g = g' ∧ off = off' := by cases e'; exact ⟨rfl, rfl⟩
   have y1 : wr.cell? ⟨w.heap.size + 1, 1, none⟩ = some (I x.cat) := by rw [cell_below hBr _ _ (by omega)]; exact kx1
   have y2 : wr.cell? ⟨w.heap.size + 1, 2, none⟩ = some (I x.prio) := by rw [cell_below hBr _ _ (by omega)]; exact kx2
   have hlw : w.heap.size + 1 < wr.heap.size := by omega
   have hnw : w.heap.size + 1 ≠ wr.heap.size := by omega
   have hng : g ≠ wr.heap.size := by omega
   have HT := all_take (fun a => !clashL a x) c.isrs j y hy
   have HT2 : Hid ((c.isrs.take (j + 1)).all (fun a => !clashL a x) = !clashL y x) := by show _ = _; rw [HT, HA.out, Bool.true_and]
   have HC : Hid (clashL y x = (y.prio == x.prio || (y.cat != x.cat && (decide (x.cat < y.cat) == decide (x.prio < y.prio))))) := rfl
   have HF : Hid (clashL y x = true → (c.isrs.take i).all (fun a => !clashL a x) = false) := fun hc => all_short _ _ i (j + 1) (by omega) (by rw [HT2.out, hc]; rfl)
   have hst : (storeCells ⟨wr.heap.size, 0, none⟩ [S y.name, I y.cat, I y.prio, .slice t3.a t3.n t3.c, .slice t4.a t4.n t4.c] 0).run Tryz.prog (wr.alloc (.cells #[.string ⟨#[]⟩, .int .i64 0, .int .i64 0, .slice none 0 0, .slice none 0 0] 103)) = .ok () (wr.alloc (.cells #[S y.name, I y.cat, I y.prio, .slice t3.a t3.n t3.c, .slice t4.a t4.n t4.c] 103)) :=
    run_storeCells_new (P := Tryz.prog) wr 103 #[.string ⟨#[]⟩, .int .i64 0, .int .i64 0, .slice none 0 0, .slice none 0 0] #[S y.name, I y.cat, I y.prio, .slice t3.a t3.n t3.c, .slice t4.a t4.n t4.c] (by kernel_rfl) rfl (by simp [Value.oneCell'])
   clear hy hjn e' HT HA
   generalize clashL y x = K at *
   cases hp : y.prio == x.prio with
   | true =>
    have HK : Hid ((c.isrs.take i).all (fun a => !clashL a x) = false) := HF.out (by rw [HC.out, hp]; rfl)
    clear HF HC HT2
    go_wp2
    go_ret
    exact ⟨ret_bool HK.out.symm, hbw.trans ((hBr.alloc hszr _).mono hbw.size)⟩
   | false =>
    cases hc : y.cat != x.cat with
    | false =>
     have HK : Hid ((c.isrs.take (j + 1)).all (fun a => !clashL a x) = true) := by show _ = _; rw [HT2.out, HC.out, hp, hc]; rfl
     clear HF HC HT2
     go_wp2
     go_roundw
     case rel => exact ⟨j + 1, by omega, by go_num, hBr.alloc hszr _, HK⟩
     case measure => simp [intOf]; omega
    | true =>
     cases hd : decide (x.cat < y.cat) == decide (x.prio < y.prio) with
     | true =>
      have HK : Hid ((c.isrs.take i).all (fun a => !clashL a x) = false) := HF.out (by rw [HC.out, hp, hc, hd]; rfl)
      clear HF HC HT2
      go_wp2
      go_ret
      exact ⟨ret_bool HK.out.symm, hbw.trans ((hBr.alloc hszr _).mono hbw.size)⟩
     | false =>
      have HK : Hid ((c.isrs.take (j + 1)).all (fun a => !clashL a x) = true) := by show _ = _; rw [HT2.out, HC.out, hp, hc, hd]; rfl
      clear HF HC HT2
      go_wp2
      go_roundw
      case rel => exact ⟨j + 1, by omega, by go_num, hBr.alloc hszr _, HK⟩
      case measure => simp [intOf]; omega
  ·obtain rfl : j = i := by omega
   have hjl' : ¬ (j : Int) < j := by omega
   go_wp2
   go_ret
   exact ⟨ret_bool HA.out.symm, hbw.trans (hBr.mono hbw.size)⟩
def lenOK (n : Int) : Bool := n == 1 || n == 2 || n == 4 || n == 8
theorem isLength_any (n : Int) (w : World) : Calls Tryz.prog 182 #[I n] w fun e w' => e = .returned (.bool (lenOK n)) ∧ w' = w := by
 unfold lenOK
 cases h1 : n == 1 with
 | true => go_enter Tryz.func182, Tryz.ntmps182; go_wp2; go_ret; exact ⟨ret_bool (by simp), rfl⟩
 | false =>
  cases h2 : n == 2 with
  | true => go_enter Tryz.func182, Tryz.ntmps182; go_wp2; go_ret; exact ⟨ret_bool (by simp), rfl⟩
  | false =>
   cases h4 : n == 4 with
   | true => go_enter Tryz.func182, Tryz.ntmps182; go_wp2; go_ret; exact ⟨ret_bool (by simp), rfl⟩
   | false => go_enter Tryz.func182, Tryz.ntmps182; go_wp2; go_ret; exact ⟨ret_bool (by simp), rfl⟩
def msgF (x : Ms) : Bool := if x.kind == 1 then (lenOK x.len && x.frm == 0 && (x.init : Int) == 0 && x.queue == 0) else if x.kind == 2 then (x.len == 0 && x.queue == 0) else if x.kind == 3 then (x.len == 0 && (x.init : Int) == 0 && inR x.queue 1 16) else false
theorem messageFieldsFit_any (w : World) (c : Cf) (v : Vs) (h : CfAt w c v) (i : Nat) (x : Ms) (hi : c.msgs[i]? = some x) :
  Calls Tryz.prog 149 #[.agg (cfC c v), I i] w fun e w' => Ans w (msgF x) e w' := by
 have hn : v.s.n = c.msgs.length := h.s.n
 have hlt : (i : Int) < v.s.n := by have := (List.getElem?_eq_some_iff.1 hi).1; omega
 obtain ⟨g, off, e, hg, a0, a1, a2, a3, a4, a5, a6, a7, a8, a9⟩ := ms_at h hi
 have hne : g ≠ w.heap.size := by omega
 have hb := below_alloc w
 have hb2 := fun o o' => (hb o).trans ((below_alloc (w.alloc o) o').mono (hb o).size)
 have c1 := isLength_any x.len
 have c2 := within_int x.queue 1 16
 obtain ⟨B, hB⟩ : ∃ B, B = msgF x := ⟨_, rfl⟩
 rw [← hB]
 have HB : Hid (B = _) := hB
 clear hB
 have f17 : ∀ h : 17 < (cfC c v).size, (cfC c v)[17] = .slice v.s.a v.s.n v.s.c := fun _ => rfl
 have hs18 : (cfC c v).size = 18 := rfl
 generalize cfC c v = C at *
 replace f17 := f17 (by omega)
 rw [e] at f17
 clear hi hn
 cases hk1 : x.kind == 1 with
 | true =>
  have HE : Hid (B = (lenOK x.len && x.frm == 0 && (x.init : Int) == 0 && x.queue == 0)) := by show _ = _; rw [HB.out, msgF, hk1]; rfl
  clear HB
  generalize lenOK x.len = b1 at *
  cases b1 with
  | false =>
   go_enter Tryz.func149, Tryz.ntmps149
   go_wp2_with (first | (go_at_call 182; refine (c1 _).mono ?_; clear c1; rintro e w' ⟨rfl, rfl⟩) | (go_at_call 86; refine (c2 _).mono ?_; clear c2; rintro e w' ⟨rfl, rfl⟩))
   go_ret
   exact ⟨ret_bool (by first | (rw [HE.out]; rfl) | rw [HE.out]), hb2 _ _⟩
  | true =>
   cases hf : x.frm == 0 with
   | false =>
    go_enter Tryz.func149, Tryz.ntmps149
    go_wp2_with (first | (go_at_call 182; refine (c1 _).mono ?_; clear c1; rintro e w' ⟨rfl, rfl⟩) | (go_at_call 86; refine (c2 _).mono ?_; clear c2; rintro e w' ⟨rfl, rfl⟩))
    go_ret
    exact ⟨ret_bool (by first | (rw [HE.out, hf]; rfl) | rw [HE.out, hf]), hb2 _ _⟩
   | true =>
    cases hi0 : (x.init : Int) == 0 with
    | false =>
     go_enter Tryz.func149, Tryz.ntmps149
     go_wp2_with (first | (go_at_call 182; refine (c1 _).mono ?_; clear c1; rintro e w' ⟨rfl, rfl⟩) | (go_at_call 86; refine (c2 _).mono ?_; clear c2; rintro e w' ⟨rfl, rfl⟩))
     go_ret
     exact ⟨ret_bool (by first | (rw [HE.out, hf, hi0]; rfl) | rw [HE.out, hf, hi0]), hb2 _ _⟩
    | true =>
     cases hq0 : x.queue == 0 with
     | false =>
      go_enter Tryz.func149, Tryz.ntmps149
      go_wp2_with (first | (go_at_call 182; refine (c1 _).mono ?_; clear c1; rintro e w' ⟨rfl, rfl⟩) | (go_at_call 86; refine (c2 _).mono ?_; clear c2; rintro e w' ⟨rfl, rfl⟩))
      go_ret
      exact ⟨ret_bool (by first | (rw [HE.out, hf, hi0, hq0]; rfl) | rw [HE.out, hf, hi0, hq0]), hb2 _ _⟩
     | true =>
      go_enter Tryz.func149, Tryz.ntmps149
      go_wp2_with (first | (go_at_call 182; refine (c1 _).mono ?_; clear c1; rintro e w' ⟨rfl, rfl⟩) | (go_at_call 86; refine (c2 _).mono ?_; clear c2; rintro e w' ⟨rfl, rfl⟩))
      go_ret
      exact ⟨ret_bool (by first | (rw [HE.out, hf, hi0, hq0]; rfl) | rw [HE.out, hf, hi0, hq0]), hb2 _ _⟩
 | false =>
  cases hk2 : x.kind == 2 with
  | true =>
   have HE : Hid (B = (x.len == 0 && x.queue == 0)) := by show _ = _; rw [HB.out, msgF, hk1, hk2]; rfl
   clear HB
   cases hl0 : x.len == 0 with
   | false =>
    go_enter Tryz.func149, Tryz.ntmps149
    go_wp2_with (first | (go_at_call 182; refine (c1 _).mono ?_; clear c1; rintro e w' ⟨rfl, rfl⟩) | (go_at_call 86; refine (c2 _).mono ?_; clear c2; rintro e w' ⟨rfl, rfl⟩))
    go_ret
    exact ⟨ret_bool (by first | (rw [HE.out, hl0]; rfl) | rw [HE.out, hl0]), hb2 _ _⟩
   | true =>
    cases hq0 : x.queue == 0 with
    | false =>
     go_enter Tryz.func149, Tryz.ntmps149
     go_wp2_with (first | (go_at_call 182; refine (c1 _).mono ?_; clear c1; rintro e w' ⟨rfl, rfl⟩) | (go_at_call 86; refine (c2 _).mono ?_; clear c2; rintro e w' ⟨rfl, rfl⟩))
     go_ret
     exact ⟨ret_bool (by first | (rw [HE.out, hl0, hq0]; rfl) | rw [HE.out, hl0, hq0]), hb2 _ _⟩
    | true =>
     go_enter Tryz.func149, Tryz.ntmps149
     go_wp2_with (first | (go_at_call 182; refine (c1 _).mono ?_; clear c1; rintro e w' ⟨rfl, rfl⟩) | (go_at_call 86; refine (c2 _).mono ?_; clear c2; rintro e w' ⟨rfl, rfl⟩))
     go_ret
     exact ⟨ret_bool (by first | (rw [HE.out, hl0, hq0]; rfl) | rw [HE.out, hl0, hq0]), hb2 _ _⟩
  | false =>
   cases hk3 : x.kind == 3 with
   | true =>
    have HE : Hid (B = (x.len == 0 && (x.init : Int) == 0 && inR x.queue 1 16)) := by show _ = _; rw [HB.out, msgF, hk1, hk2, hk3]; rfl
    clear HB
    cases hl0 : x.len == 0 with
    | false =>
     go_enter Tryz.func149, Tryz.ntmps149
     go_wp2_with (first | (go_at_call 182; refine (c1 _).mono ?_; clear c1; rintro e w' ⟨rfl, rfl⟩) | (go_at_call 86; refine (c2 _).mono ?_; clear c2; rintro e w' ⟨rfl, rfl⟩))
     go_ret
     exact ⟨ret_bool (by first | (rw [HE.out, hl0]; rfl) | rw [HE.out, hl0]), hb2 _ _⟩
    | true =>
     cases hi0 : (x.init : Int) == 0 with
     | false =>
      go_enter Tryz.func149, Tryz.ntmps149
      go_wp2_with (first | (go_at_call 182; refine (c1 _).mono ?_; clear c1; rintro e w' ⟨rfl, rfl⟩) | (go_at_call 86; refine (c2 _).mono ?_; clear c2; rintro e w' ⟨rfl, rfl⟩))
      go_ret
      exact ⟨ret_bool (by first | (rw [HE.out, hl0, hi0]; rfl) | rw [HE.out, hl0, hi0]), hb2 _ _⟩
     | true =>
      generalize inR x.queue 1 16 = b2 at *
      go_enter Tryz.func149, Tryz.ntmps149
      go_wp2_with (first | (go_at_call 182; refine (c1 _).mono ?_; clear c1; rintro e w' ⟨rfl, rfl⟩) | (go_at_call 86; refine (c2 _).mono ?_; clear c2; rintro e w' ⟨rfl, rfl⟩))
      go_ret
      exact ⟨ret_bool (by first | (rw [HE.out, hl0, hi0]; rfl) | rw [HE.out, hl0, hi0]), hb2 _ _⟩
   | false =>
    have HE : Hid (B = false) := by show _ = _; rw [HB.out, msgF, hk1, hk2, hk3]; rfl
    clear HB
    go_enter Tryz.func149, Tryz.ntmps149
    go_wp2_with (first | (go_at_call 182; refine (c1 _).mono ?_; clear c1; rintro e w' ⟨rfl, rfl⟩) | (go_at_call 86; refine (c2 _).mono ?_; clear c2; rintro e w' ⟨rfl, rfl⟩))
    go_ret
    exact ⟨ret_bool (by first | (rw [HE.out]; rfl) | rw [HE.out]), hb2 _ _⟩
def mkind (c : Cf) (i : Int) : Int := match c.msgs[i.toNat]? with | some x => x.kind | none => 0
def mlen (c : Cf) (i : Int) : Int := match c.msgs[i.toNat]? with | some x => x.len | none => 0
theorem fromIsSent_any (w : World) (c : Cf) (v : Vs) (h : CfAt w c v) (i : Nat) (x : Ms) (hi : c.msgs[i]? = some x) :
  Calls Tryz.prog 150 #[.agg (cfC c v), I i] w fun e w' => Ans w (x.kind == 1 || (isId x.frm v.s.n && mkind c x.frm == 1)) e w' := by
 have hn : v.s.n = c.msgs.length := h.s.n
 have hlt : (i : Int) < v.s.n := by have := (List.getElem?_eq_some_iff.1 hi).1; omega
 obtain ⟨g, off, e, hg, a0, a1, a2, a3, a4, a5, a6, a7, a8, a9⟩ := ms_at h hi
 have hne : g ≠ w.heap.size := by omega
 have hb := below_alloc w
 have hb2 := fun o o' => (hb o).trans ((below_alloc (w.alloc o) o').mono (hb o).size)
 have c1 := isID_any x.frm v.s.n
 obtain ⟨B, hB⟩ : ∃ B, B = (x.kind == 1 || (isId x.frm v.s.n && mkind c x.frm == 1)) := ⟨_, rfl⟩
 rw [← hB]
 have HB : Hid (B = _) := hB
 have HN : Hid (v.s.n = c.msgs.length) := h.s.n
 have hgl : g < w.heap.size + 1 := by omega
 have hne1 : g ≠ w.heap.size + 1 := by omega
 clear hB
 have f17 : ∀ h : 17 < (cfC c v).size, (cfC c v)[17] = .slice v.s.a v.s.n v.s.c := fun _ => rfl
 have hs18 : (cfC c v).size = 18 := rfl
 generalize cfC c v = C at *
 replace f17 := f17 (by omega)
 rw [e] at f17
 clear hi hn
 cases hk1 : x.kind == 1 with
 | true =>
  have HE : Hid (B = true) := by show _ = _; rw [HB.out, hk1]; rfl
  clear HB
  go_enter Tryz.func150, Tryz.ntmps150
  go_wp2_with (first | (go_at_call 165; refine (c1 _).mono ?_; clear c1; rintro e w' ⟨rfl, rfl⟩))
  go_ret
  exact ⟨ret_bool HE.out.symm, hb2 _ _⟩
 | false =>
  cases hid : isId x.frm v.s.n with
  | false =>
   have HE : Hid (B = false) := by show _ = _; rw [HB.out, hk1, hid]; rfl
   rw [hid] at c1
   clear HB hid
   go_enter Tryz.func150, Tryz.ntmps150
   go_wp2_with (first | (go_at_call 165; refine (c1 _).mono ?_; clear c1; rintro e w' ⟨rfl, rfl⟩))
   go_ret
   exact ⟨ret_bool HE.out.symm, hb2 _ _⟩
  | true =>
   have hr : 0 ≤ x.frm ∧ x.frm < v.s.n := by simpa [isId] using hid
   obtain ⟨q, hq⟩ := Int.eq_ofNat_of_zero_le hr.1
   have hq' : (q : Int) < v.s.n := by omega
   have hql : q < c.msgs.length := by rw [← HN.out]; omega
   obtain ⟨y, hy⟩ : ∃ y, c.msgs[q]? = some y := ⟨_, List.getElem?_eq_getElem hql⟩
   obtain ⟨g', off', e', hg', b0, b1, b2, b3, b4, b5, b6, b7, b8, b9⟩ := ms_at h hy
   rw [e] at e'
   obtain ⟨rfl, rfl⟩ : g = g' ∧ off = off' := by cases e'; exact ⟨rfl, rfl⟩
   have HE : Hid (B = (y.kind == 1)) := by show _ = _; rw [HB.out, hk1, hid, hq]; simp [mkind, hy]
   rw [hid] at c1
   rw [hq] at a3 c1
   clear HB hid hr hq hql hy e' b0 b2 b3 b4 b5 b6 b7 b8 b9
   go_enter Tryz.func150, Tryz.ntmps150
   go_wp2_with (first | (go_at_call 165; refine (c1 _).mono ?_; clear c1; rintro e w' ⟨rfl, rfl⟩))
   go_ret
   exact ⟨ret_bool HE.out.symm, hb2 _ _⟩
theorem width_any (n : Int) (w : World) : Calls Tryz.prog 191 #[I n] w fun e w' => e = .returned (.bool (inR n 1 8)) ∧ w' = w := by
 unfold inR
 by_cases h1 : 1 ≤ n <;> by_cases h2 : n ≤ 8 <;> (go_enter Tryz.func191, Tryz.ntmps191; go_wp2; go_ret; exact ⟨ret_bool (by simp [h1, h2]), rfl⟩)
def fitsB (x n : Nat) : Bool := (x : Int) / 2 ^ (8 * n) == 0
theorem fits_any (x : Nat) (n : Nat) (hn : 1 ≤ n) (h7 : n ≤ 7) (w : World) : Calls Tryz.prog 192 #[.int .u64 (x : Int), I n] w fun e w' => e = .returned (.bool (fitsB x n)) ∧ w' = w := by
 go_enter Tryz.func192, Tryz.ntmps192
 go_wp2
 go_ret
 exact ⟨rfl, rfl⟩
end Go.Proofs.YtpbnpmeigdjfdaaGreatDoor
