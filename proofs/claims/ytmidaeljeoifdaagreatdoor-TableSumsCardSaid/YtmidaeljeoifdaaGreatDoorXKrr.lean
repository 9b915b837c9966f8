import Derived.Test.YtmidaeljeoifdaaGreatDoorXKri
namespace Go.Proofs.YtmidaeljeoifdaaGreatDoor
open Go.RowKit
set_option linter.unusedSimpArgs false
set_option linter.unusedVariables false
set_option maxHeartbeats 16000000
set_option maxRecDepth 100000
def qcw (n : Int) : Bool := n == 1 || n == 2 || n == 4 || n == 8
theorem qjt (n : Int) (w : World) : Calls Tryz.prog 289 #[I n] w fun e w' => e = .returned (.bool (qcw n)) ∧ w' = w := by
 unfold qcw
 cases h1 : n == 1 with
 | true => go_enter Tryz.func289,Tryz.ntmps289; go_wp2; go_ret; exact ⟨qa4 (by simp),rfl⟩
 | false =>
  cases h2 : n == 2 with
  | true => go_enter Tryz.func289,Tryz.ntmps289; go_wp2; go_ret; exact ⟨qa4 (by simp),rfl⟩
  | false =>
   cases h4 : n == 4 with
   | true => go_enter Tryz.func289,Tryz.ntmps289; go_wp2; go_ret; exact ⟨qa4 (by simp),rfl⟩
   | false => go_enter Tryz.func289,Tryz.ntmps289; go_wp2; go_ret; exact ⟨qa4 (by simp),rfl⟩
def msgF (x : Ms) : Bool := if x.kind == 1 then (qcw x.len && x.frm == 0 && (x.init : Int) == 0 && x.queue == 0) else if x.kind == 2 then (x.len == 0 && x.queue == 0) else if x.kind == 3 then (x.len == 0 && (x.init : Int) == 0 && inR x.queue 1 16) else false
theorem qed (w : World) (c : Cf) (v : Vs) (h : CfAt w c v) (i : Nat) (x : Ms) (hi : c.msgs[i]? = some x) :
  Calls Tryz.prog 253 #[.agg (cfC c v),I i] w fun e w' => Ans w (msgF x) e w' := by
 have hn : v.s.n = c.msgs.length := h.s.n
 have hlt : (i : Int) < v.s.n := by have := (List.getElem?_eq_some_iff.1 hi).1; omega
 obtain ⟨g,off,e,hg,a0,a1,a2,a3,a4,a5,a6,a7,a8,a9⟩ := qbz h hi
 have hne : g ≠ w.heap.size := by omega
 have hb := qa0 w
 have hb2 := fun o o' => (hb o).trans ((qa0 (w.alloc o) o').mono (hb o).size)
 have c1 := qjt x.len
 have c2 := qbs x.queue 1 16
 obtain ⟨B,hB⟩ : ∃ B,B = msgF x := ⟨_,rfl⟩
 rw [← hB]
 have HB : Hid (B = _) := hB
 clear hB
 have f17 : ∀ h : 17 < (cfC c v).size,(cfC c v)[17] = .slice v.s.a v.s.n v.s.c := fun _ => rfl
 have hs18 : (cfC c v).size = 18 := rfl
 generalize cfC c v = C at *
 replace f17 := f17 (by omega)
 rw [e] at f17
 clear hi hn
 cases hk1 : x.kind == 1 with
 | true =>
  have HE : Hid (B = (qcw x.len && x.frm == 0 && (x.init : Int) == 0 && x.queue == 0)) := by show _ = _; rw [HB.out,msgF,hk1]; rfl
  clear HB
  generalize qcw x.len = b1 at *
  cases b1 with
  | false =>
   go_enter Tryz.func253,Tryz.ntmps253
   go_wp2_with (first | (go_at_call 289; refine (c1 _).mono ?_; clear c1; rintro e w' ⟨rfl,rfl⟩) | (go_at_call 193; refine (c2 _).mono ?_; clear c2; rintro e w' ⟨rfl,rfl⟩))
   go_ret
   exact ⟨qa4 (by first | (rw [HE.out]; rfl) | rw [HE.out]),hb2 _ _⟩
  | true =>
   cases hf : x.frm == 0 with
   | false =>
    go_enter Tryz.func253,Tryz.ntmps253
    go_wp2_with (first | (go_at_call 289; refine (c1 _).mono ?_; clear c1; rintro e w' ⟨rfl,rfl⟩) | (go_at_call 193; refine (c2 _).mono ?_; clear c2; rintro e w' ⟨rfl,rfl⟩))
    go_ret
    exact ⟨qa4 (by first | (rw [HE.out,hf]; rfl) | rw [HE.out,hf]),hb2 _ _⟩
   | true =>
    cases hi0 : (x.init : Int) == 0 with
    | false =>
     go_enter Tryz.func253,Tryz.ntmps253
     go_wp2_with (first | (go_at_call 289; refine (c1 _).mono ?_; clear c1; rintro e w' ⟨rfl,rfl⟩) | (go_at_call 193; refine (c2 _).mono ?_; clear c2; rintro e w' ⟨rfl,rfl⟩))
     go_ret
     exact ⟨qa4 (by first | (rw [HE.out,hf,hi0]; rfl) | rw [HE.out,hf,hi0]),hb2 _ _⟩
    | true =>
     cases hq0 : x.queue == 0 with
     | false =>
      go_enter Tryz.func253,Tryz.ntmps253
      go_wp2_with (first | (go_at_call 289; refine (c1 _).mono ?_; clear c1; rintro e w' ⟨rfl,rfl⟩) | (go_at_call 193; refine (c2 _).mono ?_; clear c2; rintro e w' ⟨rfl,rfl⟩))
      go_ret
      exact ⟨qa4 (by first | (rw [HE.out,hf,hi0,hq0]; rfl) | rw [HE.out,hf,hi0,hq0]),hb2 _ _⟩
     | true =>
      go_enter Tryz.func253,Tryz.ntmps253
      go_wp2_with (first | (go_at_call 289; refine (c1 _).mono ?_; clear c1; rintro e w' ⟨rfl,rfl⟩) | (go_at_call 193; refine (c2 _).mono ?_; clear c2; rintro e w' ⟨rfl,rfl⟩))
      go_ret
      exact ⟨qa4 (by first | (rw [HE.out,hf,hi0,hq0]; rfl) | rw [HE.out,hf,hi0,hq0]),hb2 _ _⟩
 | false =>
  cases hk2 : x.kind == 2 with
  | true =>
   have HE : Hid (B = (x.len == 0 && x.queue == 0)) := by show _ = _; rw [HB.out,msgF,hk1,hk2]; rfl
   clear HB
   cases hl0 : x.len == 0 with
   | false =>
    go_enter Tryz.func253,Tryz.ntmps253
    go_wp2_with (first | (go_at_call 289; refine (c1 _).mono ?_; clear c1; rintro e w' ⟨rfl,rfl⟩) | (go_at_call 193; refine (c2 _).mono ?_; clear c2; rintro e w' ⟨rfl,rfl⟩))
    go_ret
    exact ⟨qa4 (by first | (rw [HE.out,hl0]; rfl) | rw [HE.out,hl0]),hb2 _ _⟩
   | true =>
    cases hq0 : x.queue == 0 with
    | false =>
     go_enter Tryz.func253,Tryz.ntmps253
     go_wp2_with (first | (go_at_call 289; refine (c1 _).mono ?_; clear c1; rintro e w' ⟨rfl,rfl⟩) | (go_at_call 193; refine (c2 _).mono ?_; clear c2; rintro e w' ⟨rfl,rfl⟩))
     go_ret
     exact ⟨qa4 (by first | (rw [HE.out,hl0,hq0]; rfl) | rw [HE.out,hl0,hq0]),hb2 _ _⟩
    | true =>
     go_enter Tryz.func253,Tryz.ntmps253
     go_wp2_with (first | (go_at_call 289; refine (c1 _).mono ?_; clear c1; rintro e w' ⟨rfl,rfl⟩) | (go_at_call 193; refine (c2 _).mono ?_; clear c2; rintro e w' ⟨rfl,rfl⟩))
     go_ret
     exact ⟨qa4 (by first | (rw [HE.out,hl0,hq0]; rfl) | rw [HE.out,hl0,hq0]),hb2 _ _⟩
  | false =>
   cases hk3 : x.kind == 3 with
   | true =>
    have HE : Hid (B = (x.len == 0 && (x.init : Int) == 0 && inR x.queue 1 16)) := by show _ = _; rw [HB.out,msgF,hk1,hk2,hk3]; rfl
    clear HB
    cases hl0 : x.len == 0 with
    | false =>
     go_enter Tryz.func253,Tryz.ntmps253
     go_wp2_with (first | (go_at_call 289; refine (c1 _).mono ?_; clear c1; rintro e w' ⟨rfl,rfl⟩) | (go_at_call 193; refine (c2 _).mono ?_; clear c2; rintro e w' ⟨rfl,rfl⟩))
     go_ret
     exact ⟨qa4 (by first | (rw [HE.out,hl0]; rfl) | rw [HE.out,hl0]),hb2 _ _⟩
    | true =>
     cases hi0 : (x.init : Int) == 0 with
     | false =>
      go_enter Tryz.func253,Tryz.ntmps253
      go_wp2_with (first | (go_at_call 289; refine (c1 _).mono ?_; clear c1; rintro e w' ⟨rfl,rfl⟩) | (go_at_call 193; refine (c2 _).mono ?_; clear c2; rintro e w' ⟨rfl,rfl⟩))
      go_ret
      exact ⟨qa4 (by first | (rw [HE.out,hl0,hi0]; rfl) | rw [HE.out,hl0,hi0]),hb2 _ _⟩
     | true =>
      generalize inR x.queue 1 16 = b2 at *
      go_enter Tryz.func253,Tryz.ntmps253
      go_wp2_with (first | (go_at_call 289; refine (c1 _).mono ?_; clear c1; rintro e w' ⟨rfl,rfl⟩) | (go_at_call 193; refine (c2 _).mono ?_; clear c2; rintro e w' ⟨rfl,rfl⟩))
      go_ret
      exact ⟨qa4 (by first | (rw [HE.out,hl0,hi0]; rfl) | rw [HE.out,hl0,hi0]),hb2 _ _⟩
   | false =>
    have HE : Hid (B = false) := by show _ = _; rw [HB.out,msgF,hk1,hk2,hk3]; rfl
    clear HB
    go_enter Tryz.func253,Tryz.ntmps253
    go_wp2_with (first | (go_at_call 289; refine (c1 _).mono ?_; clear c1; rintro e w' ⟨rfl,rfl⟩) | (go_at_call 193; refine (c2 _).mono ?_; clear c2; rintro e w' ⟨rfl,rfl⟩))
    go_ret
    exact ⟨qa4 (by first | (rw [HE.out]; rfl) | rw [HE.out]),hb2 _ _⟩
def qcn (c : Cf) (i : Int) : Int := match c.msgs[i.toNat]? with | some x => x.kind | none => 0
def mlen (c : Cf) (i : Int) : Int := match c.msgs[i.toNat]? with | some x => x.len | none => 0
theorem qhw (w : World) (c : Cf) (v : Vs) (h : CfAt w c v) (i : Nat) (x : Ms) (hi : c.msgs[i]? = some x) :
  Calls Tryz.prog 254 #[.agg (cfC c v),I i] w fun e w' => Ans w (x.kind == 1 || (isId x.frm v.s.n && qcn c x.frm == 1)) e w' := by
 have hn : v.s.n = c.msgs.length := h.s.n
 have hlt : (i : Int) < v.s.n := by have := (List.getElem?_eq_some_iff.1 hi).1; omega
 obtain ⟨g,off,e,hg,a0,a1,a2,a3,a4,a5,a6,a7,a8,a9⟩ := qbz h hi
 have hne : g ≠ w.heap.size := by omega
 have hb := qa0 w
 have hb2 := fun o o' => (hb o).trans ((qa0 (w.alloc o) o').mono (hb o).size)
 have c1 := qc2 x.frm v.s.n
 obtain ⟨B,hB⟩ : ∃ B,B = (x.kind == 1 || (isId x.frm v.s.n && qcn c x.frm == 1)) := ⟨_,rfl⟩
 rw [← hB]
 have HB : Hid (B = _) := hB
 have HN : Hid (v.s.n = c.msgs.length) := h.s.n
 have hgl : g < w.heap.size + 1 := by omega
 have hne1 : g ≠ w.heap.size + 1 := by omega
 clear hB
 have f17 : ∀ h : 17 < (cfC c v).size,(cfC c v)[17] = .slice v.s.a v.s.n v.s.c := fun _ => rfl
 have hs18 : (cfC c v).size = 18 := rfl
 generalize cfC c v = C at *
 replace f17 := f17 (by omega)
 rw [e] at f17
 clear hi hn
 cases hk1 : x.kind == 1 with
 | true =>
  have HE : Hid (B = true) := by show _ = _; rw [HB.out,hk1]; rfl
  clear HB
  go_enter Tryz.func254,Tryz.ntmps254
  go_wp2_with (first | (go_at_call 272; refine (c1 _).mono ?_; clear c1; rintro e w' ⟨rfl,rfl⟩))
  go_ret
  exact ⟨qa4 HE.out.symm,hb2 _ _⟩
 | false =>
  cases hid : isId x.frm v.s.n with
  | false =>
   have HE : Hid (B = false) := by show _ = _; rw [HB.out,hk1,hid]; rfl
   rw [hid] at c1
   clear HB hid
   go_enter Tryz.func254,Tryz.ntmps254
   go_wp2_with (first | (go_at_call 272; refine (c1 _).mono ?_; clear c1; rintro e w' ⟨rfl,rfl⟩))
   go_ret
   exact ⟨qa4 HE.out.symm,hb2 _ _⟩
  | true =>
   have hr : 0 ≤ x.frm ∧ x.frm < v.s.n := by simpa [isId] using hid
   obtain ⟨q,hq⟩ := Int.eq_ofNat_of_zero_le hr.1
   have hq' : (q : Int) < v.s.n := by omega
   have hql : q < c.msgs.length := by rw [← HN.out]; omega
   obtain ⟨y,hy⟩ : ∃ y,c.msgs[q]? = some y := ⟨_,List.getElem?_eq_getElem hql⟩
   obtain ⟨g',off',e',hg',b0,b1,b2,b3,b4,b5,b6,b7,b8,b9⟩ := qbz h hy
   rw [e] at e'
   obtain ⟨rfl,rfl⟩ : g = g' ∧ off = off' := by cases e'; exact ⟨rfl,rfl⟩
   have HE : Hid (B = (y.kind == 1)) := by show _ = _; rw [HB.out,hk1,hid,hq]; simp [qcn,hy]
   rw [hid] at c1
   rw [hq] at a3 c1
   clear HB hid hr hq hql hy e' b0 b2 b3 b4 b5 b6 b7 b8 b9
   go_enter Tryz.func254,Tryz.ntmps254
   go_wp2_with (first | (go_at_call 272; refine (c1 _).mono ?_; clear c1; rintro e w' ⟨rfl,rfl⟩))
   go_ret
   exact ⟨qa4 HE.out.symm,hb2 _ _⟩
theorem qow (n : Int) (w : World) : Calls Tryz.prog 303 #[I n] w fun e w' => e = .returned (.bool (inR n 1 8)) ∧ w' = w := by
 unfold inR
 by_cases h1 : 1 ≤ n <;> by_cases h2 : n ≤ 8 <;> (go_enter Tryz.func303,Tryz.ntmps303; go_wp2; go_ret; exact ⟨qa4 (by simp [h1,h2]),rfl⟩)
def qfn (x n : Nat) : Bool := (x : Int) / 2 ^ (8 * n) == 0
theorem qr7 (x : Nat) (n : Nat) (hn : 1 ≤ n) (h7 : n ≤ 7) (w : World) : Calls Tryz.prog 304 #[.int .u64 (x : Int),I n] w fun e w' => e = .returned (.bool (qfn x n)) ∧ w' = w := by
 go_enter Tryz.func304,Tryz.ntmps304
 go_wp2
 go_ret
 exact ⟨rfl,rfl⟩
theorem Tryz.infoU8 : (Tryz.prog.info? 5).map (fun i => (i.zero,i.size,i.bytes)) = some (some (.int .u8 0),1,1) := by kernel_rfl
theorem qn7 (x : Nat) (n : Nat) (hn : 1 ≤ n) (h7 : n ≤ 7) (w : World) : Calls Tryz.prog 301 #[.int .u64 (x : Int),I n] w fun e w' => ∃ s,e = .returned (.tuple #[s,I (if qfn x n = true then 0 else 2)]) ∧ Below w.heap.size w w' := by
 have c1 := fun w => qow n w
 have hw : inR n 1 8 = true := by unfold inR; rw [decide_eq_true (by omega),decide_eq_true (by omega)]; rfl
 rw [hw] at c1
 have c2 := qr7 x n hn h7
 have hn1 : (1 : Int) ≤ n := by omega
 have hn7 : (n : Int) ≤ 7 := by omega
 cases hf : qfn x n with
 | false =>
  rw [hf] at c2
  go_enter Tryz.func301,Tryz.ntmps301
  go_wp2_with (first | (go_at_call 303; refine (c1 _).mono ?_; rintro e w' ⟨rfl,rfl⟩) | (go_at_call 304; refine (c2 _).mono ?_; rintro e w' ⟨rfl,rfl⟩))
  all_goals (go_ret2; exact ⟨⟨_,rfl⟩,Below.refl _ _⟩)
 | true =>
  rw [hf] at c2
  obtain ⟨i0,hi0,hz0,hz1,hz2⟩ := info_parts Tryz.infoU8
  go_enter Tryz.func301,Tryz.ntmps301
  go_wp2_with (first | (go_at_call 303; refine (c1 _).mono ?_; rintro e w' ⟨rfl,rfl⟩) | (go_at_call 304; refine (c2 _).mono ?_; rintro e w' ⟨rfl,rfl⟩) | (refine wpList_make_full _ rfl _ _ 324 rfl w'.heap.size 5 i0 (.int .u8 0) 1 Tryz.underlying324 hi0 hz0 hz1 .i64 .i64 _ _ n rfl rfl rfl rfl (by rw [hz2]; omega) (by unfold maxLen; omega) (Nat.le_refl _) ?_; intro w1 ho1 hg1))
  have hb1 := qal hg1
  clear hg1 c1 c2
  generalize (madeCells (Value.int IntKind.u8 0).cells (n * 1)).toList = xs0 at ho1
  generalize hbk : w'.heap.size = b at ho1 ⊢
  go_loopw [0,7,21] (fun v0 _ iv wr => ∃ (j : Nat) (y : Int) (xs : List Value),j ≤ n ∧ iv = .int .i64 j ∧ v0 = .int .u64 y ∧ Hid (wr.ownsRow b 5 1 (.slice (some ⟨b,0,none⟩) n n) n xs ∧ Below b w' wr)) (fun _ _ iv _ => n - (intOf iv).toNat)
  case atStart => exact ⟨0,x,xs0,by omega,rfl,rfl,ho1,by rw [← hbk]; exact hb1⟩
  case round =>
   obtain ⟨j,y,xs,hj,rfl,rfl,HJ⟩ := hrel
   obtain ⟨hO,hB⟩ := HJ.out
   by_cases hlt : j < n
   ·have hlt' : (j : Int) < n := by omega
    have hxl : xs.length = n * 1 := hO.1
    obtain ⟨u,hu⟩ : ∃ u,xs[j]? = some u := ⟨_,List.getElem?_eq_getElem (by omega)⟩
    have hcx : wr.cell? ⟨b,j,none⟩ = some u := by rw [hO.cellAt j (by omega)]; exact hu
    have hfz := hO.frozenAt
    have hsr := hB.size
    have hst : ∀ z,Hid (∃ xs' : List Value,(wr.setCell ⟨b,j,none⟩ z).ownsRow b 5 1 (.slice (some ⟨b,0,none⟩) n n) n xs' ∧ Below b w' (wr.setCell ⟨b,j,none⟩ z)) := fun z => by
     obtain ⟨hO3,hg3⟩ := hO.stored j z
     exact ⟨_,hO3,hB.trans (qam hg3 (Nat.le_refl _) (by omega))⟩
    clear hO hB HJ hu hxl
    go_wp2
    go_roundw
    case rel =>
     obtain ⟨xs',h1,h2⟩ := (hst _).out
     exact ⟨j + 1,_,xs',by omega,by go_num,rfl,h1,h2⟩
    case measure => simp [intOf]; omega
   ·obtain rfl : j = n := by omega
    have hlt' : ¬ (j : Int) < j := by omega
    clear hO HJ
    go_wp2
    all_goals (go_ret2; exact ⟨⟨_,rfl⟩,by first | exact hB | exact hB.drew⟩)
end Go.Proofs.YtmidaeljeoifdaaGreatDoor
namespace Go.Proofs.YtmidaeljeoifdaaGreatDoor
open Go.RowKit Go.Sort
set_option linter.unusedSimpArgs false
set_option linter.unusedVariables false
set_option maxHeartbeats 16000000
set_option maxRecDepth 100000
def fitI (x : Nat) (n : Int) : Bool := if n == 0 then (x : Int) == 0 else if inR n 1 7 then qfn x n.toNat else true
theorem qju (x : Nat) (n : Int) (w : World) : Calls Tryz.prog 290 #[.int .u64 (x : Int),I n] w fun e w' => e = .returned (.bool (fitI x n)) ∧ Below w.heap.size w w' := by
 obtain ⟨B,hB⟩ : ∃ B,B = fitI x n := ⟨_,rfl⟩
 rw [← hB]
 unfold fitI at hB
 have HB : Hid (B = _) := hB
 clear hB
 have c1 := qbs n 1 7
 cases hn : n == 0 with
 | true =>
  have HE : Hid (B = ((x : Int) == 0)) := by show _ = _; rw [HB.out,hn]; rfl
  clear HB
  go_enter Tryz.func290,Tryz.ntmps290
  go_wp2
  go_ret
  exact ⟨qa4 HE.out.symm,Below.refl _ _⟩
 | false =>
  cases h1 : inR n 1 7 with
  | false =>
   have HE : Hid (B = true) := by show _ = _; rw [HB.out,hn,h1]; rfl
   rw [h1] at c1
   clear HB
   go_enter Tryz.func290,Tryz.ntmps290
   go_wp2_with (first | (go_at_call 193; refine (c1 _).mono ?_; clear c1; rintro e w' ⟨rfl,rfl⟩))
   go_ret
   exact ⟨qa4 HE.out.symm,Below.refl _ _⟩
  | true =>
   have hr : 1 ≤ n ∧ n ≤ 7 := by simpa [inR] using h1
   obtain ⟨q,rfl⟩ := Int.eq_ofNat_of_zero_le (show 0 ≤ n by omega)
   have HE : Hid (B = qfn x q) := by show _ = _; rw [HB.out,hn,h1]; simp
   have c2 := qn7 x q (by omega) (by omega)
   rw [h1] at c1
   clear HB
   cases hf : qfn x q with
   | true =>
    rw [hf] at c2 HE
    go_enter Tryz.func290,Tryz.ntmps290
    go_wp2_with (first | (go_at_call 193; refine (c1 _).mono ?_; clear c1; rintro e w' ⟨rfl,rfl⟩) | (go_at_call 301; refine (c2 _).mono ?_; clear c2; rintro e w2 ⟨s,rfl,hb2⟩))
    go_ret
    exact ⟨qa4 HE.out.symm,hb2⟩
   | false =>
    rw [hf] at c2 HE
    go_enter Tryz.func290,Tryz.ntmps290
    go_wp2_with (first | (go_at_call 193; refine (c1 _).mono ?_; clear c1; rintro e w' ⟨rfl,rfl⟩) | (go_at_call 301; refine (c2 _).mono ?_; clear c2; rintro e w2 ⟨s,rfl,hb2⟩))
    go_ret
    exact ⟨qa4 HE.out.symm,hb2⟩
theorem qjv (w : World) (c : Cf) (v : Vs) (h : CfAt w c v) (i : Nat) (x : Ms) (hi : c.msgs[i]? = some x) (hv : x.kind == 1 ∨ isId x.frm v.s.n = true) :
  Calls Tryz.prog 255 #[.agg (cfC c v),I i] w fun e w' => Ans w (x.kind == 1 || (decide ((x.init : Int) ≤ 4294967295) && fitI x.init (mlen c x.frm))) e w' := by
 have hn : v.s.n = c.msgs.length := h.s.n
 have hlt : (i : Int) < v.s.n := by have := (List.getElem?_eq_some_iff.1 hi).1; omega
 obtain ⟨g,off,e,hg,a0,a1,a2,a3,a4,a5,a6,a7,a8,a9⟩ := qbz h hi
 have hne : g ≠ w.heap.size := by omega
 have hb := qa0 w
 have hb2 := fun o o' => (hb o).trans ((qa0 (w.alloc o) o').mono (hb o).size)
 obtain ⟨B,hB⟩ : ∃ B,B = (x.kind == 1 || (decide ((x.init : Int) ≤ 4294967295) && fitI x.init (mlen c x.frm))) := ⟨_,rfl⟩
 rw [← hB]
 have HB : Hid (B = _) := hB
 have HN : Hid (v.s.n = c.msgs.length) := h.s.n
 have hgl : g < w.heap.size + 1 := by omega
 have hne1 : g ≠ w.heap.size + 1 := by omega
 clear hB
 have f17 : ∀ h : 17 < (cfC c v).size,(cfC c v)[17] = .slice v.s.a v.s.n v.s.c := fun _ => rfl
 have hs18 : (cfC c v).size = 18 := rfl
 generalize cfC c v = C at *
 replace f17 := f17 (by omega)
 rw [e] at f17
 clear hi hn
 go_enter Tryz.func255,Tryz.ntmps255
 go_wp2
 have k1 : ((w.alloc (.cells C 47)).alloc (.cells #[S x.name,I x.kind,I x.len,I x.frm, .int .u64 (x.init : Int),I x.queue,I x.ac.kind,I x.ac.task,I x.ac.event,S x.ac.name] 114)).cell? ⟨w.heap.size + 1,1,none⟩ = some (I x.kind) := by simp
 have k3 : ((w.alloc (.cells C 47)).alloc (.cells #[S x.name,I x.kind,I x.len,I x.frm, .int .u64 (x.init : Int),I x.queue,I x.ac.kind,I x.ac.task,I x.ac.event,S x.ac.name] 114)).cell? ⟨w.heap.size + 1,3,none⟩ = some (I x.frm) := by simp
 have k4 : ((w.alloc (.cells C 47)).alloc (.cells #[S x.name,I x.kind,I x.len,I x.frm, .int .u64 (x.init : Int),I x.queue,I x.ac.kind,I x.ac.task,I x.ac.event,S x.ac.name] 114)).cell? ⟨w.heap.size + 1,4,none⟩ = some (.int .u64 (x.init : Int)) := by simp
 have k17 : ((w.alloc (.cells C 47)).alloc (.cells #[S x.name,I x.kind,I x.len,I x.frm, .int .u64 (x.init : Int),I x.queue,I x.ac.kind,I x.ac.task,I x.ac.event,S x.ac.name] 114)).cell? ⟨w.heap.size,17,none⟩ = some (.slice (some ⟨g,off,none⟩) v.s.n v.s.c) := by
  rw [qa7 (qa0 _ _) _ _ (by simp),World.cell?_alloc_new, ← f17]
  exact Array.getElem?_eq_getElem _
 have hbw := hb2 (.cells C 47) (.cells #[S x.name,I x.kind,I x.len,I x.frm, .int .u64 (x.init : Int),I x.queue,I x.ac.kind,I x.ac.task,I x.ac.event,S x.ac.name] 114)
 have h2 := h.below hbw
 clear a0 a1 a2 a3 a4 a5 a6 a7 a8 a9 hb hb2 f17 hs18 h
 generalize ((w.alloc (.cells C 47)).alloc (.cells #[S x.name,I x.kind,I x.len,I x.frm, .int .u64 (x.init : Int),I x.queue,I x.ac.kind,I x.ac.task,I x.ac.event,S x.ac.name] 114)) = W2 at *
 replace k1 := cell_regrown k1
 replace k4 := cell_regrown k4
 replace k17 := cell_regrown k17
 cases hk1 : x.kind == 1 with
 | true =>
  have HE : Hid (B = true) := by show _ = _; rw [HB.out,hk1]; rfl
  clear HB hv h2
  have c2 : True := trivial
  refine wp_region_quiet_below (by kernel_rfl) (by kernel_rfl) ?_
  repeat (go_big_quiet_step (first | exact c2 _ _))
  refine wpQuiet_nil ?_
  intro _ hw'
  obtain ⟨⟨dq,osq⟩,hw''⟩ := hw'
  subst hw''
  go_wp2
  go_ret
  exact ⟨qa4 HE.out.symm,hbw.trans ((below_regrown W2 dq osq).mono hbw.size)⟩
 | false =>
  have hid : isId x.frm v.s.n = true := by rcases hv with hv | hv; (rw [hk1] at hv; cases hv); exact hv
  have hr : 0 ≤ x.frm ∧ x.frm < v.s.n := by simpa [isId] using hid
  obtain ⟨q,hq⟩ := Int.eq_ofNat_of_zero_le hr.1
  have hq' : (q : Int) < v.s.n := by omega
  have hql : q < c.msgs.length := by rw [← HN.out]; omega
  obtain ⟨y,hy⟩ : ∃ y,c.msgs[q]? = some y := ⟨_,List.getElem?_eq_getElem hql⟩
  obtain ⟨g',off',e',hg',b0,b1,b2,b3,b4,b5,b6,b7,b8,b9⟩ := qbz h2 hy
  rw [e] at e'
  obtain ⟨rfl,rfl⟩ : g = g' ∧ off = off' := by cases e'; exact ⟨rfl,rfl⟩
  have kl := cell_regrown b2
  rw [hq] at k3
  replace k3 := cell_regrown k3
  have HE0 : Hid (B = (decide ((x.init : Int) ≤ 4294967295) && fitI x.init y.len)) := by show _ = _; rw [HB.out,hk1,hq]; simp [mlen,hy]
  have c2 : ∀ d os,Calls Tryz.prog 290 #[.int .u64 (x.init : Int),I y.len] (grow (redrawn W2 d) os) fun e w'' => e = .returned (.bool (fitI x.init y.len)) ∧ ∃ p : Regrown,w'' = grow (redrawn W2 p.d) p.os := fun d os => Calls.regrown_of (qju x.init y.len _)
  clear HB hid hr hq hql hy e' b0 b1 b2 b3 b4 b5 b6 b7 b8 b9 h2 hv
  generalize fitI x.init y.len = b at *
  by_cases hle : (x.init : Int) ≤ 4294967295
  ·have HE : Hid (B = b) := by show _ = _; rw [HE0.out,decide_eq_true hle]; rfl
   clear HE0
   refine wp_region_quiet_below (by kernel_rfl) (by kernel_rfl) ?_
   repeat (go_big_quiet_step (first | exact c2 _ _))
   refine wpQuiet_nil ?_
   intro _ hw'
   obtain ⟨⟨dq,osq⟩,hw''⟩ := hw'
   subst hw''
   go_wp2
   go_ret
   exact ⟨qa4 HE.out.symm,hbw.trans ((below_regrown W2 dq osq).mono hbw.size)⟩
  ·have HE : Hid (B = false) := by show _ = _; rw [HE0.out,decide_eq_false hle]; rfl
   clear HE0
   refine wp_region_quiet_below (by kernel_rfl) (by kernel_rfl) ?_
   repeat (go_big_quiet_step (first | exact c2 _ _))
   refine wpQuiet_nil ?_
   intro _ hw'
   obtain ⟨⟨dq,osq⟩,hw''⟩ := hw'
   subst hw''
   go_wp2
   go_ret
   exact ⟨qa4 HE.out.symm,hbw.trans ((below_regrown W2 dq osq).mono hbw.size)⟩
end Go.Proofs.YtmidaeljeoifdaaGreatDoor
namespace Go.Proofs.YtmidaeljeoifdaaGreatDoor
open Go.RowKit
set_option linter.unusedSimpArgs false
set_option linter.unusedVariables false
set_option maxHeartbeats 16000000
set_option maxRecDepth 100000
def uT (k : Int) : Bool := k == 1 || k == 2
def uE (k : Int) : Bool := k == 2
def uN (k : Int) : Bool := k == 3 || k == 4
theorem qf6 (k : Int) (w : World) : Calls Tryz.prog 298 #[I k] w fun e w' => e = .returned (.bool (uT k)) ∧ w' = w := by
 unfold uT
 cases h1 : k == 1 <;> (go_enter Tryz.func298,Tryz.ntmps298; go_wp2; go_ret; exact ⟨qa4 (by simp),rfl⟩)
theorem qdc (k : Int) (w : World) : Calls Tryz.prog 299 #[I k] w fun e w' => e = .returned (.bool (uE k)) ∧ w' = w := by
 unfold uE
 go_enter Tryz.func299,Tryz.ntmps299
 go_wp2
 go_ret
 exact ⟨rfl,rfl⟩
theorem qf7 (k : Int) (w : World) : Calls Tryz.prog 300 #[I k] w fun e w' => e = .returned (.bool (uN k)) ∧ w' = w := by
 unfold uN
 cases h1 : k == 3 <;> (go_enter Tryz.func300,Tryz.ntmps300; go_wp2; go_ret; exact ⟨qa4 (by simp),rfl⟩)
def acC (a : Ac) : Array Value := #[I a.kind,I a.task,I a.event,S a.name]
def qaf (a : Ac) : Bool := (uT a.kind || a.task == 0) && (uE a.kind || a.event == 0) && (uN a.kind || a.name.isEmpty)
theorem qn8 (a : Ac) (w : World) : Calls Tryz.prog 282 #[.agg (acC a)] w fun e w' => Ans w (qaf a) e w' := by
 have c1 := qf6 a.kind
 have c2 := qdc a.kind
 have c3 := qf7 a.kind
 have hb := qa0 w
 obtain ⟨B,hB⟩ : ∃ B,B = qaf a := ⟨_,rfl⟩
 rw [← hB]
 unfold qaf at hB
 have HB : Hid (B = _) := hB
 clear hB
 obtain ⟨k,t,e,n⟩ := a
 unfold acC
 dsimp only at c1 c2 c3 HB ⊢
 generalize uT k = b1 at *
 generalize uE k = b2 at *
 generalize uN k = b3 at *
 cases h1 : (b1 || t == 0) with
 | false =>
  obtain ⟨rfl,ht⟩ : b1 = false ∧ (t == 0) = false := by simpa using h1
  have HE : Hid (B = false) := by show _ = _; rw [HB.out,ht]; rfl
  clear HB h1
  go_enter Tryz.func282,Tryz.ntmps282
  go_wp2_with (first | (go_at_call 298; refine (c1 _).mono ?_; rintro e w' ⟨rfl,rfl⟩))
  go_ret
  exact ⟨qa4 HE.out.symm,hb _⟩
 | true =>
  cases h2 : (b2 || e == 0) with
  | false =>
   obtain ⟨rfl,ht⟩ : b2 = false ∧ (e == 0) = false := by simpa using h2
   have HE : Hid (B = false) := by show _ = _; rw [HB.out,h1,ht]; rfl
   clear HB h2
   cases b1 with
   | true =>
    clear h1
    go_enter Tryz.func282,Tryz.ntmps282
    go_wp2_with (first | (go_at_call 298; refine (c1 _).mono ?_; rintro e w' ⟨rfl,rfl⟩) | (go_at_call 299; refine (c2 _).mono ?_; rintro e w' ⟨rfl,rfl⟩))
    go_ret
    exact ⟨qa4 HE.out.symm,hb _⟩
   | false =>
    have h1' : (t == 0) = true := by simpa using h1
    clear h1
    go_enter Tryz.func282,Tryz.ntmps282
    go_wp2_with (first | (go_at_call 298; refine (c1 _).mono ?_; rintro e w' ⟨rfl,rfl⟩) | (go_at_call 299; refine (c2 _).mono ?_; rintro e w' ⟨rfl,rfl⟩))
    go_ret
    exact ⟨qa4 HE.out.symm,hb _⟩
  | true =>
   have HE : Hid (B = (b3 || n.isEmpty)) := by show _ = _; rw [HB.out,h1,h2]; rfl
   clear HB
   cases b1 <;> cases b2 <;> cases b3 <;> (simp only [Bool.false_or,Bool.true_or] at h1 h2; go_enter Tryz.func282,Tryz.ntmps282; go_wp2_with (first | (go_at_call 298; refine (c1 _).mono ?_; rintro e w' ⟨rfl,rfl⟩) | (go_at_call 299; refine (c2 _).mono ?_; rintro e w' ⟨rfl,rfl⟩) | (go_at_call 300; refine (c3 _).mono ?_; rintro e w' ⟨rfl,rfl⟩)); go_ret; exact ⟨qa4 (by rw [HE.out]; simp),hb _⟩)
def idxF (x : Int) (j : Nat) : List Int → Int
 | [] => -1
 | y :: r => if x == y then (j : Int) else idxF x (j + 1) r
def hasL (l : List Int) (x : Int) : Bool := l.any (fun y => x == y)
theorem qr8 (x : Int) (l : List Int) (j : Nat) : decide (0 ≤ idxF x j l) = hasL l x := by
 induction l generalizing j with
 | nil => rfl
 | cons y r ih =>
  rw [idxF]
  cases h : x == y with
  | true =>
   simp only [if_true]
   rw [decide_eq_true (by omega)]
   simp [hasL,h]
  | false =>
   have h2 : hasL (y :: r) x = hasL r x := by simp [hasL,h]
   rw [h2,if_neg (by decide)]
   exact ih (j + 1)
theorem qox (w : World) (s : Sl) (l : List Int) (h : RowsAt w 1 intP s l) (x : Int) : Calls Tryz.prog 148 #[.slice s.a s.n s.c,I x] w fun e w' => e = .returned (I (idxF x 0 l)) ∧ w' = w := by
 obtain ⟨sa,sn,sc⟩ := s
 have HN : Hid (sn = l.length) := h.n
 have hc : sn ≤ sc := h.c
 have hm : sc ≤ maxLen := h.m
 dsimp only
 unfold maxLen at hm
 go_enter Tryz.func148,Tryz.ntmps148
 go_wp2
 go_loop [5,8] (fun _ i => ∃ j : Nat,j ≤ sn ∧ i = .int .i64 j ∧ Hid (idxF x 0 l = idxF x j (l.drop j))) (fun _ i => sn - (intOf i).toNat)
 case atStart => exact ⟨0,by omega,rfl,rfl⟩
 case round =>
  obtain ⟨j,hj,rfl,HR⟩ := hrel
  by_cases hlt : j < sn
  ·have hlt' : (j : Int) < sn := by omega
   have hjl : j < l.length := by rw [← HN.out]; exact hlt
   obtain ⟨y,hy⟩ : ∃ y,l[j]? = some y := ⟨l[j],List.getElem?_eq_getElem hjl⟩
   obtain ⟨g,off,e,hg,hcx⟩ := qau h hy
   dsimp only at e
   subst e
   have HE : Hid (idxF x 0 l = if x == y then (j : Int) else idxF x (j + 1) (l.drop (j + 1))) := by
    show _ = _
    rw [HR.out,List.drop_eq_getElem_cons hjl,idxF]
    rw [List.getElem?_eq_getElem hjl] at hy
    rw [Option.some.inj hy]
   clear hy hjl HR
   cases hk : x == y with
   | true =>
    have HE2 : Hid (idxF x 0 l = j) := by show _ = _; rw [HE.out,hk]; rfl
    clear HE
    go_wp2
    go_ret
    exact ⟨qa3 HE2.out.symm,rfl⟩
   | false =>
    have HE2 : Hid (idxF x 0 l = idxF x (j + 1) (l.drop (j + 1))) := by show _ = _; rw [HE.out,hk]; rfl
    clear HE
    go_wp2
    go_round
    case rel => exact ⟨j + 1,by omega,by go_num,HE2⟩
    case measure => simp [intOf]; omega
  ·obtain rfl : j = sn := by omega
   have hlt' : ¬ (j : Int) < j := by omega
   have HE2 : Hid (idxF x 0 l = -1) := by show _ = _; rw [HR.out,List.drop_eq_nil_of_le (by rw [← HN.out]; exact Nat.le_refl _),idxF]
   go_wp2
   go_ret
   exact ⟨qa3 HE2.out.symm,rfl⟩
theorem qjw (w : World) (s : Sl) (l : List Int) (h : RowsAt w 1 intP s l) (x : Int) : Calls Tryz.prog 110 #[.slice s.a s.n s.c,I x] w fun e w' => e = .returned (.bool (hasL l x)) ∧ w' = w := by
 have c1 := qox w s l h x
 have HH : Hid (decide (0 ≤ idxF x 0 l) = hasL l x) := qr8 x l 0
 generalize idxF x 0 l = r at *
 go_enter Tryz.func110,Tryz.ntmps110
 go_wp2_with (first | (go_at_call 148; refine c1.mono ?_; rintro e w' ⟨rfl,rfl⟩))
 go_ret
 exact ⟨qa4 (by rw [← HH.out]),rfl⟩
def actC (a : Ac) (lo hi : Int) : Array Value := #[I a.kind,I a.task,I a.event,S a.name,I lo,I hi]
theorem qly (a : Ac) (lo hi : Int) (w : World) : Calls Tryz.prog 280 #[.agg (actC a lo hi)] w fun e w' => Ans w (inR a.kind lo hi) e w' := by
 have c1 := qot a.kind lo hi
 have hb := qa0 w
 unfold actC
 go_enter Tryz.func280,Tryz.ntmps280
 go_wp2_with (first | (go_at_call 297; refine (c1 _).mono ?_; rintro e w' ⟨rfl,rfl⟩))
 go_ret
 exact ⟨rfl,hb _⟩
def calB (a : Ac) : Bool := !uN a.kind || isNm a.name
theorem qjx (a : Ac) (w : World) : Calls Tryz.prog 288 #[.agg (acC a)] w fun e w' => Ans w (calB a) e w' := by
 have c1 := qf7 a.kind
 have c2 := qjp a.name
 have hb := qa0 w
 unfold calB acC
 generalize uN a.kind = b1 at *
 generalize isNm a.name = b2 at *
 cases b1 <;> cases b2 <;> (go_enter Tryz.func288,Tryz.ntmps288; go_wp2_with (first | (go_at_call 300; refine (c1 _).mono ?_; rintro e w' ⟨rfl,rfl⟩) | (go_at_call 195; refine (c2 _).mono ?_; rintro e w' ⟨rfl,rfl⟩)); go_ret; exact ⟨qa4 (by simp),hb _⟩)
end Go.Proofs.YtmidaeljeoifdaaGreatDoor
namespace Go.Proofs.YtmidaeljeoifdaaGreatDoor
open Go.RowKit Go.Sort
set_option linter.unusedSimpArgs false
set_option linter.unusedVariables false
set_option maxHeartbeats 16000000
set_option maxRecDepth 100000
def objB (c : Cf) (a : Ac) : Bool := (!uT a.kind || isId a.task c.tasks.length) && (!uE a.kind || isId a.event c.evs.length)
theorem qge (w : World) (c : Cf) (v : Vs) (h : CfAt w c v) (a : Ac) : Calls Tryz.prog 284 #[.agg (cfC c v), .agg (acC a)] w fun e w' => Ans w (objB c a) e w' := by
 have c1 := qf6 a.kind
 have c2 := qdc a.kind
 have c3 := qc2 a.task v.t.n
 have c4 := qc2 a.event v.e.n
 have hb := qa0 w
 have hb2 := fun o o' => (hb o).trans ((qa0 (w.alloc o) o').mono (hb o).size)
 unfold objB
 rw [← h.t.n, ← h.e.n]
 unfold acC
 generalize uT a.kind = b1 at *
 generalize uE a.kind = b2 at *
 generalize isId a.task v.t.n = b3 at *
 generalize isId a.event v.e.n = b4 at *
 have f11 : ∀ h : 11 < (cfC c v).size,(cfC c v)[11] = .slice v.t.a v.t.n v.t.c := fun _ => rfl
 have f13 : ∀ h : 13 < (cfC c v).size,(cfC c v)[13] = .slice v.e.a v.e.n v.e.c := fun _ => rfl
 have hs18 : (cfC c v).size = 18 := rfl
 generalize cfC c v = C at *
 replace f11 := f11 (by omega)
 replace f13 := f13 (by omega)
 cases h1 : (!b1 || b3) with
 | false =>
  obtain ⟨rfl,rfl⟩ : b1 = true ∧ b3 = false := by simpa using h1
  go_enter Tryz.func284,Tryz.ntmps284
  go_wp2_with (first | (go_at_call 298; refine (c1 _).mono ?_; rintro e w' ⟨rfl,rfl⟩) | (go_at_call 272; refine (c3 _).mono ?_; rintro e w' ⟨rfl,rfl⟩))
  go_ret
  exact ⟨qa4 (by simp),hb2 _ _⟩
 | true =>
  cases b1 with
  | false =>
   clear h1 c3
   cases b2 <;> (go_enter Tryz.func284,Tryz.ntmps284; go_wp2_with (first | (go_at_call 298; refine (c1 _).mono ?_; rintro e w' ⟨rfl,rfl⟩) | (go_at_call 299; refine (c2 _).mono ?_; rintro e w' ⟨rfl,rfl⟩) | (go_at_call 272; refine (c4 _).mono ?_; rintro e w' ⟨rfl,rfl⟩)); go_ret; exact ⟨qa4 (by simp),hb2 _ _⟩)
  | true =>
   obtain rfl : b3 = true := by simpa using h1
   clear h1
   cases b2 <;> (go_enter Tryz.func284,Tryz.ntmps284; go_wp2_with (first | (go_at_call 298; refine (c1 _).mono ?_; rintro e w' ⟨rfl,rfl⟩) | (go_at_call 299; refine (c2 _).mono ?_; rintro e w' ⟨rfl,rfl⟩) | (go_at_call 272; refine (c3 _).mono ?_; clear c3; rintro e w' ⟨rfl,rfl⟩) | (go_at_call 272; refine (c4 _).mono ?_; rintro e w' ⟨rfl,rfl⟩)); go_ret; exact ⟨qa4 (by simp),hb2 _ _⟩)
def qn9 (c : Cf) (t : Int) : List Int := match c.tasks[t.toNat]? with | some x => x.evs | none => []
def ownB (c : Cf) (a : Ac) : Bool := !uE a.kind || hasL (qn9 c a.task) a.event
theorem qhx (w : World) (c : Cf) (v : Vs) (h : CfAt w c v) (a : Ac) (hv : uE a.kind = true → isId a.task v.t.n = true) : Calls Tryz.prog 286 #[.agg (cfC c v), .agg (acC a)] w fun e w' => Ans w (ownB c a) e w' := by
 have c1 := qdc a.kind
 have hb := qa0 w
 have hb2 := fun o o' => (hb o).trans ((qa0 (w.alloc o) o').mono (hb o).size)
 have h2 := fun o o' => h.below (hb2 o o')
 have HN : Hid (v.t.n = c.tasks.length) := h.t.n
 obtain ⟨B,hB⟩ : ∃ B,B = ownB c a := ⟨_,rfl⟩
 rw [← hB]
 unfold ownB at hB
 have HB : Hid (B = _) := hB
 clear hB
 unfold acC
 have f11 : ∀ h : 11 < (cfC c v).size,(cfC c v)[11] = .slice v.t.a v.t.n v.t.c := fun _ => rfl
 have hs18 : (cfC c v).size = 18 := rfl
 generalize cfC c v = C at *
 replace f11 := f11 (by omega)
 cases hu : uE a.kind with
 | false =>
  have HE : Hid (B = true) := by show _ = _; rw [HB.out,hu]; rfl
  rw [hu] at c1
  clear HB hv
  go_enter Tryz.func286,Tryz.ntmps286
  go_wp2
  go_quiet (first | (go_at_call 299; refine Calls.quiet_of_same (c1 _)))
  go_wp2
  go_ret
  exact ⟨qa4 HE.out.symm,below_drewN (hb2 _ _) _⟩
 | true =>
  have hid := hv hu
  have hr : 0 ≤ a.task ∧ a.task < v.t.n := by simpa [isId] using hid
  obtain ⟨q,hq⟩ := Int.eq_ofNat_of_zero_le hr.1
  have hq' : (q : Int) < v.t.n := by omega
  have hql : q < c.tasks.length := by rw [← HN.out]; omega
  obtain ⟨x,hx⟩ : ∃ y,c.tasks[q]? = some y := ⟨_,List.getElem?_eq_getElem hql⟩
  obtain ⟨g,off,s4,s5,s6,s7,e,hg,a0,a1,a2,a3,a4,a5,a6,a7,r4,r5,r6,r7⟩ := qbj h hx
  have hne : g ≠ w.heap.size := by omega
  have hgl : g < w.heap.size + 1 := by omega
  have hne1 : g ≠ w.heap.size + 1 := by omega
  rw [e] at f11
  have HE : Hid (B = hasL x.evs a.event) := by show _ = _; rw [HB.out,hu,hq]; simp [qn9,hx]
  have c2 := fun W (hW : Below w.heap.size w W) => qjw W s6 x.evs (r6.below hW (fun _ _ _ _ h => h)) a.event
  rw [hu] at c1
  obtain ⟨ak,at_,ae,an⟩ := a
  dsimp only at hq c1 c2 HE ⊢
  rw [hq]
  clear HB hv hid hr hql hx a0 a1 a2 a3 a4 a5 a7 r4 r5 r7 hu hq
  generalize hasL x.evs ae = b at *
  go_enter Tryz.func286,Tryz.ntmps286
  go_wp2
  go_quiet (first | (go_at_call 299; refine Calls.quiet_of_same (c1 _)) | (go_at_call 110; refine Calls.quiet_of_same (c2 _ (below_drewN (hb2 _ _) _))))
  go_wp2
  go_ret
  exact ⟨qa4 HE.out.symm,below_drewN (hb2 _ _) _⟩
end Go.Proofs.YtmidaeljeoifdaaGreatDoor
namespace Go.Proofs.YtmidaeljeoifdaaGreatDoor
open Go.RowKit
set_option linter.unusedSimpArgs false
set_option linter.unusedVariables false
set_option maxHeartbeats 16000000
set_option maxRecDepth 100000
def qjy (w : World) (a : Ac) (lo hi : Int) (e : Ending) (w' : World) : Prop := e = .returned (.agg (actC a lo hi)) ∧ Below w.heap.size w w'
theorem qhy {fn : Func} {n : Nat} (hf : fn.results = #[.cell n 312]) (tmps : Array Value) (b : Nat) (w : World) (v0 v1 v2 v3 v4 v5 : Value)
  (h2 : tmps[n]? = some (.pointer (some ⟨b,0,none⟩))) (hk : w.heap[b]? = some (.cells #[v0,v1,v2,v3,v4,v5] 312 (0,0))) :
  (results fn tmps).run Tryz.prog w = .ok (.agg #[v0,v1,v2,v3,v4,v5]) w := by
 have a1 := fun i => cell_of_row w b i _ _ (0,0) hk
 have z0 := a1 0; have z1 := a1 1; have z2 := a1 2; have z3 := a1 3; have z4 := a1 4; have z5 := a1 5
 simp at z0 z1 z2 z3 z4 z5
 simp [results,hf,go_sem,h2,z0,z1,z2,z3,z4,z5]
theorem qaj (w : World) (a b : Obj) : ((w.alloc a).alloc b).heap[w.heap.size + 1]? = some b := by
 have := heap_alloc_new (w.alloc a) b
 rwa [show (w.alloc a).heap.size = w.heap.size + 1 by simp] at this
theorem qcx (w : World) (a b c : Obj) : (((w.alloc a).alloc b).alloc c).heap[w.heap.size + 1]? = some b := by
 rw [heap_alloc_old ((w.alloc a).alloc b) c (by simp)]
 exact qaj w a b
theorem qjz (w : World) (c : Cf) (v : Vs) (h : CfAt w c v) (i : Nat) (x : Al) (hi : c.als[i]? = some x) :
  Calls Tryz.prog 241 #[.agg (cfC c v),I i] w fun e w' => qjy w x.ac 1 3 e w' := by
 have hn : v.a.n = c.als.length := h.a.n
 have hlt : (i : Int) < v.a.n := by have := (List.getElem?_eq_some_iff.1 hi).1; omega
 obtain ⟨g,off,s6,e,hg,a0,a1,a2,a3,a4,a5,a6,a7,a8,r6⟩ := qea h hi
 have hne : g ≠ w.heap.size := by omega
 have hb := qa0 w
 have hb2 := fun o o' => (hb o).trans ((qa0 (w.alloc o) o').mono (hb o).size)
 have f15 : ∀ h : 15 < (cfC c v).size,(cfC c v)[15] = .slice v.a.a v.a.n v.a.c := fun _ => rfl
 have hs18 : (cfC c v).size = 18 := rfl
 generalize cfC c v = C at *
 replace f15 := f15 (by omega)
 rw [e] at f15
 clear hi hn
 go_enter Tryz.func241,Tryz.ntmps241
 go_wp2
 exact bodyPost_ret (v := .agg (actC x.ac 1 3)) (qhy Tryz.results241 _ (w.heap.size + 1) _ _ _ _ _ _ _ rfl (qaj _ _ _)) rfl ⟨rfl,hb2 _ _⟩
theorem qhz (w : World) (c : Cf) (v : Vs) (h : CfAt w c v) (i : Nat) (x : Ms) (hi : c.msgs[i]? = some x) :
  Calls Tryz.prog 256 #[.agg (cfC c v),I i] w fun e w' => qjy w x.ac 0 (if x.kind == 1 then 0 else 4) e w' := by
 have hn : v.s.n = c.msgs.length := h.s.n
 have hlt : (i : Int) < v.s.n := by have := (List.getElem?_eq_some_iff.1 hi).1; omega
 obtain ⟨g,off,e,hg,a0,a1,a2,a3,a4,a5,a6,a7,a8,a9⟩ := qbz h hi
 have hne : g ≠ w.heap.size := by omega
 have hb := qa0 w
 have hb2 := fun o o' => (hb o).trans ((qa0 (w.alloc o) o').mono (hb o).size)
 have hb3 := fun o o' o'' => (hb2 o o').trans ((qa0 ((w.alloc o).alloc o') o'').mono (hb2 o o').size)
 have f17 : ∀ h : 17 < (cfC c v).size,(cfC c v)[17] = .slice v.s.a v.s.n v.s.c := fun _ => rfl
 have hs18 : (cfC c v).size = 18 := rfl
 generalize cfC c v = C at *
 replace f17 := f17 (by omega)
 rw [e] at f17
 clear hi hn
 cases hk : x.kind == 1 with
 | true =>
  rw [if_pos rfl]
  go_enter Tryz.func256,Tryz.ntmps256
  go_wp2
  all_goals exact bodyPost_ret (v := .agg (actC x.ac 0 0)) (qhy Tryz.results256 _ (w.heap.size + 1) _ _ _ _ _ _ _ rfl (qcx _ _ _ _)) rfl ⟨rfl,hb3 _ _ _⟩
 | false =>
  rw [if_neg (by decide)]
  go_enter Tryz.func256,Tryz.ntmps256
  go_wp2
  all_goals exact bodyPost_ret (v := .agg (actC x.ac 0 4)) (qhy Tryz.results256 _ (w.heap.size + 1) _ _ _ _ _ _ _ rfl (qcx _ _ _ _)) rfl ⟨rfl,hb3 _ _ _⟩
end Go.Proofs.YtmidaeljeoifdaaGreatDoor
namespace Go.Proofs.YtmidaeljeoifdaaGreatDoor
open Go.RowKit Go.Sort
set_option linter.unusedSimpArgs false
set_option linter.unusedVariables false
set_option maxHeartbeats 16000000
set_option maxRecDepth 100000
theorem qe0 (w : World) (a0 a1 a2 a3 a4 a5 : Value) : (Instr.field 312 (.agg #[a0,a1,a2,a3,a4,a5]) 0).run Tryz.prog w = .ok (.agg #[a0,a1,a2,a3]) w := by kernel_rfl
structure Of (w : World) (c : Cf) (v : Vs) (i : Nat) (bo fo : Nat) (a : Ac) (lo hi : Int) : Prop where
 cell : w.cell? ⟨bo,0,none⟩ = some (.func (.func fo) #[] #[])
 lt : bo < w.heap.size
 enter : ∀ args W,(callFunc fo args).run Tryz.prog W = .ok (.enter fo args) W
 call : ∀ W,Below w.heap.size w W → Calls Tryz.prog fo #[.agg (cfC c v),I i] W fun e w' => qjy W a lo hi e w'
theorem qk0 (w : World) (c : Cf) (v : Vs) (h : CfAt w c v) (i bo fo : Nat) (a : Ac) (lo hi : Int) (ho : Of w c v i bo fo a lo hi) :
  Calls Tryz.prog 279 #[.agg (cfC c v),I i, .pointer (some ⟨bo,0,none⟩)] w fun e w' => Ans w (inR a.kind lo hi) e w' := by
 have hbo := ho.cell
 have hlt := ho.lt
 have hne : bo ≠ w.heap.size := by omega
 have eg := ho.enter
 have cf := ho.call
 have hfl := qe0
 have hb := qa0 w
 have hi18 : (Tryz.prog.info? 47).map (·.size) = some (cfC c v).size := by rw [show (cfC c v).size = 18 from rfl]; kernel_rfl
 have hV0 := heap_alloc_new w (.cells (cfC c v) 47)
 have hs18 : (cfC c v).size = 18 := rfl
 generalize cfC c v = C at *
 go_enter Tryz.func279,Tryz.ntmps279
 go_wp2_with (refine wpList_load_row rfl 47 _ rfl w.heap.size rfl 47 _ (0,0) _ hV0 Tryz.underlying47 rfl hi18 ?_)
 refine (cf _ (hb _)).mono ?_
 rintro e w1 ⟨rfl,hb1⟩
 have hbw := (hb _).trans (hb1.mono (hb _).size)
 have c2 := qly a lo hi w1
 unfold acC at c2
 unfold actC at *
 clear hb1 cf hV0
 go_wp2_with (first | (go_at_call 280; refine c2.mono ?_; rintro e w2 ⟨rfl,hb2⟩))
 go_ret
 exact ⟨rfl,hbw.trans (hb2.mono hbw.size)⟩
theorem qk1 (w : World) (c : Cf) (v : Vs) (h : CfAt w c v) (i bo fo : Nat) (a : Ac) (lo hi : Int) (ho : Of w c v i bo fo a lo hi) :
  Calls Tryz.prog 281 #[.agg (cfC c v),I i, .pointer (some ⟨bo,0,none⟩)] w fun e w' => Ans w (qaf a) e w' := by
 have hbo := ho.cell
 have hlt := ho.lt
 have hne : bo ≠ w.heap.size := by omega
 have eg := ho.enter
 have cf := ho.call
 have hfl := qe0
 have hb := qa0 w
 have hi18 : (Tryz.prog.info? 47).map (·.size) = some (cfC c v).size := by rw [show (cfC c v).size = 18 from rfl]; kernel_rfl
 have hV0 := heap_alloc_new w (.cells (cfC c v) 47)
 have hs18 : (cfC c v).size = 18 := rfl
 generalize cfC c v = C at *
 go_enter Tryz.func281,Tryz.ntmps281
 go_wp2_with (refine wpList_load_row rfl 47 _ rfl w.heap.size rfl 47 _ (0,0) _ hV0 Tryz.underlying47 rfl hi18 ?_)
 refine (cf _ (hb _)).mono ?_
 rintro e w1 ⟨rfl,hb1⟩
 have hbw := (hb _).trans (hb1.mono (hb _).size)
 have c2 := qn8 a w1
 unfold acC at c2
 unfold actC at *
 clear hb1 cf hV0
 go_wp2_with (first | (go_at_call 282; refine c2.mono ?_; rintro e w2 ⟨rfl,hb2⟩))
 go_ret
 exact ⟨rfl,hbw.trans (hb2.mono hbw.size)⟩
theorem qk2 (w : World) (c : Cf) (v : Vs) (h : CfAt w c v) (i bo fo : Nat) (a : Ac) (lo hi : Int) (ho : Of w c v i bo fo a lo hi) :
  Calls Tryz.prog 287 #[.agg (cfC c v),I i, .pointer (some ⟨bo,0,none⟩)] w fun e w' => Ans w (calB a) e w' := by
 have hbo := ho.cell
 have hlt := ho.lt
 have hne : bo ≠ w.heap.size := by omega
 have eg := ho.enter
 have cf := ho.call
 have hfl := qe0
 have hb := qa0 w
 have hi18 : (Tryz.prog.info? 47).map (·.size) = some (cfC c v).size := by rw [show (cfC c v).size = 18 from rfl]; kernel_rfl
 have hV0 := heap_alloc_new w (.cells (cfC c v) 47)
 have hs18 : (cfC c v).size = 18 := rfl
 generalize cfC c v = C at *
 go_enter Tryz.func287,Tryz.ntmps287
 go_wp2_with (refine wpList_load_row rfl 47 _ rfl w.heap.size rfl 47 _ (0,0) _ hV0 Tryz.underlying47 rfl hi18 ?_)
 refine (cf _ (hb _)).mono ?_
 rintro e w1 ⟨rfl,hb1⟩
 have hbw := (hb _).trans (hb1.mono (hb _).size)
 have c2 := qjx a w1
 unfold acC at c2
 unfold actC at *
 clear hb1 cf hV0
 go_wp2_with (first | (go_at_call 288; refine c2.mono ?_; rintro e w2 ⟨rfl,hb2⟩))
 go_ret
 exact ⟨rfl,hbw.trans (hb2.mono hbw.size)⟩
theorem qk3 (w : World) (c : Cf) (v : Vs) (h : CfAt w c v) (i bo fo : Nat) (a : Ac) (lo hi : Int) (ho : Of w c v i bo fo a lo hi) :
  Calls Tryz.prog 283 #[.agg (cfC c v),I i, .pointer (some ⟨bo,0,none⟩)] w fun e w' => Ans w (objB c a) e w' := by
 have hbo := ho.cell
 have hlt := ho.lt
 have hne : bo ≠ w.heap.size := by omega
 have eg := ho.enter
 have cf := ho.call
 have hfl := qe0
 have hb := qa0 w
 have hi18 : (Tryz.prog.info? 47).map (·.size) = some (cfC c v).size := by rw [show (cfC c v).size = 18 from rfl]; kernel_rfl
 have hV0 := heap_alloc_new w (.cells (cfC c v) 47)
 have h0 := h.below (hb (.cells (cfC c v) 47))
 have hbw := hb (.cells (cfC c v) 47)
 have c1 : ∀ d os,Calls Tryz.prog fo #[.agg (cfC c v),I i] (grow (redrawn (w.alloc (.cells (cfC c v) 47)) d) os) fun e w'' => e = .returned (.agg (actC a lo hi)) ∧ ∃ p : Regrown,w'' = grow (redrawn (w.alloc (.cells (cfC c v) 47)) p.d) p.os := fun d os => Calls.regrown_of (cf _ (hbw.trans ((below_regrown _ d os).mono hbw.size)))
 have c2 : ∀ d os,Calls Tryz.prog 284 #[.agg (cfC c v), .agg (acC a)] (grow (redrawn (w.alloc (.cells (cfC c v) 47)) d) os) fun e w'' => e = .returned (.bool (objB c a)) ∧ ∃ p : Regrown,w'' = grow (redrawn (w.alloc (.cells (cfC c v) 47)) p.d) p.os := fun d os => Calls.regrown_of (qge _ c v (h0.below (below_regrown _ d os)) a)
 have kbo : (w.alloc (.cells (cfC c v) 47)).cell? ⟨bo,0,none⟩ = some (.func (.func fo) #[] #[]) := by rw [qa7 hbw _ _ hlt]; exact hbo
 have hs18 : (cfC c v).size = 18 := rfl
 generalize cfC c v = C at *
 go_enter Tryz.func283,Tryz.ntmps283
 go_wp2
 generalize w.alloc (.cells C 47) = W0 at *
 have k1 := cell_regrown kbo
 unfold actC at c1
 unfold acC at c2
 refine wp_region_quiet_below (by kernel_rfl) (by kernel_rfl) ?_
 refine qb1 rfl 47 _ rfl w.heap.size rfl 47 _ (0,0) _ (qbh hV0) Tryz.underlying47 rfl hi18 ?_
 quiet_step (fail)
 refine qb1 rfl 47 _ rfl w.heap.size rfl 47 _ (0,0) _ (qbh hV0) Tryz.underlying47 rfl hi18 ?_
 repeat (quiet_step (first | exact c1 _ _ | exact c2 _ _))
 refine wpQuiet_nil ?_
 intro _ hw'
 obtain ⟨⟨dq,osq⟩,hw''⟩ := hw'
 subst hw''
 go_wp2
 go_ret
 exact ⟨rfl,hbw.trans ((below_regrown W0 dq osq).mono hbw.size)⟩
theorem qk4 (w : World) (c : Cf) (v : Vs) (h : CfAt w c v) (i bo fo : Nat) (a : Ac) (lo hi : Int) (ho : Of w c v i bo fo a lo hi) (hv : uE a.kind = true → isId a.task v.t.n = true) :
  Calls Tryz.prog 285 #[.agg (cfC c v),I i, .pointer (some ⟨bo,0,none⟩)] w fun e w' => Ans w (ownB c a) e w' := by
 have hbo := ho.cell
 have hlt := ho.lt
 have hne : bo ≠ w.heap.size := by omega
 have eg := ho.enter
 have cf := ho.call
 have hfl := qe0
 have hb := qa0 w
 have hi18 : (Tryz.prog.info? 47).map (·.size) = some (cfC c v).size := by rw [show (cfC c v).size = 18 from rfl]; kernel_rfl
 have hV0 := heap_alloc_new w (.cells (cfC c v) 47)
 have h0 := h.below (hb (.cells (cfC c v) 47))
 have hbw := hb (.cells (cfC c v) 47)
 have c1 : ∀ d os,Calls Tryz.prog fo #[.agg (cfC c v),I i] (grow (redrawn (w.alloc (.cells (cfC c v) 47)) d) os) fun e w'' => e = .returned (.agg (actC a lo hi)) ∧ ∃ p : Regrown,w'' = grow (redrawn (w.alloc (.cells (cfC c v) 47)) p.d) p.os := fun d os => Calls.regrown_of (cf _ (hbw.trans ((below_regrown _ d os).mono hbw.size)))
 have c2 : ∀ d os,Calls Tryz.prog 286 #[.agg (cfC c v), .agg (acC a)] (grow (redrawn (w.alloc (.cells (cfC c v) 47)) d) os) fun e w'' => e = .returned (.bool (ownB c a)) ∧ ∃ p : Regrown,w'' = grow (redrawn (w.alloc (.cells (cfC c v) 47)) p.d) p.os := fun d os => Calls.regrown_of (qhx _ c v (h0.below (below_regrown _ d os)) a hv)
 have kbo : (w.alloc (.cells (cfC c v) 47)).cell? ⟨bo,0,none⟩ = some (.func (.func fo) #[] #[]) := by rw [qa7 hbw _ _ hlt]; exact hbo
 have hs18 : (cfC c v).size = 18 := rfl
 generalize cfC c v = C at *
 go_enter Tryz.func285,Tryz.ntmps285
 go_wp2
 generalize w.alloc (.cells C 47) = W0 at *
 have k1 := cell_regrown kbo
 unfold actC at c1
 unfold acC at c2
 refine wp_region_quiet_below (by kernel_rfl) (by kernel_rfl) ?_
 refine qb1 rfl 47 _ rfl w.heap.size rfl 47 _ (0,0) _ (qbh hV0) Tryz.underlying47 rfl hi18 ?_
 quiet_step (fail)
 refine qb1 rfl 47 _ rfl w.heap.size rfl 47 _ (0,0) _ (qbh hV0) Tryz.underlying47 rfl hi18 ?_
 repeat (quiet_step (first | exact c1 _ _ | exact c2 _ _))
 refine wpQuiet_nil ?_
 intro _ hw'
 obtain ⟨⟨dq,osq⟩,hw''⟩ := hw'
 subst hw''
 go_wp2
 go_ret
 exact ⟨rfl,hbw.trans ((below_regrown W0 dq osq).mono hbw.size)⟩
end Go.Proofs.YtmidaeljeoifdaaGreatDoor
