import Derived.Test.YtijgopkhdjaolaaGreatXTcc
import Derived.Deep.Cut
import Derived.Shelf.Abstract
namespace Go.Proofs.YtijgopkhdjaolaaGreat
open Go.RowKit
set_option linter.unusedSimpArgs false
set_option linter.unusedVariables false
set_option maxHeartbeats 16000000
set_option maxRecDepth 100000
theorem qf2 {α : Type} {l : List α} {j : Nat} {x : α} (h : l[j]? = some x) : l.drop j = x :: l.drop (j + 1) := by
 obtain ⟨hj,rfl⟩ := List.getElem?_eq_some_iff.1 h
 exact List.drop_eq_getElem_cons hj
theorem qe8 (tb : Tb) (v : Ts) (w : World) (h : TbAt w tb v) (s : Sl) (l : List Int) (hl : RowsAt w 1 intP s l) (prio : Int) : Calls Tryz.prog 81 #[.agg (tbC tb v), .slice s.a s.n s.c,I prio] w fun e w' => e = .returned (.bool (ownG tb prio (-1) l)) ∧ Below w.heap.size w w' := by
 have hV := heap_alloc_new w (.cells (tbC tb v) 30)
 have HB : Hid (Below w.heap.size w (w.alloc (.cells (tbC tb v) 30))) := qa0 w _
 have HT : Hid (TbAt (w.alloc (.cells (tbC tb v) 30)) tb v) := h.below HB.out
 have HL : Hid (RowsAt (w.alloc (.cells (tbC tb v) 30)) 1 intP s l) := hl.below HB.out (fun _ _ _ _ h => h)
 obtain ⟨c0,c1,c2,c3,c4,c5,c6,c7,c8,c9,c10,c11,c12⟩ := qbx hV
 have HS : Hid (s.n = l.length) := hl.n
 have hsc : s.n ≤ s.c := hl.c
 have hsm : s.c ≤ maxLen := hl.m
 have HRn : Hid (v.r.n = tb.ress.length) := h.r.n
 have hrc : v.r.n ≤ v.r.c := h.r.c
 have hrm : v.r.c ≤ maxLen := h.r.m
 unfold maxLen at hsm hrm
 have kid := fun x => qj4 x v.r
 obtain ⟨R,hR⟩ : ∃ R,R = ownG tb prio (-1) l := ⟨_,rfl⟩
 rw [← hR]
 have HR : Hid (R = ownG tb prio (-1) (l.drop 0)) := hR
 clear hR h hl hV c0 c1 c2 c3 c5 c6 c7 c8 c9 c10 c11 c12
 unfold tbC at *
 go_enter Tryz.func81,Tryz.ntmps81
 generalize hW : w.alloc (.cells #[I tb.uses,I tb.modes, .slice v.t.a v.t.n v.t.c, .slice v.g.a v.g.n v.g.c, .slice v.r.a v.r.n v.r.c, .slice v.k.a v.k.n v.k.c, .slice v.a.a v.a.n v.a.c, .slice v.i.a v.i.n v.i.c, .slice v.s.a v.s.n v.s.c,I tb.depth,I tb.frames,I tb.errors,I tb.calls] 30) = W1 at *
 go_upto_region 1 with fail
 clear hW
 go_wp2
 go_loopw [7,9,12] (fun av _ iv wr => ∃ (j : Nat) (a : Int),j ≤ s.n ∧ iv = .int .i64 j ∧ av = I a ∧ wr = W1 ∧ Hid (R = ownG tb prio a (l.drop j))) (fun _ _ iv _ => s.n - (intOf iv).toNat)
 case atStart => exact ⟨0, -1,by omega,rfl,rfl,rfl,HR.out⟩
 case round =>
  clear HR
  obtain ⟨j,a,hj,rfl,rfl,rfl,HJ⟩ := hrel
  by_cases hlt : j < s.n
  ·have hlt' : (j : Int) < s.n := by omega
   obtain ⟨x,hx⟩ : ∃ x,l[j]? = some x := ⟨_,List.getElem?_eq_getElem (by rw [← HS.out]; exact hlt)⟩
   obtain ⟨g5,o5,e5,hg5,b5⟩ := qg3 HL.out hx
   have HX : Hid (R = (decide (a < x) && idB x tb.ress.length && qfv tb prio x && ownG tb prio x (l.drop (j + 1)))) := by
    have h9 := HJ.out
    rw [qf2 hx,ownG] at h9
    exact h9
   rw [e5]
   clear hx e5 HJ
   by_cases g1 : x ≤ a
   ·go_wp2
    go_ret
    exact ⟨qa5 (by rw [HX.out]; have : ¬ a < x := (by omega); simp [this]),HB.out⟩
   ·have g1' : a < x := by omega
    have kx := kid x wr
    cases hid : idB x v.r.n with
    | false =>
     rw [hid] at kx
     go_wp2_with (go_at_call 150; refine kx.mono ?_; clear kx; rintro e w' ⟨rfl,rfl⟩)
     go_ret
     exact ⟨qa5 (by rw [HX.out, ← HRn.out,hid]; simp),HB.out⟩
    | true =>
     rw [hid] at kx
     have hid2 : 0 ≤ x ∧ x < (v.r.n : Int) := by unfold idB at hid; simpa using hid
     obtain ⟨k,rfl⟩ := Int.eq_ofNat_of_zero_le hid2.1
     obtain ⟨r,hr⟩ : ∃ r,tb.ress[k]? = some r := ⟨_,List.getElem?_eq_getElem (by rw [← HRn.out]; omega)⟩
     obtain ⟨gr,orr,er,hgr,y0,y1⟩ := qj0 HT.out hr
     have HQ : Hid (qfv tb prio (k : Int) = (!r.inner && decide (prio ≤ r.ceil))) := by
      show _ = _
      unfold qfv
      rw [Int.toNat_natCast,hr]
     have hk1 : (k : Int) < v.r.n := hid2.2
     have HI : Hid (idB (k : Int) tb.ress.length = true) := by rw [← HRn.out]; exact hid
     rw [er] at c4
     rw [er] at kx
     clear hr er hid hid2
     generalize r.inner = ri at *
     generalize r.ceil = rc at *
     cases ri with
     | true =>
      go_wp2_with (go_at_call 150; refine kx.mono ?_; clear kx; rintro e w' ⟨rfl,rfl⟩)
      go_ret
      exact ⟨qa5 (by rw [HX.out,HQ.out]; simp),HB.out⟩
     | false =>
      by_cases g2 : rc < prio
      ·go_wp2_with (go_at_call 150; refine kx.mono ?_; clear kx; rintro e w' ⟨rfl,rfl⟩)
       go_ret
       exact ⟨qa5 (by rw [HX.out,HQ.out]; have : ¬ prio ≤ rc := (by omega); simp [this]),HB.out⟩
      ·have g2' : prio ≤ rc := by omega
       have HN : Hid (R = ownG tb prio (k : Int) (l.drop (j + 1))) := by
        have h9 := HX.out
        rw [HQ.out,HI.out] at h9
        show R = _
        simpa [g1',g2'] using h9
       go_wp2_with (go_at_call 150; refine kx.mono ?_; clear kx; rintro e w' ⟨rfl,rfl⟩)
       go_roundw
       case rel => exact ⟨j + 1,(k : Int),by omega,by go_num,rfl,trivial,HN.out⟩
       case measure => simp [intOf]; omega
  ·obtain rfl : j = s.n := by omega
   have hlt' : ¬ ((s.n : Nat) : Int) < (s.n : Nat) := by omega
   have HE : Hid (R = true) := by
    have h9 := HJ.out
    rw [HS.out,List.drop_length,ownG] at h9
    exact h9
   clear HJ
   go_wp2
   go_ret
   exact ⟨qa5 (by rw [HE.out]),HB.out⟩
theorem qbz {α : Type} (p : α → Bool) (l : List α) (j : Nat) (x : α) (h : l[j]? = some x) : (l.take (j + 1)).all p = ((l.take j).all p && p x) := by
 rw [List.take_add_one,h,Option.toList_some,List.all_append]
 simp
theorem qbp {α : Type} {p : α → Bool} {l : List α} {j : Nat} {x : α} (h : l[j]? = some x) (hp : p x = false) : l.all p = false := by
 apply Bool.eq_false_iff.2
 intro h2
 have := List.all_eq_true.1 h2 x (List.mem_of_getElem? h)
 rw [hp] at this
 cases this
theorem qj6 (w : World) (s : Sl) (l : List TkR) (hl : ∀ W,Below w.heap.size w W → RowsAt W 8 (tkrP W) s l) (f : Nat) (caps : Array Value) (eg : ∀ args W,(callFunc f args).run Tryz.prog W = .ok (.enter f args) W) (p : TkR → Bool)
  (hf : ∀ W,Below w.heap.size w W → ∀ x ∈ l, ∀ (s6 : Sl),RowsAt W 1 intP s6 x.own → Calls Tryz.prog f (#[.agg #[I x.prio,I x.ring, .bool x.full,I x.limit, .int .u32 (x.mask : Int),I x.inner, .slice s6.a s6.n s6.c, .int .u32 (x.auto : Int)]] ++ caps) W fun e w' => e = .returned (.bool (p x)) ∧ Below W.heap.size W w') :
  Calls Tryz.prog 77 #[.slice s.a s.n s.c, .func (.func f) #[] caps] w fun e w' => e = .returned (.bool (l.all p)) ∧ Below w.heap.size w w' := by
 have h0 := hl w (Below.refl _ _)
 have HS : Hid (s.n = l.length) := h0.n
 have hsc : s.n ≤ s.c := h0.c
 have hsm : s.c ≤ maxLen := h0.m
 unfold maxLen at hsm
 have HH : Hid (∀ W,Below w.heap.size w W → RowsAt W 8 (tkrP W) s l) := hl
 have HFF : Hid (∀ W,Below w.heap.size w W → ∀ x ∈ l, ∀ (s6 : Sl),RowsAt W 1 intP s6 x.own → Calls Tryz.prog f (#[.agg #[I x.prio,I x.ring, .bool x.full,I x.limit, .int .u32 (x.mask : Int),I x.inner, .slice s6.a s6.n s6.c, .int .u32 (x.auto : Int)]] ++ caps) W fun e w' => e = .returned (.bool (p x)) ∧ Below W.heap.size W w') := hf
 obtain ⟨R,hR⟩ : ∃ R,R = l.all p := ⟨_,rfl⟩
 rw [← hR]
 have HR : Hid (R = l.all p) := hR
 clear hl hR hf h0
 go_enter Tryz.func77,Tryz.ntmps77
 go_wp2
 go_loopw [6,9] (fun _ iv wr => ∃ j : Nat,j ≤ s.n ∧ iv = .int .i64 j ∧ Hid ((l.take j).all p = true ∧ Below w.heap.size w wr)) (fun _ iv _ => s.n - (intOf iv).toNat)
 case atStart => exact ⟨0,by omega,rfl,by simp,Below.refl _ _⟩
 case round =>
  obtain ⟨j,hj,rfl,HJ⟩ := hrel
  by_cases hlt : j < s.n
  ·have hlt' : (j : Int) < s.n := by omega
   obtain ⟨x,hx⟩ : ∃ x,l[j]? = some x := ⟨_,List.getElem?_eq_getElem (by rw [← HS.out]; exact hlt)⟩
   obtain ⟨g5,o5,e5,hg5,hr5⟩ := (HH.out _ HJ.out.2).row j x hx
   obtain ⟨u0,a0,q0⟩ := hr5 0 (by omega)
   have e0 : u0 = I x.prio := q0
   subst e0
   obtain ⟨u1,a1,q1⟩ := hr5 1 (by omega)
   have e1 : u1 = I x.ring := q1
   subst e1
   obtain ⟨u2,a2,q2⟩ := hr5 2 (by omega)
   have e2 : u2 = .bool x.full := q2
   subst e2
   obtain ⟨u3,a3,q3⟩ := hr5 3 (by omega)
   have e3 : u3 = I x.limit := q3
   subst e3
   obtain ⟨u4,a4,q4⟩ := hr5 4 (by omega)
   have e4 : u4 = .int .u32 (x.mask : Int) := q4
   subst e4
   obtain ⟨u5,a5,q5⟩ := hr5 5 (by omega)
   have e5 : u5 = I x.inner := q5
   subst e5
   obtain ⟨u6,a6,q6⟩ := hr5 6 (by omega)
   obtain ⟨s6,e6,r6⟩ := (show IntsV wr x.own u6 from q6)
   subst e6
   obtain ⟨u7,a7,q7⟩ := hr5 7 (by omega)
   have e7 : u7 = .int .u32 (x.auto : Int) := q7
   subst e7
   rw [Nat.add_zero] at a0
   have HB : Hid (Below w.heap.size w (wr.alloc (.cells #[I x.prio,I x.ring, .bool x.full,I x.limit, .int .u32 (x.mask : Int),I x.inner, .slice s6.a s6.n s6.c, .int .u32 (x.auto : Int)] 61))) := HJ.out.2.trans ((qa0 wr _).mono HJ.out.2.size)
   have cx := HFF.out _ HB.out x (List.mem_of_getElem? hx) s6 (r6.below (qa0 wr _) (fun _ _ _ _ h => h))
   have HT : Hid (p x = false → R = false) := fun ht => by rw [HR.out]; exact qbp hx ht
   have HA : Hid (p x = true → (l.take (j + 1)).all p = true) := fun ht => by rw [qbz _ _ j _ hx,HJ.out.1,ht]; rfl
   rw [e5]
   clear hx e5 HJ hr5 q0 q1 q2 q3 q4 q5 q6 q7
   cases he : p x with
   | false =>
    rw [he] at cx
    have HE : Hid (R = false) := HT.out he
    clear HT HA he
    go_wp2
    refine cx.mono ?_
    clear cx
    rintro e7 w7 ⟨rfl,hb7⟩
    have HB7 : Hid (Below w.heap.size w w7) := HB.out.trans (hb7.mono HB.out.size)
    clear hb7
    go_wp2
    go_ret
    exact ⟨qa5 HE.out.symm,HB7.out⟩
   | true =>
    rw [he] at cx
    have HA2 : Hid ((l.take (j + 1)).all p = true) := HA.out he
    clear HT HA he
    go_wp2
    refine cx.mono ?_
    clear cx
    rintro e7 w7 ⟨rfl,hb7⟩
    have HB7 : Hid (Below w.heap.size w w7) := HB.out.trans (hb7.mono HB.out.size)
    clear hb7
    go_wp2
    go_roundw
    case rel => exact ⟨j + 1,by omega,by go_num,HA2.out,HB7.out⟩
    case measure => simp [intOf]; omega
  ·obtain rfl : j = s.n := by omega
   have hlt' : ¬ ((s.n : Nat) : Int) < (s.n : Nat) := by omega
   have HE : Hid (R = true) := by
    show _ = _
    rw [HR.out]
    have := HJ.out.1
    rwa [List.take_of_length_le (by rw [HS.out]; exact Nat.le_refl _)] at this
   have HB : Hid (Below w.heap.size w wr) := HJ.out.2
   clear HR HJ
   go_wp2
   go_ret
   exact ⟨qa5 HE.out.symm,HB.out⟩
theorem qj7 (w : World) (s : Sl) (l : List RsR) (hl : ∀ W,Below w.heap.size w W → RowsAt W 2 rsrP s l) (f : Nat) (caps : Array Value) (eg : ∀ args W,(callFunc f args).run Tryz.prog W = .ok (.enter f args) W) (p : RsR → Bool)
  (hf : ∀ W,Below w.heap.size w W → ∀ x ∈ l,  Calls Tryz.prog f (#[.agg #[.bool x.inner,I x.ceil]] ++ caps) W fun e w' => e = .returned (.bool (p x)) ∧ Below W.heap.size W w') :
  Calls Tryz.prog 73 #[.slice s.a s.n s.c, .func (.func f) #[] caps] w fun e w' => e = .returned (.bool (l.all p)) ∧ Below w.heap.size w w' := by
 have h0 := hl w (Below.refl _ _)
 have HS : Hid (s.n = l.length) := h0.n
 have hsc : s.n ≤ s.c := h0.c
 have hsm : s.c ≤ maxLen := h0.m
 unfold maxLen at hsm
 have HH : Hid (∀ W,Below w.heap.size w W → RowsAt W 2 rsrP s l) := hl
 have HFF : Hid (∀ W,Below w.heap.size w W → ∀ x ∈ l,  Calls Tryz.prog f (#[.agg #[.bool x.inner,I x.ceil]] ++ caps) W fun e w' => e = .returned (.bool (p x)) ∧ Below W.heap.size W w') := hf
 obtain ⟨R,hR⟩ : ∃ R,R = l.all p := ⟨_,rfl⟩
 rw [← hR]
 have HR : Hid (R = l.all p) := hR
 clear hl hR hf h0
 go_enter Tryz.func73,Tryz.ntmps73
 go_wp2
 go_loopw [6,9] (fun _ iv wr => ∃ j : Nat,j ≤ s.n ∧ iv = .int .i64 j ∧ Hid ((l.take j).all p = true ∧ Below w.heap.size w wr)) (fun _ iv _ => s.n - (intOf iv).toNat)
 case atStart => exact ⟨0,by omega,rfl,by simp,Below.refl _ _⟩
 case round =>
  obtain ⟨j,hj,rfl,HJ⟩ := hrel
  by_cases hlt : j < s.n
  ·have hlt' : (j : Int) < s.n := by omega
   obtain ⟨x,hx⟩ : ∃ x,l[j]? = some x := ⟨_,List.getElem?_eq_getElem (by rw [← HS.out]; exact hlt)⟩
   obtain ⟨g5,o5,e5,hg5,hr5⟩ := (HH.out _ HJ.out.2).row j x hx
   obtain ⟨u0,a0,q0⟩ := hr5 0 (by omega)
   have e0 : u0 = .bool x.inner := q0
   subst e0
   obtain ⟨u1,a1,q1⟩ := hr5 1 (by omega)
   have e1 : u1 = I x.ceil := q1
   subst e1
   rw [Nat.add_zero] at a0
   have HB : Hid (Below w.heap.size w (wr.alloc (.cells #[.bool x.inner,I x.ceil] 78))) := HJ.out.2.trans ((qa0 wr _).mono HJ.out.2.size)
   have cx := HFF.out _ HB.out x (List.mem_of_getElem? hx)
   have HT : Hid (p x = false → R = false) := fun ht => by rw [HR.out]; exact qbp hx ht
   have HA : Hid (p x = true → (l.take (j + 1)).all p = true) := fun ht => by rw [qbz _ _ j _ hx,HJ.out.1,ht]; rfl
   rw [e5]
   clear hx e5 HJ hr5 q0 q1
   cases he : p x with
   | false =>
    rw [he] at cx
    have HE : Hid (R = false) := HT.out he
    clear HT HA he
    go_wp2
    refine cx.mono ?_
    clear cx
    rintro e7 w7 ⟨rfl,hb7⟩
    have HB7 : Hid (Below w.heap.size w w7) := HB.out.trans (hb7.mono HB.out.size)
    clear hb7
    go_wp2
    go_ret
    exact ⟨qa5 HE.out.symm,HB7.out⟩
   | true =>
    rw [he] at cx
    have HA2 : Hid ((l.take (j + 1)).all p = true) := HA.out he
    clear HT HA he
    go_wp2
    refine cx.mono ?_
    clear cx
    rintro e7 w7 ⟨rfl,hb7⟩
    have HB7 : Hid (Below w.heap.size w w7) := HB.out.trans (hb7.mono HB.out.size)
    clear hb7
    go_wp2
    go_roundw
    case rel => exact ⟨j + 1,by omega,by go_num,HA2.out,HB7.out⟩
    case measure => simp [intOf]; omega
  ·obtain rfl : j = s.n := by omega
   have hlt' : ¬ ((s.n : Nat) : Int) < (s.n : Nat) := by omega
   have HE : Hid (R = true) := by
    show _ = _
    rw [HR.out]
    have := HJ.out.1
    rwa [List.take_of_length_le (by rw [HS.out]; exact Nat.le_refl _)] at this
   have HB : Hid (Below w.heap.size w wr) := HJ.out.2
   clear HR HJ
   go_wp2
   go_ret
   exact ⟨qa5 HE.out.symm,HB.out⟩
theorem qj8 (w : World) (s : Sl) (l : List CtR) (hl : ∀ W,Below w.heap.size w W → RowsAt W 3 ctrP s l) (f : Nat) (caps : Array Value) (eg : ∀ args W,(callFunc f args).run Tryz.prog W = .ok (.enter f args) W) (p : CtR → Bool)
  (hf : ∀ W,Below w.heap.size w W → ∀ x ∈ l,  Calls Tryz.prog f (#[.agg #[.int .u32 (x.max : Int), .int .u32 (x.base : Int), .int .u32 (x.min : Int)]] ++ caps) W fun e w' => e = .returned (.bool (p x)) ∧ Below W.heap.size W w') :
  Calls Tryz.prog 83 #[.slice s.a s.n s.c, .func (.func f) #[] caps] w fun e w' => e = .returned (.bool (l.all p)) ∧ Below w.heap.size w w' := by
 have h0 := hl w (Below.refl _ _)
 have HS : Hid (s.n = l.length) := h0.n
 have hsc : s.n ≤ s.c := h0.c
 have hsm : s.c ≤ maxLen := h0.m
 unfold maxLen at hsm
 have HH : Hid (∀ W,Below w.heap.size w W → RowsAt W 3 ctrP s l) := hl
 have HFF : Hid (∀ W,Below w.heap.size w W → ∀ x ∈ l,  Calls Tryz.prog f (#[.agg #[.int .u32 (x.max : Int), .int .u32 (x.base : Int), .int .u32 (x.min : Int)]] ++ caps) W fun e w' => e = .returned (.bool (p x)) ∧ Below W.heap.size W w') := hf
 obtain ⟨R,hR⟩ : ∃ R,R = l.all p := ⟨_,rfl⟩
 rw [← hR]
 have HR : Hid (R = l.all p) := hR
 clear hl hR hf h0
 go_enter Tryz.func83,Tryz.ntmps83
 go_wp2
 go_loopw [6,9] (fun _ iv wr => ∃ j : Nat,j ≤ s.n ∧ iv = .int .i64 j ∧ Hid ((l.take j).all p = true ∧ Below w.heap.size w wr)) (fun _ iv _ => s.n - (intOf iv).toNat)
 case atStart => exact ⟨0,by omega,rfl,by simp,Below.refl _ _⟩
 case round =>
  obtain ⟨j,hj,rfl,HJ⟩ := hrel
  by_cases hlt : j < s.n
  ·have hlt' : (j : Int) < s.n := by omega
   obtain ⟨x,hx⟩ : ∃ x,l[j]? = some x := ⟨_,List.getElem?_eq_getElem (by rw [← HS.out]; exact hlt)⟩
   obtain ⟨g5,o5,e5,hg5,hr5⟩ := (HH.out _ HJ.out.2).row j x hx
   obtain ⟨u0,a0,q0⟩ := hr5 0 (by omega)
   have e0 : u0 = .int .u32 (x.max : Int) := q0
   subst e0
   obtain ⟨u1,a1,q1⟩ := hr5 1 (by omega)
   have e1 : u1 = .int .u32 (x.base : Int) := q1
   subst e1
   obtain ⟨u2,a2,q2⟩ := hr5 2 (by omega)
   have e2 : u2 = .int .u32 (x.min : Int) := q2
   subst e2
   rw [Nat.add_zero] at a0
   have HB : Hid (Below w.heap.size w (wr.alloc (.cells #[.int .u32 (x.max : Int), .int .u32 (x.base : Int), .int .u32 (x.min : Int)] 80))) := HJ.out.2.trans ((qa0 wr _).mono HJ.out.2.size)
   have cx := HFF.out _ HB.out x (List.mem_of_getElem? hx)
   have HT : Hid (p x = false → R = false) := fun ht => by rw [HR.out]; exact qbp hx ht
   have HA : Hid (p x = true → (l.take (j + 1)).all p = true) := fun ht => by rw [qbz _ _ j _ hx,HJ.out.1,ht]; rfl
   rw [e5]
   clear hx e5 HJ hr5 q0 q1 q2
   cases he : p x with
   | false =>
    rw [he] at cx
    have HE : Hid (R = false) := HT.out he
    clear HT HA he
    go_wp2
    refine cx.mono ?_
    clear cx
    rintro e7 w7 ⟨rfl,hb7⟩
    have HB7 : Hid (Below w.heap.size w w7) := HB.out.trans (hb7.mono HB.out.size)
    clear hb7
    go_wp2
    go_ret
    exact ⟨qa5 HE.out.symm,HB7.out⟩
   | true =>
    rw [he] at cx
    have HA2 : Hid ((l.take (j + 1)).all p = true) := HA.out he
    clear HT HA he
    go_wp2
    refine cx.mono ?_
    clear cx
    rintro e7 w7 ⟨rfl,hb7⟩
    have HB7 : Hid (Below w.heap.size w w7) := HB.out.trans (hb7.mono HB.out.size)
    clear hb7
    go_wp2
    go_roundw
    case rel => exact ⟨j + 1,by omega,by go_num,HA2.out,HB7.out⟩
    case measure => simp [intOf]; omega
  ·obtain rfl : j = s.n := by omega
   have hlt' : ¬ ((s.n : Nat) : Int) < (s.n : Nat) := by omega
   have HE : Hid (R = true) := by
    show _ = _
    rw [HR.out]
    have := HJ.out.1
    rwa [List.take_of_length_le (by rw [HS.out]; exact Nat.le_refl _)] at this
   have HB : Hid (Below w.heap.size w wr) := HJ.out.2
   clear HR HJ
   go_wp2
   go_ret
   exact ⟨qa5 HE.out.symm,HB.out⟩
theorem qj9 (w : World) (s : Sl) (l : List AlR) (hl : ∀ W,Below w.heap.size w W → RowsAt W 7 alrP s l) (f : Nat) (caps : Array Value) (eg : ∀ args W,(callFunc f args).run Tryz.prog W = .ok (.enter f args) W) (p : AlR → Bool)
  (hf : ∀ W,Below w.heap.size w W → ∀ x ∈ l,  Calls Tryz.prog f (#[.agg #[I x.ctr,I x.ac.kind,I x.ac.task, .int .u32 (x.ac.mask : Int), .int .u32 (x.auto : Int), .int .u32 (x.time : Int), .int .u32 (x.cycle : Int)]] ++ caps) W fun e w' => e = .returned (.bool (p x)) ∧ Below W.heap.size W w') :
  Calls Tryz.prog 86 #[.slice s.a s.n s.c, .func (.func f) #[] caps] w fun e w' => e = .returned (.bool (l.all p)) ∧ Below w.heap.size w w' := by
 have h0 := hl w (Below.refl _ _)
 have HS : Hid (s.n = l.length) := h0.n
 have hsc : s.n ≤ s.c := h0.c
 have hsm : s.c ≤ maxLen := h0.m
 unfold maxLen at hsm
 have HH : Hid (∀ W,Below w.heap.size w W → RowsAt W 7 alrP s l) := hl
 have HFF : Hid (∀ W,Below w.heap.size w W → ∀ x ∈ l,  Calls Tryz.prog f (#[.agg #[I x.ctr,I x.ac.kind,I x.ac.task, .int .u32 (x.ac.mask : Int), .int .u32 (x.auto : Int), .int .u32 (x.time : Int), .int .u32 (x.cycle : Int)]] ++ caps) W fun e w' => e = .returned (.bool (p x)) ∧ Below W.heap.size W w') := hf
 obtain ⟨R,hR⟩ : ∃ R,R = l.all p := ⟨_,rfl⟩
 rw [← hR]
 have HR : Hid (R = l.all p) := hR
 clear hl hR hf h0
 go_enter Tryz.func86,Tryz.ntmps86
 go_wp2
 go_loopw [6,9] (fun _ iv wr => ∃ j : Nat,j ≤ s.n ∧ iv = .int .i64 j ∧ Hid ((l.take j).all p = true ∧ Below w.heap.size w wr)) (fun _ iv _ => s.n - (intOf iv).toNat)
 case atStart => exact ⟨0,by omega,rfl,by simp,Below.refl _ _⟩
 case round =>
  obtain ⟨j,hj,rfl,HJ⟩ := hrel
  by_cases hlt : j < s.n
  ·have hlt' : (j : Int) < s.n := by omega
   obtain ⟨x,hx⟩ : ∃ x,l[j]? = some x := ⟨_,List.getElem?_eq_getElem (by rw [← HS.out]; exact hlt)⟩
   obtain ⟨g5,o5,e5,hg5,hr5⟩ := (HH.out _ HJ.out.2).row j x hx
   obtain ⟨u0,a0,q0⟩ := hr5 0 (by omega)
   have e0 : u0 = I x.ctr := q0
   subst e0
   obtain ⟨u1,a1,q1⟩ := hr5 1 (by omega)
   have e1 : u1 = I x.ac.kind := q1
   subst e1
   obtain ⟨u2,a2,q2⟩ := hr5 2 (by omega)
   have e2 : u2 = I x.ac.task := q2
   subst e2
   obtain ⟨u3,a3,q3⟩ := hr5 3 (by omega)
   have e3 : u3 = .int .u32 (x.ac.mask : Int) := q3
   subst e3
   obtain ⟨u4,a4,q4⟩ := hr5 4 (by omega)
   have e4 : u4 = .int .u32 (x.auto : Int) := q4
   subst e4
   obtain ⟨u5,a5,q5⟩ := hr5 5 (by omega)
   have e5 : u5 = .int .u32 (x.time : Int) := q5
   subst e5
   obtain ⟨u6,a6,q6⟩ := hr5 6 (by omega)
   have e6 : u6 = .int .u32 (x.cycle : Int) := q6
   subst e6
   rw [Nat.add_zero] at a0
   have HB : Hid (Below w.heap.size w (wr.alloc (.cells #[I x.ctr,I x.ac.kind,I x.ac.task, .int .u32 (x.ac.mask : Int), .int .u32 (x.auto : Int), .int .u32 (x.time : Int), .int .u32 (x.cycle : Int)] 85))) := HJ.out.2.trans ((qa0 wr _).mono HJ.out.2.size)
   have cx := HFF.out _ HB.out x (List.mem_of_getElem? hx)
   have HT : Hid (p x = false → R = false) := fun ht => by rw [HR.out]; exact qbp hx ht
   have HA : Hid (p x = true → (l.take (j + 1)).all p = true) := fun ht => by rw [qbz _ _ j _ hx,HJ.out.1,ht]; rfl
   rw [e5]
   clear hx e5 HJ hr5 q0 q1 q2 q3 q4 q5 q6
   cases he : p x with
   | false =>
    rw [he] at cx
    have HE : Hid (R = false) := HT.out he
    clear HT HA he
    go_wp2
    refine cx.mono ?_
    clear cx
    rintro e7 w7 ⟨rfl,hb7⟩
    have HB7 : Hid (Below w.heap.size w w7) := HB.out.trans (hb7.mono HB.out.size)
    clear hb7
    go_wp2
    go_ret
    exact ⟨qa5 HE.out.symm,HB7.out⟩
   | true =>
    rw [he] at cx
    have HA2 : Hid ((l.take (j + 1)).all p = true) := HA.out he
    clear HT HA he
    go_wp2
    refine cx.mono ?_
    clear cx
    rintro e7 w7 ⟨rfl,hb7⟩
    have HB7 : Hid (Below w.heap.size w w7) := HB.out.trans (hb7.mono HB.out.size)
    clear hb7
    go_wp2
    go_roundw
    case rel => exact ⟨j + 1,by omega,by go_num,HA2.out,HB7.out⟩
    case measure => simp [intOf]; omega
  ·obtain rfl : j = s.n := by omega
   have hlt' : ¬ ((s.n : Nat) : Int) < (s.n : Nat) := by omega
   have HE : Hid (R = true) := by
    show _ = _
    rw [HR.out]
    have := HJ.out.1
    rwa [List.take_of_length_le (by rw [HS.out]; exact Nat.le_refl _)] at this
   have HB : Hid (Below w.heap.size w wr) := HJ.out.2
   clear HR HJ
   go_wp2
   go_ret
   exact ⟨qa5 HE.out.symm,HB.out⟩
theorem qja (w : World) (s : Sl) (l : List IsR) (hl : ∀ W,Below w.heap.size w W → RowsAt W 3 (isrP W) s l) (f : Nat) (caps : Array Value) (eg : ∀ args W,(callFunc f args).run Tryz.prog W = .ok (.enter f args) W) (p : IsR → Bool)
  (hf : ∀ W,Below w.heap.size w W → ∀ x ∈ l, ∀ (s2 : Sl),RowsAt W 1 intP s2 x.own → Calls Tryz.prog f (#[.agg #[I x.cat,I x.prio, .slice s2.a s2.n s2.c]] ++ caps) W fun e w' => e = .returned (.bool (p x)) ∧ Below W.heap.size W w') :
  Calls Tryz.prog 92 #[.slice s.a s.n s.c, .func (.func f) #[] caps] w fun e w' => e = .returned (.bool (l.all p)) ∧ Below w.heap.size w w' := by
 have h0 := hl w (Below.refl _ _)
 have HS : Hid (s.n = l.length) := h0.n
 have hsc : s.n ≤ s.c := h0.c
 have hsm : s.c ≤ maxLen := h0.m
 unfold maxLen at hsm
 have HH : Hid (∀ W,Below w.heap.size w W → RowsAt W 3 (isrP W) s l) := hl
 have HFF : Hid (∀ W,Below w.heap.size w W → ∀ x ∈ l, ∀ (s2 : Sl),RowsAt W 1 intP s2 x.own → Calls Tryz.prog f (#[.agg #[I x.cat,I x.prio, .slice s2.a s2.n s2.c]] ++ caps) W fun e w' => e = .returned (.bool (p x)) ∧ Below W.heap.size W w') := hf
 obtain ⟨R,hR⟩ : ∃ R,R = l.all p := ⟨_,rfl⟩
 rw [← hR]
 have HR : Hid (R = l.all p) := hR
 clear hl hR hf h0
 go_enter Tryz.func92,Tryz.ntmps92
 go_wp2
 go_loopw [6,9] (fun _ iv wr => ∃ j : Nat,j ≤ s.n ∧ iv = .int .i64 j ∧ Hid ((l.take j).all p = true ∧ Below w.heap.size w wr)) (fun _ iv _ => s.n - (intOf iv).toNat)
 case atStart => exact ⟨0,by omega,rfl,by simp,Below.refl _ _⟩
 case round =>
  obtain ⟨j,hj,rfl,HJ⟩ := hrel
  by_cases hlt : j < s.n
  ·have hlt' : (j : Int) < s.n := by omega
   obtain ⟨x,hx⟩ : ∃ x,l[j]? = some x := ⟨_,List.getElem?_eq_getElem (by rw [← HS.out]; exact hlt)⟩
   obtain ⟨g5,o5,e5,hg5,hr5⟩ := (HH.out _ HJ.out.2).row j x hx
   obtain ⟨u0,a0,q0⟩ := hr5 0 (by omega)
   have e0 : u0 = I x.cat := q0
   subst e0
   obtain ⟨u1,a1,q1⟩ := hr5 1 (by omega)
   have e1 : u1 = I x.prio := q1
   subst e1
   obtain ⟨u2,a2,q2⟩ := hr5 2 (by omega)
   obtain ⟨s2,e2,r2⟩ := (show IntsV wr x.own u2 from q2)
   subst e2
   rw [Nat.add_zero] at a0
   have HB : Hid (Below w.heap.size w (wr.alloc (.cells #[I x.cat,I x.prio, .slice s2.a s2.n s2.c] 87))) := HJ.out.2.trans ((qa0 wr _).mono HJ.out.2.size)
   have cx := HFF.out _ HB.out x (List.mem_of_getElem? hx) s2 (r2.below (qa0 wr _) (fun _ _ _ _ h => h))
   have HT : Hid (p x = false → R = false) := fun ht => by rw [HR.out]; exact qbp hx ht
   have HA : Hid (p x = true → (l.take (j + 1)).all p = true) := fun ht => by rw [qbz _ _ j _ hx,HJ.out.1,ht]; rfl
   rw [e5]
   clear hx e5 HJ hr5 q0 q1 q2
   cases he : p x with
   | false =>
    rw [he] at cx
    have HE : Hid (R = false) := HT.out he
    clear HT HA he
    go_wp2
    refine cx.mono ?_
    clear cx
    rintro e7 w7 ⟨rfl,hb7⟩
    have HB7 : Hid (Below w.heap.size w w7) := HB.out.trans (hb7.mono HB.out.size)
    clear hb7
    go_wp2
    go_ret
    exact ⟨qa5 HE.out.symm,HB7.out⟩
   | true =>
    rw [he] at cx
    have HA2 : Hid ((l.take (j + 1)).all p = true) := HA.out he
    clear HT HA he
    go_wp2
    refine cx.mono ?_
    clear cx
    rintro e7 w7 ⟨rfl,hb7⟩
    have HB7 : Hid (Below w.heap.size w w7) := HB.out.trans (hb7.mono HB.out.size)
    clear hb7
    go_wp2
    go_roundw
    case rel => exact ⟨j + 1,by omega,by go_num,HA2.out,HB7.out⟩
    case measure => simp [intOf]; omega
  ·obtain rfl : j = s.n := by omega
   have hlt' : ¬ ((s.n : Nat) : Int) < (s.n : Nat) := by omega
   have HE : Hid (R = true) := by
    show _ = _
    rw [HR.out]
    have := HJ.out.1
    rwa [List.take_of_length_le (by rw [HS.out]; exact Nat.le_refl _)] at this
   have HB : Hid (Below w.heap.size w wr) := HJ.out.2
   clear HR HJ
   go_wp2
   go_ret
   exact ⟨qa5 HE.out.symm,HB.out⟩
theorem qfg (w : World) (s : Sl) (l : List MsR) (hl : ∀ W,Below w.heap.size w W → RowsAt W 8 msrP s l) (f : Nat) (caps : Array Value) (eg : ∀ args W,(callFunc f args).run Tryz.prog W = .ok (.enter f args) W) (p : MsR → Bool)
  (hf : ∀ W,Below w.heap.size w W → ∀ x ∈ l,  Calls Tryz.prog f (#[.agg #[I x.kind,I x.len,I x.frm, .int .u64 (x.init : Int),I x.queue,I x.ac.kind,I x.ac.task, .int .u32 (x.ac.mask : Int)]] ++ caps) W fun e w' => e = .returned (.bool (p x)) ∧ Below W.heap.size W w') :
  Calls Tryz.prog 95 #[.slice s.a s.n s.c, .func (.func f) #[] caps] w fun e w' => e = .returned (.bool (l.all p)) ∧ Below w.heap.size w w' := by
 have h0 := hl w (Below.refl _ _)
 have HS : Hid (s.n = l.length) := h0.n
 have hsc : s.n ≤ s.c := h0.c
 have hsm : s.c ≤ maxLen := h0.m
 unfold maxLen at hsm
 have HH : Hid (∀ W,Below w.heap.size w W → RowsAt W 8 msrP s l) := hl
 have HFF : Hid (∀ W,Below w.heap.size w W → ∀ x ∈ l,  Calls Tryz.prog f (#[.agg #[I x.kind,I x.len,I x.frm, .int .u64 (x.init : Int),I x.queue,I x.ac.kind,I x.ac.task, .int .u32 (x.ac.mask : Int)]] ++ caps) W fun e w' => e = .returned (.bool (p x)) ∧ Below W.heap.size W w') := hf
 obtain ⟨R,hR⟩ : ∃ R,R = l.all p := ⟨_,rfl⟩
 rw [← hR]
 have HR : Hid (R = l.all p) := hR
 clear hl hR hf h0
 go_enter Tryz.func95,Tryz.ntmps95
 go_wp2
 go_loopw [6,9] (fun _ iv wr => ∃ j : Nat,j ≤ s.n ∧ iv = .int .i64 j ∧ Hid ((l.take j).all p = true ∧ Below w.heap.size w wr)) (fun _ iv _ => s.n - (intOf iv).toNat)
 case atStart => exact ⟨0,by omega,rfl,by simp,Below.refl _ _⟩
 case round =>
  obtain ⟨j,hj,rfl,HJ⟩ := hrel
  by_cases hlt : j < s.n
  ·have hlt' : (j : Int) < s.n := by omega
   obtain ⟨x,hx⟩ : ∃ x,l[j]? = some x := ⟨_,List.getElem?_eq_getElem (by rw [← HS.out]; exact hlt)⟩
   obtain ⟨g5,o5,e5,hg5,hr5⟩ := (HH.out _ HJ.out.2).row j x hx
   obtain ⟨u0,a0,q0⟩ := hr5 0 (by omega)
   have e0 : u0 = I x.kind := q0
   subst e0
   obtain ⟨u1,a1,q1⟩ := hr5 1 (by omega)
   have e1 : u1 = I x.len := q1
   subst e1
   obtain ⟨u2,a2,q2⟩ := hr5 2 (by omega)
   have e2 : u2 = I x.frm := q2
   subst e2
   obtain ⟨u3,a3,q3⟩ := hr5 3 (by omega)
   have e3 : u3 = .int .u64 (x.init : Int) := q3
   subst e3
   obtain ⟨u4,a4,q4⟩ := hr5 4 (by omega)
   have e4 : u4 = I x.queue := q4
   subst e4
   obtain ⟨u5,a5,q5⟩ := hr5 5 (by omega)
   have e5 : u5 = I x.ac.kind := q5
   subst e5
   obtain ⟨u6,a6,q6⟩ := hr5 6 (by omega)
   have e6 : u6 = I x.ac.task := q6
   subst e6
   obtain ⟨u7,a7,q7⟩ := hr5 7 (by omega)
   have e7 : u7 = .int .u32 (x.ac.mask : Int) := q7
   subst e7
   rw [Nat.add_zero] at a0
   have HB : Hid (Below w.heap.size w (wr.alloc (.cells #[I x.kind,I x.len,I x.frm, .int .u64 (x.init : Int),I x.queue,I x.ac.kind,I x.ac.task, .int .u32 (x.ac.mask : Int)] 91))) := HJ.out.2.trans ((qa0 wr _).mono HJ.out.2.size)
   have cx := HFF.out _ HB.out x (List.mem_of_getElem? hx)
   have HT : Hid (p x = false → R = false) := fun ht => by rw [HR.out]; exact qbp hx ht
   have HA : Hid (p x = true → (l.take (j + 1)).all p = true) := fun ht => by rw [qbz _ _ j _ hx,HJ.out.1,ht]; rfl
   rw [e5]
   clear hx e5 HJ hr5 q0 q1 q2 q3 q4 q5 q6 q7
   cases he : p x with
   | false =>
    rw [he] at cx
    have HE : Hid (R = false) := HT.out he
    clear HT HA he
    go_wp2
    refine cx.mono ?_
    clear cx
    rintro e7 w7 ⟨rfl,hb7⟩
    have HB7 : Hid (Below w.heap.size w w7) := HB.out.trans (hb7.mono HB.out.size)
    clear hb7
    go_wp2
    go_ret
    exact ⟨qa5 HE.out.symm,HB7.out⟩
   | true =>
    rw [he] at cx
    have HA2 : Hid ((l.take (j + 1)).all p = true) := HA.out he
    clear HT HA he
    go_wp2
    refine cx.mono ?_
    clear cx
    rintro e7 w7 ⟨rfl,hb7⟩
    have HB7 : Hid (Below w.heap.size w w7) := HB.out.trans (hb7.mono HB.out.size)
    clear hb7
    go_wp2
    go_roundw
    case rel => exact ⟨j + 1,by omega,by go_num,HA2.out,HB7.out⟩
    case measure => simp [intOf]; omega
  ·obtain rfl : j = s.n := by omega
   have hlt' : ¬ ((s.n : Nat) : Int) < (s.n : Nat) := by omega
   have HE : Hid (R = true) := by
    show _ = _
    rw [HR.out]
    have := HJ.out.1
    rwa [List.take_of_length_le (by rw [HS.out]; exact Nat.le_refl _)] at this
   have HB : Hid (Below w.heap.size w wr) := HJ.out.2
   clear HR HJ
   go_wp2
   go_ret
   exact ⟨qa5 HE.out.symm,HB.out⟩
end Go.Proofs.YtijgopkhdjaolaaGreat
namespace Go.Proofs.YtijgopkhdjaolaaGreat
open Go.RowKit Go.Shelf
set_option linter.unusedSimpArgs false
set_option linter.unusedVariables false
set_option maxHeartbeats 16000000
set_option maxRecDepth 100000
theorem qe6 (x : RsR) (w : World) : Calls Tryz.prog 74 #[.agg #[.bool x.inner,I x.ceil]] w fun e w' => e = .returned (.bool (inI x.ceil (-1) 127)) ∧ Below w.heap.size w w' := by
 have hb : ∀ o,Below w.heap.size w (w.alloc o) := fun o => qa0 w o
 have k1 := qba x.ceil (-1) 127
 go_enter Tryz.func74,Tryz.ntmps74
 go_wp2_with (go_at_call 72; refine (k1 _).mono ?_; clear k1; rintro e w' ⟨rfl,rfl⟩)
 go_ret
 exact ⟨rfl,hb _⟩
theorem qeb (tb : Tb) (v : Ts) (w : World) (h : TbAt w tb v) : Calls Tryz.prog 26 #[.agg (tbC tb v)] w fun e w' => e = .returned (.bool (tb.ress.all (fun r => inI r.ceil (-1) 127))) ∧ Below w.heap.size w w' := by
 have hb : ∀ o,Below w.heap.size w (w.alloc o) := fun o => qa0 w o
 have ke := fun o => qj7 (w.alloc o) v.r tb.ress (fun W hW => (h.below ((hb o).trans (hW.mono (hb o).size))).r) 74 #[] (enters_of Tryz.func74 (by kernel_rfl) rfl) (fun r => inI r.ceil (-1) 127) (fun W hW x hx => qe6 x W)
 unfold tbC
 go_enter Tryz.func26,Tryz.ntmps26
 go_wp2_with (go_at_call 73; refine (ke _).mono ?_; clear ke; rintro e w' ⟨rfl,hb2⟩)
 go_ret
 exact ⟨rfl,(hb _).trans (hb2.mono (hb _).size)⟩
theorem qmn (x : CtR) : ctB x = ((decide (1 ≤ x.max) && decide (x.max ≤ 2147483647)) && (decide (1 ≤ x.base) && decide (x.base ≤ 2147483647)) && (decide (1 ≤ x.min) && decide (x.min ≤ x.max))) := by
 unfold ctB
 rw [Bool.eq_iff_iff]
 simp
 omega
theorem qec (x : CtR) (w : World) : Calls Tryz.prog 84 #[.agg #[.int .u32 (x.max : Int), .int .u32 (x.base : Int), .int .u32 (x.min : Int)]] w fun e w' => e = .returned (.bool (ctB x)) ∧ Below w.heap.size w w' := by
 have hb : ∀ o,Below w.heap.size w (w.alloc o) := fun o => qa0 w o
 have k1 := qc7 x.max 1 2147483647
 have k2 := qc7 x.base 1 2147483647
 have k3 := qc7 x.min 1 x.max
 rw [qmn]
 generalize (decide (1 ≤ x.max) && decide (x.max ≤ 2147483647)) = b1 at *
 generalize (decide (1 ≤ x.base) && decide (x.base ≤ 2147483647)) = b2 at *
 generalize (decide (1 ≤ x.min) && decide (x.min ≤ x.max)) = b3 at *
 go_enter Tryz.func84,Tryz.ntmps84
 cases b1
 ·go_wp2_with (first | (go_at_call 85; refine (k1 _).mono ?_; clear k1; rintro e w' ⟨rfl,rfl⟩))
  go_ret
  exact ⟨rfl,hb _⟩
 ·cases b2
  ·go_wp2_with (first | (go_at_call 85; refine (k1 _).mono ?_; clear k1; rintro e w' ⟨rfl,rfl⟩) | (go_at_call 85; refine (k2 _).mono ?_; clear k2; rintro e w' ⟨rfl,rfl⟩))
   go_ret
   exact ⟨rfl,hb _⟩
  ·go_wp2_with (first | (go_at_call 85; refine (k1 _).mono ?_; clear k1; rintro e w' ⟨rfl,rfl⟩) | (go_at_call 85; refine (k2 _).mono ?_; clear k2; rintro e w' ⟨rfl,rfl⟩) | (go_at_call 85; refine (k3 _).mono ?_; clear k3; rintro e w' ⟨rfl,rfl⟩))
   go_ret
   exact ⟨qa5 (by simp),hb _⟩
theorem qem (tb : Tb) (v : Ts) (w : World) (h : TbAt w tb v) : Calls Tryz.prog 29 #[.agg (tbC tb v)] w fun e w' => e = .returned (.bool (tb.ctrs.all ctB)) ∧ Below w.heap.size w w' := by
 have hb : ∀ o,Below w.heap.size w (w.alloc o) := fun o => qa0 w o
 have ke := fun o => qj8 (w.alloc o) v.k tb.ctrs (fun W hW => (h.below ((hb o).trans (hW.mono (hb o).size))).k) 84 #[] (enters_of Tryz.func84 (by kernel_rfl) rfl) ctB (fun W hW x hx => qec x W)
 unfold tbC
 go_enter Tryz.func29,Tryz.ntmps29
 go_wp2_with (go_at_call 83; refine (ke _).mono ?_; clear ke; rintro e w' ⟨rfl,hb2⟩)
 go_ret
 exact ⟨rfl,(hb _).trans (hb2.mono (hb _).size)⟩
theorem qh0 (tb : Tb) (v : Ts) (x : IsR) (s : Sl) (w : World) (h : TbAt w tb v) (hs : RowsAt w 1 intP s x.own) : Calls Tryz.prog 91 #[.agg (tbC tb v), .agg (isrC x s)] w fun e w' => e = .returned (.bool (isB tb x)) ∧ Below w.heap.size w w' := by
 have hb : ∀ o p,Below w.heap.size w ((w.alloc o).alloc p) := fun o p => ((Below.refl w.heap.size w).alloc (Nat.le_refl _) o).alloc (by simp) p
 have k1 := qba x.cat 1 2
 have k2 := qba x.prio 64 127
 have ko := fun o p => qe8 tb v ((w.alloc o).alloc p) (h.below (hb o p)) s x.own (hs.below (hb o p) (fun _ _ _ _ h => h)) x.prio
 have HN : Hid (x.own.isEmpty = ((s.n : Int) == 0)) := by
  show _ = _
  rw [hs.n]
  cases x.own <;> simp
  omega
 obtain ⟨R,hR⟩ : ∃ R,R = isB tb x := ⟨_,rfl⟩
 rw [← hR]
 have HR : Hid (R = (inI x.cat 1 2 && inI x.prio 64 127 && (x.cat == 2 || ((s.n : Int) == 0)) && ownG tb x.prio (-1) x.own)) := by
  show _ = _
  rw [hR]
  unfold isB
  rw [HN.out]
 clear hR HN h hs
 generalize inI x.cat 1 2 = b1 at *
 generalize inI x.prio 64 127 = b2 at *
 generalize ownG tb x.prio (-1) x.own = b4 at *
 unfold isrC tbC at *
 generalize x.cat = xc at *
 generalize x.prio = xp at *
 go_enter Tryz.func91,Tryz.ntmps91
 cases b1
 ·go_wp2_with (first | (go_at_call 72; refine (k1 _).mono ?_; clear k1; rintro e w' ⟨rfl,rfl⟩))
  go_ret
  exact ⟨qa5 (by rw [HR.out]; simp),hb _ _⟩
 ·cases b2
  ·go_wp2_with (first | (go_at_call 72; refine (k1 _).mono ?_; clear k1; rintro e w' ⟨rfl,rfl⟩) | (go_at_call 72; refine (k2 _).mono ?_; clear k2; rintro e w' ⟨rfl,rfl⟩))
   go_ret
   exact ⟨qa5 (by rw [HR.out]; simp),hb _ _⟩
  ·cases h3 : (xc == 2)
   ·cases h4 : ((s.n : Int) == 0)
    ·go_wp2_with (first | (go_at_call 72; refine (k1 _).mono ?_; clear k1; rintro e w' ⟨rfl,rfl⟩) | (go_at_call 72; refine (k2 _).mono ?_; clear k2; rintro e w' ⟨rfl,rfl⟩))
     go_ret
     exact ⟨qa5 (by rw [HR.out,h3,h4]; simp),hb _ _⟩
    ·go_wp2_with (first | (go_at_call 72; refine (k1 _).mono ?_; clear k1; rintro e w' ⟨rfl,rfl⟩) | (go_at_call 72; refine (k2 _).mono ?_; clear k2; rintro e w' ⟨rfl,rfl⟩) | (go_at_call 81; refine (ko _ _).mono ?_; clear ko; rintro e w' ⟨rfl,hb2⟩))
     go_ret
     exact ⟨qa5 (by rw [HR.out,h3,h4]; simp),(hb _ _).trans (hb2.mono (hb _ _).size)⟩
   ·go_wp2_with (first | (go_at_call 72; refine (k1 _).mono ?_; clear k1; rintro e w' ⟨rfl,rfl⟩) | (go_at_call 72; refine (k2 _).mono ?_; clear k2; rintro e w' ⟨rfl,rfl⟩) | (go_at_call 81; refine (ko _ _).mono ?_; clear ko; rintro e w' ⟨rfl,hb2⟩))
    go_ret
    exact ⟨qa5 (by rw [HR.out,h3]; simp),(hb _ _).trans (hb2.mono (hb _ _).size)⟩
end Go.Proofs.YtijgopkhdjaolaaGreat
