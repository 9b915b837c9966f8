import Derived.Test.YtmidaeljeoifdaaGreatDoorTcd
namespace Go.Proofs.YtmidaeljeoifdaaGreatDoor
set_option maxRecDepth 100000
set_option maxHeartbeats 16000000
open Go.RowKit
set_option linter.unusedVariables false
set_option linter.unusedSimpArgs false
theorem all_take9 {α : Type} (p : α → Bool) (l : List α) (j : Nat) (x : α) (h : l[j]? = some x) : (l.take (j + 1)).all p = ((l.take j).all p && p x) := by
 rw [List.take_add_one, h, Option.toList_some, List.all_append]
 simp
theorem all_false9 {α : Type} {p : α → Bool} {l : List α} {j : Nat} {x : α} (h : l[j]? = some x) (hp : p x = false) : l.all p = false := by
 apply Bool.eq_false_iff.2
 intro h2
 have := List.all_eq_true.1 h2 x (List.mem_of_getElem? h)
 rw [hp] at this
 cases this
theorem every_tkr (w : World) (s : Sl) (l : List TkR) (hl : ∀ W, Below w.heap.size w W → RowsAt W 8 (tkrP W) s l) (f : Nat) (caps : Array Value) (eg : ∀ args W, (callFunc f args).run Tryz.prog W = .ok (.enter f args) W) (p : TkR → Bool)
  (hf : ∀ W, Below w.heap.size w W → ∀ x ∈ l, ∀ (s6 : Sl), RowsAt W 1 intP s6 x.own → Calls Tryz.prog f (#[.agg #[I x.prio, I x.ring, .bool x.full, I x.limit, .int .u32 (x.mask : Int), I x.inner, .slice s6.a s6.n s6.c, .int .u32 (x.auto : Int)]] ++ caps) W fun e w' => e = .returned (.bool (p x)) ∧ Below W.heap.size W w') :
  Calls Tryz.prog 51 #[.slice s.a s.n s.c, .func (.func f) #[] caps] w fun e w' => e = .returned (.bool (l.all p)) ∧ Below w.heap.size w w' := by
 have h0 := hl w (Below.refl _ _)
 have HS : Hid (s.n = l.length) := h0.n
 have hsc : s.n ≤ s.c := h0.c
 have hsm : s.c ≤ maxLen := h0.m
 unfold maxLen at hsm
 have HH : Hid (∀ W, Below w.heap.size w W → RowsAt W 8 (tkrP W) s l) := hl
 have HFF : Hid (∀ W, Below w.heap.size w W → ∀ x ∈ l, ∀ (s6 : Sl), RowsAt W 1 intP s6 x.own → Calls Tryz.prog f (#[.agg #[I x.prio, I x.ring, .bool x.full, I x.limit, .int .u32 (x.mask : Int), I x.inner, .slice s6.a s6.n s6.c, .int .u32 (x.auto : Int)]] ++ caps) W fun e w' => e = .returned (.bool (p x)) ∧ Below W.heap.size W w') := hf
 obtain ⟨R, hR⟩ : ∃ R, R = l.all p := ⟨_, rfl⟩
 rw [← hR]
 have HR : Hid (R = l.all p) := hR
 clear hl hR hf h0
 go_enter Tryz.func51, Tryz.ntmps51
 go_wp2
 go_loopw [6, 9] (fun _ iv wr => ∃ j : Nat, j ≤ s.n ∧ iv = .int .i64 j ∧ Hid ((l.take j).all p = true ∧ Below w.heap.size w wr)) (fun _ iv _ => s.n - (intOf iv).toNat)
 case atStart => exact ⟨0, by omega, rfl, by simp, Below.refl _ _⟩
 case round =>
  obtain ⟨j, hj, rfl, HJ⟩ := hrel
  by_cases hlt : j < s.n
  ·have hlt' : (j : Int) < s.n := by omega
   obtain ⟨x, hx⟩ : ∃ x, l[j]? = some x := ⟨_, List.getElem?_eq_getElem (by rw [← HS.out]; exact hlt)⟩
   obtain ⟨g5, o5, e5, hg5, hr5⟩ := (HH.out _ HJ.out.2).row j x hx
   obtain ⟨u0, a0, q0⟩ := hr5 0 (by omega)
   have e0 : u0 = I x.prio := q0
   subst e0
   obtain ⟨u1, a1, q1⟩ := hr5 1 (by omega)
   have e1 : u1 = I x.ring := q1
   subst e1
   obtain ⟨u2, a2, q2⟩ := hr5 2 (by omega)
   have e2 : u2 = .bool x.full := q2
   subst e2
   obtain ⟨u3, a3, q3⟩ := hr5 3 (by omega)
   have e3 : u3 = I x.limit := q3
   subst e3
   obtain ⟨u4, a4, q4⟩ := hr5 4 (by omega)
   have e4 : u4 = .int .u32 (x.mask : Int) := q4
   subst e4
   obtain ⟨u5, a5, q5⟩ := hr5 5 (by omega)
   have e5 : u5 = I x.inner := q5
   subst e5
   obtain ⟨u6, a6, q6⟩ := hr5 6 (by omega)
   obtain ⟨s6, e6, r6⟩ := (show IntsV wr x.own u6 from q6)
   subst e6
   obtain ⟨u7, a7, q7⟩ := hr5 7 (by omega)
   have e7 : u7 = .int .u32 (x.auto : Int) := q7
   subst e7
   rw [Nat.add_zero] at a0
   have HB : Hid (Below w.heap.size w (wr.alloc (.cells #[I x.prio, I x.ring, .bool x.full, I x.limit, .int .u32 (x.mask : Int), I x.inner, .slice s6.a s6.n s6.c, .int .u32 (x.auto : Int)] 56))) := HJ.out.2.trans ((below_alloc wr _).mono HJ.out.2.size)
   have cx := HFF.out _ HB.out x (List.mem_of_getElem? hx) s6 (r6.below (below_alloc wr _) (fun _ _ _ _ h => h))
   have HT : Hid (p x = false → R = false) := fun ht => by rw [HR.out]; exact all_false9 hx ht
   have HA : Hid (p x = true → (l.take (j + 1)).all p = true) := fun ht => by rw [all_take9 _ _ j _ hx, HJ.out.1, ht]; rfl
   rw [e5]
   clear hx e5 HJ hr5 q0 q1 q2 q3 q4 q5 q6 q7
   cases he : p x with
   | false =>
    rw [he] at cx
    have HE : Hid (R = false) := HT.out he
    clear HT HA he
    go_wp2
    refine cx.mono ?_
    clear cx
    rintro e7 w7 ⟨rfl, hb7⟩
    have HB7 : Hid (Below w.heap.size w w7) := HB.out.trans (hb7.mono HB.out.size)
    clear hb7
    go_wp2
    go_ret
    exact ⟨ret_bool' HE.out.symm, HB7.out⟩
   | true =>
    rw [he] at cx
    have HA2 : Hid ((l.take (j + 1)).all p = true) := HA.out he
    clear HT HA he
    go_wp2
    refine cx.mono ?_
    clear cx
    rintro e7 w7 ⟨rfl, hb7⟩
    have HB7 : Hid (Below w.heap.size w w7) := HB.out.trans (hb7.mono HB.out.size)
    clear hb7
    go_wp2
    go_roundw
    case rel => exact ⟨j + 1, by omega, by go_num, HA2.out, HB7.out⟩
    case measure => simp [intOf]; omega
  ·obtain rfl : j = s.n := by omega
   have hlt' : ¬ ((s.n : Nat) : Int) < (s.n : Nat) := by omega
   have HE : Hid (R = true) := by
    show _ = _
    rw [HR.out]
    have := HJ.out.1
    rwa [List.take_of_length_le (by rw [HS.out]; exact Nat.le_refl _)] at this
   have HB : Hid (Below w.heap.size w wr) := HJ.out.2
   clear HR HJ
   go_wp2
   go_ret
   exact ⟨ret_bool' HE.out.symm, HB.out⟩
theorem every_rsr (w : World) (s : Sl) (l : List RsR) (hl : ∀ W, Below w.heap.size w W → RowsAt W 2 rsrP s l) (f : Nat) (caps : Array Value) (eg : ∀ args W, (callFunc f args).run Tryz.prog W = .ok (.enter f args) W) (p : RsR → Bool)
  (hf : ∀ W, Below w.heap.size w W → ∀ x ∈ l,  Calls Tryz.prog f (#[.agg #[.bool x.inner, I x.ceil]] ++ caps) W fun e w' => e = .returned (.bool (p x)) ∧ Below W.heap.size W w') :
  Calls Tryz.prog 47 #[.slice s.a s.n s.c, .func (.func f) #[] caps] w fun e w' => e = .returned (.bool (l.all p)) ∧ Below w.heap.size w w' := by
 have h0 := hl w (Below.refl _ _)
 have HS : Hid (s.n = l.length) := h0.n
 have hsc : s.n ≤ s.c := h0.c
 have hsm : s.c ≤ maxLen := h0.m
 unfold maxLen at hsm
 have HH : Hid (∀ W, Below w.heap.size w W → RowsAt W 2 rsrP s l) := hl
 have HFF : Hid (∀ W, Below w.heap.size w W → ∀ x ∈ l,  Calls Tryz.prog f (#[.agg #[.bool x.inner, I x.ceil]] ++ caps) W fun e w' => e = .returned (.bool (p x)) ∧ Below W.heap.size W w') := hf
 obtain ⟨R, hR⟩ : ∃ R, R = l.all p := ⟨_, rfl⟩
 rw [← hR]
 have HR : Hid (R = l.all p) := hR
 clear hl hR hf h0
 go_enter Tryz.func47, Tryz.ntmps47
 go_wp2
 go_loopw [6, 9] (fun _ iv wr => ∃ j : Nat, j ≤ s.n ∧ iv = .int .i64 j ∧ Hid ((l.take j).all p = true ∧ Below w.heap.size w wr)) (fun _ iv _ => s.n - (intOf iv).toNat)
 case atStart => exact ⟨0, by omega, rfl, by simp, Below.refl _ _⟩
 case round =>
  obtain ⟨j, hj, rfl, HJ⟩ := hrel
  by_cases hlt : j < s.n
  ·have hlt' : (j : Int) < s.n := by omega
   obtain ⟨x, hx⟩ : ∃ x, l[j]? = some x := ⟨_, List.getElem?_eq_getElem (by rw [← HS.out]; exact hlt)⟩
   obtain ⟨g5, o5, e5, hg5, hr5⟩ := (HH.out _ HJ.out.2).row j x hx
   obtain ⟨u0, a0, q0⟩ := hr5 0 (by omega)
   have e0 : u0 = .bool x.inner := q0
   subst e0
   obtain ⟨u1, a1, q1⟩ := hr5 1 (by omega)
   have e1 : u1 = I x.ceil := q1
   subst e1
   rw [Nat.add_zero] at a0
   have HB : Hid (Below w.heap.size w (wr.alloc (.cells #[.bool x.inner, I x.ceil] 60))) := HJ.out.2.trans ((below_alloc wr _).mono HJ.out.2.size)
   have cx := HFF.out _ HB.out x (List.mem_of_getElem? hx)
   have HT : Hid (p x = false → R = false) := fun ht => by rw [HR.out]; exact all_false9 hx ht
   have HA : Hid (p x = true → (l.take (j + 1)).all p = true) := fun ht => by rw [all_take9 _ _ j _ hx, HJ.out.1, ht]; rfl
   rw [e5]
   clear hx e5 HJ hr5 q0 q1
   cases he : p x with
   | false =>
    rw [he] at cx
    have HE : Hid (R = false) := HT.out he
    clear HT HA he
    go_wp2
    refine cx.mono ?_
    clear cx
    rintro e7 w7 ⟨rfl, hb7⟩
    have HB7 : Hid (Below w.heap.size w w7) := HB.out.trans (hb7.mono HB.out.size)
    clear hb7
    go_wp2
    go_ret
    exact ⟨ret_bool' HE.out.symm, HB7.out⟩
   | true =>
    rw [he] at cx
    have HA2 : Hid ((l.take (j + 1)).all p = true) := HA.out he
    clear HT HA he
    go_wp2
    refine cx.mono ?_
    clear cx
    rintro e7 w7 ⟨rfl, hb7⟩
    have HB7 : Hid (Below w.heap.size w w7) := HB.out.trans (hb7.mono HB.out.size)
    clear hb7
    go_wp2
    go_roundw
    case rel => exact ⟨j + 1, by omega, by go_num, HA2.out, HB7.out⟩
    case measure => simp [intOf]; omega
  ·obtain rfl : j = s.n := by omega
   have hlt' : ¬ ((s.n : Nat) : Int) < (s.n : Nat) := by omega
   have HE : Hid (R = true) := by
    show _ = _
    rw [HR.out]
    have := HJ.out.1
    rwa [List.take_of_length_le (by rw [HS.out]; exact Nat.le_refl _)] at this
   have HB : Hid (Below w.heap.size w wr) := HJ.out.2
   clear HR HJ
   go_wp2
   go_ret
   exact ⟨ret_bool' HE.out.symm, HB.out⟩
theorem every_ctr (w : World) (s : Sl) (l : List CtR) (hl : ∀ W, Below w.heap.size w W → RowsAt W 3 ctrP s l) (f : Nat) (caps : Array Value) (eg : ∀ args W, (callFunc f args).run Tryz.prog W = .ok (.enter f args) W) (p : CtR → Bool)
  (hf : ∀ W, Below w.heap.size w W → ∀ x ∈ l,  Calls Tryz.prog f (#[.agg #[.int .u32 (x.max : Int), .int .u32 (x.base : Int), .int .u32 (x.min : Int)]] ++ caps) W fun e w' => e = .returned (.bool (p x)) ∧ Below W.heap.size W w') :
  Calls Tryz.prog 57 #[.slice s.a s.n s.c, .func (.func f) #[] caps] w fun e w' => e = .returned (.bool (l.all p)) ∧ Below w.heap.size w w' := by
 have h0 := hl w (Below.refl _ _)
 have HS : Hid (s.n = l.length) := h0.n
 have hsc : s.n ≤ s.c := h0.c
 have hsm : s.c ≤ maxLen := h0.m
 unfold maxLen at hsm
 have HH : Hid (∀ W, Below w.heap.size w W → RowsAt W 3 ctrP s l) := hl
 have HFF : Hid (∀ W, Below w.heap.size w W → ∀ x ∈ l,  Calls Tryz.prog f (#[.agg #[.int .u32 (x.max : Int), .int .u32 (x.base : Int), .int .u32 (x.min : Int)]] ++ caps) W fun e w' => e = .returned (.bool (p x)) ∧ Below W.heap.size W w') := hf
 obtain ⟨R, hR⟩ : ∃ R, R = l.all p := ⟨_, rfl⟩
 rw [← hR]
 have HR : Hid (R = l.all p) := hR
 clear hl hR hf h0
 go_enter Tryz.func57, Tryz.ntmps57
 go_wp2
 go_loopw [6, 9] (fun _ iv wr => ∃ j : Nat, j ≤ s.n ∧ iv = .int .i64 j ∧ Hid ((l.take j).all p = true ∧ Below w.heap.size w wr)) (fun _ iv _ => s.n - (intOf iv).toNat)
 case atStart => exact ⟨0, by omega, rfl, by simp, Below.refl _ _⟩
 case round =>
  obtain ⟨j, hj, rfl, HJ⟩ := hrel
  by_cases hlt : j < s.n
  ·have hlt' : (j : Int) < s.n := by omega
   obtain ⟨x, hx⟩ : ∃ x, l[j]? = some x := ⟨_, List.getElem?_eq_getElem (by rw [← HS.out]; exact hlt)⟩
   obtain ⟨g5, o5, e5, hg5, hr5⟩ := (HH.out _ HJ.out.2).row j x hx
   obtain ⟨u0, a0, q0⟩ := hr5 0 (by omega)
   have e0 : u0 = .int .u32 (x.max : Int) := q0
   subst e0
   obtain ⟨u1, a1, q1⟩ := hr5 1 (by omega)
   have e1 : u1 = .int .u32 (x.base : Int) := q1
   subst e1
   obtain ⟨u2, a2, q2⟩ := hr5 2 (by omega)
   have e2 : u2 = .int .u32 (x.min : Int) := q2
   subst e2
   rw [Nat.add_zero] at a0
   have HB : Hid (Below w.heap.size w (wr.alloc (.cells #[.int .u32 (x.max : Int), .int .u32 (x.base : Int), .int .u32 (x.min : Int)] 91))) := HJ.out.2.trans ((below_alloc wr _).mono HJ.out.2.size)
   have cx := HFF.out _ HB.out x (List.mem_of_getElem? hx)
   have HT : Hid (p x = false → R = false) := fun ht => by rw [HR.out]; exact all_false9 hx ht
   have HA : Hid (p x = true → (l.take (j + 1)).all p = true) := fun ht => by rw [all_take9 _ _ j _ hx, HJ.out.1, ht]; rfl
   rw [e5]
   clear hx e5 HJ hr5 q0 q1 q2
   cases he : p x with
   | false =>
    rw [he] at cx
    have HE : Hid (R = false) := HT.out he
    clear HT HA he
    go_wp2
    refine cx.mono ?_
    clear cx
    rintro e7 w7 ⟨rfl, hb7⟩
    have HB7 : Hid (Below w.heap.size w w7) := HB.out.trans (hb7.mono HB.out.size)
    clear hb7
    go_wp2
    go_ret
    exact ⟨ret_bool' HE.out.symm, HB7.out⟩
   | true =>
    rw [he] at cx
    have HA2 : Hid ((l.take (j + 1)).all p = true) := HA.out he
    clear HT HA he
    go_wp2
    refine cx.mono ?_
    clear cx
    rintro e7 w7 ⟨rfl, hb7⟩
    have HB7 : Hid (Below w.heap.size w w7) := HB.out.trans (hb7.mono HB.out.size)
    clear hb7
    go_wp2
    go_roundw
    case rel => exact ⟨j + 1, by omega, by go_num, HA2.out, HB7.out⟩
    case measure => simp [intOf]; omega
  ·obtain rfl : j = s.n := by omega
   have hlt' : ¬ ((s.n : Nat) : Int) < (s.n : Nat) := by omega
   have HE : Hid (R = true) := by
    show _ = _
    rw [HR.out]
    have := HJ.out.1
    rwa [List.take_of_length_le (by rw [HS.out]; exact Nat.le_refl _)] at this
   have HB : Hid (Below w.heap.size w wr) := HJ.out.2
   clear HR HJ
   go_wp2
   go_ret
   exact ⟨ret_bool' HE.out.symm, HB.out⟩
theorem every_alr (w : World) (s : Sl) (l : List AlR) (hl : ∀ W, Below w.heap.size w W → RowsAt W 7 alrP s l) (f : Nat) (caps : Array Value) (eg : ∀ args W, (callFunc f args).run Tryz.prog W = .ok (.enter f args) W) (p : AlR → Bool)
  (hf : ∀ W, Below w.heap.size w W → ∀ x ∈ l,  Calls Tryz.prog f (#[.agg #[I x.ctr, I x.ac.kind, I x.ac.task, .int .u32 (x.ac.mask : Int), .int .u32 (x.auto : Int), .int .u32 (x.time : Int), .int .u32 (x.cycle : Int)]] ++ caps) W fun e w' => e = .returned (.bool (p x)) ∧ Below W.heap.size W w') :
  Calls Tryz.prog 60 #[.slice s.a s.n s.c, .func (.func f) #[] caps] w fun e w' => e = .returned (.bool (l.all p)) ∧ Below w.heap.size w w' := by
 have h0 := hl w (Below.refl _ _)
 have HS : Hid (s.n = l.length) := h0.n
 have hsc : s.n ≤ s.c := h0.c
 have hsm : s.c ≤ maxLen := h0.m
 unfold maxLen at hsm
 have HH : Hid (∀ W, Below w.heap.size w W → RowsAt W 7 alrP s l) := hl
 have HFF : Hid (∀ W, Below w.heap.size w W → ∀ x ∈ l,  Calls Tryz.prog f (#[.agg #[I x.ctr, I x.ac.kind, I x.ac.task, .int .u32 (x.ac.mask : Int), .int .u32 (x.auto : Int), .int .u32 (x.time : Int), .int .u32 (x.cycle : Int)]] ++ caps) W fun e w' => e = .returned (.bool (p x)) ∧ Below W.heap.size W w') := hf
 obtain ⟨R, hR⟩ : ∃ R, R = l.all p := ⟨_, rfl⟩
 rw [← hR]
 have HR : Hid (R = l.all p) := hR
 clear hl hR hf h0
 go_enter Tryz.func60, Tryz.ntmps60
 go_wp2
 go_loopw [6, 9] (fun _ iv wr => ∃ j : Nat, j ≤ s.n ∧ iv = .int .i64 j ∧ Hid ((l.take j).all p = true ∧ Below w.heap.size w wr)) (fun _ iv _ => s.n - (intOf iv).toNat)
 case atStart => exact ⟨0, by omega, rfl, by simp, Below.refl _ _⟩
 case round =>
  obtain ⟨j, hj, rfl, HJ⟩ := hrel
  by_cases hlt : j < s.n
  ·have hlt' : (j : Int) < s.n := by omega
   obtain ⟨x, hx⟩ : ∃ x, l[j]? = some x := ⟨_, List.getElem?_eq_getElem (by rw [← HS.out]; exact hlt)⟩
   obtain ⟨g5, o5, e5, hg5, hr5⟩ := (HH.out _ HJ.out.2).row j x hx
   obtain ⟨u0, a0, q0⟩ := hr5 0 (by omega)
   have e0 : u0 = I x.ctr := q0
   subst e0
   obtain ⟨u1, a1, q1⟩ := hr5 1 (by omega)
   have e1 : u1 = I x.ac.kind := q1
   subst e1
   obtain ⟨u2, a2, q2⟩ := hr5 2 (by omega)
   have e2 : u2 = I x.ac.task := q2
   subst e2
   obtain ⟨u3, a3, q3⟩ := hr5 3 (by omega)
   have e3 : u3 = .int .u32 (x.ac.mask : Int) := q3
   subst e3
   obtain ⟨u4, a4, q4⟩ := hr5 4 (by omega)
   have e4 : u4 = .int .u32 (x.auto : Int) := q4
   subst e4
   obtain ⟨u5, a5, q5⟩ := hr5 5 (by omega)
   have e5 : u5 = .int .u32 (x.time : Int) := q5
   subst e5
   obtain ⟨u6, a6, q6⟩ := hr5 6 (by omega)
   have e6 : u6 = .int .u32 (x.cycle : Int) := q6
   subst e6
   rw [Nat.add_zero] at a0
   have HB : Hid (Below w.heap.size w (wr.alloc (.cells #[I x.ctr, I x.ac.kind, I x.ac.task, .int .u32 (x.ac.mask : Int), .int .u32 (x.auto : Int), .int .u32 (x.time : Int), .int .u32 (x.cycle : Int)] 95))) := HJ.out.2.trans ((below_alloc wr _).mono HJ.out.2.size)
   have cx := HFF.out _ HB.out x (List.mem_of_getElem? hx)
   have HT : Hid (p x = false → R = false) := fun ht => by rw [HR.out]; exact all_false9 hx ht
   have HA : Hid (p x = true → (l.take (j + 1)).all p = true) := fun ht => by rw [all_take9 _ _ j _ hx, HJ.out.1, ht]; rfl
   rw [e5]
   clear hx e5 HJ hr5 q0 q1 q2 q3 q4 q5 q6
   cases he : p x with
   | false =>
    rw [he] at cx
    have HE : Hid (R = false) := HT.out he
    clear HT HA he
    go_wp2
    refine cx.mono ?_
    clear cx
    rintro e7 w7 ⟨rfl, hb7⟩
    have HB7 : Hid (Below w.heap.size w w7) := HB.out.trans (hb7.mono HB.out.size)
    clear hb7
    go_wp2
    go_ret
    exact ⟨ret_bool' HE.out.symm, HB7.out⟩
   | true =>
    rw [he] at cx
    have HA2 : Hid ((l.take (j + 1)).all p = true) := HA.out he
    clear HT HA he
    go_wp2
    refine cx.mono ?_
    clear cx
    rintro e7 w7 ⟨rfl, hb7⟩
    have HB7 : Hid (Below w.heap.size w w7) := HB.out.trans (hb7.mono HB.out.size)
    clear hb7
    go_wp2
    go_roundw
    case rel => exact ⟨j + 1, by omega, by go_num, HA2.out, HB7.out⟩
    case measure => simp [intOf]; omega
  ·obtain rfl : j = s.n := by omega
   have hlt' : ¬ ((s.n : Nat) : Int) < (s.n : Nat) := by omega
   have HE : Hid (R = true) := by
    show _ = _
    rw [HR.out]
    have := HJ.out.1
    rwa [List.take_of_length_le (by rw [HS.out]; exact Nat.le_refl _)] at this
   have HB : Hid (Below w.heap.size w wr) := HJ.out.2
   clear HR HJ
   go_wp2
   go_ret
   exact ⟨ret_bool' HE.out.symm, HB.out⟩
theorem every_isr (w : World) (s : Sl) (l : List IsR) (hl : ∀ W, Below w.heap.size w W → RowsAt W 3 (isrP W) s l) (f : Nat) (caps : Array Value) (eg : ∀ args W, (callFunc f args).run Tryz.prog W = .ok (.enter f args) W) (p : IsR → Bool)
  (hf : ∀ W, Below w.heap.size w W → ∀ x ∈ l, ∀ (s2 : Sl), RowsAt W 1 intP s2 x.own → Calls Tryz.prog f (#[.agg #[I x.cat, I x.prio, .slice s2.a s2.n s2.c]] ++ caps) W fun e w' => e = .returned (.bool (p x)) ∧ Below W.heap.size W w') :
  Calls Tryz.prog 66 #[.slice s.a s.n s.c, .func (.func f) #[] caps] w fun e w' => e = .returned (.bool (l.all p)) ∧ Below w.heap.size w w' := by
 have h0 := hl w (Below.refl _ _)
 have HS : Hid (s.n = l.length) := h0.n
 have hsc : s.n ≤ s.c := h0.c
 have hsm : s.c ≤ maxLen := h0.m
 unfold maxLen at hsm
 have HH : Hid (∀ W, Below w.heap.size w W → RowsAt W 3 (isrP W) s l) := hl
 have HFF : Hid (∀ W, Below w.heap.size w W → ∀ x ∈ l, ∀ (s2 : Sl), RowsAt W 1 intP s2 x.own → Calls Tryz.prog f (#[.agg #[I x.cat, I x.prio, .slice s2.a s2.n s2.c]] ++ caps) W fun e w' => e = .returned (.bool (p x)) ∧ Below W.heap.size W w') := hf
 obtain ⟨R, hR⟩ : ∃ R, R = l.all p := ⟨_, rfl⟩
 rw [← hR]
 have HR : Hid (R = l.all p) := hR
 clear hl hR hf h0
 go_enter Tryz.func66, Tryz.ntmps66
 go_wp2
 go_loopw [6, 9] (fun _ iv wr => ∃ j : Nat, j ≤ s.n ∧ iv = .int .i64 j ∧ Hid ((l.take j).all p = true ∧ Below w.heap.size w wr)) (fun _ iv _ => s.n - (intOf iv).toNat)
 case atStart => exact ⟨0, by omega, rfl, by simp, Below.refl _ _⟩
 case round =>
  obtain ⟨j, hj, rfl, HJ⟩ := hrel
  by_cases hlt : j < s.n
  ·have hlt' : (j : Int) < s.n := by omega
   obtain ⟨x, hx⟩ : ∃ x, l[j]? = some x := ⟨_, List.getElem?_eq_getElem (by rw [← HS.out]; exact hlt)⟩
   obtain ⟨g5, o5, e5, hg5, hr5⟩ := (HH.out _ HJ.out.2).row j x hx
   obtain ⟨u0, a0, q0⟩ := hr5 0 (by omega)
   have e0 : u0 = I x.cat := q0
   subst e0
   obtain ⟨u1, a1, q1⟩ := hr5 1 (by omega)
   have e1 : u1 = I x.prio := q1
   subst e1
   obtain ⟨u2, a2, q2⟩ := hr5 2 (by omega)
   obtain ⟨s2, e2, r2⟩ := (show IntsV wr x.own u2 from q2)
   subst e2
   rw [Nat.add_zero] at a0
   have HB : Hid (Below w.heap.size w (wr.alloc (.cells #[I x.cat, I x.prio, .slice s2.a s2.n s2.c] 72))) := HJ.out.2.trans ((below_alloc wr _).mono HJ.out.2.size)
   have cx := HFF.out _ HB.out x (List.mem_of_getElem? hx) s2 (r2.below (below_alloc wr _) (fun _ _ _ _ h => h))
   have HT : Hid (p x = false → R = false) := fun ht => by rw [HR.out]; exact all_false9 hx ht
   have HA : Hid (p x = true → (l.take (j + 1)).all p = true) := fun ht => by rw [all_take9 _ _ j _ hx, HJ.out.1, ht]; rfl
   rw [e5]
   clear hx e5 HJ hr5 q0 q1 q2
   cases he : p x with
   | false =>
    rw [he] at cx
    have HE : Hid (R = false) := HT.out he
    clear HT HA he
    go_wp2
    refine cx.mono ?_
    clear cx
    rintro e7 w7 ⟨rfl, hb7⟩
    have HB7 : Hid (Below w.heap.size w w7) := HB.out.trans (hb7.mono HB.out.size)
    clear hb7
    go_wp2
    go_ret
    exact ⟨ret_bool' HE.out.symm, HB7.out⟩
   | true =>
    rw [he] at cx
    have HA2 : Hid ((l.take (j + 1)).all p = true) := HA.out he
    clear HT HA he
    go_wp2
    refine cx.mono ?_
    clear cx
    rintro e7 w7 ⟨rfl, hb7⟩
    have HB7 : Hid (Below w.heap.size w w7) := HB.out.trans (hb7.mono HB.out.size)
    clear hb7
    go_wp2
    go_roundw
    case rel => exact ⟨j + 1, by omega, by go_num, HA2.out, HB7.out⟩
    case measure => simp [intOf]; omega
  ·obtain rfl : j = s.n := by omega
   have hlt' : ¬ ((s.n : Nat) : Int) < (s.n : Nat) := by omega
   have HE : Hid (R = true) := by
    show _ = _
    rw [HR.out]
    have := HJ.out.1
    rwa [List.take_of_length_le (by rw [HS.out]; exact Nat.le_refl _)] at this
   have HB : Hid (Below w.heap.size w wr) := HJ.out.2
   clear HR HJ
   go_wp2
   go_ret
   exact ⟨ret_bool' HE.out.symm, HB.out⟩
theorem every_msr (w : World) (s : Sl) (l : List MsR) (hl : ∀ W, Below w.heap.size w W → RowsAt W 8 msrP s l) (f : Nat) (caps : Array Value) (eg : ∀ args W, (callFunc f args).run Tryz.prog W = .ok (.enter f args) W) (p : MsR → Bool)
  (hf : ∀ W, Below w.heap.size w W → ∀ x ∈ l,  Calls Tryz.prog f (#[.agg #[I x.kind, I x.len, I x.frm, .int .u64 (x.init : Int), I x.queue, I x.ac.kind, I x.ac.task, .int .u32 (x.ac.mask : Int)]] ++ caps) W fun e w' => e = .returned (.bool (p x)) ∧ Below W.heap.size W w') :
  Calls Tryz.prog 69 #[.slice s.a s.n s.c, .func (.func f) #[] caps] w fun e w' => e = .returned (.bool (l.all p)) ∧ Below w.heap.size w w' := by
 have h0 := hl w (Below.refl _ _)
 have HS : Hid (s.n = l.length) := h0.n
 have hsc : s.n ≤ s.c := h0.c
 have hsm : s.c ≤ maxLen := h0.m
 unfold maxLen at hsm
 have HH : Hid (∀ W, Below w.heap.size w W → RowsAt W 8 msrP s l) := hl
 have HFF : Hid (∀ W, Below w.heap.size w W → ∀ x ∈ l,  Calls Tryz.prog f (#[.agg #[I x.kind, I x.len, I x.frm, .int .u64 (x.init : Int), I x.queue, I x.ac.kind, I x.ac.task, .int .u32 (x.ac.mask : Int)]] ++ caps) W fun e w' => e = .returned (.bool (p x)) ∧ Below W.heap.size W w') := hf
 obtain ⟨R, hR⟩ : ∃ R, R = l.all p := ⟨_, rfl⟩
 rw [← hR]
 have HR : Hid (R = l.all p) := hR
 clear hl hR hf h0
 go_enter Tryz.func69, Tryz.ntmps69
 go_wp2
 go_loopw [6, 9] (fun _ iv wr => ∃ j : Nat, j ≤ s.n ∧ iv = .int .i64 j ∧ Hid ((l.take j).all p = true ∧ Below w.heap.size w wr)) (fun _ iv _ => s.n - (intOf iv).toNat)
 case atStart => exact ⟨0, by omega, rfl, by simp, Below.refl _ _⟩
 case round =>
  obtain ⟨j, hj, rfl, HJ⟩ := hrel
  by_cases hlt : j < s.n
  ·have hlt' : (j : Int) < s.n := by omega
   obtain ⟨x, hx⟩ : ∃ x, l[j]? = some x := ⟨_, List.getElem?_eq_getElem (by rw [← HS.out]; exact hlt)⟩
   obtain ⟨g5, o5, e5, hg5, hr5⟩ := (HH.out _ HJ.out.2).row j x hx
   obtain ⟨u0, a0, q0⟩ := hr5 0 (by omega)
   have e0 : u0 = I x.kind := q0
   subst e0
   obtain ⟨u1, a1, q1⟩ := hr5 1 (by omega)
   have e1 : u1 = I x.len := q1
   subst e1
   obtain ⟨u2, a2, q2⟩ := hr5 2 (by omega)
   have e2 : u2 = I x.frm := q2
   subst e2
   obtain ⟨u3, a3, q3⟩ := hr5 3 (by omega)
   have e3 : u3 = .int .u64 (x.init : Int) := q3
   subst e3
   obtain ⟨u4, a4, q4⟩ := hr5 4 (by omega)
   have e4 : u4 = I x.queue := q4
   subst e4
   obtain ⟨u5, a5, q5⟩ := hr5 5 (by omega)
   have e5 : u5 = I x.ac.kind := q5
   subst e5
   obtain ⟨u6, a6, q6⟩ := hr5 6 (by omega)
   have e6 : u6 = I x.ac.task := q6
   subst e6
   obtain ⟨u7, a7, q7⟩ := hr5 7 (by omega)
   have e7 : u7 = .int .u32 (x.ac.mask : Int) := q7
   subst e7
   rw [Nat.add_zero] at a0
   have HB : Hid (Below w.heap.size w (wr.alloc (.cells #[I x.kind, I x.len, I x.frm, .int .u64 (x.init : Int), I x.queue, I x.ac.kind, I x.ac.task, .int .u32 (x.ac.mask : Int)] 99))) := HJ.out.2.trans ((below_alloc wr _).mono HJ.out.2.size)
   have cx := HFF.out _ HB.out x (List.mem_of_getElem? hx)
   have HT : Hid (p x = false → R = false) := fun ht => by rw [HR.out]; exact all_false9 hx ht
   have HA : Hid (p x = true → (l.take (j + 1)).all p = true) := fun ht => by rw [all_take9 _ _ j _ hx, HJ.out.1, ht]; rfl
   rw [e5]
   clear hx e5 HJ hr5 q0 q1 q2 q3 q4 q5 q6 q7
   cases he : p x with
   | false =>
    rw [he] at cx
    have HE : Hid (R = false) := HT.out he
    clear HT HA he
    go_wp2
    refine cx.mono ?_
    clear cx
    rintro e7 w7 ⟨rfl, hb7⟩
    have HB7 : Hid (Below w.heap.size w w7) := HB.out.trans (hb7.mono HB.out.size)
    clear hb7
    go_wp2
    go_ret
    exact ⟨ret_bool' HE.out.symm, HB7.out⟩
   | true =>
    rw [he] at cx
    have HA2 : Hid ((l.take (j + 1)).all p = true) := HA.out he
    clear HT HA he
    go_wp2
    refine cx.mono ?_
    clear cx
    rintro e7 w7 ⟨rfl, hb7⟩
    have HB7 : Hid (Below w.heap.size w w7) := HB.out.trans (hb7.mono HB.out.size)
    clear hb7
    go_wp2
    go_roundw
    case rel => exact ⟨j + 1, by omega, by go_num, HA2.out, HB7.out⟩
    case measure => simp [intOf]; omega
  ·obtain rfl : j = s.n := by omega
   have hlt' : ¬ ((s.n : Nat) : Int) < (s.n : Nat) := by omega
   have HE : Hid (R = true) := by
    show _ = _
    rw [HR.out]
    have := HJ.out.1
    rwa [List.take_of_length_le (by rw [HS.out]; exact Nat.le_refl _)] at this
   have HB : Hid (Below w.heap.size w wr) := HJ.out.2
   clear HR HJ
   go_wp2
   go_ret
   exact ⟨ret_bool' HE.out.symm, HB.out⟩
end Go.Proofs.YtmidaeljeoifdaaGreatDoor
