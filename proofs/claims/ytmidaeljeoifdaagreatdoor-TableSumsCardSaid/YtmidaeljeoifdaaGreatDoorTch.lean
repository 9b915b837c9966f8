import Derived.Test.YtmidaeljeoifdaaGreatDoorTcg
namespace Go.Proofs.YtmidaeljeoifdaaGreatDoor
set_option maxRecDepth 100000
set_option maxHeartbeats 16000000
open Go.RowKit Go.Shelf
set_option linter.unusedVariables false
set_option linter.unusedSimpArgs false
theorem ret_i {a b : Int} (h : a = b) : Ending.returned (I a) = Ending.returned (I b) := by rw [h]
def sumZ {α : Type} (h : α → Int) : List α → Int
 | [] => 0
 | x :: l => h x + sumZ h l
theorem sumZ_snoc {α : Type} (h : α → Int) (l : List α) (x : α) : sumZ h (l ++ [x]) = sumZ h l + h x := by
 induction l with
 | nil => simp [sumZ]
 | cons y l ih => rw [List.cons_append, sumZ, ih, sumZ]; omega
theorem sumZ_cap (p : Int) : ∀ l : List TkR, sumZ (fun x : TkR => if x.prio = p then x.limit else 0) l = capN l p
 | [] => rfl
 | x :: l => by rw [sumZ, capN, sumZ_cap p l]
theorem sum_tkr (w : World) (s : Sl) (l : List TkR) (hl : ∀ W, Below w.heap.size w W → RowsAt W 8 (tkrP W) s l) (f : Nat) (caps : Array Value) (eg : ∀ args W, (callFunc f args).run Tryz.prog W = .ok (.enter f args) W) (p : TkR → Int)
  (hf : ∀ W, Below w.heap.size w W → ∀ x ∈ l, ∀ (s6 : Sl), RowsAt W 1 intP s6 x.own → Calls Tryz.prog f (#[.agg #[I x.prio, I x.ring, .bool x.full, I x.limit, .int .u32 (x.mask : Int), I x.inner, .slice s6.a s6.n s6.c, .int .u32 (x.auto : Int)]] ++ caps) W fun e w' => e = .returned (I (p x)) ∧ Below W.heap.size W w') :
  Calls Tryz.prog 105 #[.slice s.a s.n s.c, .func (.func f) #[] caps] w fun e w' => e = .returned (I (IntKind.i64.wrap (sumZ p l))) ∧ Below w.heap.size w w' := by
 have h0 := hl w (Below.refl _ _)
 have HS : Hid (s.n = l.length) := h0.n
 have hsc : s.n ≤ s.c := h0.c
 have hsm : s.c ≤ maxLen := h0.m
 unfold maxLen at hsm
 have HH : Hid (∀ W, Below w.heap.size w W → RowsAt W 8 (tkrP W) s l) := hl
 have HFF : Hid (∀ W, Below w.heap.size w W → ∀ x ∈ l, ∀ (s6 : Sl), RowsAt W 1 intP s6 x.own → Calls Tryz.prog f (#[.agg #[I x.prio, I x.ring, .bool x.full, I x.limit, .int .u32 (x.mask : Int), I x.inner, .slice s6.a s6.n s6.c, .int .u32 (x.auto : Int)]] ++ caps) W fun e w' => e = .returned (I (p x)) ∧ Below W.heap.size W w') := hf
 obtain ⟨R, hR⟩ : ∃ R, R = IntKind.i64.wrap (sumZ p l) := ⟨_, rfl⟩
 rw [← hR]
 have HR : Hid (R = IntKind.i64.wrap (sumZ p l)) := hR
 clear hl hR hf h0
 go_enter Tryz.func105, Tryz.ntmps105
 go_wp2
 go_loopw [5, 7, 10] (fun tv _ iv wr => ∃ (j : Nat) (t : Int), j ≤ s.n ∧ iv = .int .i64 j ∧ tv = .int .i64 t ∧ Hid (t = IntKind.i64.wrap (sumZ p (l.take j)) ∧ Below w.heap.size w wr)) (fun _ _ iv _ => s.n - (intOf iv).toNat)
 case atStart => exact ⟨0, 0, by omega, rfl, rfl, by simp [sumZ, IntKind.wrap_i64], Below.refl _ _⟩
 case round =>
  obtain ⟨j, t, hj, rfl, rfl, HJ⟩ := hrel
  by_cases hlt : j < s.n
  ·have hlt' : (j : Int) < s.n := by omega
   obtain ⟨x, hx⟩ : ∃ x, l[j]? = some x := ⟨_, List.getElem?_eq_getElem (by rw [← HS.out]; exact hlt)⟩
   obtain ⟨g5, o5, e5, hg5, hr5⟩ := (HH.out _ HJ.out.2).row j x hx
   obtain ⟨u0, a0, q0⟩ := hr5 0 (by omega)
   obtain ⟨u1, a1, q1⟩ := hr5 1 (by omega)
   obtain ⟨u2, a2, q2⟩ := hr5 2 (by omega)
   obtain ⟨u3, a3, q3⟩ := hr5 3 (by omega)
   obtain ⟨u4, a4, q4⟩ := hr5 4 (by omega)
   obtain ⟨u5, a5, q5⟩ := hr5 5 (by omega)
   obtain ⟨u6, a6, q6⟩ := hr5 6 (by omega)
   obtain ⟨u7, a7, q7⟩ := hr5 7 (by omega)
   have e0 : u0 = I x.prio := q0
   have e1 : u1 = I x.ring := q1
   have e2 : u2 = .bool x.full := q2
   have e3 : u3 = I x.limit := q3
   have e4 : u4 = .int .u32 (x.mask : Int) := q4
   have e6 : u5 = I x.inner := q5
   obtain ⟨s6, e7, r6⟩ := (show IntsV wr x.own u6 from q6)
   have e8 : u7 = .int .u32 (x.auto : Int) := q7
   subst e0 e1 e2 e3 e4 e6 e7 e8
   rw [Nat.add_zero] at a0
   have HB : Hid (Below w.heap.size w (wr.alloc (.cells #[I x.prio, I x.ring, .bool x.full, I x.limit, .int .u32 (x.mask : Int), I x.inner, .slice s6.a s6.n s6.c, .int .u32 (x.auto : Int)] 56))) := HJ.out.2.trans ((below_alloc wr _).mono HJ.out.2.size)
   have cx := HFF.out _ HB.out x (List.mem_of_getElem? hx) s6 (r6.below (below_alloc wr _) (fun _ _ _ _ h => h))
   have HA : Hid (IntKind.i64.wrap (t + p x) = IntKind.i64.wrap (sumZ p (l.take (j + 1)))) := by
    show _ = _
    rw [List.take_add_one, hx, Option.toList_some, sumZ_snoc, HJ.out.1]
    simp only [IntKind.wrap_i64]
    omega
   rw [e5]
   clear hx e5 HJ hr5 q0 q1 q2 q3 q4 q5 q6 q7 r6
   generalize p x = px at *
   go_wp2
   refine cx.mono ?_
   clear cx
   rintro e7 w7 ⟨rfl, hb7⟩
   have HB7 : Hid (Below w.heap.size w w7) := HB.out.trans (hb7.mono HB.out.size)
   clear hb7
   go_wp2
   go_roundw
   case rel => exact ⟨j + 1, IntKind.i64.wrap (t + px), by omega, by go_num, by simp [IntKind.wrap_i64, wrap64], HA.out, HB7.out⟩
   case measure => simp [intOf]; omega
  ·obtain rfl : j = s.n := by omega
   have hlt' : ¬ ((s.n : Nat) : Int) < (s.n : Nat) := by omega
   have HE : Hid (t = R) := by
    show _ = _
    rw [HR.out, HJ.out.1, List.take_of_length_le (by rw [HS.out]; exact Nat.le_refl _)]
   have HB : Hid (Below w.heap.size w wr) := HJ.out.2
   clear HR HJ
   go_wp2
   go_ret
   exact ⟨ret_i HE.out, HB.out⟩
end Go.Proofs.YtmidaeljeoifdaaGreatDoor
