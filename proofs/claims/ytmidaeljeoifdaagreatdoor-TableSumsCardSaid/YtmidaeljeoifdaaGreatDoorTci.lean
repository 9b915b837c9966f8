import Derived.Test.YtmidaeljeoifdaaGreatDoorTch
namespace Go.Proofs.YtmidaeljeoifdaaGreatDoor
set_option maxRecDepth 100000
set_option maxHeartbeats 16000000
open Go.RowKit Go.Shelf
set_option linter.unusedVariables false
set_option linter.unusedSimpArgs false
theorem capacity1_any (x : TkR) (s6 : Sl) (p : Int) (B : Nat) (w : World) (hp : w.cell? ⟨B, 0, none⟩ = some (I p)) : Calls Tryz.prog 106 #[.agg (tkrC x s6), .pointer (some ⟨B, 0, none⟩)] w fun e w' => e = .returned (I (if x.prio = p then x.limit else 0)) ∧ Below w.heap.size w w' := by
 have hb : ∀ o, Below w.heap.size w (w.alloc o) := fun o => below_alloc w o
 have hp2 : ∀ o, (w.alloc o).cell? ⟨B, 0, none⟩ = some (I p) := fun o => ((hb o).cell (p := ⟨B, 0, none⟩) (World.block_lt_of_cell? _ _ hp)).trans hp
 clear hp
 by_cases h : x.prio = p
 ·rw [if_pos h]
  have h1 : (x.prio == p) = true := by simpa using h
  clear h
  unfold tkrC
  go_enter Tryz.func106, Tryz.ntmps106
  go_wp2
  go_ret
  exact ⟨rfl, hb _⟩
 ·rw [if_neg h]
  have h1 : (x.prio == p) = false := by simpa using h
  clear h
  unfold tkrC
  go_enter Tryz.func106, Tryz.ntmps106
  go_wp2
  go_ret
  exact ⟨rfl, hb _⟩
theorem capacity_any (w : World) (s : Sl) (l : List TkR) (hl : ∀ W, Below w.heap.size w W → RowsAt W 8 (tkrP W) s l) (p : Int) : Calls Tryz.prog 50 #[.slice s.a s.n s.c, I p] w fun e w' => e = .returned (I (IntKind.i64.wrap (capN l p))) ∧ Below w.heap.size w w' := by
 have hb := below_alloc w (.cells #[I p] 3)
 have hc : (w.alloc (.cells #[I p] 3)).cell? ⟨w.heap.size, 0, none⟩ = some (I p) := by rw [cell_of_row _ _ _ _ _ (0, 0) (heap_alloc_new w _)]; rfl
 have hsz : w.heap.size < (w.alloc (.cells #[I p] 3)).heap.size := by simp
 have ks := sum_tkr (w.alloc (.cells #[I p] 3)) s l (fun W hW => hl W (hb.trans (hW.mono hb.size))) 106 #[.pointer (some ⟨w.heap.size, 0, none⟩)] (enters_of Tryz.func106 (by kernel_rfl) rfl) (fun x => if x.prio = p then x.limit else 0) (fun W hW x hx s6 _ => capacity1_any x s6 p w.heap.size W ((hW.cell (p := ⟨w.heap.size, 0, none⟩) hsz).trans hc))
 rw [sumZ_cap] at ks
 clear hc hl hsz
 go_enter Tryz.func50, Tryz.ntmps50
 go_wp2_with (go_at_call 105; refine ks.mono ?_; clear ks; rintro e w' ⟨rfl, hb2⟩)
 go_ret
 exact ⟨rfl, hb.trans (hb2.mono hb.size)⟩
theorem hasTask1_any (x : TkR) (s6 : Sl) (p : Int) (B : Nat) (w : World) (hp : w.cell? ⟨B, 0, none⟩ = some (I p)) : Calls Tryz.prog 104 #[.agg (tkrC x s6), .pointer (some ⟨B, 0, none⟩)] w fun e w' => e = .returned (.bool (x.prio == p)) ∧ Below w.heap.size w w' := by
 have hb : ∀ o, Below w.heap.size w (w.alloc o) := fun o => below_alloc w o
 have hp2 : ∀ o, (w.alloc o).cell? ⟨B, 0, none⟩ = some (I p) := fun o => ((hb o).cell (p := ⟨B, 0, none⟩) (World.block_lt_of_cell? _ _ hp)).trans hp
 clear hp
 unfold tkrC
 go_enter Tryz.func104, Tryz.ntmps104
 go_wp2
 go_ret
 exact ⟨rfl, hb _⟩
theorem idxf_tkr (w : World) (s : Sl) (l : List TkR) (hl : ∀ W, Below w.heap.size w W → RowsAt W 8 (tkrP W) s l) (f : Nat) (caps : Array Value) (eg : ∀ args W, (callFunc f args).run Tryz.prog W = .ok (.enter f args) W) (p : TkR → Bool)
  (hf : ∀ W, Below w.heap.size w W → ∀ x ∈ l, ∀ (s6 : Sl), RowsAt W 1 intP s6 x.own → Calls Tryz.prog f (#[.agg (tkrC x s6)] ++ caps) W fun e w' => e = .returned (.bool (p x)) ∧ Below W.heap.size W w') :
  Calls Tryz.prog 170 #[.slice s.a s.n s.c, .func (.func f) #[] caps] w fun e w' => (∃ i : Int, e = .returned (I i) ∧ decide (0 ≤ i) = l.any p) ∧ Below w.heap.size w w' := by
 have h0 := hl w (Below.refl _ _)
 have HS : Hid (s.n = l.length) := h0.n
 have hsc : s.n ≤ s.c := h0.c
 have hsm : s.c ≤ maxLen := h0.m
 unfold maxLen at hsm
 have HH : Hid (∀ W, Below w.heap.size w W → RowsAt W 8 (tkrP W) s l) := hl
 have HFF : Hid (∀ W, Below w.heap.size w W → ∀ x ∈ l, ∀ (s6 : Sl), RowsAt W 1 intP s6 x.own → Calls Tryz.prog f (#[.agg (tkrC x s6)] ++ caps) W fun e w' => e = .returned (.bool (p x)) ∧ Below W.heap.size W w') := hf
 obtain ⟨R, hR⟩ : ∃ R, R = l.any p := ⟨_, rfl⟩
 rw [← hR]
 have HR : Hid (R = l.any p) := hR
 clear hl hR hf h0
 go_enter Tryz.func170, Tryz.ntmps170
 go_wp2
 go_loopw [5, 8] (fun _ iv wr => ∃ j : Nat, j ≤ s.n ∧ iv = .int .i64 j ∧ Hid ((l.take j).any p = false ∧ Below w.heap.size w wr)) (fun _ iv _ => s.n - (intOf iv).toNat)
 case atStart => exact ⟨0, by omega, rfl, by simp, Below.refl _ _⟩
 case round =>
  obtain ⟨j, hj, rfl, HJ⟩ := hrel
  by_cases hlt : j < s.n
  ·have hlt' : (j : Int) < s.n := by omega
   obtain ⟨x, hx⟩ : ∃ x, l[j]? = some x := ⟨_, List.getElem?_eq_getElem (by rw [← HS.out]; exact hlt)⟩
   obtain ⟨g5, o5, e5, hg5, hr5⟩ := (HH.out _ HJ.out.2).row j x hx
   obtain ⟨u0, a0, q0⟩ := hr5 0 (by omega)
   obtain ⟨u1, a1, q1⟩ := hr5 1 (by omega)
   obtain ⟨u2, a2, q2⟩ := hr5 2 (by omega)
   obtain ⟨u3, a3, q3⟩ := hr5 3 (by omega)
   obtain ⟨u4, a4, q4⟩ := hr5 4 (by omega)
   obtain ⟨u5, a5, q5⟩ := hr5 5 (by omega)
   obtain ⟨u6, a6, q6⟩ := hr5 6 (by omega)
   obtain ⟨u7, a7, q7⟩ := hr5 7 (by omega)
   have e0 : u0 = I x.prio := q0
   have e1 : u1 = I x.ring := q1
   have e2 : u2 = .bool x.full := q2
   have e3 : u3 = I x.limit := q3
   have e4 : u4 = .int .u32 (x.mask : Int) := q4
   have e6 : u5 = I x.inner := q5
   obtain ⟨s6, e7, r6⟩ := (show IntsV wr x.own u6 from q6)
   have e8 : u7 = .int .u32 (x.auto : Int) := q7
   subst e0 e1 e2 e3 e4 e6 e7 e8
   rw [Nat.add_zero] at a0
   have HB : Hid (Below w.heap.size w wr) := HJ.out.2
   have cx := HFF.out _ HB.out x (List.mem_of_getElem? hx) s6 r6
   have HT : Hid (p x = true → R = true) := fun ht => by
    rw [HR.out, List.any_eq_true]
    exact ⟨x, List.mem_of_getElem? hx, ht⟩
   have HA : Hid (p x = false → (l.take (j + 1)).any p = false) := fun ht => by
    rw [List.take_add_one, hx, Option.toList_some, List.any_append, HJ.out.1]
    simp [ht]
   rw [e5]
   unfold tkrC at cx
   clear hx e5 HJ hr5 q0 q1 q2 q3 q4 q5 q6 q7 r6
   cases he : p x with
   | true =>
    rw [he] at cx
    have HE : Hid (R = true) := HT.out he
    clear HT HA he
    go_wp2
    refine cx.mono ?_
    clear cx
    rintro e7 w7 ⟨rfl, hb7⟩
    have HB7 : Hid (Below w.heap.size w w7) := HB.out.trans (hb7.mono HB.out.size)
    clear hb7
    go_wp2
    go_ret
    exact ⟨⟨j, rfl, by rw [HE.out]; simp⟩, HB7.out⟩
   | false =>
    rw [he] at cx
    have HA2 : Hid ((l.take (j + 1)).any p = false) := HA.out he
    clear HT HA he
    go_wp2
    refine cx.mono ?_
    clear cx
    rintro e7 w7 ⟨rfl, hb7⟩
    have HB7 : Hid (Below w.heap.size w w7) := HB.out.trans (hb7.mono HB.out.size)
    clear hb7
    go_wp2
    go_roundw
    case rel => exact ⟨j + 1, by omega, by go_num, HA2.out, HB7.out⟩
    case measure => simp [intOf]; omega
  ·obtain rfl : j = s.n := by omega
   have hlt' : ¬ ((s.n : Nat) : Int) < (s.n : Nat) := by omega
   have HE : Hid (R = false) := by
    show _ = _
    rw [HR.out]
    have := HJ.out.1
    rwa [List.take_of_length_le (by rw [HS.out]; exact Nat.le_refl _)] at this
   have HB : Hid (Below w.heap.size w wr) := HJ.out.2
   clear HR HJ
   go_wp2
   go_ret
   exact ⟨⟨-1, rfl, by rw [HE.out]; rfl⟩, HB.out⟩
theorem contf_tkr (w : World) (s : Sl) (l : List TkR) (hl : ∀ W, Below w.heap.size w W → RowsAt W 8 (tkrP W) s l) (f : Nat) (caps : Array Value) (eg : ∀ args W, (callFunc f args).run Tryz.prog W = .ok (.enter f args) W) (p : TkR → Bool)
  (hf : ∀ W, Below w.heap.size w W → ∀ x ∈ l, ∀ (s6 : Sl), RowsAt W 1 intP s6 x.own → Calls Tryz.prog f (#[.agg (tkrC x s6)] ++ caps) W fun e w' => e = .returned (.bool (p x)) ∧ Below W.heap.size W w') :
  Calls Tryz.prog 103 #[.slice s.a s.n s.c, .func (.func f) #[] caps] w fun e w' => e = .returned (.bool (l.any p)) ∧ Below w.heap.size w w' := by
 have k := idxf_tkr w s l hl f caps eg p hf
 obtain ⟨R, hR⟩ : ∃ R, R = l.any p := ⟨_, rfl⟩
 rw [← hR] at k ⊢
 clear hl hf eg hR
 go_enter Tryz.func103, Tryz.ntmps103
 go_wp2_with (go_at_call 170; refine k.mono ?_; clear k; rintro e w' ⟨⟨i, rfl, hi⟩, hb2⟩)
 go_ret
 exact ⟨rfl, hb2⟩
theorem hasTask_any (tb : Tb) (v : Ts) (w : World) (h : TbAt w tb v) (p : Int) : Calls Tryz.prog 49 #[.agg (tbC tb v), I p] w fun e w' => e = .returned (.bool (tb.tasks.any (fun x => x.prio == p))) ∧ Below w.heap.size w w' := by
 have hb : ∀ o q, Below w.heap.size w ((w.alloc o).alloc q) := fun o q => ((Below.refl w.heap.size w).alloc (Nat.le_refl _) o).alloc (by simp) q
 have ks : ∀ o, Calls Tryz.prog 103 #[.slice v.t.a v.t.n v.t.c, .func (.func 104) #[] #[.pointer (some ⟨w.heap.size + 1, 0, none⟩)]] ((w.alloc o).alloc (.cells #[I p] 3)) fun e w' => e = .returned (.bool (tb.tasks.any (fun x => x.prio == p))) ∧ Below ((w.alloc o).alloc (.cells #[I p] 3)).heap.size ((w.alloc o).alloc (.cells #[I p] 3)) w' := fun o => by
  have hc : ((w.alloc o).alloc (.cells #[I p] 3)).cell? ⟨w.heap.size + 1, 0, none⟩ = some (I p) := by
   have := heap_alloc_new (w.alloc o) (.cells #[I p] 3)
   rw [World.size_alloc] at this
   rw [cell_of_row _ _ _ _ _ (0, 0) this]; rfl
  have hsz : w.heap.size + 1 < ((w.alloc o).alloc (.cells #[I p] 3)).heap.size := by simp
  exact contf_tkr ((w.alloc o).alloc (.cells #[I p] 3)) v.t tb.tasks (fun W hW => (h.below ((hb _ _).trans (hW.mono (hb _ _).size))).t) 104 #[.pointer (some ⟨w.heap.size + 1, 0, none⟩)] (enters_of Tryz.func104 (by kernel_rfl) rfl) (fun x => x.prio == p) (fun W hW x hx s6 _ => hasTask1_any x s6 p (w.heap.size + 1) W ((hW.cell (p := ⟨w.heap.size + 1, 0, none⟩) hsz).trans hc))
 clear h
 unfold tbC
 go_enter Tryz.func49, Tryz.ntmps49
 go_wp2_with (go_at_call 103; refine (ks _).mono ?_; clear ks; rintro e w' ⟨rfl, hb2⟩)
 go_ret
 exact ⟨rfl, (hb _ _).trans (hb2.mono (hb _ _).size)⟩
end Go.Proofs.YtmidaeljeoifdaaGreatDoor
