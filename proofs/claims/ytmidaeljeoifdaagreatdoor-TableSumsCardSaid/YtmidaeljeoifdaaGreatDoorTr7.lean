import Derived.Test.YtmidaeljeoifdaaGreatDoorTgz
namespace Go.Proofs.YtmidaeljeoifdaaGreatDoor
set_option maxRecDepth 100000
set_option maxHeartbeats 16000000
open Go.RowKit Go.Shelf Go.Sort Go.Maps
set_option linter.unusedVariables false
set_option linter.unusedSimpArgs false
theorem RingRowinfo9_Tr7 : (Tryz.prog.info? 52).map (fun i => (i.zero, i.size, i.bytes)) = some (some (.agg #[I 0, I 0]), 2, 16) := by kernel_rfl
theorem rows_int_RingRow (w : World) (s : Sl) (l : List Int) (hl : RowsAt w 1 (intP) s l) (hll : l.length ≤ 1048576) (f : Nat) (caps : Array Value) (eg : ∀ args W, (callFunc f args).run Tryz.prog W = .ok (.enter f args) W) (mk : Int → RgR)
  (hf : ∀ W, Below w.heap.size w W → ∀ x ∈ l, Calls Tryz.prog f (#[I x] ++ caps) W fun e w' => e = .returned (.agg #[I (mk x).prio, I (mk x).cap]) ∧ Below W.heap.size W w') :
  Calls Tryz.prog 93 #[.slice s.a s.n s.c, .func (.func f) #[] caps] w fun e w' => (∃ a c xs, e = .returned (.slice a l.length c) ∧ w'.ownsRow w.heap.size 52 2 (.slice a l.length c) l.length xs ∧ RwX 2 (rgrP) (l.map mk) xs) ∧ Below w.heap.size w w' := by
 obtain ⟨im, him, hm0, hm1, hm2⟩ := info_parts RingRowinfo9_Tr7
 have HS : Hid (s.n = l.length) := hl.n
 have hsn : s.n ≤ 1048576 := by have := hl.n; omega
 have hsc : s.n ≤ s.c := hl.c
 have hsm : s.c ≤ maxLen := hl.m
 unfold maxLen at hsm
 have HH : Hid (∀ W, Below w.heap.size w W → RowsAt W 1 (intP) s l) := fun W hW => hl.below hW (fun _ _ _ _ h => h)
 have HFF : Hid (∀ W, Below w.heap.size w W → ∀ x ∈ l, Calls Tryz.prog f (#[I x] ++ caps) W fun e w' => e = .returned (.agg #[I (mk x).prio, I (mk x).cap]) ∧ Below W.heap.size W w') := hf
 clear hl hf hll
 obtain ⟨w2, hmk, hO2, hg2⟩ := run_make_own (P := Tryz.prog) w w.heap.size 23 52 im _ 2 Tryz.underlying23 him hm0 hm1 .i64 .i64 s.n (by rw [hm2]; omega) (by unfold maxLen; omega) (Nat.le_refl _)
 have HO2 : Hid (w2.ownsRow w.heap.size 52 2 (.slice (some ⟨w.heap.size, 0, none⟩) 0 s.n) 0 [] ∧ Below w.heap.size w w2) := ⟨hO2, below_none hg2⟩
 clear hO2 hg2
 go_enter Tryz.func93, Tryz.ntmps93
 go_wp2
 clear hmk
 go_loopw [5, 7, 13] (fun ov _ iv wr => ∃ (j : Nat) (a : Option Addr) (c : Nat), j ≤ s.n ∧ iv = .int .i64 j ∧ ov = .slice a j c ∧ Hid (Below w.heap.size w wr ∧ ∃ xs, wr.ownsRow w.heap.size 52 2 (.slice a j c) j xs ∧ RwX 2 (rgrP) ((l.take j).map mk) xs)) (fun _ _ iv _ => s.n - (intOf iv).toNat)
 case atStart => exact ⟨0, _, _, by omega, rfl, rfl, HO2.out.2, [], HO2.out.1, RwX.nil _ _⟩
 case round =>
  obtain ⟨j, a, c, hj, rfl, rfl, HJ⟩ := hrel
  by_cases hlt : j < s.n
  ·have hlt' : (j : Int) < s.n := by omega
   obtain ⟨x, hx⟩ : ∃ x, l[j]? = some x := ⟨_, List.getElem?_eq_getElem (by rw [← HS.out]; exact hlt)⟩
   obtain ⟨g5, o5, e5, hg5, hr5⟩ := (HH.out _ HJ.out.1).row j x hx
   obtain ⟨u0, a0, q0⟩ := hr5 0 (by omega)
   have f0 : u0 = I x := q0
   subst f0
   rw [Nat.add_zero] at a0
   rw [Nat.mul_one] at a0
   have cx := HFF.out _ HJ.out.1 x (List.mem_of_getElem? hx)
   have HTk : Hid ((l.take (j + 1)).map mk = (l.take j).map mk ++ [mk x]) := take_map9 mk hx
   have HJ0 : Hid (∃ xs, wr.ownsRow w.heap.size 52 2 (.slice a j c) j xs ∧ RwX 2 (rgrP) ((l.take j).map mk) xs) := HJ.out.2
   have HBW : Hid (Below w.heap.size w wr) := HJ.out.1
   rw [e5]
   clear hx e5 hr5 hg5 HJ q0
   go_wp2_with (first | fail)
   refine cx.mono ?_
   clear cx
   rintro e7 w7 ⟨rfl, hb7⟩
   have B7 : Below w.heap.size w w7 := HBW.out.trans (hb7.mono HBW.out.size)
   obtain ⟨xs, h1, h2⟩ := HJ0.out
   have o7 := own_below h1 hb7
   have HX7 : Hid (RwX 2 (rgrP) ((l.take j).map mk) xs) := h2
   clear h1 h2 hb7 HJ0
   have s7 := B7.size
   have hjl : j ≤ 1048576 := by omega
   have hnew := cells_new9 w7 #[I (mk x).prio, I (mk x).cap] 52
   have hone : ∀ u ∈ (#[I (mk x).prio, I (mk x).cap] : Array Value).toList, u.oneCell' = true := by intro u hu; simp at hu; rcases hu with e | e <;> (subst e; rfl)
   go_wp2_with (first
    | (at_builtin; refine wpList_append_own _ rfl (.tmp 17) (.tmp 21) 23 rfl w.heap.size 52 im _ 2 16 Tryz.underlying23 him hm0 hm1 hm2 rfl (by decide) _ _ _ rfl (o7.alloc _) ⟨w7.heap.size, 0, none⟩ 1 1 (#[I (mk x).prio, I (mk x).cap] : Array Value).toList rfl rfl hnew hone (by unfold maxLen; omega) (by omega) (by simp; omega) ?_))
   intro v8 w8 o8 g8 _
   obtain ⟨a8, k8, rfl⟩ := own_slk o8
   have b8 : Below w7.heap.size w7 (w7.alloc (.cells #[I (mk x).prio, I (mk x).cap] 52)) := below_alloc w7 _
   have H9 : Hid (Below w.heap.size w w8 ∧ ∃ xs, w8.ownsRow w.heap.size 52 2 (.slice a8 (j + 1) k8) (j + 1) xs ∧ RwX 2 (rgrP) ((l.take (j + 1)).map mk) xs) := by
    refine ⟨(B7.alloc B7.size _).grown g8 (by simp; omega) (fun k e => (o7.lt k e).1), _, o8, ?_⟩
    rw [HTk.out]
    refine RwX.snoc (HX7.out) _ _ rfl (fun i hi => ?_)
    rcases (by omega : i = 0 ∨ i = 1) with e | e
    ·subst e; exact ⟨_, rfl, rfl⟩
    ·subst e; exact ⟨_, rfl, rfl⟩
   clear o8 g8 o7 B7 hnew hone b8
   go_wp2
   go_roundw
   case rel => exact ⟨j + 1, a8, k8, by omega, by go_num, rfl, H9.out⟩
   case measure => simp [intOf]; omega
  ·obtain rfl : j = s.n := by omega
   have hlt' : ¬ ((s.n : Nat) : Int) < (s.n : Nat) := by omega
   have HE : Hid (Below w.heap.size w wr ∧ ∃ xs, wr.ownsRow w.heap.size 52 2 (.slice a s.n c) s.n xs ∧ RwX 2 (rgrP) (l.map mk) xs) := by
    have := HJ.out
    rwa [List.take_of_length_le (by rw [HS.out]; exact Nat.le_refl _)] at this
   clear HJ
   go_wp2
   go_ret
   obtain ⟨h1, xs, h2, h3⟩ := HE.out
   rw [← HS.out]
   first | exact ⟨⟨a, c, xs, rfl, h2, h3⟩, h1⟩ | exact ⟨⟨a, c, rfl, xs, h2, h3⟩, h1⟩
end Go.Proofs.YtmidaeljeoifdaaGreatDoor
