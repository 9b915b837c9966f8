import Derived.Test.YtmidaeljeoifdaaGreatDoorTgz
namespace Go.Proofs.YtmidaeljeoifdaaGreatDoor
set_option maxRecDepth 100000
set_option maxHeartbeats 16000000
open Go.RowKit Go.Shelf Go.Sort Go.Maps
set_option linter.unusedVariables false
set_option linter.unusedSimpArgs false
theorem IsrRowinfo9_Tr5 : (Tryz.prog.info? 72).map (fun i => (i.zero, i.size, i.bytes)) = some (some (.agg #[I 0, I 0, .slice none 0 0]), 3, 40) := by kernel_rfl
theorem rows_Isr_IsrRow (w : World) (s : Sl) (l : List Is) (hl : RowsAt w 5 (isP w) s l) (hll : l.length ≤ 1048576) (f : Nat) (caps : Array Value) (eg : ∀ args W, (callFunc f args).run Tryz.prog W = .ok (.enter f args) W) (mk : Is → IsR)
  (hf : ∀ W, Below w.heap.size w W → ∀ x ∈ l, ∀ s3 : Sl, RowsAt W 1 intP s3 x.res → ∀ s4 : Sl, RowsAt W 1 intP s4 x.msgs → Calls Tryz.prog f (#[.agg #[S x.name, I x.cat, I x.prio, .slice s3.a s3.n s3.c, .slice s4.a s4.n s4.c]] ++ caps) W fun e w' => ∃ so : Sl, e = .returned (.agg #[I (mk x).cat, I (mk x).prio, .slice so.a so.n so.c]) ∧ IntsO9 w' w.heap.size (mk x).own (.slice so.a so.n so.c) ∧ Below W.heap.size W w') :
  Calls Tryz.prog 90 #[.slice s.a s.n s.c, .func (.func f) #[] caps] w fun e w' => (∃ a c xs, e = .returned (.slice a l.length c) ∧ w'.ownsRow w.heap.size 72 3 (.slice a l.length c) l.length xs ∧ RwX 3 (isO9 w' w.heap.size) (l.map mk) xs) ∧ Below w.heap.size w w' := by
 obtain ⟨im, him, hm0, hm1, hm2⟩ := info_parts IsrRowinfo9_Tr5
 have HS : Hid (s.n = l.length) := hl.n
 have hsn : s.n ≤ 1048576 := by have := hl.n; omega
 have hsc : s.n ≤ s.c := hl.c
 have hsm : s.c ≤ maxLen := hl.m
 unfold maxLen at hsm
 have HH : Hid (∀ W, Below w.heap.size w W → RowsAt W 5 (isP W) s l) := fun W hW => hl.below hW (fun x i u _ h => isP_below9 h hW)
 have HFF : Hid (∀ W, Below w.heap.size w W → ∀ x ∈ l, ∀ s3 : Sl, RowsAt W 1 intP s3 x.res → ∀ s4 : Sl, RowsAt W 1 intP s4 x.msgs → Calls Tryz.prog f (#[.agg #[S x.name, I x.cat, I x.prio, .slice s3.a s3.n s3.c, .slice s4.a s4.n s4.c]] ++ caps) W fun e w' => ∃ so : Sl, e = .returned (.agg #[I (mk x).cat, I (mk x).prio, .slice so.a so.n so.c]) ∧ IntsO9 w' w.heap.size (mk x).own (.slice so.a so.n so.c) ∧ Below W.heap.size W w') := hf
 clear hl hf hll
 obtain ⟨w2, hmk, hO2, hg2⟩ := run_make_own (P := Tryz.prog) w w.heap.size 27 72 im _ 3 Tryz.underlying27 him hm0 hm1 .i64 .i64 s.n (by rw [hm2]; omega) (by unfold maxLen; omega) (Nat.le_refl _)
 have HO2 : Hid (w2.ownsRow w.heap.size 72 3 (.slice (some ⟨w.heap.size, 0, none⟩) 0 s.n) 0 [] ∧ Below w.heap.size w w2) := ⟨hO2, below_none hg2⟩
 clear hO2 hg2
 go_enter Tryz.func90, Tryz.ntmps90
 go_wp2
 clear hmk
 go_loopw [5, 7, 13] (fun ov _ iv wr => ∃ (j : Nat) (a : Option Addr) (c : Nat), j ≤ s.n ∧ iv = .int .i64 j ∧ ov = .slice a j c ∧ Hid (Below w.heap.size w wr ∧ ∃ xs, wr.ownsRow w.heap.size 72 3 (.slice a j c) j xs ∧ RwX 3 (isO9 wr w.heap.size) ((l.take j).map mk) xs)) (fun _ _ iv _ => s.n - (intOf iv).toNat)
 case atStart => exact ⟨0, _, _, by omega, rfl, rfl, HO2.out.2, [], HO2.out.1, RwX.nil _ _⟩
 case round =>
  obtain ⟨j, a, c, hj, rfl, rfl, HJ⟩ := hrel
  by_cases hlt : j < s.n
  ·have hlt' : (j : Int) < s.n := by omega
   obtain ⟨x, hx⟩ : ∃ x, l[j]? = some x := ⟨_, List.getElem?_eq_getElem (by rw [← HS.out]; exact hlt)⟩
   obtain ⟨g5, o5, e5, hg5, hr5⟩ := (HH.out _ HJ.out.1).row j x hx
   obtain ⟨u0, a0, q0⟩ := hr5 0 (by omega)
   obtain ⟨u1, a1, q1⟩ := hr5 1 (by omega)
   obtain ⟨u2, a2, q2⟩ := hr5 2 (by omega)
   obtain ⟨u3, a3, q3⟩ := hr5 3 (by omega)
   obtain ⟨u4, a4, q4⟩ := hr5 4 (by omega)
   have f0 : u0 = S x.name := q0
   have f1 : u1 = I x.cat := q1
   have f2 : u2 = I x.prio := q2
   obtain ⟨s3, f3, r3⟩ := (show IntsV wr x.res u3 from q3)
   obtain ⟨s4, f4, r4⟩ := (show IntsV wr x.msgs u4 from q4)
   subst f0 f1 f2 f3 f4
   rw [Nat.add_zero] at a0
   have bX : Below wr.heap.size wr (wr.alloc (.cells #[S x.name, I x.cat, I x.prio, .slice s3.a s3.n s3.c, .slice s4.a s4.n s4.c] 88)) := below_alloc wr _
   have bW : Below w.heap.size w (wr.alloc (.cells #[S x.name, I x.cat, I x.prio, .slice s3.a s3.n s3.c, .slice s4.a s4.n s4.c] 88)) := HJ.out.1.trans (bX.mono HJ.out.1.size)
   have hXX := heap_alloc_new wr (.cells #[S x.name, I x.cat, I x.prio, .slice s3.a s3.n s3.c, .slice s4.a s4.n s4.c] 88)
   have cx := HFF.out _ bW x (List.mem_of_getElem? hx) s3 (r3.below bX (fun _ _ _ _ h => h)) s4 (r4.below bX (fun _ _ _ _ h => h))
   have HTk : Hid ((l.take (j + 1)).map mk = (l.take j).map mk ++ [mk x]) := take_map9 mk hx
   have HJ0 : Hid (∃ xs, (wr.alloc (.cells #[S x.name, I x.cat, I x.prio, .slice s3.a s3.n s3.c, .slice s4.a s4.n s4.c] 88)).ownsRow w.heap.size 72 3 (.slice a j c) j xs ∧ RwX 3 (isO9 (wr.alloc (.cells #[S x.name, I x.cat, I x.prio, .slice s3.a s3.n s3.c, .slice s4.a s4.n s4.c] 88)) w.heap.size) ((l.take j).map mk) xs) := by
    obtain ⟨_, xs, h1, h2⟩ := HJ.out
    exact ⟨xs, own_below h1 bX, h2.mono (fun x i u h => isO_below9 h bX)⟩
   rw [e5]
   clear hx e5 hr5 hg5 HJ q0 q1 q2
   go_upto_region 5 with fail
   have HXS : Hid (wr.heap.size < (wr.alloc (.cells #[S x.name, I x.cat, I x.prio, .slice s3.a s3.n s3.c, .slice s4.a s4.n s4.c] 88)).heap.size) := by show _ < _; simp
   generalize wr.heap.size = X at *
   generalize (wr.alloc (.cells #[S x.name, I x.cat, I x.prio, .slice s3.a s3.n s3.c, .slice s4.a s4.n s4.c] 88)) = W0 at *
   have hi97 : (Tryz.prog.info? 88).map (·.size) = some (#[S x.name, I x.cat, I x.prio, .slice s3.a s3.n s3.c, .slice s4.a s4.n s4.c] : Array Value).size := by kernel_rfl
   have HBW : Hid (Below w.heap.size w W0) := bW
   clear bW bX
   go_wp2_with (first
    | (with_reducible refine wpList_id99 ?_; refine wpList_load_row rfl 88 _ rfl X rfl 88 _ (0, 0) _ hXX Tryz.underlying88 rfl hi97 ?_))
   refine cx.mono ?_
   clear cx
   rintro e7 w7 ⟨so, rfl, i7, hb7⟩
   have B7 : Below w.heap.size w w7 := HBW.out.trans (hb7.mono HBW.out.size)
   obtain ⟨xs, h1, h2⟩ := HJ0.out
   have o7 := own_below h1 hb7
   have HX7 : Hid (RwX 3 (isO9 w7 w.heap.size) ((l.take j).map mk) xs) := h2.mono (fun x i u h => isO_below9 h hb7)
   clear h1 h2 hb7 HJ0
   have s7 := B7.size
   have hjl : j ≤ 1048576 := by omega
   have HI7 : Hid (IntsO9 w7 w.heap.size (mk x).own (.slice so.a so.n so.c)) := i7
   clear i7
   have hnew := cells_new9 w7 #[I (mk x).cat, I (mk x).prio, .slice so.a so.n so.c] 72
   have hone : ∀ u ∈ (#[I (mk x).cat, I (mk x).prio, .slice so.a so.n so.c] : Array Value).toList, u.oneCell' = true := by intro u hu; simp at hu; rcases hu with e | e | e <;> (subst e; rfl)
   go_wp2_with (first
    | (at_builtin; refine wpList_append_own _ rfl (.tmp 17) (.tmp 21) 27 rfl w.heap.size 72 im _ 3 40 Tryz.underlying27 him hm0 hm1 hm2 rfl (by decide) _ _ _ rfl (o7.alloc _) ⟨w7.heap.size, 0, none⟩ 1 1 (#[I (mk x).cat, I (mk x).prio, .slice so.a so.n so.c] : Array Value).toList rfl rfl hnew hone (by unfold maxLen; omega) (by omega) (by simp; omega) ?_))
   intro v8 w8 o8 g8 _
   obtain ⟨a8, k8, rfl⟩ := own_slk o8
   have b8 : Below w7.heap.size w7 (w7.alloc (.cells #[I (mk x).cat, I (mk x).prio, .slice so.a so.n so.c] 72)) := below_alloc w7 _
   have H9 : Hid (Below w.heap.size w w8 ∧ ∃ xs, w8.ownsRow w.heap.size 72 3 (.slice a8 (j + 1) k8) (j + 1) xs ∧ RwX 3 (isO9 w8 w.heap.size) ((l.take (j + 1)).map mk) xs) := by
    refine ⟨(B7.alloc B7.size _).grown g8 (by simp; omega) (fun k e => (o7.lt k e).1), _, o8, ?_⟩
    rw [HTk.out]
    refine RwX.snoc ((HX7.out.mono (fun x i u h => isO_below9 h b8)).mono (fun x i u h => isO_grown9 h (o7.alloc _) g8)) _ _ rfl (fun i hi => ?_)
    rcases (by omega : i = 0 ∨ i = 1 ∨ i = 2) with e | e | e
    ·subst e; exact ⟨_, rfl, rfl⟩
    ·subst e; exact ⟨_, rfl, rfl⟩
    ·subst e; exact ⟨_, rfl, (intsO_grown9 (intsO_below9 HI7.out b8) (o7.alloc _) g8 (by decide))⟩
   clear o8 g8 o7 B7 hnew hone b8
   go_wp2
   go_roundw
   case rel => exact ⟨j + 1, a8, k8, by omega, by go_num, rfl, H9.out⟩
   case measure => simp [intOf]; omega
  ·obtain rfl : j = s.n := by omega
   have hlt' : ¬ ((s.n : Nat) : Int) < (s.n : Nat) := by omega
   have HE : Hid (Below w.heap.size w wr ∧ ∃ xs, wr.ownsRow w.heap.size 72 3 (.slice a s.n c) s.n xs ∧ RwX 3 (isO9 wr w.heap.size) (l.map mk) xs) := by
    have := HJ.out
    rwa [List.take_of_length_le (by rw [HS.out]; exact Nat.le_refl _)] at this
   clear HJ
   go_wp2
   go_ret
   obtain ⟨h1, xs, h2, h3⟩ := HE.out
   rw [← HS.out]
   first | exact ⟨⟨a, c, xs, rfl, h2, h3⟩, h1⟩ | exact ⟨⟨a, c, rfl, xs, h2, h3⟩, h1⟩
end Go.Proofs.YtmidaeljeoifdaaGreatDoor
