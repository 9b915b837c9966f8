import Derived.Test.YtmidaeljeoifdaaGreatDoorTgz
namespace Go.Proofs.YtmidaeljeoifdaaGreatDoor
set_option maxRecDepth 100000
set_option maxHeartbeats 16000000
open Go.RowKit Go.Shelf Go.Sort Go.Maps
set_option linter.unusedVariables false
set_option linter.unusedSimpArgs false
theorem MessageRowinfo9_Tr6 : (Tryz.prog.info? 99).map (fun i => (i.zero, i.size, i.bytes)) = some (some (.agg #[I 0, I 0, I 0, .int .u64 0, I 0, I 0, I 0, .int .u32 0]), 8, 64) := by kernel_rfl
theorem rows_Message_MessageRow (w : World) (s : Sl) (l : List Ms) (hl : RowsAt w 10 (msP) s l) (hll : l.length ≤ 1048576) (f : Nat) (caps : Array Value) (eg : ∀ args W, (callFunc f args).run Tryz.prog W = .ok (.enter f args) W) (mk : Ms → MsR)
  (hf : ∀ W, Below w.heap.size w W → ∀ x ∈ l, Calls Tryz.prog f (#[.agg #[S x.name, I x.kind, I x.len, I x.frm, .int .u64 (x.init : Int), I x.queue, I x.ac.kind, I x.ac.task, I x.ac.event, S x.ac.name]] ++ caps) W fun e w' => e = .returned (.agg #[I (mk x).kind, I (mk x).len, I (mk x).frm, .int .u64 ((mk x).init : Int), I (mk x).queue, I (mk x).ac.kind, I (mk x).ac.task, .int .u32 ((mk x).ac.mask : Int)]) ∧ Below W.heap.size W w') :
  Calls Tryz.prog 158 #[.slice s.a s.n s.c, .func (.func f) #[] caps] w fun e w' => (∃ a c xs, e = .returned (.slice a l.length c) ∧ w'.ownsRow w.heap.size 99 8 (.slice a l.length c) l.length xs ∧ RwX 8 (msrP) (l.map mk) xs) ∧ Below w.heap.size w w' := by
 obtain ⟨im, him, hm0, hm1, hm2⟩ := info_parts MessageRowinfo9_Tr6
 have HS : Hid (s.n = l.length) := hl.n
 have hsn : s.n ≤ 1048576 := by have := hl.n; omega
 have hsc : s.n ≤ s.c := hl.c
 have hsm : s.c ≤ maxLen := hl.m
 unfold maxLen at hsm
 have HH : Hid (∀ W, Below w.heap.size w W → RowsAt W 10 (msP) s l) := fun W hW => hl.below hW (fun _ _ _ _ h => h)
 have HFF : Hid (∀ W, Below w.heap.size w W → ∀ x ∈ l, Calls Tryz.prog f (#[.agg #[S x.name, I x.kind, I x.len, I x.frm, .int .u64 (x.init : Int), I x.queue, I x.ac.kind, I x.ac.task, I x.ac.event, S x.ac.name]] ++ caps) W fun e w' => e = .returned (.agg #[I (mk x).kind, I (mk x).len, I (mk x).frm, .int .u64 ((mk x).init : Int), I (mk x).queue, I (mk x).ac.kind, I (mk x).ac.task, .int .u32 ((mk x).ac.mask : Int)]) ∧ Below W.heap.size W w') := hf
 clear hl hf hll
 obtain ⟨w2, hmk, hO2, hg2⟩ := run_make_own (P := Tryz.prog) w w.heap.size 28 99 im _ 8 Tryz.underlying28 him hm0 hm1 .i64 .i64 s.n (by rw [hm2]; omega) (by unfold maxLen; omega) (Nat.le_refl _)
 have HO2 : Hid (w2.ownsRow w.heap.size 99 8 (.slice (some ⟨w.heap.size, 0, none⟩) 0 s.n) 0 [] ∧ Below w.heap.size w w2) := ⟨hO2, below_none hg2⟩
 clear hO2 hg2
 go_enter Tryz.func158, Tryz.ntmps158
 go_wp2
 clear hmk
 go_loopw [5, 7, 13] (fun ov _ iv wr => ∃ (j : Nat) (a : Option Addr) (c : Nat), j ≤ s.n ∧ iv = .int .i64 j ∧ ov = .slice a j c ∧ Hid (Below w.heap.size w wr ∧ ∃ xs, wr.ownsRow w.heap.size 99 8 (.slice a j c) j xs ∧ RwX 8 (msrP) ((l.take j).map mk) xs)) (fun _ _ iv _ => s.n - (intOf iv).toNat)
 case atStart => exact ⟨0, _, _, by omega, rfl, rfl, HO2.out.2, [], HO2.out.1, RwX.nil _ _⟩
 case round =>
  obtain ⟨j, a, c, hj, rfl, rfl, HJ⟩ := hrel
  by_cases hlt : j < s.n
  ·have hlt' : (j : Int) < s.n := by omega
   obtain ⟨x, hx⟩ : ∃ x, l[j]? = some x := ⟨_, List.getElem?_eq_getElem (by rw [← HS.out]; exact hlt)⟩
   obtain ⟨g5, o5, e5, hg5, hr5⟩ := (HH.out _ HJ.out.1).row j x hx
   obtain ⟨u0, a0, q0⟩ := hr5 0 (by omega)
   obtain ⟨u1, a1, q1⟩ := hr5 1 (by omega)
   obtain ⟨u2, a2, q2⟩ := hr5 2 (by omega)
   obtain ⟨u3, a3, q3⟩ := hr5 3 (by omega)
   obtain ⟨u4, a4, q4⟩ := hr5 4 (by omega)
   obtain ⟨u5, a5, q5⟩ := hr5 5 (by omega)
   obtain ⟨u6, a6, q6⟩ := hr5 6 (by omega)
   obtain ⟨u7, a7, q7⟩ := hr5 7 (by omega)
   obtain ⟨u8, a8, q8⟩ := hr5 8 (by omega)
   obtain ⟨u9, a9, q9⟩ := hr5 9 (by omega)
   have f0 : u0 = S x.name := q0
   have f1 : u1 = I x.kind := q1
   have f2 : u2 = I x.len := q2
   have f3 : u3 = I x.frm := q3
   have f4 : u4 = .int .u64 (x.init : Int) := q4
   have f5 : u5 = I x.queue := q5
   have f6 : u6 = I x.ac.kind := q6
   have f7 : u7 = I x.ac.task := q7
   have f8 : u8 = I x.ac.event := q8
   have f9 : u9 = S x.ac.name := q9
   subst f0 f1 f2 f3 f4 f5 f6 f7 f8 f9
   rw [Nat.add_zero] at a0
   have bX : Below wr.heap.size wr (wr.alloc (.cells #[S x.name, I x.kind, I x.len, I x.frm, .int .u64 (x.init : Int), I x.queue, I x.ac.kind, I x.ac.task, I x.ac.event, S x.ac.name] 114)) := below_alloc wr _
   have bW : Below w.heap.size w (wr.alloc (.cells #[S x.name, I x.kind, I x.len, I x.frm, .int .u64 (x.init : Int), I x.queue, I x.ac.kind, I x.ac.task, I x.ac.event, S x.ac.name] 114)) := HJ.out.1.trans (bX.mono HJ.out.1.size)
   have hXX := heap_alloc_new wr (.cells #[S x.name, I x.kind, I x.len, I x.frm, .int .u64 (x.init : Int), I x.queue, I x.ac.kind, I x.ac.task, I x.ac.event, S x.ac.name] 114)
   have cx := HFF.out _ bW x (List.mem_of_getElem? hx)
   have HTk : Hid ((l.take (j + 1)).map mk = (l.take j).map mk ++ [mk x]) := take_map9 mk hx
   have HJ0 : Hid (∃ xs, (wr.alloc (.cells #[S x.name, I x.kind, I x.len, I x.frm, .int .u64 (x.init : Int), I x.queue, I x.ac.kind, I x.ac.task, I x.ac.event, S x.ac.name] 114)).ownsRow w.heap.size 99 8 (.slice a j c) j xs ∧ RwX 8 (msrP) ((l.take j).map mk) xs) := by
    obtain ⟨_, xs, h1, h2⟩ := HJ.out
    exact ⟨xs, own_below h1 bX, h2⟩
   rw [e5]
   clear hx e5 hr5 hg5 HJ q0 q1 q2 q3 q4 q5 q6 q7 q8 q9
   go_upto_region 5 with fail
   have HXS : Hid (wr.heap.size < (wr.alloc (.cells #[S x.name, I x.kind, I x.len, I x.frm, .int .u64 (x.init : Int), I x.queue, I x.ac.kind, I x.ac.task, I x.ac.event, S x.ac.name] 114)).heap.size) := by show _ < _; simp
   generalize wr.heap.size = X at *
   generalize (wr.alloc (.cells #[S x.name, I x.kind, I x.len, I x.frm, .int .u64 (x.init : Int), I x.queue, I x.ac.kind, I x.ac.task, I x.ac.event, S x.ac.name] 114)) = W0 at *
   have hi97 : (Tryz.prog.info? 114).map (·.size) = some (#[S x.name, I x.kind, I x.len, I x.frm, .int .u64 (x.init : Int), I x.queue, I x.ac.kind, I x.ac.task, I x.ac.event, S x.ac.name] : Array Value).size := by kernel_rfl
   have HBW : Hid (Below w.heap.size w W0) := bW
   clear bW bX
   go_wp2_with (first
    | (with_reducible refine wpList_id99 ?_; refine wpList_load_row rfl 114 _ rfl X rfl 114 _ (0, 0) _ hXX Tryz.underlying114 rfl hi97 ?_))
   refine cx.mono ?_
   clear cx
   rintro e7 w7 ⟨rfl, hb7⟩
   have B7 : Below w.heap.size w w7 := HBW.out.trans (hb7.mono HBW.out.size)
   obtain ⟨xs, h1, h2⟩ := HJ0.out
   have o7 := own_below h1 hb7
   have HX7 : Hid (RwX 8 (msrP) ((l.take j).map mk) xs) := h2
   clear h1 h2 hb7 HJ0
   have s7 := B7.size
   have hjl : j ≤ 1048576 := by omega
   have hnew := cells_new9 w7 #[I (mk x).kind, I (mk x).len, I (mk x).frm, .int .u64 ((mk x).init : Int), I (mk x).queue, I (mk x).ac.kind, I (mk x).ac.task, .int .u32 ((mk x).ac.mask : Int)] 99
   have hone : ∀ u ∈ (#[I (mk x).kind, I (mk x).len, I (mk x).frm, .int .u64 ((mk x).init : Int), I (mk x).queue, I (mk x).ac.kind, I (mk x).ac.task, .int .u32 ((mk x).ac.mask : Int)] : Array Value).toList, u.oneCell' = true := by intro u hu; simp at hu; rcases hu with e | e | e | e | e | e | e | e <;> (subst e; rfl)
   go_wp2_with (first
    | (at_builtin; refine wpList_append_own _ rfl (.tmp 17) (.tmp 21) 28 rfl w.heap.size 99 im _ 8 64 Tryz.underlying28 him hm0 hm1 hm2 rfl (by decide) _ _ _ rfl (o7.alloc _) ⟨w7.heap.size, 0, none⟩ 1 1 (#[I (mk x).kind, I (mk x).len, I (mk x).frm, .int .u64 ((mk x).init : Int), I (mk x).queue, I (mk x).ac.kind, I (mk x).ac.task, .int .u32 ((mk x).ac.mask : Int)] : Array Value).toList rfl rfl hnew hone (by unfold maxLen; omega) (by omega) (by simp; omega) ?_))
   intro v8 w8 o8 g8 _
   obtain ⟨a8, k8, rfl⟩ := own_slk o8
   have b8 : Below w7.heap.size w7 (w7.alloc (.cells #[I (mk x).kind, I (mk x).len, I (mk x).frm, .int .u64 ((mk x).init : Int), I (mk x).queue, I (mk x).ac.kind, I (mk x).ac.task, .int .u32 ((mk x).ac.mask : Int)] 99)) := below_alloc w7 _
   have H9 : Hid (Below w.heap.size w w8 ∧ ∃ xs, w8.ownsRow w.heap.size 99 8 (.slice a8 (j + 1) k8) (j + 1) xs ∧ RwX 8 (msrP) ((l.take (j + 1)).map mk) xs) := by
    refine ⟨(B7.alloc B7.size _).grown g8 (by simp; omega) (fun k e => (o7.lt k e).1), _, o8, ?_⟩
    rw [HTk.out]
    refine RwX.snoc (HX7.out) _ _ rfl (fun i hi => ?_)
    rcases (by omega : i = 0 ∨ i = 1 ∨ i = 2 ∨ i = 3 ∨ i = 4 ∨ i = 5 ∨ i = 6 ∨ i = 7) with e | e | e | e | e | e | e | e
    ·subst e; exact ⟨_, rfl, rfl⟩
    ·subst e; exact ⟨_, rfl, rfl⟩
    ·subst e; exact ⟨_, rfl, rfl⟩
    ·subst e; exact ⟨_, rfl, rfl⟩
    ·subst e; exact ⟨_, rfl, rfl⟩
    ·subst e; exact ⟨_, rfl, rfl⟩
    ·subst e; exact ⟨_, rfl, rfl⟩
    ·subst e; exact ⟨_, rfl, rfl⟩
   clear o8 g8 o7 B7 hnew hone b8
   go_wp2
   go_roundw
   case rel => exact ⟨j + 1, a8, k8, by omega, by go_num, rfl, H9.out⟩
   case measure => simp [intOf]; omega
  ·obtain rfl : j = s.n := by omega
   have hlt' : ¬ ((s.n : Nat) : Int) < (s.n : Nat) := by omega
   have HE : Hid (Below w.heap.size w wr ∧ ∃ xs, wr.ownsRow w.heap.size 99 8 (.slice a s.n c) s.n xs ∧ RwX 8 (msrP) (l.map mk) xs) := by
    have := HJ.out
    rwa [List.take_of_length_le (by rw [HS.out]; exact Nat.le_refl _)] at this
   clear HJ
   go_wp2
   go_ret
   obtain ⟨h1, xs, h2, h3⟩ := HE.out
   rw [← HS.out]
   first | exact ⟨⟨a, c, xs, rfl, h2, h3⟩, h1⟩ | exact ⟨⟨a, c, rfl, xs, h2, h3⟩, h1⟩
end Go.Proofs.YtmidaeljeoifdaaGreatDoor
