import Derived.Test.YtmidaeljeoifdaaGreatDoorXThb
import Derived.Test.YtmidaeljeoifdaaGreatDoorXThe
import Derived.Test.YtmidaeljeoifdaaGreatDoorXTr5
namespace Go.Proofs.YtmidaeljeoifdaaGreatDoor
open Go.RowKit Go.Shelf Go.Sort Go.Maps
set_option linter.unusedVariables false
set_option linter.unusedSimpArgs false

/-! ### table.rows[tappet/api.Message,tappet/api.MessageRow] -/
theorem MessageRowinfo9_Tr6 : (Tryz.prog.info? 99).map (fun i => (i.zero, i.size, i.bytes)) = some (some (.agg #[I 0, I 0, I 0, .int .u64 0, I 0, I 0, I 0, .int .u32 0]), 8, 64) := by kernel_rfl
set_option maxHeartbeats 8000000 in
set_option maxRecDepth 100000 in
theorem rows_Message_MessageRow (w : World) (s : Sl) (l : List Ms) (hl : RowsAt w 10 (msP) s l) (hll : l.length ≤ 1048576) (f : Nat) (caps : Array Value) (eg : ∀ args W, (callFunc f args).run Tryz.prog W = .ok (.enter f args) W) (mk : Ms → MsR)
    (hf : ∀ W, Below w.heap.size w W → ∀ x ∈ l, Calls Tryz.prog f (#[.agg #[S x.name, I x.kind, I x.len, I x.frm, .int .u64 (x.init : Int), I x.queue, I x.ac.kind, I x.ac.task, I x.ac.event, S x.ac.name]] ++ caps) W fun e w' => e = .returned (.agg #[I (mk x).kind, I (mk x).len, I (mk x).frm, .int .u64 ((mk x).init : Int), I (mk x).queue, I (mk x).ac.kind, I (mk x).ac.task, .int .u32 ((mk x).ac.mask : Int)]) ∧ Below W.heap.size W w') :
    Calls Tryz.prog 158 #[.slice s.a s.n s.c, .func (.func f) #[] caps] w fun e w' => (∃ a c xs, e = .returned (.slice a l.length c) ∧ w'.ownsRow w.heap.size 99 8 (.slice a l.length c) l.length xs ∧ RwX 8 (msrP) (l.map mk) xs) ∧ Below w.heap.size w w' := by
  obtain ⟨im, him, hm0, hm1, hm2⟩ := info_parts MessageRowinfo9_Tr6
  have HS : Hid (s.n = l.length) := hl.n
  have hsn : s.n ≤ 1048576 := by have := hl.n; omega
  have hsc : s.n ≤ s.c := hl.c
  have hsm : s.c ≤ maxLen := hl.m
  unfold maxLen at hsm
  have HH : Hid (∀ W, Below w.heap.size w W → RowsAt W 10 (msP) s l) := fun W hW => hl.below hW (fun _ _ _ _ h => h)
  have HFF : Hid (∀ W, Below w.heap.size w W → ∀ x ∈ l, Calls Tryz.prog f (#[.agg #[S x.name, I x.kind, I x.len, I x.frm, .int .u64 (x.init : Int), I x.queue, I x.ac.kind, I x.ac.task, I x.ac.event, S x.ac.name]] ++ caps) W fun e w' => e = .returned (.agg #[I (mk x).kind, I (mk x).len, I (mk x).frm, .int .u64 ((mk x).init : Int), I (mk x).queue, I (mk x).ac.kind, I (mk x).ac.task, .int .u32 ((mk x).ac.mask : Int)]) ∧ Below W.heap.size W w') := hf
  clear hl hf hll
  obtain ⟨w2, hmk, hO2, hg2⟩ := run_make_own (P := Tryz.prog) w w.heap.size 28 99 im _ 8 Tryz.underlying28 him hm0 hm1 .i64 .i64 s.n (by rw [hm2]; omega) (by unfold maxLen; omega) (Nat.le_refl _)
  have HO2 : Hid (w2.ownsRow w.heap.size 99 8 (.slice (some ⟨w.heap.size, 0, none⟩) 0 s.n) 0 [] ∧ Below w.heap.size w w2) := ⟨hO2, below_none hg2⟩
  clear hO2 hg2
  go_enter Tryz.func158, Tryz.ntmps158
  go_wp2
  clear hmk
  go_loopw [5, 7, 13] (fun ov _ iv wr => ∃ (j : Nat) (a : Option Addr) (c : Nat), j ≤ s.n ∧ iv = .int .i64 j ∧ ov = .slice a j c ∧ Hid (Below w.heap.size w wr ∧ ∃ xs, wr.ownsRow w.heap.size 99 8 (.slice a j c) j xs ∧ RwX 8 (msrP) ((l.take j).map mk) xs)) (fun _ _ iv _ => s.n - (intOf iv).toNat)
  case atStart => exact ⟨0, _, _, by omega, rfl, rfl, HO2.out.2, [], HO2.out.1, RwX.nil _ _⟩
  case round =>
    obtain ⟨j, a, c, hj, rfl, rfl, HJ⟩ := hrel
    by_cases hlt : j < s.n
    · have hlt' : (j : Int) < s.n := by omega
      obtain ⟨x, hx⟩ : ∃ x, l[j]? = some x := ⟨_, List.getElem?_eq_getElem (by rw [← HS.out]; exact hlt)⟩
      obtain ⟨g5, o5, e5, hg5, hr5⟩ := (HH.out _ HJ.out.1).row j x hx
      obtain ⟨u0, a0, q0⟩ := hr5 0 (by omega)
      obtain ⟨u1, a1, q1⟩ := hr5 1 (by omega)
      obtain ⟨u2, a2, q2⟩ := hr5 2 (by omega)
      obtain ⟨u3, a3, q3⟩ := hr5 3 (by omega)
      obtain ⟨u4, a4, q4⟩ := hr5 4 (by omega)
      obtain ⟨u5, a5, q5⟩ := hr5 5 (by omega)
      obtain ⟨u6, a6, q6⟩ := hr5 6 (by omega)
      obtain ⟨u7, a7, q7⟩ := hr5 7 (by omega)
      obtain ⟨u8, a8, q8⟩ := hr5 8 (by omega)
      obtain ⟨u9, a9, q9⟩ := hr5 9 (by omega)
      have f0 : u0 = S x.name := q0
      have f1 : u1 = I x.kind := q1
      have f2 : u2 = I x.len := q2
      have f3 : u3 = I x.frm := q3
      have f4 : u4 = .int .u64 (x.init : Int) := q4
      have f5 : u5 = I x.queue := q5
      have f6 : u6 = I x.ac.kind := q6
      have f7 : u7 = I x.ac.task := q7
      have f8 : u8 = I x.ac.event := q8
      have f9 : u9 = S x.ac.name := q9
      subst f0 f1 f2 f3 f4 f5 f6 f7 f8 f9
      rw [Nat.add_zero] at a0
      have bX : Below wr.heap.size wr (wr.alloc (.cells #[S x.name, I x.kind, I x.len, I x.frm, .int .u64 (x.init : Int), I x.queue, I x.ac.kind, I x.ac.task, I x.ac.event, S x.ac.name] 114)) := below_alloc wr _
      have bW : Below w.heap.size w (wr.alloc (.cells #[S x.name, I x.kind, I x.len, I x.frm, .int .u64 (x.init : Int), I x.queue, I x.ac.kind, I x.ac.task, I x.ac.event, S x.ac.name] 114)) := HJ.out.1.trans (bX.mono HJ.out.1.size)
      have hXX := heap_alloc_new wr (.cells #[S x.name, I x.kind, I x.len, I x.frm, .int .u64 (x.init : Int), I x.queue, I x.ac.kind, I x.ac.task, I x.ac.event, S x.ac.name] 114)
      have cx := HFF.out _ bW x (List.mem_of_getElem? hx)
      have HTk : Hid ((l.take (j + 1)).map mk = (l.take j).map mk ++ [mk x]) := take_map9 mk hx
      have HJ0 : Hid (∃ xs, (wr.alloc (.cells #[S x.name, I x.kind, I x.len, I x.frm, .int .u64 (x.init : Int), I x.queue, I x.ac.kind, I x.ac.task, I x.ac.event, S x.ac.name] 114)).ownsRow w.heap.size 99 8 (.slice a j c) j xs ∧ RwX 8 (msrP) ((l.take j).map mk) xs) := by
        obtain ⟨_, xs, h1, h2⟩ := HJ.out
        exact ⟨xs, own_below h1 bX, h2⟩
      rw [e5]
      clear hx e5 hr5 hg5 HJ q0 q1 q2 q3 q4 q5 q6 q7 q8 q9
      go_upto_region 5 with fail
      have HXS : Hid (wr.heap.size < (wr.alloc (.cells #[S x.name, I x.kind, I x.len, I x.frm, .int .u64 (x.init : Int), I x.queue, I x.ac.kind, I x.ac.task, I x.ac.event, S x.ac.name] 114)).heap.size) := by show _ < _; simp
      generalize wr.heap.size = X at *
      generalize (wr.alloc (.cells #[S x.name, I x.kind, I x.len, I x.frm, .int .u64 (x.init : Int), I x.queue, I x.ac.kind, I x.ac.task, I x.ac.event, S x.ac.name] 114)) = W0 at *
      have hi97 : (Tryz.prog.info? 114).map (·.size) = some (#[S x.name, I x.kind, I x.len, I x.frm, .int .u64 (x.init : Int), I x.queue, I x.ac.kind, I x.ac.task, I x.ac.event, S x.ac.name] : Array Value).size := by kernel_rfl
      have HBW : Hid (Below w.heap.size w W0) := bW
      clear bW bX
      go_wp2_with (first
        | (with_reducible refine wpList_id99 ?_; refine wpList_load_row rfl 114 _ rfl X rfl 114 _ (0, 0) _ hXX Tryz.underlying114 rfl hi97 ?_))
      refine cx.mono ?_
      clear cx
      rintro e7 w7 ⟨rfl, hb7⟩
      have B7 : Below w.heap.size w w7 := HBW.out.trans (hb7.mono HBW.out.size)
      obtain ⟨xs, h1, h2⟩ := HJ0.out
      have o7 := own_below h1 hb7
      have HX7 : Hid (RwX 8 (msrP) ((l.take j).map mk) xs) := h2
      clear h1 h2 hb7 HJ0
      have s7 := B7.size
      have hjl : j ≤ 1048576 := by omega
      have hnew := cells_new9 w7 #[I (mk x).kind, I (mk x).len, I (mk x).frm, .int .u64 ((mk x).init : Int), I (mk x).queue, I (mk x).ac.kind, I (mk x).ac.task, .int .u32 ((mk x).ac.mask : Int)] 99
      have hone : ∀ u ∈ (#[I (mk x).kind, I (mk x).len, I (mk x).frm, .int .u64 ((mk x).init : Int), I (mk x).queue, I (mk x).ac.kind, I (mk x).ac.task, .int .u32 ((mk x).ac.mask : Int)] : Array Value).toList, u.oneCell' = true := by intro u hu; simp at hu; rcases hu with e | e | e | e | e | e | e | e <;> (subst e; rfl)
      go_wp2_with (first
        | (at_builtin; refine wpList_append_own _ rfl (.tmp 17) (.tmp 21) 28 rfl w.heap.size 99 im _ 8 64 Tryz.underlying28 him hm0 hm1 hm2 rfl (by decide) _ _ _ rfl (o7.alloc _) ⟨w7.heap.size, 0, none⟩ 1 1 (#[I (mk x).kind, I (mk x).len, I (mk x).frm, .int .u64 ((mk x).init : Int), I (mk x).queue, I (mk x).ac.kind, I (mk x).ac.task, .int .u32 ((mk x).ac.mask : Int)] : Array Value).toList rfl rfl hnew hone (by unfold maxLen; omega) (by omega) (by simp; omega) ?_))
      intro v8 w8 o8 g8 _
      obtain ⟨a8, k8, rfl⟩ := own_slk o8
      have b8 : Below w7.heap.size w7 (w7.alloc (.cells #[I (mk x).kind, I (mk x).len, I (mk x).frm, .int .u64 ((mk x).init : Int), I (mk x).queue, I (mk x).ac.kind, I (mk x).ac.task, .int .u32 ((mk x).ac.mask : Int)] 99)) := below_alloc w7 _
      have H9 : Hid (Below w.heap.size w w8 ∧ ∃ xs, w8.ownsRow w.heap.size 99 8 (.slice a8 (j + 1) k8) (j + 1) xs ∧ RwX 8 (msrP) ((l.take (j + 1)).map mk) xs) := by
        refine ⟨(B7.alloc B7.size _).grown g8 (by simp; omega) (fun k e => (o7.lt k e).1), _, o8, ?_⟩
        rw [HTk.out]
        refine RwX.snoc (HX7.out) _ _ rfl (fun i hi => ?_)
        rcases (by omega : i = 0 ∨ i = 1 ∨ i = 2 ∨ i = 3 ∨ i = 4 ∨ i = 5 ∨ i = 6 ∨ i = 7) with e | e | e | e | e | e | e | e
        · subst e; exact ⟨_, rfl, rfl⟩
        · subst e; exact ⟨_, rfl, rfl⟩
        · subst e; exact ⟨_, rfl, rfl⟩
        · subst e; exact ⟨_, rfl, rfl⟩
        · subst e; exact ⟨_, rfl, rfl⟩
        · subst e; exact ⟨_, rfl, rfl⟩
        · subst e; exact ⟨_, rfl, rfl⟩
        · subst e; exact ⟨_, rfl, rfl⟩
      clear o8 g8 o7 B7 hnew hone b8
      go_wp2
      go_roundw
      case rel => exact ⟨j + 1, a8, k8, by omega, by go_num, rfl, H9.out⟩
      case measure => simp [intOf]; omega
    · obtain rfl : j = s.n := by omega
      have hlt' : ¬ ((s.n : Nat) : Int) < (s.n : Nat) := by omega
      have HE : Hid (Below w.heap.size w wr ∧ ∃ xs, wr.ownsRow w.heap.size 99 8 (.slice a s.n c) s.n xs ∧ RwX 8 (msrP) (l.map mk) xs) := by
        have := HJ.out
        rwa [List.take_of_length_le (by rw [HS.out]; exact Nat.le_refl _)] at this
      clear HJ
      go_wp2
      go_ret
      obtain ⟨h1, xs, h2, h3⟩ := HE.out
      rw [← HS.out]
      first | exact ⟨⟨a, c, xs, rfl, h2, h3⟩, h1⟩ | exact ⟨⟨a, c, rfl, xs, h2, h3⟩, h1⟩
end Go.Proofs.YtmidaeljeoifdaaGreatDoor

namespace Go.Proofs.YtmidaeljeoifdaaGreatDoor
open Go.RowKit Go.Shelf Go.Sort Go.Maps
set_option linter.unusedVariables false
set_option linter.unusedSimpArgs false

/-! ### table.rows[int,tappet/api.RingRow] -/
theorem RingRowinfo9_Tr7 : (Tryz.prog.info? 52).map (fun i => (i.zero, i.size, i.bytes)) = some (some (.agg #[I 0, I 0]), 2, 16) := by kernel_rfl
set_option maxHeartbeats 8000000 in
set_option maxRecDepth 100000 in
theorem rows_int_RingRow (w : World) (s : Sl) (l : List Int) (hl : RowsAt w 1 (intP) s l) (hll : l.length ≤ 1048576) (f : Nat) (caps : Array Value) (eg : ∀ args W, (callFunc f args).run Tryz.prog W = .ok (.enter f args) W) (mk : Int → RgR)
    (hf : ∀ W, Below w.heap.size w W → ∀ x ∈ l, Calls Tryz.prog f (#[I x] ++ caps) W fun e w' => e = .returned (.agg #[I (mk x).prio, I (mk x).cap]) ∧ Below W.heap.size W w') :
    Calls Tryz.prog 93 #[.slice s.a s.n s.c, .func (.func f) #[] caps] w fun e w' => (∃ a c xs, e = .returned (.slice a l.length c) ∧ w'.ownsRow w.heap.size 52 2 (.slice a l.length c) l.length xs ∧ RwX 2 (rgrP) (l.map mk) xs) ∧ Below w.heap.size w w' := by
  obtain ⟨im, him, hm0, hm1, hm2⟩ := info_parts RingRowinfo9_Tr7
  have HS : Hid (s.n = l.length) := hl.n
  have hsn : s.n ≤ 1048576 := by have := hl.n; omega
  have hsc : s.n ≤ s.c := hl.c
  have hsm : s.c ≤ maxLen := hl.m
  unfold maxLen at hsm
  have HH : Hid (∀ W, Below w.heap.size w W → RowsAt W 1 (intP) s l) := fun W hW => hl.below hW (fun _ _ _ _ h => h)
  have HFF : Hid (∀ W, Below w.heap.size w W → ∀ x ∈ l, Calls Tryz.prog f (#[I x] ++ caps) W fun e w' => e = .returned (.agg #[I (mk x).prio, I (mk x).cap]) ∧ Below W.heap.size W w') := hf
  clear hl hf hll
  obtain ⟨w2, hmk, hO2, hg2⟩ := run_make_own (P := Tryz.prog) w w.heap.size 23 52 im _ 2 Tryz.underlying23 him hm0 hm1 .i64 .i64 s.n (by rw [hm2]; omega) (by unfold maxLen; omega) (Nat.le_refl _)
  have HO2 : Hid (w2.ownsRow w.heap.size 52 2 (.slice (some ⟨w.heap.size, 0, none⟩) 0 s.n) 0 [] ∧ Below w.heap.size w w2) := ⟨hO2, below_none hg2⟩
  clear hO2 hg2
  go_enter Tryz.func93, Tryz.ntmps93
  go_wp2
  clear hmk
  go_loopw [5, 7, 13] (fun ov _ iv wr => ∃ (j : Nat) (a : Option Addr) (c : Nat), j ≤ s.n ∧ iv = .int .i64 j ∧ ov = .slice a j c ∧ Hid (Below w.heap.size w wr ∧ ∃ xs, wr.ownsRow w.heap.size 52 2 (.slice a j c) j xs ∧ RwX 2 (rgrP) ((l.take j).map mk) xs)) (fun _ _ iv _ => s.n - (intOf iv).toNat)
  case atStart => exact ⟨0, _, _, by omega, rfl, rfl, HO2.out.2, [], HO2.out.1, RwX.nil _ _⟩
  case round =>
    obtain ⟨j, a, c, hj, rfl, rfl, HJ⟩ := hrel
    by_cases hlt : j < s.n
    · have hlt' : (j : Int) < s.n := by omega
      obtain ⟨x, hx⟩ : ∃ x, l[j]? = some x := ⟨_, List.getElem?_eq_getElem (by rw [← HS.out]; exact hlt)⟩
      obtain ⟨g5, o5, e5, hg5, hr5⟩ := (HH.out _ HJ.out.1).row j x hx
      obtain ⟨u0, a0, q0⟩ := hr5 0 (by omega)
      have f0 : u0 = I x := q0
      subst f0
      rw [Nat.add_zero] at a0
      rw [Nat.mul_one] at a0
      have cx := HFF.out _ HJ.out.1 x (List.mem_of_getElem? hx)
      have HTk : Hid ((l.take (j + 1)).map mk = (l.take j).map mk ++ [mk x]) := take_map9 mk hx
      have HJ0 : Hid (∃ xs, wr.ownsRow w.heap.size 52 2 (.slice a j c) j xs ∧ RwX 2 (rgrP) ((l.take j).map mk) xs) := HJ.out.2
      have HBW : Hid (Below w.heap.size w wr) := HJ.out.1
      rw [e5]
      clear hx e5 hr5 hg5 HJ q0
      go_wp2_with (first | fail)
      refine cx.mono ?_
      clear cx
      rintro e7 w7 ⟨rfl, hb7⟩
      have B7 : Below w.heap.size w w7 := HBW.out.trans (hb7.mono HBW.out.size)
      obtain ⟨xs, h1, h2⟩ := HJ0.out
      have o7 := own_below h1 hb7
      have HX7 : Hid (RwX 2 (rgrP) ((l.take j).map mk) xs) := h2
      clear h1 h2 hb7 HJ0
      have s7 := B7.size
      have hjl : j ≤ 1048576 := by omega
      have hnew := cells_new9 w7 #[I (mk x).prio, I (mk x).cap] 52
      have hone : ∀ u ∈ (#[I (mk x).prio, I (mk x).cap] : Array Value).toList, u.oneCell' = true := by intro u hu; simp at hu; rcases hu with e | e <;> (subst e; rfl)
      go_wp2_with (first
        | (at_builtin; refine wpList_append_own _ rfl (.tmp 17) (.tmp 21) 23 rfl w.heap.size 52 im _ 2 16 Tryz.underlying23 him hm0 hm1 hm2 rfl (by decide) _ _ _ rfl (o7.alloc _) ⟨w7.heap.size, 0, none⟩ 1 1 (#[I (mk x).prio, I (mk x).cap] : Array Value).toList rfl rfl hnew hone (by unfold maxLen; omega) (by omega) (by simp; omega) ?_))
      intro v8 w8 o8 g8 _
      obtain ⟨a8, k8, rfl⟩ := own_slk o8
      have b8 : Below w7.heap.size w7 (w7.alloc (.cells #[I (mk x).prio, I (mk x).cap] 52)) := below_alloc w7 _
      have H9 : Hid (Below w.heap.size w w8 ∧ ∃ xs, w8.ownsRow w.heap.size 52 2 (.slice a8 (j + 1) k8) (j + 1) xs ∧ RwX 2 (rgrP) ((l.take (j + 1)).map mk) xs) := by
        refine ⟨(B7.alloc B7.size _).grown g8 (by simp; omega) (fun k e => (o7.lt k e).1), _, o8, ?_⟩
        rw [HTk.out]
        refine RwX.snoc (HX7.out) _ _ rfl (fun i hi => ?_)
        rcases (by omega : i = 0 ∨ i = 1) with e | e
        · subst e; exact ⟨_, rfl, rfl⟩
        · subst e; exact ⟨_, rfl, rfl⟩
      clear o8 g8 o7 B7 hnew hone b8
      go_wp2
      go_roundw
      case rel => exact ⟨j + 1, a8, k8, by omega, by go_num, rfl, H9.out⟩
      case measure => simp [intOf]; omega
    · obtain rfl : j = s.n := by omega
      have hlt' : ¬ ((s.n : Nat) : Int) < (s.n : Nat) := by omega
      have HE : Hid (Below w.heap.size w wr ∧ ∃ xs, wr.ownsRow w.heap.size 52 2 (.slice a s.n c) s.n xs ∧ RwX 2 (rgrP) (l.map mk) xs) := by
        have := HJ.out
        rwa [List.take_of_length_le (by rw [HS.out]; exact Nat.le_refl _)] at this
      clear HJ
      go_wp2
      go_ret
      obtain ⟨h1, xs, h2, h3⟩ := HE.out
      rw [← HS.out]
      first | exact ⟨⟨a, c, xs, rfl, h2, h3⟩, h1⟩ | exact ⟨⟨a, c, rfl, xs, h2, h3⟩, h1⟩
end Go.Proofs.YtmidaeljeoifdaaGreatDoor

namespace Go.Proofs.YtmidaeljeoifdaaGreatDoor
open Go.RowKit Go.Shelf Go.Sort Go.Maps
set_option linter.unusedVariables false
set_option linter.unusedSimpArgs false

/-! ### The rows of tables, of their own -/
theorem own_mono9 {w : World} {B B' E k n : Nat} {u : Value} {xs : List Value} (h : w.ownsRow B' E k u n xs) (hB : B ≤ B') : w.ownsRow B E k u n xs := by
  obtain ⟨hl, h0 | ⟨g, cap, cur, hv, hb1, rr⟩⟩ := h
  · exact ⟨hl, .inl h0⟩
  · exact ⟨hl, .inr ⟨g, cap, cur, hv, Nat.le_trans hB hb1, rr⟩⟩
theorem intsO_mono9 {w : World} {B B' : Nat} {l : List Int} {u : Value} (h : IntsO9 w B' l u) (hB : B ≤ B') : IntsO9 w B l u := own_mono9 h hB
theorem tkO_mono9 {w : World} {B B' : Nat} {x : TkR} {u : Value} (hB : B ≤ B') : ∀ {i : Nat}, tkO9 w B' x i u → tkO9 w B x i u
  | 0, h => h
  | 1, h => h
  | 2, h => h
  | 3, h => h
  | 4, h => h
  | 5, h => h
  | 6, h => intsO_mono9 h hB
  | _ + 7, h => h
theorem isO_mono9 {w : World} {B B' : Nat} {x : IsR} {u : Value} (hB : B ≤ B') : ∀ {i : Nat}, isO9 w B' x i u → isO9 w B x i u
  | 0, h => h
  | 1, h => h
  | _ + 2, h => intsO_mono9 h hB
/-- A row of its own. -/
def RO {β : Type} (B E k : Nat) (PO : World → β → Nat → Value → Prop) (W : World) (l : List β) (u : Value) : Prop := ∃ xs, W.ownsRow B E k u l.length xs ∧ RwX k (PO W) l xs
theorem RO.below {β : Type} {B E k : Nat} {PO : World → β → Nat → Value → Prop} {W W' : World} {l : List β} {u : Value} (h : RO B E k PO W l u) (hP : ∀ x i u, PO W x i u → PO W' x i u) (hb : Below W.heap.size W W') : RO B E k PO W' l u := by
  obtain ⟨xs, h1, h2⟩ := h
  exact ⟨xs, own_below h1 hb, h2.mono hP⟩
theorem RO.store {β : Type} {B E k g : Nat} {PO : World → β → Nat → Value → Prop} {W W' : World} {l : List β} {u : Value} {cs : Array Value} {T : TypeId} {fr : Nat × Nat} (h : RO B E k PO W l u) (hP : ∀ x i u, PO W x i u → PO W' x i u) (hg : W.heap[g]? = some (.cells cs T fr)) (hT : E ≠ T) (hb : W.grownBy W' (some g)) : RO B E k PO W' l u := by
  obtain ⟨xs, h1, h2⟩ := h
  refine ⟨xs, h1.kept hb ?_, h2.mono hP⟩
  rcases h1.2 with ⟨h0, _⟩ | ⟨b, cap, cur, hv, _, hh, _⟩
  · rw [h0]; exact .inl rfl
  · right
    intro e
    rw [hv] at e
    have e3 : b = g := Option.some.inj e
    rw [e3, hg] at hh
    injection hh with hh
    injection hh with _ e4
    exact hT e4.symm
theorem RO.sl {β : Type} {B E k : Nat} {PO : World → β → Nat → Value → Prop} {W : World} {l : List β} {u : Value} (h : RO B E k PO W l u) : ∃ a c, u = .slice a l.length c := by
  obtain ⟨xs, h1, h2⟩ := h
  exact own_slk h1
theorem RO.rows {β : Type} {B E k : Nat} {PO : World → β → Nat → Value → Prop} {P : β → Nat → Value → Prop} {W : World} {l : List β} {a : Option Addr} {c : Nat} (h : RO B E k PO W l (.slice a l.length c)) (hP : ∀ x i u, PO W x i u → P x i u) : RowsAt W k P ⟨a, l.length, c⟩ l := by
  obtain ⟨xs, h1, h2⟩ := h
  exact RwX.rows (s := ⟨a, l.length, c⟩) h1 (h2.mono hP)
abbrev RT (B : Nat) := RO B 56 8 (fun W => tkO9 W B)
abbrev RG (B : Nat) := RO B 52 2 (fun _ => rgrP)
abbrev RR (B : Nat) := RO B 60 2 (fun _ => rsrP)
abbrev RK (B : Nat) := RO B 91 3 (fun _ => ctrP)
abbrev RA (B : Nat) := RO B 95 7 (fun _ => alrP)
abbrev RI (B : Nat) := RO B 72 3 (fun W => isO9 W B)
abbrev RM (B : Nat) := RO B 99 8 (fun _ => msrP)
/-- All the rows but the rings'. -/
structure Six (B : Nat) (W : World) (ts : List TkR) (rs : List RsR) (ks : List CtR) (als : List AlR) (is : List IsR) (ms : List MsR) (ut ur uk ua ui um : Value) : Prop where
  t : RT B W ts ut
  r : RR B W rs ur
  k : RK B W ks uk
  a : RA B W als ua
  i : RI B W is ui
  m : RM B W ms um
section
variable {B : Nat} {W W' : World}
theorem RT.below {l : List TkR} {u : Value} (h : RT B W l u) (hb : Below W.heap.size W W') : RT B W' l u := RO.below h (fun _ _ _ h => tkO_below9 h hb) hb
theorem RR.below {l : List RsR} {u : Value} (h : RR B W l u) (hb : Below W.heap.size W W') : RR B W' l u := RO.below h (fun _ _ _ h => h) hb
theorem RK.below {l : List CtR} {u : Value} (h : RK B W l u) (hb : Below W.heap.size W W') : RK B W' l u := RO.below h (fun _ _ _ h => h) hb
theorem RA.below {l : List AlR} {u : Value} (h : RA B W l u) (hb : Below W.heap.size W W') : RA B W' l u := RO.below h (fun _ _ _ h => h) hb
theorem RI.below {l : List IsR} {u : Value} (h : RI B W l u) (hb : Below W.heap.size W W') : RI B W' l u := RO.below h (fun _ _ _ h => isO_below9 h hb) hb
theorem RM.below {l : List MsR} {u : Value} (h : RM B W l u) (hb : Below W.heap.size W W') : RM B W' l u := RO.below h (fun _ _ _ h => h) hb
theorem RG.below {l : List RgR} {u : Value} (h : RG B W l u) (hb : Below W.heap.size W W') : RG B W' l u := RO.below h (fun _ _ _ h => h) hb
variable {ts : List TkR} {rs : List RsR} {ks : List CtR} {als : List AlR} {is : List IsR} {ms : List MsR} {ut ur uk ua ui um : Value}
theorem Six.below (h : Six B W ts rs ks als is ms ut ur uk ua ui um) (hb : Below W.heap.size W W') : Six B W' ts rs ks als is ms ut ur uk ua ui um :=
  ⟨RT.below h.t hb, RR.below h.r hb, RK.below h.k hb, RA.below h.a hb, RI.below h.i hb, RM.below h.m hb⟩
theorem tkO_store9 {base g : Nat} {x : TkR} {u : Value} {cs : Array Value} {fr : Nat × Nat} (hg : W.heap[g]? = some (.cells cs 30 fr)) (hb : W.grownBy W' (some g)) : ∀ {i : Nat}, tkO9 W base x i u → tkO9 W' base x i u
  | 0, h => h
  | 1, h => h
  | 2, h => h
  | 3, h => h
  | 4, h => h
  | 5, h => h
  | 6, h => intsO_store9 h hg (by decide) hb
  | _ + 7, h => h
theorem isO_store9 {base g : Nat} {x : IsR} {u : Value} {cs : Array Value} {fr : Nat × Nat} (hg : W.heap[g]? = some (.cells cs 30 fr)) (hb : W.grownBy W' (some g)) : ∀ {i : Nat}, isO9 W base x i u → isO9 W' base x i u
  | 0, h => h
  | 1, h => h
  | _ + 2, h => intsO_store9 h hg (by decide) hb
theorem Six.store {g : Nat} {cs : Array Value} {fr : Nat × Nat} (h : Six B W ts rs ks als is ms ut ur uk ua ui um) (hg : W.heap[g]? = some (.cells cs 30 fr)) (hb : W.grownBy W' (some g)) : Six B W' ts rs ks als is ms ut ur uk ua ui um :=
  ⟨RO.store h.t (fun _ _ _ h => tkO_store9 hg hb h) hg (by decide) hb, RO.store h.r (fun _ _ _ h => h) hg (by decide) hb, RO.store h.k (fun _ _ _ h => h) hg (by decide) hb, RO.store h.a (fun _ _ _ h => h) hg (by decide) hb, RO.store h.i (fun _ _ _ h => isO_store9 hg hb h) hg (by decide) hb, RO.store h.m (fun _ _ _ h => h) hg (by decide) hb⟩
theorem RG.store {g : Nat} {cs : Array Value} {fr : Nat × Nat} {l : List RgR} {u : Value} (h : RG B W l u) (hg : W.heap[g]? = some (.cells cs 30 fr)) (hb : W.grownBy W' (some g)) : RG B W' l u := RO.store h (fun _ _ _ h => h) hg (by decide) hb
end
end Go.Proofs.YtmidaeljeoifdaaGreatDoor

namespace Go.Proofs.YtmidaeljeoifdaaGreatDoor
open Go.RowKit Go.Shelf Go.Sort Go.Maps
set_option linter.unusedVariables false
set_option linter.unusedSimpArgs false
set_option maxHeartbeats 8000000
set_option maxRecDepth 100000

/-! ### The rows of a configuration that has one task and nothing else -/
theorem rrinfo : (Tryz.prog.info? 60).map (fun i => (i.zero, i.size, i.bytes)) = some (some (.agg #[.bool false, I 0]), 2, 16) := by kernel_rfl
theorem res_small (w : World) (C E : Array Value) (a0 : Option Addr) (c0 : Nat) (a12 : Option Addr) (c12 : Nat) (h12 : C[12]? = some (.slice a12 0 c12)) (h9 : C[9]? = some (.bool false)) (h0 : E[0]? = some (.slice a0 0 c0)) : Calls Tryz.prog 86 #[.agg C, .agg E] w fun e w' => (∃ a c, e = .returned (.slice a 0 c) ∧ RR w.heap.size w' [] (.slice a 0 c)) ∧ Below w.heap.size w w' := by
  obtain ⟨im, him, hm0, hm1, hm2⟩ := info_parts rrinfo
  have hb : Below w.heap.size w ((w.alloc (.cells C 47)).alloc (.cells E 82)) := (below_alloc w _).trans ((below_alloc _ _).mono (by simp))
  have hV1 : ((w.alloc (.cells C 47)).alloc (.cells E 82)).heap[w.heap.size]? = some (.cells C 47) := by
    rw [heap_alloc_old _ _ (by simp)]; exact heap_alloc_new w _
  have hV2 : ((w.alloc (.cells C 47)).alloc (.cells E 82)).heap[w.heap.size + 1]? = some (.cells E 82) := by
    have := heap_alloc_new (w.alloc (.cells C 47)) (.cells E 82)
    rw [World.size_alloc] at this
    exact this
  obtain ⟨w2, hmk, hO2, hg2⟩ := run_make_own (P := Tryz.prog) ((w.alloc (.cells C 47)).alloc (.cells E 82)) w.heap.size 24 60 im _ 2 Tryz.underlying24 him hm0 hm1 .i64 .i64 1 (by rw [hm2]; omega) (by unfold maxLen; omega) (by simp; omega)
  have q12 : ((w.alloc (.cells C 47)).alloc (.cells E 82)).cell? ⟨w.heap.size, 12, none⟩ = some (.slice a12 0 c12) := by rw [cell_of_row _ _ 12 _ _ (0, 0) hV1]; exact h12
  have b2 := below_none hg2
  have q0 : w2.cell? ⟨w.heap.size + 1, 0, none⟩ = some (.slice a0 0 c0) := by rw [cell_of_row _ _ 0 _ _ (0, 0) ((b2.block _ (heap_lt hV2)).trans hV2)]; exact h0
  have q9 : w2.cell? ⟨w.heap.size, 9, none⟩ = some (.bool false) := by rw [cell_of_row _ _ 9 _ _ (0, 0) ((b2.block _ (heap_lt hV1)).trans hV1)]; exact h9
  have HB : Hid (Below w.heap.size w w2) := hb.trans (b2.mono hb.size)
  have HO : Hid (w2.ownsRow w.heap.size 60 2 (.slice (some ⟨((w.alloc (.cells C 47)).alloc (.cells E 82)).heap.size, 0, none⟩) 0 1) 0 []) := hO2
  rw [Int.natCast_one] at hmk
  clear hO2 hg2 b2 hb hV1 hV2 h12 h9 h0
  generalize hW : (w.alloc (.cells C 47)).alloc (.cells E 82) = W1 at *
  go_enter Tryz.func86, Tryz.ntmps86
  go_upto_region 1 with fail
  clear hW
  go_wp2
  go_loopw [5, 6, 7, 16] (fun ov _ _ iv wr => iv = .int .i64 0 ∧ ov = .slice (some ⟨W1.heap.size, 0, none⟩) 0 1 ∧ wr = w2) (fun _ _ _ _ _ => 0)
  case atStart => exact ⟨rfl, rfl, rfl⟩
  case round =>
    obtain ⟨rfl, rfl, rfl⟩ := hrel
    go_wp2
    go_ret
    exact ⟨⟨_, _, rfl, [], HO.out, RwX.nil _ _⟩, HB.out⟩
theorem al_nil (w : World) (C : Array Value) (a : Option Addr) (c : Nat) (hc : c ≤ maxLen) (h15 : C[15]? = some (.slice a 0 c)) : Calls Tryz.prog 89 #[.agg C] w fun e w' => (∃ a c, e = .returned (.slice a 0 c) ∧ RA w.heap.size w' [] (.slice a 0 c)) ∧ Below w.heap.size w w' := by
  have hb := below_alloc w (.cells C 47)
  have hV := heap_alloc_new w (.cells C 47)
  have q : (w.alloc (.cells C 47)).cell? ⟨w.heap.size, 15, none⟩ = some (.slice a 0 c) := by rw [cell_of_row _ _ 15 _ _ (0, 0) hV]; exact h15
  have k1 := rows_Alarm_AlarmRow (w.alloc (.cells C 47)) ⟨a, 0, c⟩ [] ⟨rfl, Nat.zero_le _, hc, fun j x hj => by simp at hj⟩ (by simp) 155 #[.pointer (some ⟨w.heap.size, 0, none⟩)] (enters_of Tryz.func155 (by kernel_rfl) rfl) (fun x => ⟨0, ⟨0, 0, 0⟩, 0, 0, 0⟩) (fun W hW x hx => by cases hx)
  clear h15 hV
  go_enter Tryz.func89, Tryz.ntmps89
  go_wp2_with (first | (go_at_call 154; refine k1.mono ?_; clear k1; rintro e w1 ⟨⟨a1, c1, xs, rfl, o1, x1⟩, b1⟩))
  go_ret
  exact ⟨⟨a1, c1, rfl, xs, own_mono9 o1 (by simp), x1⟩, hb.trans (b1.mono hb.size)⟩
theorem ms_nil (w : World) (C : Array Value) (a : Option Addr) (c : Nat) (hc : c ≤ maxLen) (h17 : C[17]? = some (.slice a 0 c)) : Calls Tryz.prog 92 #[.agg C] w fun e w' => (∃ a c, e = .returned (.slice a 0 c) ∧ RM w.heap.size w' [] (.slice a 0 c)) ∧ Below w.heap.size w w' := by
  have hb := below_alloc w (.cells C 47)
  have hV := heap_alloc_new w (.cells C 47)
  have q : (w.alloc (.cells C 47)).cell? ⟨w.heap.size, 17, none⟩ = some (.slice a 0 c) := by rw [cell_of_row _ _ 17 _ _ (0, 0) hV]; exact h17
  have k1 := rows_Message_MessageRow (w.alloc (.cells C 47)) ⟨a, 0, c⟩ [] ⟨rfl, Nat.zero_le _, hc, fun j x hj => by simp at hj⟩ (by simp) 159 #[.pointer (some ⟨w.heap.size, 0, none⟩)] (enters_of Tryz.func159 (by kernel_rfl) rfl) (fun x => ⟨0, 0, 0, 0, 0, ⟨0, 0, 0⟩⟩) (fun W hW x hx => by cases hx)
  clear h17 hV
  go_enter Tryz.func92, Tryz.ntmps92
  go_wp2_with (first | (go_at_call 158; refine k1.mono ?_; clear k1; rintro e w1 ⟨⟨a1, c1, xs, rfl, o1, x1⟩, b1⟩))
  go_ret
  exact ⟨⟨a1, c1, rfl, xs, own_mono9 o1 (by simp), x1⟩, hb.trans (b1.mono hb.size)⟩
theorem ct_nil (w : World) (a : Option Addr) (c : Nat) (hc : c ≤ maxLen) : Calls Tryz.prog 87 #[.slice a 0 c, .func (.func 88) #[] #[]] w fun e w' => (∃ a c, e = .returned (.slice a 0 c) ∧ RK w.heap.size w' [] (.slice a 0 c)) ∧ Below w.heap.size w w' :=
  (rows_Counter_CounterRow w ⟨a, 0, c⟩ [] ⟨rfl, Nat.zero_le _, hc, fun j x hj => by simp at hj⟩ (by simp) 88 #[] (enters_of Tryz.func88 (by kernel_rfl) rfl) (fun x => ⟨0, 0, 0⟩) (fun W hW x hx => by cases hx)).mono (fun e w' h => by
    obtain ⟨⟨a1, c1, xs, h1, h2, h3⟩, hb⟩ := h
    exact ⟨⟨a1, c1, h1, xs, h2, h3⟩, hb⟩)
theorem is_nil (w : World) (a : Option Addr) (c : Nat) (hc : c ≤ maxLen) : Calls Tryz.prog 90 #[.slice a 0 c, .func (.func 91) #[] #[]] w fun e w' => (∃ a c, e = .returned (.slice a 0 c) ∧ RI w.heap.size w' [] (.slice a 0 c)) ∧ Below w.heap.size w w' :=
  (rows_Isr_IsrRow w ⟨a, 0, c⟩ [] ⟨rfl, Nat.zero_le _, hc, fun j x hj => by simp at hj⟩ (by simp) 91 #[] (enters_of Tryz.func91 (by kernel_rfl) rfl) (fun x => ⟨0, 0, []⟩) (fun W hW x hx => by cases hx)).mono (fun e w' h => by
    obtain ⟨⟨a1, c1, xs, h1, h2, h3⟩, hb⟩ := h
    exact ⟨⟨a1, c1, h1, xs, h2, h3⟩, hb⟩)
/-- The row of a task without lists. -/
def trow (x : Tk) : TkR := ⟨x.prio, 0, x.full, x.act, 0, -1, [], 0⟩
theorem tasks_small (w : World) (C E : Array Value) (hC : C.size = 18) (hE : E.size = 5) (lv s : Sl) (x : Tk) (hx : x.auto = [] ∧ x.res = [] ∧ x.evs = []) (hs : RowsAt w 8 (tkP w) s [x]) (hlv : RowsAt w 1 intP lv [x.prio]) (h11 : C[11]? = some (.slice s.a s.n s.c)) (h9 : C[9]? = some (.bool false)) :
    Calls Tryz.prog 85 #[.agg C, .agg E, .slice lv.a lv.n lv.c] w fun e w' => (∃ a c, e = .returned (.slice a 1 c) ∧ RT w.heap.size w' [trow x] (.slice a 1 c)) ∧ Below w.heap.size w w' := by
  have hb : Below w.heap.size w (((w.alloc (.cells C 47)).alloc (.cells E 82)).alloc (.cells #[.slice lv.a lv.n lv.c] 54)) := ((below_alloc w _).trans ((below_alloc _ _).mono (by simp))).trans ((below_alloc _ _).mono (by simp; omega))
  have hV1 : (((w.alloc (.cells C 47)).alloc (.cells E 82)).alloc (.cells #[.slice lv.a lv.n lv.c] 54)).heap[w.heap.size]? = some (.cells C 47) := h3_0 _ _ _ _
  have hV2 : (((w.alloc (.cells C 47)).alloc (.cells E 82)).alloc (.cells #[.slice lv.a lv.n lv.c] 54)).heap[w.heap.size + 1]? = some (.cells E 82) := heap_three _ _ _ _
  have hV3 : (((w.alloc (.cells C 47)).alloc (.cells E 82)).alloc (.cells #[.slice lv.a lv.n lv.c] 54)).heap[w.heap.size + 1 + 1]? = some (.cells #[.slice lv.a lv.n lv.c] 54) := h3_2 _ _ _ _
  have q11 : (((w.alloc (.cells C 47)).alloc (.cells E 82)).alloc (.cells #[.slice lv.a lv.n lv.c] 54)).cell? ⟨w.heap.size, 11, none⟩ = some (.slice s.a s.n s.c) := by rw [cell_of_row _ _ 11 _ _ (0, 0) hV1]; exact h11
  have k1 := rows_Task_TaskRow _ s [x] (hs.below hb (fun x i u _ h => tkP_below9 h hb)) (by simp) 147 #[.pointer (some ⟨w.heap.size + 1 + 1, 0, none⟩), .pointer (some ⟨w.heap.size, 0, none⟩), .pointer (some ⟨w.heap.size + 1, 0, none⟩)] (enters_of Tryz.func147 (by kernel_rfl) rfl) trow (fun W hW y hy s4 r4 s5 r5 s6 r6 s7 r7 => by
    have ey : y = x := by simpa using hy
    subst ey
    rw [hx.1] at r4
    rw [hx.2.1] at r5
    rw [hx.2.2] at r6
    have n4 : s4.n = 0 := r4.n
    have n5 : s5.n = 0 := r5.n
    have n6 : s6.n = 0 := r6.n
    have hbW := hb.trans (hW.mono hb.size)
    exact task1_any W y s4 s5 s6 s7 (w.heap.size + 1 + 1) w.heap.size (w.heap.size + 1) lv C E hC hE ((hW.block _ (heap_lt hV3)).trans hV3) ((hW.block _ (heap_lt hV1)).trans hV1) ((hW.block _ (heap_lt hV2)).trans hV2) _ 0 0 (-1) 0 []
      (fun W' hW' => (index_one W' lv y.prio ((hlv.below hbW (fun _ _ _ _ h => h)).below hW' (fun _ _ _ _ h => h))).mono (fun e w' h => ⟨h.1, by rw [h.2]; exact Below.refl _ _⟩))
      (fun W' hW' => by rw [n6]; exact mask_nil W' C s6.a s6.c)
      (fun W' hW' => by rw [n5]; exact internal_nil W' C E s5.a s5.c)
      (fun W' hW' => by rw [n5]; exact (own_nil W' C s5.a s5.c h9).mono (fun e w' h => ⟨⟨none, 0, 0⟩, h.1, World.ownsRow_nil _ _ _ _, h.2⟩))
      (fun W' hW' => by rw [n4]; exact (bits_nil W' s4.a s4.c).mono (fun e w' h => ⟨h.1, by rw [h.2]; exact Below.refl _ _⟩)))
  have HB : Hid _ := hb
  clear hV1 hV2 hV3 hb hs hlv
  go_enter Tryz.func85, Tryz.ntmps85
  go_wp2_with (first | (go_at_call 146; refine k1.mono ?_; clear k1; rintro e w1 ⟨⟨a1, c1, xs, rfl, o1, x1⟩, b1⟩))
  go_ret
  have hsz : w.heap.size ≤ (((w.alloc (.cells C 47)).alloc (.cells E 82)).alloc (.cells #[.slice lv.a lv.n lv.c] 54)).heap.size := HB.out.size
  exact ⟨⟨a1, c1, rfl, xs, own_mono9 o1 hsz, x1.mono (fun _ _ _ h => tkO_mono9 hsz h)⟩, HB.out.trans (b1.mono HB.out.size)⟩
end Go.Proofs.YtmidaeljeoifdaaGreatDoor

