import Derived.Test.YtmidaeljeoifdaaGreatDoorXThd
import Derived.Test.YtmidaeljeoifdaaGreatDoorXTr3
import Derived.Test.YtmidaeljeoifdaaGreatDoorXTgy
import Derived.Maps.OwnSet
import Derived.Maps.OwnOps
namespace Go.Proofs.YtmidaeljeoifdaaGreatDoor
open Go.Maps Go.RowKit Go.Shelf Go.Sort
set_option linter.unusedSimpArgs false
set_option linter.unusedVariables false
set_option maxHeartbeats 16000000
set_option maxRecDepth 100000
theorem qg4 : (Tryz.prog.info? 95).map (fun i => (i.zero,i.size,i.bytes)) = some (some (.agg #[I 0,I 0,I 0, .int .u32 0, .int .u32 0, .int .u32 0, .int .u32 0]),7,48) := by kernel_rfl
theorem qex (w : World) (s : Sl) (l : List Al) (hl : RowsAt w 9 (alP w) s l) (hll : l.length ≤ 1048576) (f : Nat) (caps : Array Value) (eg : ∀ args W,(callFunc f args).run Tryz.prog W = .ok (.enter f args) W) (mk : Al → AlR)
  (hf : ∀ W,Below w.heap.size w W → ∀ x ∈ l, ∀ s6 : Sl,RowsAt W 1 intP s6 x.auto → Calls Tryz.prog f (#[.agg #[S x.name,I x.ctr,I x.ac.kind,I x.ac.task,I x.ac.event,S x.ac.name, .slice s6.a s6.n s6.c, .int .u32 (x.time : Int), .int .u32 (x.cycle : Int)]] ++ caps) W fun e w' => e = .returned (.agg #[I (mk x).ctr,I (mk x).ac.kind,I (mk x).ac.task, .int .u32 ((mk x).ac.mask : Int), .int .u32 ((mk x).auto : Int), .int .u32 ((mk x).time : Int), .int .u32 ((mk x).cycle : Int)]) ∧ Below W.heap.size W w') :
  Calls Tryz.prog 154 #[.slice s.a s.n s.c, .func (.func f) #[] caps] w fun e w' => (∃ a c xs,e = .returned (.slice a l.length c) ∧ w'.ownsRow w.heap.size 95 7 (.slice a l.length c) l.length xs ∧ RwX 7 (alrP) (l.map mk) xs) ∧ Below w.heap.size w w' := by
 obtain ⟨im,him,hm0,hm1,hm2⟩ := info_parts qg4
 have HS : Hid (s.n = l.length) := hl.n
 have hsn : s.n ≤ 1048576 := by have := hl.n; omega
 have hsc : s.n ≤ s.c := hl.c
 have hsm : s.c ≤ maxLen := hl.m
 unfold maxLen at hsm
 have HH : Hid (∀ W,Below w.heap.size w W → RowsAt W 9 (alP W) s l) := fun W hW => hl.below hW (fun x i u _ h => qoa h hW)
 have HFF : Hid (∀ W,Below w.heap.size w W → ∀ x ∈ l, ∀ s6 : Sl,RowsAt W 1 intP s6 x.auto → Calls Tryz.prog f (#[.agg #[S x.name,I x.ctr,I x.ac.kind,I x.ac.task,I x.ac.event,S x.ac.name, .slice s6.a s6.n s6.c, .int .u32 (x.time : Int), .int .u32 (x.cycle : Int)]] ++ caps) W fun e w' => e = .returned (.agg #[I (mk x).ctr,I (mk x).ac.kind,I (mk x).ac.task, .int .u32 ((mk x).ac.mask : Int), .int .u32 ((mk x).auto : Int), .int .u32 ((mk x).time : Int), .int .u32 ((mk x).cycle : Int)]) ∧ Below W.heap.size W w') := hf
 clear hl hf hll
 obtain ⟨w2,hmk,hO2,hg2⟩ := run_make_own (P := Tryz.prog) w w.heap.size 26 95 im _ 7 Tryz.underlying26 him hm0 hm1 .i64 .i64 s.n (by rw [hm2]; omega) (by unfold maxLen; omega) (Nat.le_refl _)
 have HO2 : Hid (w2.ownsRow w.heap.size 95 7 (.slice (some ⟨w.heap.size,0,none⟩) 0 s.n) 0 [] ∧ Below w.heap.size w w2) := ⟨hO2,qal hg2⟩
 clear hO2 hg2
 go_enter Tryz.func154,Tryz.ntmps154
 go_wp2
 clear hmk
 go_loopw [5,7,13] (fun ov _ iv wr => ∃ (j : Nat) (a : Option Addr) (c : Nat),j ≤ s.n ∧ iv = .int .i64 j ∧ ov = .slice a j c ∧ Hid (Below w.heap.size w wr ∧ ∃ xs,wr.ownsRow w.heap.size 95 7 (.slice a j c) j xs ∧ RwX 7 (alrP) ((l.take j).map mk) xs)) (fun _ _ iv _ => s.n - (intOf iv).toNat)
 case atStart => exact ⟨0,_,_,by omega,rfl,rfl,HO2.out.2, [],HO2.out.1,RwX.nil _ _⟩
 case round =>
  obtain ⟨j,a,c,hj,rfl,rfl,HJ⟩ := hrel
  by_cases hlt : j < s.n
  ·have hlt' : (j : Int) < s.n := by omega
   obtain ⟨x,hx⟩ : ∃ x,l[j]? = some x := ⟨_,List.getElem?_eq_getElem (by rw [← HS.out]; exact hlt)⟩
   obtain ⟨g5,o5,e5,hg5,hr5⟩ := (HH.out _ HJ.out.1).row j x hx
   obtain ⟨u0,a0,q0⟩ := hr5 0 (by omega)
   obtain ⟨u1,a1,q1⟩ := hr5 1 (by omega)
   obtain ⟨u2,a2,q2⟩ := hr5 2 (by omega)
   obtain ⟨u3,a3,q3⟩ := hr5 3 (by omega)
   obtain ⟨u4,a4,q4⟩ := hr5 4 (by omega)
   obtain ⟨u5,a5,q5⟩ := hr5 5 (by omega)
   obtain ⟨u6,a6,q6⟩ := hr5 6 (by omega)
   obtain ⟨u7,a7,q7⟩ := hr5 7 (by omega)
   obtain ⟨u8,a8,q8⟩ := hr5 8 (by omega)
   have f0 : u0 = S x.name := q0
   have f1 : u1 = I x.ctr := q1
   have f2 : u2 = I x.ac.kind := q2
   have f3 : u3 = I x.ac.task := q3
   have f4 : u4 = I x.ac.event := q4
   have f5 : u5 = S x.ac.name := q5
   obtain ⟨s6,f6,r6⟩ := (show IntsV wr x.auto u6 from q6)
   have f7 : u7 = .int .u32 (x.time : Int) := q7
   have f8 : u8 = .int .u32 (x.cycle : Int) := q8
   subst f0 f1 f2 f3 f4 f5 f6 f7 f8
   rw [Nat.add_zero] at a0
   have bX : Below wr.heap.size wr (wr.alloc (.cells #[S x.name,I x.ctr,I x.ac.kind,I x.ac.task,I x.ac.event,S x.ac.name, .slice s6.a s6.n s6.c, .int .u32 (x.time : Int), .int .u32 (x.cycle : Int)] 66)) := qa0 wr _
   have bW : Below w.heap.size w (wr.alloc (.cells #[S x.name,I x.ctr,I x.ac.kind,I x.ac.task,I x.ac.event,S x.ac.name, .slice s6.a s6.n s6.c, .int .u32 (x.time : Int), .int .u32 (x.cycle : Int)] 66)) := HJ.out.1.trans (bX.mono HJ.out.1.size)
   have hXX := heap_alloc_new wr (.cells #[S x.name,I x.ctr,I x.ac.kind,I x.ac.task,I x.ac.event,S x.ac.name, .slice s6.a s6.n s6.c, .int .u32 (x.time : Int), .int .u32 (x.cycle : Int)] 66)
   have cx := HFF.out _ bW x (List.mem_of_getElem? hx) s6 (r6.below bX (fun _ _ _ _ h => h))
   have HTk : Hid ((l.take (j + 1)).map mk = (l.take j).map mk ++ [mk x]) := qcf mk hx
   have HJ0 : Hid (∃ xs,(wr.alloc (.cells #[S x.name,I x.ctr,I x.ac.kind,I x.ac.task,I x.ac.event,S x.ac.name, .slice s6.a s6.n s6.c, .int .u32 (x.time : Int), .int .u32 (x.cycle : Int)] 66)).ownsRow w.heap.size 95 7 (.slice a j c) j xs ∧ RwX 7 (alrP) ((l.take j).map mk) xs) := by
    obtain ⟨_,xs,h1,h2⟩ := HJ.out
    exact ⟨xs,qa6 h1 bX,h2⟩
   rw [e5]
   clear hx e5 hr5 hg5 HJ q0 q1 q2 q3 q4 q5 q7 q8
   go_upto_region 5 with fail
   have HXS : Hid (wr.heap.size < (wr.alloc (.cells #[S x.name,I x.ctr,I x.ac.kind,I x.ac.task,I x.ac.event,S x.ac.name, .slice s6.a s6.n s6.c, .int .u32 (x.time : Int), .int .u32 (x.cycle : Int)] 66)).heap.size) := by show _ < _; simp
   generalize wr.heap.size = X at *
   generalize (wr.alloc (.cells #[S x.name,I x.ctr,I x.ac.kind,I x.ac.task,I x.ac.event,S x.ac.name, .slice s6.a s6.n s6.c, .int .u32 (x.time : Int), .int .u32 (x.cycle : Int)] 66)) = W0 at *
   have hi97 : (Tryz.prog.info? 66).map (·.size) = some (#[S x.name,I x.ctr,I x.ac.kind,I x.ac.task,I x.ac.event,S x.ac.name, .slice s6.a s6.n s6.c, .int .u32 (x.time : Int), .int .u32 (x.cycle : Int)] : Array Value).size := by kernel_rfl
   have HBW : Hid (Below w.heap.size w W0) := bW
   clear bW bX
   go_wp2_with (first
    | (with_reducible refine qa8 ?_; refine wpList_load_row rfl 66 _ rfl X rfl 66 _ (0,0) _ hXX Tryz.underlying66 rfl hi97 ?_))
   refine cx.mono ?_
   clear cx
   rintro e7 w7 ⟨rfl,hb7⟩
   have B7 : Below w.heap.size w w7 := HBW.out.trans (hb7.mono HBW.out.size)
   obtain ⟨xs,h1,h2⟩ := HJ0.out
   have o7 := qa6 h1 hb7
   have HX7 : Hid (RwX 7 (alrP) ((l.take j).map mk) xs) := h2
   clear h1 h2 hb7 HJ0
   have s7 := B7.size
   have hjl : j ≤ 1048576 := by omega
   have hnew := qb8 w7 #[I (mk x).ctr,I (mk x).ac.kind,I (mk x).ac.task, .int .u32 ((mk x).ac.mask : Int), .int .u32 ((mk x).auto : Int), .int .u32 ((mk x).time : Int), .int .u32 ((mk x).cycle : Int)] 95
   have hone : ∀ u ∈ (#[I (mk x).ctr,I (mk x).ac.kind,I (mk x).ac.task, .int .u32 ((mk x).ac.mask : Int), .int .u32 ((mk x).auto : Int), .int .u32 ((mk x).time : Int), .int .u32 ((mk x).cycle : Int)] : Array Value).toList,u.oneCell' = true := by intro u hu; simp at hu; rcases hu with e | e | e | e | e | e | e <;> (subst e; rfl)
   go_wp2_with (first
    | (at_builtin; refine wpList_append_own _ rfl (.tmp 17) (.tmp 21) 26 rfl w.heap.size 95 im _ 7 48 Tryz.underlying26 him hm0 hm1 hm2 rfl (by decide) _ _ _ rfl (o7.alloc _) ⟨w7.heap.size,0,none⟩ 1 1 (#[I (mk x).ctr,I (mk x).ac.kind,I (mk x).ac.task, .int .u32 ((mk x).ac.mask : Int), .int .u32 ((mk x).auto : Int), .int .u32 ((mk x).time : Int), .int .u32 ((mk x).cycle : Int)] : Array Value).toList rfl rfl hnew hone (by unfold maxLen; omega) (by omega) (by simp; omega) ?_))
   intro v8 w8 o8 g8 _
   obtain ⟨a8,k8,rfl⟩ := qbc o8
   have b8 : Below w7.heap.size w7 (w7.alloc (.cells #[I (mk x).ctr,I (mk x).ac.kind,I (mk x).ac.task, .int .u32 ((mk x).ac.mask : Int), .int .u32 ((mk x).auto : Int), .int .u32 ((mk x).time : Int), .int .u32 ((mk x).cycle : Int)] 95)) := qa0 w7 _
   have H9 : Hid (Below w.heap.size w w8 ∧ ∃ xs,w8.ownsRow w.heap.size 95 7 (.slice a8 (j + 1) k8) (j + 1) xs ∧ RwX 7 (alrP) ((l.take (j + 1)).map mk) xs) := by
    refine ⟨(B7.alloc B7.size _).grown g8 (by simp; omega) (fun k e => (o7.lt k e).1),_,o8, ?_⟩
    rw [HTk.out]
    refine RwX.snoc (HX7.out) _ _ rfl (fun i hi => ?_)
    rcases (by omega : i = 0 ∨ i = 1 ∨ i = 2 ∨ i = 3 ∨ i = 4 ∨ i = 5 ∨ i = 6) with e | e | e | e | e | e | e
    ·subst e; exact ⟨_,rfl,rfl⟩
    ·subst e; exact ⟨_,rfl,rfl⟩
    ·subst e; exact ⟨_,rfl,rfl⟩
    ·subst e; exact ⟨_,rfl,rfl⟩
    ·subst e; exact ⟨_,rfl,rfl⟩
    ·subst e; exact ⟨_,rfl,rfl⟩
    ·subst e; exact ⟨_,rfl,rfl⟩
   clear o8 g8 o7 B7 hnew hone b8
   go_wp2
   go_roundw
   case rel => exact ⟨j + 1,a8,k8,by omega,by go_num,rfl,H9.out⟩
   case measure => simp [intOf]; omega
  ·obtain rfl : j = s.n := by omega
   have hlt' : ¬ ((s.n : Nat) : Int) < (s.n : Nat) := by omega
   have HE : Hid (Below w.heap.size w wr ∧ ∃ xs,wr.ownsRow w.heap.size 95 7 (.slice a s.n c) s.n xs ∧ RwX 7 (alrP) (l.map mk) xs) := by
    have := HJ.out
    rwa [List.take_of_length_le (by rw [HS.out]; exact Nat.le_refl _)] at this
   clear HJ
   go_wp2
   go_ret
   obtain ⟨h1,xs,h2,h3⟩ := HE.out
   rw [← HS.out]
   first | exact ⟨⟨a,c,xs,rfl,h2,h3⟩,h1⟩ | exact ⟨⟨a,c,rfl,xs,h2,h3⟩,h1⟩
theorem qhm : (Tryz.prog.info? 72).map (fun i => (i.zero,i.size,i.bytes)) = some (some (.agg #[I 0,I 0, .slice none 0 0]),3,40) := by kernel_rfl
theorem qhn (w : World) (s : Sl) (l : List Is) (hl : RowsAt w 5 (isP w) s l) (hll : l.length ≤ 1048576) (f : Nat) (caps : Array Value) (eg : ∀ args W,(callFunc f args).run Tryz.prog W = .ok (.enter f args) W) (mk : Is → IsR)
  (hf : ∀ W,Below w.heap.size w W → ∀ x ∈ l, ∀ s3 : Sl,RowsAt W 1 intP s3 x.res → ∀ s4 : Sl,RowsAt W 1 intP s4 x.msgs → Calls Tryz.prog f (#[.agg #[S x.name,I x.cat,I x.prio, .slice s3.a s3.n s3.c, .slice s4.a s4.n s4.c]] ++ caps) W fun e w' => ∃ so : Sl,e = .returned (.agg #[I (mk x).cat,I (mk x).prio, .slice so.a so.n so.c]) ∧ qa9 w' w.heap.size (mk x).own (.slice so.a so.n so.c) ∧ Below W.heap.size W w') :
  Calls Tryz.prog 90 #[.slice s.a s.n s.c, .func (.func f) #[] caps] w fun e w' => (∃ a c xs,e = .returned (.slice a l.length c) ∧ w'.ownsRow w.heap.size 72 3 (.slice a l.length c) l.length xs ∧ RwX 3 (isO9 w' w.heap.size) (l.map mk) xs) ∧ Below w.heap.size w w' := by
 obtain ⟨im,him,hm0,hm1,hm2⟩ := info_parts qhm
 have HS : Hid (s.n = l.length) := hl.n
 have hsn : s.n ≤ 1048576 := by have := hl.n; omega
 have hsc : s.n ≤ s.c := hl.c
 have hsm : s.c ≤ maxLen := hl.m
 unfold maxLen at hsm
 have HH : Hid (∀ W,Below w.heap.size w W → RowsAt W 5 (isP W) s l) := fun W hW => hl.below hW (fun x i u _ h => qob h hW)
 have HFF : Hid (∀ W,Below w.heap.size w W → ∀ x ∈ l, ∀ s3 : Sl,RowsAt W 1 intP s3 x.res → ∀ s4 : Sl,RowsAt W 1 intP s4 x.msgs → Calls Tryz.prog f (#[.agg #[S x.name,I x.cat,I x.prio, .slice s3.a s3.n s3.c, .slice s4.a s4.n s4.c]] ++ caps) W fun e w' => ∃ so : Sl,e = .returned (.agg #[I (mk x).cat,I (mk x).prio, .slice so.a so.n so.c]) ∧ qa9 w' w.heap.size (mk x).own (.slice so.a so.n so.c) ∧ Below W.heap.size W w') := hf
 clear hl hf hll
 obtain ⟨w2,hmk,hO2,hg2⟩ := run_make_own (P := Tryz.prog) w w.heap.size 27 72 im _ 3 Tryz.underlying27 him hm0 hm1 .i64 .i64 s.n (by rw [hm2]; omega) (by unfold maxLen; omega) (Nat.le_refl _)
 have HO2 : Hid (w2.ownsRow w.heap.size 72 3 (.slice (some ⟨w.heap.size,0,none⟩) 0 s.n) 0 [] ∧ Below w.heap.size w w2) := ⟨hO2,qal hg2⟩
 clear hO2 hg2
 go_enter Tryz.func90,Tryz.ntmps90
 go_wp2
 clear hmk
 go_loopw [5,7,13] (fun ov _ iv wr => ∃ (j : Nat) (a : Option Addr) (c : Nat),j ≤ s.n ∧ iv = .int .i64 j ∧ ov = .slice a j c ∧ Hid (Below w.heap.size w wr ∧ ∃ xs,wr.ownsRow w.heap.size 72 3 (.slice a j c) j xs ∧ RwX 3 (isO9 wr w.heap.size) ((l.take j).map mk) xs)) (fun _ _ iv _ => s.n - (intOf iv).toNat)
 case atStart => exact ⟨0,_,_,by omega,rfl,rfl,HO2.out.2, [],HO2.out.1,RwX.nil _ _⟩
 case round =>
  obtain ⟨j,a,c,hj,rfl,rfl,HJ⟩ := hrel
  by_cases hlt : j < s.n
  ·have hlt' : (j : Int) < s.n := by omega
   obtain ⟨x,hx⟩ : ∃ x,l[j]? = some x := ⟨_,List.getElem?_eq_getElem (by rw [← HS.out]; exact hlt)⟩
   obtain ⟨g5,o5,e5,hg5,hr5⟩ := (HH.out _ HJ.out.1).row j x hx
   obtain ⟨u0,a0,q0⟩ := hr5 0 (by omega)
   obtain ⟨u1,a1,q1⟩ := hr5 1 (by omega)
   obtain ⟨u2,a2,q2⟩ := hr5 2 (by omega)
   obtain ⟨u3,a3,q3⟩ := hr5 3 (by omega)
   obtain ⟨u4,a4,q4⟩ := hr5 4 (by omega)
   have f0 : u0 = S x.name := q0
   have f1 : u1 = I x.cat := q1
   have f2 : u2 = I x.prio := q2
   obtain ⟨s3,f3,r3⟩ := (show IntsV wr x.res u3 from q3)
   obtain ⟨s4,f4,r4⟩ := (show IntsV wr x.msgs u4 from q4)
   subst f0 f1 f2 f3 f4
   rw [Nat.add_zero] at a0
   have bX : Below wr.heap.size wr (wr.alloc (.cells #[S x.name,I x.cat,I x.prio, .slice s3.a s3.n s3.c, .slice s4.a s4.n s4.c] 88)) := qa0 wr _
   have bW : Below w.heap.size w (wr.alloc (.cells #[S x.name,I x.cat,I x.prio, .slice s3.a s3.n s3.c, .slice s4.a s4.n s4.c] 88)) := HJ.out.1.trans (bX.mono HJ.out.1.size)
   have hXX := heap_alloc_new wr (.cells #[S x.name,I x.cat,I x.prio, .slice s3.a s3.n s3.c, .slice s4.a s4.n s4.c] 88)
   have cx := HFF.out _ bW x (List.mem_of_getElem? hx) s3 (r3.below bX (fun _ _ _ _ h => h)) s4 (r4.below bX (fun _ _ _ _ h => h))
   have HTk : Hid ((l.take (j + 1)).map mk = (l.take j).map mk ++ [mk x]) := qcf mk hx
   have HJ0 : Hid (∃ xs,(wr.alloc (.cells #[S x.name,I x.cat,I x.prio, .slice s3.a s3.n s3.c, .slice s4.a s4.n s4.c] 88)).ownsRow w.heap.size 72 3 (.slice a j c) j xs ∧ RwX 3 (isO9 (wr.alloc (.cells #[S x.name,I x.cat,I x.prio, .slice s3.a s3.n s3.c, .slice s4.a s4.n s4.c] 88)) w.heap.size) ((l.take j).map mk) xs) := by
    obtain ⟨_,xs,h1,h2⟩ := HJ.out
    exact ⟨xs,qa6 h1 bX,h2.mono (fun x i u h => qdi h bX)⟩
   rw [e5]
   clear hx e5 hr5 hg5 HJ q0 q1 q2
   go_upto_region 5 with fail
   have HXS : Hid (wr.heap.size < (wr.alloc (.cells #[S x.name,I x.cat,I x.prio, .slice s3.a s3.n s3.c, .slice s4.a s4.n s4.c] 88)).heap.size) := by show _ < _; simp
   generalize wr.heap.size = X at *
   generalize (wr.alloc (.cells #[S x.name,I x.cat,I x.prio, .slice s3.a s3.n s3.c, .slice s4.a s4.n s4.c] 88)) = W0 at *
   have hi97 : (Tryz.prog.info? 88).map (·.size) = some (#[S x.name,I x.cat,I x.prio, .slice s3.a s3.n s3.c, .slice s4.a s4.n s4.c] : Array Value).size := by kernel_rfl
   have HBW : Hid (Below w.heap.size w W0) := bW
   clear bW bX
   go_wp2_with (first
    | (with_reducible refine qa8 ?_; refine wpList_load_row rfl 88 _ rfl X rfl 88 _ (0,0) _ hXX Tryz.underlying88 rfl hi97 ?_))
   refine cx.mono ?_
   clear cx
   rintro e7 w7 ⟨so,rfl,i7,hb7⟩
   have B7 : Below w.heap.size w w7 := HBW.out.trans (hb7.mono HBW.out.size)
   obtain ⟨xs,h1,h2⟩ := HJ0.out
   have o7 := qa6 h1 hb7
   have HX7 : Hid (RwX 3 (isO9 w7 w.heap.size) ((l.take j).map mk) xs) := h2.mono (fun x i u h => qdi h hb7)
   clear h1 h2 hb7 HJ0
   have s7 := B7.size
   have hjl : j ≤ 1048576 := by omega
   have HI7 : Hid (qa9 w7 w.heap.size (mk x).own (.slice so.a so.n so.c)) := i7
   clear i7
   have hnew := qb8 w7 #[I (mk x).cat,I (mk x).prio, .slice so.a so.n so.c] 72
   have hone : ∀ u ∈ (#[I (mk x).cat,I (mk x).prio, .slice so.a so.n so.c] : Array Value).toList,u.oneCell' = true := by intro u hu; simp at hu; rcases hu with e | e | e <;> (subst e; rfl)
   go_wp2_with (first
    | (at_builtin; refine wpList_append_own _ rfl (.tmp 17) (.tmp 21) 27 rfl w.heap.size 72 im _ 3 40 Tryz.underlying27 him hm0 hm1 hm2 rfl (by decide) _ _ _ rfl (o7.alloc _) ⟨w7.heap.size,0,none⟩ 1 1 (#[I (mk x).cat,I (mk x).prio, .slice so.a so.n so.c] : Array Value).toList rfl rfl hnew hone (by unfold maxLen; omega) (by omega) (by simp; omega) ?_))
   intro v8 w8 o8 g8 _
   obtain ⟨a8,k8,rfl⟩ := qbc o8
   have b8 : Below w7.heap.size w7 (w7.alloc (.cells #[I (mk x).cat,I (mk x).prio, .slice so.a so.n so.c] 72)) := qa0 w7 _
   have H9 : Hid (Below w.heap.size w w8 ∧ ∃ xs,w8.ownsRow w.heap.size 72 3 (.slice a8 (j + 1) k8) (j + 1) xs ∧ RwX 3 (isO9 w8 w.heap.size) ((l.take (j + 1)).map mk) xs) := by
    refine ⟨(B7.alloc B7.size _).grown g8 (by simp; omega) (fun k e => (o7.lt k e).1),_,o8, ?_⟩
    rw [HTk.out]
    refine RwX.snoc ((HX7.out.mono (fun x i u h => qdi h b8)).mono (fun x i u h => qo9 h (o7.alloc _) g8)) _ _ rfl (fun i hi => ?_)
    rcases (by omega : i = 0 ∨ i = 1 ∨ i = 2) with e | e | e
    ·subst e; exact ⟨_,rfl,rfl⟩
    ·subst e; exact ⟨_,rfl,rfl⟩
    ·subst e; exact ⟨_,rfl,(qd4 (qbi HI7.out b8) (o7.alloc _) g8 (by decide))⟩
   clear o8 g8 o7 B7 hnew hone b8
   go_wp2
   go_roundw
   case rel => exact ⟨j + 1,a8,k8,by omega,by go_num,rfl,H9.out⟩
   case measure => simp [intOf]; omega
  ·obtain rfl : j = s.n := by omega
   have hlt' : ¬ ((s.n : Nat) : Int) < (s.n : Nat) := by omega
   have HE : Hid (Below w.heap.size w wr ∧ ∃ xs,wr.ownsRow w.heap.size 72 3 (.slice a s.n c) s.n xs ∧ RwX 3 (isO9 wr w.heap.size) (l.map mk) xs) := by
    have := HJ.out
    rwa [List.take_of_length_le (by rw [HS.out]; exact Nat.le_refl _)] at this
   clear HJ
   go_wp2
   go_ret
   obtain ⟨h1,xs,h2,h3⟩ := HE.out
   rw [← HS.out]
   first | exact ⟨⟨a,c,xs,rfl,h2,h3⟩,h1⟩ | exact ⟨⟨a,c,rfl,xs,h2,h3⟩,h1⟩
theorem qey : (Tryz.prog.info? 99).map (fun i => (i.zero,i.size,i.bytes)) = some (some (.agg #[I 0,I 0,I 0, .int .u64 0,I 0,I 0,I 0, .int .u32 0]),8,64) := by kernel_rfl
theorem qdr (w : World) (s : Sl) (l : List Ms) (hl : RowsAt w 10 (msP) s l) (hll : l.length ≤ 1048576) (f : Nat) (caps : Array Value) (eg : ∀ args W,(callFunc f args).run Tryz.prog W = .ok (.enter f args) W) (mk : Ms → MsR)
  (hf : ∀ W,Below w.heap.size w W → ∀ x ∈ l,Calls Tryz.prog f (#[.agg #[S x.name,I x.kind,I x.len,I x.frm, .int .u64 (x.init : Int),I x.queue,I x.ac.kind,I x.ac.task,I x.ac.event,S x.ac.name]] ++ caps) W fun e w' => e = .returned (.agg #[I (mk x).kind,I (mk x).len,I (mk x).frm, .int .u64 ((mk x).init : Int),I (mk x).queue,I (mk x).ac.kind,I (mk x).ac.task, .int .u32 ((mk x).ac.mask : Int)]) ∧ Below W.heap.size W w') :
  Calls Tryz.prog 158 #[.slice s.a s.n s.c, .func (.func f) #[] caps] w fun e w' => (∃ a c xs,e = .returned (.slice a l.length c) ∧ w'.ownsRow w.heap.size 99 8 (.slice a l.length c) l.length xs ∧ RwX 8 (msrP) (l.map mk) xs) ∧ Below w.heap.size w w' := by
 obtain ⟨im,him,hm0,hm1,hm2⟩ := info_parts qey
 have HS : Hid (s.n = l.length) := hl.n
 have hsn : s.n ≤ 1048576 := by have := hl.n; omega
 have hsc : s.n ≤ s.c := hl.c
 have hsm : s.c ≤ maxLen := hl.m
 unfold maxLen at hsm
 have HH : Hid (∀ W,Below w.heap.size w W → RowsAt W 10 (msP) s l) := fun W hW => hl.below hW (fun _ _ _ _ h => h)
 have HFF : Hid (∀ W,Below w.heap.size w W → ∀ x ∈ l,Calls Tryz.prog f (#[.agg #[S x.name,I x.kind,I x.len,I x.frm, .int .u64 (x.init : Int),I x.queue,I x.ac.kind,I x.ac.task,I x.ac.event,S x.ac.name]] ++ caps) W fun e w' => e = .returned (.agg #[I (mk x).kind,I (mk x).len,I (mk x).frm, .int .u64 ((mk x).init : Int),I (mk x).queue,I (mk x).ac.kind,I (mk x).ac.task, .int .u32 ((mk x).ac.mask : Int)]) ∧ Below W.heap.size W w') := hf
 clear hl hf hll
 obtain ⟨w2,hmk,hO2,hg2⟩ := run_make_own (P := Tryz.prog) w w.heap.size 28 99 im _ 8 Tryz.underlying28 him hm0 hm1 .i64 .i64 s.n (by rw [hm2]; omega) (by unfold maxLen; omega) (Nat.le_refl _)
 have HO2 : Hid (w2.ownsRow w.heap.size 99 8 (.slice (some ⟨w.heap.size,0,none⟩) 0 s.n) 0 [] ∧ Below w.heap.size w w2) := ⟨hO2,qal hg2⟩
 clear hO2 hg2
 go_enter Tryz.func158,Tryz.ntmps158
 go_wp2
 clear hmk
 go_loopw [5,7,13] (fun ov _ iv wr => ∃ (j : Nat) (a : Option Addr) (c : Nat),j ≤ s.n ∧ iv = .int .i64 j ∧ ov = .slice a j c ∧ Hid (Below w.heap.size w wr ∧ ∃ xs,wr.ownsRow w.heap.size 99 8 (.slice a j c) j xs ∧ RwX 8 (msrP) ((l.take j).map mk) xs)) (fun _ _ iv _ => s.n - (intOf iv).toNat)
 case atStart => exact ⟨0,_,_,by omega,rfl,rfl,HO2.out.2, [],HO2.out.1,RwX.nil _ _⟩
 case round =>
  obtain ⟨j,a,c,hj,rfl,rfl,HJ⟩ := hrel
  by_cases hlt : j < s.n
  ·have hlt' : (j : Int) < s.n := by omega
   obtain ⟨x,hx⟩ : ∃ x,l[j]? = some x := ⟨_,List.getElem?_eq_getElem (by rw [← HS.out]; exact hlt)⟩
   obtain ⟨g5,o5,e5,hg5,hr5⟩ := (HH.out _ HJ.out.1).row j x hx
   obtain ⟨u0,a0,q0⟩ := hr5 0 (by omega)
   obtain ⟨u1,a1,q1⟩ := hr5 1 (by omega)
   obtain ⟨u2,a2,q2⟩ := hr5 2 (by omega)
   obtain ⟨u3,a3,q3⟩ := hr5 3 (by omega)
   obtain ⟨u4,a4,q4⟩ := hr5 4 (by omega)
   obtain ⟨u5,a5,q5⟩ := hr5 5 (by omega)
   obtain ⟨u6,a6,q6⟩ := hr5 6 (by omega)
   obtain ⟨u7,a7,q7⟩ := hr5 7 (by omega)
   obtain ⟨u8,a8,q8⟩ := hr5 8 (by omega)
   obtain ⟨u9,a9,q9⟩ := hr5 9 (by omega)
   have f0 : u0 = S x.name := q0
   have f1 : u1 = I x.kind := q1
   have f2 : u2 = I x.len := q2
   have f3 : u3 = I x.frm := q3
   have f4 : u4 = .int .u64 (x.init : Int) := q4
   have f5 : u5 = I x.queue := q5
   have f6 : u6 = I x.ac.kind := q6
   have f7 : u7 = I x.ac.task := q7
   have f8 : u8 = I x.ac.event := q8
   have f9 : u9 = S x.ac.name := q9
   subst f0 f1 f2 f3 f4 f5 f6 f7 f8 f9
   rw [Nat.add_zero] at a0
   have bX : Below wr.heap.size wr (wr.alloc (.cells #[S x.name,I x.kind,I x.len,I x.frm, .int .u64 (x.init : Int),I x.queue,I x.ac.kind,I x.ac.task,I x.ac.event,S x.ac.name] 114)) := qa0 wr _
   have bW : Below w.heap.size w (wr.alloc (.cells #[S x.name,I x.kind,I x.len,I x.frm, .int .u64 (x.init : Int),I x.queue,I x.ac.kind,I x.ac.task,I x.ac.event,S x.ac.name] 114)) := HJ.out.1.trans (bX.mono HJ.out.1.size)
   have hXX := heap_alloc_new wr (.cells #[S x.name,I x.kind,I x.len,I x.frm, .int .u64 (x.init : Int),I x.queue,I x.ac.kind,I x.ac.task,I x.ac.event,S x.ac.name] 114)
   have cx := HFF.out _ bW x (List.mem_of_getElem? hx)
   have HTk : Hid ((l.take (j + 1)).map mk = (l.take j).map mk ++ [mk x]) := qcf mk hx
   have HJ0 : Hid (∃ xs,(wr.alloc (.cells #[S x.name,I x.kind,I x.len,I x.frm, .int .u64 (x.init : Int),I x.queue,I x.ac.kind,I x.ac.task,I x.ac.event,S x.ac.name] 114)).ownsRow w.heap.size 99 8 (.slice a j c) j xs ∧ RwX 8 (msrP) ((l.take j).map mk) xs) := by
    obtain ⟨_,xs,h1,h2⟩ := HJ.out
    exact ⟨xs,qa6 h1 bX,h2⟩
   rw [e5]
   clear hx e5 hr5 hg5 HJ q0 q1 q2 q3 q4 q5 q6 q7 q8 q9
   go_upto_region 5 with fail
   have HXS : Hid (wr.heap.size < (wr.alloc (.cells #[S x.name,I x.kind,I x.len,I x.frm, .int .u64 (x.init : Int),I x.queue,I x.ac.kind,I x.ac.task,I x.ac.event,S x.ac.name] 114)).heap.size) := by show _ < _; simp
   generalize wr.heap.size = X at *
   generalize (wr.alloc (.cells #[S x.name,I x.kind,I x.len,I x.frm, .int .u64 (x.init : Int),I x.queue,I x.ac.kind,I x.ac.task,I x.ac.event,S x.ac.name] 114)) = W0 at *
   have hi97 : (Tryz.prog.info? 114).map (·.size) = some (#[S x.name,I x.kind,I x.len,I x.frm, .int .u64 (x.init : Int),I x.queue,I x.ac.kind,I x.ac.task,I x.ac.event,S x.ac.name] : Array Value).size := by kernel_rfl
   have HBW : Hid (Below w.heap.size w W0) := bW
   clear bW bX
   go_wp2_with (first
    | (with_reducible refine qa8 ?_; refine wpList_load_row rfl 114 _ rfl X rfl 114 _ (0,0) _ hXX Tryz.underlying114 rfl hi97 ?_))
   refine cx.mono ?_
   clear cx
   rintro e7 w7 ⟨rfl,hb7⟩
   have B7 : Below w.heap.size w w7 := HBW.out.trans (hb7.mono HBW.out.size)
   obtain ⟨xs,h1,h2⟩ := HJ0.out
   have o7 := qa6 h1 hb7
   have HX7 : Hid (RwX 8 (msrP) ((l.take j).map mk) xs) := h2
   clear h1 h2 hb7 HJ0
   have s7 := B7.size
   have hjl : j ≤ 1048576 := by omega
   have hnew := qb8 w7 #[I (mk x).kind,I (mk x).len,I (mk x).frm, .int .u64 ((mk x).init : Int),I (mk x).queue,I (mk x).ac.kind,I (mk x).ac.task, .int .u32 ((mk x).ac.mask : Int)] 99
   have hone : ∀ u ∈ (#[I (mk x).kind,I (mk x).len,I (mk x).frm, .int .u64 ((mk x).init : Int),I (mk x).queue,I (mk x).ac.kind,I (mk x).ac.task, .int .u32 ((mk x).ac.mask : Int)] : Array Value).toList,u.oneCell' = true := by intro u hu; simp at hu; rcases hu with e | e | e | e | e | e | e | e <;> (subst e; rfl)
   go_wp2_with (first
    | (at_builtin; refine wpList_append_own _ rfl (.tmp 17) (.tmp 21) 28 rfl w.heap.size 99 im _ 8 64 Tryz.underlying28 him hm0 hm1 hm2 rfl (by decide) _ _ _ rfl (o7.alloc _) ⟨w7.heap.size,0,none⟩ 1 1 (#[I (mk x).kind,I (mk x).len,I (mk x).frm, .int .u64 ((mk x).init : Int),I (mk x).queue,I (mk x).ac.kind,I (mk x).ac.task, .int .u32 ((mk x).ac.mask : Int)] : Array Value).toList rfl rfl hnew hone (by unfold maxLen; omega) (by omega) (by simp; omega) ?_))
   intro v8 w8 o8 g8 _
   obtain ⟨a8,k8,rfl⟩ := qbc o8
   have b8 : Below w7.heap.size w7 (w7.alloc (.cells #[I (mk x).kind,I (mk x).len,I (mk x).frm, .int .u64 ((mk x).init : Int),I (mk x).queue,I (mk x).ac.kind,I (mk x).ac.task, .int .u32 ((mk x).ac.mask : Int)] 99)) := qa0 w7 _
   have H9 : Hid (Below w.heap.size w w8 ∧ ∃ xs,w8.ownsRow w.heap.size 99 8 (.slice a8 (j + 1) k8) (j + 1) xs ∧ RwX 8 (msrP) ((l.take (j + 1)).map mk) xs) := by
    refine ⟨(B7.alloc B7.size _).grown g8 (by simp; omega) (fun k e => (o7.lt k e).1),_,o8, ?_⟩
    rw [HTk.out]
    refine RwX.snoc (HX7.out) _ _ rfl (fun i hi => ?_)
    rcases (by omega : i = 0 ∨ i = 1 ∨ i = 2 ∨ i = 3 ∨ i = 4 ∨ i = 5 ∨ i = 6 ∨ i = 7) with e | e | e | e | e | e | e | e
    ·subst e; exact ⟨_,rfl,rfl⟩
    ·subst e; exact ⟨_,rfl,rfl⟩
    ·subst e; exact ⟨_,rfl,rfl⟩
    ·subst e; exact ⟨_,rfl,rfl⟩
    ·subst e; exact ⟨_,rfl,rfl⟩
    ·subst e; exact ⟨_,rfl,rfl⟩
    ·subst e; exact ⟨_,rfl,rfl⟩
    ·subst e; exact ⟨_,rfl,rfl⟩
   clear o8 g8 o7 B7 hnew hone b8
   go_wp2
   go_roundw
   case rel => exact ⟨j + 1,a8,k8,by omega,by go_num,rfl,H9.out⟩
   case measure => simp [intOf]; omega
  ·obtain rfl : j = s.n := by omega
   have hlt' : ¬ ((s.n : Nat) : Int) < (s.n : Nat) := by omega
   have HE : Hid (Below w.heap.size w wr ∧ ∃ xs,wr.ownsRow w.heap.size 99 8 (.slice a s.n c) s.n xs ∧ RwX 8 (msrP) (l.map mk) xs) := by
    have := HJ.out
    rwa [List.take_of_length_le (by rw [HS.out]; exact Nat.le_refl _)] at this
   clear HJ
   go_wp2
   go_ret
   obtain ⟨h1,xs,h2,h3⟩ := HE.out
   rw [← HS.out]
   first | exact ⟨⟨a,c,xs,rfl,h2,h3⟩,h1⟩ | exact ⟨⟨a,c,rfl,xs,h2,h3⟩,h1⟩
theorem qgq : (Tryz.prog.info? 52).map (fun i => (i.zero,i.size,i.bytes)) = some (some (.agg #[I 0,I 0]),2,16) := by kernel_rfl
theorem qgr (w : World) (s : Sl) (l : List Int) (hl : RowsAt w 1 (intP) s l) (hll : l.length ≤ 1048576) (f : Nat) (caps : Array Value) (eg : ∀ args W,(callFunc f args).run Tryz.prog W = .ok (.enter f args) W) (mk : Int → RgR)
  (hf : ∀ W,Below w.heap.size w W → ∀ x ∈ l,Calls Tryz.prog f (#[I x] ++ caps) W fun e w' => e = .returned (.agg #[I (mk x).prio,I (mk x).cap]) ∧ Below W.heap.size W w') :
  Calls Tryz.prog 93 #[.slice s.a s.n s.c, .func (.func f) #[] caps] w fun e w' => (∃ a c xs,e = .returned (.slice a l.length c) ∧ w'.ownsRow w.heap.size 52 2 (.slice a l.length c) l.length xs ∧ RwX 2 (rgrP) (l.map mk) xs) ∧ Below w.heap.size w w' := by
 obtain ⟨im,him,hm0,hm1,hm2⟩ := info_parts qgq
 have HS : Hid (s.n = l.length) := hl.n
 have hsn : s.n ≤ 1048576 := by have := hl.n; omega
 have hsc : s.n ≤ s.c := hl.c
 have hsm : s.c ≤ maxLen := hl.m
 unfold maxLen at hsm
 have HH : Hid (∀ W,Below w.heap.size w W → RowsAt W 1 (intP) s l) := fun W hW => hl.below hW (fun _ _ _ _ h => h)
 have HFF : Hid (∀ W,Below w.heap.size w W → ∀ x ∈ l,Calls Tryz.prog f (#[I x] ++ caps) W fun e w' => e = .returned (.agg #[I (mk x).prio,I (mk x).cap]) ∧ Below W.heap.size W w') := hf
 clear hl hf hll
 obtain ⟨w2,hmk,hO2,hg2⟩ := run_make_own (P := Tryz.prog) w w.heap.size 23 52 im _ 2 Tryz.underlying23 him hm0 hm1 .i64 .i64 s.n (by rw [hm2]; omega) (by unfold maxLen; omega) (Nat.le_refl _)
 have HO2 : Hid (w2.ownsRow w.heap.size 52 2 (.slice (some ⟨w.heap.size,0,none⟩) 0 s.n) 0 [] ∧ Below w.heap.size w w2) := ⟨hO2,qal hg2⟩
 clear hO2 hg2
 go_enter Tryz.func93,Tryz.ntmps93
 go_wp2
 clear hmk
 go_loopw [5,7,13] (fun ov _ iv wr => ∃ (j : Nat) (a : Option Addr) (c : Nat),j ≤ s.n ∧ iv = .int .i64 j ∧ ov = .slice a j c ∧ Hid (Below w.heap.size w wr ∧ ∃ xs,wr.ownsRow w.heap.size 52 2 (.slice a j c) j xs ∧ RwX 2 (rgrP) ((l.take j).map mk) xs)) (fun _ _ iv _ => s.n - (intOf iv).toNat)
 case atStart => exact ⟨0,_,_,by omega,rfl,rfl,HO2.out.2, [],HO2.out.1,RwX.nil _ _⟩
 case round =>
  obtain ⟨j,a,c,hj,rfl,rfl,HJ⟩ := hrel
  by_cases hlt : j < s.n
  ·have hlt' : (j : Int) < s.n := by omega
   obtain ⟨x,hx⟩ : ∃ x,l[j]? = some x := ⟨_,List.getElem?_eq_getElem (by rw [← HS.out]; exact hlt)⟩
   obtain ⟨g5,o5,e5,hg5,hr5⟩ := (HH.out _ HJ.out.1).row j x hx
   obtain ⟨u0,a0,q0⟩ := hr5 0 (by omega)
   have f0 : u0 = I x := q0
   subst f0
   rw [Nat.add_zero] at a0
   rw [Nat.mul_one] at a0
   have cx := HFF.out _ HJ.out.1 x (List.mem_of_getElem? hx)
   have HTk : Hid ((l.take (j + 1)).map mk = (l.take j).map mk ++ [mk x]) := qcf mk hx
   have HJ0 : Hid (∃ xs,wr.ownsRow w.heap.size 52 2 (.slice a j c) j xs ∧ RwX 2 (rgrP) ((l.take j).map mk) xs) := HJ.out.2
   have HBW : Hid (Below w.heap.size w wr) := HJ.out.1
   rw [e5]
   clear hx e5 hr5 hg5 HJ q0
   go_wp2_with (first | fail)
   refine cx.mono ?_
   clear cx
   rintro e7 w7 ⟨rfl,hb7⟩
   have B7 : Below w.heap.size w w7 := HBW.out.trans (hb7.mono HBW.out.size)
   obtain ⟨xs,h1,h2⟩ := HJ0.out
   have o7 := qa6 h1 hb7
   have HX7 : Hid (RwX 2 (rgrP) ((l.take j).map mk) xs) := h2
   clear h1 h2 hb7 HJ0
   have s7 := B7.size
   have hjl : j ≤ 1048576 := by omega
   have hnew := qb8 w7 #[I (mk x).prio,I (mk x).cap] 52
   have hone : ∀ u ∈ (#[I (mk x).prio,I (mk x).cap] : Array Value).toList,u.oneCell' = true := by intro u hu; simp at hu; rcases hu with e | e <;> (subst e; rfl)
   go_wp2_with (first
    | (at_builtin; refine wpList_append_own _ rfl (.tmp 17) (.tmp 21) 23 rfl w.heap.size 52 im _ 2 16 Tryz.underlying23 him hm0 hm1 hm2 rfl (by decide) _ _ _ rfl (o7.alloc _) ⟨w7.heap.size,0,none⟩ 1 1 (#[I (mk x).prio,I (mk x).cap] : Array Value).toList rfl rfl hnew hone (by unfold maxLen; omega) (by omega) (by simp; omega) ?_))
   intro v8 w8 o8 g8 _
   obtain ⟨a8,k8,rfl⟩ := qbc o8
   have b8 : Below w7.heap.size w7 (w7.alloc (.cells #[I (mk x).prio,I (mk x).cap] 52)) := qa0 w7 _
   have H9 : Hid (Below w.heap.size w w8 ∧ ∃ xs,w8.ownsRow w.heap.size 52 2 (.slice a8 (j + 1) k8) (j + 1) xs ∧ RwX 2 (rgrP) ((l.take (j + 1)).map mk) xs) := by
    refine ⟨(B7.alloc B7.size _).grown g8 (by simp; omega) (fun k e => (o7.lt k e).1),_,o8, ?_⟩
    rw [HTk.out]
    refine RwX.snoc (HX7.out) _ _ rfl (fun i hi => ?_)
    rcases (by omega : i = 0 ∨ i = 1) with e | e
    ·subst e; exact ⟨_,rfl,rfl⟩
    ·subst e; exact ⟨_,rfl,rfl⟩
   clear o8 g8 o7 B7 hnew hone b8
   go_wp2
   go_roundw
   case rel => exact ⟨j + 1,a8,k8,by omega,by go_num,rfl,H9.out⟩
   case measure => simp [intOf]; omega
  ·obtain rfl : j = s.n := by omega
   have hlt' : ¬ ((s.n : Nat) : Int) < (s.n : Nat) := by omega
   have HE : Hid (Below w.heap.size w wr ∧ ∃ xs,wr.ownsRow w.heap.size 52 2 (.slice a s.n c) s.n xs ∧ RwX 2 (rgrP) (l.map mk) xs) := by
    have := HJ.out
    rwa [List.take_of_length_le (by rw [HS.out]; exact Nat.le_refl _)] at this
   clear HJ
   go_wp2
   go_ret
   obtain ⟨h1,xs,h2,h3⟩ := HE.out
   rw [← HS.out]
   first | exact ⟨⟨a,c,xs,rfl,h2,h3⟩,h1⟩ | exact ⟨⟨a,c,rfl,xs,h2,h3⟩,h1⟩
theorem qb2 {w : World} {B B' E k n : Nat} {u : Value} {xs : List Value} (h : w.ownsRow B' E k u n xs) (hB : B ≤ B') : w.ownsRow B E k u n xs := by
 obtain ⟨hl,h0 | ⟨g,cap,cur,hv,hb1,rr⟩⟩ := h
 ·exact ⟨hl, .inl h0⟩
 ·exact ⟨hl, .inr ⟨g,cap,cur,hv,Nat.le_trans hB hb1,rr⟩⟩
theorem qby {w : World} {B B' : Nat} {l : List Int} {u : Value} (h : qa9 w B' l u) (hB : B ≤ B') : qa9 w B l u := qb2 h hB
theorem qfi {w : World} {B B' : Nat} {x : TkR} {u : Value} (hB : B ≤ B') : ∀ {i : Nat},tkO9 w B' x i u → tkO9 w B x i u
 | 0,h => h
 | 1,h => h
 | 2,h => h
 | 3,h => h
 | 4,h => h
 | 5,h => h
 | 6,h => qby h hB
 | _ + 7,h => h
theorem qip {w : World} {B B' : Nat} {x : IsR} {u : Value} (hB : B ≤ B') : ∀ {i : Nat},isO9 w B' x i u → isO9 w B x i u
 | 0,h => h
 | 1,h => h
 | _ + 2,h => qby h hB
def RO {β : Type} (B E k : Nat) (PO : World → β → Nat → Value → Prop) (W : World) (l : List β) (u : Value) : Prop := ∃ xs,W.ownsRow B E k u l.length xs ∧ RwX k (PO W) l xs
theorem RO.below {β : Type} {B E k : Nat} {PO : World → β → Nat → Value → Prop} {W W' : World} {l : List β} {u : Value} (h : RO B E k PO W l u) (hP : ∀ x i u,PO W x i u → PO W' x i u) (hb : Below W.heap.size W W') : RO B E k PO W' l u := by
 obtain ⟨xs,h1,h2⟩ := h
 exact ⟨xs,qa6 h1 hb,h2.mono hP⟩
theorem RO.store {β : Type} {B E k g : Nat} {PO : World → β → Nat → Value → Prop} {W W' : World} {l : List β} {u : Value} {cs : Array Value} {T : TypeId} {fr : Nat × Nat} (h : RO B E k PO W l u) (hP : ∀ x i u,PO W x i u → PO W' x i u) (hg : W.heap[g]? = some (.cells cs T fr)) (hT : E ≠ T) (hb : W.grownBy W' (some g)) : RO B E k PO W' l u := by
 obtain ⟨xs,h1,h2⟩ := h
 refine ⟨xs,h1.kept hb ?_,h2.mono hP⟩
 rcases h1.2 with ⟨h0,_⟩ | ⟨b,cap,cur,hv,_,hh,_⟩
 ·rw [h0]; exact .inl rfl
 ·right
  intro e
  rw [hv] at e
  have e3 : b = g := Option.some.inj e
  rw [e3,hg] at hh
  injection hh with hh
  injection hh with _ e4
  exact hT e4.symm
theorem RO.rows {β : Type} {B E k : Nat} {PO : World → β → Nat → Value → Prop} {P : β → Nat → Value → Prop} {W : World} {l : List β} {a : Option Addr} {c : Nat} (h : RO B E k PO W l (.slice a l.length c)) (hP : ∀ x i u,PO W x i u → P x i u) : RowsAt W k P ⟨a,l.length,c⟩ l := by
 obtain ⟨xs,h1,h2⟩ := h
 exact RwX.rows (s := ⟨a,l.length,c⟩) h1 (h2.mono hP)
abbrev RT (B : Nat) := RO B 56 8 (fun W => tkO9 W B)
abbrev RG (B : Nat) := RO B 52 2 (fun _ => rgrP)
abbrev RR (B : Nat) := RO B 60 2 (fun _ => rsrP)
abbrev RK (B : Nat) := RO B 91 3 (fun _ => ctrP)
abbrev RA (B : Nat) := RO B 95 7 (fun _ => alrP)
abbrev RI (B : Nat) := RO B 72 3 (fun W => isO9 W B)
abbrev RM (B : Nat) := RO B 99 8 (fun _ => msrP)
structure Six (B : Nat) (W : World) (ts : List TkR) (rs : List RsR) (ks : List CtR) (als : List AlR) (is : List IsR) (ms : List MsR) (ut ur uk ua ui um : Value) : Prop where
 t : RT B W ts ut
 r : RR B W rs ur
 k : RK B W ks uk
 a : RA B W als ua
 i : RI B W is ui
 m : RM B W ms um
section
variable {B : Nat} {W W' : World}
theorem RT.below {l : List TkR} {u : Value} (h : RT B W l u) (hb : Below W.heap.size W W') : RT B W' l u := RO.below h (fun _ _ _ h => qdh h hb) hb
theorem RR.below {l : List RsR} {u : Value} (h : RR B W l u) (hb : Below W.heap.size W W') : RR B W' l u := RO.below h (fun _ _ _ h => h) hb
theorem RK.below {l : List CtR} {u : Value} (h : RK B W l u) (hb : Below W.heap.size W W') : RK B W' l u := RO.below h (fun _ _ _ h => h) hb
theorem RA.below {l : List AlR} {u : Value} (h : RA B W l u) (hb : Below W.heap.size W W') : RA B W' l u := RO.below h (fun _ _ _ h => h) hb
theorem RI.below {l : List IsR} {u : Value} (h : RI B W l u) (hb : Below W.heap.size W W') : RI B W' l u := RO.below h (fun _ _ _ h => qdi h hb) hb
theorem RM.below {l : List MsR} {u : Value} (h : RM B W l u) (hb : Below W.heap.size W W') : RM B W' l u := RO.below h (fun _ _ _ h => h) hb
theorem RG.below {l : List RgR} {u : Value} (h : RG B W l u) (hb : Below W.heap.size W W') : RG B W' l u := RO.below h (fun _ _ _ h => h) hb
variable {ts : List TkR} {rs : List RsR} {ks : List CtR} {als : List AlR} {is : List IsR} {ms : List MsR} {ut ur uk ua ui um : Value}
theorem Six.below (h : Six B W ts rs ks als is ms ut ur uk ua ui um) (hb : Below W.heap.size W W') : Six B W' ts rs ks als is ms ut ur uk ua ui um :=
 ⟨RT.below h.t hb,RR.below h.r hb,RK.below h.k hb,RA.below h.a hb,RI.below h.i hb,RM.below h.m hb⟩
theorem qoe {base g : Nat} {x : TkR} {u : Value} {cs : Array Value} {fr : Nat × Nat} (hg : W.heap[g]? = some (.cells cs 30 fr)) (hb : W.grownBy W' (some g)) : ∀ {i : Nat},tkO9 W base x i u → tkO9 W' base x i u
 | 0,h => h
 | 1,h => h
 | 2,h => h
 | 3,h => h
 | 4,h => h
 | 5,h => h
 | 6,h => qcg h hg (by decide) hb
 | _ + 7,h => h
theorem qof {base g : Nat} {x : IsR} {u : Value} {cs : Array Value} {fr : Nat × Nat} (hg : W.heap[g]? = some (.cells cs 30 fr)) (hb : W.grownBy W' (some g)) : ∀ {i : Nat},isO9 W base x i u → isO9 W' base x i u
 | 0,h => h
 | 1,h => h
 | _ + 2,h => qcg h hg (by decide) hb
theorem Six.store {g : Nat} {cs : Array Value} {fr : Nat × Nat} (h : Six B W ts rs ks als is ms ut ur uk ua ui um) (hg : W.heap[g]? = some (.cells cs 30 fr)) (hb : W.grownBy W' (some g)) : Six B W' ts rs ks als is ms ut ur uk ua ui um :=
 ⟨RO.store h.t (fun _ _ _ h => qoe hg hb h) hg (by decide) hb,RO.store h.r (fun _ _ _ h => h) hg (by decide) hb,RO.store h.k (fun _ _ _ h => h) hg (by decide) hb,RO.store h.a (fun _ _ _ h => h) hg (by decide) hb,RO.store h.i (fun _ _ _ h => qof hg hb h) hg (by decide) hb,RO.store h.m (fun _ _ _ h => h) hg (by decide) hb⟩
theorem RG.store {g : Nat} {cs : Array Value} {fr : Nat × Nat} {l : List RgR} {u : Value} (h : RG B W l u) (hg : W.heap[g]? = some (.cells cs 30 fr)) (hb : W.grownBy W' (some g)) : RG B W' l u := RO.store h (fun _ _ _ h => h) hg (by decide) hb
end
theorem qvk : (Tryz.prog.info? 60).map (fun i => (i.zero,i.size,i.bytes)) = some (some (.agg #[.bool false,I 0]),2,16) := by kernel_rfl
def trow (x : Tk) : TkR := ⟨x.prio,0,x.full,x.act,0, -1, [],0⟩
end Go.Proofs.YtmidaeljeoifdaaGreatDoor
namespace Go.Proofs.YtmidaeljeoifdaaGreatDoor
open Go.Maps Go.RowKit
set_option linter.unusedSimpArgs false
set_option linter.unusedVariables false
set_option maxHeartbeats 16000000
set_option maxRecDepth 100000
theorem qmw : ∀ (n : Nat) (f : Nat → Nat),(∀ k,k ≤ n → f k < n) → ∃ i j,i < j ∧ j ≤ n ∧ f i = f j
 | 0,f,h => absurd (h 0 (Nat.le_refl 0)) (Nat.not_lt_zero _)
 | n + 1,f,h => by
  by_cases hv : ∃ i,i ≤ n ∧ f i = f (n + 1)
  ·obtain ⟨i,hi,e⟩ := hv
   exact ⟨i,n + 1,by omega,Nat.le_refl _,e⟩
  ·have hne : ∀ i,i ≤ n → f i ≠ f (n + 1) := fun i hi e => hv ⟨i,hi,e⟩
   have hvl := h (n + 1) (Nat.le_refl _)
   obtain ⟨i,j,hij,hjn,e⟩ := qmw n (fun k => if f k = n then f (n + 1) else f k) (fun k hk => by
    have h1 := h k (by omega)
    have h2 := hne k hk
    split <;> omega)
   have h1 := hne i (by omega)
   have h2 := hne j hjn
   refine ⟨i,j,hij,by omega, ?_⟩
   split at e <;> split at e <;> omega
theorem qog {l : List Nat} {n : Nat} (hd : l.Nodup) (hl : ∀ x ∈ l,x < n) : l.length ≤ n := by
 by_cases h : l.length ≤ n
 ·exact h
 ·exfalso
  obtain ⟨i,j,hij,hjn,e⟩ := qmw n (fun k => l.getD k 0) (fun k hk => by
   have hk2 : k < l.length := by omega
   show l.getD k 0 < n
   rw [List.getD_eq_getElem?_getD,List.getElem?_eq_getElem hk2]
   exact hl _ (List.getElem_mem hk2))
  have hi2 : i < l.length := by omega
  have hj2 : j < l.length := by omega
  have e2 : l[i] = l[j] := by
   have e3 : l.getD i 0 = l.getD j 0 := e
   rw [List.getD_eq_getElem?_getD,List.getD_eq_getElem?_getD,List.getElem?_eq_getElem hi2,List.getElem?_eq_getElem hj2] at e3
   exact e3
  exact List.pairwise_iff_getElem.1 hd i j hi2 hj2 hij e2
theorem keyI : Keyed Tryz.prog 3 := int_keyed Tryz.underlying3
theorem qhf (w : World) : (zeroValue 3).run Tryz.prog w = .ok (.int .i64 0) w := by kernel_rfl
theorem qci {j : Nat} (h : j < 9223372036854775808) : (Lit.int .i64 (j : Int)).wf = true := WalkArith.wf_i64 (by omega)
theorem qdw {H : Type} {w : World} {P : Program} {k : TypeId} {R : Value → Option (DataW H × List MemPlace)} {b n : Nat} {D : DataW H} (h : w.ownsMap P k R b n D) : w.ownsMap P k R b (Maps.size D) D := by
 obtain ⟨es,clock,hb,F,hs,rfl⟩ := h
 refine ⟨es,clock,hb,F, ?_,rfl⟩
 rw [Maps.size_eq,length_sorted]
 simp
structure MapOf (w : World) (b n : Nat) (ks : List Nat) (f : Nat → Int) : Prop where
 nd : ks.Nodup
 lt : ∀ k ∈ ks,k < n
 ex : ∃ D : DataW Unit,w.ownsMap Tryz.prog 3 (plainElem Tryz.prog 3) b ks.length D ∧ Maps.size D = ks.length ∧ ∀ j : Nat,Maps.has D (.int .i64 j) = decide (j ∈ ks) ∧ D.atKey (.int .i64 j) (.lit (.int .i64 0)) = .lit (.int .i64 (if j ∈ ks then f j else 0))
theorem MapOf.made (w : World) (n : Nat) (f : Nat → Int) : MapOf (w.alloc (.map #[] 0)) w.heap.size n [] f :=
 ⟨List.nodup_nil,(fun k hk => by cases hk), .map [],World.ownsMap_made _ _ _ _,rfl,fun j => ⟨by simp [Maps.has],by simp [DataW.atKey]⟩⟩
theorem MapOf.block {w : World} {b n : Nat} {ks : List Nat} {f : Nat → Int} (h : MapOf w b n ks f) : b < w.heap.size := by
 obtain ⟨D,hD,_⟩ := h.ex
 exact hD.lt
theorem MapOf.kept {w w' : World} {b n : Nat} {ks : List Nat} {f : Nat → Int} {row : Option Nat} (h : MapOf w b n ks f) (hg : w.grownBy w' row) (hne : some b ≠ row) : MapOf w' b n ks f := by
 obtain ⟨D,hD,h2⟩ := h.ex
 exact ⟨h.nd,h.lt,D,hD.kept hg hne,h2⟩
theorem MapOf.below {w w' : World} {b n : Nat} {ks : List Nat} {f : Nat → Int} (h : MapOf w b n ks f) (hb : Below w.heap.size w w') : MapOf w' b n ks f := h.kept (qbf (r := none) hb) (by simp)
theorem MapOf.congr {w : World} {b n : Nat} {ks : List Nat} {f g : Nat → Int} (h : MapOf w b n ks f) (e : ∀ k ∈ ks,f k = g k) : MapOf w b n ks g := by
 obtain ⟨D,hD,hs,h2⟩ := h.ex
 refine ⟨h.nd,h.lt,D,hD,hs,fun j => ⟨(h2 j).1, ?_⟩⟩
 rw [(h2 j).2]
 by_cases hj : j ∈ ks
 ·rw [if_pos hj,if_pos hj,e j hj]
 ·rw [if_neg hj,if_neg hj]
def insK (ks : List Nat) (j : Nat) : List Nat := if j ∈ ks then ks else j :: ks
theorem mem_insK {ks : List Nat} {j i : Nat} : i ∈ insK ks j ↔ i = j ∨ i ∈ ks := by
 unfold insK
 by_cases h : j ∈ ks
 ·rw [if_pos h]
  constructor
  ·exact .inr
  ·rintro (rfl | h2)
   ·exact h
   ·exact h2
 ·rw [if_neg h,List.mem_cons]
def mapF (f : Nat → Int) (j : Nat) (e : Int) (i : Nat) : Int := if i = j then e else f i
theorem MapOf.len {w : World} {b n : Nat} {ks : List Nat} {f : Nat → Int} (h : MapOf w b n ks f) : ks.length ≤ n := qog h.nd h.lt
section
variable {w : World} {ops : Array Oper} {rest : List Oper} {o : Oper} {a : Act} {Q : Exit → Act → World → Prop}
theorem qch (hg : o.guard = none) (m x : Operand) (t : TypeId) (hop : o.op = Op.lookup t m x false) (ht : Tryz.prog.underlying t = some (.map 3 3)) (b n : Nat) (ks : List Nat) (f : Nat → Int)
  (hm : a.eval m = .map (some b)) (h : MapOf w b n ks f) (j : Nat) (hj : j < 9223372036854775808) (hx : a.eval x = .int .i64 (j : Int))
  (hK : ∀ e : Int,Hid (e = if j ∈ ks then f j else 0) → wpList Tryz.prog ops Q rest (a.put o.dst (.int .i64 e)) w) : wpList Tryz.prog ops Q (o :: rest) a w := by
 obtain ⟨D,hD,hs,h2⟩ := h.ex
 refine wpList_lookup_own_int w hg m x t hop 3 3 .i64 keyI ht Tryz.underlying3 (qhf w) b ks.length D hm hD _ (.int .i64 (j : Int)) hx (keyOf_int_mk Tryz.underlying3 (qci hj)) (fun c hat _ => ?_)
 rw [(h2 j).2] at hat
 have hc : c = if j ∈ ks then f j else 0 := by cases hat; rfl
 exact hK c hc
theorem qbk (hg : o.guard = none) (m x u : Operand) (t : TypeId) (hop : o.op = Op.mapUpdate t m x u) (ht : Tryz.prog.underlying t = some (.map 3 3)) (b n : Nat) (ks : List Nat) (f : Nat → Int)
  (hm : a.eval m = .map (some b)) (h : MapOf w b n ks f) (hn : n ≤ 8796093022208) (j : Nat) (hj : j < n) (hx : a.eval x = .int .i64 (j : Int)) (e : Int) (he : (Lit.int .i64 e).wf = true) (hu : a.eval u = .int .i64 e)
  (hK : ∀ w',MapOf w' b n (insK ks j) (mapF f j e) → w.grownBy w' (some b) → wpList Tryz.prog ops Q rest (a.put o.dst undef) w') : wpList Tryz.prog ops Q (o :: rest) a w := by
 have hlen := h.len
 obtain ⟨D,hD,hs,h2⟩ := h.ex
 have hT := hD.tidy keyI
 have hkl : WideAt.IsKeyLit (.int .i64 (j : Int)) := trivial
 refine wpList_mapUpdate_own w hg m x u t hop 3 3 keyI ht _ b ks.length D hm hD (by unfold maxLen; omega) _ _ (.int .i64 (j : Int)) hx hu (keyOf_int_mk Tryz.underlying3 (qci (by omega))) _ [] (plainElem_int Tryz.underlying3 he) (fun w' hown hgr => hK w' ?_ hgr)
 have hsz : Maps.size (D.put (.int .i64 (j : Int)) (.lit (.int .i64 e))) = (insK ks j).length := by
  rw [Maps.size_put hT,(h2 j).1,hs]
  unfold insK
  by_cases hm : j ∈ ks <;> simp [hm]
 refine ⟨?_, ?_,_,by rw [← hsz]; exact qdw hown,hsz,fun i => ?_⟩
 ·unfold insK
  by_cases hm : j ∈ ks
  ·rw [if_pos hm]; exact h.nd
  ·rw [if_neg hm]; exact List.nodup_cons.2 ⟨hm,h.nd⟩
 ·intro k hk
  rcases mem_insK.1 hk with rfl | hk
  ·exact hj
  ·exact h.lt k hk
 ·by_cases hij : i = j
  ·subst hij
   refine ⟨by rw [Maps.has_put_same hT.isMap hkl]; simp [mem_insK], ?_⟩
   rw [Maps.atKey_put_same hT.isMap hkl,if_pos (mem_insK.2 (.inl rfl)),mapF,if_pos rfl]
  ·have hne : (Lit.int .i64 (i : Int)) ≠ .int .i64 (j : Int) := fun e => by
    have : (i : Int) = j := by injection e
    omega
   refine ⟨by rw [Maps.has_put_other hne,(h2 i).1]; simp [mem_insK,hij], ?_⟩
   rw [Maps.atKey_put_other hne,(h2 i).2,mapF,if_neg hij]
   by_cases hi : i ∈ ks
   ·rw [if_pos hi,if_pos (mem_insK.2 (.inr hi))]
   ·rw [if_neg hi,if_neg (fun h => (mem_insK.1 h).elim hij hi)]
end
theorem qho (l : List Int) (a : Int) : qae (l ++ [a]) = max (qae l) (l.count a + 1) := by
 have hc : ∀ k,(l ++ [a]).count k = l.count k + (if k = a then 1 else 0) := fun k => by
  rw [List.count_append,List.count_singleton]
  by_cases h : k = a
  ·simp [h]
  ·have : ¬ a = k := fun e => h e.symm
   simp [h,this]
 apply Nat.le_antisymm
 ·refine maxL_le.2 (fun x hx => ?_)
  obtain ⟨k,hk,rfl⟩ := List.mem_map.1 hx
  rw [hc]
  by_cases h : k = a
  ·rw [if_pos h,h]; exact Nat.le_max_right _ _
  ·rw [if_neg h]
   have hkl : k ∈ l := by
    rcases List.mem_append.1 hk with h1 | h1
    ·exact h1
    ·exact absurd (by simpa using h1) h
   have : l.count k ≤ qae l := maxL_le.1 (Nat.le_refl _) _ (List.mem_map.2 ⟨k,hkl,rfl⟩)
   omega
 ·refine Nat.max_le.2 ⟨?_, ?_⟩
  ·refine maxL_le.2 (fun x hx => ?_)
   obtain ⟨k,hk,rfl⟩ := List.mem_map.1 hx
   have : (l ++ [a]).count k ≤ qae (l ++ [a]) := maxL_le.1 (Nat.le_refl _) _ (List.mem_map.2 ⟨k,by simp [hk],rfl⟩)
   rw [hc] at this
   omega
  ·have : (l ++ [a]).count a ≤ qae (l ++ [a]) := maxL_le.1 (Nat.le_refl _) _ (List.mem_map.2 ⟨a,by simp,rfl⟩)
   rw [hc,if_pos rfl] at this
   exact this
theorem qle (l : List Int) : qae l ≤ l.length := by
 refine maxL_le.2 (fun x hx => ?_)
 obtain ⟨k,hk,rfl⟩ := List.mem_map.1 hx
 exact List.count_le_length
end Go.Proofs.YtmidaeljeoifdaaGreatDoor
