import Derived.Test.YtmidaeljeoifdaaGreatDoorXThd
import Derived.Test.YtmidaeljeoifdaaGreatDoorXKvi
import Derived.Test.YtmidaeljeoifdaaGreatDoorEeq
import Derived.Deep.RegionHeld3
import Derived.Deep.WholeRow
namespace Go.Proofs.YtmidaeljeoifdaaGreatDoor
open Go.Maps Go.RowKit Go.Shelf Go.Sort
set_option linter.unusedSimpArgs false
set_option linter.unusedVariables false
set_option maxHeartbeats 16000000
set_option maxRecDepth 100000
theorem qgp : (Tryz.prog.info? 56).map (fun i => (i.zero,i.size,i.bytes)) = some (some (.agg #[I 0,I 0, .bool false,I 0, .int .u32 0,I 0, .slice none 0 0, .int .u32 0]),8,80) := by kernel_rfl
theorem qg3 (w : World) (s : Sl) (l : List Tk) (hl : RowsAt w 8 (tkP w) s l) (hll : l.length ≤ 1048576) (f : Nat) (caps : Array Value) (eg : ∀ args W,(callFunc f args).run Tryz.prog W = .ok (.enter f args) W) (mk : Tk → TkR)
  (hf : ∀ W,Below w.heap.size w W → ∀ x ∈ l, ∀ s4 : Sl,RowsAt W 1 intP s4 x.auto → ∀ s5 : Sl,RowsAt W 1 intP s5 x.res → ∀ s6 : Sl,RowsAt W 1 intP s6 x.evs → ∀ s7 : Sl,RowsAt W 1 intP s7 x.msgs → Calls Tryz.prog f (#[.agg #[S x.name,I x.prio, .bool x.full,I x.act, .slice s4.a s4.n s4.c, .slice s5.a s5.n s5.c, .slice s6.a s6.n s6.c, .slice s7.a s7.n s7.c]] ++ caps) W fun e w' => ∃ so : Sl,e = .returned (.agg #[I (mk x).prio,I (mk x).ring, .bool (mk x).full,I (mk x).limit, .int .u32 ((mk x).mask : Int),I (mk x).inner, .slice so.a so.n so.c, .int .u32 ((mk x).auto : Int)]) ∧ qa9 w' w.heap.size (mk x).own (.slice so.a so.n so.c) ∧ Below W.heap.size W w') :
  Calls Tryz.prog 146 #[.slice s.a s.n s.c, .func (.func f) #[] caps] w fun e w' => (∃ a c xs,e = .returned (.slice a l.length c) ∧ w'.ownsRow w.heap.size 56 8 (.slice a l.length c) l.length xs ∧ RwX 8 (tkO9 w' w.heap.size) (l.map mk) xs) ∧ Below w.heap.size w w' := by
 obtain ⟨im,him,hm0,hm1,hm2⟩ := info_parts qgp
 have HS : Hid (s.n = l.length) := hl.n
 have hsn : s.n ≤ 1048576 := by have := hl.n; omega
 have hsc : s.n ≤ s.c := hl.c
 have hsm : s.c ≤ maxLen := hl.m
 unfold maxLen at hsm
 have HH : Hid (∀ W,Below w.heap.size w W → RowsAt W 8 (tkP W) s l) := fun W hW => hl.below hW (fun x i u _ h => qem h hW)
 have HFF : Hid (∀ W,Below w.heap.size w W → ∀ x ∈ l, ∀ s4 : Sl,RowsAt W 1 intP s4 x.auto → ∀ s5 : Sl,RowsAt W 1 intP s5 x.res → ∀ s6 : Sl,RowsAt W 1 intP s6 x.evs → ∀ s7 : Sl,RowsAt W 1 intP s7 x.msgs → Calls Tryz.prog f (#[.agg #[S x.name,I x.prio, .bool x.full,I x.act, .slice s4.a s4.n s4.c, .slice s5.a s5.n s5.c, .slice s6.a s6.n s6.c, .slice s7.a s7.n s7.c]] ++ caps) W fun e w' => ∃ so : Sl,e = .returned (.agg #[I (mk x).prio,I (mk x).ring, .bool (mk x).full,I (mk x).limit, .int .u32 ((mk x).mask : Int),I (mk x).inner, .slice so.a so.n so.c, .int .u32 ((mk x).auto : Int)]) ∧ qa9 w' w.heap.size (mk x).own (.slice so.a so.n so.c) ∧ Below W.heap.size W w') := hf
 clear hl hf hll
 obtain ⟨w2,hmk,hO2,hg2⟩ := run_make_own (P := Tryz.prog) w w.heap.size 22 56 im _ 8 Tryz.underlying22 him hm0 hm1 .i64 .i64 s.n (by rw [hm2]; omega) (by unfold maxLen; omega) (Nat.le_refl _)
 have HO2 : Hid (w2.ownsRow w.heap.size 56 8 (.slice (some ⟨w.heap.size,0,none⟩) 0 s.n) 0 [] ∧ Below w.heap.size w w2) := ⟨hO2,qal hg2⟩
 clear hO2 hg2
 go_enter Tryz.func146,Tryz.ntmps146
 go_wp2
 clear hmk
 go_loopw [5,7,13] (fun ov _ iv wr => ∃ (j : Nat) (a : Option Addr) (c : Nat),j ≤ s.n ∧ iv = .int .i64 j ∧ ov = .slice a j c ∧ Hid (Below w.heap.size w wr ∧ ∃ xs,wr.ownsRow w.heap.size 56 8 (.slice a j c) j xs ∧ RwX 8 (tkO9 wr w.heap.size) ((l.take j).map mk) xs)) (fun _ _ iv _ => s.n - (intOf iv).toNat)
 case atStart => exact ⟨0,_,_,by omega,rfl,rfl,HO2.out.2, [],HO2.out.1,RwX.nil _ _⟩
 case round =>
  obtain ⟨j,a,c,hj,rfl,rfl,HJ⟩ := hrel
  by_cases hlt : j < s.n
  ·have hlt' : (j : Int) < s.n := by omega
   obtain ⟨x,hx⟩ : ∃ x,l[j]? = some x := ⟨_,List.getElem?_eq_getElem (by rw [← HS.out]; exact hlt)⟩
   obtain ⟨g5,o5,e5,hg5,hr5⟩ := (HH.out _ HJ.out.1).row j x hx
   obtain ⟨u0,a0,q0⟩ := hr5 0 (by omega)
   obtain ⟨u1,a1,q1⟩ := hr5 1 (by omega)
   obtain ⟨u2,a2,q2⟩ := hr5 2 (by omega)
   obtain ⟨u3,a3,q3⟩ := hr5 3 (by omega)
   obtain ⟨u4,a4,q4⟩ := hr5 4 (by omega)
   obtain ⟨u5,a5,q5⟩ := hr5 5 (by omega)
   obtain ⟨u6,a6,q6⟩ := hr5 6 (by omega)
   obtain ⟨u7,a7,q7⟩ := hr5 7 (by omega)
   have f0 : u0 = S x.name := q0
   have f1 : u1 = I x.prio := q1
   have f2 : u2 = .bool x.full := q2
   have f3 : u3 = I x.act := q3
   obtain ⟨s4,f4,r4⟩ := (show IntsV wr x.auto u4 from q4)
   obtain ⟨s5,f5,r5⟩ := (show IntsV wr x.res u5 from q5)
   obtain ⟨s6,f6,r6⟩ := (show IntsV wr x.evs u6 from q6)
   obtain ⟨s7,f7,r7⟩ := (show IntsV wr x.msgs u7 from q7)
   subst f0 f1 f2 f3 f4 f5 f6 f7
   rw [Nat.add_zero] at a0
   have bX : Below wr.heap.size wr (wr.alloc (.cells #[S x.name,I x.prio, .bool x.full,I x.act, .slice s4.a s4.n s4.c, .slice s5.a s5.n s5.c, .slice s6.a s6.n s6.c, .slice s7.a s7.n s7.c] 58)) := qa0 wr _
   have bW : Below w.heap.size w (wr.alloc (.cells #[S x.name,I x.prio, .bool x.full,I x.act, .slice s4.a s4.n s4.c, .slice s5.a s5.n s5.c, .slice s6.a s6.n s6.c, .slice s7.a s7.n s7.c] 58)) := HJ.out.1.trans (bX.mono HJ.out.1.size)
   have hXX := heap_alloc_new wr (.cells #[S x.name,I x.prio, .bool x.full,I x.act, .slice s4.a s4.n s4.c, .slice s5.a s5.n s5.c, .slice s6.a s6.n s6.c, .slice s7.a s7.n s7.c] 58)
   have cx := HFF.out _ bW x (List.mem_of_getElem? hx) s4 (r4.below bX (fun _ _ _ _ h => h)) s5 (r5.below bX (fun _ _ _ _ h => h)) s6 (r6.below bX (fun _ _ _ _ h => h)) s7 (r7.below bX (fun _ _ _ _ h => h))
   have HTk : Hid ((l.take (j + 1)).map mk = (l.take j).map mk ++ [mk x]) := qcf mk hx
   have HJ0 : Hid (∃ xs,(wr.alloc (.cells #[S x.name,I x.prio, .bool x.full,I x.act, .slice s4.a s4.n s4.c, .slice s5.a s5.n s5.c, .slice s6.a s6.n s6.c, .slice s7.a s7.n s7.c] 58)).ownsRow w.heap.size 56 8 (.slice a j c) j xs ∧ RwX 8 (tkO9 (wr.alloc (.cells #[S x.name,I x.prio, .bool x.full,I x.act, .slice s4.a s4.n s4.c, .slice s5.a s5.n s5.c, .slice s6.a s6.n s6.c, .slice s7.a s7.n s7.c] 58)) w.heap.size) ((l.take j).map mk) xs) := by
    obtain ⟨_,xs,h1,h2⟩ := HJ.out
    exact ⟨xs,qa6 h1 bX,h2.mono (fun x i u h => qdh h bX)⟩
   rw [e5]
   clear hx e5 hr5 hg5 HJ q0 q1 q2 q3
   go_upto_region 5 with fail
   have HXS : Hid (wr.heap.size < (wr.alloc (.cells #[S x.name,I x.prio, .bool x.full,I x.act, .slice s4.a s4.n s4.c, .slice s5.a s5.n s5.c, .slice s6.a s6.n s6.c, .slice s7.a s7.n s7.c] 58)).heap.size) := by show _ < _; simp
   generalize wr.heap.size = X at *
   generalize (wr.alloc (.cells #[S x.name,I x.prio, .bool x.full,I x.act, .slice s4.a s4.n s4.c, .slice s5.a s5.n s5.c, .slice s6.a s6.n s6.c, .slice s7.a s7.n s7.c] 58)) = W0 at *
   have hi97 : (Tryz.prog.info? 58).map (·.size) = some (#[S x.name,I x.prio, .bool x.full,I x.act, .slice s4.a s4.n s4.c, .slice s5.a s5.n s5.c, .slice s6.a s6.n s6.c, .slice s7.a s7.n s7.c] : Array Value).size := by kernel_rfl
   have HBW : Hid (Below w.heap.size w W0) := bW
   clear bW bX
   go_wp2_with (first
    | (with_reducible refine qa8 ?_; refine wpList_load_row rfl 58 _ rfl X rfl 58 _ (0,0) _ hXX Tryz.underlying58 rfl hi97 ?_))
   refine cx.mono ?_
   clear cx
   rintro e7 w7 ⟨so,rfl,i7,hb7⟩
   have B7 : Below w.heap.size w w7 := HBW.out.trans (hb7.mono HBW.out.size)
   obtain ⟨xs,h1,h2⟩ := HJ0.out
   have o7 := qa6 h1 hb7
   have HX7 : Hid (RwX 8 (tkO9 w7 w.heap.size) ((l.take j).map mk) xs) := h2.mono (fun x i u h => qdh h hb7)
   clear h1 h2 hb7 HJ0
   have s7 := B7.size
   have hjl : j ≤ 1048576 := by omega
   have HI7 : Hid (qa9 w7 w.heap.size (mk x).own (.slice so.a so.n so.c)) := i7
   clear i7
   have hnew := qb8 w7 #[I (mk x).prio,I (mk x).ring, .bool (mk x).full,I (mk x).limit, .int .u32 ((mk x).mask : Int),I (mk x).inner, .slice so.a so.n so.c, .int .u32 ((mk x).auto : Int)] 56
   have hone : ∀ u ∈ (#[I (mk x).prio,I (mk x).ring, .bool (mk x).full,I (mk x).limit, .int .u32 ((mk x).mask : Int),I (mk x).inner, .slice so.a so.n so.c, .int .u32 ((mk x).auto : Int)] : Array Value).toList,u.oneCell' = true := by intro u hu; simp at hu; rcases hu with e | e | e | e | e | e | e | e <;> (subst e; rfl)
   go_wp2_with (first
    | (at_builtin; refine wpList_append_own _ rfl (.tmp 17) (.tmp 21) 22 rfl w.heap.size 56 im _ 8 80 Tryz.underlying22 him hm0 hm1 hm2 rfl (by decide) _ _ _ rfl (o7.alloc _) ⟨w7.heap.size,0,none⟩ 1 1 (#[I (mk x).prio,I (mk x).ring, .bool (mk x).full,I (mk x).limit, .int .u32 ((mk x).mask : Int),I (mk x).inner, .slice so.a so.n so.c, .int .u32 ((mk x).auto : Int)] : Array Value).toList rfl rfl hnew hone (by unfold maxLen; omega) (by omega) (by simp; omega) ?_))
   intro v8 w8 o8 g8 _
   obtain ⟨a8,k8,rfl⟩ := qbc o8
   have b8 : Below w7.heap.size w7 (w7.alloc (.cells #[I (mk x).prio,I (mk x).ring, .bool (mk x).full,I (mk x).limit, .int .u32 ((mk x).mask : Int),I (mk x).inner, .slice so.a so.n so.c, .int .u32 ((mk x).auto : Int)] 56)) := qa0 w7 _
   have H9 : Hid (Below w.heap.size w w8 ∧ ∃ xs,w8.ownsRow w.heap.size 56 8 (.slice a8 (j + 1) k8) (j + 1) xs ∧ RwX 8 (tkO9 w8 w.heap.size) ((l.take (j + 1)).map mk) xs) := by
    refine ⟨(B7.alloc B7.size _).grown g8 (by simp; omega) (fun k e => (o7.lt k e).1),_,o8, ?_⟩
    rw [HTk.out]
    refine RwX.snoc ((HX7.out.mono (fun x i u h => qdh h b8)).mono (fun x i u h => qo8 h (o7.alloc _) g8)) _ _ rfl (fun i hi => ?_)
    rcases (by omega : i = 0 ∨ i = 1 ∨ i = 2 ∨ i = 3 ∨ i = 4 ∨ i = 5 ∨ i = 6 ∨ i = 7) with e | e | e | e | e | e | e | e
    ·subst e; exact ⟨_,rfl,rfl⟩
    ·subst e; exact ⟨_,rfl,rfl⟩
    ·subst e; exact ⟨_,rfl,rfl⟩
    ·subst e; exact ⟨_,rfl,rfl⟩
    ·subst e; exact ⟨_,rfl,rfl⟩
    ·subst e; exact ⟨_,rfl,rfl⟩
    ·subst e; exact ⟨_,rfl,(qd4 (qbi HI7.out b8) (o7.alloc _) g8 (by decide))⟩
    ·subst e; exact ⟨_,rfl,rfl⟩
   clear o8 g8 o7 B7 hnew hone b8
   go_wp2
   go_roundw
   case rel => exact ⟨j + 1,a8,k8,by omega,by go_num,rfl,H9.out⟩
   case measure => simp [intOf]; omega
  ·obtain rfl : j = s.n := by omega
   have hlt' : ¬ ((s.n : Nat) : Int) < (s.n : Nat) := by omega
   have HE : Hid (Below w.heap.size w wr ∧ ∃ xs,wr.ownsRow w.heap.size 56 8 (.slice a s.n c) s.n xs ∧ RwX 8 (tkO9 wr w.heap.size) (l.map mk) xs) := by
    have := HJ.out
    rwa [List.take_of_length_le (by rw [HS.out]; exact Nat.le_refl _)] at this
   clear HJ
   go_wp2
   go_ret
   obtain ⟨h1,xs,h2,h3⟩ := HE.out
   rw [← HS.out]
   first | exact ⟨⟨a,c,xs,rfl,h2,h3⟩,h1⟩ | exact ⟨⟨a,c,rfl,xs,h2,h3⟩,h1⟩
theorem qcg {w w' : World} {base g : Nat} {l : List Int} {u : Value} {cs : Array Value} {T : TypeId} {fr : Nat × Nat} (h : qa9 w base l u) (hg : w.heap[g]? = some (.cells cs T fr)) (hT : 3 ≠ T) (hb : w.grownBy w' (some g)) : qa9 w' base l u := by
 refine World.ownsRow.kept h hb ?_
 rcases h.2 with ⟨h0,_⟩ | ⟨b,cap,cur,hv,_,hh,_⟩
 ·rw [h0]; exact .inl rfl
 ·right
  intro e
  rw [hv] at e
  have e3 : b = g := Option.some.inj e
  rw [e3,hg] at hh
  injection hh with hh
  injection hh with _ e4
  exact hT e4.symm
theorem quh {fn : Func} {n : Nat} (hf : fn.results = #[.cell n 56]) (tmps : Array Value) (b : Nat) (w : World) (C : Array Value) (hi8 : (Tryz.prog.info? 56).map (·.size) = some C.size)
  (h2 : tmps[n]? = some (.pointer (some ⟨b,0,none⟩))) (hk : w.heap[b]? = some (.cells C 56 (0,0))) : (results fn tmps).run Tryz.prog w = .ok (.agg C) w := by
 have hr := run_loadVar_row w b 56 56 C (0,0) _ hk Tryz.underlying56 rfl hi8
 simp [results,hf,h2,asAddr,hr]
theorem qql (w : World) (x : Tk) (s4 s5 s6 s7 : Sl) (BL BC BE : Nat) (lv : Sl) (C E : Array Value) (hC : C.size = 18) (hE : E.size = 5) (hBL : w.heap[BL]? = some (.cells #[.slice lv.a lv.n lv.c] 54)) (hBC : w.heap[BC]? = some (.cells C 47)) (hBE : w.heap[BE]? = some (.cells E 82)) (base : Nat) (vi vm vn vb : Int) (own : List Int)
  (k1 : ∀ W,Below w.heap.size w W → Calls Tryz.prog 148 #[.slice lv.a lv.n lv.c,I x.prio] W fun e w' => e = .returned (I vi) ∧ Below W.heap.size W w')
  (k2 : ∀ W,Below w.heap.size w W → Calls Tryz.prog 149 #[.agg C, .slice s6.a s6.n s6.c] W fun e w' => e = .returned (.int .u32 vm) ∧ Below W.heap.size W w')
  (k3 : ∀ W,Below w.heap.size w W → Calls Tryz.prog 150 #[.agg C, .agg E, .slice s5.a s5.n s5.c] W fun e w' => e = .returned (I vn) ∧ Below W.heap.size W w')
  (k4 : ∀ W,Below w.heap.size w W → Calls Tryz.prog 151 #[.agg C, .slice s5.a s5.n s5.c] W fun e w' => ∃ so : Sl,e = .returned (.slice so.a so.n so.c) ∧ qa9 w' base own (.slice so.a so.n so.c) ∧ Below W.heap.size W w')
  (k5 : ∀ W,Below w.heap.size w W → Calls Tryz.prog 152 #[.slice s4.a s4.n s4.c] W fun e w' => e = .returned (.int .u32 vb) ∧ Below W.heap.size W w') :
  Calls Tryz.prog 147 (#[.agg #[S x.name,I x.prio, .bool x.full,I x.act, .slice s4.a s4.n s4.c, .slice s5.a s5.n s5.c, .slice s6.a s6.n s6.c, .slice s7.a s7.n s7.c]] ++ #[.pointer (some ⟨BL,0,none⟩), .pointer (some ⟨BC,0,none⟩), .pointer (some ⟨BE,0,none⟩)]) w fun e w' => ∃ so : Sl,e = .returned (.agg #[I x.prio,I vi, .bool x.full,I x.act, .int .u32 vm,I vn, .slice so.a so.n so.c, .int .u32 vb]) ∧ qa9 w' base own (.slice so.a so.n so.c) ∧ Below w.heap.size w w' := by
 have hi18 : (Tryz.prog.info? 47).map (·.size) = some C.size := by rw [hC]; kernel_rfl
 have hi5 : (Tryz.prog.info? 82).map (·.size) = some E.size := by rw [hE]; kernel_rfl
 have B0 : Below w.heap.size w ((w.alloc (.cells #[S x.name,I x.prio, .bool x.full,I x.act, .slice s4.a s4.n s4.c, .slice s5.a s5.n s5.c, .slice s6.a s6.n s6.c, .slice s7.a s7.n s7.c] 58)).alloc (.cells #[I 0,I 0, .bool false,I 0, .int .u32 0,I 0, .slice none 0 0, .int .u32 0] 56)) := (qa0 w _).trans ((qa0 _ _).mono (by simp))
 have hX : ((w.alloc (.cells #[S x.name,I x.prio, .bool x.full,I x.act, .slice s4.a s4.n s4.c, .slice s5.a s5.n s5.c, .slice s6.a s6.n s6.c, .slice s7.a s7.n s7.c] 58)).alloc (.cells #[I 0,I 0, .bool false,I 0, .int .u32 0,I 0, .slice none 0 0, .int .u32 0] 56)).heap[w.heap.size]? = some (.cells #[S x.name,I x.prio, .bool x.full,I x.act, .slice s4.a s4.n s4.c, .slice s5.a s5.n s5.c, .slice s6.a s6.n s6.c, .slice s7.a s7.n s7.c] 58) := by
  rw [heap_alloc_old _ _ (by simp)]; exact heap_alloc_new w _
 have hY : ((w.alloc (.cells #[S x.name,I x.prio, .bool x.full,I x.act, .slice s4.a s4.n s4.c, .slice s5.a s5.n s5.c, .slice s6.a s6.n s6.c, .slice s7.a s7.n s7.c] 58)).alloc (.cells #[I 0,I 0, .bool false,I 0, .int .u32 0,I 0, .slice none 0 0, .int .u32 0] 56)).heap[w.heap.size + 1]? = some (.cells #[I 0,I 0, .bool false,I 0, .int .u32 0,I 0, .slice none 0 0, .int .u32 0] 56) := by
  have := heap_alloc_new (w.alloc (.cells #[S x.name,I x.prio, .bool x.full,I x.act, .slice s4.a s4.n s4.c, .slice s5.a s5.n s5.c, .slice s6.a s6.n s6.c, .slice s7.a s7.n s7.c] 58)) (.cells #[I 0,I 0, .bool false,I 0, .int .u32 0,I 0, .slice none 0 0, .int .u32 0] 56)
  rw [World.size_alloc] at this
  exact this
 have HK : Hid (w.heap[BL]? = some (.cells #[.slice lv.a lv.n lv.c] 54) ∧ w.heap[BC]? = some (.cells C 47) ∧ w.heap[BE]? = some (.cells E 82)) := ⟨hBL,hBC,hBE⟩
 clear hBL hBC hBE
 go_enter Tryz.func147,Tryz.ntmps147
 go_upto_region 1 with fail
 have HY : Hid _ := hY
 clear hY
 generalize hW : ((w.alloc (.cells #[S x.name,I x.prio, .bool x.full,I x.act, .slice s4.a s4.n s4.c, .slice s5.a s5.n s5.c, .slice s6.a s6.n s6.c, .slice s7.a s7.n s7.c] 58)).alloc (.cells #[I 0,I 0, .bool false,I 0, .int .u32 0,I 0, .slice none 0 0, .int .u32 0] 56)) = W0 at *
 clear hW
 have HS : Hid (∀ W,Below W0.heap.size W0 W → W.cell? ⟨w.heap.size,1,none⟩ = some (I x.prio) ∧ W.cell? ⟨w.heap.size,2,none⟩ = some (.bool x.full) ∧ W.cell? ⟨w.heap.size,3,none⟩ = some (I x.act) ∧ W.cell? ⟨w.heap.size,4,none⟩ = some (.slice s4.a s4.n s4.c) ∧ W.cell? ⟨w.heap.size,5,none⟩ = some (.slice s5.a s5.n s5.c) ∧ W.cell? ⟨w.heap.size,6,none⟩ = some (.slice s6.a s6.n s6.c) ∧ W.cell? ⟨BL,0,none⟩ = some (.slice lv.a lv.n lv.c) ∧ W.heap[BC]? = some (.cells C 47 (0,0)) ∧ W.heap[BE]? = some (.cells E 82 (0,0))) := fun W hW => by
  have h1 := (hW.block _ (qa1 hX)).trans hX
  have hb := B0.trans (hW.mono B0.size)
  obtain ⟨h2,h3,h4⟩ := HK.out
  have h2' := (hb.block _ (qa1 h2)).trans h2
  exact ⟨by rw [cell_of_row W _ 1 _ _ (0,0) h1]; rfl,by rw [cell_of_row W _ 2 _ _ (0,0) h1]; rfl,by rw [cell_of_row W _ 3 _ _ (0,0) h1]; rfl,by rw [cell_of_row W _ 4 _ _ (0,0) h1]; rfl,by rw [cell_of_row W _ 5 _ _ (0,0) h1]; rfl,by rw [cell_of_row W _ 6 _ _ (0,0) h1]; rfl,by rw [cell_of_row W _ 0 _ _ (0,0) h2']; rfl,(hb.block _ (qa1 h3)).trans h3,(hb.block _ (qa1 h4)).trans h4⟩
 have HB : Hid (∀ W,Below W0.heap.size W0 W → Below w.heap.size w W) := fun W hW => B0.trans (hW.mono B0.size)
 have B1 : Below W0.heap.size W0 W0.drew := (Below.refl _ _).drew
 refine wp_region_held_drew (S := fun W' => W'.cell? ⟨w.heap.size,1,none⟩ = some (I x.prio) ∧ W'.cell? ⟨w.heap.size,2,none⟩ = some (.bool x.full) ∧ W'.cell? ⟨w.heap.size,3,none⟩ = some (I x.act) ∧ W'.cell? ⟨w.heap.size,4,none⟩ = some (.slice s4.a s4.n s4.c) ∧ W'.cell? ⟨w.heap.size,5,none⟩ = some (.slice s5.a s5.n s5.c) ∧ W'.cell? ⟨w.heap.size,6,none⟩ = some (.slice s6.a s6.n s6.c) ∧ W'.cell? ⟨BL,0,none⟩ = some (.slice lv.a lv.n lv.c) ∧ W'.heap[BC]? = some (.cells C 47 (0,0)) ∧ W'.heap[BE]? = some (.cells E 82 (0,0))) (by kernel_rfl) (HS.out _ B1) (fun hHeld => ?_)
 refine wpAnyH_take (i := 0) (v := ?_) rfl (by kernel_rfl) (by kernel_rfl) (by kernel_rfl) (fun _ _ _ h => h) (Or.inl ⟨by rfl, ?_⟩) hHeld ?_
 rotate_left
 ·intro w' hSw
  obtain ⟨y1,y2,y3,y4,y5,y6,yl,_,_⟩ := hSw
  go_simp
  try with_reducible rfl
 try simp only [Act.put,q7a,q7b,q7c,q7d,q7e,q7f]
 refine wpAnyH_take (i := 1) (v := ?_) rfl (by kernel_rfl) (by kernel_rfl) (by kernel_rfl) (fun _ _ _ h => h) (Or.inl ⟨by rfl, ?_⟩) hHeld ?_
 rotate_left
 ·intro w' hSw
  obtain ⟨y1,y2,y3,y4,y5,y6,yl,_,_⟩ := hSw
  go_simp
  try with_reducible rfl
 try simp only [Act.put,q7a,q7b,q7c,q7d,q7e,q7f]
 refine wpAnyH_take (i := 2) (v := ?_) rfl (by kernel_rfl) (by kernel_rfl) (by kernel_rfl) (fun _ _ _ h => h) (Or.inl ⟨by rfl, ?_⟩) hHeld ?_
 rotate_left
 ·intro w' hSw
  obtain ⟨y1,y2,y3,y4,y5,y6,yl,_,_⟩ := hSw
  go_simp
  try with_reducible rfl
 try simp only [Act.put,q7a,q7b,q7c,q7d,q7e,q7f]
 refine wpAnyH_take (i := 3) (v := ?_) rfl (by kernel_rfl) (by kernel_rfl) (by kernel_rfl) (fun _ _ _ h => h) (Or.inl ⟨by rfl, ?_⟩) hHeld ?_
 rotate_left
 ·intro w' hSw
  obtain ⟨y1,y2,y3,y4,y5,y6,yl,_,_⟩ := hSw
  go_simp
  try with_reducible rfl
 try simp only [Act.put,q7a,q7b,q7c,q7d,q7e,q7f]
 refine wpAnyH_take (i := 4) (v := ?_) rfl (by kernel_rfl) (by kernel_rfl) (by kernel_rfl) (fun _ _ _ h => h) (Or.inl ⟨by rfl, ?_⟩) hHeld ?_
 rotate_left
 ·intro w' hSw
  obtain ⟨y1,y2,y3,y4,y5,y6,yl,_,_⟩ := hSw
  go_simp
  try with_reducible rfl
 try simp only [Act.put,q7a,q7b,q7c,q7d,q7e,q7f]
 refine wpAnyH_take (i := 6) (v := ?_) rfl (by kernel_rfl) (by kernel_rfl) (by kernel_rfl) (fun _ _ _ h => h) (Or.inl ⟨by rfl, ?_⟩) hHeld ?_
 rotate_left
 ·intro w' hSw
  obtain ⟨y1,y2,y3,y4,y5,y6,yl,_,_⟩ := hSw
  go_simp
  try with_reducible rfl
 try simp only [Act.put,q7a,q7b,q7c,q7d,q7e,q7f]
 refine wpAnyH_take (i := 7) (v := ?_) rfl (by kernel_rfl) (by kernel_rfl) (by kernel_rfl) (fun _ _ _ h => h) (Or.inl ⟨by rfl, ?_⟩) hHeld ?_
 rotate_left
 ·intro w' hSw
  obtain ⟨y1,y2,y3,y4,y5,y6,yl,_,_⟩ := hSw
  go_simp
  try with_reducible rfl
 try simp only [Act.put,q7a,q7b,q7c,q7d,q7e,q7f]
 refine wpAnyH_take (i := 8) (v := ?_) rfl (by kernel_rfl) (by kernel_rfl) (by kernel_rfl) (fun _ _ _ h => h) (Or.inl ⟨by rfl, ?_⟩) hHeld ?_
 rotate_left
 ·intro w' hSw
  obtain ⟨y1,y2,y3,y4,y5,y6,yl,_,_⟩ := hSw
  go_simp
  try with_reducible rfl
 try simp only [Act.put,q7a,q7b,q7c,q7d,q7e,q7f]
 refine wpAnyH_take (i := 9) (v := ?_) rfl (by kernel_rfl) (by kernel_rfl) (by kernel_rfl) (fun _ _ _ h => h) (Or.inl ⟨by rfl, ?_⟩) hHeld ?_
 rotate_left
 ·intro w' hSw
  obtain ⟨y1,y2,y3,y4,y5,y6,yl,_,_⟩ := hSw
  go_simp
  try with_reducible rfl
 try simp only [Act.put,q7a,q7b,q7c,q7d,q7e,q7f]
 refine wpAnyH_take (i := 10) (v := .agg C) rfl (by kernel_rfl) (by kernel_rfl) (by kernel_rfl) (fun _ _ _ h => h) (Ce.yieldsIf_load_row (by rfl) 47 _ rfl BC rfl 47 C (0,0) _ (fun _ hw => hw.2.2.2.2.2.2.2.1) Tryz.underlying47 rfl hi18) hHeld ?_
 try simp only [Act.put,q7a,q7b,q7c,q7d,q7e,q7f]
 refine wpAnyH_take (i := 11) (v := ?_) rfl (by kernel_rfl) (by kernel_rfl) (by kernel_rfl) (fun _ _ _ h => h) (Or.inl ⟨by rfl, ?_⟩) hHeld ?_
 rotate_left
 ·intro w' hSw
  obtain ⟨y1,y2,y3,y4,y5,y6,yl,_,_⟩ := hSw
  go_simp
  try with_reducible rfl
 try simp only [Act.put,q7a,q7b,q7c,q7d,q7e,q7f]
 refine wpAnyH_take (i := 12) (v := ?_) rfl (by kernel_rfl) (by kernel_rfl) (by kernel_rfl) (fun _ _ _ h => h) (Or.inl ⟨by rfl, ?_⟩) hHeld ?_
 rotate_left
 ·intro w' hSw
  obtain ⟨y1,y2,y3,y4,y5,y6,yl,_,_⟩ := hSw
  go_simp
  try with_reducible rfl
 try simp only [Act.put,q7a,q7b,q7c,q7d,q7e,q7f]
 refine wpAnyH_take (i := 14) (v := .agg C) rfl (by kernel_rfl) (by kernel_rfl) (by kernel_rfl) (fun _ _ _ h => h) (Ce.yieldsIf_load_row (by rfl) 47 _ rfl BC rfl 47 C (0,0) _ (fun _ hw => hw.2.2.2.2.2.2.2.1) Tryz.underlying47 rfl hi18) hHeld ?_
 try simp only [Act.put,q7a,q7b,q7c,q7d,q7e,q7f]
 refine wpAnyH_take (i := 15) (v := .agg E) rfl (by kernel_rfl) (by kernel_rfl) (by kernel_rfl) (fun _ _ _ h => h) (Ce.yieldsIf_load_row (by rfl) 82 _ rfl BE rfl 82 E (0,0) _ (fun _ hw => hw.2.2.2.2.2.2.2.2) Tryz.underlying82 rfl hi5) hHeld ?_
 try simp only [Act.put,q7a,q7b,q7c,q7d,q7e,q7f]
 refine wpAnyH_take (i := 16) (v := ?_) rfl (by kernel_rfl) (by kernel_rfl) (by kernel_rfl) (fun _ _ _ h => h) (Or.inl ⟨by rfl, ?_⟩) hHeld ?_
 rotate_left
 ·intro w' hSw
  obtain ⟨y1,y2,y3,y4,y5,y6,yl,_,_⟩ := hSw
  go_simp
  try with_reducible rfl
 try simp only [Act.put,q7a,q7b,q7c,q7d,q7e,q7f]
 refine wpAnyH_take (i := 17) (v := ?_) rfl (by kernel_rfl) (by kernel_rfl) (by kernel_rfl) (fun _ _ _ h => h) (Or.inl ⟨by rfl, ?_⟩) hHeld ?_
 rotate_left
 ·intro w' hSw
  obtain ⟨y1,y2,y3,y4,y5,y6,yl,_,_⟩ := hSw
  go_simp
  try with_reducible rfl
 try simp only [Act.put,q7a,q7b,q7c,q7d,q7e,q7f]
 refine wpAnyH_take (i := 19) (v := .agg C) rfl (by kernel_rfl) (by kernel_rfl) (by kernel_rfl) (fun _ _ _ h => h) (Ce.yieldsIf_load_row (by rfl) 47 _ rfl BC rfl 47 C (0,0) _ (fun _ hw => hw.2.2.2.2.2.2.2.1) Tryz.underlying47 rfl hi18) hHeld ?_
 try simp only [Act.put,q7a,q7b,q7c,q7d,q7e,q7f]
 refine wpAnyH_take (i := 20) (v := ?_) rfl (by kernel_rfl) (by kernel_rfl) (by kernel_rfl) (fun _ _ _ h => h) (Or.inl ⟨by rfl, ?_⟩) hHeld ?_
 rotate_left
 ·intro w' hSw
  obtain ⟨y1,y2,y3,y4,y5,y6,yl,_,_⟩ := hSw
  go_simp
  try with_reducible rfl
 try simp only [Act.put,q7a,q7b,q7c,q7d,q7e,q7f]
 refine wpAnyH_take (i := 21) (v := ?_) rfl (by kernel_rfl) (by kernel_rfl) (by kernel_rfl) (fun _ _ _ h => h) (Or.inl ⟨by rfl, ?_⟩) hHeld ?_
 rotate_left
 ·intro w' hSw
  obtain ⟨y1,y2,y3,y4,y5,y6,yl,_,_⟩ := hSw
  go_simp
  try with_reducible rfl
 try simp only [Act.put,q7a,q7b,q7c,q7d,q7e,q7f]
 refine wpAnyH_take (i := 23) (v := ?_) rfl (by kernel_rfl) (by kernel_rfl) (by kernel_rfl) (fun _ _ _ h => h) (Or.inl ⟨by rfl, ?_⟩) hHeld ?_
 rotate_left
 ·intro w' hSw
  obtain ⟨y1,y2,y3,y4,y5,y6,yl,_,_⟩ := hSw
  go_simp
  try with_reducible rfl
 try simp only [Act.put,q7a,q7b,q7c,q7d,q7e,q7f]
 refine wpAnyH_take (i := 24) (v := ?_) rfl (by kernel_rfl) (by kernel_rfl) (by kernel_rfl) (fun _ _ _ h => h) (Or.inl ⟨by rfl, ?_⟩) hHeld ?_
 rotate_left
 ·intro w' hSw
  obtain ⟨y1,y2,y3,y4,y5,y6,yl,_,_⟩ := hSw
  go_simp
  try with_reducible rfl
 try simp only [Act.put,q7a,q7b,q7c,q7d,q7e,q7f]
 refine wpAnyH_ready (rs := [5]) (by kernel_rfl) (by simp) ?_
 refine AllReadyH.cons rfl (fun K hK => ?_) AllReadyH.nil
 go_simp
 go_wp2_with (go_at_call 148; refine (k1 _ (HB.out _ B1)).mono ?_; rintro e w2 ⟨rfl,b2⟩)
 have B2 : Below W0.heap.size W0 w2 := B1.trans (b2.mono B1.size)
 refine hK.out _ _ (HS.out _ B2) (fun hHeld => ?_)
 clear hK K
 try simp only [Act.put,q7a,q7b,q7c,q7d,q7e,q7f]
 refine wpAnyH_ready (rs := [13]) (by kernel_rfl) (by simp) ?_
 refine AllReadyH.cons rfl (fun K hK => ?_) AllReadyH.nil
 go_simp
 go_wp2_with (go_at_call 149; refine (k2 _ (HB.out _ B2)).mono ?_; rintro e w3 ⟨rfl,b3⟩)
 have B3 : Below W0.heap.size W0 w3 := B2.trans (b3.mono B2.size)
 refine hK.out _ _ (HS.out _ B3) (fun hHeld => ?_)
 clear hK K
 try simp only [Act.put,q7a,q7b,q7c,q7d,q7e,q7f]
 refine wpAnyH_ready (rs := [18]) (by kernel_rfl) (by simp) ?_
 refine AllReadyH.cons rfl (fun K hK => ?_) AllReadyH.nil
 go_simp
 go_wp2_with (go_at_call 150; refine (k3 _ (HB.out _ B3)).mono ?_; rintro e w4 ⟨rfl,b4⟩)
 have B4 : Below W0.heap.size W0 w4 := B3.trans (b4.mono B3.size)
 refine hK.out _ _ (HS.out _ B4) (fun hHeld => ?_)
 clear hK K
 try simp only [Act.put,q7a,q7b,q7c,q7d,q7e,q7f]
 refine wpAnyH_ready (rs := [22]) (by kernel_rfl) (by simp) ?_
 refine AllReadyH.cons rfl (fun K hK => ?_) AllReadyH.nil
 go_simp
 go_wp2_with (go_at_call 151; refine (k4 _ (HB.out _ B4)).mono ?_; rintro e w5 ⟨so,rfl,i5,b5⟩)
 have B5 : Below W0.heap.size W0 w5 := B4.trans (b5.mono B4.size)
 refine hK.out _ _ (HS.out _ B5) (fun hHeld => ?_)
 clear hK K
 try simp only [Act.put,q7a,q7b,q7c,q7d,q7e,q7f]
 refine wpAnyH_ready (rs := [25]) (by kernel_rfl) (by simp) ?_
 refine AllReadyH.cons rfl (fun K hK => ?_) AllReadyH.nil
 go_simp
 go_wp2_with (go_at_call 152; refine (k5 _ (HB.out _ B5)).mono ?_; rintro e w6 ⟨rfl,b6⟩)
 have B6 : Below W0.heap.size W0 w6 := B5.trans (b6.mono B5.size)
 refine hK.out _ _ (HS.out _ B6) (fun hHeld => ?_)
 clear hK K
 try simp only [Act.put,q7a,q7b,q7c,q7d,q7e,q7f]
 refine wpAnyH_take (i := 26) (v := ?_) rfl (by kernel_rfl) (by kernel_rfl) (by kernel_rfl) (fun _ _ _ h => h) (Or.inl ⟨by rfl, ?_⟩) hHeld ?_
 rotate_left
 ·intro w' hSw
  obtain ⟨y1,y2,y3,y4,y5,y6,yl,_,_⟩ := hSw
  go_simp
  try with_reducible rfl
 try simp only [Act.put,q7a,q7b,q7c,q7d,q7e,q7f]
 have Y6 := (B6.block _ (qa1 HY.out)).trans HY.out
 have I6 := qbi i5 b6
 have hi8 : (Tryz.prog.info? 56).map (·.size) = some (#[I x.prio,I vi, .bool x.full,I x.act, .int .u32 vm,I vn, .slice so.a so.n so.c, .int .u32 vb] : Array Value).size := by kernel_rfl
 have g7 : w6.grownBy (w6.setRow (w.heap.size + 1) #[I x.prio,I vi, .bool x.full,I x.act, .int .u32 vm,I vn, .slice so.a so.n so.c, .int .u32 vb]) (some (w.heap.size + 1)) := Ce.grown_row _ _ _
 have B7 : Below w.heap.size w (w6.setRow (w.heap.size + 1) #[I x.prio,I vi, .bool x.full,I x.act, .int .u32 vm,I vn, .slice so.a so.n so.c, .int .u32 vb]) := (HB.out _ B6).grown g7 (HB.out _ B6).size (fun k e => by cases e; omega)
 have I7 := qcg I6 Y6 (by decide) g7
 have Y7 : (w6.setRow (w.heap.size + 1) #[I x.prio,I vi, .bool x.full,I x.act, .int .u32 vm,I vn, .slice so.a so.n so.c, .int .u32 vb]).heap[w.heap.size + 1]? = some (.cells #[I x.prio,I vi, .bool x.full,I x.act, .int .u32 vm,I vn, .slice so.a so.n so.c, .int .u32 vb] 56 (0,0)) := setRow_heap _ _ _ _ _ _ Y6
 refine wpAnyH_ready (rs := [27]) (by kernel_rfl) (by simp) ?_
 refine AllReadyH.cons rfl (fun K hK => ?_) AllReadyH.nil
 rw [if_pos (by kernel_rfl)]
 refine wp_store_row 56 _ _ rfl (w.heap.size + 1) _ rfl rfl 56 _ Y6 hi8 rfl (by simp [Value.oneCell']) ?_
 have hS7 := HS.out _ B6
 have hlt6 : w.heap.size < w6.heap.size := by have := qa1 Y6; omega
 have q : ∀ b,b ≠ w.heap.size + 1 → b < w6.heap.size → ∀ i,(w6.setRow (w.heap.size + 1) #[I x.prio,I vi, .bool x.full,I x.act, .int .u32 vm,I vn, .slice so.a so.n so.c, .int .u32 vb]).cell? ⟨b,i,none⟩ = w6.cell? ⟨b,i,none⟩ := fun b hb hl i => World.cell?_of_block (qay g7 hl (fun e => hb (Option.some.inj e)))
 have q2 : ∀ b,b ≠ w.heap.size + 1 → b < w6.heap.size → (w6.setRow (w.heap.size + 1) #[I x.prio,I vi, .bool x.full,I x.act, .int .u32 vm,I vn, .slice so.a so.n so.c, .int .u32 vb]).heap[b]? = w6.heap[b]? := fun b hb hl => qay g7 hl (fun e => hb (Option.some.inj e))
 have l1 := qa1 HK.out.1
 have l2 := qa1 HK.out.2.1
 have l3 := qa1 HK.out.2.2
 have ls := (HB.out _ B6).size
 refine hK.out _ _ ⟨by rw [q _ (by omega) hlt6]; exact hS7.1,by rw [q _ (by omega) hlt6]; exact hS7.2.1,by rw [q _ (by omega) hlt6]; exact hS7.2.2.1,by rw [q _ (by omega) hlt6]; exact hS7.2.2.2.1,by rw [q _ (by omega) hlt6]; exact hS7.2.2.2.2.1,by rw [q _ (by omega) hlt6]; exact hS7.2.2.2.2.2.1,by rw [q _ (by omega) (by omega)]; exact hS7.2.2.2.2.2.2.1,by rw [q2 _ (by omega) (by omega)]; exact hS7.2.2.2.2.2.2.2.1,by rw [q2 _ (by omega) (by omega)]; exact hS7.2.2.2.2.2.2.2.2⟩ (fun hHeld => ?_)
 clear hK K q q2
 refine wpAnyH_done (by kernel_rfl) ?_ _
 go_wp2_with fail
 refine bodyPost_ret (v := .agg #[I x.prio,I vi, .bool x.full,I x.act, .int .u32 vm,I vn, .slice so.a so.n so.c, .int .u32 vb]) (quh Tryz.results147 _ (w.heap.size + 1) _ _ hi8 rfl Y7) rfl ?_
 exact ⟨so,rfl,I7,B7⟩
theorem qew : (Tryz.prog.info? 91).map (fun i => (i.zero,i.size,i.bytes)) = some (some (.agg #[.int .u32 0, .int .u32 0, .int .u32 0]),3,12) := by kernel_rfl
theorem qdq (w : World) (s : Sl) (l : List Ct) (hl : RowsAt w 4 (ctP) s l) (hll : l.length ≤ 1048576) (f : Nat) (caps : Array Value) (eg : ∀ args W,(callFunc f args).run Tryz.prog W = .ok (.enter f args) W) (mk : Ct → CtR)
  (hf : ∀ W,Below w.heap.size w W → ∀ x ∈ l,Calls Tryz.prog f (#[.agg #[S x.name, .int .u32 (x.max : Int), .int .u32 (x.base : Int), .int .u32 (x.min : Int)]] ++ caps) W fun e w' => e = .returned (.agg #[.int .u32 ((mk x).max : Int), .int .u32 ((mk x).base : Int), .int .u32 ((mk x).min : Int)]) ∧ Below W.heap.size W w') :
  Calls Tryz.prog 87 #[.slice s.a s.n s.c, .func (.func f) #[] caps] w fun e w' => (∃ a c xs,e = .returned (.slice a l.length c) ∧ w'.ownsRow w.heap.size 91 3 (.slice a l.length c) l.length xs ∧ RwX 3 (ctrP) (l.map mk) xs) ∧ Below w.heap.size w w' := by
 obtain ⟨im,him,hm0,hm1,hm2⟩ := info_parts qew
 have HS : Hid (s.n = l.length) := hl.n
 have hsn : s.n ≤ 1048576 := by have := hl.n; omega
 have hsc : s.n ≤ s.c := hl.c
 have hsm : s.c ≤ maxLen := hl.m
 unfold maxLen at hsm
 have HH : Hid (∀ W,Below w.heap.size w W → RowsAt W 4 (ctP) s l) := fun W hW => hl.below hW (fun _ _ _ _ h => h)
 have HFF : Hid (∀ W,Below w.heap.size w W → ∀ x ∈ l,Calls Tryz.prog f (#[.agg #[S x.name, .int .u32 (x.max : Int), .int .u32 (x.base : Int), .int .u32 (x.min : Int)]] ++ caps) W fun e w' => e = .returned (.agg #[.int .u32 ((mk x).max : Int), .int .u32 ((mk x).base : Int), .int .u32 ((mk x).min : Int)]) ∧ Below W.heap.size W w') := hf
 clear hl hf hll
 obtain ⟨w2,hmk,hO2,hg2⟩ := run_make_own (P := Tryz.prog) w w.heap.size 25 91 im _ 3 Tryz.underlying25 him hm0 hm1 .i64 .i64 s.n (by rw [hm2]; omega) (by unfold maxLen; omega) (Nat.le_refl _)
 have HO2 : Hid (w2.ownsRow w.heap.size 91 3 (.slice (some ⟨w.heap.size,0,none⟩) 0 s.n) 0 [] ∧ Below w.heap.size w w2) := ⟨hO2,qal hg2⟩
 clear hO2 hg2
 go_enter Tryz.func87,Tryz.ntmps87
 go_wp2
 clear hmk
 go_loopw [5,7,13] (fun ov _ iv wr => ∃ (j : Nat) (a : Option Addr) (c : Nat),j ≤ s.n ∧ iv = .int .i64 j ∧ ov = .slice a j c ∧ Hid (Below w.heap.size w wr ∧ ∃ xs,wr.ownsRow w.heap.size 91 3 (.slice a j c) j xs ∧ RwX 3 (ctrP) ((l.take j).map mk) xs)) (fun _ _ iv _ => s.n - (intOf iv).toNat)
 case atStart => exact ⟨0,_,_,by omega,rfl,rfl,HO2.out.2, [],HO2.out.1,RwX.nil _ _⟩
 case round =>
  obtain ⟨j,a,c,hj,rfl,rfl,HJ⟩ := hrel
  by_cases hlt : j < s.n
  ·have hlt' : (j : Int) < s.n := by omega
   obtain ⟨x,hx⟩ : ∃ x,l[j]? = some x := ⟨_,List.getElem?_eq_getElem (by rw [← HS.out]; exact hlt)⟩
   obtain ⟨g5,o5,e5,hg5,hr5⟩ := (HH.out _ HJ.out.1).row j x hx
   obtain ⟨u0,a0,q0⟩ := hr5 0 (by omega)
   obtain ⟨u1,a1,q1⟩ := hr5 1 (by omega)
   obtain ⟨u2,a2,q2⟩ := hr5 2 (by omega)
   obtain ⟨u3,a3,q3⟩ := hr5 3 (by omega)
   have f0 : u0 = S x.name := q0
   have f1 : u1 = .int .u32 (x.max : Int) := q1
   have f2 : u2 = .int .u32 (x.base : Int) := q2
   have f3 : u3 = .int .u32 (x.min : Int) := q3
   subst f0 f1 f2 f3
   rw [Nat.add_zero] at a0
   have bX : Below wr.heap.size wr (wr.alloc (.cells #[S x.name, .int .u32 (x.max : Int), .int .u32 (x.base : Int), .int .u32 (x.min : Int)] 111)) := qa0 wr _
   have bW : Below w.heap.size w (wr.alloc (.cells #[S x.name, .int .u32 (x.max : Int), .int .u32 (x.base : Int), .int .u32 (x.min : Int)] 111)) := HJ.out.1.trans (bX.mono HJ.out.1.size)
   have hXX := heap_alloc_new wr (.cells #[S x.name, .int .u32 (x.max : Int), .int .u32 (x.base : Int), .int .u32 (x.min : Int)] 111)
   have cx := HFF.out _ bW x (List.mem_of_getElem? hx)
   have HTk : Hid ((l.take (j + 1)).map mk = (l.take j).map mk ++ [mk x]) := qcf mk hx
   have HJ0 : Hid (∃ xs,(wr.alloc (.cells #[S x.name, .int .u32 (x.max : Int), .int .u32 (x.base : Int), .int .u32 (x.min : Int)] 111)).ownsRow w.heap.size 91 3 (.slice a j c) j xs ∧ RwX 3 (ctrP) ((l.take j).map mk) xs) := by
    obtain ⟨_,xs,h1,h2⟩ := HJ.out
    exact ⟨xs,qa6 h1 bX,h2⟩
   rw [e5]
   clear hx e5 hr5 hg5 HJ q0 q1 q2 q3
   go_upto_region 5 with fail
   have HXS : Hid (wr.heap.size < (wr.alloc (.cells #[S x.name, .int .u32 (x.max : Int), .int .u32 (x.base : Int), .int .u32 (x.min : Int)] 111)).heap.size) := by show _ < _; simp
   generalize wr.heap.size = X at *
   generalize (wr.alloc (.cells #[S x.name, .int .u32 (x.max : Int), .int .u32 (x.base : Int), .int .u32 (x.min : Int)] 111)) = W0 at *
   have hi97 : (Tryz.prog.info? 111).map (·.size) = some (#[S x.name, .int .u32 (x.max : Int), .int .u32 (x.base : Int), .int .u32 (x.min : Int)] : Array Value).size := by kernel_rfl
   have HBW : Hid (Below w.heap.size w W0) := bW
   clear bW bX
   go_wp2_with (first
    | (with_reducible refine qa8 ?_; refine wpList_load_row rfl 111 _ rfl X rfl 111 _ (0,0) _ hXX Tryz.underlying111 rfl hi97 ?_))
   refine cx.mono ?_
   clear cx
   rintro e7 w7 ⟨rfl,hb7⟩
   have B7 : Below w.heap.size w w7 := HBW.out.trans (hb7.mono HBW.out.size)
   obtain ⟨xs,h1,h2⟩ := HJ0.out
   have o7 := qa6 h1 hb7
   have HX7 : Hid (RwX 3 (ctrP) ((l.take j).map mk) xs) := h2
   clear h1 h2 hb7 HJ0
   have s7 := B7.size
   have hjl : j ≤ 1048576 := by omega
   have hnew := qb8 w7 #[.int .u32 ((mk x).max : Int), .int .u32 ((mk x).base : Int), .int .u32 ((mk x).min : Int)] 91
   have hone : ∀ u ∈ (#[.int .u32 ((mk x).max : Int), .int .u32 ((mk x).base : Int), .int .u32 ((mk x).min : Int)] : Array Value).toList,u.oneCell' = true := by intro u hu; simp at hu; rcases hu with e | e | e <;> (subst e; rfl)
   go_wp2_with (first
    | (at_builtin; refine wpList_append_own _ rfl (.tmp 17) (.tmp 21) 25 rfl w.heap.size 91 im _ 3 12 Tryz.underlying25 him hm0 hm1 hm2 rfl (by decide) _ _ _ rfl (o7.alloc _) ⟨w7.heap.size,0,none⟩ 1 1 (#[.int .u32 ((mk x).max : Int), .int .u32 ((mk x).base : Int), .int .u32 ((mk x).min : Int)] : Array Value).toList rfl rfl hnew hone (by unfold maxLen; omega) (by omega) (by simp; omega) ?_))
   intro v8 w8 o8 g8 _
   obtain ⟨a8,k8,rfl⟩ := qbc o8
   have b8 : Below w7.heap.size w7 (w7.alloc (.cells #[.int .u32 ((mk x).max : Int), .int .u32 ((mk x).base : Int), .int .u32 ((mk x).min : Int)] 91)) := qa0 w7 _
   have H9 : Hid (Below w.heap.size w w8 ∧ ∃ xs,w8.ownsRow w.heap.size 91 3 (.slice a8 (j + 1) k8) (j + 1) xs ∧ RwX 3 (ctrP) ((l.take (j + 1)).map mk) xs) := by
    refine ⟨(B7.alloc B7.size _).grown g8 (by simp; omega) (fun k e => (o7.lt k e).1),_,o8, ?_⟩
    rw [HTk.out]
    refine RwX.snoc (HX7.out) _ _ rfl (fun i hi => ?_)
    rcases (by omega : i = 0 ∨ i = 1 ∨ i = 2) with e | e | e
    ·subst e; exact ⟨_,rfl,rfl⟩
    ·subst e; exact ⟨_,rfl,rfl⟩
    ·subst e; exact ⟨_,rfl,rfl⟩
   clear o8 g8 o7 B7 hnew hone b8
   go_wp2
   go_roundw
   case rel => exact ⟨j + 1,a8,k8,by omega,by go_num,rfl,H9.out⟩
   case measure => simp [intOf]; omega
  ·obtain rfl : j = s.n := by omega
   have hlt' : ¬ ((s.n : Nat) : Int) < (s.n : Nat) := by omega
   have HE : Hid (Below w.heap.size w wr ∧ ∃ xs,wr.ownsRow w.heap.size 91 3 (.slice a s.n c) s.n xs ∧ RwX 3 (ctrP) (l.map mk) xs) := by
    have := HJ.out
    rwa [List.take_of_length_le (by rw [HS.out]; exact Nat.le_refl _)] at this
   clear HJ
   go_wp2
   go_ret
   obtain ⟨h1,xs,h2,h3⟩ := HE.out
   rw [← HS.out]
   first | exact ⟨⟨a,c,xs,rfl,h2,h3⟩,h1⟩ | exact ⟨⟨a,c,rfl,xs,h2,h3⟩,h1⟩
end Go.Proofs.YtmidaeljeoifdaaGreatDoor
