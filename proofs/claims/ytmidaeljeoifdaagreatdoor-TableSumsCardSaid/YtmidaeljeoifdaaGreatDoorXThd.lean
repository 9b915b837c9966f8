import Derived.Test.YtmidaeljeoifdaaGreatDoorXTgy
import Derived.Test.YtmidaeljeoifdaaGreatDoorXKrb
namespace Go.Proofs.YtmidaeljeoifdaaGreatDoor
open Go.Maps Go.RowKit Go.Shelf Go.Sort
set_option linter.unusedSimpArgs false
set_option linter.unusedVariables false
set_option maxHeartbeats 16000000
set_option maxRecDepth 100000
theorem qa8 {P : Program} {ops : Array Oper} {Q : Exit → Act → World → Prop} {l : List Oper} {a : Act} {w : World} (h : wpList P ops Q l a w) : wpList P ops Q l a w := h
theorem qqf {W W' : World} {b1 b2 E1 E2 k1 k2 n m : Nat} {u v : Value} {xs ys : List Value} (h : W.ownsRow b1 E1 k1 u n xs) (h2 : W.ownsRow b2 E2 k2 v m ys) (hne : E1 ≠ E2) (hg : W.grownBy W' v.ownBlock) : W'.ownsRow b1 E1 k1 u n xs := by
 refine h.kept hg ?_
 rcases h.2 with ⟨h0,_⟩ | ⟨g,cap,cur,hv,_,hh,_⟩
 ·rw [h0]; exact .inl rfl
 ·right
  intro e
  rcases h2.2 with ⟨h0,_⟩ | ⟨g',cap',cur',hv',_,hh',_⟩
  ·rw [h0,hv] at e; cases e
  ·rw [hv,hv'] at e
   have e3 : g = g' := Option.some.inj e
   rw [e3,hh'] at hh
   injection hh with hh
   injection hh with _ e4
   exact hne e4.symm
def qa9 (w : World) (base : Nat) (l : List Int) (u : Value) : Prop := w.ownsRow base 3 1 u l.length (l.map fun x => I x)
theorem qbi {w w' : World} {base : Nat} {l : List Int} {u : Value} (h : qa9 w base l u) (hb : Below w.heap.size w w') : qa9 w' base l u := qa6 h hb
theorem qd4 {w w' : World} {base b2 E2 k2 m : Nat} {l : List Int} {u v : Value} {ys : List Value} (h : qa9 w base l u) (h2 : w.ownsRow b2 E2 k2 v m ys) (hg : w.grownBy w' v.ownBlock) (hne : 3 ≠ E2) : qa9 w' base l u := qqf h h2 hne hg
theorem qla {w : World} {base : Nat} {l : List Int} {u : Value} (h : qa9 w base l u) : IntsV w l u := by
 obtain ⟨a,c,rfl⟩ := qbc h
 exact ⟨⟨a,l.length,c⟩,rfl,qdg (s := ⟨a,l.length,c⟩) rfl h⟩
def tkO9 (w : World) (base : Nat) (x : TkR) (i : Nat) (u : Value) : Prop := match i with | 0 => u = I x.prio | 1 => u = I x.ring | 2 => u = .bool x.full | 3 => u = I x.limit | 4 => u = .int .u32 (x.mask : Int) | 5 => u = I x.inner | 6 => qa9 w base x.own u | _ => u = .int .u32 (x.auto : Int)
def isO9 (w : World) (base : Nat) (x : IsR) (i : Nat) (u : Value) : Prop := match i with | 0 => u = I x.cat | 1 => u = I x.prio | _ => qa9 w base x.own u
theorem qdh {w w' : World} {base : Nat} {x : TkR} {i : Nat} {u : Value} (h : tkO9 w base x i u) (hb : Below w.heap.size w w') : tkO9 w' base x i u := by
 unfold tkO9 at h ⊢
 split at h <;> first | exact h | exact qbi h hb
theorem qdi {w w' : World} {base : Nat} {x : IsR} {i : Nat} {u : Value} (h : isO9 w base x i u) (hb : Below w.heap.size w w') : isO9 w' base x i u := by
 unfold isO9 at h ⊢
 split at h <;> first | exact h | exact qbi h hb
theorem qo8 {w w' : World} {base b2 k2 m : Nat} {x : TkR} {i : Nat} {u v : Value} {ys : List Value} (h : tkO9 w base x i u) (h2 : w.ownsRow b2 56 k2 v m ys) (hg : w.grownBy w' v.ownBlock) : tkO9 w' base x i u := by
 unfold tkO9 at h ⊢
 split at h <;> first | exact h | exact qd4 h h2 hg (by decide)
theorem qo9 {w w' : World} {base b2 k2 m : Nat} {x : IsR} {i : Nat} {u v : Value} {ys : List Value} (h : isO9 w base x i u) (h2 : w.ownsRow b2 72 k2 v m ys) (hg : w.grownBy w' v.ownBlock) : isO9 w' base x i u := by
 unfold isO9 at h ⊢
 split at h <;> first | exact h | exact qd4 h h2 hg (by decide)
theorem qlb {w : World} {base : Nat} {x : TkR} {u : Value} : ∀ {i : Nat},tkO9 w base x i u → tkrP w x i u
 | 0,h => h
 | 1,h => h
 | 2,h => h
 | 3,h => h
 | 4,h => h
 | 5,h => h
 | 6,h => qla h
 | _ + 7,h => h
theorem qqg {w : World} {base : Nat} {x : IsR} {u : Value} : ∀ {i : Nat},isO9 w base x i u → isrP w x i u
 | 0,h => h
 | 1,h => h
 | _ + 2,h => qla h
theorem qem {w w' : World} {x : Tk} {i : Nat} {u : Value} (h : tkP w x i u) (hb : Below w.heap.size w w') : tkP w' x i u := by
 unfold tkP at h ⊢
 split at h <;> first | exact h | exact IntsV.below h hb
theorem qoa {w w' : World} {x : Al} {i : Nat} {u : Value} (h : alP w x i u) (hb : Below w.heap.size w w') : alP w' x i u := by
 unfold alP at h ⊢
 split at h <;> first | exact h | exact IntsV.below h hb
theorem qob {w w' : World} {x : Is} {i : Nat} {u : Value} (h : isP w x i u) (hb : Below w.heap.size w w') : isP w' x i u := by
 unfold isP at h ⊢
 split at h <;> first | exact h | exact IntsV.below h hb
theorem qjf (w : World) (s : Sl) (l : List Tk) (hl : RowsAt w 8 (tkP w) s l) (hll : l.length ≤ 1048576) (f : Nat) (caps : Array Value) (eg : ∀ args W,(callFunc f args).run Tryz.prog W = .ok (.enter f args) W) (mk : Tk → Int)
  (hf : ∀ W,Below w.heap.size w W → ∀ x ∈ l, ∀ s4 : Sl,RowsAt W 1 intP s4 x.auto → ∀ s5 : Sl,RowsAt W 1 intP s5 x.res → ∀ s6 : Sl,RowsAt W 1 intP s6 x.evs → ∀ s7 : Sl,RowsAt W 1 intP s7 x.msgs → Calls Tryz.prog f (#[.agg #[S x.name,I x.prio, .bool x.full,I x.act, .slice s4.a s4.n s4.c, .slice s5.a s5.n s5.c, .slice s6.a s6.n s6.c, .slice s7.a s7.n s7.c]] ++ caps) W fun e w' => e = .returned (I (mk x)) ∧ Below W.heap.size W w') :
  Calls Tryz.prog 136 #[.slice s.a s.n s.c, .func (.func f) #[] caps] w fun e w' => (∃ a c xs,e = .returned (.slice a l.length c) ∧ w'.ownsRow w.heap.size 3 1 (.slice a l.length c) l.length xs ∧ RwX 1 (intP) (l.map mk) xs) ∧ Below w.heap.size w w' := by
 obtain ⟨im,him,hm0,hm1,hm2⟩ := info_parts qhl
 have HS : Hid (s.n = l.length) := hl.n
 have hsn : s.n ≤ 1048576 := by have := hl.n; omega
 have hsc : s.n ≤ s.c := hl.c
 have hsm : s.c ≤ maxLen := hl.m
 unfold maxLen at hsm
 have HH : Hid (∀ W,Below w.heap.size w W → RowsAt W 8 (tkP W) s l) := fun W hW => hl.below hW (fun x i u _ h => qem h hW)
 have HFF : Hid (∀ W,Below w.heap.size w W → ∀ x ∈ l, ∀ s4 : Sl,RowsAt W 1 intP s4 x.auto → ∀ s5 : Sl,RowsAt W 1 intP s5 x.res → ∀ s6 : Sl,RowsAt W 1 intP s6 x.evs → ∀ s7 : Sl,RowsAt W 1 intP s7 x.msgs → Calls Tryz.prog f (#[.agg #[S x.name,I x.prio, .bool x.full,I x.act, .slice s4.a s4.n s4.c, .slice s5.a s5.n s5.c, .slice s6.a s6.n s6.c, .slice s7.a s7.n s7.c]] ++ caps) W fun e w' => e = .returned (I (mk x)) ∧ Below W.heap.size W w') := hf
 clear hl hf hll
 obtain ⟨w2,hmk,hO2,hg2⟩ := run_make_own (P := Tryz.prog) w w.heap.size 54 3 im _ 1 Tryz.underlying54 him hm0 hm1 .i64 .i64 s.n (by rw [hm2]; omega) (by unfold maxLen; omega) (Nat.le_refl _)
 have HO2 : Hid (w2.ownsRow w.heap.size 3 1 (.slice (some ⟨w.heap.size,0,none⟩) 0 s.n) 0 [] ∧ Below w.heap.size w w2) := ⟨hO2,qal hg2⟩
 clear hO2 hg2
 go_enter Tryz.func136,Tryz.ntmps136
 go_wp2
 clear hmk
 go_loopw [5,7,13] (fun ov _ iv wr => ∃ (j : Nat) (a : Option Addr) (c : Nat),j ≤ s.n ∧ iv = .int .i64 j ∧ ov = .slice a j c ∧ Hid (Below w.heap.size w wr ∧ ∃ xs,wr.ownsRow w.heap.size 3 1 (.slice a j c) j xs ∧ RwX 1 (intP) ((l.take j).map mk) xs)) (fun _ _ iv _ => s.n - (intOf iv).toNat)
 case atStart => exact ⟨0,_,_,by omega,rfl,rfl,HO2.out.2, [],HO2.out.1,RwX.nil _ _⟩
 case round =>
  obtain ⟨j,a,c,hj,rfl,rfl,HJ⟩ := hrel
  by_cases hlt : j < s.n
  ·have hlt' : (j : Int) < s.n := by omega
   obtain ⟨x,hx⟩ : ∃ x,l[j]? = some x := ⟨_,List.getElem?_eq_getElem (by rw [← HS.out]; exact hlt)⟩
   obtain ⟨g5,o5,e5,hg5,hr5⟩ := (HH.out _ HJ.out.1).row j x hx
   obtain ⟨u0,a0,q0⟩ := hr5 0 (by omega)
   obtain ⟨u1,a1,q1⟩ := hr5 1 (by omega)
   obtain ⟨u2,a2,q2⟩ := hr5 2 (by omega)
   obtain ⟨u3,a3,q3⟩ := hr5 3 (by omega)
   obtain ⟨u4,a4,q4⟩ := hr5 4 (by omega)
   obtain ⟨u5,a5,q5⟩ := hr5 5 (by omega)
   obtain ⟨u6,a6,q6⟩ := hr5 6 (by omega)
   obtain ⟨u7,a7,q7⟩ := hr5 7 (by omega)
   have f0 : u0 = S x.name := q0
   have f1 : u1 = I x.prio := q1
   have f2 : u2 = .bool x.full := q2
   have f3 : u3 = I x.act := q3
   obtain ⟨s4,f4,r4⟩ := (show IntsV wr x.auto u4 from q4)
   obtain ⟨s5,f5,r5⟩ := (show IntsV wr x.res u5 from q5)
   obtain ⟨s6,f6,r6⟩ := (show IntsV wr x.evs u6 from q6)
   obtain ⟨s7,f7,r7⟩ := (show IntsV wr x.msgs u7 from q7)
   subst f0 f1 f2 f3 f4 f5 f6 f7
   rw [Nat.add_zero] at a0
   have bX : Below wr.heap.size wr (wr.alloc (.cells #[S x.name,I x.prio, .bool x.full,I x.act, .slice s4.a s4.n s4.c, .slice s5.a s5.n s5.c, .slice s6.a s6.n s6.c, .slice s7.a s7.n s7.c] 58)) := qa0 wr _
   have bW : Below w.heap.size w (wr.alloc (.cells #[S x.name,I x.prio, .bool x.full,I x.act, .slice s4.a s4.n s4.c, .slice s5.a s5.n s5.c, .slice s6.a s6.n s6.c, .slice s7.a s7.n s7.c] 58)) := HJ.out.1.trans (bX.mono HJ.out.1.size)
   have hXX := heap_alloc_new wr (.cells #[S x.name,I x.prio, .bool x.full,I x.act, .slice s4.a s4.n s4.c, .slice s5.a s5.n s5.c, .slice s6.a s6.n s6.c, .slice s7.a s7.n s7.c] 58)
   have cx := HFF.out _ bW x (List.mem_of_getElem? hx) s4 (r4.below bX (fun _ _ _ _ h => h)) s5 (r5.below bX (fun _ _ _ _ h => h)) s6 (r6.below bX (fun _ _ _ _ h => h)) s7 (r7.below bX (fun _ _ _ _ h => h))
   have HTk : Hid ((l.take (j + 1)).map mk = (l.take j).map mk ++ [mk x]) := qcf mk hx
   have HJ0 : Hid (∃ xs,(wr.alloc (.cells #[S x.name,I x.prio, .bool x.full,I x.act, .slice s4.a s4.n s4.c, .slice s5.a s5.n s5.c, .slice s6.a s6.n s6.c, .slice s7.a s7.n s7.c] 58)).ownsRow w.heap.size 3 1 (.slice a j c) j xs ∧ RwX 1 (intP) ((l.take j).map mk) xs) := by
    obtain ⟨_,xs,h1,h2⟩ := HJ.out
    exact ⟨xs,qa6 h1 bX,h2⟩
   rw [e5]
   clear hx e5 hr5 hg5 HJ q0 q1 q2 q3
   go_upto_region 5 with fail
   have HXS : Hid (wr.heap.size < (wr.alloc (.cells #[S x.name,I x.prio, .bool x.full,I x.act, .slice s4.a s4.n s4.c, .slice s5.a s5.n s5.c, .slice s6.a s6.n s6.c, .slice s7.a s7.n s7.c] 58)).heap.size) := by show _ < _; simp
   generalize wr.heap.size = X at *
   generalize (wr.alloc (.cells #[S x.name,I x.prio, .bool x.full,I x.act, .slice s4.a s4.n s4.c, .slice s5.a s5.n s5.c, .slice s6.a s6.n s6.c, .slice s7.a s7.n s7.c] 58)) = W0 at *
   have hi97 : (Tryz.prog.info? 58).map (·.size) = some (#[S x.name,I x.prio, .bool x.full,I x.act, .slice s4.a s4.n s4.c, .slice s5.a s5.n s5.c, .slice s6.a s6.n s6.c, .slice s7.a s7.n s7.c] : Array Value).size := by kernel_rfl
   have HBW : Hid (Below w.heap.size w W0) := bW
   clear bW bX
   go_wp2_with (first
    | (with_reducible refine qa8 ?_; refine wpList_load_row rfl 58 _ rfl X rfl 58 _ (0,0) _ hXX Tryz.underlying58 rfl hi97 ?_))
   refine cx.mono ?_
   clear cx
   rintro e7 w7 ⟨rfl,hb7⟩
   have B7 : Below w.heap.size w w7 := HBW.out.trans (hb7.mono HBW.out.size)
   obtain ⟨xs,h1,h2⟩ := HJ0.out
   have o7 := qa6 h1 hb7
   have HX7 : Hid (RwX 1 (intP) ((l.take j).map mk) xs) := h2
   clear h1 h2 hb7 HJ0
   have s7 := B7.size
   have hjl : j ≤ 1048576 := by omega
   have hnew := qb8 w7 #[I (mk x)] 3
   have hone : ∀ u ∈ (#[I (mk x)] : Array Value).toList,u.oneCell' = true := by intro u hu; simp at hu; subst hu; rfl
   go_wp2_with (first
    | (at_builtin; refine wpList_append_own _ rfl (.tmp 17) (.tmp 21) 54 rfl w.heap.size 3 im _ 1 8 Tryz.underlying54 him hm0 hm1 hm2 rfl (by decide) _ _ _ rfl (o7.alloc _) ⟨w7.heap.size,0,none⟩ 1 1 (#[I (mk x)] : Array Value).toList rfl rfl hnew hone (by unfold maxLen; omega) (by omega) (by simp; omega) ?_))
   intro v8 w8 o8 g8 _
   obtain ⟨a8,k8,rfl⟩ := qbc o8
   have b8 : Below w7.heap.size w7 (w7.alloc (.cells #[I (mk x)] 3)) := qa0 w7 _
   have H9 : Hid (Below w.heap.size w w8 ∧ ∃ xs,w8.ownsRow w.heap.size 3 1 (.slice a8 (j + 1) k8) (j + 1) xs ∧ RwX 1 (intP) ((l.take (j + 1)).map mk) xs) := by
    refine ⟨(B7.alloc B7.size _).grown g8 (by simp; omega) (fun k e => (o7.lt k e).1),_,o8, ?_⟩
    rw [HTk.out]
    refine RwX.snoc (HX7.out) _ _ rfl (fun i hi => ?_)
    obtain rfl : i = 0 := by omega
    exact ⟨_,rfl,rfl⟩
   clear o8 g8 o7 B7 hnew hone b8
   go_wp2
   go_roundw
   case rel => exact ⟨j + 1,a8,k8,by omega,by go_num,rfl,H9.out⟩
   case measure => simp [intOf]; omega
  ·obtain rfl : j = s.n := by omega
   have hlt' : ¬ ((s.n : Nat) : Int) < (s.n : Nat) := by omega
   have HE : Hid (Below w.heap.size w wr ∧ ∃ xs,wr.ownsRow w.heap.size 3 1 (.slice a s.n c) s.n xs ∧ RwX 1 (intP) (l.map mk) xs) := by
    have := HJ.out
    rwa [List.take_of_length_le (by rw [HS.out]; exact Nat.le_refl _)] at this
   clear HJ
   go_wp2
   go_ret
   obtain ⟨h1,xs,h2,h3⟩ := HE.out
   rw [← HS.out]
   first | exact ⟨⟨a,c,xs,rfl,h2,h3⟩,h1⟩ | exact ⟨⟨a,c,rfl,xs,h2,h3⟩,h1⟩
end Go.Proofs.YtmidaeljeoifdaaGreatDoor
namespace Go.Proofs.YtmidaeljeoifdaaGreatDoor
open Go.RowKit Go.Shelf Go.Sort
set_option linter.unusedSimpArgs false
set_option linter.unusedVariables false
set_option maxHeartbeats 16000000
set_option maxRecDepth 100000
theorem qoc (w : World) (s : Sl) (l : List Int) (h : RowsAt w 1 intP s l) (p : Int) : Calls Tryz.prog 148 #[.slice s.a s.n s.c,I p] w fun e w' => (∃ i : Int,e = .returned (I i) ∧ decide (0 ≤ i) = l.any (fun x => x == p)) ∧ w = w' := by
 have HS : Hid (s.n = l.length) := h.n
 have hsc : s.n ≤ s.c := h.c
 have hsm : s.c ≤ maxLen := h.m
 unfold maxLen at hsm
 have HH : Hid (RowsAt w 1 intP s l) := h
 obtain ⟨R,hR⟩ : ∃ R,R = l.any (fun x => x == p) := ⟨_,rfl⟩
 rw [← hR]
 have HR : Hid (R = l.any (fun x => x == p)) := hR
 clear h hR
 go_enter Tryz.func148,Tryz.ntmps148
 go_wp2
 go_loopw [5,8] (fun _ iv wr => ∃ j : Nat,j ≤ s.n ∧ iv = .int .i64 j ∧ Hid (w = wr ∧ (l.take j).any (fun x => x == p) = false)) (fun _ iv _ => s.n - (intOf iv).toNat)
 case atStart => exact ⟨0,by omega,rfl,rfl,by simp⟩
 case round =>
  obtain ⟨j,hj,rfl,HJ⟩ := hrel
  obtain rfl := HJ.out.1
  by_cases hlt : j < s.n
  ·have hlt' : (j : Int) < s.n := by omega
   obtain ⟨x,hx⟩ : ∃ x,l[j]? = some x := ⟨_,List.getElem?_eq_getElem (by rw [← HS.out]; exact hlt)⟩
   obtain ⟨g5,o5,e5,hg5,b5⟩ := qb9 HH.out hx
   have HT : Hid ((x == p) = true → R = true) := fun ht => by
    rw [HR.out,List.any_eq_true]
    exact ⟨x,List.mem_of_getElem? hx,ht⟩
   have HA : Hid ((x == p) = false → (l.take (j + 1)).any (fun x => x == p) = false) := fun ht => by
    rw [List.take_add_one,hx,Option.toList_some,List.any_append,HJ.out.2]
    simp [ht]
   rw [e5]
   clear hx e5 HJ
   by_cases he : p = x
   ·subst he
    have HE : Hid (R = true) := HT.out (by simp)
    clear HT HA
    go_wp2
    go_ret
    exact ⟨⟨j,rfl,by rw [HE.out]; simp⟩,rfl⟩
   ·have he1 : (p == x) = false := by simpa using he
    have HA2 : Hid ((l.take (j + 1)).any (fun x => x == p) = false) := HA.out (by simp; omega)
    clear HT HA he
    go_wp2
    go_roundw
    case rel => exact ⟨j + 1,by omega,by go_num,trivial,HA2.out⟩
    case measure => simp [intOf]; omega
  ·obtain rfl : j = s.n := by omega
   have hlt' : ¬ ((s.n : Nat) : Int) < (s.n : Nat) := by omega
   have HE : Hid (R = false) := by
    show _ = _
    rw [HR.out]
    have := HJ.out.2
    rwa [List.take_of_length_le (by rw [HS.out]; exact Nat.le_refl _)] at this
   clear HR HJ
   go_wp2
   go_ret
   exact ⟨⟨-1,rfl,by rw [HE.out]; rfl⟩,rfl⟩
theorem qjg (w : World) (s : Sl) (l : List Int) (h : RowsAt w 1 intP s l) (p : Int) : Calls Tryz.prog 110 #[.slice s.a s.n s.c,I p] w fun e w' => e = .returned (.bool (l.any (fun x => x == p))) ∧ w = w' := by
 have k := qoc w s l h p
 obtain ⟨R,hR⟩ : ∃ R,R = l.any (fun x => x == p) := ⟨_,rfl⟩
 rw [← hR] at k ⊢
 clear h hR
 go_enter Tryz.func110,Tryz.ntmps110
 go_wp2_with (go_at_call 148; refine k.mono ?_; clear k; rintro e w' ⟨⟨i,rfl,hi⟩,rfl⟩)
 go_ret
 exact ⟨rfl,rfl⟩
theorem que (w : World) : RowsAt (w.alloc (.cells #[I 1,I 2,I 4,I 8] 3)) 1 intP ⟨some ⟨w.heap.size,0,none⟩,4,4⟩ [1,2,4,8] := by
 refine ⟨rfl,Nat.le_refl _,(by show 4 ≤ maxLen; unfold maxLen; decide),fun j x hj => ⟨w.heap.size,0,rfl,by simp,fun i hi => ?_⟩⟩
 obtain rfl : i = 0 := by omega
 refine ⟨I x, ?_, ?_⟩
 ·rw [cell_of_row _ _ _ _ _ (0,0) (heap_alloc_new w _)]
  match j,hj with
  | 0,h => cases h; rfl
  | 1,h => cases h; rfl
  | 2,h => cases h; rfl
  | 3,h => cases h; rfl
 ·first | rfl | exact rfl | trivial
theorem qjh (x : MsR) (w : World) : Calls Tryz.prog 70 #[.agg (msrC x)] w fun e w' => e = .returned (.bool (fldB x)) ∧ Below w.heap.size w w' := by
 have hb : ∀ o,Below w.heap.size w (w.alloc o) := fun o => qa0 w o
 have hb4 : ∀ o q,Below w.heap.size w ((w.alloc o).alloc q) := fun o q => (hb o).trans ((qa0 _ _).mono (hb o).size)
 have kc : ∀ o,Calls Tryz.prog 110 #[.slice (some ⟨w.heap.size + 1,0,none⟩) 4 4,I x.len] ((w.alloc o).alloc (.cells #[I 1,I 2,I 4,I 8] 3)) fun e w' => e = .returned (.bool ([1,2,4,8].any (fun y => y == x.len))) ∧ ((w.alloc o).alloc (.cells #[I 1,I 2,I 4,I 8] 3)) = w' := fun o => by
  have := qjg _ _ _ (que (w.alloc o)) x.len
  rw [World.size_alloc] at this
  exact this
 have kq := qb4 x.queue 1 16
 obtain ⟨R,hR⟩ : ∃ R,R = fldB x := ⟨_,rfl⟩
 rw [← hR]
 unfold msrC at *
 by_cases k1 : x.kind = 1
 ·have k1' : (x.kind == 1) = true := by simpa using k1
  have HX : Hid (R = ([1,2,4,8].any (fun y => y == x.len) && (x.frm == 0) && ((x.init : Int) == 0) && (x.queue == 0))) := by
   show _ = _
   rw [hR]
   unfold fldB
   rw [if_pos k1,Bool.eq_iff_iff]
   simp
   omega
  clear hR k1
  generalize [1,2,4,8].any (fun y => y == x.len) = bb at *
  go_enter Tryz.func70,Tryz.ntmps70
  cases bb
  ·go_wp2_with (first | (go_at_call 110; refine (kc _).mono ?_; clear kc; rintro e w' ⟨rfl,rfl⟩))
   go_ret
   exact ⟨qa2 (by rw [HX.out]; simp),hb4 _ _⟩
  ·cases b2 : (x.frm == 0)
   ·rw [b2] at HX
    go_wp2_with (first | (go_at_call 110; refine (kc _).mono ?_; clear kc; rintro e w' ⟨rfl,rfl⟩))
    go_ret
    exact ⟨qa2 (by rw [HX.out]; simp),hb4 _ _⟩
   ·rw [b2] at HX
    cases b3 : ((x.init : Int) == 0)
    ·rw [b3] at HX
     go_wp2_with (first | (go_at_call 110; refine (kc _).mono ?_; clear kc; rintro e w' ⟨rfl,rfl⟩))
     go_ret
     exact ⟨qa2 (by rw [HX.out]; simp),hb4 _ _⟩
    ·rw [b3] at HX
     go_wp2_with (first | (go_at_call 110; refine (kc _).mono ?_; clear kc; rintro e w' ⟨rfl,rfl⟩))
     go_ret
     exact ⟨qa2 (by rw [HX.out]; simp),hb4 _ _⟩
 ·have k1' : (x.kind == 1) = false := by simpa using k1
  by_cases k2 : x.kind = 2
  ·have k2' : (x.kind == 2) = true := by simpa using k2
   have HX : Hid (R = ((x.len == 0) && decide ((x.init : Int) ≤ 4294967295) && (x.queue == 0))) := by
    show _ = _
    rw [hR]
    unfold fldB
    rw [if_neg k1,if_pos k2,Bool.eq_iff_iff]
    simp
    omega
   clear hR k1 k2 kc
   go_enter Tryz.func70,Tryz.ntmps70
   cases b1 : (x.len == 0)
   ·rw [b1] at HX
    go_wp2_with (first | (go_at_call 46; refine (kq _).mono ?_; clear kq; rintro e w' ⟨rfl,rfl⟩))
    go_ret
    exact ⟨qa2 (by rw [HX.out]; simp),hb _⟩
   ·rw [b1] at HX
    by_cases b2 : (x.init : Int) ≤ 4294967295
    ·have b2' : decide ((x.init : Int) ≤ 4294967295) = true := by simpa using b2
     rw [b2'] at HX
     go_wp2_with (first | (go_at_call 46; refine (kq _).mono ?_; clear kq; rintro e w' ⟨rfl,rfl⟩))
     go_ret
     exact ⟨qa2 (by rw [HX.out]; simp),hb _⟩
    ·have b2' : decide ((x.init : Int) ≤ 4294967295) = false := by simpa using b2
     rw [b2'] at HX
     go_wp2_with (first | (go_at_call 46; refine (kq _).mono ?_; clear kq; rintro e w' ⟨rfl,rfl⟩))
     go_ret
     exact ⟨qa2 (by rw [HX.out]; simp),hb _⟩
  ·have k2' : (x.kind == 2) = false := by simpa using k2
   by_cases k3 : x.kind = 3
   ·have k3' : (x.kind == 3) = true := by simpa using k3
    have HX : Hid (R = ((x.len == 0) && ((x.init : Int) == 0) && inI x.queue 1 16)) := by
     show _ = _
     rw [hR]
     unfold fldB
     rw [if_neg k1,if_neg k2,if_pos k3,Bool.eq_iff_iff]
     simp
    clear hR k1 k2 k3 kc
    generalize inI x.queue 1 16 = bq at *
    go_enter Tryz.func70,Tryz.ntmps70
    cases b1 : (x.len == 0)
    ·rw [b1] at HX
     go_wp2_with (first | (go_at_call 46; refine (kq _).mono ?_; clear kq; rintro e w' ⟨rfl,rfl⟩))
     go_ret
     exact ⟨qa2 (by rw [HX.out]; simp),hb _⟩
    ·rw [b1] at HX
     cases b2 : ((x.init : Int) == 0)
     ·rw [b2] at HX
      go_wp2_with (first | (go_at_call 46; refine (kq _).mono ?_; clear kq; rintro e w' ⟨rfl,rfl⟩))
      go_ret
      exact ⟨qa2 (by rw [HX.out]; simp),hb _⟩
     ·rw [b2] at HX
      go_wp2_with (first | (go_at_call 46; refine (kq _).mono ?_; clear kq; rintro e w' ⟨rfl,rfl⟩))
      go_ret
      exact ⟨qa2 (by rw [HX.out]; simp),hb _⟩
   ·have k3' : (x.kind == 3) = false := by simpa using k3
    have HX : Hid (R = false) := by
     show _ = _
     rw [hR]
     unfold fldB
     rw [if_neg k1,if_neg k2,if_neg k3]
    clear hR k1 k2 k3 kc
    go_enter Tryz.func70,Tryz.ntmps70
    go_wp2_with (first | (go_at_call 46; refine (kq _).mono ?_; clear kq; rintro e w' ⟨rfl,rfl⟩))
    go_ret
    exact ⟨qa2 (by rw [HX.out]),hb _⟩
end Go.Proofs.YtmidaeljeoifdaaGreatDoor
namespace Go.Proofs.YtmidaeljeoifdaaGreatDoor
open Go.Maps Go.RowKit Go.Shelf Go.Sort
set_option linter.unusedSimpArgs false
set_option linter.unusedVariables false
set_option maxHeartbeats 16000000
set_option maxRecDepth 100000
theorem qqh (w : World) (x : Tk) (s4 s5 s6 s7 : Sl) : Calls Tryz.prog 137 (#[.agg #[S x.name,I x.prio, .bool x.full,I x.act, .slice s4.a s4.n s4.c, .slice s5.a s5.n s5.c, .slice s6.a s6.n s6.c, .slice s7.a s7.n s7.c]] ++ #[]) w fun e w' => e = .returned (I x.prio) ∧ Below w.heap.size w w' := by
 have hb : ∀ o,Below w.heap.size w (w.alloc o) := fun o => qa0 w o
 go_enter Tryz.func137,Tryz.ntmps137
 go_wp2
 go_ret
 exact ⟨rfl,hb _⟩
structure UsR where
 said : Bool
 bit : Int
def usP (x : UsR) (i : Nat) (u : Value) : Prop := match i with | 0 => u = .bool x.said | _ => u = I x.bit
def usC (x : UsR) : Array Value := #[.bool x.said,I x.bit]
theorem qvj : (Tryz.prog.info? 219).map (fun i => (i.zero,i.size,i.bytes)) = some (some (.agg #[.bool false,I 0]),2,16) := by kernel_rfl
def qcp (l : List UsR) : List Value := l.flatMap (fun x => (usC x).toList)
theorem qod (l : List UsR) (x : UsR) : qcp (l ++ [x]) = qcp l ++ (usC x).toList := by simp [qcp]
theorem qlc : ∀ (l : List UsR) (j : Nat) (x : UsR) (i : Nat) (u : Value),l[j]? = some x → (usC x)[i]? = some u → i < 2 → (qcp l)[j * 2 + i]? = some u
 | [],j,x,i,u,h,_,_ => by simp at h
 | y :: r,0,x,i,u,h,hu,hi => by
  cases h
  have h8 : ((usC y).toList).length = 2 := rfl
  rw [qcp,List.flatMap_cons,Nat.zero_mul,Nat.zero_add,List.getElem?_append_left (by omega)]
  rw [Array.getElem?_toList]
  exact hu
 | y :: r,j + 1,x,i,u,h,hu,hi => by
  have ih := qlc r j x i u (by simpa using h) hu hi
  have h8 : ((usC y).toList).length = 2 := rfl
  rw [qcp,List.flatMap_cons,List.getElem?_append_right (by omega),show (j + 1) * 2 + i - ((usC y).toList).length = j * 2 + i by omega]
  exact ih
theorem qld {w : World} {b : Nat} {a : Option Addr} {c : Nat} {l : List UsR} (hl : l.length ≤ 1048576) (h : w.ownsRow b 219 2 (.slice a l.length c) l.length (qcp l)) : RowsAt w 2 usP ⟨a,l.length,c⟩ l := by
 rcases h.2 with ⟨h1,h0⟩ | ⟨g,cap,cur,h1,hb,hg,hnc,hcm,hcs,ht⟩
 ·have hn : l = [] := List.eq_nil_of_length_eq_zero h0
  subst hn
  injection h1 with e1 e2 e3
  subst e1 e3
  exact ⟨rfl,Nat.le_refl _,Nat.zero_le _,fun j x hj => by simp at hj⟩
 ·injection h1 with e1 e2 e3
  subst e1 e3
  refine ⟨rfl,hnc,hcm,fun j x hj => ⟨g,0,rfl,qa1 hg,fun i hi => ?_⟩⟩
  have hjl := (List.getElem?_eq_some_iff.1 hj).1
  have h8 : (usC x).size = 2 := rfl
  obtain ⟨u,hu⟩ : ∃ u,(usC x)[i]? = some u := ⟨_,Array.getElem?_eq_getElem (by omega)⟩
  refine ⟨u, ?_, ?_⟩
  ·rw [Nat.zero_add,h.cellAt (j * 2 + i) (by omega)]
   exact qlc l j x i u hj hu hi
  ·rcases (by omega : i = 0 ∨ i = 1) with e | e <;> (subst e; cases hu; rfl)
theorem qqi (w : World) (s : Sl) (l : List UsR) (hl : ∀ W,Below w.heap.size w W → RowsAt W 2 usP s l) (hll : l.length ≤ 1048576) (f : Nat) (caps : Array Value) (eg : ∀ args W,(callFunc f args).run Tryz.prog W = .ok (.enter f args) W) (p : UsR → Bool)
  (hf : ∀ W,Below w.heap.size w W → ∀ x ∈ l,Calls Tryz.prog f (#[.agg #[.bool x.said,I x.bit]] ++ caps) W fun e w' => e = .returned (.bool (p x)) ∧ Below W.heap.size W w') :
  Calls Tryz.prog 143 #[.slice s.a s.n s.c, .func (.func f) #[] caps] w fun e w' => (∃ a c,e = .returned (.slice a (l.filter p).length c) ∧ RowsAt w' 2 usP ⟨a,(l.filter p).length,c⟩ (l.filter p)) ∧ Below w.heap.size w w' := by
 obtain ⟨im,him,hm0,hm1,hm2⟩ := info_parts qvj
 have h0 := hl w (Below.refl _ _)
 have HS : Hid (s.n = l.length) := h0.n
 have hsc : s.n ≤ s.c := h0.c
 have hsm : s.c ≤ maxLen := h0.m
 unfold maxLen at hsm
 have HH : Hid (∀ W,Below w.heap.size w W → RowsAt W 2 usP s l) := hl
 have HFF : Hid (∀ W,Below w.heap.size w W → ∀ x ∈ l,Calls Tryz.prog f (#[.agg #[.bool x.said,I x.bit]] ++ caps) W fun e w' => e = .returned (.bool (p x)) ∧ Below W.heap.size W w') := hf
 have HLL : Hid (l.length ≤ 1048576) := hll
 clear hl hf h0 hll
 go_enter Tryz.func143,Tryz.ntmps143
 go_wp2
 go_loopw [5,7,10] (fun ov _ iv wr => ∃ (j q : Nat) (a : Option Addr) (c : Nat),j ≤ s.n ∧ iv = .int .i64 j ∧ ov = .slice a q c ∧ Hid (q = ((l.take j).filter p).length ∧ wr.ownsRow w.heap.size 219 2 (.slice a q c) q (qcp ((l.take j).filter p)) ∧ Below w.heap.size w wr)) (fun _ _ iv _ => s.n - (intOf iv).toNat)
 case atStart => exact ⟨0,0,none,0,by omega,rfl,rfl,by simp,World.ownsRow_nil _ _ _ _,Below.refl _ _⟩
 case round =>
  obtain ⟨j,q,a,c,hj,rfl,rfl,HJ⟩ := hrel
  by_cases hlt : j < s.n
  ·have hlt' : (j : Int) < s.n := by omega
   obtain ⟨x,hx⟩ : ∃ x,l[j]? = some x := ⟨_,List.getElem?_eq_getElem (by rw [← HS.out]; exact hlt)⟩
   obtain ⟨g5,o5,e5,hg5,hr5⟩ := (HH.out _ HJ.out.2.2).row j x hx
   obtain ⟨u0,a0,q0⟩ := hr5 0 (by omega)
   obtain ⟨u1,a1,q1⟩ := hr5 1 (by omega)
   have f0 : u0 = .bool x.said := q0
   have f1 : u1 = I x.bit := q1
   subst f0 f1
   rw [Nat.add_zero] at a0
   have bX : Below wr.heap.size wr (wr.alloc (.cells #[.bool x.said,I x.bit] 219)) := qa0 wr _
   have bW : Below w.heap.size w (wr.alloc (.cells #[.bool x.said,I x.bit] 219)) := HJ.out.2.2.trans (bX.mono HJ.out.2.2.size)
   have hXX := heap_alloc_new wr (.cells #[.bool x.said,I x.bit] 219)
   have cx := HFF.out _ bW x (List.mem_of_getElem? hx)
   have oX := qa6 HJ.out.2.1 bX
   have HTk : Hid (l.take (j + 1) = l.take j ++ [x]) := by show _ = _; rw [List.take_add_one,hx]; rfl
   have HQ : Hid (q = ((l.take j).filter p).length ∧ q ≤ 1048576) := ⟨HJ.out.1,by
    have h1 := HJ.out.1
    have h2 := List.length_filter_le p (l.take j)
    have h3 := HLL.out
    rw [List.length_take] at h2
    omega⟩
   rw [e5]
   clear hx e5 hr5 q0 q1 HJ
   go_upto_region 5 with fail
   generalize wr.heap.size = X at *
   generalize (wr.alloc (.cells #[.bool x.said,I x.bit] 219)) = W0 at *
   have HXX : Hid (∀ W,Below W0.heap.size W0 W → W.heap[X]? = some (.cells #[.bool x.said,I x.bit] 219)) := fun W hW => (hW.block X (qa1 hXX)).trans hXX
   have hi97 : (Tryz.prog.info? 219).map (·.size) = some (#[.bool x.said,I x.bit] : Array Value).size := by kernel_rfl
   have HO : Hid (∀ W,Below W0.heap.size W0 W → W.ownsRow w.heap.size 219 2 (.slice a q c) q (qcp ((l.take j).filter p))) := fun W hW => qa6 oX hW
   have HBW : Hid (Below w.heap.size w W0) := bW
   clear oX bW bX
   cases hpx : p x with
   | false =>
    rw [hpx] at cx
    go_wp2_with (first
     | (refine wpList_load_row rfl 219 _ rfl X rfl 219 _ (0,0) _ hXX Tryz.underlying219 rfl hi97 ?_))
    refine cx.mono ?_
    clear cx
    rintro e7 w7 ⟨rfl,hb7⟩
    have H9 : Hid (q = ((l.take (j + 1)).filter p).length ∧ w7.ownsRow w.heap.size 219 2 (.slice a q c) q (qcp ((l.take (j + 1)).filter p)) ∧ Below w.heap.size w w7) := by
     have e9 : (l.take (j + 1)).filter p = (l.take j).filter p := by rw [HTk.out,List.filter_append]; simp [hpx]
     rw [e9]
     exact ⟨HQ.out.1,HO.out w7 hb7,HBW.out.trans (hb7.mono HBW.out.size)⟩
    clear hb7
    go_wp2
    go_roundw
    case rel => exact ⟨j + 1,q,a,c,by omega,by go_num,rfl,H9.out⟩
    case measure => simp [intOf]; omega
   | true =>
    rw [hpx] at cx
    go_wp2_with (first
     | (refine wpList_load_row rfl 219 _ rfl X rfl 219 _ (0,0) _ hXX Tryz.underlying219 rfl hi97 ?_))
    refine cx.mono ?_
    clear cx
    rintro e7 w7 ⟨rfl,hb7⟩
    have hX7 := HXX.out w7 hb7
    have o7 := HO.out w7 hb7
    have b7 : Below w.heap.size w w7 := HBW.out.trans (hb7.mono HBW.out.size)
    clear hb7
    have hqq := HQ.out.2
    have s7 := b7.size
    go_wp2_with (first
     | (refine wpList_load_row rfl 219 _ rfl X rfl 219 _ (0,0) _ hX7 Tryz.underlying219 rfl hi97 ?_)
     | (at_builtin; refine wpList_append_own _ rfl (.tmp 17) (.tmp 19) 220 rfl w.heap.size 219 im _ 2 16 Tryz.underlying220 him hm0 hm1 hm2 rfl (by decide) _ _ _ rfl (o7.alloc _) ⟨w7.heap.size,0,none⟩ 1 1 (usC x).toList rfl rfl (fun jj uu hu => by rw [Addr.add_mid9,cell_of_row _ _ _ _ _ (0,0) (heap_alloc_new w7 _)]; rw [Nat.zero_add]; rw [Array.getElem?_toList] at hu; exact hu) (fun uu hu => (by unfold usC at hu; simp at hu; rcases hu with e | e <;> (subst e; rfl))) (by unfold maxLen; omega) (by omega) (by simp; omega) ?_))
    intro v8 w8 o8 g8 _
    obtain ⟨a8,k8,rfl⟩ := qbc o8
    have H9 : Hid (q + 1 = ((l.take (j + 1)).filter p).length ∧ w8.ownsRow w.heap.size 219 2 (.slice a8 (q + 1) k8) (q + 1) (qcp ((l.take (j + 1)).filter p)) ∧ Below w.heap.size w w8) := by
     have e9 : (l.take (j + 1)).filter p = (l.take j).filter p ++ [x] := by rw [HTk.out,List.filter_append]; simp [hpx]
     rw [e9,qod]
     refine ⟨by rw [List.length_append, ← HQ.out.1]; rfl,o8,(b7.alloc b7.size _).grown g8 (by simp; omega) (fun k e => (o7.lt k e).1)⟩
    clear o8 g8 o7 b7 hX7
    go_wp2
    go_roundw
    case rel => exact ⟨j + 1,q + 1,a8,k8,by omega,by go_num,rfl,H9.out⟩
    case measure => simp [intOf]; omega
  ·obtain rfl : j = s.n := by omega
   have hlt' : ¬ ((s.n : Nat) : Int) < (s.n : Nat) := by omega
   have HE : Hid (q = (l.filter p).length ∧ wr.ownsRow w.heap.size 219 2 (.slice a q c) q (qcp (l.filter p)) ∧ Below w.heap.size w wr) := by
    have := HJ.out
    rwa [List.take_of_length_le (by rw [HS.out]; exact Nat.le_refl _)] at this
   have Hll : Hid ((l.filter p).length ≤ 1048576) := Nat.le_trans (List.length_filter_le p l) HLL.out
   clear HJ
   go_wp2
   go_ret
   obtain ⟨h1,h2,h3⟩ := HE.out
   subst h1
   exact ⟨⟨a,c,rfl,qld Hll.out h2⟩,h3⟩
theorem qqj (w : World) (x : UsR) : Calls Tryz.prog 144 (#[.agg #[.bool x.said,I x.bit]] ++ #[]) w fun e w' => e = .returned (.bool x.said) ∧ Below w.heap.size w w' := by
 have hb : ∀ o,Below w.heap.size w (w.alloc o) := fun o => qa0 w o
 go_enter Tryz.func144,Tryz.ntmps144
 go_wp2
 go_ret
 exact ⟨rfl,hb _⟩
theorem qqk (w : World) (x : UsR) : Calls Tryz.prog 145 (#[.agg #[.bool x.said,I x.bit]] ++ #[]) w fun e w' => e = .returned (I x.bit) ∧ Below w.heap.size w w' := by
 have hb : ∀ o,Below w.heap.size w (w.alloc o) := fun o => qa0 w o
 go_enter Tryz.func145,Tryz.ntmps145
 go_wp2
 go_ret
 exact ⟨rfl,hb _⟩
theorem quf (w : World) (s : Sl) (l : List UsR) (hl : RowsAt w 2 usP s l) (hbd : ∀ x ∈ l,0 ≤ x.bit ∧ x.bit ≤ 128) (hll : l.length ≤ 8) : Calls Tryz.prog 142 #[.slice s.a s.n s.c, .func (.func 145) #[] #[]] w fun e w' => e = .returned (I ((l.map fun x => x.bit).sum)) ∧ Below w.heap.size w w' := by
 have eg := enters_of Tryz.func145 (by kernel_rfl) rfl
 have HS : Hid (s.n = l.length) := hl.n
 have hsn : s.n ≤ 8 := by have := hl.n; omega
 have hsc : s.n ≤ s.c := hl.c
 have hsm : s.c ≤ maxLen := hl.m
 unfold maxLen at hsm
 have HH : Hid (∀ W,Below w.heap.size w W → RowsAt W 2 usP s l) := fun W hW => hl.below hW (fun _ _ _ _ h => h)
 have HBD : Hid (∀ x ∈ l,0 ≤ x.bit ∧ x.bit ≤ 128) := hbd
 obtain ⟨R,hR⟩ : ∃ R,R = (l.map fun x => x.bit).sum := ⟨_,rfl⟩
 rw [← hR]
 have HR : Hid (R = (l.map fun x => x.bit).sum) := hR
 clear hl hbd hll hR
 go_enter Tryz.func142,Tryz.ntmps142
 go_wp2
 go_loopw [5,7,10] (fun ov _ iv wr => ∃ (j : Nat) (t : Int),j ≤ s.n ∧ iv = .int .i64 j ∧ ov = I t ∧ 0 ≤ t ∧ t ≤ 128 * (j : Int) ∧ Hid (t = ((l.take j).map fun x => x.bit).sum ∧ Below w.heap.size w wr)) (fun _ _ iv _ => s.n - (intOf iv).toNat)
 case atStart => exact ⟨0,0,by omega,rfl,rfl,by omega,by omega,by simp,Below.refl _ _⟩
 case round =>
  obtain ⟨j,t,hj,rfl,rfl,ht0,ht1,HJ⟩ := hrel
  by_cases hlt : j < s.n
  ·have hlt' : (j : Int) < s.n := by omega
   obtain ⟨x,hx⟩ : ∃ x,l[j]? = some x := ⟨_,List.getElem?_eq_getElem (by rw [← HS.out]; exact hlt)⟩
   obtain ⟨g5,o5,e5,hg5,hr5⟩ := (HH.out _ HJ.out.2).row j x hx
   obtain ⟨u0,a0,q0⟩ := hr5 0 (by omega)
   obtain ⟨u1,a1,q1⟩ := hr5 1 (by omega)
   have f0 : u0 = .bool x.said := q0
   have f1 : u1 = I x.bit := q1
   subst f0 f1
   rw [Nat.add_zero] at a0
   have hbx := HBD.out x (List.mem_of_getElem? hx)
   obtain ⟨hb0,hb1⟩ := hbx
   have HN : Hid (t + x.bit = ((l.take (j + 1)).map fun x => x.bit).sum) := by
    show _ = _
    rw [List.take_add_one,hx,Option.toList_some,List.map_append,List.sum_append, ← HJ.out.1]
    simp
   have bX : Below wr.heap.size wr (wr.alloc (.cells #[.bool x.said,I x.bit] 219)) := qa0 wr _
   have hXX := heap_alloc_new wr (.cells #[.bool x.said,I x.bit] 219)
   have cx := qqk (wr.alloc (.cells #[.bool x.said,I x.bit] 219)) x
   have HBW : Hid (Below w.heap.size w (wr.alloc (.cells #[.bool x.said,I x.bit] 219))) := HJ.out.2.trans (bX.mono HJ.out.2.size)
   have hi2 : (Tryz.prog.info? 219).map (·.size) = some (#[.bool x.said,I x.bit] : Array Value).size := by kernel_rfl
   rw [e5]
   clear hx e5 hr5 hg5 q0 q1 HJ bX
   go_upto_region 5 with fail
   generalize wr.heap.size = X at *
   generalize (wr.alloc (.cells #[.bool x.said,I x.bit] 219)) = W0 at *
   generalize x.bit = xb at *
   go_wp2_with (first
    | (with_reducible refine qa8 ?_; refine wpList_load_row rfl 219 _ rfl X rfl 219 _ (0,0) _ hXX Tryz.underlying219 rfl hi2 ?_))
   refine cx.mono ?_
   clear cx
   rintro e7 w7 ⟨rfl,hb7⟩
   have HB7 : Hid (Below w.heap.size w w7) := HBW.out.trans (hb7.mono HBW.out.size)
   clear hb7 hXX a0 a1
   go_wp2
   go_roundw
   case rel => exact ⟨j + 1,t + xb,by omega,by go_num,by go_num,by omega,by omega,HN.out,HB7.out⟩
   case measure => simp [intOf]; omega
  ·obtain rfl : j = s.n := by omega
   have hlt' : ¬ ((s.n : Nat) : Int) < (s.n : Nat) := by omega
   have HE : Hid (t = R ∧ Below w.heap.size w wr) := by
    have := HJ.out
    rw [List.take_of_length_le (by rw [HS.out]; exact Nat.le_refl _), ← HR.out] at this
    exact this
   clear HJ
   go_wp2
   go_ret
   obtain ⟨rfl,hb⟩ := HE.out
   exact ⟨rfl,hb⟩
def usL (o1 o2 o3 o4 o5 o6 o7 o8 : Bool) : List UsR := [⟨o1,1⟩,⟨o2,2⟩,⟨o3,4⟩,⟨o4,8⟩,⟨o5,16⟩,⟨o6,32⟩,⟨o7,64⟩,⟨o8,128⟩]
def usN (o1 o2 o3 o4 o5 o6 o7 o8 : Bool) : Int := (((usL o1 o2 o3 o4 o5 o6 o7 o8).filter fun x => x.said).map fun x => x.bit).sum
theorem qug {w : World} (g : Nat) (o1 o2 o3 o4 o5 o6 o7 o8 : Bool) (h : w.heap[g]? = some (.cells #[.bool o1,I 1, .bool o2,I 2, .bool o3,I 4, .bool o4,I 8, .bool o5,I 16, .bool o6,I 32, .bool o7,I 64, .bool o8,I 128] 219)) : RowsAt w 2 usP ⟨some ⟨g,0,none⟩,8,8⟩ (usL o1 o2 o3 o4 o5 o6 o7 o8) := by
 refine ⟨rfl,Nat.le_refl _,by show (8 : Nat) ≤ _; unfold maxLen; omega,fun j x hj => ⟨g,0,rfl,qa1 h,fun i hi => ?_⟩⟩
 rw [Nat.zero_add,cell_of_row w g _ _ _ (0,0) h]
 have hj8 : j < 8 := (List.getElem?_eq_some_iff.1 hj).1
 unfold usL at hj
 rcases (by omega : j = 0 ∨ j = 1 ∨ j = 2 ∨ j = 3 ∨ j = 4 ∨ j = 5 ∨ j = 6 ∨ j = 7) with e | e | e | e | e | e | e | e <;> (subst e; cases hj; rcases (by omega : i = 0 ∨ i = 1) with e | e <;> (subst e; exact ⟨_,rfl,rfl⟩))
theorem qsl (w : World) (n : List UInt8) (o1 o2 o3 o4 o5 o6 o7 o8 : Bool) : Calls Tryz.prog 84 #[.agg #[S n, .bool o1, .bool o2, .bool o3, .bool o4, .bool o5, .bool o6, .bool o7, .bool o8]] w fun e w' => e = .returned (I (usN o1 o2 o3 o4 o5 o6 o7 o8)) ∧ Below w.heap.size w w' := by
 have B1 : Below w.heap.size w ((w.alloc (.cells #[S n, .bool o1, .bool o2, .bool o3, .bool o4, .bool o5, .bool o6, .bool o7, .bool o8] 37)).alloc (.cells #[.bool o1,I 1, .bool o2,I 2, .bool o3,I 4, .bool o4,I 8, .bool o5,I 16, .bool o6,I 32, .bool o7,I 64, .bool o8,I 128] 219)) := (qa0 w _).trans ((qa0 _ _).mono (by simp))
 have hU : ((w.alloc (.cells #[S n, .bool o1, .bool o2, .bool o3, .bool o4, .bool o5, .bool o6, .bool o7, .bool o8] 37)).alloc (.cells #[.bool o1,I 1, .bool o2,I 2, .bool o3,I 4, .bool o4,I 8, .bool o5,I 16, .bool o6,I 32, .bool o7,I 64, .bool o8,I 128] 219)).heap[w.heap.size + 1]? = some (.cells #[.bool o1,I 1, .bool o2,I 2, .bool o3,I 4, .bool o4,I 8, .bool o5,I 16, .bool o6,I 32, .bool o7,I 64, .bool o8,I 128] 219) := by
  have := heap_alloc_new (w.alloc (.cells #[S n, .bool o1, .bool o2, .bool o3, .bool o4, .bool o5, .bool o6, .bool o7, .bool o8] 37)) (.cells #[.bool o1,I 1, .bool o2,I 2, .bool o3,I 4, .bool o4,I 8, .bool o5,I 16, .bool o6,I 32, .bool o7,I 64, .bool o8,I 128] 219)
  rw [World.size_alloc] at this
  exact this
 have r1 := qug (w.heap.size + 1) o1 o2 o3 o4 o5 o6 o7 o8 hU
 have k1 := qqi _ ⟨some ⟨w.heap.size + 1,0,none⟩,8,8⟩ (usL o1 o2 o3 o4 o5 o6 o7 o8) (fun W hW => r1.below hW (fun _ _ _ _ h => h)) (by show (8 : Nat) ≤ _; omega) 144 #[] (enters_of Tryz.func144 (by kernel_rfl) rfl) (fun x => x.said) (fun W hW x hx => qqj W x)
 have HB1 : Hid _ := B1
 clear r1 hU B1
 have HSM : Hid (∀ (W : World) (a : Option Addr) (c : Nat),RowsAt W 2 usP ⟨a,((usL o1 o2 o3 o4 o5 o6 o7 o8).filter fun x => x.said).length,c⟩ ((usL o1 o2 o3 o4 o5 o6 o7 o8).filter fun x => x.said) → Calls Tryz.prog 142 #[.slice a ((usL o1 o2 o3 o4 o5 o6 o7 o8).filter fun x => x.said).length c, .func (.func 145) #[] #[]] W fun e w' => e = .returned (I (usN o1 o2 o3 o4 o5 o6 o7 o8)) ∧ Below W.heap.size W w') := fun W a c h => quf W ⟨a,_,c⟩ _ h (fun x hx => by
   have := (List.mem_filter.1 hx).1
   unfold usL at this
   simp at this
   rcases this with rfl | rfl | rfl | rfl | rfl | rfl | rfl | rfl <;> simp) (Nat.le_trans (List.length_filter_le _ _) (by show (8 : Nat) ≤ _; omega))
 generalize ((usL o1 o2 o3 o4 o5 o6 o7 o8).filter fun x => x.said) = L at *
 generalize hN : usN o1 o2 o3 o4 o5 o6 o7 o8 = N at *
 clear hN
 go_enter Tryz.func84,Tryz.ntmps84
 go_wp2_with (first
  | (go_at_call 143; refine k1.mono ?_; clear k1; rintro e w1 ⟨⟨a1,c1,rfl,r2⟩,b1⟩; have k2 := HSM.out w1 a1 c1 r2)
  | (go_at_call 142; refine k2.mono ?_; clear k2; rintro e w2 ⟨rfl,b2⟩))
 go_ret
 exact ⟨rfl,(HB1.out.trans (b1.mono HB1.out.size)).trans (b2.mono (HB1.out.trans (b1.mono HB1.out.size)).size)⟩
end Go.Proofs.YtmidaeljeoifdaaGreatDoor
