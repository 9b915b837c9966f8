import Derived.Test.YtijgopkhdjaolaaGreatXTcw
namespace Go.Proofs.YtijgopkhdjaolaaGreat
open Go.RowKit Go.Shelf Go.Sort
set_option linter.unusedSimpArgs false
set_option linter.unusedVariables false
set_option maxHeartbeats 16000000
set_option maxRecDepth 100000
theorem qgc (y x : IsR) (sy sx : Sl) (X : Nat) (w : World) (hX : w.heap[X]? = some (.cells (isrC x sx) 87)) :
  Calls Tryz.prog 93 #[.agg (isrC y sy), .pointer (some ⟨X,0,none⟩)] w fun e w' => e = .returned (.bool (qci y x)) ∧ Below w.heap.size w w' := by
 have hb := qa0 w (.cells (isrC y sy) 87)
 have hX0 : (w.alloc (.cells (isrC y sy) 87)).heap[X]? = some (.cells (isrC x sx) 87) := (hb.block X (qay hX)).trans hX
 have hY0 := heap_alloc_new w (.cells (isrC y sy) 87)
 have ka := qg1 y x sy sx (w.alloc (.cells (isrC y sy) 87))
 have hi88 : (Tryz.prog.info? 87).map (·.size) = some (isrC x sx).size := by kernel_rfl
 have hi88' : (Tryz.prog.info? 87).map (·.size) = some (isrC y sy).size := by kernel_rfl
 generalize qci y x = bb at *
 clear hX
 unfold isrC at *
 have a0 := cell_of_row _ X 0 _ _ (0,0) hX0
 have a1 := cell_of_row _ X 1 _ _ (0,0) hX0
 have a2 := cell_of_row _ X 2 _ _ (0,0) hX0
 simp at a0 a1 a2
 clear hX0 hY0
 go_enter Tryz.func93,Tryz.ntmps93
 go_wp2_with (go_at_call 94; refine ka.mono ?_; clear ka; rintro e w' ⟨rfl,hb2⟩)
 go_ret
 exact ⟨rfl,hb.trans (hb2.mono hb.size)⟩
theorem qkk (w : World) : (sizeOf (Tryz.prog.elem 27)).run Tryz.prog w = .ok 3 w := by
 have : Tryz.prog.elem 27 = 87 := by kernel_rfl
 rw [this]
 have h : (Tryz.prog.info? 87).map (·.size) = some 3 := by kernel_rfl
 cases hq : Tryz.prog.info? 87 with
 | none => rw [hq] at h; cases h
 | some i =>
  rw [hq] at h
  simp at h
  simp [sizeOf,typeInfo,hq,h]
theorem qo0 : Tryz.prog.underlying 27 = some (.slice (Tryz.prog.elem 27)) := by kernel_rfl
theorem qmo (g off L c m : Nat) (h : m ≤ c) (wx : World) :
  (Instr.slice 27 (.slice (some ⟨g,off,none⟩) L c) none (some (I m)) none).run Tryz.prog wx = .ok (.slice (some ⟨g,off,none⟩) m c) wx := by
 rw [run_slice_h wx 27 _ L c qo0 .i64 (m : Int) (by omega) (by omega),qkk]
 have e1 : ((m : Int)).toNat = m := by omega
 simp only [Result.andThen,sliced,e1,Option.map_some,Nat.zero_mul,Nat.sub_zero]
 simp [Addr.add]
theorem RowsAt.take {α : Type} {w : World} {k : Nat} {P : α → Nat → Value → Prop} {s : Sl} {l : List α} (h : RowsAt w k P s l) (j : Nat) (hj : j ≤ s.n) : RowsAt w k P ⟨s.a,j,s.c⟩ (l.take j) := by
 refine ⟨by rw [List.length_take]; have := h.n; simp only; omega,Nat.le_trans hj h.c,h.m,fun i x hx => ?_⟩
 refine h.row i x ?_
 rw [List.getElem?_take] at hx
 split at hx
 ·exact hx
 ·cases hx
theorem qh7 (tb : Tb) (v : Ts) (w : World) (h : TbAt w tb v) : Calls Tryz.prog 31 #[.agg (tbC tb v)] w fun e w' => e = .returned (.bool (qc8 tb [] tb.isrs)) ∧ Below w.heap.size w w' := by
 have hV := heap_alloc_new w (.cells (tbC tb v) 30)
 have HB : Hid (Below w.heap.size w (w.alloc (.cells (tbC tb v) 30))) := qa0 w _
 have HT : Hid (TbAt (w.alloc (.cells (tbC tb v) 30)) tb v) := h.below HB.out
 have HVV : Hid ((w.alloc (.cells (tbC tb v) 30)).heap[w.heap.size]? = some (.cells (tbC tb v) 30)) := hV
 obtain ⟨c0,c1,c2,c3,c4,c5,c6,c7,c8,c9,c10,c11,c12⟩ := qbx hV
 have HS : Hid (v.i.n = tb.isrs.length) := h.i.n
 have hsc : v.i.n ≤ v.i.c := h.i.c
 have hsm : v.i.c ≤ maxLen := h.i.m
 unfold maxLen at hsm
 have hi30 : (Tryz.prog.info? 30).map (·.size) = some (tbC tb v).size := by kernel_rfl
 obtain ⟨R,hR⟩ : ∃ R,R = qc8 tb [] tb.isrs := ⟨_,rfl⟩
 rw [← hR]
 have HR : Hid (R = qc8 tb (tb.isrs.take 0) (tb.isrs.drop 0)) := by show _ = _; simpa using hR
 clear hR h hV c0 c1 c2 c3 c4 c5 c6 c8 c9 c10 c11 c12
 go_enter Tryz.func31,Tryz.ntmps31
 unfold tbC at *
 generalize hW : w.alloc (.cells #[I tb.uses,I tb.modes, .slice v.t.a v.t.n v.t.c, .slice v.g.a v.g.n v.g.c, .slice v.r.a v.r.n v.r.c, .slice v.k.a v.k.n v.k.c, .slice v.a.a v.a.n v.a.c, .slice v.i.a v.i.n v.i.c, .slice v.s.a v.s.n v.s.c,I tb.depth,I tb.frames,I tb.errors,I tb.calls] 30) = W1 at *
 go_upto_region 1 with fail
 clear hW
 go_wp2
 go_loopw [3,4,8] (fun _ _ iv wr => ∃ (j : Nat),j ≤ v.i.n ∧ iv = .int .i64 j ∧ Hid (R = qc8 tb (tb.isrs.take j) (tb.isrs.drop j) ∧ Below W1.heap.size W1 wr)) (fun _ _ iv _ => v.i.n - (intOf iv).toNat)
 case atStart => exact ⟨0,by omega,rfl,HR.out,Below.refl _ _⟩
 case round =>
  clear HR
  obtain ⟨j,hj,rfl,HJ⟩ := hrel
  by_cases hlt : j < v.i.n
  ·have hlt' : (j : Int) < v.i.n := by omega
   obtain ⟨x,hx⟩ : ∃ x,tb.isrs[j]? = some x := ⟨_,List.getElem?_eq_getElem (by rw [← HS.out]; exact hlt)⟩
   obtain ⟨g5,o5,s2,e5,hg5,x0,x1,x2,r2⟩ := qdc (HT.out.below HJ.out.2) hx
   have HX : Hid (R = (isB tb x && (tb.isrs.take j).all (fun a => qci a x) && qc8 tb (tb.isrs.take (j + 1)) (tb.isrs.drop (j + 1)))) := by
    have h9 := HJ.out.1
    rw [qf2 hx,qc8] at h9
    rw [List.take_add_one,hx]
    exact h9
   have b0 := HJ.out.2
   have bX : Below W1.heap.size W1 (wr.alloc (.cells #[I x.cat,I x.prio, .slice s2.a s2.n s2.c] 87)) := b0.trans ((qa0 wr _).mono b0.size)
   have hXX := heap_alloc_new wr (.cells #[I x.cat,I x.prio, .slice s2.a s2.n s2.c] 87)
   have hV0 : (wr.alloc (.cells #[I x.cat,I x.prio, .slice s2.a s2.n s2.c] 87)).heap[w.heap.size]? = some (.cells #[I tb.uses,I tb.modes, .slice v.t.a v.t.n v.t.c, .slice v.g.a v.g.n v.g.c, .slice v.r.a v.r.n v.r.c, .slice v.k.a v.k.n v.k.c, .slice v.a.a v.a.n v.a.c, .slice v.i.a v.i.n v.i.c, .slice v.s.a v.s.n v.s.c,I tb.depth,I tb.frames,I tb.errors,I tb.calls] 30) := (bX.block w.heap.size (qay HVV.out)).trans HVV.out
   have r20 := r2.below (qa0 wr (.cells #[I x.cat,I x.prio, .slice s2.a s2.n s2.c] 87)) (fun _ _ _ _ h => h)
   have hga := e5
   rw [e5]
   clear hx HJ b0 r2
   go_upto_region 4 with fail
   generalize wr.heap.size = X at *
   generalize (wr.alloc (.cells #[I x.cat,I x.prio, .slice s2.a s2.n s2.c] 87)) = W0 at *
   have kf := qh0 tb v x s2 W0 (HT.out.below bX) r20
   unfold tbC isrC at kf
   have ke : ∀ W2,Below W0.heap.size W0 W2 → Calls Tryz.prog 92 #[.slice (some ⟨g5,o5,none⟩) j v.i.c, .func (.func 93) #[] #[.pointer (some ⟨X,0,none⟩)]] W2 fun e w' => e = .returned (.bool ((tb.isrs.take j).all (fun a => qci a x))) ∧ Below W2.heap.size W2 w' := fun W2 hW2 =>
    qja W2 ⟨some ⟨g5,o5,none⟩,j,v.i.c⟩ (tb.isrs.take j) (fun W hW => by
     have := ((HT.out.below bX).below (hW2.trans (hW.mono hW2.size))).i.take j (by omega)
     rw [hga] at this
     exact this) 93 #[.pointer (some ⟨X,0,none⟩)] (enters_of Tryz.func93 (by kernel_rfl) rfl) (fun a => qci a x) (fun W hW y hy sy _ => qgc y x sy s2 X W (((hW2.trans (hW.mono hW2.size)).block X (qay hXX)).trans hXX))
   have hsl := fun wx => qmo g5 o5 v.i.n v.i.c j (by omega) wx
   have y0 := cell_of_row _ X 0 _ _ (0,0) hXX
   have y1 := cell_of_row _ X 1 _ _ (0,0) hXX
   have y2 := cell_of_row _ X 2 _ _ (0,0) hXX
   simp at y0 y1 y2
   have HV7 : Hid (∀ W2,Below W0.heap.size W0 W2 → W2.cell? ⟨w.heap.size,7,none⟩ = some (.slice (some ⟨g5,o5,none⟩) v.i.n v.i.c)) := fun W2 hW2 => by
    have h1 := (qbx ((hW2.block w.heap.size (qay hV0)).trans hV0)).2.2.2.2.2.2.2.1
    rw [hga] at h1
    exact h1
   have HB0 : Hid (Below w.heap.size w W0) := HB.out.trans (bX.mono HB.out.size)
   have HBX : Hid (Below W1.heap.size W1 W0) := bX
   clear hXX bX r20 e5 hga x0 x1 x2
   have hV0' : Hid (W0.heap[w.heap.size]? = some (.cells #[I tb.uses,I tb.modes, .slice v.t.a v.t.n v.t.c, .slice v.g.a v.g.n v.g.c, .slice v.r.a v.r.n v.r.c, .slice v.k.a v.k.n v.k.c, .slice v.a.a v.a.n v.a.c, .slice v.i.a v.i.n v.i.c, .slice v.s.a v.s.n v.s.c,I tb.depth,I tb.frames,I tb.errors,I tb.calls] 30)) := hV0
   clear hV0
   cases b1 : isB tb x with
   | false =>
    rw [b1] at kf HX
    go_wp2_with (first
     | (refine wpList_load_row rfl 30 _ rfl w.heap.size rfl 30 _ (0,0) _ hV0'.out Tryz.underlying30 rfl hi30 ?_)
     | (go_at_call 91; refine kf.mono ?_; clear kf; rintro e w2 ⟨rfl,hb2⟩))
    go_ret
    exact ⟨qa5 (by rw [HX.out]; simp),HB0.out.trans (hb2.mono HB0.out.size)⟩
   | true =>
    rw [b1] at kf HX
    cases b2 : (tb.isrs.take j).all (fun a => qci a x) with
    | false =>
     rw [b2] at HX
     go_wp2_with (first
      | (refine wpList_load_row rfl 30 _ rfl w.heap.size rfl 30 _ (0,0) _ hV0'.out Tryz.underlying30 rfl hi30 ?_)
      | (go_at_call 91; refine kf.mono ?_; clear kf; rintro e w2 ⟨rfl,hb2⟩; have q7 := HV7.out w2 hb2; have kg := ke w2 hb2; rw [b2] at kg)
      | (go_at_call 92; refine kg.mono ?_; clear kg; rintro e w3 ⟨rfl,hb3⟩))
     go_ret
     exact ⟨qa5 (by rw [HX.out]; simp),HB0.out.trans ((hb2.trans (hb3.mono hb2.size)).mono HB0.out.size)⟩
    | true =>
     rw [b2] at HX
     go_wp2_with (first
      | (refine wpList_load_row rfl 30 _ rfl w.heap.size rfl 30 _ (0,0) _ hV0'.out Tryz.underlying30 rfl hi30 ?_)
      | (go_at_call 91; refine kf.mono ?_; clear kf; rintro e w2 ⟨rfl,hb2⟩; have q7 := HV7.out w2 hb2; have kg := ke w2 hb2; rw [b2] at kg)
      | (go_at_call 92; refine kg.mono ?_; clear kg; rintro e w3 ⟨rfl,hb3⟩))
     go_roundw
     case rel => exact ⟨j + 1,by omega,by go_num,by rw [HX.out]; simp,HBX.out.trans ((hb2.trans (hb3.mono hb2.size)).mono HBX.out.size)⟩
     case measure => simp [intOf]; omega
  ·obtain rfl : j = v.i.n := by omega
   have hlt' : ¬ ((v.i.n : Nat) : Int) < (v.i.n : Nat) := by omega
   have HE : Hid (R = true) := by
    have := HJ.out.1
    rw [List.drop_eq_nil_of_le (by rw [HS.out]; exact Nat.le_refl _),qc8] at this
    exact this
   have HB9 : Hid (Below w.heap.size w wr) := HB.out.trans (HJ.out.2.mono HB.out.size)
   clear HJ
   go_wp2
   go_ret
   exact ⟨qa5 HE.out.symm,HB9.out⟩
theorem qi5 (w : World) (s : Sl) (l : List Int) (h : RowsAt w 1 intP s l) (p : Int) : Calls Tryz.prog 183 #[.slice s.a s.n s.c,I p] w fun e w' => (∃ i : Int,e = .returned (I i) ∧ decide (0 ≤ i) = l.any (fun x => x == p)) ∧ w = w' := by
 have HS : Hid (s.n = l.length) := h.n
 have hsc : s.n ≤ s.c := h.c
 have hsm : s.c ≤ maxLen := h.m
 unfold maxLen at hsm
 have HH : Hid (RowsAt w 1 intP s l) := h
 obtain ⟨R,hR⟩ : ∃ R,R = l.any (fun x => x == p) := ⟨_,rfl⟩
 rw [← hR]
 have HR : Hid (R = l.any (fun x => x == p)) := hR
 clear h hR
 go_enter Tryz.func183,Tryz.ntmps183
 go_wp2
 go_loopw [5,8] (fun _ iv wr => ∃ j : Nat,j ≤ s.n ∧ iv = .int .i64 j ∧ Hid (w = wr ∧ (l.take j).any (fun x => x == p) = false)) (fun _ iv _ => s.n - (intOf iv).toNat)
 case atStart => exact ⟨0,by omega,rfl,rfl,by simp⟩
 case round =>
  obtain ⟨j,hj,rfl,HJ⟩ := hrel
  obtain rfl := HJ.out.1
  by_cases hlt : j < s.n
  ·have hlt' : (j : Int) < s.n := by omega
   obtain ⟨x,hx⟩ : ∃ x,l[j]? = some x := ⟨_,List.getElem?_eq_getElem (by rw [← HS.out]; exact hlt)⟩
   obtain ⟨g5,o5,e5,hg5,b5⟩ := qg3 HH.out hx
   have HT : Hid ((x == p) = true → R = true) := fun ht => by
    rw [HR.out,List.any_eq_true]
    exact ⟨x,List.mem_of_getElem? hx,ht⟩
   have HA : Hid ((x == p) = false → (l.take (j + 1)).any (fun x => x == p) = false) := fun ht => by
    rw [List.take_add_one,hx,Option.toList_some,List.any_append,HJ.out.2]
    simp [ht]
   rw [e5]
   clear hx e5 HJ
   by_cases he : p = x
   ·subst he
    have HE : Hid (R = true) := HT.out (by simp)
    clear HT HA
    go_wp2
    go_ret
    exact ⟨⟨j,rfl,by rw [HE.out]; simp⟩,rfl⟩
   ·have he1 : (p == x) = false := by simpa using he
    have HA2 : Hid ((l.take (j + 1)).any (fun x => x == p) = false) := HA.out (by simp; omega)
    clear HT HA he
    go_wp2
    go_roundw
    case rel => exact ⟨j + 1,by omega,by go_num,trivial,HA2.out⟩
    case measure => simp [intOf]; omega
  ·obtain rfl : j = s.n := by omega
   have hlt' : ¬ ((s.n : Nat) : Int) < (s.n : Nat) := by omega
   have HE : Hid (R = false) := by
    show _ = _
    rw [HR.out]
    have := HJ.out.2
    rwa [List.take_of_length_le (by rw [HS.out]; exact Nat.le_refl _)] at this
   clear HR HJ
   go_wp2
   go_ret
   exact ⟨⟨-1,rfl,by rw [HE.out]; rfl⟩,rfl⟩
theorem qfr (w : World) (s : Sl) (l : List Int) (h : RowsAt w 1 intP s l) (p : Int) : Calls Tryz.prog 153 #[.slice s.a s.n s.c,I p] w fun e w' => e = .returned (.bool (l.any (fun x => x == p))) ∧ w = w' := by
 have k := qi5 w s l h p
 obtain ⟨R,hR⟩ : ∃ R,R = l.any (fun x => x == p) := ⟨_,rfl⟩
 rw [← hR] at k ⊢
 clear h hR
 go_enter Tryz.func153,Tryz.ntmps153
 go_wp2_with (go_at_call 183; refine k.mono ?_; clear k; rintro e w' ⟨⟨i,rfl,hi⟩,rfl⟩)
 go_ret
 exact ⟨rfl,rfl⟩
theorem qlw (w : World) : RowsAt (w.alloc (.cells #[I 1,I 2,I 4,I 8] 3)) 1 intP ⟨some ⟨w.heap.size,0,none⟩,4,4⟩ [1,2,4,8] := by
 refine ⟨rfl,Nat.le_refl _,(by show 4 ≤ maxLen; unfold maxLen; decide),fun j x hj => ⟨w.heap.size,0,rfl,by simp,fun i hi => ?_⟩⟩
 obtain rfl : i = 0 := by omega
 refine ⟨I x, ?_, ?_⟩
 ·rw [cell_of_row _ _ _ _ _ (0,0) (heap_alloc_new w _)]
  match j,hj with
  | 0,h => cases h; rfl
  | 1,h => cases h; rfl
  | 2,h => cases h; rfl
  | 3,h => cases h; rfl
 ·first | rfl | exact rfl | trivial
theorem qfs (x : MsR) (w : World) : Calls Tryz.prog 96 #[.agg (msrC x)] w fun e w' => e = .returned (.bool (fldB x)) ∧ Below w.heap.size w w' := by
 have hb : ∀ o,Below w.heap.size w (w.alloc o) := fun o => qa0 w o
 have hb4 : ∀ o q,Below w.heap.size w ((w.alloc o).alloc q) := fun o q => (hb o).trans ((qa0 _ _).mono (hb o).size)
 have kc : ∀ o,Calls Tryz.prog 153 #[.slice (some ⟨w.heap.size + 1,0,none⟩) 4 4,I x.len] ((w.alloc o).alloc (.cells #[I 1,I 2,I 4,I 8] 3)) fun e w' => e = .returned (.bool ([1,2,4,8].any (fun y => y == x.len))) ∧ ((w.alloc o).alloc (.cells #[I 1,I 2,I 4,I 8] 3)) = w' := fun o => by
  have := qfr _ _ _ (qlw (w.alloc o)) x.len
  rw [World.size_alloc] at this
  exact this
 have kq := qba x.queue 1 16
 obtain ⟨R,hR⟩ : ∃ R,R = fldB x := ⟨_,rfl⟩
 rw [← hR]
 unfold msrC at *
 by_cases k1 : x.kind = 1
 ·have k1' : (x.kind == 1) = true := by simpa using k1
  have HX : Hid (R = ([1,2,4,8].any (fun y => y == x.len) && (x.frm == 0) && ((x.init : Int) == 0) && (x.queue == 0))) := by
   show _ = _
   rw [hR]
   unfold fldB
   rw [if_pos k1,Bool.eq_iff_iff]
   simp
   omega
  clear hR k1
  generalize [1,2,4,8].any (fun y => y == x.len) = bb at *
  go_enter Tryz.func96,Tryz.ntmps96
  cases bb
  ·go_wp2_with (first | (go_at_call 153; refine (kc _).mono ?_; clear kc; rintro e w' ⟨rfl,rfl⟩))
   go_ret
   exact ⟨qa5 (by rw [HX.out]; simp),hb4 _ _⟩
  ·cases b2 : (x.frm == 0)
   ·rw [b2] at HX
    go_wp2_with (first | (go_at_call 153; refine (kc _).mono ?_; clear kc; rintro e w' ⟨rfl,rfl⟩))
    go_ret
    exact ⟨qa5 (by rw [HX.out]; simp),hb4 _ _⟩
   ·rw [b2] at HX
    cases b3 : ((x.init : Int) == 0)
    ·rw [b3] at HX
     go_wp2_with (first | (go_at_call 153; refine (kc _).mono ?_; clear kc; rintro e w' ⟨rfl,rfl⟩))
     go_ret
     exact ⟨qa5 (by rw [HX.out]; simp),hb4 _ _⟩
    ·rw [b3] at HX
     go_wp2_with (first | (go_at_call 153; refine (kc _).mono ?_; clear kc; rintro e w' ⟨rfl,rfl⟩))
     go_ret
     exact ⟨qa5 (by rw [HX.out]; simp),hb4 _ _⟩
 ·have k1' : (x.kind == 1) = false := by simpa using k1
  by_cases k2 : x.kind = 2
  ·have k2' : (x.kind == 2) = true := by simpa using k2
   have HX : Hid (R = ((x.len == 0) && decide ((x.init : Int) ≤ 4294967295) && (x.queue == 0))) := by
    show _ = _
    rw [hR]
    unfold fldB
    rw [if_neg k1,if_pos k2,Bool.eq_iff_iff]
    simp
    omega
   clear hR k1 k2 kc
   go_enter Tryz.func96,Tryz.ntmps96
   cases b1 : (x.len == 0)
   ·rw [b1] at HX
    go_wp2_with (first | (go_at_call 72; refine (kq _).mono ?_; clear kq; rintro e w' ⟨rfl,rfl⟩))
    go_ret
    exact ⟨qa5 (by rw [HX.out]; simp),hb _⟩
   ·rw [b1] at HX
    by_cases b2 : (x.init : Int) ≤ 4294967295
    ·have b2' : decide ((x.init : Int) ≤ 4294967295) = true := by simpa using b2
     rw [b2'] at HX
     go_wp2_with (first | (go_at_call 72; refine (kq _).mono ?_; clear kq; rintro e w' ⟨rfl,rfl⟩))
     go_ret
     exact ⟨qa5 (by rw [HX.out]; simp),hb _⟩
    ·have b2' : decide ((x.init : Int) ≤ 4294967295) = false := by simpa using b2
     rw [b2'] at HX
     go_wp2_with (first | (go_at_call 72; refine (kq _).mono ?_; clear kq; rintro e w' ⟨rfl,rfl⟩))
     go_ret
     exact ⟨qa5 (by rw [HX.out]; simp),hb _⟩
  ·have k2' : (x.kind == 2) = false := by simpa using k2
   by_cases k3 : x.kind = 3
   ·have k3' : (x.kind == 3) = true := by simpa using k3
    have HX : Hid (R = ((x.len == 0) && ((x.init : Int) == 0) && inI x.queue 1 16)) := by
     show _ = _
     rw [hR]
     unfold fldB
     rw [if_neg k1,if_neg k2,if_pos k3,Bool.eq_iff_iff]
     simp
    clear hR k1 k2 k3 kc
    generalize inI x.queue 1 16 = bq at *
    go_enter Tryz.func96,Tryz.ntmps96
    cases b1 : (x.len == 0)
    ·rw [b1] at HX
     go_wp2_with (first | (go_at_call 72; refine (kq _).mono ?_; clear kq; rintro e w' ⟨rfl,rfl⟩))
     go_ret
     exact ⟨qa5 (by rw [HX.out]; simp),hb _⟩
    ·rw [b1] at HX
     cases b2 : ((x.init : Int) == 0)
     ·rw [b2] at HX
      go_wp2_with (first | (go_at_call 72; refine (kq _).mono ?_; clear kq; rintro e w' ⟨rfl,rfl⟩))
      go_ret
      exact ⟨qa5 (by rw [HX.out]; simp),hb _⟩
     ·rw [b2] at HX
      go_wp2_with (first | (go_at_call 72; refine (kq _).mono ?_; clear kq; rintro e w' ⟨rfl,rfl⟩))
      go_ret
      exact ⟨qa5 (by rw [HX.out]; simp),hb _⟩
   ·have k3' : (x.kind == 3) = false := by simpa using k3
    have HX : Hid (R = false) := by
     show _ = _
     rw [hR]
     unfold fldB
     rw [if_neg k1,if_neg k2,if_neg k3]
    clear hR k1 k2 k3 kc
    go_enter Tryz.func96,Tryz.ntmps96
    go_wp2_with (first | (go_at_call 72; refine (kq _).mono ?_; clear kq; rintro e w' ⟨rfl,rfl⟩))
    go_ret
    exact ⟨qa5 (by rw [HX.out]),hb _⟩
theorem qf4 (tb : Tb) (v : Ts) (x : MsR) (w : World) (h : TbAt w tb v) (hx : x.init < 18446744073709551616) (hf : tb.msgs.all fldB = true) :
  Calls Tryz.prog 98 #[.agg (tbC tb v), .agg (msrC x)] w fun e w' => e = .returned (.bool (sndB tb x)) ∧ Below w.heap.size w w' := by
 have hb : Below w.heap.size w ((w.alloc (.cells (tbC tb v) 30)).alloc (.cells (msrC x) 91)) := (qa0 w _).trans ((qa0 _ _).mono (by simp))
 have hV0 : ((w.alloc (.cells (tbC tb v) 30)).alloc (.cells (msrC x) 91)).heap[w.heap.size]? = some (.cells (tbC tb v) 30) := by
  rw [heap_alloc_old _ _ (by simp)]; exact heap_alloc_new w _
 have hX : ((w.alloc (.cells (tbC tb v) 30)).alloc (.cells (msrC x) 91)).heap[w.heap.size + 1]? = some (.cells (msrC x) 91) := by
  have := heap_alloc_new (w.alloc (.cells (tbC tb v) 30)) (.cells (msrC x) 91)
  rw [World.size_alloc] at this
  exact this
 have hT0 := h.below hb
 have HB0 : Hid (Below w.heap.size w ((w.alloc (.cells (tbC tb v) 30)).alloc (.cells (msrC x) 91))) := hb
 have HN : Hid (v.s.n = tb.msgs.length) := h.s.n
 have hgc : v.s.n ≤ v.s.c := h.s.c
 have hgm : v.s.c ≤ maxLen := h.s.m
 unfold maxLen at hgm
 obtain ⟨R,hR⟩ : ∃ R,R = sndB tb x := ⟨_,rfl⟩
 rw [← hR]
 have HX : Hid (R = (idB x.frm v.s.n && ((msOf tb x.frm).kind == 1) && decide (x.init < 2 ^ (8 * (msOf tb x.frm).len.toNat)))) := by
  show _ = _
  rw [hR,HN.out]
  rfl
 have kI := fun W => qj5 x.frm v.s W
 clear hR h hb
 go_enter Tryz.func98,Tryz.ntmps98
 unfold tbC msrC at *
 go_upto_region 1 with fail
 generalize ((w.alloc (.cells #[I tb.uses,I tb.modes, .slice v.t.a v.t.n v.t.c, .slice v.g.a v.g.n v.g.c, .slice v.r.a v.r.n v.r.c, .slice v.k.a v.k.n v.k.c, .slice v.a.a v.a.n v.a.c, .slice v.i.a v.i.n v.i.c, .slice v.s.a v.s.n v.s.c,I tb.depth,I tb.frames,I tb.errors,I tb.calls] 30)).alloc (.cells #[I x.kind,I x.len,I x.frm, .int .u64 (x.init : Int),I x.queue,I x.ac.kind,I x.ac.task, .int .u32 (x.ac.mask : Int)] 91)) = W0 at *
 have z8 := (qbx hV0).2.2.2.2.2.2.2.2.1
 have x2 := cell_of_row _ (w.heap.size + 1) 2 _ _ (0,0) hX
 have x3 := cell_of_row _ (w.heap.size + 1) 3 _ _ (0,0) hX
 simp at x2 x3
 clear hX hV0
 cases b1 : idB x.frm v.s.n with
 | false =>
  rw [b1] at HX
  go_wp2_with (first | (go_at_call 154; refine (kI _).mono ?_; clear kI; rw [b1]; rintro e w' ⟨rfl,rfl⟩))
  go_ret
  exact ⟨qa5 (by rw [HX.out]; simp),HB0.out⟩
 | true =>
  rw [b1] at HX
  have hid2 : 0 ≤ x.frm ∧ x.frm < (v.s.n : Int) := by unfold idB at b1; simpa using b1
  obtain ⟨k,hk⟩ := Int.eq_ofNat_of_zero_le hid2.1
  obtain ⟨r,hr⟩ : ∃ r,tb.msgs[k]? = some r := ⟨_,List.getElem?_eq_getElem (by rw [← HN.out]; omega)⟩
  obtain ⟨gr,orr,er,hgr,t0,t1,t2,t3,t4,t5,t6,t7⟩ := qj2 hT0 hr
  have HP : Hid (msOf tb x.frm = r) := by
   show _ = _
   unfold msOf
   rw [hk,Int.toNat_natCast,hr]
  have hfr := List.all_eq_true.1 hf r (List.mem_of_getElem? hr)
  have hk1 : (k : Int) < v.s.n := by omega
  have kJ : ∀ W,Calls Tryz.prog 154 #[I k, .slice (some ⟨gr,orr,none⟩) v.s.n v.s.c] W fun e w' => e = .returned (.bool true) ∧ w' = W := fun W => by
   have := kI W
   rw [b1,hk,er] at this
   exact this
  rw [HP.out] at HX
  rw [hk] at x2
  rw [er] at z8
  clear kI hr er b1 hid2 t2 t3 t4 t5 t6 t7 hT0 hf hk
  cases b2 : (r.kind == 1) with
  | false =>
   rw [b2] at HX
   go_wp2_with (first | (go_at_call 154; refine (kJ _).mono ?_; clear kJ; rintro e w' ⟨rfl,rfl⟩))
   go_ret
   exact ⟨qa5 (by rw [HX.out]; simp),HB0.out⟩
  | true =>
   rw [b2] at HX
   have hlen : r.len = 1 ∨ r.len = 2 ∨ r.len = 4 ∨ r.len = 8 := by
    unfold fldB at hfr
    rw [if_pos (by simpa using b2)] at hfr
    simp at hfr
    omega
   clear hfr
   rcases hlen with e | e | e | e
   all_goals
    rw [e] at t1 HX
    go_wp2_with (first | (go_at_call 154; refine (kJ _).mono ?_; clear kJ; rintro e w' ⟨rfl,rfl⟩))
    go_region
    all_goals
     go_wp2
     go_ret
     exact ⟨qa5 (by rw [HX.out,Bool.eq_iff_iff]; simp; omega),HB0.out.drew⟩
theorem qed (tb : Tb) (v : Ts) (x : MsR) (V : Nat) (w : World) (h : TbAt w tb v) (hV : w.heap[V]? = some (.cells (tbC tb v) 30)) (hx : x.init < 18446744073709551616) (hf : tb.msgs.all fldB = true) :
  Calls Tryz.prog 97 #[.agg (msrC x), .pointer (some ⟨V,0,none⟩)] w fun e w' => e = .returned (.bool (msB tb x)) ∧ Below w.heap.size w w' := by
 have hb := qa0 w (.cells (msrC x) 91)
 have hX := heap_alloc_new w (.cells (msrC x) 91)
 have hV0 : (w.alloc (.cells (msrC x) 91)).heap[V]? = some (.cells (tbC tb v) 30) := (hb.block V (qay hV)).trans hV
 have hT0 := h.below hb
 have HB0 : Hid (Below w.heap.size w (w.alloc (.cells (msrC x) 91))) := hb
 have hi30 : (Tryz.prog.info? 30).map (·.size) = some (tbC tb v).size := by kernel_rfl
 have hi97 : (Tryz.prog.info? 91).map (·.size) = some (msrC x).size := by kernel_rfl
 have k0 := fun W hW => qcl tb v x.ac 0 0 W (hT0.below hW)
 have k4 := fun W hW => qcl tb v x.ac 0 4 W (hT0.below hW)
 have kS := qf4 tb v x (w.alloc (.cells (msrC x) 91)) hT0 hx hf
 obtain ⟨R,hR⟩ : ∃ R,R = msB tb x := ⟨_,rfl⟩
 rw [← hR]
 unfold msB at hR
 clear h hV hb hx hf hT0
 go_enter Tryz.func97,Tryz.ntmps97
 unfold tbC msrC acrC at *
 go_upto_region 1 with fail
 generalize (w.alloc (.cells #[I x.kind,I x.len,I x.frm, .int .u64 (x.init : Int),I x.queue,I x.ac.kind,I x.ac.task, .int .u32 (x.ac.mask : Int)] 91)) = W0 at *
 have HV : Hid (∀ W,Below W0.heap.size W0 W → W.heap[V]? = some (.cells #[I tb.uses,I tb.modes, .slice v.t.a v.t.n v.t.c, .slice v.g.a v.g.n v.g.c, .slice v.r.a v.r.n v.r.c, .slice v.k.a v.k.n v.k.c, .slice v.a.a v.a.n v.a.c, .slice v.i.a v.i.n v.i.c, .slice v.s.a v.s.n v.s.c,I tb.depth,I tb.frames,I tb.errors,I tb.calls] 30)) := fun W hW => (hW.block V (qay hV0)).trans hV0
 have HXX : Hid (∀ W,Below W0.heap.size W0 W → W.heap[w.heap.size]? = some (.cells #[I x.kind,I x.len,I x.frm, .int .u64 (x.init : Int),I x.queue,I x.ac.kind,I x.ac.task, .int .u32 (x.ac.mask : Int)] 91)) := fun W hW => (hW.block w.heap.size (qay hX)).trans hX
 have y0 := cell_of_row _ w.heap.size 0 _ _ (0,0) hX
 have y5 := cell_of_row _ w.heap.size 5 _ _ (0,0) hX
 have y6 := cell_of_row _ w.heap.size 6 _ _ (0,0) hX
 have y7 := cell_of_row _ w.heap.size 7 _ _ (0,0) hX
 simp at y0 y5 y6 y7
 have kA0 := k0 W0 (Below.refl _ _)
 clear k0
 by_cases b1 : x.kind = 1
 ·have b1' : (x.kind == 1) = true := by simpa using b1
  rw [if_pos b1] at hR
  have HX : Hid (R = acB tb x.ac 0 0) := hR
  clear hR b1 kS k4
  go_wp2_with (first
   | (refine wpList_load_row rfl 30 _ rfl V rfl 30 _ (0,0) _ hV0 Tryz.underlying30 rfl hi30 ?_)
   | (go_at_call 89; refine kA0.mono ?_; clear kA0; rintro e w' ⟨rfl,hb2⟩))
  go_ret
  exact ⟨qa5 HX.out.symm,HB0.out.trans (hb2.mono HB0.out.size)⟩
 ·have b1' : (x.kind == 1) = false := by simpa using b1
  rw [if_neg b1] at hR
  have HX : Hid (R = (sndB tb x && acB tb x.ac 0 4)) := hR
  clear hR b1 kA0
  cases b2 : sndB tb x with
  | false =>
   rw [b2] at kS HX
   go_wp2_with (first
   | (refine wpList_load_row rfl 30 _ rfl V rfl 30 _ (0,0) _ hV0 Tryz.underlying30 rfl hi30 ?_)
   | (refine wpList_load_row rfl 91 _ rfl w.heap.size rfl 91 _ (0,0) _ hX Tryz.underlying91 rfl hi97 ?_)
   | (go_at_call 98; refine kS.mono ?_; clear kS; rintro e w2 ⟨rfl,hb2⟩))
   go_ret
   exact ⟨qa5 (by rw [HX.out]; simp),HB0.out.trans (hb2.mono HB0.out.size)⟩
  | true =>
   rw [b2] at kS HX
   go_wp2_with (first
   | (refine wpList_load_row rfl 30 _ rfl V rfl 30 _ (0,0) _ hV0 Tryz.underlying30 rfl hi30 ?_)
   | (refine wpList_load_row rfl 91 _ rfl w.heap.size rfl 91 _ (0,0) _ hX Tryz.underlying91 rfl hi97 ?_)
   | (go_at_call 98; refine kS.mono ?_; clear kS y0 y5 y6 y7; rintro e w2 ⟨rfl,hb2⟩; obtain ⟨d0,d1,d2,d3,d4,d5,d6,d7,d8,d9,d10,d11,d12⟩ := qbx (HV.out w2 hb2); have hX2 := HXX.out w2 hb2; have f5 := cell_of_row _ w.heap.size 5 _ _ (0,0) hX2; have f6 := cell_of_row _ w.heap.size 6 _ _ (0,0) hX2; have f7 := cell_of_row _ w.heap.size 7 _ _ (0,0) hX2; simp at f5 f6 f7; have kA := k4 w2 hb2; clear hX2 k4)
   | (go_at_call 89; refine kA.mono ?_; clear kA; rintro e w3 ⟨rfl,hb3⟩))
   go_ret
   exact ⟨qa5 (by rw [HX.out]; simp),HB0.out.trans ((hb2.trans (hb3.mono hb2.size)).mono HB0.out.size)⟩
theorem qep (tb : Tb) (v : Ts) (w : World) (h : TbAt w tb v) (hw : WfT tb) : Calls Tryz.prog 32 #[.agg (tbC tb v)] w fun e w' => e = .returned (.bool (tb.msgs.all fldB && tb.msgs.all (msB tb))) ∧ Below w.heap.size w w' := by
 have hb := qa0 w (.cells (tbC tb v) 30)
 have hV := heap_alloc_new w (.cells (tbC tb v) 30)
 have k1 := qfg (w.alloc (.cells (tbC tb v) 30)) v.s tb.msgs (fun W hW => (h.below (hb.trans (hW.mono hb.size))).s) 96 #[] (enters_of Tryz.func96 (by kernel_rfl) rfl) fldB (fun W hW x hx => qfs x W)
 have k2 : tb.msgs.all fldB = true → ∀ W2,Below (w.alloc (.cells (tbC tb v) 30)).heap.size (w.alloc (.cells (tbC tb v) 30)) W2 → Calls Tryz.prog 95 #[.slice v.s.a v.s.n v.s.c, .func (.func 97) #[] #[.pointer (some ⟨w.heap.size,0,none⟩)]] W2 fun e w' => e = .returned (.bool (tb.msgs.all (msB tb))) ∧ Below W2.heap.size W2 w' := fun hf W2 hW2 =>
  qfg W2 v.s tb.msgs (fun W hW => (h.below (hb.trans ((hW2.trans (hW.mono hW2.size)).mono hb.size))).s) 97 #[.pointer (some ⟨w.heap.size,0,none⟩)] (enters_of Tryz.func97 (by kernel_rfl) rfl) (msB tb) (fun W hW x hx => qed tb v x w.heap.size W (h.below (hb.trans ((hW2.trans (hW.mono hW2.size)).mono hb.size))) (((hW2.trans (hW.mono hW2.size)).block w.heap.size (qay hV)).trans hV) (hw.s x hx).1 hf)
 have c8 := (qbx hV).2.2.2.2.2.2.2.2.1
 have HV8 : Hid (∀ W,Below (w.alloc (.cells (tbC tb v) 30)).heap.size (w.alloc (.cells (tbC tb v) 30)) W → W.cell? ⟨w.heap.size,8,none⟩ = some (.slice v.s.a v.s.n v.s.c)) := fun W hW => (qbx ((hW.block w.heap.size (qay hV)).trans hV)).2.2.2.2.2.2.2.2.1
 unfold tbC at *
 clear h hV hw
 generalize hR1 : tb.msgs.all fldB = R1 at *
 generalize hR2 : tb.msgs.all (msB tb) = R2 at *
 go_enter Tryz.func32,Tryz.ntmps32
 go_upto_region 1 with fail
 generalize (w.alloc (.cells #[I tb.uses,I tb.modes, .slice v.t.a v.t.n v.t.c, .slice v.g.a v.g.n v.g.c, .slice v.r.a v.r.n v.r.c, .slice v.k.a v.k.n v.k.c, .slice v.a.a v.a.n v.a.c, .slice v.i.a v.i.n v.i.c, .slice v.s.a v.s.n v.s.c,I tb.depth,I tb.frames,I tb.errors,I tb.calls] 30)) = W0 at *
 cases R1
 ·go_wp2_with (first | (go_at_call 95; refine k1.mono ?_; clear k1; rintro e w2 ⟨rfl,hb2⟩))
  go_ret
  exact ⟨rfl,hb.trans (hb2.mono hb.size)⟩
 ·go_wp2_with (first
   | (go_at_call 95; refine k1.mono ?_; clear k1; rintro e w2 ⟨rfl,hb2⟩; have q8 := HV8.out w2 hb2; have kg := k2 rfl w2 hb2; clear k2)
   | (go_at_call 95; refine kg.mono ?_; clear kg; rintro e w3 ⟨rfl,hb3⟩))
  go_ret
  exact ⟨qa5 (by simp),hb.trans ((hb2.trans (hb3.mono hb2.size)).mono hb.size)⟩
end Go.Proofs.YtijgopkhdjaolaaGreat
