import Derived.Test.YtijgopkhdjaolaaGreatXTcf
import Derived.Lib.QuietBelow
import Derived.Deep.Cut
namespace Go.Proofs.YtijgopkhdjaolaaGreat
open Go.RowKit Go.Shelf Go.Sort
set_option linter.unusedSimpArgs false
set_option linter.unusedVariables false
set_option maxHeartbeats 16000000
set_option maxRecDepth 100000
theorem qcl (tb : Tb) (v : Ts) (a : AcR) (lo hi : Int) (w : World) (h : TbAt w tb v) : Calls Tryz.prog 89 #[.agg (tbC tb v), .agg (acrC a),I lo,I hi] w fun e w' => e = .returned (.bool (acB tb a lo hi)) ∧ Below w.heap.size w w' := by
 have hb : ∀ o p,Below w.heap.size w ((w.alloc o).alloc p) := fun o p => ((Below.refl w.heap.size w).alloc (Nat.le_refl _) o).alloc (by simp) p
 have k1 := qgz a.kind lo hi
 have k2 := qi1 a.task v.t
 have HN : Hid (v.t.n = tb.tasks.length) := h.t.n
 obtain ⟨R,hR⟩ : ∃ R,R = acB tb a lo hi := ⟨_,rfl⟩
 rw [← hR]
 have HR : Hid (R = (inI a.kind lo hi && (if a.kind = 1 then idB a.task v.t.n && (a.mask == 0) else if a.kind = 2 then idB a.task v.t.n && (a.mask != 0) && (bits BinOp.andNot IntKind.u32 (a.mask : Int) (qel tb a.task : Int) == 0) else (a.task == 0) && (a.mask == 0)))) := by
  show _ = _
  rw [hR,HN.out]
  rfl
 have HT : Hid (∀ o p,TbAt ((w.alloc o).alloc p) tb v) := fun o p => h.below (hb o p)
 clear hR h
 unfold acrC tbC
 cases hi1 : inI a.kind lo hi with
 | false =>
  rw [hi1] at k1 HR
  go_enter Tryz.func89,Tryz.ntmps89
  go_wp2_with (first | (go_at_call 151; refine (k1 _).mono ?_; clear k1; rintro e w' ⟨rfl,rfl⟩))
  go_ret
  exact ⟨qa5 (by rw [HR.out]; simp),hb _ _⟩
 | true =>
  rw [hi1] at k1 HR
  clear hi1
  by_cases g1 : a.kind = 1
  ·have g1' : (a.kind == 1) = true := by simpa using g1
   rw [if_pos g1] at HR
   clear g1
   cases hid : idB a.task v.t.n with
   | false =>
    rw [hid] at k2 HR
    go_enter Tryz.func89,Tryz.ntmps89
    go_wp2_with (first | (go_at_call 151; refine (k1 _).mono ?_; clear k1; rintro e w' ⟨rfl,rfl⟩) | (go_at_call 152; refine (k2 _).mono ?_; clear k2; rintro e w' ⟨rfl,rfl⟩))
    go_ret
    exact ⟨qa5 (by rw [HR.out]; simp),hb _ _⟩
   | true =>
    rw [hid] at k2 HR
    go_enter Tryz.func89,Tryz.ntmps89
    go_wp2_with (first | (go_at_call 151; refine (k1 _).mono ?_; clear k1; rintro e w' ⟨rfl,rfl⟩) | (go_at_call 152; refine (k2 _).mono ?_; clear k2; rintro e w' ⟨rfl,rfl⟩))
    go_ret
    exact ⟨qa5 (by rw [HR.out,Bool.eq_iff_iff]; simp),hb _ _⟩
  ·have g1' : (a.kind == 1) = false := by simpa using g1
   rw [if_neg g1] at HR
   by_cases g2 : a.kind = 2
   ·have g2' : (a.kind == 2) = true := by simpa using g2
    rw [if_pos g2] at HR
    clear g1 g2
    go_enter Tryz.func89,Tryz.ntmps89
    go_wp2_with (first | (go_at_call 151; refine (k1 _).mono ?_; clear k1; rintro e w' ⟨rfl,rfl⟩))
    have HT1 := HT.out (.cells #[I tb.uses,I tb.modes, .slice v.t.a v.t.n v.t.c, .slice v.g.a v.g.n v.g.c, .slice v.r.a v.r.n v.r.c, .slice v.k.a v.k.n v.k.c, .slice v.a.a v.a.n v.a.c, .slice v.i.a v.i.n v.i.c, .slice v.s.a v.s.n v.s.c,I tb.depth,I tb.frames,I tb.errors,I tb.calls] 30) (.cells #[I a.kind,I a.task, .int .u32 (a.mask : Int)] 83)
    have HB1 := hb (.cells #[I tb.uses,I tb.modes, .slice v.t.a v.t.n v.t.c, .slice v.g.a v.g.n v.g.c, .slice v.r.a v.r.n v.r.c, .slice v.k.a v.k.n v.k.c, .slice v.a.a v.a.n v.a.c, .slice v.i.a v.i.n v.i.c, .slice v.s.a v.s.n v.s.c,I tb.depth,I tb.frames,I tb.errors,I tb.calls] 30) (.cells #[I a.kind,I a.task, .int .u32 (a.mask : Int)] 83)
    have hV1 : ((w.alloc (.cells #[I tb.uses,I tb.modes, .slice v.t.a v.t.n v.t.c, .slice v.g.a v.g.n v.g.c, .slice v.r.a v.r.n v.r.c, .slice v.k.a v.k.n v.k.c, .slice v.a.a v.a.n v.a.c, .slice v.i.a v.i.n v.i.c, .slice v.s.a v.s.n v.s.c,I tb.depth,I tb.frames,I tb.errors,I tb.calls] 30)).alloc (.cells #[I a.kind,I a.task, .int .u32 (a.mask : Int)] 83)).heap[w.heap.size]? = some (.cells #[I tb.uses,I tb.modes, .slice v.t.a v.t.n v.t.c, .slice v.g.a v.g.n v.g.c, .slice v.r.a v.r.n v.r.c, .slice v.k.a v.k.n v.k.c, .slice v.a.a v.a.n v.a.c, .slice v.i.a v.i.n v.i.c, .slice v.s.a v.s.n v.s.c,I tb.depth,I tb.frames,I tb.errors,I tb.calls] 30 (0,0)) := ((qa0 (w.alloc (.cells #[I tb.uses,I tb.modes, .slice v.t.a v.t.n v.t.c, .slice v.g.a v.g.n v.g.c, .slice v.r.a v.r.n v.r.c, .slice v.k.a v.k.n v.k.c, .slice v.a.a v.a.n v.a.c, .slice v.i.a v.i.n v.i.c, .slice v.s.a v.s.n v.s.c,I tb.depth,I tb.frames,I tb.errors,I tb.calls] 30)) (.cells #[I a.kind,I a.task, .int .u32 (a.mask : Int)] 83)).block w.heap.size (by simp)).trans (heap_alloc_new w _)
    have hV2 : ((w.alloc (.cells #[I tb.uses,I tb.modes, .slice v.t.a v.t.n v.t.c, .slice v.g.a v.g.n v.g.c, .slice v.r.a v.r.n v.r.c, .slice v.k.a v.k.n v.k.c, .slice v.a.a v.a.n v.a.c, .slice v.i.a v.i.n v.i.c, .slice v.s.a v.s.n v.s.c,I tb.depth,I tb.frames,I tb.errors,I tb.calls] 30)).alloc (.cells #[I a.kind,I a.task, .int .u32 (a.mask : Int)] 83)).heap[w.heap.size + 1]? = some (.cells #[I a.kind,I a.task, .int .u32 (a.mask : Int)] 83 (0,0)) := by
     have := heap_alloc_new (w.alloc (.cells #[I tb.uses,I tb.modes, .slice v.t.a v.t.n v.t.c, .slice v.g.a v.g.n v.g.c, .slice v.r.a v.r.n v.r.c, .slice v.k.a v.k.n v.k.c, .slice v.a.a v.a.n v.a.c, .slice v.i.a v.i.n v.i.c, .slice v.s.a v.s.n v.s.c,I tb.depth,I tb.frames,I tb.errors,I tb.calls] 30)) (.cells #[I a.kind,I a.task, .int .u32 (a.mask : Int)] 83)
     rw [World.size_alloc] at this
     exact this
    clear HT hb
    generalize ((w.alloc (.cells #[I tb.uses,I tb.modes, .slice v.t.a v.t.n v.t.c, .slice v.g.a v.g.n v.g.c, .slice v.r.a v.r.n v.r.c, .slice v.k.a v.k.n v.k.c, .slice v.a.a v.a.n v.a.c, .slice v.i.a v.i.n v.i.c, .slice v.s.a v.s.n v.s.c,I tb.depth,I tb.frames,I tb.errors,I tb.calls] 30)).alloc (.cells #[I a.kind,I a.task, .int .u32 (a.mask : Int)] 83)) = W0 at *
    have z2 := cell_of_row _ w.heap.size 2 _ _ (0,0) hV1
    have y1 := cell_of_row _ (w.heap.size + 1) 1 _ _ (0,0) hV2
    have y2 := cell_of_row _ (w.heap.size + 1) 2 _ _ (0,0) hV2
    simp at z2 y1 y2
    clear hV1 hV2
    have cI : ∀ d os,Calls Tryz.prog 152 #[I a.task, .slice v.t.a v.t.n v.t.c] (grow (redrawn W0 d) os) fun e w'' => e = .returned (.bool (idB a.task v.t.n)) ∧ ∃ p : Regrown,w'' = grow (redrawn W0 p.d) p.os := fun d os => Calls.regrown_of ((k2 _).mono (fun e w' h => ⟨h.1,by rw [h.2]; exact Below.refl _ _⟩))
    clear k2
    have x2 := cell_regrown z2
    have x3 := cell_regrown y1
    have x4 := cell_regrown y2
    cases hid : idB a.task v.t.n with
    | false =>
     rw [hid] at cI HR
     refine wp_region_quiet_below (by kernel_rfl) (by kernel_rfl) ?_
     repeat (go_big_quiet_step (first | exact cI _ _))
     refine wpQuiet_nil ?_
     rintro _ ⟨⟨dq,osq⟩,rfl⟩
     dsimp only
     have HB9 := HB1.trans ((below_regrown W0 dq osq).mono HB1.size)
     generalize grow (redrawn W0 dq) osq = w9 at *
     go_wp2
     go_ret
     exact ⟨qa5 (by rw [HR.out]; simp),HB9⟩
    | true =>
     rw [hid] at cI HR
     have hid2 : 0 ≤ a.task ∧ a.task < (v.t.n : Int) := by unfold idB at hid; simpa using hid
     obtain ⟨k,hk⟩ := Int.eq_ofNat_of_zero_le hid2.1
     obtain ⟨x,hx⟩ : ∃ x,tb.tasks[k]? = some x := ⟨_,List.getElem?_eq_getElem (by rw [← HN.out]; omega)⟩
     obtain ⟨gr,orr,s6,er,hgr,t0,t1,t2,t3,t4,t5,t6,t7,_⟩ := qdb HT1 hx
     have HM : Hid (qel tb a.task = x.mask) := by
      show _ = _
      unfold qel
      rw [hk,Int.toNat_natCast,hx]
     have hk1 : (k : Int) < v.t.n := by omega
     have x5 := cell_regrown t4
     rw [hk] at x3 cI
     rw [er] at x2 cI
     clear hx er hid hid2 t0 t1 t2 t3 t4 t5 t6 t7 z2 y1 y2
     cases h5 : ((a.mask : Int) != 0) with
     | false =>
      refine wp_region_quiet_below (by kernel_rfl) (by kernel_rfl) ?_
      repeat (go_big_quiet_step (first | exact cI _ _))
      refine wpQuiet_nil ?_
      rintro _ ⟨⟨dq,osq⟩,rfl⟩
      dsimp only
      have HB9 := HB1.trans ((below_regrown W0 dq osq).mono HB1.size)
      generalize grow (redrawn W0 dq) osq = w9 at *
      go_wp2
      go_ret
      exact ⟨qa5 (by rw [HR.out]; simp at h5; simp [h5]),HB9⟩
     | true =>
      refine wp_region_quiet_below (by kernel_rfl) (by kernel_rfl) ?_
      repeat (go_big_quiet_step (first | exact cI _ _))
      refine wpQuiet_nil ?_
      rintro _ ⟨⟨dq,osq⟩,rfl⟩
      dsimp only
      have HB9 := HB1.trans ((below_regrown W0 dq osq).mono HB1.size)
      have HX : Hid (R = (bits BinOp.andNot IntKind.u32 (a.mask : Int) (x.mask : Int) == 0)) := by
       show R = _
       rw [HR.out,HM.out]
       simp at h5
       simp [h5]
      generalize grow (redrawn W0 dq) osq = w9 at *
      generalize (bits BinOp.andNot IntKind.u32 (a.mask : Int) (x.mask : Int) == 0) = bb at *
      go_wp2
      go_ret
      exact ⟨qa5 HX.out.symm,HB9⟩
   ·have g2' : (a.kind == 2) = false := by simpa using g2
    rw [if_neg g2] at HR
    clear g1 g2
    go_enter Tryz.func89,Tryz.ntmps89
    cases h5 : (a.task == 0)
    ·go_wp2_with (first | (go_at_call 151; refine (k1 _).mono ?_; clear k1; rintro e w' ⟨rfl,rfl⟩))
     go_ret
     exact ⟨qa5 (by rw [HR.out,h5]; simp),hb _ _⟩
    ·go_wp2_with (first | (go_at_call 151; refine (k1 _).mono ?_; clear k1; rintro e w' ⟨rfl,rfl⟩))
     go_ret
     exact ⟨qa5 (by rw [HR.out,h5,Bool.eq_iff_iff]; simp),hb _ _⟩
end Go.Proofs.YtijgopkhdjaolaaGreat
namespace Go.Proofs.YtijgopkhdjaolaaGreat
open Go.RowKit Go.Shelf
set_option linter.unusedSimpArgs false
set_option linter.unusedVariables false
set_option maxHeartbeats 16000000
set_option maxRecDepth 100000
theorem qen {a b : Int} (h : a = b) : Ending.returned (I a) = Ending.returned (I b) := by rw [h]
def sumZ {α : Type} (h : α → Int) : List α → Int
 | [] => 0
 | x :: l => h x + sumZ h l
theorem qdx {α : Type} (h : α → Int) (l : List α) (x : α) : sumZ h (l ++ [x]) = sumZ h l + h x := by
 induction l with
 | nil => simp [sumZ]
 | cons y l ih => rw [List.cons_append,sumZ,ih,sumZ]; omega
theorem qg4 (p : Int) : ∀ l : List TkR,sumZ (fun x : TkR => if x.prio = p then x.limit else 0) l = capN l p
 | [] => rfl
 | x :: l => by rw [sumZ,capN,qg4 p l]
theorem qls (w : World) (s : Sl) (l : List TkR) (hl : ∀ W,Below w.heap.size w W → RowsAt W 8 (tkrP W) s l) (f : Nat) (caps : Array Value) (eg : ∀ args W,(callFunc f args).run Tryz.prog W = .ok (.enter f args) W) (p : TkR → Int)
  (hf : ∀ W,Below w.heap.size w W → ∀ x ∈ l, ∀ (s6 : Sl),RowsAt W 1 intP s6 x.own → Calls Tryz.prog f (#[.agg #[I x.prio,I x.ring, .bool x.full,I x.limit, .int .u32 (x.mask : Int),I x.inner, .slice s6.a s6.n s6.c, .int .u32 (x.auto : Int)]] ++ caps) W fun e w' => e = .returned (I (p x)) ∧ Below W.heap.size W w') :
  Calls Tryz.prog 148 #[.slice s.a s.n s.c, .func (.func f) #[] caps] w fun e w' => e = .returned (I (IntKind.i64.wrap (sumZ p l))) ∧ Below w.heap.size w w' := by
 have h0 := hl w (Below.refl _ _)
 have HS : Hid (s.n = l.length) := h0.n
 have hsc : s.n ≤ s.c := h0.c
 have hsm : s.c ≤ maxLen := h0.m
 unfold maxLen at hsm
 have HH : Hid (∀ W,Below w.heap.size w W → RowsAt W 8 (tkrP W) s l) := hl
 have HFF : Hid (∀ W,Below w.heap.size w W → ∀ x ∈ l, ∀ (s6 : Sl),RowsAt W 1 intP s6 x.own → Calls Tryz.prog f (#[.agg #[I x.prio,I x.ring, .bool x.full,I x.limit, .int .u32 (x.mask : Int),I x.inner, .slice s6.a s6.n s6.c, .int .u32 (x.auto : Int)]] ++ caps) W fun e w' => e = .returned (I (p x)) ∧ Below W.heap.size W w') := hf
 obtain ⟨R,hR⟩ : ∃ R,R = IntKind.i64.wrap (sumZ p l) := ⟨_,rfl⟩
 rw [← hR]
 have HR : Hid (R = IntKind.i64.wrap (sumZ p l)) := hR
 clear hl hR hf h0
 go_enter Tryz.func148,Tryz.ntmps148
 go_wp2
 go_loopw [5,7,10] (fun tv _ iv wr => ∃ (j : Nat) (t : Int),j ≤ s.n ∧ iv = .int .i64 j ∧ tv = .int .i64 t ∧ Hid (t = IntKind.i64.wrap (sumZ p (l.take j)) ∧ Below w.heap.size w wr)) (fun _ _ iv _ => s.n - (intOf iv).toNat)
 case atStart => exact ⟨0,0,by omega,rfl,rfl,by simp [sumZ,IntKind.wrap_i64],Below.refl _ _⟩
 case round =>
  obtain ⟨j,t,hj,rfl,rfl,HJ⟩ := hrel
  by_cases hlt : j < s.n
  ·have hlt' : (j : Int) < s.n := by omega
   obtain ⟨x,hx⟩ : ∃ x,l[j]? = some x := ⟨_,List.getElem?_eq_getElem (by rw [← HS.out]; exact hlt)⟩
   obtain ⟨g5,o5,e5,hg5,hr5⟩ := (HH.out _ HJ.out.2).row j x hx
   obtain ⟨u0,a0,q0⟩ := hr5 0 (by omega)
   obtain ⟨u1,a1,q1⟩ := hr5 1 (by omega)
   obtain ⟨u2,a2,q2⟩ := hr5 2 (by omega)
   obtain ⟨u3,a3,q3⟩ := hr5 3 (by omega)
   obtain ⟨u4,a4,q4⟩ := hr5 4 (by omega)
   obtain ⟨u5,a5,q5⟩ := hr5 5 (by omega)
   obtain ⟨u6,a6,q6⟩ := hr5 6 (by omega)
   obtain ⟨u7,a7,q7⟩ := hr5 7 (by omega)
   have e0 : u0 = I x.prio := q0
   have e1 : u1 = I x.ring := q1
   have e2 : u2 = .bool x.full := q2
   have e3 : u3 = I x.limit := q3
   have e4 : u4 = .int .u32 (x.mask : Int) := q4
   have e6 : u5 = I x.inner := q5
   obtain ⟨s6,e7,r6⟩ := (show IntsV wr x.own u6 from q6)
   have e8 : u7 = .int .u32 (x.auto : Int) := q7
   subst e0 e1 e2 e3 e4 e6 e7 e8
   rw [Nat.add_zero] at a0
   have HB : Hid (Below w.heap.size w (wr.alloc (.cells #[I x.prio,I x.ring, .bool x.full,I x.limit, .int .u32 (x.mask : Int),I x.inner, .slice s6.a s6.n s6.c, .int .u32 (x.auto : Int)] 61))) := HJ.out.2.trans ((qa0 wr _).mono HJ.out.2.size)
   have cx := HFF.out _ HB.out x (List.mem_of_getElem? hx) s6 (r6.below (qa0 wr _) (fun _ _ _ _ h => h))
   have HA : Hid (IntKind.i64.wrap (t + p x) = IntKind.i64.wrap (sumZ p (l.take (j + 1)))) := by
    show _ = _
    rw [List.take_add_one,hx,Option.toList_some,qdx,HJ.out.1]
    simp only [IntKind.wrap_i64]
    omega
   rw [e5]
   clear hx e5 HJ hr5 q0 q1 q2 q3 q4 q5 q6 q7 r6
   generalize p x = px at *
   go_wp2
   refine cx.mono ?_
   clear cx
   rintro e7 w7 ⟨rfl,hb7⟩
   have HB7 : Hid (Below w.heap.size w w7) := HB.out.trans (hb7.mono HB.out.size)
   clear hb7
   go_wp2
   go_roundw
   case rel => exact ⟨j + 1,IntKind.i64.wrap (t + px),by omega,by go_num,by simp [IntKind.wrap_i64,wrap64],HA.out,HB7.out⟩
   case measure => simp [intOf]; omega
  ·obtain rfl : j = s.n := by omega
   have hlt' : ¬ ((s.n : Nat) : Int) < (s.n : Nat) := by omega
   have HE : Hid (t = R) := by
    show _ = _
    rw [HR.out,HJ.out.1,List.take_of_length_le (by rw [HS.out]; exact Nat.le_refl _)]
   have HB : Hid (Below w.heap.size w wr) := HJ.out.2
   clear HR HJ
   go_wp2
   go_ret
   exact ⟨qen HE.out,HB.out⟩
theorem qfp (x : TkR) (s6 : Sl) (p : Int) (B : Nat) (w : World) (hp : w.cell? ⟨B,0,none⟩ = some (I p)) : Calls Tryz.prog 149 #[.agg (tkrC x s6), .pointer (some ⟨B,0,none⟩)] w fun e w' => e = .returned (I (if x.prio = p then x.limit else 0)) ∧ Below w.heap.size w w' := by
 have hb : ∀ o,Below w.heap.size w (w.alloc o) := fun o => qa0 w o
 have hp2 : ∀ o,(w.alloc o).cell? ⟨B,0,none⟩ = some (I p) := fun o => ((hb o).cell (p := ⟨B,0,none⟩) (World.block_lt_of_cell? _ _ hp)).trans hp
 clear hp
 by_cases h : x.prio = p
 ·rw [if_pos h]
  have h1 : (x.prio == p) = true := by simpa using h
  clear h
  unfold tkrC
  go_enter Tryz.func149,Tryz.ntmps149
  go_wp2
  go_ret
  exact ⟨rfl,hb _⟩
 ·rw [if_neg h]
  have h1 : (x.prio == p) = false := by simpa using h
  clear h
  unfold tkrC
  go_enter Tryz.func149,Tryz.ntmps149
  go_wp2
  go_ret
  exact ⟨rfl,hb _⟩
theorem qg5 (w : World) (s : Sl) (l : List TkR) (hl : ∀ W,Below w.heap.size w W → RowsAt W 8 (tkrP W) s l) (p : Int) : Calls Tryz.prog 76 #[.slice s.a s.n s.c,I p] w fun e w' => e = .returned (I (IntKind.i64.wrap (capN l p))) ∧ Below w.heap.size w w' := by
 have hb := qa0 w (.cells #[I p] 3)
 have hc : (w.alloc (.cells #[I p] 3)).cell? ⟨w.heap.size,0,none⟩ = some (I p) := by rw [cell_of_row _ _ _ _ _ (0,0) (heap_alloc_new w _)]; rfl
 have hsz : w.heap.size < (w.alloc (.cells #[I p] 3)).heap.size := by simp
 have ks := qls (w.alloc (.cells #[I p] 3)) s l (fun W hW => hl W (hb.trans (hW.mono hb.size))) 149 #[.pointer (some ⟨w.heap.size,0,none⟩)] (enters_of Tryz.func149 (by kernel_rfl) rfl) (fun x => if x.prio = p then x.limit else 0) (fun W hW x hx s6 _ => qfp x s6 p w.heap.size W ((hW.cell (p := ⟨w.heap.size,0,none⟩) hsz).trans hc))
 rw [qg4] at ks
 clear hc hl hsz
 go_enter Tryz.func76,Tryz.ntmps76
 go_wp2_with (go_at_call 148; refine ks.mono ?_; clear ks; rintro e w' ⟨rfl,hb2⟩)
 go_ret
 exact ⟨rfl,hb.trans (hb2.mono hb.size)⟩
theorem qg6 (x : TkR) (s6 : Sl) (p : Int) (B : Nat) (w : World) (hp : w.cell? ⟨B,0,none⟩ = some (I p)) : Calls Tryz.prog 147 #[.agg (tkrC x s6), .pointer (some ⟨B,0,none⟩)] w fun e w' => e = .returned (.bool (x.prio == p)) ∧ Below w.heap.size w w' := by
 have hb : ∀ o,Below w.heap.size w (w.alloc o) := fun o => qa0 w o
 have hp2 : ∀ o,(w.alloc o).cell? ⟨B,0,none⟩ = some (I p) := fun o => ((hb o).cell (p := ⟨B,0,none⟩) (World.block_lt_of_cell? _ _ hp)).trans hp
 clear hp
 unfold tkrC
 go_enter Tryz.func147,Tryz.ntmps147
 go_wp2
 go_ret
 exact ⟨rfl,hb _⟩
theorem qkh (w : World) (s : Sl) (l : List TkR) (hl : ∀ W,Below w.heap.size w W → RowsAt W 8 (tkrP W) s l) (f : Nat) (caps : Array Value) (eg : ∀ args W,(callFunc f args).run Tryz.prog W = .ok (.enter f args) W) (p : TkR → Bool)
  (hf : ∀ W,Below w.heap.size w W → ∀ x ∈ l, ∀ (s6 : Sl),RowsAt W 1 intP s6 x.own → Calls Tryz.prog f (#[.agg (tkrC x s6)] ++ caps) W fun e w' => e = .returned (.bool (p x)) ∧ Below W.heap.size W w') :
  Calls Tryz.prog 182 #[.slice s.a s.n s.c, .func (.func f) #[] caps] w fun e w' => (∃ i : Int,e = .returned (I i) ∧ decide (0 ≤ i) = l.any p) ∧ Below w.heap.size w w' := by
 have h0 := hl w (Below.refl _ _)
 have HS : Hid (s.n = l.length) := h0.n
 have hsc : s.n ≤ s.c := h0.c
 have hsm : s.c ≤ maxLen := h0.m
 unfold maxLen at hsm
 have HH : Hid (∀ W,Below w.heap.size w W → RowsAt W 8 (tkrP W) s l) := hl
 have HFF : Hid (∀ W,Below w.heap.size w W → ∀ x ∈ l, ∀ (s6 : Sl),RowsAt W 1 intP s6 x.own → Calls Tryz.prog f (#[.agg (tkrC x s6)] ++ caps) W fun e w' => e = .returned (.bool (p x)) ∧ Below W.heap.size W w') := hf
 obtain ⟨R,hR⟩ : ∃ R,R = l.any p := ⟨_,rfl⟩
 rw [← hR]
 have HR : Hid (R = l.any p) := hR
 clear hl hR hf h0
 go_enter Tryz.func182,Tryz.ntmps182
 go_wp2
 go_loopw [5,8] (fun _ iv wr => ∃ j : Nat,j ≤ s.n ∧ iv = .int .i64 j ∧ Hid ((l.take j).any p = false ∧ Below w.heap.size w wr)) (fun _ iv _ => s.n - (intOf iv).toNat)
 case atStart => exact ⟨0,by omega,rfl,by simp,Below.refl _ _⟩
 case round =>
  obtain ⟨j,hj,rfl,HJ⟩ := hrel
  by_cases hlt : j < s.n
  ·have hlt' : (j : Int) < s.n := by omega
   obtain ⟨x,hx⟩ : ∃ x,l[j]? = some x := ⟨_,List.getElem?_eq_getElem (by rw [← HS.out]; exact hlt)⟩
   obtain ⟨g5,o5,e5,hg5,hr5⟩ := (HH.out _ HJ.out.2).row j x hx
   obtain ⟨u0,a0,q0⟩ := hr5 0 (by omega)
   obtain ⟨u1,a1,q1⟩ := hr5 1 (by omega)
   obtain ⟨u2,a2,q2⟩ := hr5 2 (by omega)
   obtain ⟨u3,a3,q3⟩ := hr5 3 (by omega)
   obtain ⟨u4,a4,q4⟩ := hr5 4 (by omega)
   obtain ⟨u5,a5,q5⟩ := hr5 5 (by omega)
   obtain ⟨u6,a6,q6⟩ := hr5 6 (by omega)
   obtain ⟨u7,a7,q7⟩ := hr5 7 (by omega)
   have e0 : u0 = I x.prio := q0
   have e1 : u1 = I x.ring := q1
   have e2 : u2 = .bool x.full := q2
   have e3 : u3 = I x.limit := q3
   have e4 : u4 = .int .u32 (x.mask : Int) := q4
   have e6 : u5 = I x.inner := q5
   obtain ⟨s6,e7,r6⟩ := (show IntsV wr x.own u6 from q6)
   have e8 : u7 = .int .u32 (x.auto : Int) := q7
   subst e0 e1 e2 e3 e4 e6 e7 e8
   rw [Nat.add_zero] at a0
   have HB : Hid (Below w.heap.size w wr) := HJ.out.2
   have cx := HFF.out _ HB.out x (List.mem_of_getElem? hx) s6 r6
   have HT : Hid (p x = true → R = true) := fun ht => by
    rw [HR.out,List.any_eq_true]
    exact ⟨x,List.mem_of_getElem? hx,ht⟩
   have HA : Hid (p x = false → (l.take (j + 1)).any p = false) := fun ht => by
    rw [List.take_add_one,hx,Option.toList_some,List.any_append,HJ.out.1]
    simp [ht]
   rw [e5]
   unfold tkrC at cx
   clear hx e5 HJ hr5 q0 q1 q2 q3 q4 q5 q6 q7 r6
   cases he : p x with
   | true =>
    rw [he] at cx
    have HE : Hid (R = true) := HT.out he
    clear HT HA he
    go_wp2
    refine cx.mono ?_
    clear cx
    rintro e7 w7 ⟨rfl,hb7⟩
    have HB7 : Hid (Below w.heap.size w w7) := HB.out.trans (hb7.mono HB.out.size)
    clear hb7
    go_wp2
    go_ret
    exact ⟨⟨j,rfl,by rw [HE.out]; simp⟩,HB7.out⟩
   | false =>
    rw [he] at cx
    have HA2 : Hid ((l.take (j + 1)).any p = false) := HA.out he
    clear HT HA he
    go_wp2
    refine cx.mono ?_
    clear cx
    rintro e7 w7 ⟨rfl,hb7⟩
    have HB7 : Hid (Below w.heap.size w w7) := HB.out.trans (hb7.mono HB.out.size)
    clear hb7
    go_wp2
    go_roundw
    case rel => exact ⟨j + 1,by omega,by go_num,HA2.out,HB7.out⟩
    case measure => simp [intOf]; omega
  ·obtain rfl : j = s.n := by omega
   have hlt' : ¬ ((s.n : Nat) : Int) < (s.n : Nat) := by omega
   have HE : Hid (R = false) := by
    show _ = _
    rw [HR.out]
    have := HJ.out.1
    rwa [List.take_of_length_le (by rw [HS.out]; exact Nat.le_refl _)] at this
   have HB : Hid (Below w.heap.size w wr) := HJ.out.2
   clear HR HJ
   go_wp2
   go_ret
   exact ⟨⟨-1,rfl,by rw [HE.out]; rfl⟩,HB.out⟩
theorem qjb (w : World) (s : Sl) (l : List TkR) (hl : ∀ W,Below w.heap.size w W → RowsAt W 8 (tkrP W) s l) (f : Nat) (caps : Array Value) (eg : ∀ args W,(callFunc f args).run Tryz.prog W = .ok (.enter f args) W) (p : TkR → Bool)
  (hf : ∀ W,Below w.heap.size w W → ∀ x ∈ l, ∀ (s6 : Sl),RowsAt W 1 intP s6 x.own → Calls Tryz.prog f (#[.agg (tkrC x s6)] ++ caps) W fun e w' => e = .returned (.bool (p x)) ∧ Below W.heap.size W w') :
  Calls Tryz.prog 146 #[.slice s.a s.n s.c, .func (.func f) #[] caps] w fun e w' => e = .returned (.bool (l.any p)) ∧ Below w.heap.size w w' := by
 have k := qkh w s l hl f caps eg p hf
 obtain ⟨R,hR⟩ : ∃ R,R = l.any p := ⟨_,rfl⟩
 rw [← hR] at k ⊢
 clear hl hf eg hR
 go_enter Tryz.func146,Tryz.ntmps146
 go_wp2_with (go_at_call 182; refine k.mono ?_; clear k; rintro e w' ⟨⟨i,rfl,hi⟩,hb2⟩)
 go_ret
 exact ⟨rfl,hb2⟩
theorem qh1 (tb : Tb) (v : Ts) (w : World) (h : TbAt w tb v) (p : Int) : Calls Tryz.prog 75 #[.agg (tbC tb v),I p] w fun e w' => e = .returned (.bool (tb.tasks.any (fun x => x.prio == p))) ∧ Below w.heap.size w w' := by
 have hb : ∀ o q,Below w.heap.size w ((w.alloc o).alloc q) := fun o q => ((Below.refl w.heap.size w).alloc (Nat.le_refl _) o).alloc (by simp) q
 have ks : ∀ o,Calls Tryz.prog 146 #[.slice v.t.a v.t.n v.t.c, .func (.func 147) #[] #[.pointer (some ⟨w.heap.size + 1,0,none⟩)]] ((w.alloc o).alloc (.cells #[I p] 3)) fun e w' => e = .returned (.bool (tb.tasks.any (fun x => x.prio == p))) ∧ Below ((w.alloc o).alloc (.cells #[I p] 3)).heap.size ((w.alloc o).alloc (.cells #[I p] 3)) w' := fun o => by
  have hc : ((w.alloc o).alloc (.cells #[I p] 3)).cell? ⟨w.heap.size + 1,0,none⟩ = some (I p) := by
   have := heap_alloc_new (w.alloc o) (.cells #[I p] 3)
   rw [World.size_alloc] at this
   rw [cell_of_row _ _ _ _ _ (0,0) this]; rfl
  have hsz : w.heap.size + 1 < ((w.alloc o).alloc (.cells #[I p] 3)).heap.size := by simp
  exact qjb ((w.alloc o).alloc (.cells #[I p] 3)) v.t tb.tasks (fun W hW => (h.below ((hb _ _).trans (hW.mono (hb _ _).size))).t) 147 #[.pointer (some ⟨w.heap.size + 1,0,none⟩)] (enters_of Tryz.func147 (by kernel_rfl) rfl) (fun x => x.prio == p) (fun W hW x hx s6 _ => qg6 x s6 p (w.heap.size + 1) W ((hW.cell (p := ⟨w.heap.size + 1,0,none⟩) hsz).trans hc))
 clear h
 unfold tbC
 go_enter Tryz.func75,Tryz.ntmps75
 go_wp2_with (go_at_call 146; refine (ks _).mono ?_; clear ks; rintro e w' ⟨rfl,hb2⟩)
 go_ret
 exact ⟨rfl,(hb _ _).trans (hb2.mono (hb _ _).size)⟩
end Go.Proofs.YtijgopkhdjaolaaGreat
namespace Go.Proofs.YtijgopkhdjaolaaGreat
open Go.RowKit Go.Shelf Go.Sort
set_option linter.unusedSimpArgs false
set_option linter.unusedVariables false
set_option maxHeartbeats 16000000
set_option maxRecDepth 100000
theorem qaa {P : Program} {ops : Array Oper} {C : World → Prop} {Q : Act → Prop} {a : Act} {o : Oper} {rest : List Oper} (hgd : Region.wanted o (yielded ops a.tmps) = true) (ty : TypeId) (x : Operand) (ho : o.op = .load ty x)
  (g : Nat) (hx : a.eval x = .pointer (some ⟨g,0,none⟩)) (t : TypeId) (cs : Array Value) (fr : Nat × Nat) (d : TypeDesc) (hg : ∀ w,C w → w.heap[g]? = some (.cells cs t fr))
  (hu : P.underlying ty = some d) (hd : (match d with | .struct _ | .array _ _ => true | _ => false) = true) (hi : (P.info? ty).map (·.size) = some cs.size)
  (h : wpQuiet P ops C Q rest (a.put o.dst (.agg cs))) : wpQuiet P ops C Q (o :: rest) a := by
 unfold wpQuiet
 rw [if_pos hgd]
 refine ⟨.agg cs,fun w hw => ?_,h⟩
 unfold Oper.quietAt execOp
 simp only [ho,hx,Instr.loadAt,Instr.sureAddr,Sem.run_bind,Sem.run_pure,Result.andThen_ok,run_loadVar_row w g t ty cs fr d (hg w hw) hu hd hi]
 exact ⟨rfl,rfl⟩
theorem qbk {w : World} {g : Nat} {o : Obj} (h : w.heap[g]? = some o) : ∀ w',(∃ p : Regrown,w' = grow (redrawn w p.d) p.os) → w'.heap[g]? = some o := by
 rintro w' ⟨p,rfl⟩
 exact ((below_regrown w p.d p.os).block g (qay h)).trans h
theorem qaz {P : Program} {f : Nat} {args : Array Value} {W0 : World} {r : Value} (h : ∀ W,Below W0.heap.size W0 W → Calls P f args W fun e w' => e = .returned r ∧ Below W.heap.size W w') (d : Nat) (os : Array Obj) : Calls P f args (grow (redrawn W0 d) os) fun e w'' => e = .returned r ∧ ∃ p : Regrown,w'' = grow (redrawn W0 p.d) p.os :=
 Calls.regrown_of (h _ (below_regrown W0 d os))
theorem qg7 (tb : Tb) (v : Ts) (w : World) (h : TbAt w tb v) : Calls Tryz.prog 27 #[.agg (tbC tb v)] w fun e w' => e = .returned (.bool (qbs tb.tasks 64 tb.rings)) ∧ Below w.heap.size w w' := by
 have hV := heap_alloc_new w (.cells (tbC tb v) 30)
 have HB : Hid (Below w.heap.size w (w.alloc (.cells (tbC tb v) 30))) := qa0 w _
 have HT : Hid (TbAt (w.alloc (.cells (tbC tb v) 30)) tb v) := h.below HB.out
 have HVV : Hid ((w.alloc (.cells (tbC tb v) 30)).heap[w.heap.size]? = some (.cells (tbC tb v) 30)) := hV
 obtain ⟨c0,c1,c2,c3,c4,c5,c6,c7,c8,c9,c10,c11,c12⟩ := qbx hV
 have HS : Hid (v.g.n = tb.rings.length) := h.g.n
 have hsc : v.g.n ≤ v.g.c := h.g.c
 have hsm : v.g.c ≤ maxLen := h.g.m
 unfold maxLen at hsm
 have hi30 : (Tryz.prog.info? 30).map (·.size) = some (tbC tb v).size := by kernel_rfl
 obtain ⟨R,hR⟩ : ∃ R,R = qbs tb.tasks 64 tb.rings := ⟨_,rfl⟩
 rw [← hR]
 have HR : Hid (R = qbs tb.tasks 64 (tb.rings.drop 0)) := hR
 clear hR h hV c0 c1 c2 c4 c5 c6 c7 c8 c9 c10 c11 c12
 go_enter Tryz.func27,Tryz.ntmps27
 unfold tbC at *
 generalize hW : w.alloc (.cells #[I tb.uses,I tb.modes, .slice v.t.a v.t.n v.t.c, .slice v.g.a v.g.n v.g.c, .slice v.r.a v.r.n v.r.c, .slice v.k.a v.k.n v.k.c, .slice v.a.a v.a.n v.a.c, .slice v.i.a v.i.n v.i.c, .slice v.s.a v.s.n v.s.c,I tb.depth,I tb.frames,I tb.errors,I tb.calls] 30) = W1 at *
 go_upto_region 1 with fail
 clear hW
 go_wp2
 go_loopw [3,5,9] (fun av _ iv wr => ∃ (j : Nat) (a : Int),j ≤ v.g.n ∧ iv = .int .i64 j ∧ av = I a ∧ Hid (R = qbs tb.tasks a (tb.rings.drop j) ∧ (0 ≤ a ∧ a ≤ 64) ∧ Below W1.heap.size W1 wr)) (fun _ _ iv _ => v.g.n - (intOf iv).toNat)
 case atStart => exact ⟨0,64,by omega,rfl,rfl,HR.out,by omega,Below.refl _ _⟩
 case round =>
  clear HR
  obtain ⟨j,a,hj,rfl,rfl,HJ⟩ := hrel
  by_cases hlt : j < v.g.n
  ·have hlt' : (j : Int) < v.g.n := by omega
   obtain ⟨x,hx⟩ : ∃ x,tb.rings[j]? = some x := ⟨_,List.getElem?_eq_getElem (by rw [← HS.out]; exact hlt)⟩
   obtain ⟨g5,o5,e5,hg5,x0,x1⟩ := qg0 (HT.out.below HJ.out.2.2) hx
   have ha := HJ.out.2.1
   have HX : Hid (R = (inI x.prio 0 (a - 1) && tb.tasks.any (fun y => y.prio == x.prio) && (x.cap == IntKind.i64.wrap (capN tb.tasks x.prio)) && qbs tb.tasks x.prio (tb.rings.drop (j + 1)))) := by
    have h9 := HJ.out.1
    rw [qf2 hx,qbs] at h9
    exact h9
   rw [e5]
   clear hx e5
   have b0 := HJ.out.2.2
   clear HJ
   go_upto_region 5 with fail
   have bX : Below W1.heap.size W1 (wr.alloc (.cells #[I x.prio,I x.cap] 63)) := b0.trans ((qa0 wr _).mono b0.size)
   have y0 : (wr.alloc (.cells #[I x.prio,I x.cap] 63)).cell? ⟨wr.heap.size,0,none⟩ = some (I x.prio) := by rw [cell_of_row _ _ _ _ _ (0,0) (heap_alloc_new wr _)]; rfl
   have y1 : (wr.alloc (.cells #[I x.prio,I x.cap] 63)).cell? ⟨wr.heap.size,1,none⟩ = some (I x.cap) := by rw [cell_of_row _ _ _ _ _ (0,0) (heap_alloc_new wr _)]; rfl
   have hV0 : (wr.alloc (.cells #[I x.prio,I x.cap] 63)).heap[w.heap.size]? = some (.cells #[I tb.uses,I tb.modes, .slice v.t.a v.t.n v.t.c, .slice v.g.a v.g.n v.g.c, .slice v.r.a v.r.n v.r.c, .slice v.k.a v.k.n v.k.c, .slice v.a.a v.a.n v.a.c, .slice v.i.a v.i.n v.i.c, .slice v.s.a v.s.n v.s.c,I tb.depth,I tb.frames,I tb.errors,I tb.calls] 30) := (bX.block w.heap.size (qay HVV.out)).trans HVV.out
   have hT0 := HT.out.below bX
   clear b0 x0 x1
   generalize wr.heap.size = X at *
   generalize (wr.alloc (.cells #[I x.prio,I x.cap] 63)) = W0 at *
   have cW : ∀ d os,Calls Tryz.prog 72 #[I x.prio,I 0,I (a - 1)] (grow (redrawn W0 d) os) fun e w'' => e = .returned (.bool (inI x.prio 0 (a - 1))) ∧ ∃ p : Regrown,w'' = grow (redrawn W0 p.d) p.os := fun d os => qaz (fun W hW => (qba x.prio 0 (a - 1) W).mono (fun e w' h => ⟨h.1,by rw [h.2]; exact Below.refl _ _⟩)) d os
   have cH : ∀ d os,Calls Tryz.prog 75 #[.agg #[I tb.uses,I tb.modes, .slice v.t.a v.t.n v.t.c, .slice v.g.a v.g.n v.g.c, .slice v.r.a v.r.n v.r.c, .slice v.k.a v.k.n v.k.c, .slice v.a.a v.a.n v.a.c, .slice v.i.a v.i.n v.i.c, .slice v.s.a v.s.n v.s.c,I tb.depth,I tb.frames,I tb.errors,I tb.calls],I x.prio] (grow (redrawn W0 d) os) fun e w'' => e = .returned (.bool (tb.tasks.any (fun y => y.prio == x.prio))) ∧ ∃ p : Regrown,w'' = grow (redrawn W0 p.d) p.os := fun d os => qaz (fun W hW => qh1 tb v W (hT0.below hW) x.prio) d os
   have cC : ∀ d os,Calls Tryz.prog 76 #[.slice v.t.a v.t.n v.t.c,I x.prio] (grow (redrawn W0 d) os) fun e w'' => e = .returned (I (IntKind.i64.wrap (capN tb.tasks x.prio))) ∧ ∃ p : Regrown,w'' = grow (redrawn W0 p.d) p.os := fun d os => qaz (fun W hW => qg5 W v.t tb.tasks (fun W2 hW2 => ((hT0.below hW).below hW2).t) x.prio) d os
   have z0 := cell_regrown y0
   have z1 := cell_regrown y1
   have z2 := cell_regrown (qbx hV0).2.2.1
   have hR0 := qbk hV0
   have HB0 : Hid (Below w.heap.size w W0) := HB.out.trans (bX.mono HB.out.size)
   have HBX : Hid (Below W1.heap.size W1 W0) := bX
   clear hT0 bX
   cases b1 : inI x.prio 0 (a - 1) with
   | false =>
    rw [b1] at cW HX
    refine wp_region_quiet_below (by kernel_rfl) (by kernel_rfl) ?_
    repeat (go_big_quiet_step (first | exact cW _ _))
    refine wpQuiet_nil ?_
    rintro _ ⟨⟨dq,osq⟩,rfl⟩
    dsimp only
    have HB9 : Hid (Below w.heap.size w (grow (redrawn W0 dq) osq)) := HB0.out.trans ((below_regrown W0 dq osq).mono HB0.out.size)
    have HB8 : Hid (Below W1.heap.size W1 (grow (redrawn W0 dq) osq)) := HBX.out.trans ((below_regrown W0 dq osq).mono HBX.out.size)
    have r0 := z0 dq osq
    clear cW cH cC hR0 z0 z1 z2 y0 y1 hV0
    generalize grow (redrawn W0 dq) osq = w9 at *
    go_wp2
    go_ret
    exact ⟨qa5 (by rw [HX.out]; simp),HB9.out⟩
   | true =>
    rw [b1] at cW HX
    have hp : 0 ≤ x.prio ∧ x.prio ≤ 63 := by unfold inI at b1; simp at b1; omega
    cases b2 : tb.tasks.any (fun y => y.prio == x.prio) with
    | false =>
     rw [b2] at cH HX
     refine wp_region_quiet_below (by kernel_rfl) (by kernel_rfl) ?_
     repeat (first | (go_big_quiet_step (first | exact cW _ _ | exact cH _ _)) | (refine qaa (by kernel_rfl) 30 _ rfl w.heap.size rfl 30 _ (0,0) _ hR0 Tryz.underlying30 rfl hi30 ?_; simp only [Act.put,q7a,q7b,q7c,q7d,q7e,q7f]))
     refine wpQuiet_nil ?_
     rintro _ ⟨⟨dq,osq⟩,rfl⟩
     dsimp only
     have HB9 : Hid (Below w.heap.size w (grow (redrawn W0 dq) osq)) := HB0.out.trans ((below_regrown W0 dq osq).mono HB0.out.size)
     have HB8 : Hid (Below W1.heap.size W1 (grow (redrawn W0 dq) osq)) := HBX.out.trans ((below_regrown W0 dq osq).mono HBX.out.size)
     have r0 := z0 dq osq
     clear cW cH cC hR0 z0 z1 z2 y0 y1 hV0
     generalize grow (redrawn W0 dq) osq = w9 at *
     go_wp2
     go_ret
     exact ⟨qa5 (by rw [HX.out]; simp),HB9.out⟩
    | true =>
     rw [b2] at cH HX
     cases b3 : (x.cap == IntKind.i64.wrap (capN tb.tasks x.prio)) with
     | false =>
      rw [b3] at HX
      generalize IntKind.i64.wrap (capN tb.tasks x.prio) = cc at *
      refine wp_region_quiet_below (by kernel_rfl) (by kernel_rfl) ?_
      repeat (first | (go_big_quiet_step (first | exact cW _ _ | exact cH _ _ | exact cC _ _)) | (refine qaa (by kernel_rfl) 30 _ rfl w.heap.size rfl 30 _ (0,0) _ hR0 Tryz.underlying30 rfl hi30 ?_; simp only [Act.put,q7a,q7b,q7c,q7d,q7e,q7f]))
      refine wpQuiet_nil ?_
      rintro _ ⟨⟨dq,osq⟩,rfl⟩
      dsimp only
      have HB9 : Hid (Below w.heap.size w (grow (redrawn W0 dq) osq)) := HB0.out.trans ((below_regrown W0 dq osq).mono HB0.out.size)
      have HB8 : Hid (Below W1.heap.size W1 (grow (redrawn W0 dq) osq)) := HBX.out.trans ((below_regrown W0 dq osq).mono HBX.out.size)
      have r0 := z0 dq osq
      clear cW cH cC hR0 z0 z1 z2 y0 y1 hV0
      generalize grow (redrawn W0 dq) osq = w9 at *
      go_wp2
      go_ret
      exact ⟨qa5 (by rw [HX.out]; simp),HB9.out⟩
     | true =>
      rw [b3] at HX
      generalize IntKind.i64.wrap (capN tb.tasks x.prio) = cc at *
      refine wp_region_quiet_below (by kernel_rfl) (by kernel_rfl) ?_
      repeat (first | (go_big_quiet_step (first | exact cW _ _ | exact cH _ _ | exact cC _ _)) | (refine qaa (by kernel_rfl) 30 _ rfl w.heap.size rfl 30 _ (0,0) _ hR0 Tryz.underlying30 rfl hi30 ?_; simp only [Act.put,q7a,q7b,q7c,q7d,q7e,q7f]))
      refine wpQuiet_nil ?_
      rintro _ ⟨⟨dq,osq⟩,rfl⟩
      dsimp only
      have HB9 : Hid (Below w.heap.size w (grow (redrawn W0 dq) osq)) := HB0.out.trans ((below_regrown W0 dq osq).mono HB0.out.size)
      have HB8 : Hid (Below W1.heap.size W1 (grow (redrawn W0 dq) osq)) := HBX.out.trans ((below_regrown W0 dq osq).mono HBX.out.size)
      have r0 := z0 dq osq
      clear cW cH cC hR0 z0 z1 z2 y0 y1 hV0
      generalize grow (redrawn W0 dq) osq = w9 at *
      go_wp2
      go_roundw
      case rel => exact ⟨j + 1,x.prio,by omega,by go_num,rfl,by rw [HX.out]; simp,by omega,HB8.out⟩
      case measure => simp [intOf]; omega
  ·obtain rfl : j = v.g.n := by omega
   have hlt' : ¬ ((v.g.n : Nat) : Int) < (v.g.n : Nat) := by omega
   have HE : Hid (R = true) := by
    have := HJ.out.1
    rw [List.drop_eq_nil_of_le (by rw [HS.out]; exact Nat.le_refl _),qbs] at this
    exact this
   have HB9 : Hid (Below w.heap.size w wr) := HB.out.trans (HJ.out.2.2.mono HB.out.size)
   clear HJ
   go_wp2
   go_ret
   exact ⟨qa5 HE.out.symm,HB9.out⟩
structure WfT (tb : Tb) : Prop where
 t : ∀ x ∈ tb.tasks,x.mask < 4294967296 ∧ x.auto < 4294967296
 k : ∀ x ∈ tb.ctrs,x.max < 4294967296 ∧ x.base < 4294967296 ∧ x.min < 4294967296
 a : ∀ x ∈ tb.als,x.ac.mask < 4294967296 ∧ x.auto < 4294967296 ∧ x.time < 4294967296 ∧ x.cycle < 4294967296
 s : ∀ x ∈ tb.msgs,x.init < 18446744073709551616 ∧ x.ac.mask < 4294967296
theorem qdk {P : Program} {f : Nat} {args : Array Value} {r : Value} {W : World} (h : Calls P f args W fun e w' => e = .returned r ∧ w' = W) : Calls P f args W fun e w' => e = .returned r ∧ Below W.heap.size W w' := h.mono (fun e w' h => ⟨h.1,by rw [h.2]; exact Below.refl _ _⟩)
end Go.Proofs.YtijgopkhdjaolaaGreat
