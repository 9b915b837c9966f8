import Derived.Test.YtmidaeljeoifdaaGreatDoorXKrb
import Derived.Deep.WholeRow
import Derived.Lib.QuietBelow
namespace Go.Proofs.YtmidaeljeoifdaaGreatDoor
open Go.RowKit
set_option linter.unusedSimpArgs false
set_option linter.unusedVariables false
set_option maxHeartbeats 16000000
set_option maxRecDepth 100000
theorem qjr (w : World) (c : Cf) (v : Vs) (h : CfAt w c v) (i : Nat) (x : Rs) (hi : c.ress[i]? = some x) :
  Calls Tryz.prog 221 #[.agg (cfC c v),I i] w fun e w' => Ans w (x.kind != 2 || (decide (0 ≤ rootF c c.ress.length i) && rkind c (rootF c c.ress.length i) == 1)) e w' := by
 have hn : v.r.n = c.ress.length := h.r.n
 have hlt : (i : Int) < v.r.n := by have := (List.getElem?_eq_some_iff.1 hi).1; omega
 obtain ⟨g,off,e,hg,a0,a1,a2⟩ := qb5 h hi
 have hne : g ≠ w.heap.size := by omega
 have hb := qa0 w
 have hV0 := heap_alloc_new w (.cells (cfC c v) 47)
 have c1 := qr6 _ c v (h.below (hb (.cells (cfC c v) 47))) i
 have hh := h.below (hb (.cells (cfC c v) 47))
 have hbw := hb (.cells (cfC c v) 47)
 obtain ⟨B,hB⟩ : ∃ B,B = (x.kind != 2 || (decide (0 ≤ rootF c c.ress.length i) && rkind c (rootF c c.ress.length i) == 1)) := ⟨_,rfl⟩
 rw [← hB]
 have HB : Hid (B = _) := hB
 have hro : rootF c c.ress.length i < v.r.n := by rw [hn]; exact qbt c c.ress.length i
 have HN : Hid (v.r.n = c.ress.length) := hn
 clear hi hn hB
 generalize rootF c c.ress.length i = ρ at *
 have hV1 : ∀ w1,Below (w.alloc (.cells (cfC c v) 47)).heap.size (w.alloc (.cells (cfC c v) 47)) w1 → CfAt w1 c v ∧ Below w.heap.size w w1 ∧ w1.cell? ⟨w.heap.size,12,none⟩ = some (.slice v.r.a v.r.n v.r.c) := fun w1 hb1 =>
  ⟨hh.below hb1,hbw.trans (hb1.mono hbw.size),cell_of_row w1 w.heap.size 12 _ _ (0,0) ((hb1.block _ (qa1 hV0)).trans hV0)⟩
 clear hV0 hh hbw
 have f12 : ∀ h : 12 < (cfC c v).size,(cfC c v)[12] = .slice v.r.a v.r.n v.r.c := fun _ => rfl
 have hs18 : (cfC c v).size = 18 := rfl
 have hi18 : (Tryz.prog.info? 47).map (·.size) = some (cfC c v).size := by rw [show (cfC c v).size = 18 from rfl]; kernel_rfl
 have hV0 := heap_alloc_new w (.cells (cfC c v) 47)
 generalize cfC c v = C at *
 replace f12 := f12 (by omega)
 rw [e] at hV1 f12
 cases hk : x.kind == 2 with
 | false =>
  have hk2 : Hid (B = true) := by show _ = _; rw [HB.out]; simp [bne,hk]
  clear c1 hV1 HB
  go_enter Tryz.func221,Tryz.ntmps221
  go_wp2
  go_ret
  exact ⟨qa4 hk2.out.symm,hb _⟩
 | true =>
  have hk2 : Hid (B = (decide (0 ≤ ρ) && rkind c ρ == 1)) := by show _ = _; rw [HB.out]; simp [bne,hk]
  clear HB hb
  go_enter Tryz.func221,Tryz.ntmps221
  go_wp2_with (refine wpList_load_row rfl 47 _ rfl w.heap.size rfl 47 _ (0,0) _ hV0 Tryz.underlying47 rfl hi18 ?_)
  refine c1.mono ?_
  rintro e1 w1 ⟨rfl,hb1⟩
  obtain ⟨h1,hbw1,k12⟩ := hV1 w1 hb1
  clear hb1 c1 hV1
  by_cases h0 : 0 ≤ ρ
  ·obtain ⟨q,rfl⟩ := Int.eq_ofNat_of_zero_le h0
   have hql : q < c.ress.length := by rw [← HN.out]; omega
   obtain ⟨y,hy⟩ : ∃ y,c.ress[q]? = some y := ⟨_,List.getElem?_eq_getElem hql⟩
   obtain ⟨g',off',e',hg',b0,b1,b2⟩ := qb5 h1 hy
   rw [e] at e'
   obtain ⟨rfl,rfl⟩ : g = g' ∧ off = off' := by cases e'; exact ⟨rfl,rfl⟩
   have hk3 : Hid (B = (y.kind == 1)) := by show _ = _; rw [hk2.out]; simp [rkind,hy]
   clear hy hql e' h1 h a0 a1 a2 b0 b2 hk2
   go_wp2
   go_ret
   exact ⟨qa4 hk3.out.symm,hbw1⟩
  ·have HF : Hid (B = false) := by show _ = _; rw [hk2.out,decide_eq_false h0]; rfl
   go_wp2
   go_ret
   exact ⟨qa4 HF.out.symm,hbw1⟩
theorem qfu (w : World) (c : Cf) (v : Vs) (h : CfAt w c v) (i : Nat) (x : Tk) (hi : c.tasks[i]? = some x) :
  Calls Tryz.prog 229 #[.agg (cfC c v),I i] w fun e w' => Ans w (decide ((x.evs.length : Int) ≤ 32)) e w' := by
 have hn : v.t.n = c.tasks.length := h.t.n
 have hlt : (i : Int) < v.t.n := by have := (List.getElem?_eq_some_iff.1 hi).1; omega
 obtain ⟨g,off,s4,s5,s6,s7,e,hg,a0,a1,a2,a3,a4,a5,a6,a7,r4,r5,r6,r7⟩ := qbj h hi
 have hne : g ≠ w.heap.size := by omega
 have hb := qa0 w
 have hb2 := fun o o' => (hb o).trans ((qa0 (w.alloc o) o').mono (hb o).size)
 have hl6 : Hid (s6.n = x.evs.length) := r6.n
 have f11 : ∀ h : 11 < (cfC c v).size,(cfC c v)[11] = .slice v.t.a v.t.n v.t.c := fun _ => rfl
 have hs18 : (cfC c v).size = 18 := rfl
 generalize cfC c v = C at *
 replace f11 := f11 (by omega)
 rw [e] at f11
 clear hi hn
 rw [← hl6.out]
 by_cases h32 : (s6.n : Int) ≤ 32
 ·go_enter Tryz.func229,Tryz.ntmps229
  go_wp2
  go_ret
  exact ⟨qa4 (by simp [h32]),hb _⟩
 ·go_enter Tryz.func229,Tryz.ntmps229
  go_wp2
  go_ret
  exact ⟨qa4 (by simp [h32]),hb _⟩
def extL (c : Cf) (t : Int) : Bool := isId t c.tasks.length && (match c.tasks[t.toNat]? with | some x => decide (0 < (x.evs.length : Int)) | none => false)
theorem qjs (w : World) (c : Cf) (v : Vs) (h : CfAt w c v) (t : Int) :
  Calls Tryz.prog 275 #[.agg (cfC c v),I t] w fun e w' => Ans w (extL c t) e w' := by
 have hn : v.t.n = c.tasks.length := h.t.n
 have c1 := qc2 t v.t.n
 have hb := qa0 w
 obtain ⟨B,hB⟩ : ∃ B,B = extL c t := ⟨_,rfl⟩
 rw [← hB]
 unfold extL at hB
 rw [← hn] at hB
 have HB : Hid (B = _) := hB
 have HN : Hid (v.t.n = c.tasks.length) := hn
 clear hB hn
 have f11 : ∀ h : 11 < (cfC c v).size,(cfC c v)[11] = .slice v.t.a v.t.n v.t.c := fun _ => rfl
 have hs18 : (cfC c v).size = 18 := rfl
 generalize cfC c v = C at *
 replace f11 := f11 (by omega)
 cases hid : isId t v.t.n with
 | false =>
  rw [hid] at c1
  have HF : Hid (B = false) := by show _ = _; rw [HB.out,hid]; rfl
  clear HB
  go_enter Tryz.func275,Tryz.ntmps275
  go_wp2_with (first | (go_at_call 272; refine (c1 _).mono ?_; rintro e w' ⟨rfl,rfl⟩))
  go_ret
  exact ⟨qa4 HF.out.symm,hb _⟩
 | true =>
  rw [hid] at c1
  have hr : 0 ≤ t ∧ t < v.t.n := by simpa [isId] using hid
  obtain ⟨q,rfl⟩ := Int.eq_ofNat_of_zero_le hr.1
  have hq' : (q : Int) < v.t.n := hr.2
  have hql : q < c.tasks.length := by rw [← HN.out]; omega
  obtain ⟨x,hx⟩ : ∃ x,c.tasks[q]? = some x := ⟨_,List.getElem?_eq_getElem hql⟩
  obtain ⟨g,off,s4,s5,s6,s7,e,hg,a0,a1,a2,a3,a4,a5,a6,a7,r4,r5,r6,r7⟩ := qbj h hx
  have hne : g ≠ w.heap.size := by omega
  have hl6 : s6.n = x.evs.length := r6.n
  have HF : Hid (B = decide (0 < (s6.n : Int))) := by show _ = _; rw [HB.out,hid,hl6]; simp [hx]
  rw [e] at f11
  clear HB hr hql hx hid hl6
  go_enter Tryz.func275,Tryz.ntmps275
  go_wp2_with (first | (go_at_call 272; refine (c1 _).mono ?_; rintro e w' ⟨rfl,rfl⟩))
  go_ret
  exact ⟨qa4 (by rw [HF.out]; simp),hb _⟩
theorem qeb (w : World) (c : Cf) (v : Vs) (h : CfAt w c v) (i : Nat) (x : Tk) (hi : c.tasks[i]? = some x) :
  Calls Tryz.prog 230 #[.agg (cfC c v),I i] w fun e w' => Ans w (!extL c i || x.act == 1) e w' := by
 have hn : v.t.n = c.tasks.length := h.t.n
 have hlt : (i : Int) < v.t.n := by have := (List.getElem?_eq_some_iff.1 hi).1; omega
 obtain ⟨g,off,s4,s5,s6,s7,e,hg,a0,a1,a2,a3,a4,a5,a6,a7,r4,r5,r6,r7⟩ := qbj h hi
 have hne : g ≠ w.heap.size := by omega
 have hb := qa0 w
 have hb2 := fun o o' => (hb o).trans ((qa0 (w.alloc o) o').mono (hb o).size)
 have hi18 : (Tryz.prog.info? 47).map (·.size) = some (cfC c v).size := by rw [show (cfC c v).size = 18 from rfl]; kernel_rfl
 have hV0 := heap_alloc_new w (.cells (cfC c v) 47)
 have c1 := qjs _ c v (h.below (hb (.cells (cfC c v) 47))) i
 have hV1 : ∀ w1,Below (w.alloc (.cells (cfC c v) 47)).heap.size (w.alloc (.cells (cfC c v) 47)) w1 → Below w.heap.size w w1 ∧ w1.cell? ⟨w.heap.size,11,none⟩ = some (.slice (some ⟨g,off,none⟩) v.t.n v.t.c) ∧ w1.cell? ⟨g,off + i * 8 + 3,none⟩ = some (I x.act) := fun w1 hb1 =>
  ⟨(hb _).trans (hb1.mono (hb _).size),by rw [← e]; exact cell_of_row w1 w.heap.size 11 _ _ (0,0) ((hb1.block _ (qa1 hV0)).trans hV0),by rw [qa7 hb1 _ _ (Nat.lt_of_lt_of_le hg (hb _).size),qa7 (hb _) _ _ hg]; exact a3⟩
 generalize extL c i = b at *
 have f11 : ∀ h : 11 < (cfC c v).size,(cfC c v)[11] = .slice v.t.a v.t.n v.t.c := fun _ => rfl
 have hs18 : (cfC c v).size = 18 := rfl
 generalize cfC c v = C at *
 replace f11 := f11 (by omega)
 rw [e] at f11
 clear hi hn
 cases b with
 | false =>
  go_enter Tryz.func230,Tryz.ntmps230
  go_wp2_with (refine wpList_load_row rfl 47 _ rfl w.heap.size rfl 47 _ (0,0) _ hV0 Tryz.underlying47 rfl hi18 ?_)
  refine c1.mono ?_
  rintro e1 w1 ⟨rfl,hb1⟩
  obtain ⟨hbw1,k11,x3⟩ := hV1 w1 hb1
  clear hb1 c1 hV1 hV0 hi18
  go_wp2
  go_ret
  exact ⟨by simp,hbw1⟩
 | true =>
  go_enter Tryz.func230,Tryz.ntmps230
  go_wp2_with (refine wpList_load_row rfl 47 _ rfl w.heap.size rfl 47 _ (0,0) _ hV0 Tryz.underlying47 rfl hi18 ?_)
  refine c1.mono ?_
  rintro e1 w1 ⟨rfl,hb1⟩
  obtain ⟨hbw1,k11,x3⟩ := hV1 w1 hb1
  clear hb1 c1 hV1 hV0 hi18
  go_wp2
  go_ret
  exact ⟨by simp,hbw1⟩
def intN (c : Cf) (l : List Int) : Nat := (l.filter (fun x => rkind c x == 3)).length
theorem qba {a n : Int} {l : List Int} (h : risF a l n = true) : ∀ x ∈ l,isId x n = true := by
 induction l generalizing a with
 | nil => intro x hx; cases hx
 | cons y r ih =>
  rw [risF] at h
  simp at h
  intro x hx
  rcases List.mem_cons.1 hx with rfl | hx
  ·exact h.1.1
  ·exact ih h.2 x hx
theorem qdt (c : Cf) (l : List Int) (j : Nat) (x : Int) (hx : l[j]? = some x) : intN c (l.take (j + 1)) = intN c (l.take j) + (if rkind c x == 3 then 1 else 0) := by
 unfold intN
 rw [List.take_add_one,hx,Option.toList_some,List.filter_append,List.length_append]
 congr 1
 simp only [List.filter_cons,List.filter_nil]
 split <;> simp
theorem qep (w : World) (c : Cf) (v : Vs) (h : CfAt w c v) (s : Sl) (l : List Int) (hl : RowsAt w 1 intP s l) (hv : ∀ x ∈ l,isId x v.r.n = true) :
  Calls Tryz.prog 276 #[.agg (cfC c v), .slice s.a s.n s.c] w fun e w' => e = .returned (I (intN c l)) ∧ Below w.heap.size w w' := by
 have hb := qa0 w
 have hn : v.r.n = c.ress.length := h.r.n
 have HN : Hid (v.r.n = c.ress.length) := hn
 clear hn
 obtain ⟨sa,sn,sc⟩ := s
 have hm : sn = l.length := hl.n
 have HM : Hid (sn = l.length) := hm
 have hc1 : sn ≤ sc := hl.c
 have hc2 : sc ≤ maxLen := hl.m
 unfold maxLen at hc2
 dsimp only
 clear hm
 have f12 : ∀ h : 12 < (cfC c v).size,(cfC c v)[12] = .slice v.r.a v.r.n v.r.c := fun _ => rfl
 have hs18 : (cfC c v).size = 18 := rfl
 generalize cfC c v = C at *
 replace f12 := f12 (by omega)
 go_enter Tryz.func276,Tryz.ntmps276
 go_wp2
 go_loop [5,7,10] (fun n5 _ i => ∃ (j m : Nat),j ≤ sn ∧ i = .int .i64 j ∧ n5 = .int .i64 m ∧ m ≤ j ∧ Hid (m = intN c (l.take j))) (fun _ _ i => sn - (intOf i).toNat)
 case atStart => exact ⟨0,0,by omega,rfl,rfl,by omega,rfl⟩
 case round =>
  obtain ⟨j,m,hj,rfl,rfl,hmj,HR⟩ := hrel
  by_cases hlt : j < sn
  ·have hlt' : (j : Int) < sn := by omega
   have hjl : j < l.length := by rw [← HM.out]; exact hlt
   obtain ⟨x,hx⟩ : ∃ x,l[j]? = some x := ⟨l[j],List.getElem?_eq_getElem hjl⟩
   obtain ⟨g,off,e,hg,hcx⟩ := qau hl hx
   dsimp only at e
   subst e
   have hne : g ≠ w.heap.size := by omega
   have hid := hv x (List.mem_of_getElem? hx)
   have hr : 0 ≤ x ∧ x < v.r.n := by simpa [isId] using hid
   obtain ⟨q,rfl⟩ := Int.eq_ofNat_of_zero_le hr.1
   have hq' : (q : Int) < v.r.n := hr.2
   have hql : q < c.ress.length := by rw [← HN.out]; omega
   obtain ⟨y,hy⟩ : ∃ x,c.ress[q]? = some x := ⟨_,List.getElem?_eq_getElem hql⟩
   obtain ⟨g',off',e',hg',b0,b1,b2⟩ := qb5 h hy
   have hne' : g' ≠ w.heap.size := by omega
   have f12' := f12
   rw [e'] at f12'
   have HS : Hid (intN c (l.take (j + 1)) = m + (if y.kind == 3 then 1 else 0)) := by
    show _ = _
    rw [qdt c l j _ hx,HR.out]
    simp [rkind,hy]
   clear hx hjl hid hr hql hy f12
   cases hk : y.kind == 3 with
   | true =>
    have HS2 : Hid (m + 1 = intN c (l.take (j + 1))) := by show _ = _; rw [HS.out,hk]; rfl
    clear HS
    go_wp2
    go_round
    case rel => exact ⟨j + 1,m + 1,by omega,by go_num,by go_num,by omega,HS2⟩
    case measure => simp [intOf]; omega
   | false =>
    have HS2 : Hid (m = intN c (l.take (j + 1))) := by show _ = _; rw [HS.out,hk]; rfl
    clear HS
    go_wp2
    go_round
    case rel => exact ⟨j + 1,m,by omega,by go_num,rfl,by omega,HS2⟩
    case measure => simp [intOf]; omega
  ·obtain rfl : j = sn := by omega
   have hlt' : ¬ (j : Int) < j := by omega
   have HE2 : Hid (m = intN c l) := by show _ = _; rw [HR.out,List.take_of_length_le (by rw [← HM.out]; exact Nat.le_refl _)]
   go_wp2
   go_ret
   exact ⟨qa3 (by rw [HE2.out]),hb _⟩
def qjl (c : Cf) (e : Int) : Nat := match c.evs[e.toNat]? with | some x => x.mask | none => 0
def qav (c : Cf) : Int → List Int → Bool
 | _, [] => true
 | t,e :: r => !(bits BinOp.and IntKind.u32 t (qjl c e) != 0) && qav c (bits BinOp.or IntKind.u32 t (qjl c e)) r
theorem qfv (w : World) (c : Cf) (v : Vs) (h : CfAt w c v) (i : Nat) (x : Tk) (hi : c.tasks[i]? = some x) (hv : ∀ y ∈ x.evs,isId y v.e.n = true) :
  Calls Tryz.prog 232 #[.agg (cfC c v),I i] w fun e w' => Ans w (qav c 0 x.evs) e w' := by
 have hn : v.t.n = c.tasks.length := h.t.n
 have hltn : (i : Int) < v.t.n := by have := (List.getElem?_eq_some_iff.1 hi).1; omega
 obtain ⟨g,off,s4,s5,s6,s7,e,hg,a0,a1,a2,a3,a4,a5,a6,a7,r4,r5,r6,r7⟩ := qbj h hi
 have hne : g ≠ w.heap.size := by omega
 have hb := qa0 w
 have HN : Hid (v.e.n = c.evs.length) := h.e.n
 obtain ⟨sa,sn,sc⟩ := s6
 have HM : Hid (sn = x.evs.length) := r6.n
 have hc1 : sn ≤ sc := r6.c
 have hc2 : sc ≤ maxLen := r6.m
 unfold maxLen at hc2
 dsimp only at a6
 clear hi hn a0 a1 a2 a3 a4 a5 a7 r4 r5 r7
 have f11 : ∀ h : 11 < (cfC c v).size,(cfC c v)[11] = .slice v.t.a v.t.n v.t.c := fun _ => rfl
 have f13 : ∀ h : 13 < (cfC c v).size,(cfC c v)[13] = .slice v.e.a v.e.n v.e.c := fun _ => rfl
 have hs18 : (cfC c v).size = 18 := rfl
 generalize cfC c v = C at *
 replace f11 := f11 (by omega)
 replace f13 := f13 (by omega)
 rw [e] at f11
 go_enter Tryz.func232,Tryz.ntmps232
 go_wp2
 go_loop [5,7,8,16] (fun t5 _ _ i => ∃ (j : Nat) (t : Int),j ≤ sn ∧ i = .int .i64 j ∧ t5 = .int .u32 t ∧ Hid (qav c 0 x.evs = qav c t (x.evs.drop j))) (fun _ _ _ i => sn - (intOf i).toNat)
 case atStart => exact ⟨0,0,by omega,rfl,rfl,rfl⟩
 case round =>
  obtain ⟨j,t,hj,rfl,rfl,HR⟩ := hrel
  by_cases hlt : j < sn
  ·have hlt' : (j : Int) < sn := by omega
   have hjl : j < x.evs.length := by rw [← HM.out]; exact hlt
   obtain ⟨y,hy⟩ : ∃ y,x.evs[j]? = some y := ⟨_,List.getElem?_eq_getElem hjl⟩
   obtain ⟨g2,off2,e2,hg2,hcx⟩ := qau r6 hy
   dsimp only at e2
   subst e2
   have hne2 : g2 ≠ w.heap.size := by omega
   have hid := hv y (List.mem_of_getElem? hy)
   have hr : 0 ≤ y ∧ y < v.e.n := by simpa [isId] using hid
   obtain ⟨q,rfl⟩ := Int.eq_ofNat_of_zero_le hr.1
   have hq' : (q : Int) < v.e.n := hr.2
   have hql : q < c.evs.length := by rw [← HN.out]; omega
   obtain ⟨z,hz⟩ : ∃ z,c.evs[q]? = some z := ⟨_,List.getElem?_eq_getElem hql⟩
   obtain ⟨g',off',e',hg',b0,b1,b2⟩ := qds h hz
   have hne' : g' ≠ w.heap.size := by omega
   have f13' := f13
   rw [e'] at f13'
   have HS : Hid (qav c 0 x.evs = (!(bits BinOp.and IntKind.u32 t z.mask != 0) && qav c (bits BinOp.or IntKind.u32 t z.mask) (x.evs.drop (j + 1)))) := by
    show _ = _
    rw [HR.out,List.drop_eq_getElem_cons hjl,qav]
    rw [List.getElem?_eq_getElem hjl] at hy
    rw [Option.some.inj hy]
    simp [qjl,hz]
   clear hy hjl hid hr hql hz f13
   cases hk : bits BinOp.and IntKind.u32 t z.mask != 0 with
   | false =>
    have HS2 : Hid (qav c 0 x.evs = qav c (bits BinOp.or IntKind.u32 t z.mask) (x.evs.drop (j + 1))) := by show _ = _; rw [HS.out,hk]; rfl
    clear HS
    go_wp2
    go_round
    case rel => exact ⟨j + 1,_,by omega,by go_num,rfl,HS2⟩
    case measure => simp [intOf]; omega
   | true =>
    have HS2 : Hid (qav c 0 x.evs = false) := by show _ = _; rw [HS.out,hk]; rfl
    clear HS
    go_wp2
    go_ret
    exact ⟨qa4 HS2.out.symm,hb _⟩
  ·obtain rfl : j = sn := by omega
   have hlt' : ¬ (j : Int) < j := by omega
   have HE2 : Hid (qav c 0 x.evs = true) := by show _ = _; rw [HR.out,List.drop_eq_nil_of_le (by rw [← HM.out]; exact Nat.le_refl _),qav]
   go_wp2
   go_ret
   exact ⟨qa4 HE2.out.symm,hb _⟩
end Go.Proofs.YtmidaeljeoifdaaGreatDoor
namespace Go.Proofs.YtmidaeljeoifdaaGreatDoor
open Go.RowKit Go.Sort
set_option linter.unusedSimpArgs false
set_option linter.unusedVariables false
set_option maxHeartbeats 16000000
set_option maxRecDepth 100000
theorem qb1 {P : Program} {ops : Array Oper} {C : World → Prop} {Q : Act → Prop} {a : Act} {o : Oper} {rest : List Oper} (hgd : Region.wanted o (yielded ops a.tmps) = true) (ty : TypeId) (x : Operand) (ho : o.op = .load ty x)
  (g : Nat) (hx : a.eval x = .pointer (some ⟨g,0,none⟩)) (t : TypeId) (cs : Array Value) (fr : Nat × Nat) (d : TypeDesc) (hg : ∀ w,C w → w.heap[g]? = some (.cells cs t fr))
  (hu : P.underlying ty = some d) (hd : (match d with | .struct _ | .array _ _ => true | _ => false) = true) (hi : (P.info? ty).map (·.size) = some cs.size)
  (h : wpQuiet P ops C Q rest (a.put o.dst (.agg cs))) : wpQuiet P ops C Q (o :: rest) a := by
 unfold wpQuiet
 rw [if_pos hgd]
 refine ⟨.agg cs,fun w hw => ?_,h⟩
 unfold Oper.quietAt execOp
 simp only [ho,hx,Instr.loadAt,Instr.sureAddr,Sem.run_bind,Sem.run_pure,Result.andThen_ok,run_loadVar_row w g t ty cs fr d (hg w hw) hu hd hi]
 exact ⟨rfl,rfl⟩
theorem qbh {w : World} {g : Nat} {o : Obj} (h : w.heap[g]? = some o) : ∀ w',(∃ p : Regrown,w' = grow (redrawn w p.d) p.os) → w'.heap[g]? = some o := by
 rintro w' ⟨p,rfl⟩
 exact ((below_regrown w p.d p.os).block g (qa1 h)).trans h
theorem qh0 (w : World) (c : Cf) (v : Vs) (h : CfAt w c v) (i : Nat) (x : Tk) (hi : c.tasks[i]? = some x) (hv : ∀ y ∈ x.res,isId y v.r.n = true) :
  Calls Tryz.prog 231 #[.agg (cfC c v),I i] w fun e w' => Ans w (decide ((intN c x.res : Int) ≤ 1)) e w' := by
 have hn : v.t.n = c.tasks.length := h.t.n
 have hlt : (i : Int) < v.t.n := by have := (List.getElem?_eq_some_iff.1 hi).1; omega
 obtain ⟨g,off,s4,s5,s6,s7,e,hg,a0,a1,a2,a3,a4,a5,a6,a7,r4,r5,r6,r7⟩ := qbj h hi
 have hne : g ≠ w.heap.size := by omega
 have hb := qa0 w
 have hb2 := fun o o' => (hb o).trans ((qa0 (w.alloc o) o').mono (hb o).size)
 have hi18 : (Tryz.prog.info? 47).map (·.size) = some (cfC c v).size := by rw [show (cfC c v).size = 18 from rfl]; kernel_rfl
 have hV0 := heap_alloc_new w (.cells (cfC c v) 47)
 have h0 := h.below (hb (.cells (cfC c v) 47))
 have hg0 := Nat.lt_of_lt_of_le hg (hb (.cells (cfC c v) 47)).size
 have c1 : ∀ d os,Calls Tryz.prog 276 #[.agg (cfC c v), .slice s5.a s5.n s5.c] (grow (redrawn (w.alloc (.cells (cfC c v) 47)) d) os) fun e w'' => e = .returned (I (intN c x.res)) ∧ ∃ p : Regrown,w'' = grow (redrawn (w.alloc (.cells (cfC c v) 47)) p.d) p.os := fun d os => Calls.regrown_of (qep _ c v (h0.below (below_regrown _ d os)) s5 x.res ((r5.below (hb _) (fun _ _ _ _ h => h)).below (below_regrown _ d os) (fun _ _ _ _ h => h)) hv)
 have kV : (w.alloc (.cells (cfC c v) 47)).cell? ⟨w.heap.size,11,none⟩ = some (.slice (some ⟨g,off,none⟩) v.t.n v.t.c) := by rw [← e]; exact cell_of_row _ w.heap.size 11 _ _ (0,0) hV0
 have kx : (w.alloc (.cells (cfC c v) 47)).cell? ⟨g,off + i * 8 + 5,none⟩ = some (.slice s5.a s5.n s5.c) := by rw [qa7 (hb _) _ _ hg]; exact a5
 have hbw := hb (.cells (cfC c v) 47)
 have f11 : ∀ h : 11 < (cfC c v).size,(cfC c v)[11] = .slice v.t.a v.t.n v.t.c := fun _ => rfl
 have hs18 : (cfC c v).size = 18 := rfl
 generalize cfC c v = C at *
 replace f11 := f11 (by omega)
 rw [e] at f11
 clear hi hn
 go_enter Tryz.func231,Tryz.ntmps231
 go_wp2
 generalize w.alloc (.cells C 47) = W0 at *
 have k0 := cell_regrown kV
 have k1 := cell_regrown kx
 refine wp_region_quiet_below (by kernel_rfl) (by kernel_rfl) ?_
 refine qb1 rfl 47 _ rfl w.heap.size rfl 47 _ (0,0) _ (qbh hV0) Tryz.underlying47 rfl hi18 ?_
 repeat (quiet_step (first | exact c1 _ _))
 refine wpQuiet_nil ?_
 intro _ hw'
 obtain ⟨⟨dq,osq⟩,hw''⟩ := hw'
 subst hw''
 go_wp2
 go_ret
 exact ⟨qa4 (by simp),hbw.trans ((below_regrown W0 dq osq).mono hbw.size)⟩
theorem qhv (w : World) (c : Cf) (v : Vs) (h : CfAt w c v) (i : Nat) (x : Is) (hi : c.isrs[i]? = some x) (hv : ∀ y ∈ x.res,isId y v.r.n = true) :
  Calls Tryz.prog 248 #[.agg (cfC c v),I i] w fun e w' => Ans w ((intN c x.res : Int) == 0) e w' := by
 have hn : v.i.n = c.isrs.length := h.i.n
 have hlt : (i : Int) < v.i.n := by have := (List.getElem?_eq_some_iff.1 hi).1; omega
 obtain ⟨g,off,s3,s4,e,hg,a0,a1,a2,a3,a4,r3,r4⟩ := qcm h hi
 have hne : g ≠ w.heap.size := by omega
 have hb := qa0 w
 have hb2 := fun o o' => (hb o).trans ((qa0 (w.alloc o) o').mono (hb o).size)
 have hi18 : (Tryz.prog.info? 47).map (·.size) = some (cfC c v).size := by rw [show (cfC c v).size = 18 from rfl]; kernel_rfl
 have hV0 := heap_alloc_new w (.cells (cfC c v) 47)
 have h0 := h.below (hb (.cells (cfC c v) 47))
 have hg0 := Nat.lt_of_lt_of_le hg (hb (.cells (cfC c v) 47)).size
 have c1 : ∀ d os,Calls Tryz.prog 276 #[.agg (cfC c v), .slice s3.a s3.n s3.c] (grow (redrawn (w.alloc (.cells (cfC c v) 47)) d) os) fun e w'' => e = .returned (I (intN c x.res)) ∧ ∃ p : Regrown,w'' = grow (redrawn (w.alloc (.cells (cfC c v) 47)) p.d) p.os := fun d os => Calls.regrown_of (qep _ c v (h0.below (below_regrown _ d os)) s3 x.res ((r3.below (hb _) (fun _ _ _ _ h => h)).below (below_regrown _ d os) (fun _ _ _ _ h => h)) hv)
 have kV : (w.alloc (.cells (cfC c v) 47)).cell? ⟨w.heap.size,16,none⟩ = some (.slice (some ⟨g,off,none⟩) v.i.n v.i.c) := by rw [← e]; exact cell_of_row _ w.heap.size 16 _ _ (0,0) hV0
 have kx : (w.alloc (.cells (cfC c v) 47)).cell? ⟨g,off + i * 5 + 3,none⟩ = some (.slice s3.a s3.n s3.c) := by rw [qa7 (hb _) _ _ hg]; exact a3
 have hbw := hb (.cells (cfC c v) 47)
 have f16 : ∀ h : 16 < (cfC c v).size,(cfC c v)[16] = .slice v.i.a v.i.n v.i.c := fun _ => rfl
 have hs18 : (cfC c v).size = 18 := rfl
 generalize cfC c v = C at *
 replace f16 := f16 (by omega)
 rw [e] at f16
 clear hi hn
 go_enter Tryz.func248,Tryz.ntmps248
 go_wp2
 generalize w.alloc (.cells C 47) = W0 at *
 have k0 := cell_regrown kV
 have k1 := cell_regrown kx
 refine wp_region_quiet_below (by kernel_rfl) (by kernel_rfl) ?_
 refine qb1 rfl 47 _ rfl w.heap.size rfl 47 _ (0,0) _ (qbh hV0) Tryz.underlying47 rfl hi18 ?_
 repeat (quiet_step (first | exact c1 _ _))
 refine wpQuiet_nil ?_
 intro _ hw'
 obtain ⟨⟨dq,osq⟩,hw''⟩ := hw'
 subst hw''
 go_wp2
 go_ret
 exact ⟨rfl,hbw.trans ((below_regrown W0 dq osq).mono hbw.size)⟩
end Go.Proofs.YtmidaeljeoifdaaGreatDoor
namespace Go.Proofs.YtmidaeljeoifdaaGreatDoor
open Go.RowKit
set_option linter.unusedSimpArgs false
set_option linter.unusedVariables false
set_option maxHeartbeats 16000000
set_option maxRecDepth 100000
theorem qfw (w : World) (c : Cf) (v : Vs) (h : CfAt w c v) (i : Nat) (x : Is) (hi : c.isrs[i]? = some x) :
  Calls Tryz.prog 246 #[.agg (cfC c v),I i] w fun e w' => Ans w (inR x.cat 1 2 && inR x.prio 64 127) e w' := by
 have hn : v.i.n = c.isrs.length := h.i.n
 have hlt : (i : Int) < v.i.n := by have := (List.getElem?_eq_some_iff.1 hi).1; omega
 obtain ⟨g,off,s3,s4,e,hg,a0,a1,a2,a3,a4,r3,r4⟩ := qcm h hi
 have hne : g ≠ w.heap.size := by omega
 have hb := qa0 w
 have hb2 := fun o o' => (hb o).trans ((qa0 (w.alloc o) o').mono (hb o).size)
 have c1 := qbs x.cat 1 2
 have c2 := qbs x.prio 64 127
 have f16 : ∀ h : 16 < (cfC c v).size,(cfC c v)[16] = .slice v.i.a v.i.n v.i.c := fun _ => rfl
 have hs18 : (cfC c v).size = 18 := rfl
 generalize cfC c v = C at *
 replace f16 := f16 (by omega)
 rw [e] at f16
 clear hi hn
 generalize hgb1 : (inR x.cat 1 2) = b1 at *
 generalize hgb2 : (inR x.prio 64 127) = b2 at *
 cases b1 with
 | false =>
  go_enter Tryz.func246,Tryz.ntmps246
  go_wp2_with (first | (go_at_call 193; refine (c1 _).mono ?_; clear c1; rintro e w' ⟨rfl,rfl⟩) | (go_at_call 193; refine (c2 _).mono ?_; clear c2; rintro e w' ⟨rfl,rfl⟩))
  go_ret
  first | exact ⟨by simp,hb _⟩ | exact ⟨by simp,hb2 _ _⟩
 | true =>
  cases b2 with
  | false =>
   go_enter Tryz.func246,Tryz.ntmps246
   go_wp2_with (first | (go_at_call 193; refine (c1 _).mono ?_; clear c1; rintro e w' ⟨rfl,rfl⟩) | (go_at_call 193; refine (c2 _).mono ?_; clear c2; rintro e w' ⟨rfl,rfl⟩))
   go_ret
   first | exact ⟨by simp,hb _⟩ | exact ⟨by simp,hb2 _ _⟩
  | true =>
   go_enter Tryz.func246,Tryz.ntmps246
   go_wp2_with (first | (go_at_call 193; refine (c1 _).mono ?_; clear c1; rintro e w' ⟨rfl,rfl⟩) | (go_at_call 193; refine (c2 _).mono ?_; clear c2; rintro e w' ⟨rfl,rfl⟩))
   go_ret
   first | exact ⟨by simp,hb _⟩ | exact ⟨by simp,hb2 _ _⟩
theorem qgd (w : World) (c : Cf) (v : Vs) (h : CfAt w c v) (i : Nat) (x : Is) (hi : c.isrs[i]? = some x) :
  Calls Tryz.prog 247 #[.agg (cfC c v),I i] w fun e w' => Ans w (risF (-1) x.res v.r.n && risF (-1) x.msgs v.s.n) e w' := by
 have hn : v.i.n = c.isrs.length := h.i.n
 have hlt : (i : Int) < v.i.n := by have := (List.getElem?_eq_some_iff.1 hi).1; omega
 obtain ⟨g,off,s3,s4,e,hg,a0,a1,a2,a3,a4,r3,r4⟩ := qcm h hi
 have hne : g ≠ w.heap.size := by omega
 have hb := qa0 w
 have hb2 := fun o o' => (hb o).trans ((qa0 (w.alloc o) o').mono (hb o).size)
 have c1 := fun W (hW : Below w.heap.size w W) => qc3 W s3 x.res (r3.below hW (fun _ _ _ _ h => h)) v.r.n
 have c2 := fun W (hW : Below w.heap.size w W) => qc3 W s4 x.msgs (r4.below hW (fun _ _ _ _ h => h)) v.s.n
 have f12 : ∀ h : 12 < (cfC c v).size,(cfC c v)[12] = .slice v.r.a v.r.n v.r.c := fun _ => rfl
 have f16 : ∀ h : 16 < (cfC c v).size,(cfC c v)[16] = .slice v.i.a v.i.n v.i.c := fun _ => rfl
 have f17 : ∀ h : 17 < (cfC c v).size,(cfC c v)[17] = .slice v.s.a v.s.n v.s.c := fun _ => rfl
 have hs18 : (cfC c v).size = 18 := rfl
 generalize cfC c v = C at *
 replace f12 := f12 (by omega)
 replace f16 := f16 (by omega)
 replace f17 := f17 (by omega)
 rw [e] at f16
 clear hi hn
 generalize hgb1 : (risF (-1) x.res v.r.n) = b1 at *
 generalize hgb2 : (risF (-1) x.msgs v.s.n) = b2 at *
 cases b1 with
 | false =>
  go_enter Tryz.func247,Tryz.ntmps247
  go_wp2_with (first | (go_at_call 274; refine (c1 _ (hb2 _ _)).mono ?_; clear c1; rintro e w' ⟨rfl,rfl⟩) | (go_at_call 274; refine (c2 _ (hb2 _ _)).mono ?_; clear c2; rintro e w' ⟨rfl,rfl⟩))
  go_ret
  first | exact ⟨by simp,hb _⟩ | exact ⟨by simp,hb2 _ _⟩
 | true =>
  cases b2 with
  | false =>
   go_enter Tryz.func247,Tryz.ntmps247
   go_wp2_with (first | (go_at_call 274; refine (c1 _ (hb2 _ _)).mono ?_; clear c1; rintro e w' ⟨rfl,rfl⟩) | (go_at_call 274; refine (c2 _ (hb2 _ _)).mono ?_; clear c2; rintro e w' ⟨rfl,rfl⟩))
   go_ret
   first | exact ⟨by simp,hb _⟩ | exact ⟨by simp,hb2 _ _⟩
  | true =>
   go_enter Tryz.func247,Tryz.ntmps247
   go_wp2_with (first | (go_at_call 274; refine (c1 _ (hb2 _ _)).mono ?_; clear c1; rintro e w' ⟨rfl,rfl⟩) | (go_at_call 274; refine (c2 _ (hb2 _ _)).mono ?_; clear c2; rintro e w' ⟨rfl,rfl⟩))
   go_ret
   first | exact ⟨by simp,hb _⟩ | exact ⟨by simp,hb2 _ _⟩
theorem qdp (w : World) (c : Cf) (v : Vs) (h : CfAt w c v) (i : Nat) (x : Is) (hi : c.isrs[i]? = some x) :
  Calls Tryz.prog 249 #[.agg (cfC c v),I i] w fun e w' => Ans w (x.cat != 1 || ((x.res.length : Int) == 0 && (x.msgs.length : Int) == 0)) e w' := by
 have hn : v.i.n = c.isrs.length := h.i.n
 have hlt : (i : Int) < v.i.n := by have := (List.getElem?_eq_some_iff.1 hi).1; omega
 obtain ⟨g,off,s3,s4,e,hg,a0,a1,a2,a3,a4,r3,r4⟩ := qcm h hi
 have hne : g ≠ w.heap.size := by omega
 have hb := qa0 w
 have hb2 := fun o o' => (hb o).trans ((qa0 (w.alloc o) o').mono (hb o).size)
 have hl3 : Hid (s3.n = x.res.length) := r3.n
 have hl4 : Hid (s4.n = x.msgs.length) := r4.n
 have f16 : ∀ h : 16 < (cfC c v).size,(cfC c v)[16] = .slice v.i.a v.i.n v.i.c := fun _ => rfl
 have hs18 : (cfC c v).size = 18 := rfl
 generalize cfC c v = C at *
 replace f16 := f16 (by omega)
 rw [e] at f16
 clear hi hn
 rw [← hl3.out, ← hl4.out]
 generalize hc1 : (x.cat != 1) = b1 at *
 generalize hc2 : ((s3.n : Int) == 0) = b2 at *
 cases b1 <;> cases b2 <;> (go_enter Tryz.func249,Tryz.ntmps249; go_wp2; go_ret; exact ⟨qa4 (by simp),hb2 _ _⟩)
theorem qh1 (w : World) (c : Cf) (v : Vs) (h : CfAt w c v) (i : Nat) (x : Al) (hi : c.als[i]? = some x) :
  Calls Tryz.prog 239 #[.agg (cfC c v),I i] w fun e w' => Ans w (isId x.ctr v.k.n) e w' := by
 have hn : v.a.n = c.als.length := h.a.n
 have hlt : (i : Int) < v.a.n := by have := (List.getElem?_eq_some_iff.1 hi).1; omega
 obtain ⟨g,off,s6,e,hg,a0,a1,a2,a3,a4,a5,a6,a7,a8,r6⟩ := qea h hi
 have hne : g ≠ w.heap.size := by omega
 have hb := qa0 w
 have hb2 := fun o o' => (hb o).trans ((qa0 (w.alloc o) o').mono (hb o).size)
 have c1 := qc2 x.ctr v.k.n
 have f14 : ∀ h : 14 < (cfC c v).size,(cfC c v)[14] = .slice v.k.a v.k.n v.k.c := fun _ => rfl
 have f15 : ∀ h : 15 < (cfC c v).size,(cfC c v)[15] = .slice v.a.a v.a.n v.a.c := fun _ => rfl
 have hs18 : (cfC c v).size = 18 := rfl
 generalize cfC c v = C at *
 replace f14 := f14 (by omega)
 replace f15 := f15 (by omega)
 rw [e] at f15
 clear hi hn
 go_enter Tryz.func239,Tryz.ntmps239
 go_wp2
 go_quiet (first | (go_at_call 272; refine Calls.quiet_of_same (c1 _)))
 go_wp2
 go_ret
 exact ⟨rfl,below_drewN (hb _) _⟩
theorem qf2 (w : World) (c : Cf) (v : Vs) (h : CfAt w c v) (i : Nat) (x : Al) (hi : c.als[i]? = some x) :
  Calls Tryz.prog 242 #[.agg (cfC c v),I i] w fun e w' => Ans w (risF (-1) x.auto v.m.n) e w' := by
 have hn : v.a.n = c.als.length := h.a.n
 have hlt : (i : Int) < v.a.n := by have := (List.getElem?_eq_some_iff.1 hi).1; omega
 obtain ⟨g,off,s6,e,hg,a0,a1,a2,a3,a4,a5,a6,a7,a8,r6⟩ := qea h hi
 have hne : g ≠ w.heap.size := by omega
 have hb := qa0 w
 have hb2 := fun o o' => (hb o).trans ((qa0 (w.alloc o) o').mono (hb o).size)
 have c1 := fun W (hW : Below w.heap.size w W) => qc3 W s6 x.auto (r6.below hW (fun _ _ _ _ h => h)) v.m.n
 have f10 : ∀ h : 10 < (cfC c v).size,(cfC c v)[10] = .slice v.m.a v.m.n v.m.c := fun _ => rfl
 have f15 : ∀ h : 15 < (cfC c v).size,(cfC c v)[15] = .slice v.a.a v.a.n v.a.c := fun _ => rfl
 have hs18 : (cfC c v).size = 18 := rfl
 generalize cfC c v = C at *
 replace f10 := f10 (by omega)
 replace f15 := f15 (by omega)
 rw [e] at f15
 clear hi hn
 go_enter Tryz.func242,Tryz.ntmps242
 go_wp2
 go_quiet (first | (go_at_call 274; refine Calls.quiet_of_same (c1 _ (below_drewN (hb _) _))))
 go_wp2
 go_ret
 exact ⟨rfl,below_drewN (hb _) _⟩
def qec (c : Cf) (i : Int) : Ct := match c.ctrs[i.toNat]? with | some x => x | none => ⟨[],0,0,0⟩
def qcv (c : Cf) (x : Al) : Bool := if (x.auto.length : Int) == 0 then ((x.time : Int) == 0 && (x.cycle : Int) == 0) else (inR x.time 1 (qec c x.ctr).max && ((x.cycle : Int) == 0 || inR x.cycle (qec c x.ctr).min (qec c x.ctr).max))
theorem qfx (w : World) (c : Cf) (v : Vs) (h : CfAt w c v) (i : Nat) (x : Al) (hi : c.als[i]? = some x) (hv : isId x.ctr v.k.n = true) :
  Calls Tryz.prog 243 #[.agg (cfC c v),I i] w fun e w' => Ans w (qcv c x) e w' := by
 have hn : v.a.n = c.als.length := h.a.n
 have hlt : (i : Int) < v.a.n := by have := (List.getElem?_eq_some_iff.1 hi).1; omega
 obtain ⟨g,off,s6,e,hg,a0,a1,a2,a3,a4,a5,a6,a7,a8,r6⟩ := qea h hi
 have hne : g ≠ w.heap.size := by omega
 have hb := qa0 w
 have hb2 := fun o o' => (hb o).trans ((qa0 (w.alloc o) o').mono (hb o).size)
 have hl6 : Hid (s6.n = x.auto.length) := r6.n
 have hr : 0 ≤ x.ctr ∧ x.ctr < v.k.n := by simpa [isId] using hv
 obtain ⟨q,hq⟩ := Int.eq_ofNat_of_zero_le hr.1
 have hq' : (q : Int) < v.k.n := by omega
 have hql : q < c.ctrs.length := by have := h.k.n; omega
 obtain ⟨y,hy⟩ : ∃ y,c.ctrs[q]? = some y := ⟨_,List.getElem?_eq_getElem hql⟩
 obtain ⟨g',off',e',hg',b0,b1,b2,b3⟩ := qfm h hy
 have hne' : g' ≠ w.heap.size := by omega
 have hgl : g' < w.heap.size + 1 := by omega
 have hne'' : g' ≠ w.heap.size + 1 := by omega
 have HY : Hid (qec c x.ctr = y) := by show _ = _; rw [qec,hq]; simp [hy]
 have c1 := qcu x.time 1 y.max
 have c2 := qcu x.cycle y.min y.max
 have hb3 := fun o o' o'' => (hb2 o o').trans ((qa0 ((w.alloc o).alloc o') o'').mono (hb2 o o').size)
 obtain ⟨B,hB⟩ : ∃ B,B = qcv c x := ⟨_,rfl⟩
 rw [← hB]
 have HB : Hid (B = _) := hB
 rw [hq] at a1
 clear hB hv hr hq hql hy
 have f14 : ∀ h : 14 < (cfC c v).size,(cfC c v)[14] = .slice v.k.a v.k.n v.k.c := fun _ => rfl
 have f15 : ∀ h : 15 < (cfC c v).size,(cfC c v)[15] = .slice v.a.a v.a.n v.a.c := fun _ => rfl
 have hs18 : (cfC c v).size = 18 := rfl
 generalize cfC c v = C at *
 replace f14 := f14 (by omega)
 replace f15 := f15 (by omega)
 rw [e] at f15
 clear hi hn
 rw [e'] at f14
 cases hau : (s6.n : Int) == 0 with
 | true =>
  have HE : Hid (B = ((x.time : Int) == 0 && (x.cycle : Int) == 0)) := by show _ = _; rw [HB.out,qcv, ← hl6.out,hau]; rfl
  clear HB
  cases htm : (x.time : Int) == 0 with
  | false =>
   go_enter Tryz.func243,Tryz.ntmps243
   go_wp2
   go_ret
   exact ⟨qa4 (by rw [HE.out,htm]; rfl),by first | exact hb2 _ _ | exact hb _⟩
  | true =>
   go_enter Tryz.func243,Tryz.ntmps243
   go_wp2
   go_ret
   exact ⟨qa4 (by rw [HE.out,htm]; rfl),by first | exact hb2 _ _ | exact hb _⟩
 | false =>
  have HE : Hid (B = (inR x.time 1 y.max && ((x.cycle : Int) == 0 || inR x.cycle y.min y.max))) := by show _ = _; rw [HB.out,qcv, ← hl6.out,hau,HY.out]; rfl
  clear HB
  generalize inR x.time 1 y.max = b1 at *
  cases b1 with
  | false =>
   go_enter Tryz.func243,Tryz.ntmps243
   go_wp2_with (first | (go_at_call 277; refine (c1 _).mono ?_; clear c1; rintro e w' ⟨rfl,rfl⟩) | (go_at_call 277; refine (c2 _).mono ?_; clear c2; rintro e w' ⟨rfl,rfl⟩))
   go_ret
   exact ⟨qa4 (by rw [HE.out]; rfl),hb3 _ _ _⟩
  | true =>
   cases hcy : (x.cycle : Int) == 0 with
   | true =>
    go_enter Tryz.func243,Tryz.ntmps243
    go_wp2_with (first | (go_at_call 277; refine (c1 _).mono ?_; clear c1; rintro e w' ⟨rfl,rfl⟩) | (go_at_call 277; refine (c2 _).mono ?_; clear c2; rintro e w' ⟨rfl,rfl⟩))
    go_ret
    exact ⟨qa4 (by rw [HE.out,hcy]; rfl),hb3 _ _ _⟩
   | false =>
    generalize inR x.cycle y.min y.max = b2 at *
    go_enter Tryz.func243,Tryz.ntmps243
    go_wp2_with (first | (go_at_call 277; refine (c1 _).mono ?_; clear c1; rintro e w' ⟨rfl,rfl⟩) | (go_at_call 277; refine (c2 _).mono ?_; clear c2; rintro e w' ⟨rfl,rfl⟩))
    go_ret
    exact ⟨qa4 (by rw [HE.out,hcy]; rfl),hb3 _ _ _⟩
def qan (a x : Is) : Bool := a.prio == x.prio || (a.cat != x.cat && (decide (x.cat < a.cat) == decide (x.prio < a.prio)))
theorem qf3 {B : Nat} {w W : World} (h : Below B w W) {b k : Nat} {v : Value} (hb : B ≤ b) (hs : B ≤ W.heap.size) : Below B w (W.setCell ⟨b,k,none⟩ v) := h.trans (qam (qac W b k v) hb hs)
theorem qbu {α : Type} (p : α → Bool) (l : List α) (j : Nat) (x : α) (hx : l[j]? = some x) : (l.take (j + 1)).all p = ((l.take j).all p && p x) := by
 rw [List.take_add_one,hx,Option.toList_some,List.all_append]
 simp
theorem qf4 {α : Type} (p : α → Bool) (l : List α) (i j : Nat) (hij : j ≤ i) (h : (l.take j).all p = false) : (l.take i).all p = false := by
 rw [List.all_eq_false] at h ⊢
 obtain ⟨x,hx,hp⟩ := h
 refine ⟨x, ?_,hp⟩
 obtain ⟨k,hk⟩ := List.mem_iff_getElem?.1 hx
 rw [List.getElem?_take] at hk
 split at hk
 ·exact List.mem_iff_getElem?.2 ⟨k,by rw [List.getElem?_take,if_pos (by omega)]; exact hk⟩
 ·cases hk
theorem qf5 (w : World) (c : Cf) (v : Vs) (h : CfAt w c v) (i : Nat) (x : Is) (hi : c.isrs[i]? = some x) :
  Calls Tryz.prog 250 #[.agg (cfC c v),I i] w fun e w' => Ans w ((c.isrs.take i).all (fun a => !qan a x)) e w' := by
 have hn : v.i.n = c.isrs.length := h.i.n
 have hlt : (i : Int) < v.i.n := by have := (List.getElem?_eq_some_iff.1 hi).1; omega
 obtain ⟨g,off,s3,s4,e,hg,a0,a1,a2,a3,a4,r3,r4⟩ := qcm h hi
 have hne : g ≠ w.heap.size := by omega
 have hb := qa0 w
 have hb2 := fun o o' => (hb o).trans ((qa0 (w.alloc o) o').mono (hb o).size)
 have hic : i ≤ v.i.c := by have := h.i.c; omega
 have hic0 : ¬ v.i.c = 0 := by have := h.i.c; omega
 have HI : Hid (i < c.isrs.length) := (List.getElem?_eq_some_iff.1 hi).1
 have hil : (i : Int) ≤ 9223372036854775807 := by have := h.i.m; unfold maxLen at this; omega
 have f16 : ∀ h : 16 < (cfC c v).size,(cfC c v)[16] = .slice v.i.a v.i.n v.i.c := fun _ => rfl
 have hs18 : (cfC c v).size = 18 := rfl
 generalize cfC c v = C at *
 replace f16 := f16 (by omega)
 rw [e] at f16
 clear hi hn
 go_enter Tryz.func250,Tryz.ntmps250
 go_wp2
 have kx1 : ((w.alloc (.cells C 47)).alloc (.cells #[S x.name,I x.cat,I x.prio, .slice s3.a s3.n s3.c, .slice s4.a s4.n s4.c] 88)).cell? ⟨w.heap.size + 1,1,none⟩ = some (I x.cat) := by
  simp
 have kx2 : ((w.alloc (.cells C 47)).alloc (.cells #[S x.name,I x.cat,I x.prio, .slice s3.a s3.n s3.c, .slice s4.a s4.n s4.c] 88)).cell? ⟨w.heap.size + 1,2,none⟩ = some (I x.prio) := by
  simp
 have hbw := hb2 (.cells C 47) (.cells #[S x.name,I x.cat,I x.prio, .slice s3.a s3.n s3.c, .slice s4.a s4.n s4.c] 88)
 have hs2 : ((w.alloc (.cells C 47)).alloc (.cells #[S x.name,I x.cat,I x.prio, .slice s3.a s3.n s3.c, .slice s4.a s4.n s4.c] 88)).heap.size = w.heap.size + 2 := by simp
 have h2 := h.below hbw
 clear a0 a1 a2 a3 a4 r3 r4 h hb hb2 f16 hs18
 generalize ((w.alloc (.cells C 47)).alloc (.cells #[S x.name,I x.cat,I x.prio, .slice s3.a s3.n s3.c, .slice s4.a s4.n s4.c] 88)) = W2 at *
 go_loopw [7,18] (fun _ iv wr => ∃ j : Nat,j ≤ i ∧ iv = .int .i64 j ∧ Hid (Below W2.heap.size W2 wr) ∧ Hid ((c.isrs.take j).all (fun a => !qan a x) = true)) (fun _ iv _ => i - (intOf iv).toNat)
 case atStart => exact ⟨0,by omega,rfl,Below.refl _ _,by show _ = _; simp⟩
 case round =>
  obtain ⟨j,hj,rfl,HW,HA⟩ := hrel
  have hBr := HW.out
  have hszr := hBr.size
  by_cases hjl : j < i
  ·have hjl' : (j : Int) < i := by omega
   have hjn : j < c.isrs.length := by have := HI.out; omega
   obtain ⟨y,hy⟩ : ∃ y,c.isrs[j]? = some y := ⟨_,List.getElem?_eq_getElem hjn⟩
   obtain ⟨g',off',t3,t4,e',hg',b0,b1,b2,b3,b4,_,_⟩ := qcm (h2.below hBr) hy
   rw [e] at e'
   obtain ⟨rfl,rfl⟩ : g = g' ∧ off = off' := by cases e'; exact ⟨rfl,rfl⟩
   have y1 : wr.cell? ⟨w.heap.size + 1,1,none⟩ = some (I x.cat) := by rw [qa7 hBr _ _ (by omega)]; exact kx1
   have y2 : wr.cell? ⟨w.heap.size + 1,2,none⟩ = some (I x.prio) := by rw [qa7 hBr _ _ (by omega)]; exact kx2
   have hlw : w.heap.size + 1 < wr.heap.size := by omega
   have hnw : w.heap.size + 1 ≠ wr.heap.size := by omega
   have hng : g ≠ wr.heap.size := by omega
   have HT := qbu (fun a => !qan a x) c.isrs j y hy
   have HT2 : Hid ((c.isrs.take (j + 1)).all (fun a => !qan a x) = !qan y x) := by show _ = _; rw [HT,HA.out,Bool.true_and]
   have HC : Hid (qan y x = (y.prio == x.prio || (y.cat != x.cat && (decide (x.cat < y.cat) == decide (x.prio < y.prio))))) := rfl
   have HF : Hid (qan y x = true → (c.isrs.take i).all (fun a => !qan a x) = false) := fun hc => qf4 _ _ i (j + 1) (by omega) (by rw [HT2.out,hc]; rfl)
   have hst : (storeCells ⟨wr.heap.size,0,none⟩ [S y.name,I y.cat,I y.prio, .slice t3.a t3.n t3.c, .slice t4.a t4.n t4.c] 0).run Tryz.prog (wr.alloc (.cells #[.string ⟨#[]⟩, .int .i64 0, .int .i64 0, .slice none 0 0, .slice none 0 0] 88)) = .ok () (wr.alloc (.cells #[S y.name,I y.cat,I y.prio, .slice t3.a t3.n t3.c, .slice t4.a t4.n t4.c] 88)) :=
    run_storeCells_new (P := Tryz.prog) wr 88 #[.string ⟨#[]⟩, .int .i64 0, .int .i64 0, .slice none 0 0, .slice none 0 0] #[S y.name,I y.cat,I y.prio, .slice t3.a t3.n t3.c, .slice t4.a t4.n t4.c] (by kernel_rfl) rfl (by simp [Value.oneCell'])
   clear hy hjn e' HT HA
   generalize qan y x = K at *
   cases hp : y.prio == x.prio with
   | true =>
    have HK : Hid ((c.isrs.take i).all (fun a => !qan a x) = false) := HF.out (by rw [HC.out,hp]; rfl)
    clear HF HC HT2
    go_wp2
    go_ret
    exact ⟨qa4 HK.out.symm,hbw.trans ((hBr.alloc hszr _).mono hbw.size)⟩
   | false =>
    cases hc : y.cat != x.cat with
    | false =>
     have HK : Hid ((c.isrs.take (j + 1)).all (fun a => !qan a x) = true) := by show _ = _; rw [HT2.out,HC.out,hp,hc]; rfl
     clear HF HC HT2
     go_wp2
     go_roundw
     case rel => exact ⟨j + 1,by omega,by go_num,hBr.alloc hszr _,HK⟩
     case measure => simp [intOf]; omega
    | true =>
     cases hd : decide (x.cat < y.cat) == decide (x.prio < y.prio) with
     | true =>
      have HK : Hid ((c.isrs.take i).all (fun a => !qan a x) = false) := HF.out (by rw [HC.out,hp,hc,hd]; rfl)
      clear HF HC HT2
      go_wp2
      go_ret
      exact ⟨qa4 HK.out.symm,hbw.trans ((hBr.alloc hszr _).mono hbw.size)⟩
     | false =>
      have HK : Hid ((c.isrs.take (j + 1)).all (fun a => !qan a x) = true) := by show _ = _; rw [HT2.out,HC.out,hp,hc,hd]; rfl
      clear HF HC HT2
      go_wp2
      go_roundw
      case rel => exact ⟨j + 1,by omega,by go_num,hBr.alloc hszr _,HK⟩
      case measure => simp [intOf]; omega
  ·obtain rfl : j = i := by omega
   have hjl' : ¬ (j : Int) < j := by omega
   go_wp2
   go_ret
   exact ⟨qa4 HA.out.symm,hbw.trans (hBr.mono hbw.size)⟩
end Go.Proofs.YtmidaeljeoifdaaGreatDoor
