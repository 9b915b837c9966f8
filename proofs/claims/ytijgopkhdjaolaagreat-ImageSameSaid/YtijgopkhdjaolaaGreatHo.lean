import Derived.Test.YtijgopkhdjaolaaGreatXHn
import Derived.Deep.RegionHeldLaw
namespace Go.Proofs.YtijgopkhdjaolaaGreat
open Go.RowKit Go.Shelf Go.Sort
set_option linter.unusedSimpArgs false
set_option linter.unusedVariables false
set_option maxHeartbeats 16000000
set_option maxRecDepth 100000
def Says (e : Ending) (p : Prop) : Prop := ∃ b,e = .returned (.bool b) ∧ (b = true ↔ p)
theorem qcm {α : Type} {l1 l2 : List α} {k : Nat} (h1 : k < l1.length) (h2 : k < l2.length) (h : l1.take k = l2.take k) (hx : l1[k] = l2[k]) : l1.take (k + 1) = l2.take (k + 1) := by
 rw [List.take_add_one,List.take_add_one,h,List.getElem?_eq_getElem h1,List.getElem?_eq_getElem h2,hx]
theorem ql9 (w : World) (x y : RgR) : (binOp .neq 63 (.agg #[I x.prio,I x.cap]) (.agg #[I y.prio,I y.cap])).run Tryz.prog w = .ok (.bool (!decide (x.prio = y.prio ∧ x.cap = y.cap))) w := by
 obtain ⟨a0,a1⟩ := x
 obtain ⟨b0,b1⟩ := y
 dsimp only
 by_cases h0 : a0 = b0
 ·skip
  by_cases h1 : a1 = b1
  ·simp [go_sem,h0,h1]
  ·simp [go_sem,h0,h1] <;> omega
 ·simp [go_sem,h0] <;> omega
theorem qoa {x y : RgR} (h : x.prio = y.prio ∧ x.cap = y.cap) : x = y := by
 obtain ⟨a0,a1⟩ := x
 obtain ⟨b0,b1⟩ := y
 simpa [and_assoc] using h
theorem atRg {w : World} {s : Sl} {l : List RgR} (h : RowsAt w 2 rgrP s l) {k : Nat} (hk : k < l.length) {W : World} (hb : Below w.heap.size w W) : ∃ g off,s.a = some ⟨g,off,none⟩ ∧ W.cell? ⟨g,off + k * 2,none⟩ = some (I l[k].prio) ∧ W.cell? ⟨g,off + k * 2 + 1,none⟩ = some (I l[k].cap) := by
 obtain ⟨g,off,ea,hg,hr⟩ := h.row k _ (List.getElem?_eq_getElem hk)
 obtain ⟨u0,d0,p0⟩ := hr 0 (by omega)
 have p0' : u0 = I l[k].prio := by first | exact p0 | exact p0.1
 subst p0'
 obtain ⟨u1,d1,p1⟩ := hr 1 (by omega)
 have p1' : u1 = I l[k].cap := by first | exact p1 | exact p1.1
 subst p1'
 exact ⟨g,off,ea,by rw [qa6 hb _ _ hg]; exact d0,by rw [qa6 hb _ _ hg]; exact d1⟩
theorem eqRg (w : World) (s1 s2 : Sl) (l1 l2 : List RgR) (h1 : RowsAt w 2 rgrP s1 l1) (h2 : RowsAt w 2 rgrP s2 l2) : Calls Tryz.prog 42 #[slT s1,slT s2] w fun e w' => Says e (l1 = l2) ∧ Below w.heap.size w w' := by
 obtain ⟨a1,n1,c1⟩ := s1
 obtain ⟨a2,n2,c2⟩ := s2
 have hn1 : Hid (n1 = l1.length) := h1.n
 have hn2 : Hid (n2 = l2.length) := h2.n
 have hm1 : n1 ≤ maxLen := Nat.le_trans h1.c h1.m
 unfold maxLen at hm1
 have H1 : Hid (RowsAt w 2 rgrP ⟨a1,n1,c1⟩ l1) := h1
 have H2 : Hid (RowsAt w 2 rgrP ⟨a2,n2,c2⟩ l2) := h2
 clear h1 h2
 show Calls _ _ #[.slice a1 n1 c1, .slice a2 n2 c2] _ _
 by_cases hl : n1 = n2
 ·subst hl
  go_enter Tryz.func42,Tryz.ntmps42
  go_wp2
  go_loopw [5,13] (fun _ v13 wr => ∃ k : Nat,k ≤ n1 ∧ v13 = I k ∧ Hid (l1.take k = l2.take k ∧ Below w.heap.size w wr)) (fun _ v13 _ => n1 - (intOf v13).toNat)
  case atStart => exact ⟨0,by omega,rfl,by simp,Below.refl _ _⟩
  case round =>
   obtain ⟨k,hk,rfl,HJ⟩ := hrel
   by_cases hlt : k < n1
   ·have hltI : (k : Int) < n1 := by omega
    have hk1 : k < l1.length := by rw [← hn1.out]; exact hlt
    have hk2 : k < l2.length := by rw [← hn2.out]; exact hlt
    obtain ⟨g1,o1,e1,q0,q1⟩ := atRg H1.out hk1 HJ.out.2
    obtain ⟨g2,o2,e2,r0,r1⟩ := atRg H2.out hk2 HJ.out.2
    have e1' : a1 = some ⟨g1,o1,none⟩ := e1
    have e2' : a2 = some ⟨g2,o2,none⟩ := e2
    clear e1 e2
    subst e1' e2'
    have hN := fun W => ql9 W l1[k] l2[k]
    by_cases hx : l1[k].prio = l2[k].prio ∧ l1[k].cap = l2[k].cap
    ·have HT : Hid (l1.take (k + 1) = l2.take (k + 1) ∧ Below w.heap.size w wr) := ⟨qcm hk1 hk2 HJ.out.1 (qoa hx),HJ.out.2⟩
     rw [decide_eq_true hx] at hN
     clear HJ hx
     generalize l1[k] = x at *
     generalize l2[k] = y at *
     clear hk1 hk2
     go_upto_region 6 with fail
     go_region_held_law (fun W => W.cell? ⟨g1,o1 + k * 2,none⟩ = some (I x.prio) ∧ W.cell? ⟨g1,o1 + k * 2 + 1,none⟩ = some (I x.cap) ∧ W.cell? ⟨g2,o2 + k * 2,none⟩ = some (I y.prio) ∧ W.cell? ⟨g2,o2 + k * 2 + 1,none⟩ = some (I y.cap)) (first | exact ⟨q0,q1,r0,r1⟩ | (go_keep; done)) (fail)
     go_wp2
     go_roundw
     case rel => exact ⟨k + 1,by omega,by go_num,HT.out.1,HT.out.2.drew⟩
     case measure => simp [intOf]; omega
    ·have HN : Hid (¬ l1 = l2 ∧ Below w.heap.size w wr) := ⟨fun e => hx (by subst e; simp),HJ.out.2⟩
     rw [decide_eq_false hx] at hN
     clear HJ hx
     generalize l1[k] = x at *
     generalize l2[k] = y at *
     clear hk1 hk2
     go_upto_region 6 with fail
     go_region_held_law (fun W => W.cell? ⟨g1,o1 + k * 2,none⟩ = some (I x.prio) ∧ W.cell? ⟨g1,o1 + k * 2 + 1,none⟩ = some (I x.cap) ∧ W.cell? ⟨g2,o2 + k * 2,none⟩ = some (I y.prio) ∧ W.cell? ⟨g2,o2 + k * 2 + 1,none⟩ = some (I y.cap)) (first | exact ⟨q0,q1,r0,r1⟩ | (go_keep; done)) (fail)
     go_wp2
     go_ret
     exact ⟨⟨false,rfl,by simp [HN.out.1]⟩,HN.out.2.drew⟩
   ·obtain rfl : k = n1 := by omega
    have hge : ¬ ((k : Int) < k) := by omega
    have HE : Hid (l1 = l2 ∧ Below w.heap.size w wr) := ⟨by have := HJ.out.1; rwa [show l1.take k = l1 by rw [hn1.out]; exact List.take_length,show l2.take k = l2 by rw [hn2.out]; exact List.take_length] at this,HJ.out.2⟩
    clear HJ
    go_wp2
    go_ret
    exact ⟨⟨true,rfl,by simp [HE.out.1]⟩,HE.out.2⟩
 ·have hlI : ¬ ((n1 : Int) = n2) := by omega
  have HN : Hid (¬ l1 = l2) := fun e => hl (by rw [hn1.out,hn2.out,e])
  go_enter Tryz.func42,Tryz.ntmps42
  go_wp2
  go_ret
  exact ⟨⟨false,rfl,by simp [HN.out]⟩,Below.refl _ _⟩
theorem qla (w : World) (x y : RsR) : (binOp .neq 78 (.agg #[.bool x.inner,I x.ceil]) (.agg #[.bool y.inner,I y.ceil])).run Tryz.prog w = .ok (.bool (!decide (x.inner = y.inner ∧ x.ceil = y.ceil))) w := by
 obtain ⟨a0,a1⟩ := x
 obtain ⟨b0,b1⟩ := y
 dsimp only
 by_cases h0 : a0 = b0
 ·skip
  by_cases h1 : a1 = b1
  ·simp [go_sem,h0,h1]
  ·simp [go_sem,h0,h1] <;> omega
 ·simp [go_sem,h0] <;> omega
theorem qob {x y : RsR} (h : x.inner = y.inner ∧ x.ceil = y.ceil) : x = y := by
 obtain ⟨a0,a1⟩ := x
 obtain ⟨b0,b1⟩ := y
 simpa [and_assoc] using h
theorem atRs {w : World} {s : Sl} {l : List RsR} (h : RowsAt w 2 rsrP s l) {k : Nat} (hk : k < l.length) {W : World} (hb : Below w.heap.size w W) : ∃ g off,s.a = some ⟨g,off,none⟩ ∧ W.cell? ⟨g,off + k * 2,none⟩ = some (.bool l[k].inner) ∧ W.cell? ⟨g,off + k * 2 + 1,none⟩ = some (I l[k].ceil) := by
 obtain ⟨g,off,ea,hg,hr⟩ := h.row k _ (List.getElem?_eq_getElem hk)
 obtain ⟨u0,d0,p0⟩ := hr 0 (by omega)
 have p0' : u0 = .bool l[k].inner := by first | exact p0 | exact p0.1
 subst p0'
 obtain ⟨u1,d1,p1⟩ := hr 1 (by omega)
 have p1' : u1 = I l[k].ceil := by first | exact p1 | exact p1.1
 subst p1'
 exact ⟨g,off,ea,by rw [qa6 hb _ _ hg]; exact d0,by rw [qa6 hb _ _ hg]; exact d1⟩
theorem eqRs (w : World) (s1 s2 : Sl) (l1 l2 : List RsR) (h1 : RowsAt w 2 rsrP s1 l1) (h2 : RowsAt w 2 rsrP s2 l2) : Calls Tryz.prog 43 #[slT s1,slT s2] w fun e w' => Says e (l1 = l2) ∧ Below w.heap.size w w' := by
 obtain ⟨a1,n1,c1⟩ := s1
 obtain ⟨a2,n2,c2⟩ := s2
 have hn1 : Hid (n1 = l1.length) := h1.n
 have hn2 : Hid (n2 = l2.length) := h2.n
 have hm1 : n1 ≤ maxLen := Nat.le_trans h1.c h1.m
 unfold maxLen at hm1
 have H1 : Hid (RowsAt w 2 rsrP ⟨a1,n1,c1⟩ l1) := h1
 have H2 : Hid (RowsAt w 2 rsrP ⟨a2,n2,c2⟩ l2) := h2
 clear h1 h2
 show Calls _ _ #[.slice a1 n1 c1, .slice a2 n2 c2] _ _
 by_cases hl : n1 = n2
 ·subst hl
  go_enter Tryz.func43,Tryz.ntmps43
  go_wp2
  go_loopw [5,13] (fun _ v13 wr => ∃ k : Nat,k ≤ n1 ∧ v13 = I k ∧ Hid (l1.take k = l2.take k ∧ Below w.heap.size w wr)) (fun _ v13 _ => n1 - (intOf v13).toNat)
  case atStart => exact ⟨0,by omega,rfl,by simp,Below.refl _ _⟩
  case round =>
   obtain ⟨k,hk,rfl,HJ⟩ := hrel
   by_cases hlt : k < n1
   ·have hltI : (k : Int) < n1 := by omega
    have hk1 : k < l1.length := by rw [← hn1.out]; exact hlt
    have hk2 : k < l2.length := by rw [← hn2.out]; exact hlt
    obtain ⟨g1,o1,e1,q0,q1⟩ := atRs H1.out hk1 HJ.out.2
    obtain ⟨g2,o2,e2,r0,r1⟩ := atRs H2.out hk2 HJ.out.2
    have e1' : a1 = some ⟨g1,o1,none⟩ := e1
    have e2' : a2 = some ⟨g2,o2,none⟩ := e2
    clear e1 e2
    subst e1' e2'
    have hN := fun W => qla W l1[k] l2[k]
    by_cases hx : l1[k].inner = l2[k].inner ∧ l1[k].ceil = l2[k].ceil
    ·have HT : Hid (l1.take (k + 1) = l2.take (k + 1) ∧ Below w.heap.size w wr) := ⟨qcm hk1 hk2 HJ.out.1 (qob hx),HJ.out.2⟩
     rw [decide_eq_true hx] at hN
     clear HJ hx
     generalize l1[k] = x at *
     generalize l2[k] = y at *
     clear hk1 hk2
     go_upto_region 6 with fail
     go_region_held_law (fun W => W.cell? ⟨g1,o1 + k * 2,none⟩ = some (.bool x.inner) ∧ W.cell? ⟨g1,o1 + k * 2 + 1,none⟩ = some (I x.ceil) ∧ W.cell? ⟨g2,o2 + k * 2,none⟩ = some (.bool y.inner) ∧ W.cell? ⟨g2,o2 + k * 2 + 1,none⟩ = some (I y.ceil)) (first | exact ⟨q0,q1,r0,r1⟩ | (go_keep; done)) (fail)
     go_wp2
     go_roundw
     case rel => exact ⟨k + 1,by omega,by go_num,HT.out.1,HT.out.2.drew⟩
     case measure => simp [intOf]; omega
    ·have HN : Hid (¬ l1 = l2 ∧ Below w.heap.size w wr) := ⟨fun e => hx (by subst e; simp),HJ.out.2⟩
     rw [decide_eq_false hx] at hN
     clear HJ hx
     generalize l1[k] = x at *
     generalize l2[k] = y at *
     clear hk1 hk2
     go_upto_region 6 with fail
     go_region_held_law (fun W => W.cell? ⟨g1,o1 + k * 2,none⟩ = some (.bool x.inner) ∧ W.cell? ⟨g1,o1 + k * 2 + 1,none⟩ = some (I x.ceil) ∧ W.cell? ⟨g2,o2 + k * 2,none⟩ = some (.bool y.inner) ∧ W.cell? ⟨g2,o2 + k * 2 + 1,none⟩ = some (I y.ceil)) (first | exact ⟨q0,q1,r0,r1⟩ | (go_keep; done)) (fail)
     go_wp2
     go_ret
     exact ⟨⟨false,rfl,by simp [HN.out.1]⟩,HN.out.2.drew⟩
   ·obtain rfl : k = n1 := by omega
    have hge : ¬ ((k : Int) < k) := by omega
    have HE : Hid (l1 = l2 ∧ Below w.heap.size w wr) := ⟨by have := HJ.out.1; rwa [show l1.take k = l1 by rw [hn1.out]; exact List.take_length,show l2.take k = l2 by rw [hn2.out]; exact List.take_length] at this,HJ.out.2⟩
    clear HJ
    go_wp2
    go_ret
    exact ⟨⟨true,rfl,by simp [HE.out.1]⟩,HE.out.2⟩
 ·have hlI : ¬ ((n1 : Int) = n2) := by omega
  have HN : Hid (¬ l1 = l2) := fun e => hl (by rw [hn1.out,hn2.out,e])
  go_enter Tryz.func43,Tryz.ntmps43
  go_wp2
  go_ret
  exact ⟨⟨false,rfl,by simp [HN.out]⟩,Below.refl _ _⟩
theorem qlb (w : World) (x y : AlR) : (binOp .neq 85 (.agg #[I x.ctr,I x.ac.kind,I x.ac.task, .int .u32 (x.ac.mask : Int), .int .u32 (x.auto : Int), .int .u32 (x.time : Int), .int .u32 (x.cycle : Int)]) (.agg #[I y.ctr,I y.ac.kind,I y.ac.task, .int .u32 (y.ac.mask : Int), .int .u32 (y.auto : Int), .int .u32 (y.time : Int), .int .u32 (y.cycle : Int)])).run Tryz.prog w = .ok (.bool (!decide (x.ctr = y.ctr ∧ x.ac.kind = y.ac.kind ∧ x.ac.task = y.ac.task ∧ x.ac.mask = y.ac.mask ∧ x.auto = y.auto ∧ x.time = y.time ∧ x.cycle = y.cycle))) w := by
 obtain ⟨a0,⟨a1,a2,a3⟩,a4,a5,a6⟩ := x
 obtain ⟨b0,⟨b1,b2,b3⟩,b4,b5,b6⟩ := y
 dsimp only
 by_cases h0 : a0 = b0
 ·skip
  by_cases h1 : a1 = b1
  ·skip
   by_cases h2 : a2 = b2
   ·skip
    by_cases h3 : a3 = b3
    ·skip
     by_cases h4 : a4 = b4
     ·skip
      by_cases h5 : a5 = b5
      ·skip
       by_cases h6 : a6 = b6
       ·simp [go_sem,h0,h1,h2,h3,h4,h5,h6]
       ·simp [go_sem,h0,h1,h2,h3,h4,h5,h6] <;> omega
      ·simp [go_sem,h0,h1,h2,h3,h4,h5] <;> omega
     ·simp [go_sem,h0,h1,h2,h3,h4] <;> omega
    ·simp [go_sem,h0,h1,h2,h3] <;> omega
   ·simp [go_sem,h0,h1,h2] <;> omega
  ·simp [go_sem,h0,h1] <;> omega
 ·simp [go_sem,h0] <;> omega
theorem qoc {x y : AlR} (h : x.ctr = y.ctr ∧ x.ac.kind = y.ac.kind ∧ x.ac.task = y.ac.task ∧ x.ac.mask = y.ac.mask ∧ x.auto = y.auto ∧ x.time = y.time ∧ x.cycle = y.cycle) : x = y := by
 obtain ⟨a0,⟨a1,a2,a3⟩,a4,a5,a6⟩ := x
 obtain ⟨b0,⟨b1,b2,b3⟩,b4,b5,b6⟩ := y
 simpa [and_assoc] using h
theorem atAl {w : World} {s : Sl} {l : List AlR} (h : RowsAt w 7 alrP s l) {k : Nat} (hk : k < l.length) {W : World} (hb : Below w.heap.size w W) : ∃ g off,s.a = some ⟨g,off,none⟩ ∧ W.cell? ⟨g,off + k * 7,none⟩ = some (I l[k].ctr) ∧ W.cell? ⟨g,off + k * 7 + 1,none⟩ = some (I l[k].ac.kind) ∧ W.cell? ⟨g,off + k * 7 + 2,none⟩ = some (I l[k].ac.task) ∧ W.cell? ⟨g,off + k * 7 + 3,none⟩ = some (.int .u32 (l[k].ac.mask : Int)) ∧ W.cell? ⟨g,off + k * 7 + 4,none⟩ = some (.int .u32 (l[k].auto : Int)) ∧ W.cell? ⟨g,off + k * 7 + 5,none⟩ = some (.int .u32 (l[k].time : Int)) ∧ W.cell? ⟨g,off + k * 7 + 6,none⟩ = some (.int .u32 (l[k].cycle : Int)) := by
 obtain ⟨g,off,ea,hg,hr⟩ := h.row k _ (List.getElem?_eq_getElem hk)
 obtain ⟨u0,d0,p0⟩ := hr 0 (by omega)
 have p0' : u0 = I l[k].ctr := by first | exact p0 | exact p0.1
 subst p0'
 obtain ⟨u1,d1,p1⟩ := hr 1 (by omega)
 have p1' : u1 = I l[k].ac.kind := by first | exact p1 | exact p1.1
 subst p1'
 obtain ⟨u2,d2,p2⟩ := hr 2 (by omega)
 have p2' : u2 = I l[k].ac.task := by first | exact p2 | exact p2.1
 subst p2'
 obtain ⟨u3,d3,p3⟩ := hr 3 (by omega)
 have p3' : u3 = .int .u32 (l[k].ac.mask : Int) := by first | exact p3 | exact p3.1
 subst p3'
 obtain ⟨u4,d4,p4⟩ := hr 4 (by omega)
 have p4' : u4 = .int .u32 (l[k].auto : Int) := by first | exact p4 | exact p4.1
 subst p4'
 obtain ⟨u5,d5,p5⟩ := hr 5 (by omega)
 have p5' : u5 = .int .u32 (l[k].time : Int) := by first | exact p5 | exact p5.1
 subst p5'
 obtain ⟨u6,d6,p6⟩ := hr 6 (by omega)
 have p6' : u6 = .int .u32 (l[k].cycle : Int) := by first | exact p6 | exact p6.1
 subst p6'
 exact ⟨g,off,ea,by rw [qa6 hb _ _ hg]; exact d0,by rw [qa6 hb _ _ hg]; exact d1,by rw [qa6 hb _ _ hg]; exact d2,by rw [qa6 hb _ _ hg]; exact d3,by rw [qa6 hb _ _ hg]; exact d4,by rw [qa6 hb _ _ hg]; exact d5,by rw [qa6 hb _ _ hg]; exact d6⟩
theorem eqAl (w : World) (s1 s2 : Sl) (l1 l2 : List AlR) (h1 : RowsAt w 7 alrP s1 l1) (h2 : RowsAt w 7 alrP s2 l2) : Calls Tryz.prog 45 #[slT s1,slT s2] w fun e w' => Says e (l1 = l2) ∧ Below w.heap.size w w' := by
 obtain ⟨a1,n1,c1⟩ := s1
 obtain ⟨a2,n2,c2⟩ := s2
 have hn1 : Hid (n1 = l1.length) := h1.n
 have hn2 : Hid (n2 = l2.length) := h2.n
 have hm1 : n1 ≤ maxLen := Nat.le_trans h1.c h1.m
 unfold maxLen at hm1
 have H1 : Hid (RowsAt w 7 alrP ⟨a1,n1,c1⟩ l1) := h1
 have H2 : Hid (RowsAt w 7 alrP ⟨a2,n2,c2⟩ l2) := h2
 clear h1 h2
 show Calls _ _ #[.slice a1 n1 c1, .slice a2 n2 c2] _ _
 by_cases hl : n1 = n2
 ·subst hl
  go_enter Tryz.func45,Tryz.ntmps45
  go_wp2
  go_loopw [5,13] (fun _ v13 wr => ∃ k : Nat,k ≤ n1 ∧ v13 = I k ∧ Hid (l1.take k = l2.take k ∧ Below w.heap.size w wr)) (fun _ v13 _ => n1 - (intOf v13).toNat)
  case atStart => exact ⟨0,by omega,rfl,by simp,Below.refl _ _⟩
  case round =>
   obtain ⟨k,hk,rfl,HJ⟩ := hrel
   by_cases hlt : k < n1
   ·have hltI : (k : Int) < n1 := by omega
    have hk1 : k < l1.length := by rw [← hn1.out]; exact hlt
    have hk2 : k < l2.length := by rw [← hn2.out]; exact hlt
    obtain ⟨g1,o1,e1,q0,q1,q2,q3,q4,q5,q6⟩ := atAl H1.out hk1 HJ.out.2
    obtain ⟨g2,o2,e2,r0,r1,r2,r3,r4,r5,r6⟩ := atAl H2.out hk2 HJ.out.2
    have e1' : a1 = some ⟨g1,o1,none⟩ := e1
    have e2' : a2 = some ⟨g2,o2,none⟩ := e2
    clear e1 e2
    subst e1' e2'
    have hN := fun W => qlb W l1[k] l2[k]
    by_cases hx : l1[k].ctr = l2[k].ctr ∧ l1[k].ac.kind = l2[k].ac.kind ∧ l1[k].ac.task = l2[k].ac.task ∧ l1[k].ac.mask = l2[k].ac.mask ∧ l1[k].auto = l2[k].auto ∧ l1[k].time = l2[k].time ∧ l1[k].cycle = l2[k].cycle
    ·have HT : Hid (l1.take (k + 1) = l2.take (k + 1) ∧ Below w.heap.size w wr) := ⟨qcm hk1 hk2 HJ.out.1 (qoc hx),HJ.out.2⟩
     rw [decide_eq_true hx] at hN
     clear HJ hx
     generalize l1[k] = x at *
     generalize l2[k] = y at *
     clear hk1 hk2
     go_upto_region 6 with fail
     go_region_held_law (fun W => W.cell? ⟨g1,o1 + k * 7,none⟩ = some (I x.ctr) ∧ W.cell? ⟨g1,o1 + k * 7 + 1,none⟩ = some (I x.ac.kind) ∧ W.cell? ⟨g1,o1 + k * 7 + 2,none⟩ = some (I x.ac.task) ∧ W.cell? ⟨g1,o1 + k * 7 + 3,none⟩ = some (.int .u32 (x.ac.mask : Int)) ∧ W.cell? ⟨g1,o1 + k * 7 + 4,none⟩ = some (.int .u32 (x.auto : Int)) ∧ W.cell? ⟨g1,o1 + k * 7 + 5,none⟩ = some (.int .u32 (x.time : Int)) ∧ W.cell? ⟨g1,o1 + k * 7 + 6,none⟩ = some (.int .u32 (x.cycle : Int)) ∧ W.cell? ⟨g2,o2 + k * 7,none⟩ = some (I y.ctr) ∧ W.cell? ⟨g2,o2 + k * 7 + 1,none⟩ = some (I y.ac.kind) ∧ W.cell? ⟨g2,o2 + k * 7 + 2,none⟩ = some (I y.ac.task) ∧ W.cell? ⟨g2,o2 + k * 7 + 3,none⟩ = some (.int .u32 (y.ac.mask : Int)) ∧ W.cell? ⟨g2,o2 + k * 7 + 4,none⟩ = some (.int .u32 (y.auto : Int)) ∧ W.cell? ⟨g2,o2 + k * 7 + 5,none⟩ = some (.int .u32 (y.time : Int)) ∧ W.cell? ⟨g2,o2 + k * 7 + 6,none⟩ = some (.int .u32 (y.cycle : Int))) (first | exact ⟨q0,q1,q2,q3,q4,q5,q6,r0,r1,r2,r3,r4,r5,r6⟩ | (go_keep; done)) (fail)
     go_wp2
     go_roundw
     case rel => exact ⟨k + 1,by omega,by go_num,HT.out.1,HT.out.2.drew⟩
     case measure => simp [intOf]; omega
    ·have HN : Hid (¬ l1 = l2 ∧ Below w.heap.size w wr) := ⟨fun e => hx (by subst e; simp),HJ.out.2⟩
     rw [decide_eq_false hx] at hN
     clear HJ hx
     generalize l1[k] = x at *
     generalize l2[k] = y at *
     clear hk1 hk2
     go_upto_region 6 with fail
     go_region_held_law (fun W => W.cell? ⟨g1,o1 + k * 7,none⟩ = some (I x.ctr) ∧ W.cell? ⟨g1,o1 + k * 7 + 1,none⟩ = some (I x.ac.kind) ∧ W.cell? ⟨g1,o1 + k * 7 + 2,none⟩ = some (I x.ac.task) ∧ W.cell? ⟨g1,o1 + k * 7 + 3,none⟩ = some (.int .u32 (x.ac.mask : Int)) ∧ W.cell? ⟨g1,o1 + k * 7 + 4,none⟩ = some (.int .u32 (x.auto : Int)) ∧ W.cell? ⟨g1,o1 + k * 7 + 5,none⟩ = some (.int .u32 (x.time : Int)) ∧ W.cell? ⟨g1,o1 + k * 7 + 6,none⟩ = some (.int .u32 (x.cycle : Int)) ∧ W.cell? ⟨g2,o2 + k * 7,none⟩ = some (I y.ctr) ∧ W.cell? ⟨g2,o2 + k * 7 + 1,none⟩ = some (I y.ac.kind) ∧ W.cell? ⟨g2,o2 + k * 7 + 2,none⟩ = some (I y.ac.task) ∧ W.cell? ⟨g2,o2 + k * 7 + 3,none⟩ = some (.int .u32 (y.ac.mask : Int)) ∧ W.cell? ⟨g2,o2 + k * 7 + 4,none⟩ = some (.int .u32 (y.auto : Int)) ∧ W.cell? ⟨g2,o2 + k * 7 + 5,none⟩ = some (.int .u32 (y.time : Int)) ∧ W.cell? ⟨g2,o2 + k * 7 + 6,none⟩ = some (.int .u32 (y.cycle : Int))) (first | exact ⟨q0,q1,q2,q3,q4,q5,q6,r0,r1,r2,r3,r4,r5,r6⟩ | (go_keep; done)) (fail)
     go_wp2
     go_ret
     exact ⟨⟨false,rfl,by simp [HN.out.1]⟩,HN.out.2.drew⟩
   ·obtain rfl : k = n1 := by omega
    have hge : ¬ ((k : Int) < k) := by omega
    have HE : Hid (l1 = l2 ∧ Below w.heap.size w wr) := ⟨by have := HJ.out.1; rwa [show l1.take k = l1 by rw [hn1.out]; exact List.take_length,show l2.take k = l2 by rw [hn2.out]; exact List.take_length] at this,HJ.out.2⟩
    clear HJ
    go_wp2
    go_ret
    exact ⟨⟨true,rfl,by simp [HE.out.1]⟩,HE.out.2⟩
 ·have hlI : ¬ ((n1 : Int) = n2) := by omega
  have HN : Hid (¬ l1 = l2) := fun e => hl (by rw [hn1.out,hn2.out,e])
  go_enter Tryz.func45,Tryz.ntmps45
  go_wp2
  go_ret
  exact ⟨⟨false,rfl,by simp [HN.out]⟩,Below.refl _ _⟩
theorem qlc (w : World) (x y : MsR) : (binOp .neq 91 (.agg #[I x.kind,I x.len,I x.frm, .int .u64 (x.init : Int),I x.queue,I x.ac.kind,I x.ac.task, .int .u32 (x.ac.mask : Int)]) (.agg #[I y.kind,I y.len,I y.frm, .int .u64 (y.init : Int),I y.queue,I y.ac.kind,I y.ac.task, .int .u32 (y.ac.mask : Int)])).run Tryz.prog w = .ok (.bool (!decide (x.kind = y.kind ∧ x.len = y.len ∧ x.frm = y.frm ∧ x.init = y.init ∧ x.queue = y.queue ∧ x.ac.kind = y.ac.kind ∧ x.ac.task = y.ac.task ∧ x.ac.mask = y.ac.mask))) w := by
 obtain ⟨a0,a1,a2,a3,a4,⟨a5,a6,a7⟩⟩ := x
 obtain ⟨b0,b1,b2,b3,b4,⟨b5,b6,b7⟩⟩ := y
 dsimp only
 by_cases h0 : a0 = b0
 ·skip
  by_cases h1 : a1 = b1
  ·skip
   by_cases h2 : a2 = b2
   ·skip
    by_cases h3 : a3 = b3
    ·skip
     by_cases h4 : a4 = b4
     ·skip
      by_cases h5 : a5 = b5
      ·skip
       by_cases h6 : a6 = b6
       ·skip
        by_cases h7 : a7 = b7
        ·simp [go_sem,h0,h1,h2,h3,h4,h5,h6,h7]
        ·simp [go_sem,h0,h1,h2,h3,h4,h5,h6,h7] <;> omega
       ·simp [go_sem,h0,h1,h2,h3,h4,h5,h6] <;> omega
      ·simp [go_sem,h0,h1,h2,h3,h4,h5] <;> omega
     ·simp [go_sem,h0,h1,h2,h3,h4] <;> omega
    ·simp [go_sem,h0,h1,h2,h3] <;> omega
   ·simp [go_sem,h0,h1,h2] <;> omega
  ·simp [go_sem,h0,h1] <;> omega
 ·simp [go_sem,h0] <;> omega
theorem qod {x y : MsR} (h : x.kind = y.kind ∧ x.len = y.len ∧ x.frm = y.frm ∧ x.init = y.init ∧ x.queue = y.queue ∧ x.ac.kind = y.ac.kind ∧ x.ac.task = y.ac.task ∧ x.ac.mask = y.ac.mask) : x = y := by
 obtain ⟨a0,a1,a2,a3,a4,⟨a5,a6,a7⟩⟩ := x
 obtain ⟨b0,b1,b2,b3,b4,⟨b5,b6,b7⟩⟩ := y
 simpa [and_assoc] using h
theorem atMs {w : World} {s : Sl} {l : List MsR} (h : RowsAt w 8 msrP s l) {k : Nat} (hk : k < l.length) {W : World} (hb : Below w.heap.size w W) : ∃ g off,s.a = some ⟨g,off,none⟩ ∧ W.cell? ⟨g,off + k * 8,none⟩ = some (I l[k].kind) ∧ W.cell? ⟨g,off + k * 8 + 1,none⟩ = some (I l[k].len) ∧ W.cell? ⟨g,off + k * 8 + 2,none⟩ = some (I l[k].frm) ∧ W.cell? ⟨g,off + k * 8 + 3,none⟩ = some (.int .u64 (l[k].init : Int)) ∧ W.cell? ⟨g,off + k * 8 + 4,none⟩ = some (I l[k].queue) ∧ W.cell? ⟨g,off + k * 8 + 5,none⟩ = some (I l[k].ac.kind) ∧ W.cell? ⟨g,off + k * 8 + 6,none⟩ = some (I l[k].ac.task) ∧ W.cell? ⟨g,off + k * 8 + 7,none⟩ = some (.int .u32 (l[k].ac.mask : Int)) := by
 obtain ⟨g,off,ea,hg,hr⟩ := h.row k _ (List.getElem?_eq_getElem hk)
 obtain ⟨u0,d0,p0⟩ := hr 0 (by omega)
 have p0' : u0 = I l[k].kind := by first | exact p0 | exact p0.1
 subst p0'
 obtain ⟨u1,d1,p1⟩ := hr 1 (by omega)
 have p1' : u1 = I l[k].len := by first | exact p1 | exact p1.1
 subst p1'
 obtain ⟨u2,d2,p2⟩ := hr 2 (by omega)
 have p2' : u2 = I l[k].frm := by first | exact p2 | exact p2.1
 subst p2'
 obtain ⟨u3,d3,p3⟩ := hr 3 (by omega)
 have p3' : u3 = .int .u64 (l[k].init : Int) := by first | exact p3 | exact p3.1
 subst p3'
 obtain ⟨u4,d4,p4⟩ := hr 4 (by omega)
 have p4' : u4 = I l[k].queue := by first | exact p4 | exact p4.1
 subst p4'
 obtain ⟨u5,d5,p5⟩ := hr 5 (by omega)
 have p5' : u5 = I l[k].ac.kind := by first | exact p5 | exact p5.1
 subst p5'
 obtain ⟨u6,d6,p6⟩ := hr 6 (by omega)
 have p6' : u6 = I l[k].ac.task := by first | exact p6 | exact p6.1
 subst p6'
 obtain ⟨u7,d7,p7⟩ := hr 7 (by omega)
 have p7' : u7 = .int .u32 (l[k].ac.mask : Int) := by first | exact p7 | exact p7.1
 subst p7'
 exact ⟨g,off,ea,by rw [qa6 hb _ _ hg]; exact d0,by rw [qa6 hb _ _ hg]; exact d1,by rw [qa6 hb _ _ hg]; exact d2,by rw [qa6 hb _ _ hg]; exact d3,by rw [qa6 hb _ _ hg]; exact d4,by rw [qa6 hb _ _ hg]; exact d5,by rw [qa6 hb _ _ hg]; exact d6,by rw [qa6 hb _ _ hg]; exact d7⟩
theorem eqMs (w : World) (s1 s2 : Sl) (l1 l2 : List MsR) (h1 : RowsAt w 8 msrP s1 l1) (h2 : RowsAt w 8 msrP s2 l2) : Calls Tryz.prog 48 #[slT s1,slT s2] w fun e w' => Says e (l1 = l2) ∧ Below w.heap.size w w' := by
 obtain ⟨a1,n1,c1⟩ := s1
 obtain ⟨a2,n2,c2⟩ := s2
 have hn1 : Hid (n1 = l1.length) := h1.n
 have hn2 : Hid (n2 = l2.length) := h2.n
 have hm1 : n1 ≤ maxLen := Nat.le_trans h1.c h1.m
 unfold maxLen at hm1
 have H1 : Hid (RowsAt w 8 msrP ⟨a1,n1,c1⟩ l1) := h1
 have H2 : Hid (RowsAt w 8 msrP ⟨a2,n2,c2⟩ l2) := h2
 clear h1 h2
 show Calls _ _ #[.slice a1 n1 c1, .slice a2 n2 c2] _ _
 by_cases hl : n1 = n2
 ·subst hl
  go_enter Tryz.func48,Tryz.ntmps48
  go_wp2
  go_loopw [5,13] (fun _ v13 wr => ∃ k : Nat,k ≤ n1 ∧ v13 = I k ∧ Hid (l1.take k = l2.take k ∧ Below w.heap.size w wr)) (fun _ v13 _ => n1 - (intOf v13).toNat)
  case atStart => exact ⟨0,by omega,rfl,by simp,Below.refl _ _⟩
  case round =>
   obtain ⟨k,hk,rfl,HJ⟩ := hrel
   by_cases hlt : k < n1
   ·have hltI : (k : Int) < n1 := by omega
    have hk1 : k < l1.length := by rw [← hn1.out]; exact hlt
    have hk2 : k < l2.length := by rw [← hn2.out]; exact hlt
    obtain ⟨g1,o1,e1,q0,q1,q2,q3,q4,q5,q6,q7⟩ := atMs H1.out hk1 HJ.out.2
    obtain ⟨g2,o2,e2,r0,r1,r2,r3,r4,r5,r6,r7⟩ := atMs H2.out hk2 HJ.out.2
    have e1' : a1 = some ⟨g1,o1,none⟩ := e1
    have e2' : a2 = some ⟨g2,o2,none⟩ := e2
    clear e1 e2
    subst e1' e2'
    have hN := fun W => qlc W l1[k] l2[k]
    by_cases hx : l1[k].kind = l2[k].kind ∧ l1[k].len = l2[k].len ∧ l1[k].frm = l2[k].frm ∧ l1[k].init = l2[k].init ∧ l1[k].queue = l2[k].queue ∧ l1[k].ac.kind = l2[k].ac.kind ∧ l1[k].ac.task = l2[k].ac.task ∧ l1[k].ac.mask = l2[k].ac.mask
    ·have HT : Hid (l1.take (k + 1) = l2.take (k + 1) ∧ Below w.heap.size w wr) := ⟨qcm hk1 hk2 HJ.out.1 (qod hx),HJ.out.2⟩
     rw [decide_eq_true hx] at hN
     clear HJ hx
     generalize l1[k] = x at *
     generalize l2[k] = y at *
     clear hk1 hk2
     go_upto_region 6 with fail
     go_region_held_law (fun W => W.cell? ⟨g1,o1 + k * 8,none⟩ = some (I x.kind) ∧ W.cell? ⟨g1,o1 + k * 8 + 1,none⟩ = some (I x.len) ∧ W.cell? ⟨g1,o1 + k * 8 + 2,none⟩ = some (I x.frm) ∧ W.cell? ⟨g1,o1 + k * 8 + 3,none⟩ = some (.int .u64 (x.init : Int)) ∧ W.cell? ⟨g1,o1 + k * 8 + 4,none⟩ = some (I x.queue) ∧ W.cell? ⟨g1,o1 + k * 8 + 5,none⟩ = some (I x.ac.kind) ∧ W.cell? ⟨g1,o1 + k * 8 + 6,none⟩ = some (I x.ac.task) ∧ W.cell? ⟨g1,o1 + k * 8 + 7,none⟩ = some (.int .u32 (x.ac.mask : Int)) ∧ W.cell? ⟨g2,o2 + k * 8,none⟩ = some (I y.kind) ∧ W.cell? ⟨g2,o2 + k * 8 + 1,none⟩ = some (I y.len) ∧ W.cell? ⟨g2,o2 + k * 8 + 2,none⟩ = some (I y.frm) ∧ W.cell? ⟨g2,o2 + k * 8 + 3,none⟩ = some (.int .u64 (y.init : Int)) ∧ W.cell? ⟨g2,o2 + k * 8 + 4,none⟩ = some (I y.queue) ∧ W.cell? ⟨g2,o2 + k * 8 + 5,none⟩ = some (I y.ac.kind) ∧ W.cell? ⟨g2,o2 + k * 8 + 6,none⟩ = some (I y.ac.task) ∧ W.cell? ⟨g2,o2 + k * 8 + 7,none⟩ = some (.int .u32 (y.ac.mask : Int))) (first | exact ⟨q0,q1,q2,q3,q4,q5,q6,q7,r0,r1,r2,r3,r4,r5,r6,r7⟩ | (go_keep; done)) (fail)
     go_wp2
     go_roundw
     case rel => exact ⟨k + 1,by omega,by go_num,HT.out.1,HT.out.2.drew⟩
     case measure => simp [intOf]; omega
    ·have HN : Hid (¬ l1 = l2 ∧ Below w.heap.size w wr) := ⟨fun e => hx (by subst e; simp),HJ.out.2⟩
     rw [decide_eq_false hx] at hN
     clear HJ hx
     generalize l1[k] = x at *
     generalize l2[k] = y at *
     clear hk1 hk2
     go_upto_region 6 with fail
     go_region_held_law (fun W => W.cell? ⟨g1,o1 + k * 8,none⟩ = some (I x.kind) ∧ W.cell? ⟨g1,o1 + k * 8 + 1,none⟩ = some (I x.len) ∧ W.cell? ⟨g1,o1 + k * 8 + 2,none⟩ = some (I x.frm) ∧ W.cell? ⟨g1,o1 + k * 8 + 3,none⟩ = some (.int .u64 (x.init : Int)) ∧ W.cell? ⟨g1,o1 + k * 8 + 4,none⟩ = some (I x.queue) ∧ W.cell? ⟨g1,o1 + k * 8 + 5,none⟩ = some (I x.ac.kind) ∧ W.cell? ⟨g1,o1 + k * 8 + 6,none⟩ = some (I x.ac.task) ∧ W.cell? ⟨g1,o1 + k * 8 + 7,none⟩ = some (.int .u32 (x.ac.mask : Int)) ∧ W.cell? ⟨g2,o2 + k * 8,none⟩ = some (I y.kind) ∧ W.cell? ⟨g2,o2 + k * 8 + 1,none⟩ = some (I y.len) ∧ W.cell? ⟨g2,o2 + k * 8 + 2,none⟩ = some (I y.frm) ∧ W.cell? ⟨g2,o2 + k * 8 + 3,none⟩ = some (.int .u64 (y.init : Int)) ∧ W.cell? ⟨g2,o2 + k * 8 + 4,none⟩ = some (I y.queue) ∧ W.cell? ⟨g2,o2 + k * 8 + 5,none⟩ = some (I y.ac.kind) ∧ W.cell? ⟨g2,o2 + k * 8 + 6,none⟩ = some (I y.ac.task) ∧ W.cell? ⟨g2,o2 + k * 8 + 7,none⟩ = some (.int .u32 (y.ac.mask : Int))) (first | exact ⟨q0,q1,q2,q3,q4,q5,q6,q7,r0,r1,r2,r3,r4,r5,r6,r7⟩ | (go_keep; done)) (fail)
     go_wp2
     go_ret
     exact ⟨⟨false,rfl,by simp [HN.out.1]⟩,HN.out.2.drew⟩
   ·obtain rfl : k = n1 := by omega
    have hge : ¬ ((k : Int) < k) := by omega
    have HE : Hid (l1 = l2 ∧ Below w.heap.size w wr) := ⟨by have := HJ.out.1; rwa [show l1.take k = l1 by rw [hn1.out]; exact List.take_length,show l2.take k = l2 by rw [hn2.out]; exact List.take_length] at this,HJ.out.2⟩
    clear HJ
    go_wp2
    go_ret
    exact ⟨⟨true,rfl,by simp [HE.out.1]⟩,HE.out.2⟩
 ·have hlI : ¬ ((n1 : Int) = n2) := by omega
  have HN : Hid (¬ l1 = l2) := fun e => hl (by rw [hn1.out,hn2.out,e])
  go_enter Tryz.func48,Tryz.ntmps48
  go_wp2
  go_ret
  exact ⟨⟨false,rfl,by simp [HN.out]⟩,Below.refl _ _⟩
theorem qld (w : World) (x y : CtR) : (binOp .neq 80 (.agg #[.int .u32 (x.max : Int), .int .u32 (x.base : Int), .int .u32 (x.min : Int)]) (.agg #[.int .u32 (y.max : Int), .int .u32 (y.base : Int), .int .u32 (y.min : Int)])).run Tryz.prog w = .ok (.bool (!decide (x.max = y.max ∧ x.base = y.base ∧ x.min = y.min))) w := by
 obtain ⟨a0,a1,a2⟩ := x
 obtain ⟨b0,b1,b2⟩ := y
 dsimp only
 by_cases h0 : a0 = b0
 ·skip
  by_cases h1 : a1 = b1
  ·skip
   by_cases h2 : a2 = b2
   ·simp [go_sem,h0,h1,h2]
   ·simp [go_sem,h0,h1,h2] <;> omega
  ·simp [go_sem,h0,h1] <;> omega
 ·simp [go_sem,h0] <;> omega
theorem qoe {x y : CtR} (h : x.max = y.max ∧ x.base = y.base ∧ x.min = y.min) : x = y := by
 obtain ⟨a0,a1,a2⟩ := x
 obtain ⟨b0,b1,b2⟩ := y
 simpa [and_assoc] using h
theorem atCt {w : World} {s : Sl} {l : List CtR} (h : RowsAt w 3 ctrP s l) {k : Nat} (hk : k < l.length) {W : World} (hb : Below w.heap.size w W) : ∃ g off,s.a = some ⟨g,off,none⟩ ∧ W.cell? ⟨g,off + k * 3,none⟩ = some (.int .u32 (l[k].max : Int)) ∧ W.cell? ⟨g,off + k * 3 + 1,none⟩ = some (.int .u32 (l[k].base : Int)) ∧ W.cell? ⟨g,off + k * 3 + 2,none⟩ = some (.int .u32 (l[k].min : Int)) := by
 obtain ⟨g,off,ea,hg,hr⟩ := h.row k _ (List.getElem?_eq_getElem hk)
 obtain ⟨u0,d0,p0⟩ := hr 0 (by omega)
 have p0' : u0 = .int .u32 (l[k].max : Int) := by first | exact p0 | exact p0.1
 subst p0'
 obtain ⟨u1,d1,p1⟩ := hr 1 (by omega)
 have p1' : u1 = .int .u32 (l[k].base : Int) := by first | exact p1 | exact p1.1
 subst p1'
 obtain ⟨u2,d2,p2⟩ := hr 2 (by omega)
 have p2' : u2 = .int .u32 (l[k].min : Int) := by first | exact p2 | exact p2.1
 subst p2'
 exact ⟨g,off,ea,by rw [qa6 hb _ _ hg]; exact d0,by rw [qa6 hb _ _ hg]; exact d1,by rw [qa6 hb _ _ hg]; exact d2⟩
theorem eqCt (w : World) (s1 s2 : Sl) (l1 l2 : List CtR) (h1 : RowsAt w 3 ctrP s1 l1) (h2 : RowsAt w 3 ctrP s2 l2) : Calls Tryz.prog 44 #[slT s1,slT s2] w fun e w' => Says e (l1 = l2) ∧ Below w.heap.size w w' := by
 obtain ⟨a1,n1,c1⟩ := s1
 obtain ⟨a2,n2,c2⟩ := s2
 have hn1 : Hid (n1 = l1.length) := h1.n
 have hn2 : Hid (n2 = l2.length) := h2.n
 have hm1 : n1 ≤ maxLen := Nat.le_trans h1.c h1.m
 unfold maxLen at hm1
 have H1 : Hid (RowsAt w 3 ctrP ⟨a1,n1,c1⟩ l1) := h1
 have H2 : Hid (RowsAt w 3 ctrP ⟨a2,n2,c2⟩ l2) := h2
 clear h1 h2
 show Calls _ _ #[.slice a1 n1 c1, .slice a2 n2 c2] _ _
 by_cases hl : n1 = n2
 ·subst hl
  go_enter Tryz.func44,Tryz.ntmps44
  go_wp2
  go_loopw [5,13] (fun _ v13 wr => ∃ k : Nat,k ≤ n1 ∧ v13 = I k ∧ Hid (l1.take k = l2.take k ∧ Below w.heap.size w wr)) (fun _ v13 _ => n1 - (intOf v13).toNat)
  case atStart => exact ⟨0,by omega,rfl,by simp,Below.refl _ _⟩
  case round =>
   obtain ⟨k,hk,rfl,HJ⟩ := hrel
   by_cases hlt : k < n1
   ·have hltI : (k : Int) < n1 := by omega
    have hk1 : k < l1.length := by rw [← hn1.out]; exact hlt
    have hk2 : k < l2.length := by rw [← hn2.out]; exact hlt
    obtain ⟨g1,o1,e1,q0,q1,q2⟩ := atCt H1.out hk1 HJ.out.2
    obtain ⟨g2,o2,e2,r0,r1,r2⟩ := atCt H2.out hk2 HJ.out.2
    have e1' : a1 = some ⟨g1,o1,none⟩ := e1
    have e2' : a2 = some ⟨g2,o2,none⟩ := e2
    clear e1 e2
    subst e1' e2'
    have hN := fun W => qld W l1[k] l2[k]
    by_cases hx : l1[k].max = l2[k].max ∧ l1[k].base = l2[k].base ∧ l1[k].min = l2[k].min
    ·have HT : Hid (l1.take (k + 1) = l2.take (k + 1) ∧ Below w.heap.size w wr) := ⟨qcm hk1 hk2 HJ.out.1 (qoe hx),HJ.out.2⟩
     rw [decide_eq_true hx] at hN
     clear HJ hx
     generalize l1[k] = x at *
     generalize l2[k] = y at *
     clear hk1 hk2
     go_upto_region 6 with fail
     go_region_held_law (fun W => W.cell? ⟨g1,o1 + k * 3,none⟩ = some (.int .u32 (x.max : Int)) ∧ W.cell? ⟨g1,o1 + k * 3 + 1,none⟩ = some (.int .u32 (x.base : Int)) ∧ W.cell? ⟨g1,o1 + k * 3 + 2,none⟩ = some (.int .u32 (x.min : Int)) ∧ W.cell? ⟨g2,o2 + k * 3,none⟩ = some (.int .u32 (y.max : Int)) ∧ W.cell? ⟨g2,o2 + k * 3 + 1,none⟩ = some (.int .u32 (y.base : Int)) ∧ W.cell? ⟨g2,o2 + k * 3 + 2,none⟩ = some (.int .u32 (y.min : Int))) (first | exact ⟨q0,q1,q2,r0,r1,r2⟩ | (go_keep; done)) (fail)
     go_wp2
     go_roundw
     case rel => exact ⟨k + 1,by omega,by go_num,HT.out.1,HT.out.2.drew⟩
     case measure => simp [intOf]; omega
    ·have HN : Hid (¬ l1 = l2 ∧ Below w.heap.size w wr) := ⟨fun e => hx (by subst e; simp),HJ.out.2⟩
     rw [decide_eq_false hx] at hN
     clear HJ hx
     generalize l1[k] = x at *
     generalize l2[k] = y at *
     clear hk1 hk2
     go_upto_region 6 with fail
     go_region_held_law (fun W => W.cell? ⟨g1,o1 + k * 3,none⟩ = some (.int .u32 (x.max : Int)) ∧ W.cell? ⟨g1,o1 + k * 3 + 1,none⟩ = some (.int .u32 (x.base : Int)) ∧ W.cell? ⟨g1,o1 + k * 3 + 2,none⟩ = some (.int .u32 (x.min : Int)) ∧ W.cell? ⟨g2,o2 + k * 3,none⟩ = some (.int .u32 (y.max : Int)) ∧ W.cell? ⟨g2,o2 + k * 3 + 1,none⟩ = some (.int .u32 (y.base : Int)) ∧ W.cell? ⟨g2,o2 + k * 3 + 2,none⟩ = some (.int .u32 (y.min : Int))) (first | exact ⟨q0,q1,q2,r0,r1,r2⟩ | (go_keep; done)) (fail)
     go_wp2
     go_ret
     exact ⟨⟨false,rfl,by simp [HN.out.1]⟩,HN.out.2.drew⟩
   ·obtain rfl : k = n1 := by omega
    have hge : ¬ ((k : Int) < k) := by omega
    have HE : Hid (l1 = l2 ∧ Below w.heap.size w wr) := ⟨by have := HJ.out.1; rwa [show l1.take k = l1 by rw [hn1.out]; exact List.take_length,show l2.take k = l2 by rw [hn2.out]; exact List.take_length] at this,HJ.out.2⟩
    clear HJ
    go_wp2
    go_ret
    exact ⟨⟨true,rfl,by simp [HE.out.1]⟩,HE.out.2⟩
 ·have hlI : ¬ ((n1 : Int) = n2) := by omega
  have HN : Hid (¬ l1 = l2) := fun e => hl (by rw [hn1.out,hn2.out,e])
  go_enter Tryz.func44,Tryz.ntmps44
  go_wp2
  go_ret
  exact ⟨⟨false,rfl,by simp [HN.out]⟩,Below.refl _ _⟩
end Go.Proofs.YtijgopkhdjaolaaGreat
