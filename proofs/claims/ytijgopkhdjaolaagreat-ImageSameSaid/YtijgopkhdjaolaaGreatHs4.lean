import Derived.Test.YtijgopkhdjaolaaGreatHs1
import Derived.Test.YtijgopkhdjaolaaGreatXHs3
import Derived.Test.YtijgopkhdjaolaaGreatXTgz
import Derived.Deep.RegionHeldLaw
import Derived.Deep.RegionHeld3
import Derived.Recover
import Derived.Defers
import Derived.Tactics2
namespace Go.Proofs.YtijgopkhdjaolaaGreat
open Go.RowKit Go.Shelf Go.Sort
open Go.Proofs.YtijgopkhdjaolaaGreat.Ob (leB leV qac qam crc Rd RdAll qad Rdr)
set_option linter.unusedSimpArgs false
set_option linter.unusedVariables false
set_option maxHeartbeats 16000000
set_option maxRecDepth 100000
theorem qot (v : Value) (xT : TypeId) (w : World) : (Instr.typeAssert (.iface 145 v) xT 145 true).run Tryz.prog w = .ok (.tuple #[v, .bool true]) w := by kernel_rfl
theorem qae {g a : Nat} {u W : World} {i : Nat} {v : Value} (h : Below a u W) (hg : a ≤ g) : Below a u (W.setCell ⟨g,i,none⟩ v) :=
 ⟨h.os,h.tape,h.output,by simpa using h.size,fun b hb => (heap_setCell_other W ⟨g,i,none⟩ b v (by show b ≠ g; omega)).trans (h.block b hb)⟩
theorem qiu (w : World) (c : Nat) : Calls Tryz.prog 35 #[.iface 145 (.agg #[I c])] w fun e w' => e = .returned (I c) ∧ Below w.heap.size w w' := by
 have hta : ∀ (xT : TypeId) (W : World),(Instr.typeAssert (.iface 145 (.agg #[I c])) xT 145 true).run Tryz.prog W = .ok (.tuple #[.agg #[I c], .bool true]) W := fun xT W => qot _ xT W
 go_enter Tryz.func35,Tryz.ntmps35
 go_wp2
 go_ret
 exact ⟨rfl,qa0 w _⟩
theorem qd1 (bt be : Nat) (w : World) :
  CallsD Tryz.prog 34 #[.pointer (some ⟨bt,0,none⟩), .pointer (some ⟨be,0,none⟩)] .returning w fun e u' w' => e = .returned (.tuple #[]) ∧ u' = .returning ∧ w' = w := by
 refine callsD_of_wpS Tryz.func34 rfl fun c₀ cs hu => ?_
 apply wpS_seq
 apply wpS_region
 simp [wpOpsS,go_sem,recoverD,hu,Tryz.ntmps34,Exit.thenS]
 refine wpS_of_wp ?_
 show Code.wp _ _ _ { tmps := #[.pointer (some ⟨bt,0,none⟩), .pointer (some ⟨be,0,none⟩), .nilIface, .nilIface,undef,undef,undef,undef,undef],defers := [] } w
 go_wp2
 cases c₀
 simp_all [bodyPostS,results,Tryz.results34]
theorem qhd (bt be c : Nat) {z0 z1 z2 z3 z4 z5 z6 z7 z8 z9 z10 z11 z12 ze : Value} (older : List PanicEntry) (w : World) (hbt : w.heap[bt]? = some (.cells #[z0,z1,z2,z3,z4,z5,z6,z7,z8,z9,z10,z11,z12] 30)) (hbe : w.heap[be]? = some (.cells #[ze] 32)) (hne : bt ≠ be) (base : Nat) (h1 : base ≤ bt) (h2 : base ≤ be) (h3 : base ≤ w.heap.size) :
  CallsD Tryz.prog 34 #[.pointer (some ⟨bt,0,none⟩), .pointer (some ⟨be,0,none⟩)] (.panicking ({ v := .iface 145 (.agg #[I c]),recovered := false } :: older)) w fun e u' w' =>
   e = .returned (.tuple #[]) ∧ u' = .panicking ({ v := .iface 145 (.agg #[I c]),recovered := true } :: older) ∧ Below base w w' ∧ w'.heap[bt]? = some (.cells #[I 0,I 0, .slice none 0 0, .slice none 0 0, .slice none 0 0, .slice none 0 0, .slice none 0 0, .slice none 0 0, .slice none 0 0,I 0,I 0,I 0,I 0] 30) ∧ w'.heap[be]? = some (.cells #[I c] 32) := by
 have cf := qiu w c
 refine callsD_of_wpS Tryz.func34 rfl fun c₀ cs hu => ?_
 apply wpS_seq
 apply wpS_region
 simp [wpOpsS,go_sem,recoverD,hu,Tryz.ntmps34,Exit.thenS]
 refine wpS_of_wp ?_
 show Code.wp _ _ _ { tmps := #[.pointer (some ⟨bt,0,none⟩), .pointer (some ⟨be,0,none⟩), .iface 145 (.agg #[I c]), .iface 145 (.agg #[I c]),undef,undef,undef,undef,undef],defers := [] } w
 go_wp2_with fail
 refine cf.mono ?_
 rintro e w1 ⟨rfl,hb1⟩
 have hbt1 := (hb1.block _ (qa4 hbt)).trans hbt
 have hbe1 := (hb1.block _ (qa4 hbe)).trans hbe
 obtain ⟨⟨j0,cj0,fj0⟩,⟨j1,cj1,fj1⟩,⟨j2,cj2,fj2⟩,⟨j3,cj3,fj3⟩,⟨j4,cj4,fj4⟩,⟨j5,cj5,fj5⟩,⟨j6,cj6,fj6⟩,⟨j7,cj7,fj7⟩,⟨j8,cj8,fj8⟩,⟨j9,cj9,fj9⟩,⟨j10,cj10,fj10⟩,⟨j11,cj11,fj11⟩,⟨j12,cj12,fj12⟩,k13⟩ := qd0 (I 0) (I 0) (.slice none 0 0) (.slice none 0 0) (.slice none 0 0) (.slice none 0 0) (.slice none 0 0) (.slice none 0 0) (.slice none 0 0) (I 0) (I 0) (I 0) (I 0) hbt1
 have hb2 : Below base w ((((((((((((((w1).setCell ⟨bt,0,none⟩ (I 0)).setCell ⟨bt,1,none⟩ (I 0)).setCell ⟨bt,2,none⟩ (.slice none 0 0)).setCell ⟨bt,3,none⟩ (.slice none 0 0)).setCell ⟨bt,4,none⟩ (.slice none 0 0)).setCell ⟨bt,5,none⟩ (.slice none 0 0)).setCell ⟨bt,6,none⟩ (.slice none 0 0)).setCell ⟨bt,7,none⟩ (.slice none 0 0)).setCell ⟨bt,8,none⟩ (.slice none 0 0)).setCell ⟨bt,9,none⟩ (I 0)).setCell ⟨bt,10,none⟩ (I 0)).setCell ⟨bt,11,none⟩ (I 0)).setCell ⟨bt,12,none⟩ (I 0)) := qae (qae (qae (qae (qae (qae (qae (qae (qae (qae (qae (qae (qae (hb1.mono h3) h1) h1) h1) h1) h1) h1) h1) h1) h1) h1) h1) h1) h1
 have hbe2 : ((((((((((((((w1).setCell ⟨bt,0,none⟩ (I 0)).setCell ⟨bt,1,none⟩ (I 0)).setCell ⟨bt,2,none⟩ (.slice none 0 0)).setCell ⟨bt,3,none⟩ (.slice none 0 0)).setCell ⟨bt,4,none⟩ (.slice none 0 0)).setCell ⟨bt,5,none⟩ (.slice none 0 0)).setCell ⟨bt,6,none⟩ (.slice none 0 0)).setCell ⟨bt,7,none⟩ (.slice none 0 0)).setCell ⟨bt,8,none⟩ (.slice none 0 0)).setCell ⟨bt,9,none⟩ (I 0)).setCell ⟨bt,10,none⟩ (I 0)).setCell ⟨bt,11,none⟩ (I 0)).setCell ⟨bt,12,none⟩ (I 0)).heap[be]? = some (.cells #[ze] 32) := by
  repeat rw [heap_setCell_other _ _ be _ (fun e => hne (by exact e.symm))]
  exact hbe1
 have ce : ((((((((((((((w1).setCell ⟨bt,0,none⟩ (I 0)).setCell ⟨bt,1,none⟩ (I 0)).setCell ⟨bt,2,none⟩ (.slice none 0 0)).setCell ⟨bt,3,none⟩ (.slice none 0 0)).setCell ⟨bt,4,none⟩ (.slice none 0 0)).setCell ⟨bt,5,none⟩ (.slice none 0 0)).setCell ⟨bt,6,none⟩ (.slice none 0 0)).setCell ⟨bt,7,none⟩ (.slice none 0 0)).setCell ⟨bt,8,none⟩ (.slice none 0 0)).setCell ⟨bt,9,none⟩ (I 0)).setCell ⟨bt,10,none⟩ (I 0)).setCell ⟨bt,11,none⟩ (I 0)).setCell ⟨bt,12,none⟩ (I 0)).cell? ⟨be,0,none⟩ = some ze := by rw [cell_of_row _ _ _ _ _ (0,0) hbe2]; rfl
 have fe : ((((((((((((((w1).setCell ⟨bt,0,none⟩ (I 0)).setCell ⟨bt,1,none⟩ (I 0)).setCell ⟨bt,2,none⟩ (.slice none 0 0)).setCell ⟨bt,3,none⟩ (.slice none 0 0)).setCell ⟨bt,4,none⟩ (.slice none 0 0)).setCell ⟨bt,5,none⟩ (.slice none 0 0)).setCell ⟨bt,6,none⟩ (.slice none 0 0)).setCell ⟨bt,7,none⟩ (.slice none 0 0)).setCell ⟨bt,8,none⟩ (.slice none 0 0)).setCell ⟨bt,9,none⟩ (I 0)).setCell ⟨bt,10,none⟩ (I 0)).setCell ⟨bt,11,none⟩ (I 0)).setCell ⟨bt,12,none⟩ (I 0)).frozen? ⟨be,0,none⟩ = false := frozen_of_row _ _ _ _ _ hbe2
 have hbe3 := heap_setCell_same ((((((((((((((w1).setCell ⟨bt,0,none⟩ (I 0)).setCell ⟨bt,1,none⟩ (I 0)).setCell ⟨bt,2,none⟩ (.slice none 0 0)).setCell ⟨bt,3,none⟩ (.slice none 0 0)).setCell ⟨bt,4,none⟩ (.slice none 0 0)).setCell ⟨bt,5,none⟩ (.slice none 0 0)).setCell ⟨bt,6,none⟩ (.slice none 0 0)).setCell ⟨bt,7,none⟩ (.slice none 0 0)).setCell ⟨bt,8,none⟩ (.slice none 0 0)).setCell ⟨bt,9,none⟩ (I 0)).setCell ⟨bt,10,none⟩ (I 0)).setCell ⟨bt,11,none⟩ (I 0)).setCell ⟨bt,12,none⟩ (I 0)) be 0 _ _ (I c) hbe2
 have hbt3 := (heap_setCell_other ((((((((((((((w1).setCell ⟨bt,0,none⟩ (I 0)).setCell ⟨bt,1,none⟩ (I 0)).setCell ⟨bt,2,none⟩ (.slice none 0 0)).setCell ⟨bt,3,none⟩ (.slice none 0 0)).setCell ⟨bt,4,none⟩ (.slice none 0 0)).setCell ⟨bt,5,none⟩ (.slice none 0 0)).setCell ⟨bt,6,none⟩ (.slice none 0 0)).setCell ⟨bt,7,none⟩ (.slice none 0 0)).setCell ⟨bt,8,none⟩ (.slice none 0 0)).setCell ⟨bt,9,none⟩ (I 0)).setCell ⟨bt,10,none⟩ (I 0)).setCell ⟨bt,11,none⟩ (I 0)).setCell ⟨bt,12,none⟩ (I 0)) ⟨be,0,none⟩ bt (I c) hne).trans k13
 have hb3 : Below base w (((((((((((((((w1).setCell ⟨bt,0,none⟩ (I 0)).setCell ⟨bt,1,none⟩ (I 0)).setCell ⟨bt,2,none⟩ (.slice none 0 0)).setCell ⟨bt,3,none⟩ (.slice none 0 0)).setCell ⟨bt,4,none⟩ (.slice none 0 0)).setCell ⟨bt,5,none⟩ (.slice none 0 0)).setCell ⟨bt,6,none⟩ (.slice none 0 0)).setCell ⟨bt,7,none⟩ (.slice none 0 0)).setCell ⟨bt,8,none⟩ (.slice none 0 0)).setCell ⟨bt,9,none⟩ (I 0)).setCell ⟨bt,10,none⟩ (I 0)).setCell ⟨bt,11,none⟩ (I 0)).setCell ⟨bt,12,none⟩ (I 0)).setCell ⟨be,0,none⟩ (I c)) := qae hb2 h2
 have HF : Hid (Below base w (((((((((((((((w1).setCell ⟨bt,0,none⟩ (I 0)).setCell ⟨bt,1,none⟩ (I 0)).setCell ⟨bt,2,none⟩ (.slice none 0 0)).setCell ⟨bt,3,none⟩ (.slice none 0 0)).setCell ⟨bt,4,none⟩ (.slice none 0 0)).setCell ⟨bt,5,none⟩ (.slice none 0 0)).setCell ⟨bt,6,none⟩ (.slice none 0 0)).setCell ⟨bt,7,none⟩ (.slice none 0 0)).setCell ⟨bt,8,none⟩ (.slice none 0 0)).setCell ⟨bt,9,none⟩ (I 0)).setCell ⟨bt,10,none⟩ (I 0)).setCell ⟨bt,11,none⟩ (I 0)).setCell ⟨bt,12,none⟩ (I 0)).setCell ⟨be,0,none⟩ (I c)) ∧ (((((((((((((((w1).setCell ⟨bt,0,none⟩ (I 0)).setCell ⟨bt,1,none⟩ (I 0)).setCell ⟨bt,2,none⟩ (.slice none 0 0)).setCell ⟨bt,3,none⟩ (.slice none 0 0)).setCell ⟨bt,4,none⟩ (.slice none 0 0)).setCell ⟨bt,5,none⟩ (.slice none 0 0)).setCell ⟨bt,6,none⟩ (.slice none 0 0)).setCell ⟨bt,7,none⟩ (.slice none 0 0)).setCell ⟨bt,8,none⟩ (.slice none 0 0)).setCell ⟨bt,9,none⟩ (I 0)).setCell ⟨bt,10,none⟩ (I 0)).setCell ⟨bt,11,none⟩ (I 0)).setCell ⟨bt,12,none⟩ (I 0)).setCell ⟨be,0,none⟩ (I c)).heap[bt]? = some (.cells #[I 0,I 0, .slice none 0 0, .slice none 0 0, .slice none 0 0, .slice none 0 0, .slice none 0 0, .slice none 0 0, .slice none 0 0,I 0,I 0,I 0,I 0] 30) ∧ (((((((((((((((w1).setCell ⟨bt,0,none⟩ (I 0)).setCell ⟨bt,1,none⟩ (I 0)).setCell ⟨bt,2,none⟩ (.slice none 0 0)).setCell ⟨bt,3,none⟩ (.slice none 0 0)).setCell ⟨bt,4,none⟩ (.slice none 0 0)).setCell ⟨bt,5,none⟩ (.slice none 0 0)).setCell ⟨bt,6,none⟩ (.slice none 0 0)).setCell ⟨bt,7,none⟩ (.slice none 0 0)).setCell ⟨bt,8,none⟩ (.slice none 0 0)).setCell ⟨bt,9,none⟩ (I 0)).setCell ⟨bt,10,none⟩ (I 0)).setCell ⟨bt,11,none⟩ (I 0)).setCell ⟨bt,12,none⟩ (I 0)).setCell ⟨be,0,none⟩ (I c)).heap[be]? = some (.cells #[I c] 32)) := ⟨hb3,hbt3,hbe3⟩
 clear cf hbt hbe hbt1 hbe1 hb2 hbe2 hbe3 hbt3 hb3 j0 j1 j2 j3 j4 j5 j6 j7 j8 j9 j10 j11 j12 k13 hb1
 go_wp2
 simp [bodyPostS,results,Tryz.results34]
 exact HF.out
def zT : Array Value := #[I 0,I 0, .slice none 0 0, .slice none 0 0, .slice none 0 0, .slice none 0 0, .slice none 0 0, .slice none 0 0, .slice none 0 0,I 0,I 0,I 0,I 0]
def DP (w : World) (m : Except Nat Tb) (e : Ending) (w' : World) : Prop := match m with
 | .ok tb => ∃ v lo,w.heap.size ≤ lo ∧ e = .returned (.tuple #[.agg (tbC tb v),I 0]) ∧ TbO w' lo tb v ∧ Below w.heap.size w w'
 | .error c => e = .returned (.tuple #[.agg zT,I c]) ∧ Below w.heap.size w w'
theorem qlg {tb : Tb} (h : okTb tb) : WfT tb := by
 refine ⟨fun x hx => ?_,fun x hx => ?_,fun x hx => ?_,fun x hx => ?_⟩
 ·obtain ⟨-, -, -,h1, -, -,h2⟩ := h.r0 x hx
  exact ⟨h1,Nat.lt_of_lt_of_le h2 (by decide)⟩
 ·exact h.r3 x hx
 ·obtain ⟨-,⟨-, -,h1⟩,h2,h3,h4⟩ := h.r4 x hx
  exact ⟨h1,Nat.lt_of_lt_of_le h2 (by decide),h3,h4⟩
 ·obtain ⟨-, -, -,h1, -, -, -,h2⟩ := h.r6 x hx
  exact ⟨h1,h2⟩
theorem TbO.setY {W : World} {lo Y i : Nat} {tb : Tb} {v : Ts} {y : Value} {cs : Array Value} (h : TbO W lo tb v) (hY : W.heap[Y]? = some (.cells cs 30)) : TbO (W.setCell ⟨Y,i,none⟩ y) lo tb v :=
 ⟨qau h.t hY,qav h.g hY,qaw h.r hY,qax h.k hY,qb1 h.a hY,qb3 h.i hY,qb5 h.s hY⟩
theorem TbO.setE {W : World} {lo Y i : Nat} {tb : Tb} {v : Ts} {y : Value} {cs : Array Value} (h : TbO W lo tb v) (hY : W.heap[Y]? = some (.cells cs 32)) : TbO (W.setCell ⟨Y,i,none⟩ y) lo tb v := by
 obtain ⟨⟨a1,a2,a3,a4,a5,a6⟩,⟨b1,b2,b3,b4,b5,b6⟩,⟨c1,c2,c3,c4,c5,c6⟩,⟨d1,d2,d3,d4,d5,d6⟩,⟨e1,e2,e3,e4,e5,e6⟩,⟨f1,f2,f3,f4,f5,f6⟩,⟨g1,g2,g3,g4,g5,g6⟩⟩ := h
 exact ⟨⟨a1,a2,a3,a4,qah a5 hY (by decide),RwX.mono a6 (fun _ _ _ q => qei q hY (by decide))⟩,⟨b1,b2,b3,b4,qah b5 hY (by decide),b6⟩,⟨c1,c2,c3,c4,qah c5 hY (by decide),c6⟩,⟨d1,d2,d3,d4,qah d5 hY (by decide),d6⟩,⟨e1,e2,e3,e4,qah e5 hY (by decide),e6⟩,⟨f1,f2,f3,f4,qah f5 hY (by decide),RwX.mono f6 (fun _ _ _ q => qej q hY (by decide))⟩,⟨g1,g2,g3,g4,qah g5 hY (by decide),g6⟩⟩
theorem qmg {bs : List UInt8} (h : outE bs ≠ 0) : dec bs = .error (outE bs) := by
 unfold outE at h ⊢
 unfold dec
 split
 ·rfl
 ·rename_i h1
  rw [if_neg h1] at h
  split
  ·rfl
  ·rename_i h2
   rw [if_neg h2] at h
   split
   ·rfl
   ·rename_i h3
    rw [if_neg h3] at h
    exact absurd rfl h
theorem qnn {bs : List UInt8} (h : outE bs = 0) : 30 ≤ bs.length ∧ dec bs = match pMid ((bs.drop 8).take (bs.length - 10)) with
  | .error e => .error e
  | .ok (tb,r) => if r ≠ [] then .error 101 else if chkP tb = true then .ok tb else .error 90 := by
 unfold outE at h
 unfold dec
 split at h
 ·cases h
 ·rename_i h1
  rw [if_neg h1]
  split at h
  ·cases h
  ·rename_i h2
   rw [if_neg h2]
   split at h
   ·cases h
   ·rename_i h3
    rw [if_neg h3]
    exact ⟨by omega,rfl⟩
theorem qdj {fn : Func} {m q : Nat} (hf : fn.results = #[.cell m 30, .cell q 32]) (tmps : Array Value) (b d : Nat) (w : World) (z0 z1 z2 z3 z4 z5 z6 z7 z8 z9 z10 z11 z12 u : Value) (h2 : tmps[m]? = some (.pointer (some ⟨b,0,none⟩))) (h3 : tmps[q]? = some (.pointer (some ⟨d,0,none⟩))) (hk : w.heap[b]? = some (.cells #[z0,z1,z2,z3,z4,z5,z6,z7,z8,z9,z10,z11,z12] 30)) (hj : w.heap[d]? = some (.cells #[u] 32)) : (results fn tmps).run Tryz.prog w = .ok (.tuple #[.agg #[z0,z1,z2,z3,z4,z5,z6,z7,z8,z9,z10,z11,z12],u]) w := by
 have a1 := fun i => cell_of_row w b i _ _ (0,0) hk
 have a2 := fun i => cell_of_row w d i _ _ (0,0) hj
 have y0 := a1 0
 have y1 := a1 1
 have y2 := a1 2
 have y3 := a1 3
 have y4 := a1 4
 have y5 := a1 5
 have y6 := a1 6
 have y7 := a1 7
 have y8 := a1 8
 have y9 := a1 9
 have y10 := a1 10
 have y11 := a1 11
 have y12 := a1 12
 have y := a2 0
 simp at y0 y1 y2 y3 y4 y5 y6 y7 y8 y9 y10 y11 y12 y
 simp [results,hf,go_sem,h2,h3,y0,y1,y2,y3,y4,y5,y6,y7,y8,y9,y10,y11,y12,y]
theorem qdq {w : World} {a : Option Addr} {n c : Nat} {bs : List UInt8} (h : Rd w a n c bs) : Calls Tryz.prog 15 #[.slice a n c] w fun e w' => DP w (dec bs) e w' := by
 have hmf : ∀ (fn : Fn) (first cap : Array Value) (w : World),(Instr.makeFunc fn first cap).run Tryz.prog w = .ok (.func fn first cap) w := fun _ _ _ _ => rfl
 have hb2 := belT (qa0 w (.cells #[I 0,I 0, .slice none 0 0, .slice none 0 0, .slice none 0 0, .slice none 0 0, .slice none 0 0, .slice none 0 0, .slice none 0 0,I 0,I 0,I 0,I 0] 30)) (qa0 (w.alloc (.cells #[I 0,I 0, .slice none 0 0, .slice none 0 0, .slice none 0 0, .slice none 0 0, .slice none 0 0, .slice none 0 0, .slice none 0 0,I 0,I 0,I 0,I 0] 30)) (.cells #[I 0] 32))
 have hY2 := ((qa0 (w.alloc (.cells #[I 0,I 0, .slice none 0 0, .slice none 0 0, .slice none 0 0, .slice none 0 0, .slice none 0 0, .slice none 0 0, .slice none 0 0,I 0,I 0,I 0,I 0] 30)) (.cells #[I 0] 32)).block _ (qa4 (heap_alloc_new w (.cells #[I 0,I 0, .slice none 0 0, .slice none 0 0, .slice none 0 0, .slice none 0 0, .slice none 0 0, .slice none 0 0, .slice none 0 0,I 0,I 0,I 0,I 0] 30)))).trans (heap_alloc_new w (.cells #[I 0,I 0, .slice none 0 0, .slice none 0 0, .slice none 0 0, .slice none 0 0, .slice none 0 0, .slice none 0 0, .slice none 0 0,I 0,I 0,I 0,I 0] 30))
 have hE2 := heap_alloc_new (w.alloc (.cells #[I 0,I 0, .slice none 0 0, .slice none 0 0, .slice none 0 0, .slice none 0 0, .slice none 0 0, .slice none 0 0, .slice none 0 0,I 0,I 0,I 0,I 0] 30)) (.cells #[I 0] 32)
 rw [show (w.alloc (.cells #[I 0,I 0, .slice none 0 0, .slice none 0 0, .slice none 0 0, .slice none 0 0, .slice none 0 0, .slice none 0 0, .slice none 0 0,I 0,I 0,I 0,I 0] 30)).heap.size = w.heap.size + 1 by simp] at hE2
 obtain ⟨D,hD⟩ : ∃ D,D = dec bs := ⟨_,rfl⟩
 rw [← hD]
 have HD : Hid (D = dec bs) := hD
 clear hD
 go_enter_defers Tryz.func15,Tryz.ntmps15
 go_wp2_with fail
 generalize (w.alloc (.cells #[I 0,I 0, .slice none 0 0, .slice none 0 0, .slice none 0 0, .slice none 0 0, .slice none 0 0, .slice none 0 0, .slice none 0 0,I 0,I 0,I 0,I 0] 30)).alloc (.cells #[I 0] 32) = w2 at *
 have hl := h.hlen
 have ho := qhc (h.below hb2)
 refine ho.mono ?_
 clear ho
 rintro e w3 ⟨rfl,hb3⟩
 have hY3 := (hb3.block _ (qa4 hY2)).trans hY2
 have hE3 := (hb3.block _ (qa4 hE2)).trans hE2
 have hbw := belT hb2 hb3
 have ce : w3.cell? ⟨w.heap.size + 1,0,none⟩ = some (I 0) := by rw [cell_of_row _ _ _ _ _ (0,0) hE3]; rfl
 have fe : w3.frozen? ⟨w.heap.size + 1,0,none⟩ = false := frozen_of_row _ _ _ _ _ hE3
 have hE4 := heap_setCell_same w3 (w.heap.size + 1) 0 _ _ (I (outE bs)) hE3
 have hY4 := (heap_setCell_other w3 ⟨w.heap.size + 1,0,none⟩ w.heap.size (I (outE bs)) (by show w.heap.size ≠ w.heap.size + 1; omega)).trans hY3
 have hb4 : Below w.heap.size w (w3.setCell ⟨w.heap.size + 1,0,none⟩ (I (outE bs))) := qae hbw (by omega)
 have hr4 := h.below hb4
 by_cases hc0 : outE bs = 0
 case neg =>
  have HZ : Hid (D = .error (outE bs)) := HD.out.trans (qmg hc0)
  have hc1 : ((outE bs : Int) == 0) = false := by rw [beq_eq_false_iff_ne]; omega
  have hbn : ((outE bs : Int) != 0) = true := by simp [bne,hc1]
  generalize outE bs = k at *
  clear hc0 hY3 hE3 hb3 hY2 hE2 hb2 h
  go_wp2
  clear ce fe
  generalize w3.setCell ⟨w.heap.size + 1,0,none⟩ (I k) = w4 at *
  have hE5 : w4.drew.heap[w.heap.size + 1]? = some (.cells #[I k] 32) := hE4
  have hY5 : w4.drew.heap[w.heap.size]? = some (.cells #[I 0,I 0, .slice none 0 0, .slice none 0 0, .slice none 0 0, .slice none 0 0, .slice none 0 0, .slice none 0 0, .slice none 0 0,I 0,I 0,I 0,I 0] 30) := hY4
  have hb5 : Below w.heap.size w w4.drew := hb4.drew
  refine wp_region_noPanic ?_
  have hcE : w4.drew.cell? ⟨w.heap.size + 1,0,none⟩ = some (I k) := by rw [cell_of_row _ _ _ _ _ (0,0) hE5]; rfl
  refine wp_region_held_drew (S := fun W => W.cell? ⟨w.heap.size + 1,0,none⟩ = some (I k)) (by kernel_rfl) hcE (fun hHeld => ?_)
  change wpAnyH _ _ _ _ _ _ #[false,false,false,false] _ _
  try simp only [Act.put,q7a,q7b,q7c,q7d,q7e,q7f]
  refine wpAnyH_take (i := 0) (v := .agg #[I 0,I 0, .slice none 0 0, .slice none 0 0, .slice none 0 0, .slice none 0 0, .slice none 0 0, .slice none 0 0, .slice none 0 0,I 0,I 0,I 0,I 0]) rfl (by kernel_rfl) (by kernel_rfl) (by kernel_rfl) (fun _ _ _ h => h) (Or.inl ⟨by rfl, ?_⟩) hHeld ?_
  ·intro w' hSw
   go_simp
  try simp only [Act.put,q7a,q7b,q7c,q7d,q7e,q7f]
  refine wpAnyH_take (i := 1) (v := I k) rfl (by kernel_rfl) (by kernel_rfl) (by kernel_rfl) (fun _ _ _ h => h) (Or.inl ⟨by rfl, ?_⟩) hHeld ?_
  ·intro w' hSw
   try dsimp only at hSw
   clear hHeld
   go_simp
  try simp only [Act.put,q7a,q7b,q7c,q7d,q7e,q7f]
  clear hHeld hE4 hY4 hb4
  generalize w4.drew = w5 at *
  obtain ⟨⟨j0,cj0,fj0⟩,⟨j1,cj1,fj1⟩,⟨j2,cj2,fj2⟩,⟨j3,cj3,fj3⟩,⟨j4,cj4,fj4⟩,⟨j5,cj5,fj5⟩,⟨j6,cj6,fj6⟩,⟨j7,cj7,fj7⟩,⟨j8,cj8,fj8⟩,⟨j9,cj9,fj9⟩,⟨j10,cj10,fj10⟩,⟨j11,cj11,fj11⟩,⟨j12,cj12,fj12⟩,k13⟩ := qd0 (I 0) (I 0) (.slice none 0 0) (.slice none 0 0) (.slice none 0 0) (.slice none 0 0) (.slice none 0 0) (.slice none 0 0) (.slice none 0 0) (I 0) (I 0) (I 0) (I 0) hY5
  refine wpAnyH_ready (rs := [2]) (by kernel_rfl) (by simp) ?_
  refine AllReadyH.cons rfl (fun K hK => ?_) AllReadyH.nil
  go_simp
  have hb6 : Below w.heap.size w ((((((((((((((w5).setCell ⟨w.heap.size,0,none⟩ (I 0)).setCell ⟨w.heap.size,1,none⟩ (I 0)).setCell ⟨w.heap.size,2,none⟩ (.slice none 0 0)).setCell ⟨w.heap.size,3,none⟩ (.slice none 0 0)).setCell ⟨w.heap.size,4,none⟩ (.slice none 0 0)).setCell ⟨w.heap.size,5,none⟩ (.slice none 0 0)).setCell ⟨w.heap.size,6,none⟩ (.slice none 0 0)).setCell ⟨w.heap.size,7,none⟩ (.slice none 0 0)).setCell ⟨w.heap.size,8,none⟩ (.slice none 0 0)).setCell ⟨w.heap.size,9,none⟩ (I 0)).setCell ⟨w.heap.size,10,none⟩ (I 0)).setCell ⟨w.heap.size,11,none⟩ (I 0)).setCell ⟨w.heap.size,12,none⟩ (I 0)) := qae (qae (qae (qae (qae (qae (qae (qae (qae (qae (qae (qae (qae (hb5) (Nat.le_refl _)) (Nat.le_refl _)) (Nat.le_refl _)) (Nat.le_refl _)) (Nat.le_refl _)) (Nat.le_refl _)) (Nat.le_refl _)) (Nat.le_refl _)) (Nat.le_refl _)) (Nat.le_refl _)) (Nat.le_refl _)) (Nat.le_refl _)) (Nat.le_refl _)
  have hE6 : ((((((((((((((w5).setCell ⟨w.heap.size,0,none⟩ (I 0)).setCell ⟨w.heap.size,1,none⟩ (I 0)).setCell ⟨w.heap.size,2,none⟩ (.slice none 0 0)).setCell ⟨w.heap.size,3,none⟩ (.slice none 0 0)).setCell ⟨w.heap.size,4,none⟩ (.slice none 0 0)).setCell ⟨w.heap.size,5,none⟩ (.slice none 0 0)).setCell ⟨w.heap.size,6,none⟩ (.slice none 0 0)).setCell ⟨w.heap.size,7,none⟩ (.slice none 0 0)).setCell ⟨w.heap.size,8,none⟩ (.slice none 0 0)).setCell ⟨w.heap.size,9,none⟩ (I 0)).setCell ⟨w.heap.size,10,none⟩ (I 0)).setCell ⟨w.heap.size,11,none⟩ (I 0)).setCell ⟨w.heap.size,12,none⟩ (I 0)).heap[w.heap.size + 1]? = some (.cells #[I k] 32) := by
   repeat rw [heap_setCell_other _ _ (w.heap.size + 1) _ (by show w.heap.size + 1 ≠ w.heap.size; omega)]
   exact hE5
  have hc6 : ((((((((((((((w5).setCell ⟨w.heap.size,0,none⟩ (I 0)).setCell ⟨w.heap.size,1,none⟩ (I 0)).setCell ⟨w.heap.size,2,none⟩ (.slice none 0 0)).setCell ⟨w.heap.size,3,none⟩ (.slice none 0 0)).setCell ⟨w.heap.size,4,none⟩ (.slice none 0 0)).setCell ⟨w.heap.size,5,none⟩ (.slice none 0 0)).setCell ⟨w.heap.size,6,none⟩ (.slice none 0 0)).setCell ⟨w.heap.size,7,none⟩ (.slice none 0 0)).setCell ⟨w.heap.size,8,none⟩ (.slice none 0 0)).setCell ⟨w.heap.size,9,none⟩ (I 0)).setCell ⟨w.heap.size,10,none⟩ (I 0)).setCell ⟨w.heap.size,11,none⟩ (I 0)).setCell ⟨w.heap.size,12,none⟩ (I 0)).cell? ⟨w.heap.size + 1,0,none⟩ = some (I k) := by rw [cell_of_row _ _ _ _ _ (0,0) hE6]; rfl
  refine hK.out _ _ hc6 (fun hSS => ?_)
  clear hSS hK K j0 j1 j2 j3 j4 j5 j6 j7 j8 j9 j10 j11 j12 cj0 cj1 cj2 cj3 cj4 cj5 cj6 cj7 cj8 cj9 cj10 cj11 cj12 fj0 fj1 fj2 fj3 fj4 fj5 fj6 fj7 fj8 fj9 fj10 fj11 fj12 hY5 hE5 hb5 hcE
  try simp only [Act.put,q7a,q7b,q7c,q7d,q7e,q7f]
  generalize (((((((((((((w5).setCell ⟨w.heap.size,0,none⟩ (I 0)).setCell ⟨w.heap.size,1,none⟩ (I 0)).setCell ⟨w.heap.size,2,none⟩ (.slice none 0 0)).setCell ⟨w.heap.size,3,none⟩ (.slice none 0 0)).setCell ⟨w.heap.size,4,none⟩ (.slice none 0 0)).setCell ⟨w.heap.size,5,none⟩ (.slice none 0 0)).setCell ⟨w.heap.size,6,none⟩ (.slice none 0 0)).setCell ⟨w.heap.size,7,none⟩ (.slice none 0 0)).setCell ⟨w.heap.size,8,none⟩ (.slice none 0 0)).setCell ⟨w.heap.size,9,none⟩ (I 0)).setCell ⟨w.heap.size,10,none⟩ (I 0)).setCell ⟨w.heap.size,11,none⟩ (I 0)).setCell ⟨w.heap.size,12,none⟩ (I 0) = w6 at *
  refine wpAnyH_ready (rs := [3]) (by kernel_rfl) (by simp) ?_
  refine AllReadyH.cons rfl (fun K hK => ?_) AllReadyH.nil
  have f6 : w6.frozen? ⟨w.heap.size + 1,0,none⟩ = false := frozen_of_row _ _ _ _ _ hE6
  go_simp
  have hE7 := heap_setCell_same w6 (w.heap.size + 1) 0 _ _ (I k) hE6
  have hY7 := (heap_setCell_other w6 ⟨w.heap.size + 1,0,none⟩ w.heap.size (I k) (by show w.heap.size ≠ w.heap.size + 1; omega)).trans k13
  have hb7 : Below w.heap.size w (w6.setCell ⟨w.heap.size + 1,0,none⟩ (I k)) := qae hb6 (by omega)
  refine hK.out _ _ (by rw [cell_of_row _ _ _ _ _ (0,0) hE7]; rfl) (fun hSS => ?_)
  clear hSS hK K
  try simp only [Act.put,q7a,q7b,q7c,q7d,q7e,q7f]
  refine wpAnyH_done (by kernel_rfl) ?_ _
  refine NoPanic.normal ?_
  clear f6 hc6 hE6 hb6 k13
  generalize w6.setCell ⟨w.heap.size + 1,0,none⟩ (I k) = w7 at *
  go_wp2
  refine leaves_cons (f := 34) (args := #[.pointer (some ⟨w.heap.size,0,none⟩), .pointer (some ⟨w.heap.size + 1,0,none⟩)]) (by simp) (by simp [go_sem]) ?_
  refine (qd1 w.heap.size (w.heap.size + 1) w7).mono ?_
  rintro e u' w9 ⟨rfl,rfl,rfl⟩
  show Leaves _ _ _ _ [] (settle _) w9
  rw [HZ.out]
  exact ⟨_,qdj Tryz.results15 _ w.heap.size (w.heap.size + 1) _ _ _ _ _ _ _ _ _ _ _ _ _ _ _ rfl rfl hY7 hE7,rfl,hb7⟩
 obtain ⟨h30,hdec⟩ := qnn hc0
 rw [hl] at h30 hdec
 have HD2 : Hid (D = _) := HD.out.trans hdec
 obtain ⟨g,off,rfl,hg0, -⟩ := h.hcell (by omega)
 rw [hc0] at hE4 hY4 hb4 hr4
 have hrt := qfd hr4 (by omega)
 rw [hc0]
 have HRT : Hid _ := hrt
 have HYB : Hid ((w3.setCell ⟨w.heap.size + 1,0,none⟩ (I (0 : Nat))).heap[w.heap.size]? = some (.cells #[I 0,I 0, .slice none 0 0, .slice none 0 0, .slice none 0 0, .slice none 0 0, .slice none 0 0, .slice none 0 0, .slice none 0 0,I 0,I 0,I 0,I 0] 30) ∧ (w3.setCell ⟨w.heap.size + 1,0,none⟩ (I (0 : Nat))).heap[w.heap.size + 1]? = some (.cells #[I 0] 32) ∧ Below w.heap.size w (w3.setCell ⟨w.heap.size + 1,0,none⟩ (I (0 : Nat)))) := ⟨hY4,hE4,hb4⟩
 clear hc0 hY3 hE3 hb3 hY2 hE2 hb2 h hdec HD hrt hl h30 hg0 hY4 hE4 hb4 hr4 hbw
 go_wp2_with fail
 clear ce fe
 obtain ⟨hY4,hE4,hb4⟩ := HYB.out
 have hrt := HRT.out
 clear HYB HRT
 generalize w3.setCell ⟨w.heap.size + 1,0,none⟩ (I (0 : Nat)) = w4 at *
 have hE4 : w4.heap[w.heap.size + 1]? = some (.cells #[I 0] 32) := hE4
 have hE4l := qa4 hE4
 refine Calls.mono hrt ?_
 clear hrt
 intro e w5 hRT
 have FIN : ∀ c : Nat,Hid (D = .error c) → Below w4.heap.size w4 w5 → CallsD Tryz.prog 34 #[.pointer (some ⟨w.heap.size,0,none⟩), .pointer (some ⟨w.heap.size + 1,0,none⟩)] (.panicking [{ v := .iface 145 (.agg #[I c]),recovered := false }]) w5 fun e u' w' => e = .returned (.tuple #[]) ∧ u' = .panicking [{ v := .iface 145 (.agg #[I c]),recovered := true }] ∧ Below w.heap.size w w' ∧ w'.heap[w.heap.size]? = some (.cells #[I 0,I 0, .slice none 0 0, .slice none 0 0, .slice none 0 0, .slice none 0 0, .slice none 0 0, .slice none 0 0, .slice none 0 0,I 0,I 0,I 0,I 0] 30) ∧ w'.heap[w.heap.size + 1]? = some (.cells #[I c] 32) := fun c _ hb5 => by
  have hY5 := (hb5.block _ (qa4 hY4)).trans hY4
  have hE5 := (hb5.block _ (qa4 hE4)).trans hE4
  have hbb := belT hb4 hb5
  refine (qhd w.heap.size (w.heap.size + 1) c [] w5 hY5 hE5 (by omega) w.heap.size (Nat.le_refl _) (by omega) hbb.size).mono ?_
  rintro e u' w9 ⟨rfl,rfl,hb9,hY9,hE9⟩
  exact ⟨rfl,rfl,hbb.trans hb9,hY9,hE9⟩
 have HF : Hid _ := FIN
 clear FIN
 rcases hp : pMid ((bs.drop 8).take (n - 10)) with c | ⟨tb,rest⟩
 ·rw [hp] at hRT
  obtain ⟨rfl,hb5⟩ := hRT
  have HZ : Hid (D = .error c) := by show _ = _; rw [HD2.out,hp]
  have hcp := HF.out c HZ hb5
  refine leaves_cons (f := 34) (args := #[.pointer (some ⟨w.heap.size,0,none⟩), .pointer (some ⟨w.heap.size + 1,0,none⟩)]) (by simp) (by simp [go_sem]) ?_
  refine hcp.mono ?_
  rintro e u' w9 ⟨rfl,rfl,hb9,hY9,hE9⟩
  show Leaves _ _ _ _ [] (settle _) w9
  rw [HZ.out]
  exact ⟨_,qdj Tryz.results15 _ w.heap.size (w.heap.size + 1) _ _ _ _ _ _ _ _ _ _ _ _ _ _ _ rfl rfl hY9 hE9,rfl,hb9⟩
 rw [hp] at hRT
 cases rest with
 | cons y ys =>
  obtain ⟨rfl,hb5⟩ := hRT
  have HZ : Hid (D = .error 101) := by show _ = _; rw [HD2.out,hp]; rfl
  have hcp := HF.out 101 HZ hb5
  refine leaves_cons (f := 34) (args := #[.pointer (some ⟨w.heap.size,0,none⟩), .pointer (some ⟨w.heap.size + 1,0,none⟩)]) (by simp) (by simp [go_sem]) ?_
  refine hcp.mono ?_
  rintro e u' w9 ⟨rfl,rfl,hb9,hY9,hE9⟩
  show Leaves _ _ _ _ [] (settle _) w9
  rw [HZ.out]
  exact ⟨_,qdj Tryz.results15 _ w.heap.size (w.heap.size + 1) _ _ _ _ _ _ _ _ _ _ _ _ _ _ _ rfl rfl hY9 hE9,rfl,hb9⟩
 | nil =>
  obtain ⟨v,lo,hlo,rfl,hO,hb5⟩ := hRT
  have HOK : Hid (okTb tb) := (cod_pMid.bwd _ _ _ hp).1
  have HZ : Hid (D = if chkP tb = true then .ok tb else .error 90) := by
   show _ = _
   rw [HD2.out,hp]
   rfl
  have hY5 := (hb5.block _ (qa4 hY4)).trans hY4
  have hE5 := (hb5.block _ (qa4 hE4)).trans hE4
  have hbb := belT hb4 hb5
  have hlo2 : w.heap.size ≤ lo := by omega
  have hwf := qlg HOK.out
  clear hb5 hY4 hE4 hb4 hp HD2 HF HOK
  obtain ⟨⟨j0,cj0,fj0⟩,⟨j1,cj1,fj1⟩,⟨j2,cj2,fj2⟩,⟨j3,cj3,fj3⟩,⟨j4,cj4,fj4⟩,⟨j5,cj5,fj5⟩,⟨j6,cj6,fj6⟩,⟨j7,cj7,fj7⟩,⟨j8,cj8,fj8⟩,⟨j9,cj9,fj9⟩,⟨j10,cj10,fj10⟩,⟨j11,cj11,fj11⟩,⟨j12,cj12,fj12⟩,k13⟩ := qd0 (I tb.uses) (I tb.modes) (.slice v.t.a v.t.n v.t.c) (.slice v.g.a v.g.n v.g.c) (.slice v.r.a v.r.n v.r.c) (.slice v.k.a v.k.n v.k.c) (.slice v.a.a v.a.n v.a.c) (.slice v.i.a v.i.n v.i.c) (.slice v.s.a v.s.n v.s.c) (I tb.depth) (I tb.frames) (I tb.errors) (I tb.calls) hY5
  have hb6 : Below w.heap.size w ((((((((((((((w5).setCell ⟨w.heap.size,0,none⟩ (I tb.uses)).setCell ⟨w.heap.size,1,none⟩ (I tb.modes)).setCell ⟨w.heap.size,2,none⟩ (.slice v.t.a v.t.n v.t.c)).setCell ⟨w.heap.size,3,none⟩ (.slice v.g.a v.g.n v.g.c)).setCell ⟨w.heap.size,4,none⟩ (.slice v.r.a v.r.n v.r.c)).setCell ⟨w.heap.size,5,none⟩ (.slice v.k.a v.k.n v.k.c)).setCell ⟨w.heap.size,6,none⟩ (.slice v.a.a v.a.n v.a.c)).setCell ⟨w.heap.size,7,none⟩ (.slice v.i.a v.i.n v.i.c)).setCell ⟨w.heap.size,8,none⟩ (.slice v.s.a v.s.n v.s.c)).setCell ⟨w.heap.size,9,none⟩ (I tb.depth)).setCell ⟨w.heap.size,10,none⟩ (I tb.frames)).setCell ⟨w.heap.size,11,none⟩ (I tb.errors)).setCell ⟨w.heap.size,12,none⟩ (I tb.calls)) := qae (qae (qae (qae (qae (qae (qae (qae (qae (qae (qae (qae (qae (hbb) (Nat.le_refl _)) (Nat.le_refl _)) (Nat.le_refl _)) (Nat.le_refl _)) (Nat.le_refl _)) (Nat.le_refl _)) (Nat.le_refl _)) (Nat.le_refl _)) (Nat.le_refl _)) (Nat.le_refl _)) (Nat.le_refl _)) (Nat.le_refl _)) (Nat.le_refl _)
  have hE6 : ((((((((((((((w5).setCell ⟨w.heap.size,0,none⟩ (I tb.uses)).setCell ⟨w.heap.size,1,none⟩ (I tb.modes)).setCell ⟨w.heap.size,2,none⟩ (.slice v.t.a v.t.n v.t.c)).setCell ⟨w.heap.size,3,none⟩ (.slice v.g.a v.g.n v.g.c)).setCell ⟨w.heap.size,4,none⟩ (.slice v.r.a v.r.n v.r.c)).setCell ⟨w.heap.size,5,none⟩ (.slice v.k.a v.k.n v.k.c)).setCell ⟨w.heap.size,6,none⟩ (.slice v.a.a v.a.n v.a.c)).setCell ⟨w.heap.size,7,none⟩ (.slice v.i.a v.i.n v.i.c)).setCell ⟨w.heap.size,8,none⟩ (.slice v.s.a v.s.n v.s.c)).setCell ⟨w.heap.size,9,none⟩ (I tb.depth)).setCell ⟨w.heap.size,10,none⟩ (I tb.frames)).setCell ⟨w.heap.size,11,none⟩ (I tb.errors)).setCell ⟨w.heap.size,12,none⟩ (I tb.calls)).heap[w.heap.size + 1]? = some (.cells #[I 0] 32) := by
   repeat rw [heap_setCell_other _ _ (w.heap.size + 1) _ (by show w.heap.size + 1 ≠ w.heap.size; omega)]
   exact hE5
  have hO6 : TbO ((((((((((((((w5).setCell ⟨w.heap.size,0,none⟩ (I tb.uses)).setCell ⟨w.heap.size,1,none⟩ (I tb.modes)).setCell ⟨w.heap.size,2,none⟩ (.slice v.t.a v.t.n v.t.c)).setCell ⟨w.heap.size,3,none⟩ (.slice v.g.a v.g.n v.g.c)).setCell ⟨w.heap.size,4,none⟩ (.slice v.r.a v.r.n v.r.c)).setCell ⟨w.heap.size,5,none⟩ (.slice v.k.a v.k.n v.k.c)).setCell ⟨w.heap.size,6,none⟩ (.slice v.a.a v.a.n v.a.c)).setCell ⟨w.heap.size,7,none⟩ (.slice v.i.a v.i.n v.i.c)).setCell ⟨w.heap.size,8,none⟩ (.slice v.s.a v.s.n v.s.c)).setCell ⟨w.heap.size,9,none⟩ (I tb.depth)).setCell ⟨w.heap.size,10,none⟩ (I tb.frames)).setCell ⟨w.heap.size,11,none⟩ (I tb.errors)).setCell ⟨w.heap.size,12,none⟩ (I tb.calls)) lo tb v := (TbO.setY (TbO.setY (TbO.setY (TbO.setY (TbO.setY (TbO.setY (TbO.setY (TbO.setY (TbO.setY (TbO.setY (TbO.setY (TbO.setY (TbO.setY hO j0) j1) j2) j3) j4) j5) j6) j7) j8) j9) j10) j11) j12)
  have k13 : ((((((((((((((w5).setCell ⟨w.heap.size,0,none⟩ (I tb.uses)).setCell ⟨w.heap.size,1,none⟩ (I tb.modes)).setCell ⟨w.heap.size,2,none⟩ (.slice v.t.a v.t.n v.t.c)).setCell ⟨w.heap.size,3,none⟩ (.slice v.g.a v.g.n v.g.c)).setCell ⟨w.heap.size,4,none⟩ (.slice v.r.a v.r.n v.r.c)).setCell ⟨w.heap.size,5,none⟩ (.slice v.k.a v.k.n v.k.c)).setCell ⟨w.heap.size,6,none⟩ (.slice v.a.a v.a.n v.a.c)).setCell ⟨w.heap.size,7,none⟩ (.slice v.i.a v.i.n v.i.c)).setCell ⟨w.heap.size,8,none⟩ (.slice v.s.a v.s.n v.s.c)).setCell ⟨w.heap.size,9,none⟩ (I tb.depth)).setCell ⟨w.heap.size,10,none⟩ (I tb.frames)).setCell ⟨w.heap.size,11,none⟩ (I tb.errors)).setCell ⟨w.heap.size,12,none⟩ (I tb.calls)).heap[w.heap.size]? = some (.cells #[I tb.uses,I tb.modes, .slice v.t.a v.t.n v.t.c, .slice v.g.a v.g.n v.g.c, .slice v.r.a v.r.n v.r.c, .slice v.k.a v.k.n v.k.c, .slice v.a.a v.a.n v.a.c, .slice v.i.a v.i.n v.i.c, .slice v.s.a v.s.n v.s.c,I tb.depth,I tb.frames,I tb.errors,I tb.calls] 30) := k13
  unfold tbC
  clear j0 j1 j2 j3 j4 j5 j6 j7 j8 j9 j10 j11 j12 hY5 hE5 hbb hO
  go_upto_region 6 with fail
  clear cj0 cj1 cj2 cj3 cj4 cj5 cj6 cj7 cj8 cj9 cj10 cj11 cj12 fj0 fj1 fj2 fj3 fj4 fj5 fj6 fj7 fj8 fj9 fj10 fj11 fj12
  generalize (((((((((((((w5).setCell ⟨w.heap.size,0,none⟩ (I tb.uses)).setCell ⟨w.heap.size,1,none⟩ (I tb.modes)).setCell ⟨w.heap.size,2,none⟩ (.slice v.t.a v.t.n v.t.c)).setCell ⟨w.heap.size,3,none⟩ (.slice v.g.a v.g.n v.g.c)).setCell ⟨w.heap.size,4,none⟩ (.slice v.r.a v.r.n v.r.c)).setCell ⟨w.heap.size,5,none⟩ (.slice v.k.a v.k.n v.k.c)).setCell ⟨w.heap.size,6,none⟩ (.slice v.a.a v.a.n v.a.c)).setCell ⟨w.heap.size,7,none⟩ (.slice v.i.a v.i.n v.i.c)).setCell ⟨w.heap.size,8,none⟩ (.slice v.s.a v.s.n v.s.c)).setCell ⟨w.heap.size,9,none⟩ (I tb.depth)).setCell ⟨w.heap.size,10,none⟩ (I tb.frames)).setCell ⟨w.heap.size,11,none⟩ (I tb.errors)).setCell ⟨w.heap.size,12,none⟩ (I tb.calls) = w6 at *
  have hK := qfi tb v w6 hO6.at hwf
  have c6_0 : w6.cell? ⟨w.heap.size,0,none⟩ = some (I tb.uses) := by rw [cell_of_row _ _ _ _ _ (0,0) k13]; rfl
  have c6_1 : w6.cell? ⟨w.heap.size,1,none⟩ = some (I tb.modes) := by rw [cell_of_row _ _ _ _ _ (0,0) k13]; rfl
  have c6_2 : w6.cell? ⟨w.heap.size,2,none⟩ = some (.slice v.t.a v.t.n v.t.c) := by rw [cell_of_row _ _ _ _ _ (0,0) k13]; rfl
  have c6_3 : w6.cell? ⟨w.heap.size,3,none⟩ = some (.slice v.g.a v.g.n v.g.c) := by rw [cell_of_row _ _ _ _ _ (0,0) k13]; rfl
  have c6_4 : w6.cell? ⟨w.heap.size,4,none⟩ = some (.slice v.r.a v.r.n v.r.c) := by rw [cell_of_row _ _ _ _ _ (0,0) k13]; rfl
  have c6_5 : w6.cell? ⟨w.heap.size,5,none⟩ = some (.slice v.k.a v.k.n v.k.c) := by rw [cell_of_row _ _ _ _ _ (0,0) k13]; rfl
  have c6_6 : w6.cell? ⟨w.heap.size,6,none⟩ = some (.slice v.a.a v.a.n v.a.c) := by rw [cell_of_row _ _ _ _ _ (0,0) k13]; rfl
  have c6_7 : w6.cell? ⟨w.heap.size,7,none⟩ = some (.slice v.i.a v.i.n v.i.c) := by rw [cell_of_row _ _ _ _ _ (0,0) k13]; rfl
  have c6_8 : w6.cell? ⟨w.heap.size,8,none⟩ = some (.slice v.s.a v.s.n v.s.c) := by rw [cell_of_row _ _ _ _ _ (0,0) k13]; rfl
  have c6_9 : w6.cell? ⟨w.heap.size,9,none⟩ = some (I tb.depth) := by rw [cell_of_row _ _ _ _ _ (0,0) k13]; rfl
  have c6_10 : w6.cell? ⟨w.heap.size,10,none⟩ = some (I tb.frames) := by rw [cell_of_row _ _ _ _ _ (0,0) k13]; rfl
  have c6_11 : w6.cell? ⟨w.heap.size,11,none⟩ = some (I tb.errors) := by rw [cell_of_row _ _ _ _ _ (0,0) k13]; rfl
  have c6_12 : w6.cell? ⟨w.heap.size,12,none⟩ = some (I tb.calls) := by rw [cell_of_row _ _ _ _ _ (0,0) k13]; rfl
  unfold tbC at hK
  by_cases hc : chkP tb = true
  ·rw [if_pos hc] at hK HZ
   clear hc
   go_upto_region 8 with (first | (go_at_call 14; refine hK.mono ?_; clear hK; rintro e w7 ⟨rfl,b7⟩))
   have hY7 := (b7.block _ (qa4 k13)).trans k13
   have hE7 := (b7.block _ (qa4 hE6)).trans hE6
   have hb7 := belT hb6 b7
   have hO7 := hO6.below b7
   clear c6_0 c6_1 c6_2 c6_3 c6_4 c6_5 c6_6 c6_7 c6_8 c6_9 c6_10 c6_11 c6_12 k13 hE6 hb6 hO6 b7
   obtain ⟨⟨j0,cj0,fj0⟩,⟨j1,cj1,fj1⟩,⟨j2,cj2,fj2⟩,⟨j3,cj3,fj3⟩,⟨j4,cj4,fj4⟩,⟨j5,cj5,fj5⟩,⟨j6,cj6,fj6⟩,⟨j7,cj7,fj7⟩,⟨j8,cj8,fj8⟩,⟨j9,cj9,fj9⟩,⟨j10,cj10,fj10⟩,⟨j11,cj11,fj11⟩,⟨j12,cj12,fj12⟩,k13⟩ := qd0 (I tb.uses) (I tb.modes) (.slice v.t.a v.t.n v.t.c) (.slice v.g.a v.g.n v.g.c) (.slice v.r.a v.r.n v.r.c) (.slice v.k.a v.k.n v.k.c) (.slice v.a.a v.a.n v.a.c) (.slice v.i.a v.i.n v.i.c) (.slice v.s.a v.s.n v.s.c) (I tb.depth) (I tb.frames) (I tb.errors) (I tb.calls) hY7
   have hb8 : Below w.heap.size w ((((((((((((((w7).setCell ⟨w.heap.size,0,none⟩ (I tb.uses)).setCell ⟨w.heap.size,1,none⟩ (I tb.modes)).setCell ⟨w.heap.size,2,none⟩ (.slice v.t.a v.t.n v.t.c)).setCell ⟨w.heap.size,3,none⟩ (.slice v.g.a v.g.n v.g.c)).setCell ⟨w.heap.size,4,none⟩ (.slice v.r.a v.r.n v.r.c)).setCell ⟨w.heap.size,5,none⟩ (.slice v.k.a v.k.n v.k.c)).setCell ⟨w.heap.size,6,none⟩ (.slice v.a.a v.a.n v.a.c)).setCell ⟨w.heap.size,7,none⟩ (.slice v.i.a v.i.n v.i.c)).setCell ⟨w.heap.size,8,none⟩ (.slice v.s.a v.s.n v.s.c)).setCell ⟨w.heap.size,9,none⟩ (I tb.depth)).setCell ⟨w.heap.size,10,none⟩ (I tb.frames)).setCell ⟨w.heap.size,11,none⟩ (I tb.errors)).setCell ⟨w.heap.size,12,none⟩ (I tb.calls)) := qae (qae (qae (qae (qae (qae (qae (qae (qae (qae (qae (qae (qae (hb7) (Nat.le_refl _)) (Nat.le_refl _)) (Nat.le_refl _)) (Nat.le_refl _)) (Nat.le_refl _)) (Nat.le_refl _)) (Nat.le_refl _)) (Nat.le_refl _)) (Nat.le_refl _)) (Nat.le_refl _)) (Nat.le_refl _)) (Nat.le_refl _)) (Nat.le_refl _)
   have hE8 : ((((((((((((((w7).setCell ⟨w.heap.size,0,none⟩ (I tb.uses)).setCell ⟨w.heap.size,1,none⟩ (I tb.modes)).setCell ⟨w.heap.size,2,none⟩ (.slice v.t.a v.t.n v.t.c)).setCell ⟨w.heap.size,3,none⟩ (.slice v.g.a v.g.n v.g.c)).setCell ⟨w.heap.size,4,none⟩ (.slice v.r.a v.r.n v.r.c)).setCell ⟨w.heap.size,5,none⟩ (.slice v.k.a v.k.n v.k.c)).setCell ⟨w.heap.size,6,none⟩ (.slice v.a.a v.a.n v.a.c)).setCell ⟨w.heap.size,7,none⟩ (.slice v.i.a v.i.n v.i.c)).setCell ⟨w.heap.size,8,none⟩ (.slice v.s.a v.s.n v.s.c)).setCell ⟨w.heap.size,9,none⟩ (I tb.depth)).setCell ⟨w.heap.size,10,none⟩ (I tb.frames)).setCell ⟨w.heap.size,11,none⟩ (I tb.errors)).setCell ⟨w.heap.size,12,none⟩ (I tb.calls)).heap[w.heap.size + 1]? = some (.cells #[I 0] 32) := by
    repeat rw [heap_setCell_other _ _ (w.heap.size + 1) _ (by show w.heap.size + 1 ≠ w.heap.size; omega)]
    exact hE7
   have hO8 : TbO ((((((((((((((w7).setCell ⟨w.heap.size,0,none⟩ (I tb.uses)).setCell ⟨w.heap.size,1,none⟩ (I tb.modes)).setCell ⟨w.heap.size,2,none⟩ (.slice v.t.a v.t.n v.t.c)).setCell ⟨w.heap.size,3,none⟩ (.slice v.g.a v.g.n v.g.c)).setCell ⟨w.heap.size,4,none⟩ (.slice v.r.a v.r.n v.r.c)).setCell ⟨w.heap.size,5,none⟩ (.slice v.k.a v.k.n v.k.c)).setCell ⟨w.heap.size,6,none⟩ (.slice v.a.a v.a.n v.a.c)).setCell ⟨w.heap.size,7,none⟩ (.slice v.i.a v.i.n v.i.c)).setCell ⟨w.heap.size,8,none⟩ (.slice v.s.a v.s.n v.s.c)).setCell ⟨w.heap.size,9,none⟩ (I tb.depth)).setCell ⟨w.heap.size,10,none⟩ (I tb.frames)).setCell ⟨w.heap.size,11,none⟩ (I tb.errors)).setCell ⟨w.heap.size,12,none⟩ (I tb.calls)) lo tb v := (TbO.setY (TbO.setY (TbO.setY (TbO.setY (TbO.setY (TbO.setY (TbO.setY (TbO.setY (TbO.setY (TbO.setY (TbO.setY (TbO.setY (TbO.setY hO7 j0) j1) j2) j3) j4) j5) j6) j7) j8) j9) j10) j11) j12)
   have hYY : ((((((((((((((w7).setCell ⟨w.heap.size,0,none⟩ (I tb.uses)).setCell ⟨w.heap.size,1,none⟩ (I tb.modes)).setCell ⟨w.heap.size,2,none⟩ (.slice v.t.a v.t.n v.t.c)).setCell ⟨w.heap.size,3,none⟩ (.slice v.g.a v.g.n v.g.c)).setCell ⟨w.heap.size,4,none⟩ (.slice v.r.a v.r.n v.r.c)).setCell ⟨w.heap.size,5,none⟩ (.slice v.k.a v.k.n v.k.c)).setCell ⟨w.heap.size,6,none⟩ (.slice v.a.a v.a.n v.a.c)).setCell ⟨w.heap.size,7,none⟩ (.slice v.i.a v.i.n v.i.c)).setCell ⟨w.heap.size,8,none⟩ (.slice v.s.a v.s.n v.s.c)).setCell ⟨w.heap.size,9,none⟩ (I tb.depth)).setCell ⟨w.heap.size,10,none⟩ (I tb.frames)).setCell ⟨w.heap.size,11,none⟩ (I tb.errors)).setCell ⟨w.heap.size,12,none⟩ (I tb.calls)).heap[w.heap.size]? = some (.cells #[I tb.uses,I tb.modes, .slice v.t.a v.t.n v.t.c, .slice v.g.a v.g.n v.g.c, .slice v.r.a v.r.n v.r.c, .slice v.k.a v.k.n v.k.c, .slice v.a.a v.a.n v.a.c, .slice v.i.a v.i.n v.i.c, .slice v.s.a v.s.n v.s.c,I tb.depth,I tb.frames,I tb.errors,I tb.calls] 30) := k13
   have c8 : ((((((((((((((w7).setCell ⟨w.heap.size,0,none⟩ (I tb.uses)).setCell ⟨w.heap.size,1,none⟩ (I tb.modes)).setCell ⟨w.heap.size,2,none⟩ (.slice v.t.a v.t.n v.t.c)).setCell ⟨w.heap.size,3,none⟩ (.slice v.g.a v.g.n v.g.c)).setCell ⟨w.heap.size,4,none⟩ (.slice v.r.a v.r.n v.r.c)).setCell ⟨w.heap.size,5,none⟩ (.slice v.k.a v.k.n v.k.c)).setCell ⟨w.heap.size,6,none⟩ (.slice v.a.a v.a.n v.a.c)).setCell ⟨w.heap.size,7,none⟩ (.slice v.i.a v.i.n v.i.c)).setCell ⟨w.heap.size,8,none⟩ (.slice v.s.a v.s.n v.s.c)).setCell ⟨w.heap.size,9,none⟩ (I tb.depth)).setCell ⟨w.heap.size,10,none⟩ (I tb.frames)).setCell ⟨w.heap.size,11,none⟩ (I tb.errors)).setCell ⟨w.heap.size,12,none⟩ (I tb.calls)).cell? ⟨w.heap.size + 1,0,none⟩ = some (I 0) := by rw [cell_of_row _ _ _ _ _ (0,0) hE8]; rfl
   have f8 : ((((((((((((((w7).setCell ⟨w.heap.size,0,none⟩ (I tb.uses)).setCell ⟨w.heap.size,1,none⟩ (I tb.modes)).setCell ⟨w.heap.size,2,none⟩ (.slice v.t.a v.t.n v.t.c)).setCell ⟨w.heap.size,3,none⟩ (.slice v.g.a v.g.n v.g.c)).setCell ⟨w.heap.size,4,none⟩ (.slice v.r.a v.r.n v.r.c)).setCell ⟨w.heap.size,5,none⟩ (.slice v.k.a v.k.n v.k.c)).setCell ⟨w.heap.size,6,none⟩ (.slice v.a.a v.a.n v.a.c)).setCell ⟨w.heap.size,7,none⟩ (.slice v.i.a v.i.n v.i.c)).setCell ⟨w.heap.size,8,none⟩ (.slice v.s.a v.s.n v.s.c)).setCell ⟨w.heap.size,9,none⟩ (I tb.depth)).setCell ⟨w.heap.size,10,none⟩ (I tb.frames)).setCell ⟨w.heap.size,11,none⟩ (I tb.errors)).setCell ⟨w.heap.size,12,none⟩ (I tb.calls)).frozen? ⟨w.heap.size + 1,0,none⟩ = false := frozen_of_row _ _ _ _ _ hE8
   have hE9 := heap_setCell_same ((((((((((((((w7).setCell ⟨w.heap.size,0,none⟩ (I tb.uses)).setCell ⟨w.heap.size,1,none⟩ (I tb.modes)).setCell ⟨w.heap.size,2,none⟩ (.slice v.t.a v.t.n v.t.c)).setCell ⟨w.heap.size,3,none⟩ (.slice v.g.a v.g.n v.g.c)).setCell ⟨w.heap.size,4,none⟩ (.slice v.r.a v.r.n v.r.c)).setCell ⟨w.heap.size,5,none⟩ (.slice v.k.a v.k.n v.k.c)).setCell ⟨w.heap.size,6,none⟩ (.slice v.a.a v.a.n v.a.c)).setCell ⟨w.heap.size,7,none⟩ (.slice v.i.a v.i.n v.i.c)).setCell ⟨w.heap.size,8,none⟩ (.slice v.s.a v.s.n v.s.c)).setCell ⟨w.heap.size,9,none⟩ (I tb.depth)).setCell ⟨w.heap.size,10,none⟩ (I tb.frames)).setCell ⟨w.heap.size,11,none⟩ (I tb.errors)).setCell ⟨w.heap.size,12,none⟩ (I tb.calls)) (w.heap.size + 1) 0 _ _ (I 0) hE8
   have hY9 := (heap_setCell_other ((((((((((((((w7).setCell ⟨w.heap.size,0,none⟩ (I tb.uses)).setCell ⟨w.heap.size,1,none⟩ (I tb.modes)).setCell ⟨w.heap.size,2,none⟩ (.slice v.t.a v.t.n v.t.c)).setCell ⟨w.heap.size,3,none⟩ (.slice v.g.a v.g.n v.g.c)).setCell ⟨w.heap.size,4,none⟩ (.slice v.r.a v.r.n v.r.c)).setCell ⟨w.heap.size,5,none⟩ (.slice v.k.a v.k.n v.k.c)).setCell ⟨w.heap.size,6,none⟩ (.slice v.a.a v.a.n v.a.c)).setCell ⟨w.heap.size,7,none⟩ (.slice v.i.a v.i.n v.i.c)).setCell ⟨w.heap.size,8,none⟩ (.slice v.s.a v.s.n v.s.c)).setCell ⟨w.heap.size,9,none⟩ (I tb.depth)).setCell ⟨w.heap.size,10,none⟩ (I tb.frames)).setCell ⟨w.heap.size,11,none⟩ (I tb.errors)).setCell ⟨w.heap.size,12,none⟩ (I tb.calls)) ⟨w.heap.size + 1,0,none⟩ w.heap.size (I 0) (by show w.heap.size ≠ w.heap.size + 1; omega)).trans hYY
   have hb9 : Below w.heap.size w (((((((((((((((w7).setCell ⟨w.heap.size,0,none⟩ (I tb.uses)).setCell ⟨w.heap.size,1,none⟩ (I tb.modes)).setCell ⟨w.heap.size,2,none⟩ (.slice v.t.a v.t.n v.t.c)).setCell ⟨w.heap.size,3,none⟩ (.slice v.g.a v.g.n v.g.c)).setCell ⟨w.heap.size,4,none⟩ (.slice v.r.a v.r.n v.r.c)).setCell ⟨w.heap.size,5,none⟩ (.slice v.k.a v.k.n v.k.c)).setCell ⟨w.heap.size,6,none⟩ (.slice v.a.a v.a.n v.a.c)).setCell ⟨w.heap.size,7,none⟩ (.slice v.i.a v.i.n v.i.c)).setCell ⟨w.heap.size,8,none⟩ (.slice v.s.a v.s.n v.s.c)).setCell ⟨w.heap.size,9,none⟩ (I tb.depth)).setCell ⟨w.heap.size,10,none⟩ (I tb.frames)).setCell ⟨w.heap.size,11,none⟩ (I tb.errors)).setCell ⟨w.heap.size,12,none⟩ (I tb.calls)).setCell ⟨w.heap.size + 1,0,none⟩ (I 0)) := qae hb8 (by omega)
   have hO9 : TbO (((((((((((((((w7).setCell ⟨w.heap.size,0,none⟩ (I tb.uses)).setCell ⟨w.heap.size,1,none⟩ (I tb.modes)).setCell ⟨w.heap.size,2,none⟩ (.slice v.t.a v.t.n v.t.c)).setCell ⟨w.heap.size,3,none⟩ (.slice v.g.a v.g.n v.g.c)).setCell ⟨w.heap.size,4,none⟩ (.slice v.r.a v.r.n v.r.c)).setCell ⟨w.heap.size,5,none⟩ (.slice v.k.a v.k.n v.k.c)).setCell ⟨w.heap.size,6,none⟩ (.slice v.a.a v.a.n v.a.c)).setCell ⟨w.heap.size,7,none⟩ (.slice v.i.a v.i.n v.i.c)).setCell ⟨w.heap.size,8,none⟩ (.slice v.s.a v.s.n v.s.c)).setCell ⟨w.heap.size,9,none⟩ (I tb.depth)).setCell ⟨w.heap.size,10,none⟩ (I tb.frames)).setCell ⟨w.heap.size,11,none⟩ (I tb.errors)).setCell ⟨w.heap.size,12,none⟩ (I tb.calls)).setCell ⟨w.heap.size + 1,0,none⟩ (I 0)) lo tb v := hO8.setE hE8
   have c6_0 : w7.cell? ⟨w.heap.size,0,none⟩ = some (I tb.uses) := by rw [cell_of_row _ _ _ _ _ (0,0) hY7]; rfl
   have c6_1 : w7.cell? ⟨w.heap.size,1,none⟩ = some (I tb.modes) := by rw [cell_of_row _ _ _ _ _ (0,0) hY7]; rfl
   have c6_2 : w7.cell? ⟨w.heap.size,2,none⟩ = some (.slice v.t.a v.t.n v.t.c) := by rw [cell_of_row _ _ _ _ _ (0,0) hY7]; rfl
   have c6_3 : w7.cell? ⟨w.heap.size,3,none⟩ = some (.slice v.g.a v.g.n v.g.c) := by rw [cell_of_row _ _ _ _ _ (0,0) hY7]; rfl
   have c6_4 : w7.cell? ⟨w.heap.size,4,none⟩ = some (.slice v.r.a v.r.n v.r.c) := by rw [cell_of_row _ _ _ _ _ (0,0) hY7]; rfl
   have c6_5 : w7.cell? ⟨w.heap.size,5,none⟩ = some (.slice v.k.a v.k.n v.k.c) := by rw [cell_of_row _ _ _ _ _ (0,0) hY7]; rfl
   have c6_6 : w7.cell? ⟨w.heap.size,6,none⟩ = some (.slice v.a.a v.a.n v.a.c) := by rw [cell_of_row _ _ _ _ _ (0,0) hY7]; rfl
   have c6_7 : w7.cell? ⟨w.heap.size,7,none⟩ = some (.slice v.i.a v.i.n v.i.c) := by rw [cell_of_row _ _ _ _ _ (0,0) hY7]; rfl
   have c6_8 : w7.cell? ⟨w.heap.size,8,none⟩ = some (.slice v.s.a v.s.n v.s.c) := by rw [cell_of_row _ _ _ _ _ (0,0) hY7]; rfl
   have c6_9 : w7.cell? ⟨w.heap.size,9,none⟩ = some (I tb.depth) := by rw [cell_of_row _ _ _ _ _ (0,0) hY7]; rfl
   have c6_10 : w7.cell? ⟨w.heap.size,10,none⟩ = some (I tb.frames) := by rw [cell_of_row _ _ _ _ _ (0,0) hY7]; rfl
   have c6_11 : w7.cell? ⟨w.heap.size,11,none⟩ = some (I tb.errors) := by rw [cell_of_row _ _ _ _ _ (0,0) hY7]; rfl
   have c6_12 : w7.cell? ⟨w.heap.size,12,none⟩ = some (I tb.calls) := by rw [cell_of_row _ _ _ _ _ (0,0) hY7]; rfl
   clear j0 j1 j2 j3 j4 j5 j6 j7 j8 j9 j10 j11 j12 k13 hE7 hb7 hO7 hb8 hE8 hO8 hYY hY7
   go_wp2
   clear cj0 cj1 cj2 cj3 cj4 cj5 cj6 cj7 cj8 cj9 cj10 cj11 cj12 fj0 fj1 fj2 fj3 fj4 fj5 fj6 fj7 fj8 fj9 fj10 fj11 fj12 c8 f8 c6_0 c6_1 c6_2 c6_3 c6_4 c6_5 c6_6 c6_7 c6_8 c6_9 c6_10 c6_11 c6_12
   generalize ((((((((((((((w7).setCell ⟨w.heap.size,0,none⟩ (I tb.uses)).setCell ⟨w.heap.size,1,none⟩ (I tb.modes)).setCell ⟨w.heap.size,2,none⟩ (.slice v.t.a v.t.n v.t.c)).setCell ⟨w.heap.size,3,none⟩ (.slice v.g.a v.g.n v.g.c)).setCell ⟨w.heap.size,4,none⟩ (.slice v.r.a v.r.n v.r.c)).setCell ⟨w.heap.size,5,none⟩ (.slice v.k.a v.k.n v.k.c)).setCell ⟨w.heap.size,6,none⟩ (.slice v.a.a v.a.n v.a.c)).setCell ⟨w.heap.size,7,none⟩ (.slice v.i.a v.i.n v.i.c)).setCell ⟨w.heap.size,8,none⟩ (.slice v.s.a v.s.n v.s.c)).setCell ⟨w.heap.size,9,none⟩ (I tb.depth)).setCell ⟨w.heap.size,10,none⟩ (I tb.frames)).setCell ⟨w.heap.size,11,none⟩ (I tb.errors)).setCell ⟨w.heap.size,12,none⟩ (I tb.calls)).setCell ⟨w.heap.size + 1,0,none⟩ (I 0) = w8 at *
   refine leaves_cons (f := 34) (args := #[.pointer (some ⟨w.heap.size,0,none⟩), .pointer (some ⟨w.heap.size + 1,0,none⟩)]) (by simp) (by simp [go_sem]) ?_
   refine (qd1 w.heap.size (w.heap.size + 1) w8).mono ?_
   rintro e u' w9 ⟨rfl,rfl,rfl⟩
   show Leaves _ _ _ _ [] (settle _) w9
   rw [HZ.out]
   exact ⟨_,qdj Tryz.results15 _ w.heap.size (w.heap.size + 1) _ _ _ _ _ _ _ _ _ _ _ _ _ _ _ rfl rfl hY9 hE9,v,lo,hlo2,rfl,hO9,hb9⟩
  ·rw [if_neg hc] at hK HZ
   clear hc
   go_upto_region 7 with (first | (go_at_call 14; refine hK.mono ?_; clear hK; rintro e w7 ⟨rfl,b7⟩))
   have hY7 := (b7.block _ (qa4 k13)).trans k13
   have hE7 := (b7.block _ (qa4 hE6)).trans hE6
   have hb7 := belT hb6 b7
   clear c6_0 c6_1 c6_2 c6_3 c6_4 c6_5 c6_6 c6_7 c6_8 c6_9 c6_10 c6_11 c6_12 k13 hE6 hb6 hO6 b7
   obtain ⟨⟨j0,cj0,fj0⟩,⟨j1,cj1,fj1⟩,⟨j2,cj2,fj2⟩,⟨j3,cj3,fj3⟩,⟨j4,cj4,fj4⟩,⟨j5,cj5,fj5⟩,⟨j6,cj6,fj6⟩,⟨j7,cj7,fj7⟩,⟨j8,cj8,fj8⟩,⟨j9,cj9,fj9⟩,⟨j10,cj10,fj10⟩,⟨j11,cj11,fj11⟩,⟨j12,cj12,fj12⟩,k13⟩ := qd0 (I 0) (I 0) (.slice none 0 0) (.slice none 0 0) (.slice none 0 0) (.slice none 0 0) (.slice none 0 0) (.slice none 0 0) (.slice none 0 0) (I 0) (I 0) (I 0) (I 0) hY7
   have hb8 : Below w.heap.size w ((((((((((((((w7).setCell ⟨w.heap.size,0,none⟩ (I 0)).setCell ⟨w.heap.size,1,none⟩ (I 0)).setCell ⟨w.heap.size,2,none⟩ (.slice none 0 0)).setCell ⟨w.heap.size,3,none⟩ (.slice none 0 0)).setCell ⟨w.heap.size,4,none⟩ (.slice none 0 0)).setCell ⟨w.heap.size,5,none⟩ (.slice none 0 0)).setCell ⟨w.heap.size,6,none⟩ (.slice none 0 0)).setCell ⟨w.heap.size,7,none⟩ (.slice none 0 0)).setCell ⟨w.heap.size,8,none⟩ (.slice none 0 0)).setCell ⟨w.heap.size,9,none⟩ (I 0)).setCell ⟨w.heap.size,10,none⟩ (I 0)).setCell ⟨w.heap.size,11,none⟩ (I 0)).setCell ⟨w.heap.size,12,none⟩ (I 0)) := qae (qae (qae (qae (qae (qae (qae (qae (qae (qae (qae (qae (qae (hb7) (Nat.le_refl _)) (Nat.le_refl _)) (Nat.le_refl _)) (Nat.le_refl _)) (Nat.le_refl _)) (Nat.le_refl _)) (Nat.le_refl _)) (Nat.le_refl _)) (Nat.le_refl _)) (Nat.le_refl _)) (Nat.le_refl _)) (Nat.le_refl _)) (Nat.le_refl _)
   have hE8 : ((((((((((((((w7).setCell ⟨w.heap.size,0,none⟩ (I 0)).setCell ⟨w.heap.size,1,none⟩ (I 0)).setCell ⟨w.heap.size,2,none⟩ (.slice none 0 0)).setCell ⟨w.heap.size,3,none⟩ (.slice none 0 0)).setCell ⟨w.heap.size,4,none⟩ (.slice none 0 0)).setCell ⟨w.heap.size,5,none⟩ (.slice none 0 0)).setCell ⟨w.heap.size,6,none⟩ (.slice none 0 0)).setCell ⟨w.heap.size,7,none⟩ (.slice none 0 0)).setCell ⟨w.heap.size,8,none⟩ (.slice none 0 0)).setCell ⟨w.heap.size,9,none⟩ (I 0)).setCell ⟨w.heap.size,10,none⟩ (I 0)).setCell ⟨w.heap.size,11,none⟩ (I 0)).setCell ⟨w.heap.size,12,none⟩ (I 0)).heap[w.heap.size + 1]? = some (.cells #[I 0] 32) := by
    repeat rw [heap_setCell_other _ _ (w.heap.size + 1) _ (by show w.heap.size + 1 ≠ w.heap.size; omega)]
    exact hE7
   have c8 : ((((((((((((((w7).setCell ⟨w.heap.size,0,none⟩ (I 0)).setCell ⟨w.heap.size,1,none⟩ (I 0)).setCell ⟨w.heap.size,2,none⟩ (.slice none 0 0)).setCell ⟨w.heap.size,3,none⟩ (.slice none 0 0)).setCell ⟨w.heap.size,4,none⟩ (.slice none 0 0)).setCell ⟨w.heap.size,5,none⟩ (.slice none 0 0)).setCell ⟨w.heap.size,6,none⟩ (.slice none 0 0)).setCell ⟨w.heap.size,7,none⟩ (.slice none 0 0)).setCell ⟨w.heap.size,8,none⟩ (.slice none 0 0)).setCell ⟨w.heap.size,9,none⟩ (I 0)).setCell ⟨w.heap.size,10,none⟩ (I 0)).setCell ⟨w.heap.size,11,none⟩ (I 0)).setCell ⟨w.heap.size,12,none⟩ (I 0)).cell? ⟨w.heap.size + 1,0,none⟩ = some (I 0) := by rw [cell_of_row _ _ _ _ _ (0,0) hE8]; rfl
   have f8 : ((((((((((((((w7).setCell ⟨w.heap.size,0,none⟩ (I 0)).setCell ⟨w.heap.size,1,none⟩ (I 0)).setCell ⟨w.heap.size,2,none⟩ (.slice none 0 0)).setCell ⟨w.heap.size,3,none⟩ (.slice none 0 0)).setCell ⟨w.heap.size,4,none⟩ (.slice none 0 0)).setCell ⟨w.heap.size,5,none⟩ (.slice none 0 0)).setCell ⟨w.heap.size,6,none⟩ (.slice none 0 0)).setCell ⟨w.heap.size,7,none⟩ (.slice none 0 0)).setCell ⟨w.heap.size,8,none⟩ (.slice none 0 0)).setCell ⟨w.heap.size,9,none⟩ (I 0)).setCell ⟨w.heap.size,10,none⟩ (I 0)).setCell ⟨w.heap.size,11,none⟩ (I 0)).setCell ⟨w.heap.size,12,none⟩ (I 0)).frozen? ⟨w.heap.size + 1,0,none⟩ = false := frozen_of_row _ _ _ _ _ hE8
   have hE9 := heap_setCell_same ((((((((((((((w7).setCell ⟨w.heap.size,0,none⟩ (I 0)).setCell ⟨w.heap.size,1,none⟩ (I 0)).setCell ⟨w.heap.size,2,none⟩ (.slice none 0 0)).setCell ⟨w.heap.size,3,none⟩ (.slice none 0 0)).setCell ⟨w.heap.size,4,none⟩ (.slice none 0 0)).setCell ⟨w.heap.size,5,none⟩ (.slice none 0 0)).setCell ⟨w.heap.size,6,none⟩ (.slice none 0 0)).setCell ⟨w.heap.size,7,none⟩ (.slice none 0 0)).setCell ⟨w.heap.size,8,none⟩ (.slice none 0 0)).setCell ⟨w.heap.size,9,none⟩ (I 0)).setCell ⟨w.heap.size,10,none⟩ (I 0)).setCell ⟨w.heap.size,11,none⟩ (I 0)).setCell ⟨w.heap.size,12,none⟩ (I 0)) (w.heap.size + 1) 0 _ _ (I 90) hE8
   have hY9 := (heap_setCell_other ((((((((((((((w7).setCell ⟨w.heap.size,0,none⟩ (I 0)).setCell ⟨w.heap.size,1,none⟩ (I 0)).setCell ⟨w.heap.size,2,none⟩ (.slice none 0 0)).setCell ⟨w.heap.size,3,none⟩ (.slice none 0 0)).setCell ⟨w.heap.size,4,none⟩ (.slice none 0 0)).setCell ⟨w.heap.size,5,none⟩ (.slice none 0 0)).setCell ⟨w.heap.size,6,none⟩ (.slice none 0 0)).setCell ⟨w.heap.size,7,none⟩ (.slice none 0 0)).setCell ⟨w.heap.size,8,none⟩ (.slice none 0 0)).setCell ⟨w.heap.size,9,none⟩ (I 0)).setCell ⟨w.heap.size,10,none⟩ (I 0)).setCell ⟨w.heap.size,11,none⟩ (I 0)).setCell ⟨w.heap.size,12,none⟩ (I 0)) ⟨w.heap.size + 1,0,none⟩ w.heap.size (I 90) (by show w.heap.size ≠ w.heap.size + 1; omega)).trans k13
   have hb9 : Below w.heap.size w (((((((((((((((w7).setCell ⟨w.heap.size,0,none⟩ (I 0)).setCell ⟨w.heap.size,1,none⟩ (I 0)).setCell ⟨w.heap.size,2,none⟩ (.slice none 0 0)).setCell ⟨w.heap.size,3,none⟩ (.slice none 0 0)).setCell ⟨w.heap.size,4,none⟩ (.slice none 0 0)).setCell ⟨w.heap.size,5,none⟩ (.slice none 0 0)).setCell ⟨w.heap.size,6,none⟩ (.slice none 0 0)).setCell ⟨w.heap.size,7,none⟩ (.slice none 0 0)).setCell ⟨w.heap.size,8,none⟩ (.slice none 0 0)).setCell ⟨w.heap.size,9,none⟩ (I 0)).setCell ⟨w.heap.size,10,none⟩ (I 0)).setCell ⟨w.heap.size,11,none⟩ (I 0)).setCell ⟨w.heap.size,12,none⟩ (I 0)).setCell ⟨w.heap.size + 1,0,none⟩ (I 90)) := qae hb8 (by omega)
   clear j0 j1 j2 j3 j4 j5 j6 j7 j8 j9 j10 j11 j12 k13 hE7 hb7 hb8 hE8 hY7
   go_wp2
   clear cj0 cj1 cj2 cj3 cj4 cj5 cj6 cj7 cj8 cj9 cj10 cj11 cj12 fj0 fj1 fj2 fj3 fj4 fj5 fj6 fj7 fj8 fj9 fj10 fj11 fj12 c8 f8
   generalize ((((((((((((((w7).setCell ⟨w.heap.size,0,none⟩ (I 0)).setCell ⟨w.heap.size,1,none⟩ (I 0)).setCell ⟨w.heap.size,2,none⟩ (.slice none 0 0)).setCell ⟨w.heap.size,3,none⟩ (.slice none 0 0)).setCell ⟨w.heap.size,4,none⟩ (.slice none 0 0)).setCell ⟨w.heap.size,5,none⟩ (.slice none 0 0)).setCell ⟨w.heap.size,6,none⟩ (.slice none 0 0)).setCell ⟨w.heap.size,7,none⟩ (.slice none 0 0)).setCell ⟨w.heap.size,8,none⟩ (.slice none 0 0)).setCell ⟨w.heap.size,9,none⟩ (I 0)).setCell ⟨w.heap.size,10,none⟩ (I 0)).setCell ⟨w.heap.size,11,none⟩ (I 0)).setCell ⟨w.heap.size,12,none⟩ (I 0)).setCell ⟨w.heap.size + 1,0,none⟩ (I 90) = w8 at *
   refine leaves_cons (f := 34) (args := #[.pointer (some ⟨w.heap.size,0,none⟩), .pointer (some ⟨w.heap.size + 1,0,none⟩)]) (by simp) (by simp [go_sem]) ?_
   refine (qd1 w.heap.size (w.heap.size + 1) w8).mono ?_
   rintro e u' w9 ⟨rfl,rfl,rfl⟩
   show Leaves _ _ _ _ [] (settle _) w9
   rw [HZ.out]
   exact ⟨_,qdj Tryz.results15 _ w.heap.size (w.heap.size + 1) _ _ _ _ _ _ _ _ _ _ _ _ _ _ _ rfl rfl hY9 hE9,rfl,hb9⟩
end Go.Proofs.YtijgopkhdjaolaaGreat
