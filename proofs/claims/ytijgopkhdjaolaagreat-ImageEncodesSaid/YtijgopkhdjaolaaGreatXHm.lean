import Derived.Test.YtijgopkhdjaolaaGreatHs1
import Derived.Test.YtijgopkhdjaolaaGreatXHs3
import Derived.Test.YtijgopkhdjaolaaGreatXTcz
import Derived.Deep.RegionHeldLaw
import Derived.Deep.RegionHeld3
import Derived.Recover
import Derived.Defers
import Derived.Tactics2
import Derived.Test.YtijgopkhdjaolaaGreatXHx
namespace Go.Proofs.YtijgopkhdjaolaaGreat
open Go.RowKit Go.Shelf Go.Sort
open Go.Proofs.YtijgopkhdjaolaaGreat.Ob (leB leV qa8 qaj crc Rd RdAll qa9 Rdr)
set_option linter.unusedSimpArgs false
set_option linter.unusedVariables false
set_option maxHeartbeats 16000000
set_option maxRecDepth 100000
theorem qs3 (v:Value) (xT:TypeId) (w:World):(Instr.typeAssert (.iface 145 v) xT 145 true).run Tryz.prog w=.ok (.tuple #[v,.bool true]) w:=by kernel_rfl
theorem qag {g a:Nat} {u W:World} {i:Nat} {v:Value} (h:Below a u W) (hg:a≤g):Below a u (W.setCell ⟨g,i,none⟩ v):=
 ⟨h.os,h.tape,h.output,by simpa using h.size,fun b hb=>(heap_setCell_other W ⟨g,i,none⟩ b v (by show b≠g;omega)).trans (h.block b hb)⟩
theorem qle (w:World) (c:Nat):Calls Tryz.prog 35 #[.iface 145 (.agg #[I c])] w fun e w'=>e=.returned (I c)∧qB w w':=by
 have hta:∀(xT:TypeId) (W:World),(Instr.typeAssert (.iface 145 (.agg #[I c])) xT 145 true).run Tryz.prog W=.ok (.tuple #[.agg #[I c],.bool true]) W:=fun xT W=>qs3 _ xT W
 go_enter Tryz.func35,Tryz.ntmps35
 go_wp2
 go_ret
 exact ⟨rfl,qa0 w _⟩
theorem qe3 (bt be:Nat) (w:World) :
  CallsD Tryz.prog 34 #[.pointer (some ⟨bt,0,none⟩),.pointer (some ⟨be,0,none⟩)] .returning w fun e u' w'=>e=.returned (.tuple #[])∧u'=.returning∧w'=w:=by
 refine callsD_of_wpS Tryz.func34 rfl fun c₀ cs hu=>?_
 apply wpS_seq
 apply wpS_region
 simp [wpOpsS,go_sem,recoverD,hu,Tryz.ntmps34,Exit.thenS]
 refine wpS_of_wp ?_
 show Code.wp _ _ _ { tmps:=#[.pointer (some ⟨bt,0,none⟩),.pointer (some ⟨be,0,none⟩),.nilIface,.nilIface,undef,undef,undef,undef,undef],defers:=[] } w
 go_wp2
 cases c₀
 simp_all [bodyPostS,results,Tryz.results34]
theorem qjs (bt be c:Nat) {z0 z1 z2 z3 z4 z5 z6 z7 z8 z9 z10 z11 z12 ze:Value} (older:List PanicEntry) (w:World) (hbt:w.heap[bt]?=some (.cells #[z0,z1,z2,z3,z4,z5,z6,z7,z8,z9,z10,z11,z12] 30)) (hbe:w.heap[be]?=some (.cells #[ze] 32)) (hne:bt≠be) (base:Nat) (h1:base≤bt) (h2:base≤be) (h3:base≤w.heap.size) :
  CallsD Tryz.prog 34 #[.pointer (some ⟨bt,0,none⟩),.pointer (some ⟨be,0,none⟩)] (.panicking ({ v:=.iface 145 (.agg #[I c]),recovered:=false } :: older)) w fun e u' w'=>
   e=.returned (.tuple #[])∧u'=.panicking ({ v:=.iface 145 (.agg #[I c]),recovered:=true } :: older)∧Below base w w'∧w'.heap[bt]?=some (.cells qV 30)∧w'.heap[be]?=some (.cells #[I c] 32):=by
 have cf:=qle w c
 refine callsD_of_wpS Tryz.func34 rfl fun c₀ cs hu=>?_
 apply wpS_seq
 apply wpS_region
 simp [wpOpsS,go_sem,recoverD,hu,Tryz.ntmps34,Exit.thenS]
 refine wpS_of_wp ?_
 show Code.wp _ _ _ { tmps:=#[.pointer (some ⟨bt,0,none⟩),.pointer (some ⟨be,0,none⟩),.iface 145 (.agg #[I c]),.iface 145 (.agg #[I c]),undef,undef,undef,undef,undef],defers:=[] } w
 go_wp2_with fail
 refine cf.mono ?_
 rintro e w1 ⟨rfl,hb1⟩
 have hbt1:=(hb1.block _ (qa5 hbt)).trans hbt
 have hbe1:=(hb1.block _ (qa5 hbe)).trans hbe
 obtain ⟨⟨j0,cj0,fj0⟩,⟨j1,cj1,fj1⟩,⟨j2,cj2,fj2⟩,⟨j3,cj3,fj3⟩,⟨j4,cj4,fj4⟩,⟨j5,cj5,fj5⟩,⟨j6,cj6,fj6⟩,⟨j7,cj7,fj7⟩,⟨j8,cj8,fj8⟩,⟨j9,cj9,fj9⟩,⟨j10,cj10,fj10⟩,⟨j11,cj11,fj11⟩,⟨j12,cj12,fj12⟩,k13⟩:=qdq (I 0) (I 0) qZ qZ qZ qZ qZ qZ qZ (I 0) (I 0) (I 0) (I 0) hbt1
 have hb2:Below base w (qS13 w1 bt (I 0) (I 0) qZ qZ qZ qZ qZ qZ qZ (I 0) (I 0) (I 0) (I 0)):=qag (qag (qag (qag (qag (qag (qag (qag (qag (qag (qag (qag (qag (hb1.mono h3) h1) h1) h1) h1) h1) h1) h1) h1) h1) h1) h1) h1) h1
 have hbe2:(qS13 w1 bt (I 0) (I 0) qZ qZ qZ qZ qZ qZ qZ (I 0) (I 0) (I 0) (I 0)).heap[be]?=some (.cells #[ze] 32):=by
  repeat rw [heap_setCell_other _ _ be _ (fun e=>hne (by exact e.symm))]
  exact hbe1
 have ce:(qS13 w1 bt (I 0) (I 0) qZ qZ qZ qZ qZ qZ qZ (I 0) (I 0) (I 0) (I 0)).cell? ⟨be,0,none⟩=some ze:=by rw [qcr hbe2];rfl
 have fe:(qS13 w1 bt (I 0) (I 0) qZ qZ qZ qZ qZ qZ qZ (I 0) (I 0) (I 0) (I 0)).frozen? ⟨be,0,none⟩=false:=frozen_of_row _ _ _ _ _ hbe2
 have hbe3:=heap_setCell_same (qS13 w1 bt (I 0) (I 0) qZ qZ qZ qZ qZ qZ qZ (I 0) (I 0) (I 0) (I 0)) be 0 _ _ (I c) hbe2
 have hbt3:=(heap_setCell_other (qS13 w1 bt (I 0) (I 0) qZ qZ qZ qZ qZ qZ qZ (I 0) (I 0) (I 0) (I 0)) ⟨be,0,none⟩ bt (I c) hne).trans k13
 have hb3:Below base w ((qS13 w1 bt (I 0) (I 0) qZ qZ qZ qZ qZ qZ qZ (I 0) (I 0) (I 0) (I 0)).setCell ⟨be,0,none⟩ (I c)):=qag hb2 h2
 have HF:Hid (Below base w ((qS13 w1 bt (I 0) (I 0) qZ qZ qZ qZ qZ qZ qZ (I 0) (I 0) (I 0) (I 0)).setCell ⟨be,0,none⟩ (I c))∧((qS13 w1 bt (I 0) (I 0) qZ qZ qZ qZ qZ qZ qZ (I 0) (I 0) (I 0) (I 0)).setCell ⟨be,0,none⟩ (I c)).heap[bt]?=some (.cells qV 30)∧((qS13 w1 bt (I 0) (I 0) qZ qZ qZ qZ qZ qZ qZ (I 0) (I 0) (I 0) (I 0)).setCell ⟨be,0,none⟩ (I c)).heap[be]?=some (.cells #[I c] 32)):=⟨hb3,hbt3,hbe3⟩
 clear cf hbt hbe hbt1 hbe1 hb2 hbe2 hbe3 hbt3 hb3 j0 j1 j2 j3 j4 j5 j6 j7 j8 j9 j10 j11 j12 k13 hb1
 go_wp2
 simp [bodyPostS,results,Tryz.results34]
 exact HF.out
def zT : Array Value:=qV
def DP (w:World) (m:Except Nat Tb) (e:Ending) (w':World):Prop:=match m with
 | .ok tb=>∃v lo,w.heap.size≤lo∧e=.returned (.tuple #[.agg (tbC tb v),I 0])∧TbO w' lo tb v∧qB w w'
 | .error c=>e=.returned (.tuple #[.agg zT,I c])∧qB w w'
theorem qos {tb:Tb} (h:okTb tb):WfT tb:=by
 refine ⟨fun x hx=>?_,fun x hx=>?_,fun x hx=>?_,fun x hx=>?_⟩
 ·obtain ⟨-,-,-,h1,-,-,h2⟩:=h.r0 x hx
  exact ⟨h1,Nat.lt_of_lt_of_le h2 (by decide)⟩
 ·exact h.r3 x hx
 ·obtain ⟨-,⟨-,-,h1⟩,h2,h3,h4⟩:=h.r4 x hx
  exact ⟨h1,Nat.lt_of_lt_of_le h2 (by decide),h3,h4⟩
 ·obtain ⟨-,-,-,h1,-,-,-,h2⟩:=h.r6 x hx
  exact ⟨h1,h2⟩
theorem TbO.setY {W:World} {lo Y i:Nat} {tb:Tb} {v:Ts} {y:Value} {cs:Array Value} (h:TbO W lo tb v) (hY:W.heap[Y]?=some (.cells cs 30)):TbO (W.setCell ⟨Y,i,none⟩ y) lo tb v:=
 ⟨qat h.t hY,qax h.g hY,qb0 h.r hY,qb5 h.k hY,qb7 h.a hY,qba h.i hY,qbj h.s hY⟩
theorem TbO.setE {W:World} {lo Y i:Nat} {tb:Tb} {v:Ts} {y:Value} {cs:Array Value} (h:TbO W lo tb v) (hY:W.heap[Y]?=some (.cells cs 32)):TbO (W.setCell ⟨Y,i,none⟩ y) lo tb v:=by
 obtain ⟨⟨a1,a2,a3,a4,a5,a6⟩,⟨b1,b2,b3,b4,b5,b6⟩,⟨c1,c2,c3,c4,c5,c6⟩,⟨d1,d2,d3,d4,d5,d6⟩,⟨e1,e2,e3,e4,e5,e6⟩,⟨f1,f2,f3,f4,f5,f6⟩,⟨g1,g2,g3,g4,g5,g6⟩⟩:=h
 exact ⟨⟨a1,a2,a3,a4,qak a5 hY (by decide),RwX.mono a6 (fun _ _ _ q=>qfy q hY (by decide))⟩,⟨b1,b2,b3,b4,qak b5 hY (by decide),b6⟩,⟨c1,c2,c3,c4,qak c5 hY (by decide),c6⟩,⟨d1,d2,d3,d4,qak d5 hY (by decide),d6⟩,⟨e1,e2,e3,e4,qak e5 hY (by decide),e6⟩,⟨f1,f2,f3,f4,qak f5 hY (by decide),RwX.mono f6 (fun _ _ _ q=>qfz q hY (by decide))⟩,⟨g1,g2,g3,g4,qak g5 hY (by decide),g6⟩⟩
theorem qpo {bs:List UInt8} (h:outE bs≠0):dec bs=.error (outE bs):=by
 unfold outE at h ⊢
 unfold dec
 split
 ·rfl
 ·rename_i h1
  rw [if_neg h1] at h
  split
  ·rfl
  ·rename_i h2
   rw [if_neg h2] at h
   split
   ·rfl
   ·rename_i h3
    rw [if_neg h3] at h
    exact absurd rfl h
theorem qqu {bs:List UInt8} (h:outE bs=0):30≤bs.length∧dec bs=match pMid ((bs.drop 8).take (bs.length - 10)) with
  | .error e=>.error e
  | .ok (tb,r)=>if r≠[] then .error 101 else if chkP tb=true then .ok tb else .error 90:=by
 unfold outE at h
 unfold dec
 split at h
 ·cases h
 ·rename_i h1
  rw [if_neg h1]
  split at h
  ·cases h
  ·rename_i h2
   rw [if_neg h2]
   split at h
   ·cases h
   ·rename_i h3
    rw [if_neg h3]
    exact ⟨by omega,rfl⟩
theorem qej {fn:Func} {m q:Nat} (hf:fn.results=#[.cell m 30,.cell q 32]) (tmps:Array Value) (b d:Nat) (w:World) (z0 z1 z2 z3 z4 z5 z6 z7 z8 z9 z10 z11 z12 u:Value) (h2:tmps[m]?=some (.pointer (some ⟨b,0,none⟩))) (h3:tmps[q]?=some (.pointer (some ⟨d,0,none⟩))) (hk:w.heap[b]?=some (.cells #[z0,z1,z2,z3,z4,z5,z6,z7,z8,z9,z10,z11,z12] 30)) (hj:w.heap[d]?=some (.cells #[u] 32)):(results fn tmps).run Tryz.prog w=.ok (.tuple #[.agg #[z0,z1,z2,z3,z4,z5,z6,z7,z8,z9,z10,z11,z12],u]) w:=by
 have a1:=fun i=>cell_of_row w b i _ _ (0,0) hk
 have a2:=fun i=>cell_of_row w d i _ _ (0,0) hj
 have y0:=a1 0
 have y1:=a1 1
 have y2:=a1 2
 have y3:=a1 3
 have y4:=a1 4
 have y5:=a1 5
 have y6:=a1 6
 have y7:=a1 7
 have y8:=a1 8
 have y9:=a1 9
 have y10:=a1 10
 have y11:=a1 11
 have y12:=a1 12
 have y:=a2 0
 simp at y0 y1 y2 y3 y4 y5 y6 y7 y8 y9 y10 y11 y12 y
 simp [results,hf,go_sem,h2,h3,y0,y1,y2,y3,y4,y5,y6,y7,y8,y9,y10,y11,y12,y]
theorem qdw {w:World} {a:Option Addr} {n c:Nat} {bs:List UInt8} (h:Rd w a n c bs):Calls Tryz.prog 15 #[.slice a n c] w fun e w'=>DP w (dec bs) e w':=by
 have hmf:∀(fn:Fn) (first cap:Array Value) (w:World),(Instr.makeFunc fn first cap).run Tryz.prog w=.ok (.func fn first cap) w:=fun _ _ _ _=>rfl
 have hb2:=belT (qa0 w (.cells qV 30)) (qa0 (w.alloc (.cells qV 30)) (.cells #[I 0] 32))
 have hY2:=((qa0 (w.alloc (.cells qV 30)) (.cells #[I 0] 32)).block _ (qa5 (heap_alloc_new w (.cells qV 30)))).trans (heap_alloc_new w (.cells qV 30))
 have hE2:=heap_alloc_new (w.alloc (.cells qV 30)) (.cells #[I 0] 32)
 rw [show (w.alloc (.cells qV 30)).heap.size=w.heap.size+1 by simp] at hE2
 obtain ⟨D,hD⟩:∃D,D=dec bs:=⟨_,rfl⟩
 rw [←hD]
 have HD:Hid (D=dec bs):=hD
 clear hD
 go_enter_defers Tryz.func15,Tryz.ntmps15
 go_wp2_with fail
 generalize (w.alloc (.cells qV 30)).alloc (.cells #[I 0] 32)=w2 at *
 have hl:=h.hlen
 have ho:=qjr (h.below hb2)
 refine ho.mono ?_
 clear ho
 rintro e w3 ⟨rfl,hb3⟩
 have hY3:=(hb3.block _ (qa5 hY2)).trans hY2
 have hE3:=(hb3.block _ (qa5 hE2)).trans hE2
 have hbw:=belT hb2 hb3
 have ce:w3.cell? ⟨w.heap.size+1,0,none⟩=some (I 0):=by rw [qcr hE3];rfl
 have fe:w3.frozen? ⟨w.heap.size+1,0,none⟩=false:=frozen_of_row _ _ _ _ _ hE3
 have hE4:=heap_setCell_same w3 (w.heap.size+1) 0 _ _ (I (outE bs)) hE3
 have hY4:=(heap_setCell_other w3 ⟨w.heap.size+1,0,none⟩ w.heap.size (I (outE bs)) (by show w.heap.size≠w.heap.size+1;omega)).trans hY3
 have hb4:qB w (w3.setCell ⟨w.heap.size+1,0,none⟩ (I (outE bs))):=qag hbw (by omega)
 have hr4:=h.below hb4
 by_cases hc0:outE bs=0
 case neg=>
  have HZ:Hid (D=.error (outE bs)):=HD.out.trans (qpo hc0)
  have hc1:((outE bs:Int)==0)=false:=by rw [beq_eq_false_iff_ne];omega
  have hbn:((outE bs:Int) != 0)=true:=by simp [bne,hc1]
  generalize outE bs=k at *
  clear hc0 hY3 hE3 hb3 hY2 hE2 hb2 h
  go_wp2
  clear ce fe
  generalize w3.setCell ⟨w.heap.size+1,0,none⟩ (I k)=w4 at *
  have hE5:w4.drew.heap[w.heap.size+1]?=some (.cells #[I k] 32):=hE4
  have hY5:w4.drew.heap[w.heap.size]?=some (.cells qV 30):=hY4
  have hb5:qB w w4.drew:=hb4.drew
  refine wp_region_noPanic ?_
  have hcE:w4.drew.cell? ⟨w.heap.size+1,0,none⟩=some (I k):=by rw [qcr hE5];rfl
  refine wp_region_held_drew (S:=fun W=>W.cell? ⟨w.heap.size+1,0,none⟩=some (I k)) (by kernel_rfl) hcE (fun hHeld=>?_)
  change wpAnyH _ _ _ _ _ _ #[false,false,false,false] _ _
  try simp only [qN]
  refine qTI 0 (.agg qV) rfl hHeld ?_
  try simp only [qN]
  refine qTI 1 (I k) rfl hHeld ?_
  try simp only [qN]
  clear hHeld hE4 hY4 hb4
  generalize w4.drew=w5 at *
  obtain ⟨⟨j0,cj0,fj0⟩,⟨j1,cj1,fj1⟩,⟨j2,cj2,fj2⟩,⟨j3,cj3,fj3⟩,⟨j4,cj4,fj4⟩,⟨j5,cj5,fj5⟩,⟨j6,cj6,fj6⟩,⟨j7,cj7,fj7⟩,⟨j8,cj8,fj8⟩,⟨j9,cj9,fj9⟩,⟨j10,cj10,fj10⟩,⟨j11,cj11,fj11⟩,⟨j12,cj12,fj12⟩,k13⟩:=qdq (I 0) (I 0) qZ qZ qZ qZ qZ qZ qZ (I 0) (I 0) (I 0) (I 0) hY5
  refine qR1 (i:=2) rfl (fun K hK=>?_)
  go_simp
  have hb6:qB w ((((((((((((((w5).setCell ⟨w.heap.size,0,none⟩ (I 0)).setCell ⟨w.heap.size,1,none⟩ (I 0)).setCell ⟨w.heap.size,2,none⟩ qZ).setCell ⟨w.heap.size,3,none⟩ qZ).setCell ⟨w.heap.size,4,none⟩ qZ).setCell ⟨w.heap.size,5,none⟩ qZ).setCell ⟨w.heap.size,6,none⟩ qZ).setCell ⟨w.heap.size,7,none⟩ qZ).setCell ⟨w.heap.size,8,none⟩ qZ).setCell ⟨w.heap.size,9,none⟩ (I 0)).setCell ⟨w.heap.size,10,none⟩ (I 0)).setCell ⟨w.heap.size,11,none⟩ (I 0)).setCell ⟨w.heap.size,12,none⟩ (I 0)):=qag (qag (qag (qag (qag (qag (qag (qag (qag (qag (qag (qag (qag (hb5) (Nat.le_refl _)) (Nat.le_refl _)) (Nat.le_refl _)) (Nat.le_refl _)) (Nat.le_refl _)) (Nat.le_refl _)) (Nat.le_refl _)) (Nat.le_refl _)) (Nat.le_refl _)) (Nat.le_refl _)) (Nat.le_refl _)) (Nat.le_refl _)) (Nat.le_refl _)
  have hE6:((((((((((((((w5).setCell ⟨w.heap.size,0,none⟩ (I 0)).setCell ⟨w.heap.size,1,none⟩ (I 0)).setCell ⟨w.heap.size,2,none⟩ qZ).setCell ⟨w.heap.size,3,none⟩ qZ).setCell ⟨w.heap.size,4,none⟩ qZ).setCell ⟨w.heap.size,5,none⟩ qZ).setCell ⟨w.heap.size,6,none⟩ qZ).setCell ⟨w.heap.size,7,none⟩ qZ).setCell ⟨w.heap.size,8,none⟩ qZ).setCell ⟨w.heap.size,9,none⟩ (I 0)).setCell ⟨w.heap.size,10,none⟩ (I 0)).setCell ⟨w.heap.size,11,none⟩ (I 0)).setCell ⟨w.heap.size,12,none⟩ (I 0)).heap[w.heap.size+1]?=some (.cells #[I k] 32):=by
   repeat rw [heap_setCell_other _ _ (w.heap.size+1) _ (by show w.heap.size+1≠w.heap.size;omega)]
   exact hE5
  have hc6:((((((((((((((w5).setCell ⟨w.heap.size,0,none⟩ (I 0)).setCell ⟨w.heap.size,1,none⟩ (I 0)).setCell ⟨w.heap.size,2,none⟩ qZ).setCell ⟨w.heap.size,3,none⟩ qZ).setCell ⟨w.heap.size,4,none⟩ qZ).setCell ⟨w.heap.size,5,none⟩ qZ).setCell ⟨w.heap.size,6,none⟩ qZ).setCell ⟨w.heap.size,7,none⟩ qZ).setCell ⟨w.heap.size,8,none⟩ qZ).setCell ⟨w.heap.size,9,none⟩ (I 0)).setCell ⟨w.heap.size,10,none⟩ (I 0)).setCell ⟨w.heap.size,11,none⟩ (I 0)).setCell ⟨w.heap.size,12,none⟩ (I 0)).cell? ⟨w.heap.size+1,0,none⟩=some (I k):=by rw [qcr hE6];rfl
  refine hK.out _ _ hc6 (fun hSS=>?_)
  clear hSS hK K j0 j1 j2 j3 j4 j5 j6 j7 j8 j9 j10 j11 j12 cj0 cj1 cj2 cj3 cj4 cj5 cj6 cj7 cj8 cj9 cj10 cj11 cj12 fj0 fj1 fj2 fj3 fj4 fj5 fj6 fj7 fj8 fj9 fj10 fj11 fj12 hY5 hE5 hb5 hcE
  try simp only [qN]
  generalize (((((((((((((w5).setCell ⟨w.heap.size,0,none⟩ (I 0)).setCell ⟨w.heap.size,1,none⟩ (I 0)).setCell ⟨w.heap.size,2,none⟩ (.slice none 0 0)).setCell ⟨w.heap.size,3,none⟩ (.slice none 0 0)).setCell ⟨w.heap.size,4,none⟩ (.slice none 0 0)).setCell ⟨w.heap.size,5,none⟩ (.slice none 0 0)).setCell ⟨w.heap.size,6,none⟩ (.slice none 0 0)).setCell ⟨w.heap.size,7,none⟩ (.slice none 0 0)).setCell ⟨w.heap.size,8,none⟩ (.slice none 0 0)).setCell ⟨w.heap.size,9,none⟩ (I 0)).setCell ⟨w.heap.size,10,none⟩ (I 0)).setCell ⟨w.heap.size,11,none⟩ (I 0)).setCell ⟨w.heap.size,12,none⟩ (I 0)=w6 at *
  refine qR1 (i:=3) rfl (fun K hK=>?_)
  have f6:w6.frozen? ⟨w.heap.size+1,0,none⟩=false:=frozen_of_row _ _ _ _ _ hE6
  go_simp
  have hE7:=heap_setCell_same w6 (w.heap.size+1) 0 _ _ (I k) hE6
  have hY7:=(heap_setCell_other w6 ⟨w.heap.size+1,0,none⟩ w.heap.size (I k) (by show w.heap.size≠w.heap.size+1;omega)).trans k13
  have hb7:qB w (w6.setCell ⟨w.heap.size+1,0,none⟩ (I k)):=qag hb6 (by omega)
  refine hK.out _ _ (by rw [qcr hE7];rfl) (fun hSS=>?_)
  clear hSS hK K
  try simp only [qN]
  refine wpAnyH_done (by kernel_rfl) ?_ _
  refine NoPanic.normal ?_
  clear f6 hc6 hE6 hb6 k13
  generalize w6.setCell ⟨w.heap.size+1,0,none⟩ (I k)=w7 at *
  go_wp2
  refine leaves_cons (f:=34) (args:=#[.pointer (some ⟨w.heap.size,0,none⟩),.pointer (some ⟨w.heap.size+1,0,none⟩)]) (by simp) (by simp [go_sem]) ?_
  refine (qe3 w.heap.size (w.heap.size+1) w7).mono ?_
  rintro e u' w9 ⟨rfl,rfl,rfl⟩
  show Leaves _ _ _ _ [] (settle _) w9
  rw [HZ.out]
  exact ⟨_,qej Tryz.results15 _ w.heap.size (w.heap.size+1) _ _ _ _ _ _ _ _ _ _ _ _ _ _ _ rfl rfl hY7 hE7,rfl,hb7⟩
 obtain ⟨h30,hdec⟩:=qqu hc0
 rw [hl] at h30 hdec
 have HD2:Hid (D=_):=HD.out.trans hdec
 obtain ⟨g,off,rfl,hg0,-⟩:=h.hcell (by omega)
 rw [hc0] at hE4 hY4 hb4 hr4
 have hrt:=qh7 hr4 (by omega)
 rw [hc0]
 have HRT:Hid _:=hrt
 have HYB:Hid ((w3.setCell ⟨w.heap.size+1,0,none⟩ (I (0:Nat))).heap[w.heap.size]?=some (.cells qV 30)∧(w3.setCell ⟨w.heap.size+1,0,none⟩ (I (0:Nat))).heap[w.heap.size+1]?=some (.cells #[I 0] 32)∧qB w (w3.setCell ⟨w.heap.size+1,0,none⟩ (I (0:Nat)))):=⟨hY4,hE4,hb4⟩
 clear hc0 hY3 hE3 hb3 hY2 hE2 hb2 h hdec HD hrt hl h30 hg0 hY4 hE4 hb4 hr4 hbw
 go_wp2_with fail
 clear ce fe
 obtain ⟨hY4,hE4,hb4⟩:=HYB.out
 have hrt:=HRT.out
 clear HYB HRT
 generalize w3.setCell ⟨w.heap.size+1,0,none⟩ (I (0:Nat))=w4 at *
 have hE4:w4.heap[w.heap.size+1]?=some (.cells #[I 0] 32):=hE4
 have hE4l:=qa5 hE4
 refine Calls.mono hrt ?_
 clear hrt
 intro e w5 hRT
 have FIN:∀c:Nat,Hid (D=.error c)→qB w4 w5→CallsD Tryz.prog 34 #[.pointer (some ⟨w.heap.size,0,none⟩),.pointer (some ⟨w.heap.size+1,0,none⟩)] (.panicking [{ v:=.iface 145 (.agg #[I c]),recovered:=false }]) w5 fun e u' w'=>e=.returned (.tuple #[])∧u'=.panicking [{ v:=.iface 145 (.agg #[I c]),recovered:=true }]∧qB w w'∧w'.heap[w.heap.size]?=some (.cells qV 30)∧w'.heap[w.heap.size+1]?=some (.cells #[I c] 32):=fun c _ hb5=>by
  have hY5:=(hb5.block _ (qa5 hY4)).trans hY4
  have hE5:=(hb5.block _ (qa5 hE4)).trans hE4
  have hbb:=belT hb4 hb5
  refine (qjs w.heap.size (w.heap.size+1) c [] w5 hY5 hE5 (by omega) w.heap.size (Nat.le_refl _) (by omega) hbb.size).mono ?_
  rintro e u' w9 ⟨rfl,rfl,hb9,hY9,hE9⟩
  exact ⟨rfl,rfl,hbb.trans hb9,hY9,hE9⟩
 have HF:Hid _:=FIN
 clear FIN
 rcases hp:pMid ((bs.drop 8).take (n - 10)) with c | ⟨tb,rest⟩
 ·rw [hp] at hRT
  obtain ⟨rfl,hb5⟩:=hRT
  have HZ:Hid (D=.error c):=by show _=_;rw [HD2.out,hp]
  have hcp:=HF.out c HZ hb5
  refine leaves_cons (f:=34) (args:=#[.pointer (some ⟨w.heap.size,0,none⟩),.pointer (some ⟨w.heap.size+1,0,none⟩)]) (by simp) (by simp [go_sem]) ?_
  refine hcp.mono ?_
  rintro e u' w9 ⟨rfl,rfl,hb9,hY9,hE9⟩
  show Leaves _ _ _ _ [] (settle _) w9
  rw [HZ.out]
  exact ⟨_,qej Tryz.results15 _ w.heap.size (w.heap.size+1) _ _ _ _ _ _ _ _ _ _ _ _ _ _ _ rfl rfl hY9 hE9,rfl,hb9⟩
 rw [hp] at hRT
 cases rest with
 | cons y ys=>
  obtain ⟨rfl,hb5⟩:=hRT
  have HZ:Hid (D=.error 101):=by show _=_;rw [HD2.out,hp];rfl
  have hcp:=HF.out 101 HZ hb5
  refine leaves_cons (f:=34) (args:=#[.pointer (some ⟨w.heap.size,0,none⟩),.pointer (some ⟨w.heap.size+1,0,none⟩)]) (by simp) (by simp [go_sem]) ?_
  refine hcp.mono ?_
  rintro e u' w9 ⟨rfl,rfl,hb9,hY9,hE9⟩
  show Leaves _ _ _ _ [] (settle _) w9
  rw [HZ.out]
  exact ⟨_,qej Tryz.results15 _ w.heap.size (w.heap.size+1) _ _ _ _ _ _ _ _ _ _ _ _ _ _ _ rfl rfl hY9 hE9,rfl,hb9⟩
 | nil=>
  obtain ⟨v,lo,hlo,rfl,hO,hb5⟩:=hRT
  have HOK:Hid (okTb tb):=(cod_pMid.bwd _ _ _ hp).1
  have HZ:Hid (D=if chkP tb=true then .ok tb else .error 90):=by
   show _=_
   rw [HD2.out,hp]
   rfl
  have hY5:=(hb5.block _ (qa5 hY4)).trans hY4
  have hE5:=(hb5.block _ (qa5 hE4)).trans hE4
  have hbb:=belT hb4 hb5
  have hlo2:w.heap.size≤lo:=by omega
  have hwf:=qos HOK.out
  clear hb5 hY4 hE4 hb4 hp HD2 HF HOK
  obtain ⟨⟨j0,cj0,fj0⟩,⟨j1,cj1,fj1⟩,⟨j2,cj2,fj2⟩,⟨j3,cj3,fj3⟩,⟨j4,cj4,fj4⟩,⟨j5,cj5,fj5⟩,⟨j6,cj6,fj6⟩,⟨j7,cj7,fj7⟩,⟨j8,cj8,fj8⟩,⟨j9,cj9,fj9⟩,⟨j10,cj10,fj10⟩,⟨j11,cj11,fj11⟩,⟨j12,cj12,fj12⟩,k13⟩:=qdq (I tb.uses) (I tb.modes) (.slice v.t.a v.t.n v.t.c) (.slice v.g.a v.g.n v.g.c) (.slice v.r.a v.r.n v.r.c) (.slice v.k.a v.k.n v.k.c) (.slice v.a.a v.a.n v.a.c) (.slice v.i.a v.i.n v.i.c) (.slice v.s.a v.s.n v.s.c) (I tb.depth) (I tb.frames) (I tb.errors) (I tb.calls) hY5
  have hb6:qB w ((((((((((((((w5).setCell ⟨w.heap.size,0,none⟩ (I tb.uses)).setCell ⟨w.heap.size,1,none⟩ (I tb.modes)).setCell ⟨w.heap.size,2,none⟩ (.slice v.t.a v.t.n v.t.c)).setCell ⟨w.heap.size,3,none⟩ (.slice v.g.a v.g.n v.g.c)).setCell ⟨w.heap.size,4,none⟩ (.slice v.r.a v.r.n v.r.c)).setCell ⟨w.heap.size,5,none⟩ (.slice v.k.a v.k.n v.k.c)).setCell ⟨w.heap.size,6,none⟩ (.slice v.a.a v.a.n v.a.c)).setCell ⟨w.heap.size,7,none⟩ (.slice v.i.a v.i.n v.i.c)).setCell ⟨w.heap.size,8,none⟩ (.slice v.s.a v.s.n v.s.c)).setCell ⟨w.heap.size,9,none⟩ (I tb.depth)).setCell ⟨w.heap.size,10,none⟩ (I tb.frames)).setCell ⟨w.heap.size,11,none⟩ (I tb.errors)).setCell ⟨w.heap.size,12,none⟩ (I tb.calls)):=qag (qag (qag (qag (qag (qag (qag (qag (qag (qag (qag (qag (qag (hbb) (Nat.le_refl _)) (Nat.le_refl _)) (Nat.le_refl _)) (Nat.le_refl _)) (Nat.le_refl _)) (Nat.le_refl _)) (Nat.le_refl _)) (Nat.le_refl _)) (Nat.le_refl _)) (Nat.le_refl _)) (Nat.le_refl _)) (Nat.le_refl _)) (Nat.le_refl _)
  have hE6:((((((((((((((w5).setCell ⟨w.heap.size,0,none⟩ (I tb.uses)).setCell ⟨w.heap.size,1,none⟩ (I tb.modes)).setCell ⟨w.heap.size,2,none⟩ (.slice v.t.a v.t.n v.t.c)).setCell ⟨w.heap.size,3,none⟩ (.slice v.g.a v.g.n v.g.c)).setCell ⟨w.heap.size,4,none⟩ (.slice v.r.a v.r.n v.r.c)).setCell ⟨w.heap.size,5,none⟩ (.slice v.k.a v.k.n v.k.c)).setCell ⟨w.heap.size,6,none⟩ (.slice v.a.a v.a.n v.a.c)).setCell ⟨w.heap.size,7,none⟩ (.slice v.i.a v.i.n v.i.c)).setCell ⟨w.heap.size,8,none⟩ (.slice v.s.a v.s.n v.s.c)).setCell ⟨w.heap.size,9,none⟩ (I tb.depth)).setCell ⟨w.heap.size,10,none⟩ (I tb.frames)).setCell ⟨w.heap.size,11,none⟩ (I tb.errors)).setCell ⟨w.heap.size,12,none⟩ (I tb.calls)).heap[w.heap.size+1]?=some (.cells #[I 0] 32):=by
   repeat rw [heap_setCell_other _ _ (w.heap.size+1) _ (by show w.heap.size+1≠w.heap.size;omega)]
   exact hE5
  have hO6:TbO ((((((((((((((w5).setCell ⟨w.heap.size,0,none⟩ (I tb.uses)).setCell ⟨w.heap.size,1,none⟩ (I tb.modes)).setCell ⟨w.heap.size,2,none⟩ (.slice v.t.a v.t.n v.t.c)).setCell ⟨w.heap.size,3,none⟩ (.slice v.g.a v.g.n v.g.c)).setCell ⟨w.heap.size,4,none⟩ (.slice v.r.a v.r.n v.r.c)).setCell ⟨w.heap.size,5,none⟩ (.slice v.k.a v.k.n v.k.c)).setCell ⟨w.heap.size,6,none⟩ (.slice v.a.a v.a.n v.a.c)).setCell ⟨w.heap.size,7,none⟩ (.slice v.i.a v.i.n v.i.c)).setCell ⟨w.heap.size,8,none⟩ (.slice v.s.a v.s.n v.s.c)).setCell ⟨w.heap.size,9,none⟩ (I tb.depth)).setCell ⟨w.heap.size,10,none⟩ (I tb.frames)).setCell ⟨w.heap.size,11,none⟩ (I tb.errors)).setCell ⟨w.heap.size,12,none⟩ (I tb.calls)) lo tb v:=(TbO.setY (TbO.setY (TbO.setY (TbO.setY (TbO.setY (TbO.setY (TbO.setY (TbO.setY (TbO.setY (TbO.setY (TbO.setY (TbO.setY (TbO.setY hO j0) j1) j2) j3) j4) j5) j6) j7) j8) j9) j10) j11) j12)
  have k13:((((((((((((((w5).setCell ⟨w.heap.size,0,none⟩ (I tb.uses)).setCell ⟨w.heap.size,1,none⟩ (I tb.modes)).setCell ⟨w.heap.size,2,none⟩ (.slice v.t.a v.t.n v.t.c)).setCell ⟨w.heap.size,3,none⟩ (.slice v.g.a v.g.n v.g.c)).setCell ⟨w.heap.size,4,none⟩ (.slice v.r.a v.r.n v.r.c)).setCell ⟨w.heap.size,5,none⟩ (.slice v.k.a v.k.n v.k.c)).setCell ⟨w.heap.size,6,none⟩ (.slice v.a.a v.a.n v.a.c)).setCell ⟨w.heap.size,7,none⟩ (.slice v.i.a v.i.n v.i.c)).setCell ⟨w.heap.size,8,none⟩ (.slice v.s.a v.s.n v.s.c)).setCell ⟨w.heap.size,9,none⟩ (I tb.depth)).setCell ⟨w.heap.size,10,none⟩ (I tb.frames)).setCell ⟨w.heap.size,11,none⟩ (I tb.errors)).setCell ⟨w.heap.size,12,none⟩ (I tb.calls)).heap[w.heap.size]?=some (.cells (qC tb v) 30):=k13
  unfold tbC
  clear j0 j1 j2 j3 j4 j5 j6 j7 j8 j9 j10 j11 j12 hY5 hE5 hbb hO
  go_upto_region 6 with fail
  clear cj0 cj1 cj2 cj3 cj4 cj5 cj6 cj7 cj8 cj9 cj10 cj11 cj12 fj0 fj1 fj2 fj3 fj4 fj5 fj6 fj7 fj8 fj9 fj10 fj11 fj12
  generalize (((((((((((((w5).setCell ⟨w.heap.size,0,none⟩ (I tb.uses)).setCell ⟨w.heap.size,1,none⟩ (I tb.modes)).setCell ⟨w.heap.size,2,none⟩ (.slice v.t.a v.t.n v.t.c)).setCell ⟨w.heap.size,3,none⟩ (.slice v.g.a v.g.n v.g.c)).setCell ⟨w.heap.size,4,none⟩ (.slice v.r.a v.r.n v.r.c)).setCell ⟨w.heap.size,5,none⟩ (.slice v.k.a v.k.n v.k.c)).setCell ⟨w.heap.size,6,none⟩ (.slice v.a.a v.a.n v.a.c)).setCell ⟨w.heap.size,7,none⟩ (.slice v.i.a v.i.n v.i.c)).setCell ⟨w.heap.size,8,none⟩ (.slice v.s.a v.s.n v.s.c)).setCell ⟨w.heap.size,9,none⟩ (I tb.depth)).setCell ⟨w.heap.size,10,none⟩ (I tb.frames)).setCell ⟨w.heap.size,11,none⟩ (I tb.errors)).setCell ⟨w.heap.size,12,none⟩ (I tb.calls)=w6 at *
  have hK:=qf6 tb v w6 hO6.at hwf
  have c6_0:w6.cell? ⟨w.heap.size,0,none⟩=some (I tb.uses):=by rw [qcr k13];rfl
  have c6_1:w6.cell? ⟨w.heap.size,1,none⟩=some (I tb.modes):=by rw [qcr k13];rfl
  have c6_2:w6.cell? ⟨w.heap.size,2,none⟩=some (.slice v.t.a v.t.n v.t.c):=by rw [qcr k13];rfl
  have c6_3:w6.cell? ⟨w.heap.size,3,none⟩=some (.slice v.g.a v.g.n v.g.c):=by rw [qcr k13];rfl
  have c6_4:w6.cell? ⟨w.heap.size,4,none⟩=some (.slice v.r.a v.r.n v.r.c):=by rw [qcr k13];rfl
  have c6_5:w6.cell? ⟨w.heap.size,5,none⟩=some (.slice v.k.a v.k.n v.k.c):=by rw [qcr k13];rfl
  have c6_6:w6.cell? ⟨w.heap.size,6,none⟩=some (.slice v.a.a v.a.n v.a.c):=by rw [qcr k13];rfl
  have c6_7:w6.cell? ⟨w.heap.size,7,none⟩=some (.slice v.i.a v.i.n v.i.c):=by rw [qcr k13];rfl
  have c6_8:w6.cell? ⟨w.heap.size,8,none⟩=some (.slice v.s.a v.s.n v.s.c):=by rw [qcr k13];rfl
  have c6_9:w6.cell? ⟨w.heap.size,9,none⟩=some (I tb.depth):=by rw [qcr k13];rfl
  have c6_10:w6.cell? ⟨w.heap.size,10,none⟩=some (I tb.frames):=by rw [qcr k13];rfl
  have c6_11:w6.cell? ⟨w.heap.size,11,none⟩=some (I tb.errors):=by rw [qcr k13];rfl
  have c6_12:w6.cell? ⟨w.heap.size,12,none⟩=some (I tb.calls):=by rw [qcr k13];rfl
  unfold tbC at hK
  by_cases hc:chkP tb=true
  ·rw [if_pos hc] at hK HZ
   clear hc
   go_upto_region 8 with (first | (go_at_call 14;refine hK.mono ?_;clear hK;rintro e w7 ⟨rfl,b7⟩))
   have hY7:=(b7.block _ (qa5 k13)).trans k13
   have hE7:=(b7.block _ (qa5 hE6)).trans hE6
   have hb7:=belT hb6 b7
   have hO7:=hO6.below b7
   clear c6_0 c6_1 c6_2 c6_3 c6_4 c6_5 c6_6 c6_7 c6_8 c6_9 c6_10 c6_11 c6_12 k13 hE6 hb6 hO6 b7
   obtain ⟨⟨j0,cj0,fj0⟩,⟨j1,cj1,fj1⟩,⟨j2,cj2,fj2⟩,⟨j3,cj3,fj3⟩,⟨j4,cj4,fj4⟩,⟨j5,cj5,fj5⟩,⟨j6,cj6,fj6⟩,⟨j7,cj7,fj7⟩,⟨j8,cj8,fj8⟩,⟨j9,cj9,fj9⟩,⟨j10,cj10,fj10⟩,⟨j11,cj11,fj11⟩,⟨j12,cj12,fj12⟩,k13⟩:=qdq (I tb.uses) (I tb.modes) (.slice v.t.a v.t.n v.t.c) (.slice v.g.a v.g.n v.g.c) (.slice v.r.a v.r.n v.r.c) (.slice v.k.a v.k.n v.k.c) (.slice v.a.a v.a.n v.a.c) (.slice v.i.a v.i.n v.i.c) (.slice v.s.a v.s.n v.s.c) (I tb.depth) (I tb.frames) (I tb.errors) (I tb.calls) hY7
   have hb8:qB w ((((((((((((((w7).setCell ⟨w.heap.size,0,none⟩ (I tb.uses)).setCell ⟨w.heap.size,1,none⟩ (I tb.modes)).setCell ⟨w.heap.size,2,none⟩ (.slice v.t.a v.t.n v.t.c)).setCell ⟨w.heap.size,3,none⟩ (.slice v.g.a v.g.n v.g.c)).setCell ⟨w.heap.size,4,none⟩ (.slice v.r.a v.r.n v.r.c)).setCell ⟨w.heap.size,5,none⟩ (.slice v.k.a v.k.n v.k.c)).setCell ⟨w.heap.size,6,none⟩ (.slice v.a.a v.a.n v.a.c)).setCell ⟨w.heap.size,7,none⟩ (.slice v.i.a v.i.n v.i.c)).setCell ⟨w.heap.size,8,none⟩ (.slice v.s.a v.s.n v.s.c)).setCell ⟨w.heap.size,9,none⟩ (I tb.depth)).setCell ⟨w.heap.size,10,none⟩ (I tb.frames)).setCell ⟨w.heap.size,11,none⟩ (I tb.errors)).setCell ⟨w.heap.size,12,none⟩ (I tb.calls)):=qag (qag (qag (qag (qag (qag (qag (qag (qag (qag (qag (qag (qag (hb7) (Nat.le_refl _)) (Nat.le_refl _)) (Nat.le_refl _)) (Nat.le_refl _)) (Nat.le_refl _)) (Nat.le_refl _)) (Nat.le_refl _)) (Nat.le_refl _)) (Nat.le_refl _)) (Nat.le_refl _)) (Nat.le_refl _)) (Nat.le_refl _)) (Nat.le_refl _)
   have hE8:((((((((((((((w7).setCell ⟨w.heap.size,0,none⟩ (I tb.uses)).setCell ⟨w.heap.size,1,none⟩ (I tb.modes)).setCell ⟨w.heap.size,2,none⟩ (.slice v.t.a v.t.n v.t.c)).setCell ⟨w.heap.size,3,none⟩ (.slice v.g.a v.g.n v.g.c)).setCell ⟨w.heap.size,4,none⟩ (.slice v.r.a v.r.n v.r.c)).setCell ⟨w.heap.size,5,none⟩ (.slice v.k.a v.k.n v.k.c)).setCell ⟨w.heap.size,6,none⟩ (.slice v.a.a v.a.n v.a.c)).setCell ⟨w.heap.size,7,none⟩ (.slice v.i.a v.i.n v.i.c)).setCell ⟨w.heap.size,8,none⟩ (.slice v.s.a v.s.n v.s.c)).setCell ⟨w.heap.size,9,none⟩ (I tb.depth)).setCell ⟨w.heap.size,10,none⟩ (I tb.frames)).setCell ⟨w.heap.size,11,none⟩ (I tb.errors)).setCell ⟨w.heap.size,12,none⟩ (I tb.calls)).heap[w.heap.size+1]?=some (.cells #[I 0] 32):=by
    repeat rw [heap_setCell_other _ _ (w.heap.size+1) _ (by show w.heap.size+1≠w.heap.size;omega)]
    exact hE7
   have hO8:TbO ((((((((((((((w7).setCell ⟨w.heap.size,0,none⟩ (I tb.uses)).setCell ⟨w.heap.size,1,none⟩ (I tb.modes)).setCell ⟨w.heap.size,2,none⟩ (.slice v.t.a v.t.n v.t.c)).setCell ⟨w.heap.size,3,none⟩ (.slice v.g.a v.g.n v.g.c)).setCell ⟨w.heap.size,4,none⟩ (.slice v.r.a v.r.n v.r.c)).setCell ⟨w.heap.size,5,none⟩ (.slice v.k.a v.k.n v.k.c)).setCell ⟨w.heap.size,6,none⟩ (.slice v.a.a v.a.n v.a.c)).setCell ⟨w.heap.size,7,none⟩ (.slice v.i.a v.i.n v.i.c)).setCell ⟨w.heap.size,8,none⟩ (.slice v.s.a v.s.n v.s.c)).setCell ⟨w.heap.size,9,none⟩ (I tb.depth)).setCell ⟨w.heap.size,10,none⟩ (I tb.frames)).setCell ⟨w.heap.size,11,none⟩ (I tb.errors)).setCell ⟨w.heap.size,12,none⟩ (I tb.calls)) lo tb v:=(TbO.setY (TbO.setY (TbO.setY (TbO.setY (TbO.setY (TbO.setY (TbO.setY (TbO.setY (TbO.setY (TbO.setY (TbO.setY (TbO.setY (TbO.setY hO7 j0) j1) j2) j3) j4) j5) j6) j7) j8) j9) j10) j11) j12)
   have hYY:((((((((((((((w7).setCell ⟨w.heap.size,0,none⟩ (I tb.uses)).setCell ⟨w.heap.size,1,none⟩ (I tb.modes)).setCell ⟨w.heap.size,2,none⟩ (.slice v.t.a v.t.n v.t.c)).setCell ⟨w.heap.size,3,none⟩ (.slice v.g.a v.g.n v.g.c)).setCell ⟨w.heap.size,4,none⟩ (.slice v.r.a v.r.n v.r.c)).setCell ⟨w.heap.size,5,none⟩ (.slice v.k.a v.k.n v.k.c)).setCell ⟨w.heap.size,6,none⟩ (.slice v.a.a v.a.n v.a.c)).setCell ⟨w.heap.size,7,none⟩ (.slice v.i.a v.i.n v.i.c)).setCell ⟨w.heap.size,8,none⟩ (.slice v.s.a v.s.n v.s.c)).setCell ⟨w.heap.size,9,none⟩ (I tb.depth)).setCell ⟨w.heap.size,10,none⟩ (I tb.frames)).setCell ⟨w.heap.size,11,none⟩ (I tb.errors)).setCell ⟨w.heap.size,12,none⟩ (I tb.calls)).heap[w.heap.size]?=some (.cells (qC tb v) 30):=k13
   have c8:((((((((((((((w7).setCell ⟨w.heap.size,0,none⟩ (I tb.uses)).setCell ⟨w.heap.size,1,none⟩ (I tb.modes)).setCell ⟨w.heap.size,2,none⟩ (.slice v.t.a v.t.n v.t.c)).setCell ⟨w.heap.size,3,none⟩ (.slice v.g.a v.g.n v.g.c)).setCell ⟨w.heap.size,4,none⟩ (.slice v.r.a v.r.n v.r.c)).setCell ⟨w.heap.size,5,none⟩ (.slice v.k.a v.k.n v.k.c)).setCell ⟨w.heap.size,6,none⟩ (.slice v.a.a v.a.n v.a.c)).setCell ⟨w.heap.size,7,none⟩ (.slice v.i.a v.i.n v.i.c)).setCell ⟨w.heap.size,8,none⟩ (.slice v.s.a v.s.n v.s.c)).setCell ⟨w.heap.size,9,none⟩ (I tb.depth)).setCell ⟨w.heap.size,10,none⟩ (I tb.frames)).setCell ⟨w.heap.size,11,none⟩ (I tb.errors)).setCell ⟨w.heap.size,12,none⟩ (I tb.calls)).cell? ⟨w.heap.size+1,0,none⟩=some (I 0):=by rw [qcr hE8];rfl
   have f8:((((((((((((((w7).setCell ⟨w.heap.size,0,none⟩ (I tb.uses)).setCell ⟨w.heap.size,1,none⟩ (I tb.modes)).setCell ⟨w.heap.size,2,none⟩ (.slice v.t.a v.t.n v.t.c)).setCell ⟨w.heap.size,3,none⟩ (.slice v.g.a v.g.n v.g.c)).setCell ⟨w.heap.size,4,none⟩ (.slice v.r.a v.r.n v.r.c)).setCell ⟨w.heap.size,5,none⟩ (.slice v.k.a v.k.n v.k.c)).setCell ⟨w.heap.size,6,none⟩ (.slice v.a.a v.a.n v.a.c)).setCell ⟨w.heap.size,7,none⟩ (.slice v.i.a v.i.n v.i.c)).setCell ⟨w.heap.size,8,none⟩ (.slice v.s.a v.s.n v.s.c)).setCell ⟨w.heap.size,9,none⟩ (I tb.depth)).setCell ⟨w.heap.size,10,none⟩ (I tb.frames)).setCell ⟨w.heap.size,11,none⟩ (I tb.errors)).setCell ⟨w.heap.size,12,none⟩ (I tb.calls)).frozen? ⟨w.heap.size+1,0,none⟩=false:=frozen_of_row _ _ _ _ _ hE8
   have hE9:=heap_setCell_same ((((((((((((((w7).setCell ⟨w.heap.size,0,none⟩ (I tb.uses)).setCell ⟨w.heap.size,1,none⟩ (I tb.modes)).setCell ⟨w.heap.size,2,none⟩ (.slice v.t.a v.t.n v.t.c)).setCell ⟨w.heap.size,3,none⟩ (.slice v.g.a v.g.n v.g.c)).setCell ⟨w.heap.size,4,none⟩ (.slice v.r.a v.r.n v.r.c)).setCell ⟨w.heap.size,5,none⟩ (.slice v.k.a v.k.n v.k.c)).setCell ⟨w.heap.size,6,none⟩ (.slice v.a.a v.a.n v.a.c)).setCell ⟨w.heap.size,7,none⟩ (.slice v.i.a v.i.n v.i.c)).setCell ⟨w.heap.size,8,none⟩ (.slice v.s.a v.s.n v.s.c)).setCell ⟨w.heap.size,9,none⟩ (I tb.depth)).setCell ⟨w.heap.size,10,none⟩ (I tb.frames)).setCell ⟨w.heap.size,11,none⟩ (I tb.errors)).setCell ⟨w.heap.size,12,none⟩ (I tb.calls)) (w.heap.size+1) 0 _ _ (I 0) hE8
   have hY9:=(heap_setCell_other ((((((((((((((w7).setCell ⟨w.heap.size,0,none⟩ (I tb.uses)).setCell ⟨w.heap.size,1,none⟩ (I tb.modes)).setCell ⟨w.heap.size,2,none⟩ (.slice v.t.a v.t.n v.t.c)).setCell ⟨w.heap.size,3,none⟩ (.slice v.g.a v.g.n v.g.c)).setCell ⟨w.heap.size,4,none⟩ (.slice v.r.a v.r.n v.r.c)).setCell ⟨w.heap.size,5,none⟩ (.slice v.k.a v.k.n v.k.c)).setCell ⟨w.heap.size,6,none⟩ (.slice v.a.a v.a.n v.a.c)).setCell ⟨w.heap.size,7,none⟩ (.slice v.i.a v.i.n v.i.c)).setCell ⟨w.heap.size,8,none⟩ (.slice v.s.a v.s.n v.s.c)).setCell ⟨w.heap.size,9,none⟩ (I tb.depth)).setCell ⟨w.heap.size,10,none⟩ (I tb.frames)).setCell ⟨w.heap.size,11,none⟩ (I tb.errors)).setCell ⟨w.heap.size,12,none⟩ (I tb.calls)) ⟨w.heap.size+1,0,none⟩ w.heap.size (I 0) (by show w.heap.size≠w.heap.size+1;omega)).trans hYY
   have hb9:qB w (((((((((((((((w7).setCell ⟨w.heap.size,0,none⟩ (I tb.uses)).setCell ⟨w.heap.size,1,none⟩ (I tb.modes)).setCell ⟨w.heap.size,2,none⟩ (.slice v.t.a v.t.n v.t.c)).setCell ⟨w.heap.size,3,none⟩ (.slice v.g.a v.g.n v.g.c)).setCell ⟨w.heap.size,4,none⟩ (.slice v.r.a v.r.n v.r.c)).setCell ⟨w.heap.size,5,none⟩ (.slice v.k.a v.k.n v.k.c)).setCell ⟨w.heap.size,6,none⟩ (.slice v.a.a v.a.n v.a.c)).setCell ⟨w.heap.size,7,none⟩ (.slice v.i.a v.i.n v.i.c)).setCell ⟨w.heap.size,8,none⟩ (.slice v.s.a v.s.n v.s.c)).setCell ⟨w.heap.size,9,none⟩ (I tb.depth)).setCell ⟨w.heap.size,10,none⟩ (I tb.frames)).setCell ⟨w.heap.size,11,none⟩ (I tb.errors)).setCell ⟨w.heap.size,12,none⟩ (I tb.calls)).setCell ⟨w.heap.size+1,0,none⟩ (I 0)):=qag hb8 (by omega)
   have hO9:TbO (((((((((((((((w7).setCell ⟨w.heap.size,0,none⟩ (I tb.uses)).setCell ⟨w.heap.size,1,none⟩ (I tb.modes)).setCell ⟨w.heap.size,2,none⟩ (.slice v.t.a v.t.n v.t.c)).setCell ⟨w.heap.size,3,none⟩ (.slice v.g.a v.g.n v.g.c)).setCell ⟨w.heap.size,4,none⟩ (.slice v.r.a v.r.n v.r.c)).setCell ⟨w.heap.size,5,none⟩ (.slice v.k.a v.k.n v.k.c)).setCell ⟨w.heap.size,6,none⟩ (.slice v.a.a v.a.n v.a.c)).setCell ⟨w.heap.size,7,none⟩ (.slice v.i.a v.i.n v.i.c)).setCell ⟨w.heap.size,8,none⟩ (.slice v.s.a v.s.n v.s.c)).setCell ⟨w.heap.size,9,none⟩ (I tb.depth)).setCell ⟨w.heap.size,10,none⟩ (I tb.frames)).setCell ⟨w.heap.size,11,none⟩ (I tb.errors)).setCell ⟨w.heap.size,12,none⟩ (I tb.calls)).setCell ⟨w.heap.size+1,0,none⟩ (I 0)) lo tb v:=hO8.setE hE8
   have c6_0:w7.cell? ⟨w.heap.size,0,none⟩=some (I tb.uses):=by rw [qcr hY7];rfl
   have c6_1:w7.cell? ⟨w.heap.size,1,none⟩=some (I tb.modes):=by rw [qcr hY7];rfl
   have c6_2:w7.cell? ⟨w.heap.size,2,none⟩=some (.slice v.t.a v.t.n v.t.c):=by rw [qcr hY7];rfl
   have c6_3:w7.cell? ⟨w.heap.size,3,none⟩=some (.slice v.g.a v.g.n v.g.c):=by rw [qcr hY7];rfl
   have c6_4:w7.cell? ⟨w.heap.size,4,none⟩=some (.slice v.r.a v.r.n v.r.c):=by rw [qcr hY7];rfl
   have c6_5:w7.cell? ⟨w.heap.size,5,none⟩=some (.slice v.k.a v.k.n v.k.c):=by rw [qcr hY7];rfl
   have c6_6:w7.cell? ⟨w.heap.size,6,none⟩=some (.slice v.a.a v.a.n v.a.c):=by rw [qcr hY7];rfl
   have c6_7:w7.cell? ⟨w.heap.size,7,none⟩=some (.slice v.i.a v.i.n v.i.c):=by rw [qcr hY7];rfl
   have c6_8:w7.cell? ⟨w.heap.size,8,none⟩=some (.slice v.s.a v.s.n v.s.c):=by rw [qcr hY7];rfl
   have c6_9:w7.cell? ⟨w.heap.size,9,none⟩=some (I tb.depth):=by rw [qcr hY7];rfl
   have c6_10:w7.cell? ⟨w.heap.size,10,none⟩=some (I tb.frames):=by rw [qcr hY7];rfl
   have c6_11:w7.cell? ⟨w.heap.size,11,none⟩=some (I tb.errors):=by rw [qcr hY7];rfl
   have c6_12:w7.cell? ⟨w.heap.size,12,none⟩=some (I tb.calls):=by rw [qcr hY7];rfl
   clear j0 j1 j2 j3 j4 j5 j6 j7 j8 j9 j10 j11 j12 k13 hE7 hb7 hO7 hb8 hE8 hO8 hYY hY7
   go_wp2
   clear cj0 cj1 cj2 cj3 cj4 cj5 cj6 cj7 cj8 cj9 cj10 cj11 cj12 fj0 fj1 fj2 fj3 fj4 fj5 fj6 fj7 fj8 fj9 fj10 fj11 fj12 c8 f8 c6_0 c6_1 c6_2 c6_3 c6_4 c6_5 c6_6 c6_7 c6_8 c6_9 c6_10 c6_11 c6_12
   generalize ((((((((((((((w7).setCell ⟨w.heap.size,0,none⟩ (I tb.uses)).setCell ⟨w.heap.size,1,none⟩ (I tb.modes)).setCell ⟨w.heap.size,2,none⟩ (.slice v.t.a v.t.n v.t.c)).setCell ⟨w.heap.size,3,none⟩ (.slice v.g.a v.g.n v.g.c)).setCell ⟨w.heap.size,4,none⟩ (.slice v.r.a v.r.n v.r.c)).setCell ⟨w.heap.size,5,none⟩ (.slice v.k.a v.k.n v.k.c)).setCell ⟨w.heap.size,6,none⟩ (.slice v.a.a v.a.n v.a.c)).setCell ⟨w.heap.size,7,none⟩ (.slice v.i.a v.i.n v.i.c)).setCell ⟨w.heap.size,8,none⟩ (.slice v.s.a v.s.n v.s.c)).setCell ⟨w.heap.size,9,none⟩ (I tb.depth)).setCell ⟨w.heap.size,10,none⟩ (I tb.frames)).setCell ⟨w.heap.size,11,none⟩ (I tb.errors)).setCell ⟨w.heap.size,12,none⟩ (I tb.calls)).setCell ⟨w.heap.size+1,0,none⟩ (I 0)=w8 at *
   refine leaves_cons (f:=34) (args:=#[.pointer (some ⟨w.heap.size,0,none⟩),.pointer (some ⟨w.heap.size+1,0,none⟩)]) (by simp) (by simp [go_sem]) ?_
   refine (qe3 w.heap.size (w.heap.size+1) w8).mono ?_
   rintro e u' w9 ⟨rfl,rfl,rfl⟩
   show Leaves _ _ _ _ [] (settle _) w9
   rw [HZ.out]
   exact ⟨_,qej Tryz.results15 _ w.heap.size (w.heap.size+1) _ _ _ _ _ _ _ _ _ _ _ _ _ _ _ rfl rfl hY9 hE9,v,lo,hlo2,rfl,hO9,hb9⟩
  ·rw [if_neg hc] at hK HZ
   clear hc
   go_upto_region 7 with (first | (go_at_call 14;refine hK.mono ?_;clear hK;rintro e w7 ⟨rfl,b7⟩))
   have hY7:=(b7.block _ (qa5 k13)).trans k13
   have hE7:=(b7.block _ (qa5 hE6)).trans hE6
   have hb7:=belT hb6 b7
   clear c6_0 c6_1 c6_2 c6_3 c6_4 c6_5 c6_6 c6_7 c6_8 c6_9 c6_10 c6_11 c6_12 k13 hE6 hb6 hO6 b7
   obtain ⟨⟨j0,cj0,fj0⟩,⟨j1,cj1,fj1⟩,⟨j2,cj2,fj2⟩,⟨j3,cj3,fj3⟩,⟨j4,cj4,fj4⟩,⟨j5,cj5,fj5⟩,⟨j6,cj6,fj6⟩,⟨j7,cj7,fj7⟩,⟨j8,cj8,fj8⟩,⟨j9,cj9,fj9⟩,⟨j10,cj10,fj10⟩,⟨j11,cj11,fj11⟩,⟨j12,cj12,fj12⟩,k13⟩:=qdq (I 0) (I 0) qZ qZ qZ qZ qZ qZ qZ (I 0) (I 0) (I 0) (I 0) hY7
   have hb8:qB w ((((((((((((((w7).setCell ⟨w.heap.size,0,none⟩ (I 0)).setCell ⟨w.heap.size,1,none⟩ (I 0)).setCell ⟨w.heap.size,2,none⟩ qZ).setCell ⟨w.heap.size,3,none⟩ qZ).setCell ⟨w.heap.size,4,none⟩ qZ).setCell ⟨w.heap.size,5,none⟩ qZ).setCell ⟨w.heap.size,6,none⟩ qZ).setCell ⟨w.heap.size,7,none⟩ qZ).setCell ⟨w.heap.size,8,none⟩ qZ).setCell ⟨w.heap.size,9,none⟩ (I 0)).setCell ⟨w.heap.size,10,none⟩ (I 0)).setCell ⟨w.heap.size,11,none⟩ (I 0)).setCell ⟨w.heap.size,12,none⟩ (I 0)):=qag (qag (qag (qag (qag (qag (qag (qag (qag (qag (qag (qag (qag (hb7) (Nat.le_refl _)) (Nat.le_refl _)) (Nat.le_refl _)) (Nat.le_refl _)) (Nat.le_refl _)) (Nat.le_refl _)) (Nat.le_refl _)) (Nat.le_refl _)) (Nat.le_refl _)) (Nat.le_refl _)) (Nat.le_refl _)) (Nat.le_refl _)) (Nat.le_refl _)
   have hE8:((((((((((((((w7).setCell ⟨w.heap.size,0,none⟩ (I 0)).setCell ⟨w.heap.size,1,none⟩ (I 0)).setCell ⟨w.heap.size,2,none⟩ qZ).setCell ⟨w.heap.size,3,none⟩ qZ).setCell ⟨w.heap.size,4,none⟩ qZ).setCell ⟨w.heap.size,5,none⟩ qZ).setCell ⟨w.heap.size,6,none⟩ qZ).setCell ⟨w.heap.size,7,none⟩ qZ).setCell ⟨w.heap.size,8,none⟩ qZ).setCell ⟨w.heap.size,9,none⟩ (I 0)).setCell ⟨w.heap.size,10,none⟩ (I 0)).setCell ⟨w.heap.size,11,none⟩ (I 0)).setCell ⟨w.heap.size,12,none⟩ (I 0)).heap[w.heap.size+1]?=some (.cells #[I 0] 32):=by
    repeat rw [heap_setCell_other _ _ (w.heap.size+1) _ (by show w.heap.size+1≠w.heap.size;omega)]
    exact hE7
   have c8:((((((((((((((w7).setCell ⟨w.heap.size,0,none⟩ (I 0)).setCell ⟨w.heap.size,1,none⟩ (I 0)).setCell ⟨w.heap.size,2,none⟩ qZ).setCell ⟨w.heap.size,3,none⟩ qZ).setCell ⟨w.heap.size,4,none⟩ qZ).setCell ⟨w.heap.size,5,none⟩ qZ).setCell ⟨w.heap.size,6,none⟩ qZ).setCell ⟨w.heap.size,7,none⟩ qZ).setCell ⟨w.heap.size,8,none⟩ qZ).setCell ⟨w.heap.size,9,none⟩ (I 0)).setCell ⟨w.heap.size,10,none⟩ (I 0)).setCell ⟨w.heap.size,11,none⟩ (I 0)).setCell ⟨w.heap.size,12,none⟩ (I 0)).cell? ⟨w.heap.size+1,0,none⟩=some (I 0):=by rw [qcr hE8];rfl
   have f8:((((((((((((((w7).setCell ⟨w.heap.size,0,none⟩ (I 0)).setCell ⟨w.heap.size,1,none⟩ (I 0)).setCell ⟨w.heap.size,2,none⟩ qZ).setCell ⟨w.heap.size,3,none⟩ qZ).setCell ⟨w.heap.size,4,none⟩ qZ).setCell ⟨w.heap.size,5,none⟩ qZ).setCell ⟨w.heap.size,6,none⟩ qZ).setCell ⟨w.heap.size,7,none⟩ qZ).setCell ⟨w.heap.size,8,none⟩ qZ).setCell ⟨w.heap.size,9,none⟩ (I 0)).setCell ⟨w.heap.size,10,none⟩ (I 0)).setCell ⟨w.heap.size,11,none⟩ (I 0)).setCell ⟨w.heap.size,12,none⟩ (I 0)).frozen? ⟨w.heap.size+1,0,none⟩=false:=frozen_of_row _ _ _ _ _ hE8
   have hE9:=heap_setCell_same ((((((((((((((w7).setCell ⟨w.heap.size,0,none⟩ (I 0)).setCell ⟨w.heap.size,1,none⟩ (I 0)).setCell ⟨w.heap.size,2,none⟩ qZ).setCell ⟨w.heap.size,3,none⟩ qZ).setCell ⟨w.heap.size,4,none⟩ qZ).setCell ⟨w.heap.size,5,none⟩ qZ).setCell ⟨w.heap.size,6,none⟩ qZ).setCell ⟨w.heap.size,7,none⟩ qZ).setCell ⟨w.heap.size,8,none⟩ qZ).setCell ⟨w.heap.size,9,none⟩ (I 0)).setCell ⟨w.heap.size,10,none⟩ (I 0)).setCell ⟨w.heap.size,11,none⟩ (I 0)).setCell ⟨w.heap.size,12,none⟩ (I 0)) (w.heap.size+1) 0 _ _ (I 90) hE8
   have hY9:=(heap_setCell_other ((((((((((((((w7).setCell ⟨w.heap.size,0,none⟩ (I 0)).setCell ⟨w.heap.size,1,none⟩ (I 0)).setCell ⟨w.heap.size,2,none⟩ qZ).setCell ⟨w.heap.size,3,none⟩ qZ).setCell ⟨w.heap.size,4,none⟩ qZ).setCell ⟨w.heap.size,5,none⟩ qZ).setCell ⟨w.heap.size,6,none⟩ qZ).setCell ⟨w.heap.size,7,none⟩ qZ).setCell ⟨w.heap.size,8,none⟩ qZ).setCell ⟨w.heap.size,9,none⟩ (I 0)).setCell ⟨w.heap.size,10,none⟩ (I 0)).setCell ⟨w.heap.size,11,none⟩ (I 0)).setCell ⟨w.heap.size,12,none⟩ (I 0)) ⟨w.heap.size+1,0,none⟩ w.heap.size (I 90) (by show w.heap.size≠w.heap.size+1;omega)).trans k13
   have hb9:qB w (((((((((((((((w7).setCell ⟨w.heap.size,0,none⟩ (I 0)).setCell ⟨w.heap.size,1,none⟩ (I 0)).setCell ⟨w.heap.size,2,none⟩ qZ).setCell ⟨w.heap.size,3,none⟩ qZ).setCell ⟨w.heap.size,4,none⟩ qZ).setCell ⟨w.heap.size,5,none⟩ qZ).setCell ⟨w.heap.size,6,none⟩ qZ).setCell ⟨w.heap.size,7,none⟩ qZ).setCell ⟨w.heap.size,8,none⟩ qZ).setCell ⟨w.heap.size,9,none⟩ (I 0)).setCell ⟨w.heap.size,10,none⟩ (I 0)).setCell ⟨w.heap.size,11,none⟩ (I 0)).setCell ⟨w.heap.size,12,none⟩ (I 0)).setCell ⟨w.heap.size+1,0,none⟩ (I 90)):=qag hb8 (by omega)
   clear j0 j1 j2 j3 j4 j5 j6 j7 j8 j9 j10 j11 j12 k13 hE7 hb7 hb8 hE8 hY7
   go_wp2
   clear cj0 cj1 cj2 cj3 cj4 cj5 cj6 cj7 cj8 cj9 cj10 cj11 cj12 fj0 fj1 fj2 fj3 fj4 fj5 fj6 fj7 fj8 fj9 fj10 fj11 fj12 c8 f8
   generalize ((((((((((((((w7).setCell ⟨w.heap.size,0,none⟩ (I 0)).setCell ⟨w.heap.size,1,none⟩ (I 0)).setCell ⟨w.heap.size,2,none⟩ (.slice none 0 0)).setCell ⟨w.heap.size,3,none⟩ (.slice none 0 0)).setCell ⟨w.heap.size,4,none⟩ (.slice none 0 0)).setCell ⟨w.heap.size,5,none⟩ (.slice none 0 0)).setCell ⟨w.heap.size,6,none⟩ (.slice none 0 0)).setCell ⟨w.heap.size,7,none⟩ (.slice none 0 0)).setCell ⟨w.heap.size,8,none⟩ (.slice none 0 0)).setCell ⟨w.heap.size,9,none⟩ (I 0)).setCell ⟨w.heap.size,10,none⟩ (I 0)).setCell ⟨w.heap.size,11,none⟩ (I 0)).setCell ⟨w.heap.size,12,none⟩ (I 0)).setCell ⟨w.heap.size+1,0,none⟩ (I 90)=w8 at *
   refine leaves_cons (f:=34) (args:=#[.pointer (some ⟨w.heap.size,0,none⟩),.pointer (some ⟨w.heap.size+1,0,none⟩)]) (by simp) (by simp [go_sem]) ?_
   refine (qe3 w.heap.size (w.heap.size+1) w8).mono ?_
   rintro e u' w9 ⟨rfl,rfl,rfl⟩
   show Leaves _ _ _ _ [] (settle _) w9
   rw [HZ.out]
   exact ⟨_,qej Tryz.results15 _ w.heap.size (w.heap.size+1) _ _ _ _ _ _ _ _ _ _ _ _ _ _ _ rfl rfl hY9 hE9,rfl,hb9⟩
end Go.Proofs.YtijgopkhdjaolaaGreat
namespace Go.Proofs.YtijgopkhdjaolaaGreat
open Go.RowKit Go.Shelf Go.Sort
set_option linter.unusedSimpArgs false
set_option linter.unusedVariables false
set_option maxHeartbeats 16000000
set_option maxRecDepth 100000
theorem qet {w:World} {s:Sl} {l:List Int} (h:RowsAt w 1 intP s l) {k:Nat} (hk:k < l.length) {W:World} (hb:qB w W):∃g off,s.a=some ⟨g,off,none⟩∧W.cell? ⟨g,off+k,none⟩=some (I l[k]):=by
 obtain ⟨g,off,ea,hg,hr⟩:=h.row k _ (List.getElem?_eq_getElem hk)
 obtain ⟨u,hu,hp⟩:=hr 0 (by omega)
 have hp':u=I l[k]:=hp
 subst hp'
 exact ⟨g,off,ea,by rw [qa6 hb _ _ hg];simpa using hu⟩
theorem qkm {α:Type} [DecidableEq α] {l1 l2:List α} {k:Nat} (h1:k < l1.length) (h2:k < l2.length) (h:l1.take k=l2.take k) (hx:l1[k]=l2[k]):l1.take (k+1)=l2.take (k+1):=by
 rw [List.take_add_one,List.take_add_one,h,List.getElem?_eq_getElem h1,List.getElem?_eq_getElem h2,hx]
theorem qmt (w:World) (s1 s2:Sl) (l1 l2:List Int) (h1:RowsAt w 1 intP s1 l1) (h2:RowsAt w 1 intP s2 l2):Calls Tryz.prog 121 #[slT s1,slT s2] w fun e w'=>e=.returned (.bool (decide (l1=l2)))∧qB w w':=by
 obtain ⟨a1,n1,c1⟩:=s1
 obtain ⟨a2,n2,c2⟩:=s2
 have hn1:Hid (n1=l1.length):=h1.n
 have hn2:Hid (n2=l2.length):=h2.n
 have hm1:n1≤maxLen:=Nat.le_trans h1.c h1.m
 unfold maxLen at hm1
 have H1:Hid (RowsAt w 1 intP ⟨a1,n1,c1⟩ l1):=h1
 have H2:Hid (RowsAt w 1 intP ⟨a2,n2,c2⟩ l2):=h2
 clear h1 h2
 show Calls _ _ #[.slice a1 n1 c1,.slice a2 n2 c2] _ _
 by_cases hl:n1=n2
 ·subst hl
  go_enter Tryz.func121,Tryz.ntmps121
  go_wp2
  go_loopw [5,13] (fun _ v13 wr=>∃k:Nat,k≤n1∧v13=I k∧Hid (l1.take k=l2.take k∧qB w wr)) (fun _ v13 _=>n1 - (intOf v13).toNat)
  case atStart=>exact ⟨0,by omega,rfl,by simp,Below.refl _ _⟩
  case round=>
   obtain ⟨k,hk,rfl,HJ⟩:=hrel
   by_cases hlt:k < n1
   ·have hltI:(k:Int) < n1:=by omega
    have hk1:k < l1.length:=by rw [←hn1.out];exact hlt
    have hk2:k < l2.length:=by rw [←hn2.out];exact hlt
    obtain ⟨g1,o1,e1,q1⟩:=qet H1.out hk1 HJ.out.2
    obtain ⟨g2,o2,e2,q2⟩:=qet H2.out hk2 HJ.out.2
    have e1':a1=some ⟨g1,o1,none⟩:=e1
    have e2':a2=some ⟨g2,o2,none⟩:=e2
    clear e1 e2
    subst e1' e2'
    by_cases hx:l1[k]=l2[k]
    ·have HT:Hid (l1.take (k+1)=l2.take (k+1)∧qB w wr):=⟨qkm hk1 hk2 HJ.out.1 hx,HJ.out.2⟩
     clear HJ
     rw [←hx] at q2
     generalize l1[k]=x at *
     clear hk1 hk2 hx
     go_upto_region 6 with fail
     go_region_held_law (fun W=>W.cell? ⟨g1,o1+k,none⟩=some (I x)∧W.cell? ⟨g2,o2+k,none⟩=some (I x)) (first | exact ⟨q1,q2⟩ | (go_keep;done)) (fail)
     go_wp2
     go_roundw
     case rel=>exact ⟨k+1,by omega,by go_num,HT.out.1,HT.out.2.drew⟩
     case measure=>simp [intOf];omega
    ·have HN:Hid (¬l1=l2∧qB w wr):=⟨fun e=>hx (by subst e;rfl),HJ.out.2⟩
     clear HJ
     obtain ⟨x,ex⟩:∃x,x=l1[k]:=⟨_,rfl⟩
     obtain ⟨y,ey⟩:∃y,y=l2[k]:=⟨_,rfl⟩
     rw [←ex] at q1 hx
     rw [←ey] at q2 hx
     clear ex ey hk1 hk2
     go_upto_region 6 with fail
     go_region_held_law (fun W=>W.cell? ⟨g1,o1+k,none⟩=some (I x)∧W.cell? ⟨g2,o2+k,none⟩=some (I y)) (first | exact ⟨q1,q2⟩ | (go_keep;done)) (fail)
     go_wp2
     go_ret
     exact ⟨by rw [decide_eq_false HN.out.1];rfl,HN.out.2.drew⟩
   ·obtain rfl:k=n1:=by omega
    have hge:¬((k:Int) < k):=by omega
    have HE:Hid (l1=l2∧qB w wr):=⟨by have:=HJ.out.1;rwa [show l1.take k=l1 by rw [hn1.out];exact List.take_length,show l2.take k=l2 by rw [hn2.out];exact List.take_length] at this,HJ.out.2⟩
    clear HJ
    go_wp2
    go_ret
    exact ⟨by rw [decide_eq_true HE.out.1];rfl,HE.out.2⟩
 ·have hlI:¬((n1:Int)=n2):=by omega
  have HN:Hid (¬l1=l2):=fun e=>hl (by rw [hn1.out,hn2.out,e])
  go_enter Tryz.func121,Tryz.ntmps121
  go_wp2
  go_ret
  exact ⟨by rw [decide_eq_false HN.out];rfl,Below.refl _ _⟩
end Go.Proofs.YtijgopkhdjaolaaGreat
