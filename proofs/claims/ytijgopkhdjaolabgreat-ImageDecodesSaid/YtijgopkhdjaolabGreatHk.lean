import Derived.Test.YtijgopkhdjaolabGreatXHk2
import Derived.Deep.RegionHeldLaw
set_option linter.unusedSimpArgs false
set_option linter.unusedVariables false
set_option maxHeartbeats 16000000
set_option maxRecDepth 100000
namespace Go.Proofs.YtijgopkhdjaolabGreat
open Go.RowKit Go.Shelf Go.Sort
open Go.Proofs.YtijgopkhdjaolabGreat.Ob (leB leV qa8 qag crc Rd RdAll qa7)
def hkL (i f:Nat):Array Bool:=#[true,true,true,true,true,decide (1≤i),decide (2≤i),true,true,true,true,true,decide (3≤i),decide (4≤i),true,true,true,true,true,decide (5≤i),decide (6≤i),true,true,true,true,true,decide (7≤i),decide (8≤i),true,true,true,true,true,decide (9≤i),decide (10≤i),true,true,true,true,true,decide (11≤i),decide (12≤i),true,true,true,true,true,decide (13≤i),decide (14≤i),decide (15≤i),decide (1≤f),false]
def hkT (tb:Tb) (v:Ts) (X0 X1:Nat) (L1 L2 L3 L4 L5 L6 L7:List (List UInt8)) (s:Nat→Sl) (u:Nat→Value) (Z Y i f:Nat):Array Value:=#[.agg (qC tb v),.pointer (some ⟨X0,0,none⟩),qZ,.pointer (some ⟨X1,0,none⟩),if 1≤f then .pointer (some ⟨Y,0,none⟩) else undef,undef,undef,undef,.agg (qC tb v),.agg (qC tb v),.pointer (some ⟨X0,2,none⟩),.slice v.t.a v.t.n v.t.c,I v.t.n,.agg (qC tb v),.func (.func 76) #[.agg (qC tb v)] #[],if 1≤i then slT (s 0) else undef,if 2≤i then .agg #[I 2,I L1.length,u 0] else undef,.pointer (some ⟨X0,3,none⟩),.slice v.g.a v.g.n v.g.c,I v.g.n,.agg (qC tb v),.func (.func 77) #[.agg (qC tb v)] #[],if 3≤i then slT (s 1) else undef,if 4≤i then .agg #[I 3,I L2.length,u 1] else undef,.pointer (some ⟨X0,4,none⟩),.slice v.r.a v.r.n v.r.c,I v.r.n,.agg (qC tb v),.func (.func 78) #[.agg (qC tb v)] #[],if 5≤i then slT (s 2) else undef,if 6≤i then .agg #[I 4,I L3.length,u 2] else undef,.pointer (some ⟨X0,5,none⟩),.slice v.k.a v.k.n v.k.c,I v.k.n,.agg (qC tb v),.func (.func 79) #[.agg (qC tb v)] #[],if 7≤i then slT (s 3) else undef,if 8≤i then .agg #[I 5,I L4.length,u 3] else undef,.pointer (some ⟨X0,6,none⟩),.slice v.a.a v.a.n v.a.c,I v.a.n,.agg (qC tb v),.func (.func 80) #[.agg (qC tb v)] #[],if 9≤i then slT (s 4) else undef,if 10≤i then .agg #[I 6,I L5.length,u 4] else undef,.pointer (some ⟨X0,7,none⟩),.slice v.i.a v.i.n v.i.c,I v.i.n,.agg (qC tb v),.func (.func 81) #[.agg (qC tb v)] #[],if 11≤i then slT (s 5) else undef,if 12≤i then .agg #[I 7,I L6.length,u 5] else undef,.pointer (some ⟨X0,8,none⟩),.slice v.s.a v.s.n v.s.c,I v.s.n,.agg (qC tb v),.func (.func 82) #[.agg (qC tb v)] #[],if 13≤i then slT (s 6) else undef,if 14≤i then .agg #[I 8,I L7.length,u 6] else undef,if 15≤i then .slice (some ⟨Z,0,none⟩) 7 7 else undef,undef,undef,undef,undef,undef,undef,undef,undef,undef,undef,undef,undef,undef,undef,undef,undef,undef,undef,undef,undef,undef,undef,undef,undef,undef,undef,undef,undef,undef]
def hkC (j:Nat):Nat:=match j with
 | 0=>5
 | 1=>6
 | 2=>12
 | 3=>13
 | 4=>19
 | 5=>20
 | 6=>26
 | 7=>27
 | 8=>33
 | 9=>34
 | 10=>40
 | 11=>41
 | 12=>47
 | 13=>48
 | _=>49
def hkU {α:Type} (g:Nat→α) (k:Nat) (x:α):Nat→α:=fun j=>if j=k then x else g j
def hkP (LL:List (List (List UInt8))) (FF:List (List UInt8)) (W:World) (s:Nat→Sl) (u:Nat→Value) (i:Nat):Prop:=(∀k,k < 7→2 * k+2≤i→W.ownsRow 0 5 1 (u k) (FF.getD k []).length (Bs8 (FF.getD k [])))∧∀k,k < 7→i=2 * k+1→RowsAt W 1 (segB W) (s k) (LL.getD k [])
theorem qhf {LL:List (List (List UInt8))} {FF:List (List UInt8)} {W W':World} {s:Nat→Sl} {u:Nat→Value} {i:Nat} (h:hkP LL FF W s u i) (b:qB W W'):hkP LL FF W' s u i:=
 ⟨fun k h1 h2=>qad (h.1 k h1 h2) b,fun k h0 h1=>qhb (h.2 k h0 h1) b⟩
theorem qpw {LL:List (List (List UInt8))} {FF:List (List UInt8)} {W W':World} {s:Nat→Sl} {u:Nat→Value} {x:Sl} {i:Nat} (h:hkP LL FF W s u i) (hi:i % 2=0) (b:qB W W') (r:RowsAt W' 1 (segB W') x (LL.getD (i / 2) [])):hkP LL FF W' (hkU s (i / 2) x) u (i+1):=
 ⟨fun k h1 h2=>qad (h.1 k h1 (by omega)) b,fun k h0 h1=>by
  have e:i / 2=k:=by omega
  subst e;unfold hkU;rw [if_pos rfl];exact r⟩
theorem qpx {LL:List (List (List UInt8))} {FF:List (List UInt8)} {W W':World} {s:Nat→Sl} {u:Nat→Value} {x:Value} {i:Nat} (h:hkP LL FF W s u i) (hi:i % 2=1) (b:qB W W') (r:W'.ownsRow 0 5 1 x (FF.getD (i / 2) []).length (Bs8 (FF.getD (i / 2) []))):hkP LL FF W' s (hkU u (i / 2) x) (i+1):=
 ⟨fun k h1 h2=>by
  unfold hkU;by_cases e:k=i / 2
  ·subst e;rw [if_pos rfl];exact r
  ·rw [if_neg e];exact qad (h.1 k h1 (by omega)) b,fun k h0 h1=>by omega⟩
theorem qnw {LL:List (List (List UInt8))} {FF:List (List UInt8)} {W:World} {s:Nat→Sl} {u:Nat→Value} (h:hkP LL FF W s u 14):hkP LL FF W s u 15:=
 ⟨fun k h1 h2=>h.1 k h1 (by omega),fun k h0 h1=>by omega⟩
theorem qkg (w:World) (tb:Tb) (v:Ts) (L1:List (List UInt8)) (F1:List UInt8) (L2:List (List UInt8)) (F2:List UInt8) (L3:List (List UInt8)) (F3:List UInt8) (L4:List (List UInt8)) (F4:List UInt8) (L5:List (List UInt8)) (F5:List UInt8) (L6:List (List UInt8)) (F6:List UInt8) (L7:List (List UInt8)) (F7:List UInt8)
  (hF1:L1.flatten=F1) (hF2:L2.flatten=F2) (hF3:L3.flatten=F3) (hF4:L4.flatten=F4) (hF5:L5.flatten=F5) (hF6:L6.flatten=F6) (hF7:L7.flatten=F7)
  (hR1:∀W,Below w.heap.size w W→Calls Tryz.prog 75 #[I v.t.n,.func (.func 76) #[.agg (tbC tb v)] #[]] W fun ee w'=>∃s,ee=.returned (slT s)∧RowsAt w' 1 (segB w') s L1∧qB W w')
  (hR2:∀W,Below w.heap.size w W→Calls Tryz.prog 75 #[I v.g.n,.func (.func 77) #[.agg (tbC tb v)] #[]] W fun ee w'=>∃s,ee=.returned (slT s)∧RowsAt w' 1 (segB w') s L2∧qB W w')
  (hR3:∀W,Below w.heap.size w W→Calls Tryz.prog 75 #[I v.r.n,.func (.func 78) #[.agg (tbC tb v)] #[]] W fun ee w'=>∃s,ee=.returned (slT s)∧RowsAt w' 1 (segB w') s L3∧qB W w')
  (hR4:∀W,Below w.heap.size w W→Calls Tryz.prog 75 #[I v.k.n,.func (.func 79) #[.agg (tbC tb v)] #[]] W fun ee w'=>∃s,ee=.returned (slT s)∧RowsAt w' 1 (segB w') s L4∧qB W w')
  (hR5:∀W,Below w.heap.size w W→Calls Tryz.prog 75 #[I v.a.n,.func (.func 80) #[.agg (tbC tb v)] #[]] W fun ee w'=>∃s,ee=.returned (slT s)∧RowsAt w' 1 (segB w') s L5∧qB W w')
  (hR6:∀W,Below w.heap.size w W→Calls Tryz.prog 75 #[I v.i.n,.func (.func 81) #[.agg (tbC tb v)] #[]] W fun ee w'=>∃s,ee=.returned (slT s)∧RowsAt w' 1 (segB w') s L6∧qB W w')
  (hR7:∀W,Below w.heap.size w W→Calls Tryz.prog 75 #[I v.s.n,.func (.func 82) #[.agg (tbC tb v)] #[]] W fun ee w'=>∃s,ee=.returned (slT s)∧RowsAt w' 1 (segB w') s L7∧qB W w')
  (hl1:F1.length≤1000000) (hl2:F2.length≤1000000) (hl3:F3.length≤1000000) (hl4:F4.length≤1000000) (hl5:F5.length≤1000000) (hl6:F6.length≤1000000) (hl7:F7.length≤1000000) (hHd:∀(n:Nat) W,n < 256 ^ 4→Below w.heap.size w W→Calls Tryz.prog 85 #[.agg (tbC tb v),I n] W fun e w'=>∃u,e=.returned u∧OwB W w' u (qal tb n)) (hlB:[F1,F2,F3,F4,F5,F6,F7].flatten.length≤900000):Calls Tryz.prog 26 #[.agg (tbC tb v)] w fun e w'=>∃s,e=.returned (slT s)∧RowsAt w' 3 (pceP w') s [(1,1,qal tb (30+([F1,F2,F3,F4,F5,F6,F7].flatten).length)),(2,L1.length,F1),(3,L2.length,F2),(4,L3.length,F3),(5,L4.length,F4),(6,L5.length,F5),(7,L6.length,F6),(8,L7.length,F7),(9,1,leB 2 (Ob.crcs 65535 [qal tb (30+([F1,F2,F3,F4,F5,F6,F7].flatten).length),([F1,F2,F3,F4,F5,F6,F7].flatten)]))]∧Below w.heap.size w w':=by
 have hQ1:=fun (W:World) (s:Sl) (hs:RowsAt W 1 (segB W) s L1)=>qc3 W 2 s L1 F1 hF1 hs hl1
 have hQ2:=fun (W:World) (s:Sl) (hs:RowsAt W 1 (segB W) s L2)=>qc3 W 3 s L2 F2 hF2 hs hl2
 have hQ3:=fun (W:World) (s:Sl) (hs:RowsAt W 1 (segB W) s L3)=>qc3 W 4 s L3 F3 hF3 hs hl3
 have hQ4:=fun (W:World) (s:Sl) (hs:RowsAt W 1 (segB W) s L4)=>qc3 W 5 s L4 F4 hF4 hs hl4
 have hQ5:=fun (W:World) (s:Sl) (hs:RowsAt W 1 (segB W) s L5)=>qc3 W 6 s L5 F5 hF5 hs hl5
 have hQ6:=fun (W:World) (s:Sl) (hs:RowsAt W 1 (segB W) s L6)=>qc3 W 7 s L6 F6 hF6 hs hl6
 have hQ7:=fun (W:World) (s:Sl) (hs:RowsAt W 1 (segB W) s L7)=>qc3 W 8 s L7 F7 hF7 hs hl7
 have hb0:=qa0 w (.cells (qC tb v) 32);have hV0:=heap_alloc_new w (.cells (qC tb v) 32);have hb1:=qa0 (w.alloc (.cells (qC tb v) 32)) (.cells (qC tb v) 133);have hV1:=heap_alloc_new (w.alloc (.cells (qC tb v) 32)) (.cells (qC tb v) 133);have hbw:=belT hb0 hb1;have HB:Hid (Below w.heap.size w ((w.alloc (.cells (qC tb v) 32)).alloc (.cells (qC tb v) 133))):=hbw;have HS0:Hid (∀W,qB ((w.alloc (.cells (qC tb v) 32)).alloc (.cells (qC tb v) 133)) W→(fun X0 X1=>W.cell? ⟨X0,2,none⟩=some (.slice v.t.a v.t.n v.t.c)∧W.cell? ⟨X0,3,none⟩=some (.slice v.g.a v.g.n v.g.c)∧W.cell? ⟨X0,4,none⟩=some (.slice v.r.a v.r.n v.r.c)∧W.cell? ⟨X0,5,none⟩=some (.slice v.k.a v.k.n v.k.c)∧W.cell? ⟨X0,6,none⟩=some (.slice v.a.a v.a.n v.a.c)∧W.cell? ⟨X0,7,none⟩=some (.slice v.i.a v.i.n v.i.c)∧W.cell? ⟨X0,8,none⟩=some (.slice v.s.a v.s.n v.s.c)∧W.cell? ⟨X1,0,none⟩=some (I tb.uses)∧W.cell? ⟨X1,1,none⟩=some (I tb.modes)∧W.cell? ⟨X1,2,none⟩=some (.slice v.t.a v.t.n v.t.c)∧W.cell? ⟨X1,3,none⟩=some (.slice v.g.a v.g.n v.g.c)∧W.cell? ⟨X1,4,none⟩=some (.slice v.r.a v.r.n v.r.c)∧W.cell? ⟨X1,5,none⟩=some (.slice v.k.a v.k.n v.k.c)∧W.cell? ⟨X1,6,none⟩=some (.slice v.a.a v.a.n v.a.c)∧W.cell? ⟨X1,7,none⟩=some (.slice v.i.a v.i.n v.i.c)∧W.cell? ⟨X1,8,none⟩=some (.slice v.s.a v.s.n v.s.c)∧W.cell? ⟨X1,9,none⟩=some (I tb.depth)∧W.cell? ⟨X1,10,none⟩=some (I tb.frames)∧W.cell? ⟨X1,11,none⟩=some (I tb.errors)∧W.cell? ⟨X1,12,none⟩=some (I tb.calls)) w.heap.size (w.alloc (.cells (qC tb v) 32)).heap.size):=fun W hW=>by
  have q0:=((hb1.mono (Nat.le_refl _)).block _ (qa6 hV0)).trans hV0;have q:=(hW.block _ (qa6 q0)).trans q0;have p:=(hW.block _ (qa6 hV1)).trans hV1;refine ⟨?_,?_,?_,?_,?_,?_,?_,?_,?_,?_,?_,?_,?_,?_,?_,?_,?_,?_,?_,?_⟩ <;> first | (rw [qcr q];rfl) | (rw [qcr p];rfl)
 have HBW:Hid (∀W,qB ((w.alloc (.cells (qC tb v) 32)).alloc (.cells (qC tb v) 133)) W→Below w.heap.size w W):=fun W h=>belT hbw h
 have hH:∀(F:List UInt8),F.length≤900000→∀W,qB ((w.alloc (.cells (qC tb v) 32)).alloc (.cells (qC tb v) 133)) W→Calls Tryz.prog 85 #[.agg (tbC tb v),I (28+(F.length:Int)+2)] W fun e w'=>∃u,e=.returned u∧OwB W w' u (qal tb (30+F.length)):=fun F hF W hW=>by
  have:=hHd (30+F.length) W (by rw [show (256:Nat) ^ 4=4294967296 from rfl];omega) (belT hbw hW);rw [show ((30+F.length:Nat):Int)=28+(F.length:Int)+2 by omega] at this;exact this
 have hlH:∀(F:List UInt8),F.length≤900000→(qal tb (30+F.length)).length≤1000000:=fun F _=>by
  simp only [qal,eCnt,eHd,e1,mrk,List.length_append,List.length_cons,List.length_nil,qa8];omega
 have crcB:∀F:List UInt8,((Ob.crcs 65535 [qal tb (30+F.length),F]:Nat):Int) < 9223372036854775808:=fun F=>by
  have:=Ob.crcs_lt 65535 [qal tb (30+F.length),F] (by decide);omega
 have okS:∀F:List UInt8,∀x∈[(((Ob.crcs 65535 [qal tb (30+F.length),F]:Nat):Int),2)],okC x:=fun F x hx=>by
  have:=Ob.crcs_lt 65535 [qal tb (30+F.length),F] (by decide);simp only [List.mem_cons,List.not_mem_nil,or_false] at hx;subst hx;exact okC2 ⟨by omega,by omega⟩
 clear hHd;unfold tbC at *;clear hb0 hV0 hb1 hV1 hbw hF1 hF2 hF3 hF4 hF5 hF6 hF7 hl1 hl2 hl3 hl4 hl5 hl6 hl7;go_enter Tryz.func26,Tryz.ntmps26
 go_upto_region 1 with fail;go_upto_region 2 with fail;generalize (w.alloc (.cells (qC tb v) 32)).alloc (.cells (qC tb v) 133)=w1 at *;rw [qrz] at HS0;generalize w.heap.size+1=X1 at *;generalize hX0:w.heap.size=X0 at *;have HX:Hid (w.heap.size=X0):=hX0;clear hX0;have HS:Hid (∀W,qB w1 W→W.cell? ⟨X0,2,none⟩=some (.slice v.t.a v.t.n v.t.c)∧W.cell? ⟨X0,3,none⟩=some (.slice v.g.a v.g.n v.g.c)∧W.cell? ⟨X0,4,none⟩=some (.slice v.r.a v.r.n v.r.c)∧W.cell? ⟨X0,5,none⟩=some (.slice v.k.a v.k.n v.k.c)∧W.cell? ⟨X0,6,none⟩=some (.slice v.a.a v.a.n v.a.c)∧W.cell? ⟨X0,7,none⟩=some (.slice v.i.a v.i.n v.i.c)∧W.cell? ⟨X0,8,none⟩=some (.slice v.s.a v.s.n v.s.c)∧W.cell? ⟨X1,0,none⟩=some (I tb.uses)∧W.cell? ⟨X1,1,none⟩=some (I tb.modes)∧W.cell? ⟨X1,2,none⟩=some (.slice v.t.a v.t.n v.t.c)∧W.cell? ⟨X1,3,none⟩=some (.slice v.g.a v.g.n v.g.c)∧W.cell? ⟨X1,4,none⟩=some (.slice v.r.a v.r.n v.r.c)∧W.cell? ⟨X1,5,none⟩=some (.slice v.k.a v.k.n v.k.c)∧W.cell? ⟨X1,6,none⟩=some (.slice v.a.a v.a.n v.a.c)∧W.cell? ⟨X1,7,none⟩=some (.slice v.i.a v.i.n v.i.c)∧W.cell? ⟨X1,8,none⟩=some (.slice v.s.a v.s.n v.s.c)∧W.cell? ⟨X1,9,none⟩=some (I tb.depth)∧W.cell? ⟨X1,10,none⟩=some (I tb.frames)∧W.cell? ⟨X1,11,none⟩=some (I tb.errors)∧W.cell? ⟨X1,12,none⟩=some (I tb.calls)):=HS0.out;have HC:=HS.out w1.drew (Below.refl w1.heap.size w1).drew;refine wp_region_held_drew (S:=fun W=>W.cell? ⟨X0,2,none⟩=some (.slice v.t.a v.t.n v.t.c)∧W.cell? ⟨X0,3,none⟩=some (.slice v.g.a v.g.n v.g.c)∧W.cell? ⟨X0,4,none⟩=some (.slice v.r.a v.r.n v.r.c)∧W.cell? ⟨X0,5,none⟩=some (.slice v.k.a v.k.n v.k.c)∧W.cell? ⟨X0,6,none⟩=some (.slice v.a.a v.a.n v.a.c)∧W.cell? ⟨X0,7,none⟩=some (.slice v.i.a v.i.n v.i.c)∧W.cell? ⟨X0,8,none⟩=some (.slice v.s.a v.s.n v.s.c)∧W.cell? ⟨X1,0,none⟩=some (I tb.uses)∧W.cell? ⟨X1,1,none⟩=some (I tb.modes)∧W.cell? ⟨X1,2,none⟩=some (.slice v.t.a v.t.n v.t.c)∧W.cell? ⟨X1,3,none⟩=some (.slice v.g.a v.g.n v.g.c)∧W.cell? ⟨X1,4,none⟩=some (.slice v.r.a v.r.n v.r.c)∧W.cell? ⟨X1,5,none⟩=some (.slice v.k.a v.k.n v.k.c)∧W.cell? ⟨X1,6,none⟩=some (.slice v.a.a v.a.n v.a.c)∧W.cell? ⟨X1,7,none⟩=some (.slice v.i.a v.i.n v.i.c)∧W.cell? ⟨X1,8,none⟩=some (.slice v.s.a v.s.n v.s.c)∧W.cell? ⟨X1,9,none⟩=some (I tb.depth)∧W.cell? ⟨X1,10,none⟩=some (I tb.frames)∧W.cell? ⟨X1,11,none⟩=some (I tb.errors)∧W.cell? ⟨X1,12,none⟩=some (I tb.calls)) (by kernel_rfl) HC (fun hHeld=>?_);clear HC HS0;change wpAnyH _ _ _ _ _ _ #[false,false,false,false,false,false,false,false,false,false,false,false,false,false,false,false,false,false,false,false,false,false,false,false,false,false,false,false,false,false,false,false,false,false,false,false,false,false,false,false,false,false,false,false,false,false,false,false,false,false,false,false] _ _;try simp only [qN]
 refine qTH 0 (.pointer (some ⟨X0,2,none⟩)) rfl hHeld ?_;try simp only [qN]
 refine qTH 1 (.slice v.t.a v.t.n v.t.c) rfl hHeld ?_;try simp only [qN]
 refine qTH 2 (I v.t.n) rfl hHeld ?_;try simp only [qN]
 refine qTH 3 (.agg (qC tb v)) rfl hHeld ?_;try simp only [qN]
 refine qTH 4 (.func (.func 76) #[.agg (qC tb v)] #[]) rfl hHeld ?_;try simp only [qN]
 refine qTH 7 (.pointer (some ⟨X0,3,none⟩)) rfl hHeld ?_;try simp only [qN]
 refine qTH 8 (.slice v.g.a v.g.n v.g.c) rfl hHeld ?_;try simp only [qN]
 refine qTH 9 (I v.g.n) rfl hHeld ?_;try simp only [qN]
 refine qTH 10 (.agg (qC tb v)) rfl hHeld ?_;try simp only [qN]
 refine qTH 11 (.func (.func 77) #[.agg (qC tb v)] #[]) rfl hHeld ?_;try simp only [qN]
 refine qTH 14 (.pointer (some ⟨X0,4,none⟩)) rfl hHeld ?_;try simp only [qN]
 refine qTH 15 (.slice v.r.a v.r.n v.r.c) rfl hHeld ?_;try simp only [qN]
 refine qTH 16 (I v.r.n) rfl hHeld ?_;try simp only [qN]
 refine qTH 17 (.agg (qC tb v)) rfl hHeld ?_;try simp only [qN]
 refine qTH 18 (.func (.func 78) #[.agg (qC tb v)] #[]) rfl hHeld ?_;try simp only [qN]
 refine qTH 21 (.pointer (some ⟨X0,5,none⟩)) rfl hHeld ?_;try simp only [qN]
 refine qTH 22 (.slice v.k.a v.k.n v.k.c) rfl hHeld ?_;try simp only [qN]
 refine qTH 23 (I v.k.n) rfl hHeld ?_;try simp only [qN]
 refine qTH 24 (.agg (qC tb v)) rfl hHeld ?_;try simp only [qN]
 refine qTH 25 (.func (.func 79) #[.agg (qC tb v)] #[]) rfl hHeld ?_;try simp only [qN]
 refine qTH 28 (.pointer (some ⟨X0,6,none⟩)) rfl hHeld ?_;try simp only [qN]
 refine qTH 29 (.slice v.a.a v.a.n v.a.c) rfl hHeld ?_;try simp only [qN]
 refine qTH 30 (I v.a.n) rfl hHeld ?_;try simp only [qN]
 refine qTH 31 (.agg (qC tb v)) rfl hHeld ?_;try simp only [qN]
 refine qTH 32 (.func (.func 80) #[.agg (qC tb v)] #[]) rfl hHeld ?_;try simp only [qN]
 refine qTH 35 (.pointer (some ⟨X0,7,none⟩)) rfl hHeld ?_;try simp only [qN]
 refine qTH 36 (.slice v.i.a v.i.n v.i.c) rfl hHeld ?_;try simp only [qN]
 refine qTH 37 (I v.i.n) rfl hHeld ?_;try simp only [qN]
 refine qTH 38 (.agg (qC tb v)) rfl hHeld ?_;try simp only [qN]
 refine qTH 39 (.func (.func 81) #[.agg (qC tb v)] #[]) rfl hHeld ?_;try simp only [qN]
 refine qTH 42 (.pointer (some ⟨X0,8,none⟩)) rfl hHeld ?_;try simp only [qN]
 refine qTH 43 (.slice v.s.a v.s.n v.s.c) rfl hHeld ?_;try simp only [qN]
 refine qTH 44 (I v.s.n) rfl hHeld ?_;try simp only [qN]
 refine qTH 45 (.agg (qC tb v)) rfl hHeld ?_;try simp only [qN]
 refine qTH 46 (.func (.func 82) #[.agg (qC tb v)] #[]) rfl hHeld ?_;try simp only [qN]
 clear hHeld;refine qfl (fun G HG=>?_);dsimp only;obtain ⟨KF,hKF⟩:∃KF:Nat→Nat→Prop,∀i f,KF i f=∀(W:World) (s:Nat→Sl) (u:Nat→Value) (Z Y:Nat),qB w1 W→hkP [L1,L2,L3,L4,L5,L6,L7] [F1,F2,F3,F4,F5,F6,F7] W s u i→(15≤i→W.heap[Z]?=some (.cells #[I 2,I L1.length,u 0,I 3,I L2.length,u 1,I 4,I L3.length,u 2,I 5,I L4.length,u 3,I 6,I L5.length,u 4,I 7,I L6.length,u 5,I 8,I L7.length,u 6] 91)∧w1.heap.size≤Z)→(1≤f→W.heap[Y]?=some (.cells #[qZ] 88)∧w1.heap.size≤Y)→G (17 - i - f) (hkL i f) (hkT tb v X0 X1 L1 L2 L3 L4 L5 L6 L7 s u Z Y i f) W:=⟨_,fun _ _=>rfl⟩
 have KE1:Hid (KF 15 1):=by
  show KF 15 1;rw [hKF];intro W s u Z Y hb hf hz hy;obtain ⟨z1,z2⟩:=hz (Nat.le_refl _);obtain ⟨y1,y2⟩:=hy (Nat.le_refl _);have p1:W.ownsRow 0 5 1 (u 0) F1.length (Bs8 F1):=hf.1 0 (by omega) (by omega);have p2:W.ownsRow 0 5 1 (u 1) F2.length (Bs8 F2):=hf.1 1 (by omega) (by omega);have p3:W.ownsRow 0 5 1 (u 2) F3.length (Bs8 F3):=hf.1 2 (by omega) (by omega);have p4:W.ownsRow 0 5 1 (u 3) F4.length (Bs8 F4):=hf.1 3 (by omega) (by omega);have p5:W.ownsRow 0 5 1 (u 4) F5.length (Bs8 F5):=hf.1 4 (by omega) (by omega);have p6:W.ownsRow 0 5 1 (u 5) F6.length (Bs8 F6):=hf.1 5 (by omega) (by omega);have p7:W.ownsRow 0 5 1 (u 6) F7.length (Bs8 F7):=hf.1 6 (by omega) (by omega);clear hf hz hy;rw [HG.out];simp only [hkL,hkT,Nat.reduceLeDiff,decide_true,decide_false,↓reduceIte,Nat.reduceSub];generalize u 0=u1 at z1 p1 ⊢;generalize s 0=s1;generalize u 1=u2 at z1 p2 ⊢;generalize s 1=s2;generalize u 2=u3 at z1 p3 ⊢;generalize s 2=s3;generalize u 3=u4 at z1 p4 ⊢;generalize s 3=s4;generalize u 4=u5 at z1 p5 ⊢;generalize s 4=s5;generalize u 5=u6 at z1 p6 ⊢;generalize s 5=s6;generalize u 6=u7 at z1 p7 ⊢;generalize s 6=s7;refine qR1 (i:=51) rfl (fun K hK=>?_);have hy0:W.cell? ⟨Y,0,none⟩=some qZ:=by rw [qcr y1];rfl
  have hy1:W.frozen? ⟨Y,0,none⟩=false:=frozen_of_row _ _ _ _ _ y1;go_simp;refine hK.out _ _ (HS.out _ (Bset hb y2)) (fun hSS=>?_);clear hSS hK K hy0 hy1;try simp only [qN]
  refine wpAnyH_done (by kernel_rfl) ?_ _;have hB2:=Bset (i:=0) (v:=.slice (some ⟨Z,0,none⟩) 7 7) hb y2;have hZY:Z≠Y:=by rintro rfl;rw [y1] at z1;cases z1
  have hY2:=heap_setCell_same W Y 0 _ _ (.slice (some ⟨Z,0,none⟩) 7 7) y1;have hZ2:=(heap_setCell_other W ⟨Y,0,none⟩ Z (.slice (some ⟨Z,0,none⟩) 7 7) hZY).trans z1;have q1:=qdp (x:=.slice (some ⟨Z,0,none⟩) 7 7) p1 y1 (by decide);have q2:=qdp (x:=.slice (some ⟨Z,0,none⟩) 7 7) p2 y1 (by decide);have q3:=qdp (x:=.slice (some ⟨Z,0,none⟩) 7 7) p3 y1 (by decide);have q4:=qdp (x:=.slice (some ⟨Z,0,none⟩) 7 7) p4 y1 (by decide);have q5:=qdp (x:=.slice (some ⟨Z,0,none⟩) 7 7) p5 y1 (by decide);have q6:=qdp (x:=.slice (some ⟨Z,0,none⟩) 7 7) p6 y1 (by decide);have q7:=qdp (x:=.slice (some ⟨Z,0,none⟩) 7 7) p7 y1 (by decide);generalize W.setCell ⟨Y,0,none⟩ (.slice (some ⟨Z,0,none⟩) 7 7)=w2 at *;have hYc:w2.cell? ⟨Y,0,none⟩=some (.slice (some ⟨Z,0,none⟩) 7 7):=by rw [qcr hY2];rfl
  have hRW:=qsy (w:=w2) (Y:=Y) (Z:=Z) (n:=7) [u1,u2,u3,u4,u5,u6,u7] [F1,F2,F3,F4,F5,F6,F7] rfl (by omega) rfl hYc (qa6 hY2) (qa6 hZ2) (fun j u hj=>by
   rw [qcr hZ2];match j,hj with
   | 0,hj | 1,hj | 2,hj | 3,hj | 4,hj | 5,hj | 6,hj=>simp at hj ⊢;exact hj) (fun j F u h1 h2=>by
   match j,h1,h2 with
   | 0,h1,h2=>simp at h1 h2;subst h1 h2;exact q1
   | 1,h1,h2=>simp at h1 h2;subst h1 h2;exact q2
   | 2,h1,h2=>simp at h1 h2;subst h1 h2;exact q3
   | 3,h1,h2=>simp at h1 h2;subst h1 h2;exact q4
   | 4,h1,h2=>simp at h1 h2;subst h1 h2;exact q5
   | 5,h1,h2=>simp at h1 h2;subst h1 h2;exact q6
   | 6,h1,h2=>simp at h1 h2;subst h1 h2;exact q7)
  have H2:Hid (qB w1 w2∧w2.heap[Y]?=some (.cells #[.slice (some ⟨Z,0,none⟩) 7 7] 88)∧w2.heap[Z]?=some (.cells #[I 2,I L1.length,u1,I 3,I L2.length,u2,I 4,I L3.length,u3,I 5,I L4.length,u4,I 6,I L5.length,u5,I 7,I L6.length,u6,I 8,I L7.length,u7] 91)∧w2.ownsRow 0 5 1 u1 F1.length (Bs8 F1)∧w2.ownsRow 0 5 1 u2 F2.length (Bs8 F2)∧w2.ownsRow 0 5 1 u3 F3.length (Bs8 F3)∧w2.ownsRow 0 5 1 u4 F4.length (Bs8 F4)∧w2.ownsRow 0 5 1 u5 F5.length (Bs8 F5)∧w2.ownsRow 0 5 1 u6 F6.length (Bs8 F6)∧w2.ownsRow 0 5 1 u7 F7.length (Bs8 F7)):=⟨hB2,hY2,hZ2,q1,q2,q3,q4,q5,q6,q7⟩;clear y1 y2 z1 z2 hb hB2 hY2 hZ2 hZY q1 q2 q3 q4 q5 q6 q7 p1 p2 p3 p4 p5 p6 p7 HG hR1 hR2 hR3 hR4 hR5 hR6 hR7 hQ1 hQ2 hQ3 hQ4 hQ5 hQ6 hQ7;go_wp2_with (first
   | (go_at_call 75;refine hRW.mono ?_;clear hRW;rintro e w3 ⟨⟨sa,sn,sc⟩,rfl,r3,b3⟩;dsimp only [slT]))
  refine (catB w3 ⟨sa,sn,sc⟩ [F1,F2,F3,F4,F5,F6,F7] r3 (Nat.le_trans hlB (by omega))).mono ?_;clear r3;rintro e w4 ⟨u4,rfl,o4,b4⟩;obtain ⟨aa4,ca4,rfl⟩:=qam o4;rw [qd8] at o4;have b24:=belT b3 b4;obtain ⟨c0,c1,c2,c3,c4,c5,c6,c7,c8,c9,c10,c11,c12,c13,c14,c15,c16,c17,c18,c19⟩:=HS.out w4 (belT H2.out.1 b24);have HL4:Hid (([F1,F2,F3,F4,F5,F6,F7].flatten).length≤900000):=hlB;have H4:Hid (OwB w2 w4 (.slice aa4 ([F1,F2,F3,F4,F5,F6,F7].flatten).length ca4) ([F1,F2,F3,F4,F5,F6,F7].flatten)):=⟨qbk o4 b3.size,b24⟩;clear o4 b3 b4 b24 hYc;generalize hF:[F1,F2,F3,F4,F5,F6,F7].flatten=F at *;have HF:Hid ([F1,F2,F3,F4,F5,F6,F7].flatten=F):=hF;clear hF hlB;have hFl:F.length≤900000:=HL4.out;go_wp2_with (first
   | (go_at_call 85;refine (hH F hFl w4 (belT H2.out.1 H4.out.2)).mono ?_;clear hH c0 c1 c2 c3 c4 c5 c6 c7 c8 c9 c10 c11 c12 c13 c14 c15 c16 c17 c18 c19;rintro e w5 ⟨u5,rfl,o5⟩;obtain ⟨a5,c5,rfl⟩:=qam o5.1;have H5:Hid (OwB w4 w5 (.slice a5 (qal tb (30+F.length)).length c5) (qal tb (30+F.length))):=o5;clear o5)
   | (go_at_call 33;refine (Ob.crc_any _ 2 2 [qal tb (30+F.length),F] _ (qs0 (heap_alloc_new _ _) (qky (qba H5.out.1)) (qky (qad (qba H4.out.1) H5.out.2)) (hlH F hFl) (by omega))).mono ?_;rintro e w6 ⟨rfl,rfl⟩)
   | (go_at_call 87;refine (qqd _ _ (by omega) (crcB F)).mono ?_;rintro e w7 ⟨rfl,b7⟩)
   | (go_at_call 86;refine (qcl (n:=1) [((Ob.crcs 65535 [qal tb (30+F.length),F]:Nat),2)] (heap_alloc_new _ _) rfl (okS F) (by simp)).mono ?_;rintro e w8 ⟨u8,rfl,o8⟩;obtain ⟨a8,c8,rfl⟩:=qam o8.1))
  have H18:Hid (qB w1 w8):=belT H2.out.1 (belT H4.out.2 (belT H5.out.2 (belT (qa0 w5 _) (belT b7 (belT (qa0 w7 _) o8.2)))));have b28:qB w2 w8:=belT H4.out.2 (belT H5.out.2 (belT (qa0 w5 _) (belT b7 (belT (qa0 w7 _) o8.2))));have b58:qB w5 w8:=belT (qa0 w5 _) (belT b7 (belT (qa0 w7 _) o8.2));obtain ⟨g1,g2,g3,g4,g5,g6,g7,g8,g9,g10⟩:=H2.out;have HS:Hid (∀W,qB w8 W→W.cell? ⟨Y,0,none⟩=some (.slice (some ⟨Z,0,none⟩) 7 7)):=fun W hW=>by
   rw [qcr (((belT b28 hW).block _ (qa6 g2)).trans g2)];rfl
  have HZ:Hid (∀W,qB w8 W→W.heap[Z]?=some (.cells #[I 2,I L1.length,u1,I 3,I L2.length,u2,I 4,I L3.length,u3,I 5,I L4.length,u4,I 6,I L5.length,u5,I 7,I L6.length,u6,I 8,I L7.length,u7] 91)):=fun W hW=>((belT b28 hW).block _ (qa6 g3)).trans g3
  have HU:Hid (w2.ownsRow 0 5 1 u1 F1.length (Bs8 F1)∧w2.ownsRow 0 5 1 u2 F2.length (Bs8 F2)∧w2.ownsRow 0 5 1 u3 F3.length (Bs8 F3)∧w2.ownsRow 0 5 1 u4 F4.length (Bs8 F4)∧w2.ownsRow 0 5 1 u5 F5.length (Bs8 F5)∧w2.ownsRow 0 5 1 u6 F6.length (Bs8 F6)∧w2.ownsRow 0 5 1 u7 F7.length (Bs8 F7)):=⟨g4,g5,g6,g7,g8,g9,g10⟩;have HV:Hid (∀W,qB w8 W→rdV W 1 u1 F1.length (Bs8 F1)∧rdV W 1 u2 F2.length (Bs8 F2)∧rdV W 1 u3 F3.length (Bs8 F3)∧rdV W 1 u4 F4.length (Bs8 F4)∧rdV W 1 u5 F5.length (Bs8 F5)∧rdV W 1 u6 F6.length (Bs8 F6)∧rdV W 1 u7 F7.length (Bs8 F7)):=fun W hW=>⟨qc0 (qc7 g4) (belT b28 hW),qc0 (qc7 g5) (belT b28 hW),qc0 (qc7 g6) (belT b28 hW),qc0 (qc7 g7) (belT b28 hW),qc0 (qc7 g8) (belT b28 hW),qc0 (qc7 g9) (belT b28 hW),qc0 (qc7 g10) (belT b28 hW)⟩
  have HW:Hid (∀W,qB w8 W→W.ownsRow 0 5 1 (.slice a5 (qal tb (30+F.length)).length c5) (qal tb (30+F.length)).length (Bs8 (qal tb (30+F.length)))∧W.ownsRow 0 5 1 (.slice a8 (putB [(((Ob.crcs 65535 [qal tb (30+F.length),F]):Nat),2)]).length c8) ((putB [(((Ob.crcs 65535 [qal tb (30+F.length),F]):Nat),2)])).length (Bs8 ((putB [(((Ob.crcs 65535 [qal tb (30+F.length),F]):Nat),2)])))):=fun W hW=>⟨qad (qba H5.out.1) (belT b58 hW),qad (qba o8.1) hW⟩
  have HP2:Hid ((putB [(((Ob.crcs 65535 [qal tb (30+F.length),F]):Nat),2)])=leB 2 (Ob.crcs 65535 [qal tb (30+F.length),F])):=by show _=_;simp [putB]
  have hl2:∀F':List UInt8,(putB [((Ob.crcs 65535 [qal tb (30+F.length),F]:Nat),2)]).length≤1000000:=fun _=>by
   rw [HP2.out,qa8];omega
  clear g1 g2 g3 g4 g5 g6 g7 g8 g9 g10 b28 b58 b7 o8 crcB okS;have HC:=HS.out w8.drew (Below.refl w8.heap.size w8).drew;refine wp_region_held_drew (S:=fun W=>W.cell? ⟨Y,0,none⟩=some (.slice (some ⟨Z,0,none⟩) 7 7)) (by kernel_rfl) HC (fun hHeld=>?_);clear HC;change wpAnyH _ _ _ _ _ _ #[false,false,false,false,false,false,false,false,false,false,false,false] _ _;try simp only [qN]
  refine qTH 0 (.slice a5 (qal tb (30+F.length)).length c5) rfl hHeld ?_;try simp only [qN]
  refine qTH 4 (.slice (some ⟨Z,0,none⟩) 7 7) rfl hHeld ?_;try simp only [qN]
  refine qTH 5 (.slice a8 (putB [(((Ob.crcs 65535 [qal tb (30+F.length),F]):Nat),2)]).length c8) rfl hHeld ?_;try simp only [qN]
  clear hHeld;refine qfl (fun G HG=>?_);dsimp only;generalize (.agg (qC tb v):Value)=U;obtain ⟨T6,hT6⟩:∃T:Value→Value→Value→Value→Value→Value→Array Value,T=fun y79 y80 y81 y84 y85 y86=>#[U,.pointer (some ⟨X0,0,none⟩),qZ,.pointer (some ⟨X1,0,none⟩),.pointer (some ⟨Y,0,none⟩),.slice aa4 F.length ca4,.slice a5 (qal tb (30+F.length)).length c5,.slice a8 (putB [(((Ob.crcs 65535 [qal tb (30+F.length),F]):Nat),2)]).length c8,U,U,.pointer (some ⟨X0,2,none⟩),.slice v.t.a v.t.n v.t.c,I v.t.n,U,.func (.func 76) #[U] #[],slT s1,.agg #[I 2,I L1.length,u1],.pointer (some ⟨X0,3,none⟩),.slice v.g.a v.g.n v.g.c,I v.g.n,U,.func (.func 77) #[U] #[],slT s2,.agg #[I 3,I L2.length,u2],.pointer (some ⟨X0,4,none⟩),.slice v.r.a v.r.n v.r.c,I v.r.n,U,.func (.func 78) #[U] #[],slT s3,.agg #[I 4,I L3.length,u3],.pointer (some ⟨X0,5,none⟩),.slice v.k.a v.k.n v.k.c,I v.k.n,U,.func (.func 79) #[U] #[],slT s4,.agg #[I 5,I L4.length,u4],.pointer (some ⟨X0,6,none⟩),.slice v.a.a v.a.n v.a.c,I v.a.n,U,.func (.func 80) #[U] #[],slT s5,.agg #[I 6,I L5.length,u5],.pointer (some ⟨X0,7,none⟩),.slice v.i.a v.i.n v.i.c,I v.i.n,U,.func (.func 81) #[U] #[],slT s6,.agg #[I 7,I L6.length,u6],.pointer (some ⟨X0,8,none⟩),.slice v.s.a v.s.n v.s.c,I v.s.n,U,.func (.func 82) #[U] #[],slT s7,.agg #[I 8,I L7.length,u7],.slice (some ⟨Z,0,none⟩) 7 7,.slice (some ⟨Z,0,none⟩) 7 7,I 7,.func (.func 84) #[] #[.pointer (some ⟨Y,0,none⟩)],.slice sa sn sc,.slice aa4 F.length ca4,U,.slice aa4 F.length ca4,I F.length,I (28+(F.length:Int)),I (28+(F.length:Int)+2),.slice a5 (qal tb (30+F.length)).length c5,.slice a5 (qal tb (30+F.length)).length c5,.slice aa4 F.length ca4,.slice (some ⟨w5.heap.size,0,none⟩) 2 2,.int .u16 ((Ob.crcs 65535 [qal tb (30+F.length),F]):Nat),cV ((Ob.crcs 65535 [qal tb (30+F.length),F]):Nat) 2,.slice (some ⟨w7.heap.size,0,none⟩) 1 1,.slice a8 (putB [(((Ob.crcs 65535 [qal tb (30+F.length),F]):Nat),2)]).length c8,.slice a5 (qal tb (30+F.length)).length c5,y79,y80,y81,.slice (some ⟨Z,0,none⟩) 7 7,.slice a8 (putB [(((Ob.crcs 65535 [qal tb (30+F.length),F]):Nat),2)]).length c8,y84,y85,y86,undef,undef]:=⟨_,rfl⟩
  have K0:Hid (∀(W:World) (B1:Nat) (v1:Value) (B3:Nat) (B6:Nat) (v9:Value) (B8:Nat),qB w8 W→(W.ownsRow 0 5 1 v1 (qal tb (30+F.length)).length (Bs8 (qal tb (30+F.length))))→(W.heap[B3]?=some (.cells #[I 1,I 1,v1] 91))→(W.ownsRow 0 5 1 v9 (putB [(((Ob.crcs 65535 [qal tb (30+F.length),F]):Nat),2)]).length (Bs8 (putB [(((Ob.crcs 65535 [qal tb (30+F.length),F]):Nat),2)])))→(W.heap[B8]?=some (.cells #[I 9,I 1,v9] 91))→G 3 #[true,true,true,true,true,true,true,true,true,false,false,false] (T6 (.slice (some ⟨B1,0,none⟩) 1 1) (.agg #[I 1,I 1,v1]) (.slice (some ⟨B3,0,none⟩) 1 1) (.slice (some ⟨B6,0,none⟩) 1 1) (.agg #[I 9,I 1,v9]) (.slice (some ⟨B8,0,none⟩) 1 1)) W):=fun W B1 v1 B3 B6 v9 B8 hb h2 h3 h7 h8=>by
   subst hT6;rw [HG.out];dsimp only;refine qR1 (i:=9) rfl (fun K hK=>?_);go_simp;refine hK.out _ _ (HS.out _ (belA hb)) (fun hSS=>?_);clear hSS hK K;try simp only [qN]
   refine qR1 (i:=10) rfl (fun K hK=>?_);go_simp;have hcat:=catP (W.alloc (.cells #[.slice (some ⟨B3,0,none⟩) 1 1,.slice (some ⟨Z,0,none⟩) 7 7,.slice (some ⟨B8,0,none⟩) 1 1] 88)) ⟨some ⟨W.heap.size,0,none⟩,3,3⟩ [[⟨1,1,v1⟩],[⟨2,L1.length,u1⟩,⟨3,L2.length,u2⟩,⟨4,L3.length,u3⟩,⟨5,L4.length,u4⟩,⟨6,L5.length,u5⟩,⟨7,L6.length,u6⟩,⟨8,L7.length,u7⟩],[⟨9,1,v9⟩]]
    (qnv [.slice (some ⟨B3,0,none⟩) 1 1,.slice (some ⟨Z,0,none⟩) 7 7,.slice (some ⟨B8,0,none⟩) 1 1] _ (heap_alloc_new W _) rfl rfl (by simp) (fun j l v e1 e2=>by
     match j,e1,e2 with
     | 0,e1,e2=>simp at e1 e2;subst e1 e2;exact qc0 (qgr [I 1,I 1,v1] h3 rfl) (qa0 W _)
     | 1,e1,e2=>simp at e1 e2;subst e1 e2;exact qc0 (qgr [I 2,I L1.length,u1,I 3,I L2.length,u2,I 4,I L3.length,u3,I 5,I L4.length,u4,I 6,I L5.length,u5,I 7,I L6.length,u6,I 8,I L7.length,u7] (HZ.out W hb) rfl) (qa0 W _)
     | 2,e1,e2=>simp at e1 e2;subst e1 e2;exact qc0 (qgr [I 9,I 1,v9] h8 rfl) (qa0 W _)))
    (by simp) (qs4 (by
     intro p hp;simp only [List.flatten_cons,List.flatten_nil,List.append_nil,List.cons_append,List.nil_append,List.mem_cons,List.not_mem_nil,or_false] at hp;rcases hp with rfl | rfl | rfl | rfl | rfl | rfl | rfl | rfl | rfl
     all_goals first | exact qd4 h2 | exact qd4 h7 | exact qd4 (HU.out.1) | exact qd4 (HU.out.2.1) | exact qd4 (HU.out.2.2.1) | exact qd4 (HU.out.2.2.2.1) | exact qd4 (HU.out.2.2.2.2.1) | exact qd4 (HU.out.2.2.2.2.2.1) | exact qd4 (HU.out.2.2.2.2.2.2)))
   go_wp2_with (first | (go_at_call 88;refine hcat.mono ?_;rintro e w9 ⟨u,rfl,o9,b9⟩));clear hcat;have hb9:qB w8 w9:=belT hb (belT (qa0 W _) b9);obtain ⟨⟨fa,fn,fc⟩,rfl,hfin⟩:=qp4 _ [(1,1,qal tb (30+F.length)),(2,L1.length,F1),(3,L2.length,F2),(4,L3.length,F3),(5,L4.length,F4),(6,L5.length,F5),(7,L6.length,F6),(8,L7.length,F7),(9,1,leB 2 (Ob.crcs 65535 [qal tb (30+F.length),F]))] o9 (by simp) (fun j p x e1 e2=>by
    have k1:=qc7 (qad (qad h2 (qa0 W (.cells #[.slice (some ⟨B3,0,none⟩) 1 1,.slice (some ⟨Z,0,none⟩) 7 7,.slice (some ⟨B8,0,none⟩) 1 1] 88))) b9);have k9:=qc7 (qad (qad h7 (qa0 W (.cells #[.slice (some ⟨B3,0,none⟩) 1 1,.slice (some ⟨Z,0,none⟩) 7 7,.slice (some ⟨B8,0,none⟩) 1 1] 88))) b9);have kk:=(HV.out w9 hb9);simp only [List.flatten_cons,List.flatten_nil,List.append_nil,List.cons_append,List.nil_append] at e1;match j,e1,e2 with
    | 0,e1,e2=>simp at e1 e2;subst e1 e2;exact ⟨rfl,rfl,k1⟩
    | 1,e1,e2=>simp at e1 e2;subst e1 e2;exact ⟨rfl,rfl,kk.1⟩
    | 2,e1,e2=>simp at e1 e2;subst e1 e2;exact ⟨rfl,rfl,kk.2.1⟩
    | 3,e1,e2=>simp at e1 e2;subst e1 e2;exact ⟨rfl,rfl,kk.2.2.1⟩
    | 4,e1,e2=>simp at e1 e2;subst e1 e2;exact ⟨rfl,rfl,kk.2.2.2.1⟩
    | 5,e1,e2=>simp at e1 e2;subst e1 e2;exact ⟨rfl,rfl,kk.2.2.2.2.1⟩
    | 6,e1,e2=>simp at e1 e2;subst e1 e2;exact ⟨rfl,rfl,kk.2.2.2.2.2.1⟩
    | 7,e1,e2=>simp at e1 e2;subst e1 e2;exact ⟨rfl,rfl,kk.2.2.2.2.2.2⟩
    | 8,e1,e2=>simp at e1 e2;subst e1 e2;exact ⟨rfl,rfl,by rw [←HP2.out];exact k9⟩)
   have HFIN:Hid (RowsAt w9 3 (pceP w9) ⟨fa,fn,fc⟩ [(1,1,qal tb (30+F.length)),(2,L1.length,F1),(3,L2.length,F2),(4,L3.length,F3),(5,L4.length,F4),(6,L5.length,F5),(7,L6.length,F6),(8,L7.length,F7),(9,1,leB 2 (Ob.crcs 65535 [qal tb (30+F.length),F]))]∧qB w8 w9):=⟨hfin,hb9⟩;have hSw:=HS.out w9 hb9;clear o9 b9 hb9 hfin h2 h3 h7 h8 hb;refine hK.out _ _ hSw (fun hSS=>?_);clear hSS hSw hK K;try simp only [qN]
   refine qR1 (i:=11) rfl (fun K hK=>?_);dsimp only [slT];go_simp;refine hK.out _ _ (HS.out w9 HFIN.out.2) (fun hSS=>?_);clear hSS hK K;try simp only [qN]
   refine wpAnyH_done (by kernel_rfl) ?_ _;go_wp2;go_ret;have hB0:=HB.out;rw [←HX.out] at hB0;refine ⟨⟨fa,fn,fc⟩,rfl,?_,belT (belT hB0 H18.out) HFIN.out.2⟩;rw [HF.out];exact HFIN.out.1
  have K1:Hid (∀(W:World) (B1:Nat) (v1:Value) (B3:Nat) (B6:Nat) (v9:Value),qB w8 W→(W.ownsRow 0 5 1 v1 (qal tb (30+F.length)).length (Bs8 (qal tb (30+F.length))))→(W.heap[B3]?=some (.cells #[I 1,I 1,v1] 91))→(W.ownsRow 0 5 1 v9 (putB [(((Ob.crcs 65535 [qal tb (30+F.length),F]):Nat),2)]).length (Bs8 (putB [(((Ob.crcs 65535 [qal tb (30+F.length),F]):Nat),2)])))→G 4 #[true,true,true,true,true,true,true,true,false,false,false,false] (T6 (.slice (some ⟨B1,0,none⟩) 1 1) (.agg #[I 1,I 1,v1]) (.slice (some ⟨B3,0,none⟩) 1 1) (.slice (some ⟨B6,0,none⟩) 1 1) (.agg #[I 9,I 1,v9]) undef) W):=fun W B1 v1 B3 B6 v9 hb h2 h3 h7=>by
   subst hT6;rw [HG.out];dsimp only;refine qW [8] ?_;refine qK (fun K hK=>?_) ?_
   ·go_simp
    refine hK.out _ _ (HS.out _ (belT hb (qa0 W _))) (fun _=>?_);try simp only [qN]
    exact (HG.out _ _ _ _).mp (K0.out _ B1 v1 B3 B6 v9 _ (belT hb (qa0 W _)) (qad h2 (qa0 W _)) (((qa0 W _)).block _ (qa6 h3) |>.trans h3) (qad h7 (qa0 W _)) (heap_alloc_new _ _))
   exact qn
  have K2:Hid (∀(W:World) (B1:Nat) (v1:Value) (B6:Nat) (v9:Value) (B8:Nat),qB w8 W→(W.ownsRow 0 5 1 v1 (qal tb (30+F.length)).length (Bs8 (qal tb (30+F.length))))→(W.ownsRow 0 5 1 v9 (putB [(((Ob.crcs 65535 [qal tb (30+F.length),F]):Nat),2)]).length (Bs8 (putB [(((Ob.crcs 65535 [qal tb (30+F.length),F]):Nat),2)])))→(W.heap[B8]?=some (.cells #[I 9,I 1,v9] 91))→G 4 #[true,true,true,false,true,true,true,true,true,false,false,false] (T6 (.slice (some ⟨B1,0,none⟩) 1 1) (.agg #[I 1,I 1,v1]) undef (.slice (some ⟨B6,0,none⟩) 1 1) (.agg #[I 9,I 1,v9]) (.slice (some ⟨B8,0,none⟩) 1 1)) W):=fun W B1 v1 B6 v9 B8 hb h2 h7 h8=>by
   subst hT6;rw [HG.out];dsimp only;refine qW [3] ?_;refine qK (fun K hK=>?_) ?_
   ·go_simp
    refine hK.out _ _ (HS.out _ (belT hb (qa0 W _))) (fun _=>?_);try simp only [qN]
    exact (HG.out _ _ _ _).mp (K0.out _ B1 v1 _ B6 v9 B8 (belT hb (qa0 W _)) (qad h2 (qa0 W _)) (heap_alloc_new _ _) (qad h7 (qa0 W _)) (((qa0 W _)).block _ (qa6 h8) |>.trans h8))
   exact qn
  have K3:Hid (∀(W:World) (B1:Nat) (v1:Value) (B3:Nat) (B6:Nat),qB w8 W→(W.ownsRow 0 5 1 v1 (qal tb (30+F.length)).length (Bs8 (qal tb (30+F.length))))→(W.heap[B3]?=some (.cells #[I 1,I 1,v1] 91))→(W.heap[B6]?=some (.cells #[.slice a8 (putB [(((Ob.crcs 65535 [qal tb (30+F.length),F]):Nat),2)]).length c8] 22))→G 5 #[true,true,true,true,true,true,true,false,false,false,false,false] (T6 (.slice (some ⟨B1,0,none⟩) 1 1) (.agg #[I 1,I 1,v1]) (.slice (some ⟨B3,0,none⟩) 1 1) (.slice (some ⟨B6,0,none⟩) 1 1) undef undef) W):=fun W B1 v1 B3 B6 hb h2 h3 h6=>by
   subst hT6;rw [HG.out];dsimp only;refine qW [7] ?_;refine qK (fun K hK=>?_) ?_
   ·go_simp
    go_wp2_with (first | (go_at_call 74;refine (qc3 W 9 ⟨some ⟨B6,0,none⟩,1,1⟩ [putB [(((Ob.crcs 65535 [qal tb (30+F.length),F]):Nat),2)]] (putB [(((Ob.crcs 65535 [qal tb (30+F.length),F]):Nat),2)]) (by simp) (seg1 h6 (HW.out W hb).2) (hl2 F)).mono ?_;rintro e w9 ⟨a9,c9,rfl,o9⟩));refine hK.out _ _ (HS.out _ (belT hb (o9.2))) (fun _=>?_);try simp only [qN]
    exact (HG.out _ _ _ _).mp (K1.out _ B1 v1 B3 B6 _ (belT hb (o9.2)) (qad h2 (o9.2)) (((o9.2)).block _ (qa6 h3) |>.trans h3) (qba o9.1))
   exact qn
  have K4:Hid (∀(W:World) (B1:Nat) (v1:Value) (B6:Nat) (v9:Value),qB w8 W→(W.ownsRow 0 5 1 v1 (qal tb (30+F.length)).length (Bs8 (qal tb (30+F.length))))→(W.ownsRow 0 5 1 v9 (putB [(((Ob.crcs 65535 [qal tb (30+F.length),F]):Nat),2)]).length (Bs8 (putB [(((Ob.crcs 65535 [qal tb (30+F.length),F]):Nat),2)])))→G 5 #[true,true,true,false,true,true,true,true,false,false,false,false] (T6 (.slice (some ⟨B1,0,none⟩) 1 1) (.agg #[I 1,I 1,v1]) undef (.slice (some ⟨B6,0,none⟩) 1 1) (.agg #[I 9,I 1,v9]) undef) W):=fun W B1 v1 B6 v9 hb h2 h7=>by
   subst hT6;rw [HG.out];dsimp only;refine qW [3,8] ?_;refine qK (fun K hK=>?_) ?_
   ·go_simp
    refine hK.out _ _ (HS.out _ (belT hb (qa0 W _))) (fun _=>?_);try simp only [qN]
    exact (HG.out _ _ _ _).mp (K1.out _ B1 v1 _ B6 v9 (belT hb (qa0 W _)) (qad h2 (qa0 W _)) (heap_alloc_new _ _) (qad h7 (qa0 W _)))
   refine qK (fun K hK=>?_) ?_
   ·go_simp
    refine hK.out _ _ (HS.out _ (belT hb (qa0 W _))) (fun _=>?_);try simp only [qN]
    exact (HG.out _ _ _ _).mp (K2.out _ B1 v1 B6 v9 _ (belT hb (qa0 W _)) (qad h2 (qa0 W _)) (qad h7 (qa0 W _)) (heap_alloc_new _ _))
   exact qn
  have K5:Hid (∀(W:World) (B1:Nat) (v1:Value) (B3:Nat),qB w8 W→(W.ownsRow 0 5 1 v1 (qal tb (30+F.length)).length (Bs8 (qal tb (30+F.length))))→(W.heap[B3]?=some (.cells #[I 1,I 1,v1] 91))→G 6 #[true,true,true,true,true,true,false,false,false,false,false,false] (T6 (.slice (some ⟨B1,0,none⟩) 1 1) (.agg #[I 1,I 1,v1]) (.slice (some ⟨B3,0,none⟩) 1 1) undef undef undef) W):=fun W B1 v1 B3 hb h2 h3=>by
   subst hT6;rw [HG.out];dsimp only;refine qW [6] ?_;refine qK (fun K hK=>?_) ?_
   ·go_simp
    refine hK.out _ _ (HS.out _ (belT hb (qa0 W _))) (fun _=>?_);try simp only [qN]
    exact (HG.out _ _ _ _).mp (K3.out _ B1 v1 B3 _ (belT hb (qa0 W _)) (qad h2 (qa0 W _)) (((qa0 W _)).block _ (qa6 h3) |>.trans h3) (heap_alloc_new _ _))
   exact qn
  have K6:Hid (∀(W:World) (B1:Nat) (v1:Value) (B6:Nat),qB w8 W→(W.ownsRow 0 5 1 v1 (qal tb (30+F.length)).length (Bs8 (qal tb (30+F.length))))→(W.heap[B6]?=some (.cells #[.slice a8 (putB [(((Ob.crcs 65535 [qal tb (30+F.length),F]):Nat),2)]).length c8] 22))→G 6 #[true,true,true,false,true,true,true,false,false,false,false,false] (T6 (.slice (some ⟨B1,0,none⟩) 1 1) (.agg #[I 1,I 1,v1]) undef (.slice (some ⟨B6,0,none⟩) 1 1) undef undef) W):=fun W B1 v1 B6 hb h2 h6=>by
   subst hT6;rw [HG.out];dsimp only;refine qW [3,7] ?_;refine qK (fun K hK=>?_) ?_
   ·go_simp
    refine hK.out _ _ (HS.out _ (belT hb (qa0 W _))) (fun _=>?_);try simp only [qN]
    exact (HG.out _ _ _ _).mp (K3.out _ B1 v1 _ B6 (belT hb (qa0 W _)) (qad h2 (qa0 W _)) (heap_alloc_new _ _) (((qa0 W _)).block _ (qa6 h6) |>.trans h6))
   refine qK (fun K hK=>?_) ?_
   ·go_simp
    go_wp2_with (first | (go_at_call 74;refine (qc3 W 9 ⟨some ⟨B6,0,none⟩,1,1⟩ [putB [(((Ob.crcs 65535 [qal tb (30+F.length),F]):Nat),2)]] (putB [(((Ob.crcs 65535 [qal tb (30+F.length),F]):Nat),2)]) (by simp) (seg1 h6 (HW.out W hb).2) (hl2 F)).mono ?_;rintro e w9 ⟨a9,c9,rfl,o9⟩));refine hK.out _ _ (HS.out _ (belT hb (o9.2))) (fun _=>?_);try simp only [qN]
    exact (HG.out _ _ _ _).mp (K4.out _ B1 v1 B6 _ (belT hb (o9.2)) (qad h2 (o9.2)) (qba o9.1))
   exact qn
  have K7:Hid (∀(W:World) (B1:Nat) (v1:Value),qB w8 W→(W.ownsRow 0 5 1 v1 (qal tb (30+F.length)).length (Bs8 (qal tb (30+F.length))))→G 7 #[true,true,true,false,true,true,false,false,false,false,false,false] (T6 (.slice (some ⟨B1,0,none⟩) 1 1) (.agg #[I 1,I 1,v1]) undef undef undef undef) W):=fun W B1 v1 hb h2=>by
   subst hT6;rw [HG.out];dsimp only;refine qW [3,6] ?_;refine qK (fun K hK=>?_) ?_
   ·go_simp
    refine hK.out _ _ (HS.out _ (belT hb (qa0 W _))) (fun _=>?_);try simp only [qN]
    exact (HG.out _ _ _ _).mp (K5.out _ B1 v1 _ (belT hb (qa0 W _)) (qad h2 (qa0 W _)) (heap_alloc_new _ _))
   refine qK (fun K hK=>?_) ?_
   ·go_simp
    refine hK.out _ _ (HS.out _ (belT hb (qa0 W _))) (fun _=>?_);try simp only [qN]
    exact (HG.out _ _ _ _).mp (K6.out _ B1 v1 _ (belT hb (qa0 W _)) (qad h2 (qa0 W _)) (heap_alloc_new _ _))
   exact qn
  have K8:Hid (∀(W:World) (B1:Nat) (B6:Nat),qB w8 W→(W.heap[B1]?=some (.cells #[.slice a5 (qal tb (30+F.length)).length c5] 22))→(W.heap[B6]?=some (.cells #[.slice a8 (putB [(((Ob.crcs 65535 [qal tb (30+F.length),F]):Nat),2)]).length c8] 22))→G 7 #[true,true,false,false,true,true,true,false,false,false,false,false] (T6 (.slice (some ⟨B1,0,none⟩) 1 1) undef undef (.slice (some ⟨B6,0,none⟩) 1 1) undef undef) W):=fun W B1 B6 hb h1 h6=>by
   subst hT6;rw [HG.out];dsimp only;refine qW [2] ?_;refine qK (fun K hK=>?_) ?_
   ·go_simp
    go_wp2_with (first | (go_at_call 74;refine (qc3 W 1 ⟨some ⟨B1,0,none⟩,1,1⟩ [qal tb (30+F.length)] (qal tb (30+F.length)) (by simp) (seg1 h1 (HW.out W hb).1) (hlH F hFl)).mono ?_;rintro e w9 ⟨a9,c9,rfl,o9⟩));refine hK.out _ _ (HS.out _ (belT hb (o9.2))) (fun _=>?_);try simp only [qN]
    exact (HG.out _ _ _ _).mp (K6.out _ B1 _ B6 (belT hb (o9.2)) (qba o9.1) (((o9.2)).block _ (qa6 h6) |>.trans h6))
   exact qn
  have K9:Hid (∀(W:World) (B1:Nat),qB w8 W→(W.heap[B1]?=some (.cells #[.slice a5 (qal tb (30+F.length)).length c5] 22))→G 8 #[true,true,false,false,true,true,false,false,false,false,false,false] (T6 (.slice (some ⟨B1,0,none⟩) 1 1) undef undef undef undef undef) W):=fun W B1 hb h1=>by
   subst hT6;rw [HG.out];dsimp only;refine qW [2,6] ?_;refine qK (fun K hK=>?_) ?_
   ·go_simp
    go_wp2_with (first | (go_at_call 74;refine (qc3 W 1 ⟨some ⟨B1,0,none⟩,1,1⟩ [qal tb (30+F.length)] (qal tb (30+F.length)) (by simp) (seg1 h1 (HW.out W hb).1) (hlH F hFl)).mono ?_;rintro e w9 ⟨a9,c9,rfl,o9⟩));refine hK.out _ _ (HS.out _ (belT hb (o9.2))) (fun _=>?_);try simp only [qN]
    exact (HG.out _ _ _ _).mp (K7.out _ B1 _ (belT hb (o9.2)) (qba o9.1))
   refine qK (fun K hK=>?_) ?_
   ·go_simp
    refine hK.out _ _ (HS.out _ (belT hb (qa0 W _))) (fun _=>?_);try simp only [qN]
    exact (HG.out _ _ _ _).mp (K8.out _ B1 _ (belT hb (qa0 W _)) (((qa0 W _)).block _ (qa6 h1) |>.trans h1) (heap_alloc_new _ _))
   exact qn
  have K10:Hid (∀(W:World) (B6:Nat),qB w8 W→(W.heap[B6]?=some (.cells #[.slice a8 (putB [(((Ob.crcs 65535 [qal tb (30+F.length),F]):Nat),2)]).length c8] 22))→G 8 #[true,false,false,false,true,true,true,false,false,false,false,false] (T6 undef undef undef (.slice (some ⟨B6,0,none⟩) 1 1) undef undef) W):=fun W B6 hb h6=>by
   subst hT6;rw [HG.out];dsimp only;refine qW [1] ?_;refine qK (fun K hK=>?_) ?_
   ·go_simp
    refine hK.out _ _ (HS.out _ (belT hb (qa0 W _))) (fun _=>?_);try simp only [qN]
    exact (HG.out _ _ _ _).mp (K8.out _ _ B6 (belT hb (qa0 W _)) (heap_alloc_new _ _) (((qa0 W _)).block _ (qa6 h6) |>.trans h6))
   exact qn
  have K11:Hid (∀(W:World),qB w8 W→G 9 #[true,false,false,false,true,true,false,false,false,false,false,false] (T6 undef undef undef undef undef undef) W):=fun W hb=>by
   subst hT6;rw [HG.out];dsimp only;refine qW [1,6] ?_;refine qK (fun K hK=>?_) ?_
   ·go_simp
    refine hK.out _ _ (HS.out _ (belT hb (qa0 W _))) (fun _=>?_);try simp only [qN]
    exact (HG.out _ _ _ _).mp (K9.out _ _ (belT hb (qa0 W _)) (heap_alloc_new _ _))
   refine qK (fun K hK=>?_) ?_
   ·go_simp
    refine hK.out _ _ (HS.out _ (belT hb (qa0 W _))) (fun _=>?_);try simp only [qN]
    exact (HG.out _ _ _ _).mp (K10.out _ _ (belT hb (qa0 W _)) (heap_alloc_new _ _))
   exact qn
  subst hT6;exact K11.out _ (Below.refl _ _).drew
 have KE:Hid (KF 15 0):=by
  show KF 15 0;rw [hKF];intro W s u Z Y hb hf hz hy;rw [HG.out];simp only [hkL,hkT,Nat.reduceLeDiff,decide_true,decide_false,↓reduceIte,Nat.reduceSub];refine qW [50] ?_;refine qK (fun K hK=>?_) ?_
  ·go_simp
   refine hK.out _ _ (HS.out _ (belA hb)) (fun _=>?_);try simp only [Act.put,hkC,List.getElem_toArray,List.getElem_cons_succ,List.getElem_cons_zero,List.setIfInBounds_toArray,List.set_cons_zero,List.set_cons_succ]
   have X:=(hKF _ _).mp KE1 _ s u Z W.heap.size (belA hb) (qhf hf (qa0 W _)) (fun h=>⟨((qa0 W _).block _ (qa6 (hz h).1)).trans (hz h).1,(hz h).2⟩) (fun _=>⟨heap_alloc_new _ _,hb.size⟩);exact (HG.out _ _ _ _).mp X
  exact qn
 have KS:∀i,i < 15→Hid (KF (i+1) 1)→Hid (KF (i+1) 0)→Hid (KF i 1)∧Hid (KF i 0):=by
  intro i hi I1 I0;obtain ⟨j,hj⟩:∃j,j=i:=⟨i,rfl⟩
  have hi':i=0∨i=1∨i=2∨i=3∨i=4∨i=5∨i=6∨i=7∨i=8∨i=9∨i=10∨i=11∨i=12∨i=13∨i=14:=by omega
  clear hi;rcases hi' with rfl | rfl | rfl | rfl | rfl | rfl | rfl | rfl | rfl | rfl | rfl | rfl | rfl | rfl | rfl
  all_goals
   have k1:Hid (KF j 1):=by
    show KF j 1;rw [hj,hKF];intro W s u Z Y hb hf hz hy;rw [HG.out];simp only [hkL,hkT,Nat.reduceLeDiff,decide_true,decide_false,↓reduceIte,Nat.reduceSub];refine wpAnyH_ready (rs:=[hkC j]) (by rw [hj];kernel_rfl) (by simp) ?_;simp only [hj,hkC];refine qK (fun K hK=>?_) ?_
    ·go_simp
     first
     | (
       guard_hyp hj:j=14
       refine hK.out _ _ (HS.out _ (belA hb)) (fun _=>?_);try simp only [Act.put,hkC,List.getElem_toArray,List.getElem_cons_succ,List.getElem_cons_zero,List.setIfInBounds_toArray,List.set_cons_zero,List.set_cons_succ]
       have X:=(hKF _ _).mp I1 _ s u W.heap.size Y (belA hb) (qnw (qhf hf (qa0 W _))) (fun _=>⟨heap_alloc_new _ _,hb.size⟩) (fun h=>⟨((qa0 W _).block _ (qa6 (hy h).1)).trans (hy h).1,(hy h).2⟩);exact (HG.out _ _ _ _).mp X)
     | (
       go_wp2_with ((first | (go_at_call 75;first | (guard_hyp hj:j=0;refine (hR1 W (HBW.out W hb)).mono ?_) | (guard_hyp hj:j=2;refine (hR2 W (HBW.out W hb)).mono ?_) | (guard_hyp hj:j=4;refine (hR3 W (HBW.out W hb)).mono ?_) | (guard_hyp hj:j=6;refine (hR4 W (HBW.out W hb)).mono ?_) | (guard_hyp hj:j=8;refine (hR5 W (HBW.out W hb)).mono ?_) | (guard_hyp hj:j=10;refine (hR6 W (HBW.out W hb)).mono ?_) | (guard_hyp hj:j=12;refine (hR7 W (HBW.out W hb)).mono ?_)));rintro e w5 ⟨s9,rfl,r9,b5⟩);refine hK.out _ _ (HS.out _ (belT hb b5)) (fun _=>?_);try simp only [Act.put,hkC,List.getElem_toArray,List.getElem_cons_succ,List.getElem_cons_zero,List.setIfInBounds_toArray,List.set_cons_zero,List.set_cons_succ]
       have X:=(hKF _ _).mp I1 _ _ _ Z Y (belT hb b5) (qpw hf (by decide) b5 r9) (fun h=>absurd h (by decide)) (fun h=>⟨(b5.block _ (qa6 (hy h).1)).trans (hy h).1,(hy h).2⟩);exact (HG.out _ _ _ _).mp X)
     | (
       go_wp2_with ((first | (go_at_call 74;first | (guard_hyp hj:j=1;refine (hQ1 W _ (hf.2 0 (by omega) rfl)).mono ?_) | (guard_hyp hj:j=3;refine (hQ2 W _ (hf.2 1 (by omega) rfl)).mono ?_) | (guard_hyp hj:j=5;refine (hQ3 W _ (hf.2 2 (by omega) rfl)).mono ?_) | (guard_hyp hj:j=7;refine (hQ4 W _ (hf.2 3 (by omega) rfl)).mono ?_) | (guard_hyp hj:j=9;refine (hQ5 W _ (hf.2 4 (by omega) rfl)).mono ?_) | (guard_hyp hj:j=11;refine (hQ6 W _ (hf.2 5 (by omega) rfl)).mono ?_) | (guard_hyp hj:j=13;refine (hQ7 W _ (hf.2 6 (by omega) rfl)).mono ?_)));rintro e w5 ⟨a5,c5,rfl,o5⟩);refine hK.out _ _ (HS.out _ (belT hb o5.2)) (fun _=>?_);try simp only [Act.put,hkC,List.getElem_toArray,List.getElem_cons_succ,List.getElem_cons_zero,List.setIfInBounds_toArray,List.set_cons_zero,List.set_cons_succ]
       have X:=(hKF _ _).mp I1 _ _ _ Z Y (belT hb o5.2) (qpx hf (by decide) o5.2 (qba o5.1)) (fun h=>absurd h (by decide)) (fun h=>⟨(o5.2.block _ (qa6 (hy h).1)).trans (hy h).1,(hy h).2⟩);exact (HG.out _ _ _ _).mp X)
    exact qn
   rw [hj] at k1;refine ⟨k1,?_⟩;show KF _ 0;rw [hKF];intro W s u Z Y hb hf hz hy;rw [HG.out];simp only [hkL,hkT,Nat.reduceLeDiff,decide_true,decide_false,↓reduceIte,Nat.reduceSub];refine wpAnyH_ready (rs:=[hkC j,50]) (by rw [hj];kernel_rfl) (by simp) ?_;simp only [hj,hkC];refine qK (fun K hK=>?_) ?_
   ·go_simp
    first
    | (
      guard_hyp hj:j=14
      refine hK.out _ _ (HS.out _ (belA hb)) (fun _=>?_);try simp only [Act.put,hkC,List.getElem_toArray,List.getElem_cons_succ,List.getElem_cons_zero,List.setIfInBounds_toArray,List.set_cons_zero,List.set_cons_succ]
      have X:=(hKF _ _).mp I0 _ s u W.heap.size Y (belA hb) (qnw (qhf hf (qa0 W _))) (fun _=>⟨heap_alloc_new _ _,hb.size⟩) (fun h=>absurd h (by decide));exact (HG.out _ _ _ _).mp X)
    | (
      go_wp2_with ((first | (go_at_call 75;first | (guard_hyp hj:j=0;refine (hR1 W (HBW.out W hb)).mono ?_) | (guard_hyp hj:j=2;refine (hR2 W (HBW.out W hb)).mono ?_) | (guard_hyp hj:j=4;refine (hR3 W (HBW.out W hb)).mono ?_) | (guard_hyp hj:j=6;refine (hR4 W (HBW.out W hb)).mono ?_) | (guard_hyp hj:j=8;refine (hR5 W (HBW.out W hb)).mono ?_) | (guard_hyp hj:j=10;refine (hR6 W (HBW.out W hb)).mono ?_) | (guard_hyp hj:j=12;refine (hR7 W (HBW.out W hb)).mono ?_)));rintro e w5 ⟨s9,rfl,r9,b5⟩);refine hK.out _ _ (HS.out _ (belT hb b5)) (fun _=>?_);try simp only [Act.put,hkC,List.getElem_toArray,List.getElem_cons_succ,List.getElem_cons_zero,List.setIfInBounds_toArray,List.set_cons_zero,List.set_cons_succ]
      have X:=(hKF _ _).mp I0 _ _ _ Z Y (belT hb b5) (qpw hf (by decide) b5 r9) (fun h=>absurd h (by decide)) (fun h=>absurd h (by decide));exact (HG.out _ _ _ _).mp X)
    | (
      go_wp2_with ((first | (go_at_call 74;first | (guard_hyp hj:j=1;refine (hQ1 W _ (hf.2 0 (by omega) rfl)).mono ?_) | (guard_hyp hj:j=3;refine (hQ2 W _ (hf.2 1 (by omega) rfl)).mono ?_) | (guard_hyp hj:j=5;refine (hQ3 W _ (hf.2 2 (by omega) rfl)).mono ?_) | (guard_hyp hj:j=7;refine (hQ4 W _ (hf.2 3 (by omega) rfl)).mono ?_) | (guard_hyp hj:j=9;refine (hQ5 W _ (hf.2 4 (by omega) rfl)).mono ?_) | (guard_hyp hj:j=11;refine (hQ6 W _ (hf.2 5 (by omega) rfl)).mono ?_) | (guard_hyp hj:j=13;refine (hQ7 W _ (hf.2 6 (by omega) rfl)).mono ?_)));rintro e w5 ⟨a5,c5,rfl,o5⟩);refine hK.out _ _ (HS.out _ (belT hb o5.2)) (fun _=>?_);try simp only [Act.put,hkC,List.getElem_toArray,List.getElem_cons_succ,List.getElem_cons_zero,List.setIfInBounds_toArray,List.set_cons_zero,List.set_cons_succ]
      have X:=(hKF _ _).mp I0 _ _ _ Z Y (belT hb o5.2) (qpx hf (by decide) o5.2 (qba o5.1)) (fun h=>absurd h (by decide)) (fun h=>absurd h (by decide));exact (HG.out _ _ _ _).mp X)
   refine qK (fun K hK=>?_) ?_
   ·go_simp
    refine hK.out _ _ (HS.out _ (belA hb)) (fun _=>?_);try simp only [Act.put,hkC,List.getElem_toArray,List.getElem_cons_succ,List.getElem_cons_zero,List.setIfInBounds_toArray,List.set_cons_zero,List.set_cons_succ]
    have X:=(hKF _ _).mp k1 _ s u Z W.heap.size (belA hb) (qhf hf (qa0 W _)) (fun h=>⟨((qa0 W _).block _ (qa6 (hz h).1)).trans (hz h).1,(hz h).2⟩) (fun _=>⟨heap_alloc_new _ _,hb.size⟩);exact (HG.out _ _ _ _).mp X
   exact qn
 have KA:∀m,m≤15→Hid (KF (15 - m) 1)∧Hid (KF (15 - m) 0):=by
  intro m;induction m with
  | zero=>intro _;exact ⟨KE1,KE⟩
  | succ m ih=>intro hm;have ih:=ih (by omega);rw [show 15 - m=15 - (m+1)+1 by omega] at ih;exact KS _ (by omega) ih.1 ih.2
 have:=(KA 15 (Nat.le_refl _)).2;rw [show 15 - 15=0 from rfl,Hid,hKF] at this;exact this _ (fun _=>⟨none,0,0⟩) (fun _=>undef) 0 0 (Below.refl _ _).drew ⟨fun _ _ h=>absurd h (by omega),fun _ _ h=>absurd h (by omega)⟩ (fun h=>absurd h (by decide)) (fun h=>absurd h (by decide))
end Go.Proofs.YtijgopkhdjaolabGreat
