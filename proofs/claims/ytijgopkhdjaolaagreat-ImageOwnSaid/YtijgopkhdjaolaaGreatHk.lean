import Derived.Test.YtijgopkhdjaolaaGreatXHk2
import Derived.Deep.RegionHeldLaw
namespace Go.Proofs.YtijgopkhdjaolaaGreat
open Go.RowKit Go.Shelf Go.Sort
open Go.Proofs.YtijgopkhdjaolaaGreat.Ob (leB leV qa8 qaj crc Rd RdAll qa9)
set_option linter.unusedSimpArgs false
set_option linter.unusedVariables false
set_option maxHeartbeats 16000000
set_option maxRecDepth 100000
theorem qju (w:World) (tb:Tb) (v:Ts) (L1:List (List UInt8)) (F1:List UInt8) (L2:List (List UInt8)) (F2:List UInt8) (L3:List (List UInt8)) (F3:List UInt8) (L4:List (List UInt8)) (F4:List UInt8) (L5:List (List UInt8)) (F5:List UInt8) (L6:List (List UInt8)) (F6:List UInt8) (L7:List (List UInt8)) (F7:List UInt8)
  (hF1:L1.flatten=F1) (hF2:L2.flatten=F2) (hF3:L3.flatten=F3) (hF4:L4.flatten=F4) (hF5:L5.flatten=F5) (hF6:L6.flatten=F6) (hF7:L7.flatten=F7)
  (hR1:∀W,Below w.heap.size w W→Calls Tryz.prog 58 #[I v.t.n,.func (.func 59) #[.agg (tbC tb v)] #[]] W fun ee w'=>∃s,ee=.returned (slT s)∧RowsAt w' 1 (segB w') s L1∧qB W w')
  (hR2:∀W,Below w.heap.size w W→Calls Tryz.prog 58 #[I v.g.n,.func (.func 60) #[.agg (tbC tb v)] #[]] W fun ee w'=>∃s,ee=.returned (slT s)∧RowsAt w' 1 (segB w') s L2∧qB W w')
  (hR3:∀W,Below w.heap.size w W→Calls Tryz.prog 58 #[I v.r.n,.func (.func 61) #[.agg (tbC tb v)] #[]] W fun ee w'=>∃s,ee=.returned (slT s)∧RowsAt w' 1 (segB w') s L3∧qB W w')
  (hR4:∀W,Below w.heap.size w W→Calls Tryz.prog 58 #[I v.k.n,.func (.func 62) #[.agg (tbC tb v)] #[]] W fun ee w'=>∃s,ee=.returned (slT s)∧RowsAt w' 1 (segB w') s L4∧qB W w')
  (hR5:∀W,Below w.heap.size w W→Calls Tryz.prog 58 #[I v.a.n,.func (.func 63) #[.agg (tbC tb v)] #[]] W fun ee w'=>∃s,ee=.returned (slT s)∧RowsAt w' 1 (segB w') s L5∧qB W w')
  (hR6:∀W,Below w.heap.size w W→Calls Tryz.prog 58 #[I v.i.n,.func (.func 64) #[.agg (tbC tb v)] #[]] W fun ee w'=>∃s,ee=.returned (slT s)∧RowsAt w' 1 (segB w') s L6∧qB W w')
  (hR7:∀W,Below w.heap.size w W→Calls Tryz.prog 58 #[I v.s.n,.func (.func 65) #[.agg (tbC tb v)] #[]] W fun ee w'=>∃s,ee=.returned (slT s)∧RowsAt w' 1 (segB w') s L7∧qB W w')
  (hl1:F1.length≤1000000) (hl2:F2.length≤1000000) (hl3:F3.length≤1000000) (hl4:F4.length≤1000000) (hl5:F5.length≤1000000) (hl6:F6.length≤1000000) (hl7:F7.length≤1000000) (hHd:∀(n:Nat) W,n < 256 ^ 4→Below w.heap.size w W→Calls Tryz.prog 68 #[.agg (tbC tb v),I n] W fun e w'=>∃u,e=.returned u∧OwB W w' u (qai tb n)) (hlB:[F1,F2,F3,F4,F5,F6,F7].flatten.length≤900000):Calls Tryz.prog 22 #[.agg (tbC tb v)] w fun e w'=>∃s,e=.returned (slT s)∧RowsAt w' 3 (pceP w') s [(1,1,qai tb (30+([F1,F2,F3,F4,F5,F6,F7].flatten).length)),(2,L1.length,F1),(3,L2.length,F2),(4,L3.length,F3),(5,L4.length,F4),(6,L5.length,F5),(7,L6.length,F6),(8,L7.length,F7),(9,1,leB 2 (Ob.crcs 65535 [qai tb (30+([F1,F2,F3,F4,F5,F6,F7].flatten).length),([F1,F2,F3,F4,F5,F6,F7].flatten)]))]∧Below w.heap.size w w':=by
 have hQ1:=fun (W:World) (s:Sl) (hs:RowsAt W 1 (segB W) s L1)=>qbn W 2 s L1 F1 hF1 hs hl1
 have hQ2:=fun (W:World) (s:Sl) (hs:RowsAt W 1 (segB W) s L2)=>qbn W 3 s L2 F2 hF2 hs hl2
 have hQ3:=fun (W:World) (s:Sl) (hs:RowsAt W 1 (segB W) s L3)=>qbn W 4 s L3 F3 hF3 hs hl3
 have hQ4:=fun (W:World) (s:Sl) (hs:RowsAt W 1 (segB W) s L4)=>qbn W 5 s L4 F4 hF4 hs hl4
 have hQ5:=fun (W:World) (s:Sl) (hs:RowsAt W 1 (segB W) s L5)=>qbn W 6 s L5 F5 hF5 hs hl5
 have hQ6:=fun (W:World) (s:Sl) (hs:RowsAt W 1 (segB W) s L6)=>qbn W 7 s L6 F6 hF6 hs hl6
 have hQ7:=fun (W:World) (s:Sl) (hs:RowsAt W 1 (segB W) s L7)=>qbn W 8 s L7 F7 hF7 hs hl7
 have hb0:=qa0 w (.cells (qC tb v) 30)
 have hV0:=heap_alloc_new w (.cells (qC tb v) 30)
 have hb1:=qa0 (w.alloc (.cells (qC tb v) 30)) (.cells (qC tb v) 109)
 have hV1:=heap_alloc_new (w.alloc (.cells (qC tb v) 30)) (.cells (qC tb v) 109)
 have hbw:=belT hb0 hb1
 have HB:Hid (Below w.heap.size w ((w.alloc (.cells (qC tb v) 30)).alloc (.cells (qC tb v) 109))):=hbw
 have HS0:Hid (∀W,qB ((w.alloc (.cells (qC tb v) 30)).alloc (.cells (qC tb v) 109)) W→(fun X0 X1=>W.cell? ⟨X0,2,none⟩=some (.slice v.t.a v.t.n v.t.c)∧W.cell? ⟨X0,3,none⟩=some (.slice v.g.a v.g.n v.g.c)∧W.cell? ⟨X0,4,none⟩=some (.slice v.r.a v.r.n v.r.c)∧W.cell? ⟨X0,5,none⟩=some (.slice v.k.a v.k.n v.k.c)∧W.cell? ⟨X0,6,none⟩=some (.slice v.a.a v.a.n v.a.c)∧W.cell? ⟨X0,7,none⟩=some (.slice v.i.a v.i.n v.i.c)∧W.cell? ⟨X0,8,none⟩=some (.slice v.s.a v.s.n v.s.c)∧W.cell? ⟨X1,0,none⟩=some (I tb.uses)∧W.cell? ⟨X1,1,none⟩=some (I tb.modes)∧W.cell? ⟨X1,2,none⟩=some (.slice v.t.a v.t.n v.t.c)∧W.cell? ⟨X1,3,none⟩=some (.slice v.g.a v.g.n v.g.c)∧W.cell? ⟨X1,4,none⟩=some (.slice v.r.a v.r.n v.r.c)∧W.cell? ⟨X1,5,none⟩=some (.slice v.k.a v.k.n v.k.c)∧W.cell? ⟨X1,6,none⟩=some (.slice v.a.a v.a.n v.a.c)∧W.cell? ⟨X1,7,none⟩=some (.slice v.i.a v.i.n v.i.c)∧W.cell? ⟨X1,8,none⟩=some (.slice v.s.a v.s.n v.s.c)∧W.cell? ⟨X1,9,none⟩=some (I tb.depth)∧W.cell? ⟨X1,10,none⟩=some (I tb.frames)∧W.cell? ⟨X1,11,none⟩=some (I tb.errors)∧W.cell? ⟨X1,12,none⟩=some (I tb.calls)) w.heap.size (w.alloc (.cells (qC tb v) 30)).heap.size):=fun W hW=>by
  have q0:=((hb1.mono (Nat.le_refl _)).block _ (qa5 hV0)).trans hV0
  have q:=(hW.block _ (qa5 q0)).trans q0
  have p:=(hW.block _ (qa5 hV1)).trans hV1
  refine ⟨?_,?_,?_,?_,?_,?_,?_,?_,?_,?_,?_,?_,?_,?_,?_,?_,?_,?_,?_,?_⟩ <;> first | (rw [qcr q];rfl) | (rw [qcr p];rfl)
 have hT1:=fun (W:World) (hW:qB ((w.alloc (.cells (qC tb v) 30)).alloc (.cells (qC tb v) 109)) W)=>hR1 W (belT hbw hW)
 have hT2:=fun (W:World) (hW:qB ((w.alloc (.cells (qC tb v) 30)).alloc (.cells (qC tb v) 109)) W)=>hR2 W (belT hbw hW)
 have hT3:=fun (W:World) (hW:qB ((w.alloc (.cells (qC tb v) 30)).alloc (.cells (qC tb v) 109)) W)=>hR3 W (belT hbw hW)
 have hT4:=fun (W:World) (hW:qB ((w.alloc (.cells (qC tb v) 30)).alloc (.cells (qC tb v) 109)) W)=>hR4 W (belT hbw hW)
 have hT5:=fun (W:World) (hW:qB ((w.alloc (.cells (qC tb v) 30)).alloc (.cells (qC tb v) 109)) W)=>hR5 W (belT hbw hW)
 have hT6:=fun (W:World) (hW:qB ((w.alloc (.cells (qC tb v) 30)).alloc (.cells (qC tb v) 109)) W)=>hR6 W (belT hbw hW)
 have hT7:=fun (W:World) (hW:qB ((w.alloc (.cells (qC tb v) 30)).alloc (.cells (qC tb v) 109)) W)=>hR7 W (belT hbw hW)
 have hH:∀(F:List UInt8),F.length≤900000→∀W,qB ((w.alloc (.cells (qC tb v) 30)).alloc (.cells (qC tb v) 109)) W→Calls Tryz.prog 68 #[.agg (tbC tb v),I (28+(F.length:Int)+2)] W fun e w'=>∃u,e=.returned u∧OwB W w' u (qai tb (30+F.length)):=fun F hF W hW=>by
  have:=hHd (30+F.length) W (by rw [show (256:Nat) ^ 4=4294967296 from rfl];omega) (belT hbw hW)
  rw [show ((30+F.length:Nat):Int)=28+(F.length:Int)+2 by omega] at this
  exact this
 have hlH:∀(F:List UInt8),F.length≤900000→(qai tb (30+F.length)).length≤1000000:=fun F _=>by
  simp only [qai,eCnt,eHd,e1,mrk,List.length_append,List.length_cons,List.length_nil,qa8];omega
 have crcB:∀F:List UInt8,((Ob.crcs 65535 [qai tb (30+F.length),F]:Nat):Int) < 9223372036854775808:=fun F=>by
  have:=Ob.crcs_lt 65535 [qai tb (30+F.length),F] (by decide)
  omega
 have okS:∀F:List UInt8,∀x∈[(((Ob.crcs 65535 [qai tb (30+F.length),F]:Nat):Int),2)],okC x:=fun F x hx=>by
  have:=Ob.crcs_lt 65535 [qai tb (30+F.length),F] (by decide)
  simp only [List.mem_cons,List.not_mem_nil,or_false] at hx
  subst hx
  exact okC2 ⟨by omega,by omega⟩
 clear hHd
 unfold tbC at *
 clear hb0 hV0 hb1 hV1 hbw hF1 hF2 hF3 hF4 hF5 hF6 hF7 hl1 hl2 hl3 hl4 hl5 hl6 hl7 hR1 hR2 hR3 hR4 hR5 hR6 hR7
 go_enter Tryz.func22,Tryz.ntmps22
 go_upto_region 1 with fail
 go_upto_region 2 with fail
 generalize (w.alloc (.cells (qC tb v) 30)).alloc (.cells (qC tb v) 109)=w1 at *
 rw [qqr] at HS0
 generalize w.heap.size+1=X1 at *
 generalize hX0:w.heap.size=X0 at *
 have HX:Hid (w.heap.size=X0):=hX0
 clear hX0
 have HS:Hid (∀W,qB w1 W→W.cell? ⟨X0,2,none⟩=some (.slice v.t.a v.t.n v.t.c)∧W.cell? ⟨X0,3,none⟩=some (.slice v.g.a v.g.n v.g.c)∧W.cell? ⟨X0,4,none⟩=some (.slice v.r.a v.r.n v.r.c)∧W.cell? ⟨X0,5,none⟩=some (.slice v.k.a v.k.n v.k.c)∧W.cell? ⟨X0,6,none⟩=some (.slice v.a.a v.a.n v.a.c)∧W.cell? ⟨X0,7,none⟩=some (.slice v.i.a v.i.n v.i.c)∧W.cell? ⟨X0,8,none⟩=some (.slice v.s.a v.s.n v.s.c)∧W.cell? ⟨X1,0,none⟩=some (I tb.uses)∧W.cell? ⟨X1,1,none⟩=some (I tb.modes)∧W.cell? ⟨X1,2,none⟩=some (.slice v.t.a v.t.n v.t.c)∧W.cell? ⟨X1,3,none⟩=some (.slice v.g.a v.g.n v.g.c)∧W.cell? ⟨X1,4,none⟩=some (.slice v.r.a v.r.n v.r.c)∧W.cell? ⟨X1,5,none⟩=some (.slice v.k.a v.k.n v.k.c)∧W.cell? ⟨X1,6,none⟩=some (.slice v.a.a v.a.n v.a.c)∧W.cell? ⟨X1,7,none⟩=some (.slice v.i.a v.i.n v.i.c)∧W.cell? ⟨X1,8,none⟩=some (.slice v.s.a v.s.n v.s.c)∧W.cell? ⟨X1,9,none⟩=some (I tb.depth)∧W.cell? ⟨X1,10,none⟩=some (I tb.frames)∧W.cell? ⟨X1,11,none⟩=some (I tb.errors)∧W.cell? ⟨X1,12,none⟩=some (I tb.calls)):=HS0.out
 have HC:=HS.out w1.drew (Below.refl w1.heap.size w1).drew
 refine wp_region_held_drew (S:=fun W=>W.cell? ⟨X0,2,none⟩=some (.slice v.t.a v.t.n v.t.c)∧W.cell? ⟨X0,3,none⟩=some (.slice v.g.a v.g.n v.g.c)∧W.cell? ⟨X0,4,none⟩=some (.slice v.r.a v.r.n v.r.c)∧W.cell? ⟨X0,5,none⟩=some (.slice v.k.a v.k.n v.k.c)∧W.cell? ⟨X0,6,none⟩=some (.slice v.a.a v.a.n v.a.c)∧W.cell? ⟨X0,7,none⟩=some (.slice v.i.a v.i.n v.i.c)∧W.cell? ⟨X0,8,none⟩=some (.slice v.s.a v.s.n v.s.c)∧W.cell? ⟨X1,0,none⟩=some (I tb.uses)∧W.cell? ⟨X1,1,none⟩=some (I tb.modes)∧W.cell? ⟨X1,2,none⟩=some (.slice v.t.a v.t.n v.t.c)∧W.cell? ⟨X1,3,none⟩=some (.slice v.g.a v.g.n v.g.c)∧W.cell? ⟨X1,4,none⟩=some (.slice v.r.a v.r.n v.r.c)∧W.cell? ⟨X1,5,none⟩=some (.slice v.k.a v.k.n v.k.c)∧W.cell? ⟨X1,6,none⟩=some (.slice v.a.a v.a.n v.a.c)∧W.cell? ⟨X1,7,none⟩=some (.slice v.i.a v.i.n v.i.c)∧W.cell? ⟨X1,8,none⟩=some (.slice v.s.a v.s.n v.s.c)∧W.cell? ⟨X1,9,none⟩=some (I tb.depth)∧W.cell? ⟨X1,10,none⟩=some (I tb.frames)∧W.cell? ⟨X1,11,none⟩=some (I tb.errors)∧W.cell? ⟨X1,12,none⟩=some (I tb.calls)) (by kernel_rfl) HC (fun hHeld=>?_)
 clear HC HS0
 change wpAnyH _ _ _ _ _ _ #[false,false,false,false,false,false,false,false,false,false,false,false,false,false,false,false,false,false,false,false,false,false,false,false,false,false,false,false,false,false,false,false,false,false,false,false,false,false,false,false,false,false,false,false,false,false,false,false,false,false,false,false] _ _
 try simp only [qN]
 refine qTI 0 (.pointer (some ⟨X0,2,none⟩)) rfl hHeld ?_
 try simp only [qN]
 refine qTI 1 (.slice v.t.a v.t.n v.t.c) rfl hHeld ?_
 try simp only [qN]
 refine qTI 2 (I v.t.n) rfl hHeld ?_
 try simp only [qN]
 refine qTI 3 (.agg (qC tb v)) rfl hHeld ?_
 try simp only [qN]
 refine qTI 4 (.func (.func 59) #[.agg (qC tb v)] #[]) rfl hHeld ?_
 try simp only [qN]
 refine qTI 7 (.pointer (some ⟨X0,3,none⟩)) rfl hHeld ?_
 try simp only [qN]
 refine qTI 8 (.slice v.g.a v.g.n v.g.c) rfl hHeld ?_
 try simp only [qN]
 refine qTI 9 (I v.g.n) rfl hHeld ?_
 try simp only [qN]
 refine qTI 10 (.agg (qC tb v)) rfl hHeld ?_
 try simp only [qN]
 refine qTI 11 (.func (.func 60) #[.agg (qC tb v)] #[]) rfl hHeld ?_
 try simp only [qN]
 refine qTI 14 (.pointer (some ⟨X0,4,none⟩)) rfl hHeld ?_
 try simp only [qN]
 refine qTI 15 (.slice v.r.a v.r.n v.r.c) rfl hHeld ?_
 try simp only [qN]
 refine qTI 16 (I v.r.n) rfl hHeld ?_
 try simp only [qN]
 refine qTI 17 (.agg (qC tb v)) rfl hHeld ?_
 try simp only [qN]
 refine qTI 18 (.func (.func 61) #[.agg (qC tb v)] #[]) rfl hHeld ?_
 try simp only [qN]
 refine qTI 21 (.pointer (some ⟨X0,5,none⟩)) rfl hHeld ?_
 try simp only [qN]
 refine qTI 22 (.slice v.k.a v.k.n v.k.c) rfl hHeld ?_
 try simp only [qN]
 refine qTI 23 (I v.k.n) rfl hHeld ?_
 try simp only [qN]
 refine qTI 24 (.agg (qC tb v)) rfl hHeld ?_
 try simp only [qN]
 refine qTI 25 (.func (.func 62) #[.agg (qC tb v)] #[]) rfl hHeld ?_
 try simp only [qN]
 refine qTI 28 (.pointer (some ⟨X0,6,none⟩)) rfl hHeld ?_
 try simp only [qN]
 refine qTI 29 (.slice v.a.a v.a.n v.a.c) rfl hHeld ?_
 try simp only [qN]
 refine qTI 30 (I v.a.n) rfl hHeld ?_
 try simp only [qN]
 refine qTI 31 (.agg (qC tb v)) rfl hHeld ?_
 try simp only [qN]
 refine qTI 32 (.func (.func 63) #[.agg (qC tb v)] #[]) rfl hHeld ?_
 try simp only [qN]
 refine qTI 35 (.pointer (some ⟨X0,7,none⟩)) rfl hHeld ?_
 try simp only [qN]
 refine qTI 36 (.slice v.i.a v.i.n v.i.c) rfl hHeld ?_
 try simp only [qN]
 refine qTI 37 (I v.i.n) rfl hHeld ?_
 try simp only [qN]
 refine qTI 38 (.agg (qC tb v)) rfl hHeld ?_
 try simp only [qN]
 refine qTI 39 (.func (.func 64) #[.agg (qC tb v)] #[]) rfl hHeld ?_
 try simp only [qN]
 refine qTI 42 (.pointer (some ⟨X0,8,none⟩)) rfl hHeld ?_
 try simp only [qN]
 refine qTI 43 (.slice v.s.a v.s.n v.s.c) rfl hHeld ?_
 try simp only [qN]
 refine qTI 44 (I v.s.n) rfl hHeld ?_
 try simp only [qN]
 refine qTI 45 (.agg (qC tb v)) rfl hHeld ?_
 try simp only [qN]
 refine qTI 46 (.func (.func 65) #[.agg (qC tb v)] #[]) rfl hHeld ?_
 try simp only [qN]
 clear hHeld
 refine qes (fun G HG=>?_)
 dsimp only
 obtain ⟨T2,hT2⟩:∃T:Value→Value→Value→Value→Value→Value→Value→Value→Value→Value→Value→Value→Value→Value→Value→Value→Array Value,T=fun y4 y15 y16 y22 y23 y29 y30 y36 y37 y43 y44 y50 y51 y57 y58 y59=>#[.agg (qC tb v),.pointer (some ⟨X0,0,none⟩),qZ,.pointer (some ⟨X1,0,none⟩),y4,undef,undef,undef,.agg (qC tb v),.agg (qC tb v),.pointer (some ⟨X0,2,none⟩),.slice v.t.a v.t.n v.t.c,I v.t.n,.agg (qC tb v),.func (.func 59) #[.agg (qC tb v)] #[],y15,y16,.pointer (some ⟨X0,3,none⟩),.slice v.g.a v.g.n v.g.c,I v.g.n,.agg (qC tb v),.func (.func 60) #[.agg (qC tb v)] #[],y22,y23,.pointer (some ⟨X0,4,none⟩),.slice v.r.a v.r.n v.r.c,I v.r.n,.agg (qC tb v),.func (.func 61) #[.agg (qC tb v)] #[],y29,y30,.pointer (some ⟨X0,5,none⟩),.slice v.k.a v.k.n v.k.c,I v.k.n,.agg (qC tb v),.func (.func 62) #[.agg (qC tb v)] #[],y36,y37,.pointer (some ⟨X0,6,none⟩),.slice v.a.a v.a.n v.a.c,I v.a.n,.agg (qC tb v),.func (.func 63) #[.agg (qC tb v)] #[],y43,y44,.pointer (some ⟨X0,7,none⟩),.slice v.i.a v.i.n v.i.c,I v.i.n,.agg (qC tb v),.func (.func 64) #[.agg (qC tb v)] #[],y50,y51,.pointer (some ⟨X0,8,none⟩),.slice v.s.a v.s.n v.s.c,I v.s.n,.agg (qC tb v),.func (.func 65) #[.agg (qC tb v)] #[],y57,y58,y59,undef,undef,undef,undef,undef,undef,undef,undef,undef,undef,undef,undef,undef,undef,undef,undef,undef,undef,undef,undef,undef,undef,undef,undef,undef,undef,undef,undef,undef]:=⟨_,rfl⟩
 have K0:Hid (∀(W:World) (s1:Sl) (u1:Value) (s2:Sl) (u2:Value) (s3:Sl) (u3:Value) (s4:Sl) (u4:Value) (s5:Sl) (u5:Value) (s6:Sl) (u6:Value) (s7:Sl) (u7:Value) (Z:Nat) (Y:Nat),qB w1 W→(W.ownsRow 0 5 1 u1 F1.length (Bs8 F1))→(W.ownsRow 0 5 1 u2 F2.length (Bs8 F2))→(W.ownsRow 0 5 1 u3 F3.length (Bs8 F3))→(W.ownsRow 0 5 1 u4 F4.length (Bs8 F4))→(W.ownsRow 0 5 1 u5 F5.length (Bs8 F5))→(W.ownsRow 0 5 1 u6 F6.length (Bs8 F6))→(W.ownsRow 0 5 1 u7 F7.length (Bs8 F7))→(W.heap[Z]?=some (.cells #[I 2,I L1.length,u1,I 3,I L2.length,u2,I 4,I L3.length,u3,I 5,I L4.length,u4,I 6,I L5.length,u5,I 7,I L6.length,u6,I 8,I L7.length,u7] 67))→(w1.heap.size≤Z)→(W.heap[Y]?=some (.cells #[qZ] 64))→(w1.heap.size≤Y)→G 1 #[true,true,true,true,true,true,true,true,true,true,true,true,true,true,true,true,true,true,true,true,true,true,true,true,true,true,true,true,true,true,true,true,true,true,true,true,true,true,true,true,true,true,true,true,true,true,true,true,true,true,true,false] (T2 (.pointer (some ⟨Y,0,none⟩)) (slT s1) (.agg #[I 2,I L1.length,u1]) (slT s2) (.agg #[I 3,I L2.length,u2]) (slT s3) (.agg #[I 4,I L3.length,u3]) (slT s4) (.agg #[I 5,I L4.length,u4]) (slT s5) (.agg #[I 6,I L5.length,u5]) (slT s6) (.agg #[I 7,I L6.length,u6]) (slT s7) (.agg #[I 8,I L7.length,u7]) (.slice (some ⟨Z,0,none⟩) 7 7)) W):=fun W s1 u1 s2 u2 s3 u3 s4 u4 s5 u5 s6 u6 s7 u7 Z Y hb p1 p2 p3 p4 p5 p6 p7 z1 z2 y1 y2=>by
  subst hT2
  rw [HG.out]
  dsimp only
  refine qR1 (i:=51) rfl (fun K hK=>?_)
  have hy0:W.cell? ⟨Y,0,none⟩=some qZ:=by rw [qcr y1];rfl
  have hy1:W.frozen? ⟨Y,0,none⟩=false:=frozen_of_row _ _ _ _ _ y1
  go_simp
  refine hK.out _ _ (HS.out _ (Bset hb y2)) (fun hSS=>?_)
  clear hSS hK K hy0 hy1
  try simp only [qN]
  refine wpAnyH_done (by kernel_rfl) ?_ _
  have hB2:=Bset (i:=0) (v:=.slice (some ⟨Z,0,none⟩) 7 7) hb y2
  have hZY:Z≠Y:=by rintro rfl;rw [y1] at z1;cases z1
  have hY2:=heap_setCell_same W Y 0 _ _ (.slice (some ⟨Z,0,none⟩) 7 7) y1
  have hZ2:=(heap_setCell_other W ⟨Y,0,none⟩ Z (.slice (some ⟨Z,0,none⟩) 7 7) hZY).trans z1
  have q1:=qd4 (x:=.slice (some ⟨Z,0,none⟩) 7 7) p1 y1 (by decide)
  have q2:=qd4 (x:=.slice (some ⟨Z,0,none⟩) 7 7) p2 y1 (by decide)
  have q3:=qd4 (x:=.slice (some ⟨Z,0,none⟩) 7 7) p3 y1 (by decide)
  have q4:=qd4 (x:=.slice (some ⟨Z,0,none⟩) 7 7) p4 y1 (by decide)
  have q5:=qd4 (x:=.slice (some ⟨Z,0,none⟩) 7 7) p5 y1 (by decide)
  have q6:=qd4 (x:=.slice (some ⟨Z,0,none⟩) 7 7) p6 y1 (by decide)
  have q7:=qd4 (x:=.slice (some ⟨Z,0,none⟩) 7 7) p7 y1 (by decide)
  generalize W.setCell ⟨Y,0,none⟩ (.slice (some ⟨Z,0,none⟩) 7 7)=w2 at *
  have hYc:w2.cell? ⟨Y,0,none⟩=some (.slice (some ⟨Z,0,none⟩) 7 7):=by rw [qcr hY2];rfl
  have hRW:=qs2 (w:=w2) (Y:=Y) (Z:=Z) (n:=7) [u1,u2,u3,u4,u5,u6,u7] [F1,F2,F3,F4,F5,F6,F7] rfl (by omega) rfl hYc (qa5 hY2) (qa5 hZ2) (fun j u hj=>by
   rw [qcr hZ2]
   match j,hj with
   | 0,hj | 1,hj | 2,hj | 3,hj | 4,hj | 5,hj | 6,hj=>simp at hj ⊢;exact hj) (fun j F u h1 h2=>by
   match j,h1,h2 with
   | 0,h1,h2=>simp at h1 h2;subst h1 h2;exact q1
   | 1,h1,h2=>simp at h1 h2;subst h1 h2;exact q2
   | 2,h1,h2=>simp at h1 h2;subst h1 h2;exact q3
   | 3,h1,h2=>simp at h1 h2;subst h1 h2;exact q4
   | 4,h1,h2=>simp at h1 h2;subst h1 h2;exact q5
   | 5,h1,h2=>simp at h1 h2;subst h1 h2;exact q6
   | 6,h1,h2=>simp at h1 h2;subst h1 h2;exact q7)
  have H2:Hid (qB w1 w2∧w2.heap[Y]?=some (.cells #[.slice (some ⟨Z,0,none⟩) 7 7] 64)∧w2.heap[Z]?=some (.cells #[I 2,I L1.length,u1,I 3,I L2.length,u2,I 4,I L3.length,u3,I 5,I L4.length,u4,I 6,I L5.length,u5,I 7,I L6.length,u6,I 8,I L7.length,u7] 67)∧w2.ownsRow 0 5 1 u1 F1.length (Bs8 F1)∧w2.ownsRow 0 5 1 u2 F2.length (Bs8 F2)∧w2.ownsRow 0 5 1 u3 F3.length (Bs8 F3)∧w2.ownsRow 0 5 1 u4 F4.length (Bs8 F4)∧w2.ownsRow 0 5 1 u5 F5.length (Bs8 F5)∧w2.ownsRow 0 5 1 u6 F6.length (Bs8 F6)∧w2.ownsRow 0 5 1 u7 F7.length (Bs8 F7)):=⟨hB2,hY2,hZ2,q1,q2,q3,q4,q5,q6,q7⟩
  clear y1 y2 z1 z2 hb hB2 hY2 hZ2 hZY q1 q2 q3 q4 q5 q6 q7 p1 p2 p3 p4 p5 p6 p7 HG hT1 hT2 hT3 hT4 hT5 hT6 hT7 hQ1 hQ2 hQ3 hQ4 hQ5 hQ6 hQ7
  go_wp2_with (first
   | (go_at_call 58;refine hRW.mono ?_;clear hRW;rintro e w3 ⟨⟨sa,sn,sc⟩,rfl,r3,b3⟩;dsimp only [slT]))
  refine (catB w3 ⟨sa,sn,sc⟩ [F1,F2,F3,F4,F5,F6,F7] r3 (Nat.le_trans hlB (by omega))).mono ?_
  clear r3
  rintro e w4 ⟨u4,rfl,o4,b4⟩
  obtain ⟨aa4,ca4,rfl⟩:=qah o4
  rw [qcv] at o4
  have b24:=belT b3 b4
  obtain ⟨c0,c1,c2,c3,c4,c5,c6,c7,c8,c9,c10,c11,c12,c13,c14,c15,c16,c17,c18,c19⟩:=HS.out w4 (belT H2.out.1 b24)
  have HL4:Hid (([F1,F2,F3,F4,F5,F6,F7].flatten).length≤900000):=hlB
  have H4:Hid (OwB w2 w4 (.slice aa4 ([F1,F2,F3,F4,F5,F6,F7].flatten).length ca4) ([F1,F2,F3,F4,F5,F6,F7].flatten)):=⟨qay o4 b3.size,b24⟩
  clear o4 b3 b4 b24 hYc
  generalize hF:[F1,F2,F3,F4,F5,F6,F7].flatten=F at *
  have HF:Hid ([F1,F2,F3,F4,F5,F6,F7].flatten=F):=hF
  clear hF hlB
  have hFl:F.length≤900000:=HL4.out
  go_wp2_with (first
   | (go_at_call 68;refine (hH F hFl w4 (belT H2.out.1 H4.out.2)).mono ?_;clear hH c0 c1 c2 c3 c4 c5 c6 c7 c8 c9 c10 c11 c12 c13 c14 c15 c16 c17 c18 c19;rintro e w5 ⟨u5,rfl,o5⟩;obtain ⟨a5,c5,rfl⟩:=qah o5.1;have H5:Hid (OwB w4 w5 (.slice a5 (qai tb (30+F.length)).length c5) (qai tb (30+F.length))):=o5;clear o5)
   | (go_at_call 13;refine (Ob.crc_any _ 2 2 [qai tb (30+F.length),F] _ (qqs (heap_alloc_new _ _) (qki (qam H5.out.1)) (qki (qa2 (qam H4.out.1) H5.out.2)) (hlH F hFl) (by omega))).mono ?_;rintro e w6 ⟨rfl,rfl⟩)
   | (go_at_call 70;refine (qpg _ _ (by omega) (crcB F)).mono ?_;rintro e w7 ⟨rfl,b7⟩)
   | (go_at_call 69;refine (qc2 (n:=1) [((Ob.crcs 65535 [qai tb (30+F.length),F]:Nat),2)] (heap_alloc_new _ _) rfl (okS F) (by simp)).mono ?_;rintro e w8 ⟨u8,rfl,o8⟩;obtain ⟨a8,c8,rfl⟩:=qah o8.1))
  have H18:Hid (qB w1 w8):=belT H2.out.1 (belT H4.out.2 (belT H5.out.2 (belT (qa0 w5 _) (belT b7 (belT (qa0 w7 _) o8.2)))))
  have b28:qB w2 w8:=belT H4.out.2 (belT H5.out.2 (belT (qa0 w5 _) (belT b7 (belT (qa0 w7 _) o8.2))))
  have b58:qB w5 w8:=belT (qa0 w5 _) (belT b7 (belT (qa0 w7 _) o8.2))
  obtain ⟨g1,g2,g3,g4,g5,g6,g7,g8,g9,g10⟩:=H2.out
  have HS:Hid (∀W,qB w8 W→W.cell? ⟨Y,0,none⟩=some (.slice (some ⟨Z,0,none⟩) 7 7)):=fun W hW=>by
   rw [qcr (((belT b28 hW).block _ (qa5 g2)).trans g2)];rfl
  have HZ:Hid (∀W,qB w8 W→W.heap[Z]?=some (.cells #[I 2,I L1.length,u1,I 3,I L2.length,u2,I 4,I L3.length,u3,I 5,I L4.length,u4,I 6,I L5.length,u5,I 7,I L6.length,u6,I 8,I L7.length,u7] 67)):=fun W hW=>((belT b28 hW).block _ (qa5 g3)).trans g3
  have HU:Hid (w2.ownsRow 0 5 1 u1 F1.length (Bs8 F1)∧w2.ownsRow 0 5 1 u2 F2.length (Bs8 F2)∧w2.ownsRow 0 5 1 u3 F3.length (Bs8 F3)∧w2.ownsRow 0 5 1 u4 F4.length (Bs8 F4)∧w2.ownsRow 0 5 1 u5 F5.length (Bs8 F5)∧w2.ownsRow 0 5 1 u6 F6.length (Bs8 F6)∧w2.ownsRow 0 5 1 u7 F7.length (Bs8 F7)):=⟨g4,g5,g6,g7,g8,g9,g10⟩
  have HV:Hid (∀W,qB w8 W→rdV W 1 u1 F1.length (Bs8 F1)∧rdV W 1 u2 F2.length (Bs8 F2)∧rdV W 1 u3 F3.length (Bs8 F3)∧rdV W 1 u4 F4.length (Bs8 F4)∧rdV W 1 u5 F5.length (Bs8 F5)∧rdV W 1 u6 F6.length (Bs8 F6)∧rdV W 1 u7 F7.length (Bs8 F7)):=fun W hW=>⟨qav (qbp g4) (belT b28 hW),qav (qbp g5) (belT b28 hW),qav (qbp g6) (belT b28 hW),qav (qbp g7) (belT b28 hW),qav (qbp g8) (belT b28 hW),qav (qbp g9) (belT b28 hW),qav (qbp g10) (belT b28 hW)⟩
  have HW:Hid (∀W,qB w8 W→W.ownsRow 0 5 1 (.slice a5 (qai tb (30+F.length)).length c5) (qai tb (30+F.length)).length (Bs8 (qai tb (30+F.length)))∧W.ownsRow 0 5 1 (.slice a8 (putB [(((Ob.crcs 65535 [qai tb (30+F.length),F]):Nat),2)]).length c8) ((putB [(((Ob.crcs 65535 [qai tb (30+F.length),F]):Nat),2)])).length (Bs8 ((putB [(((Ob.crcs 65535 [qai tb (30+F.length),F]):Nat),2)])))):=fun W hW=>⟨qa2 (qam H5.out.1) (belT b58 hW),qa2 (qam o8.1) hW⟩
  have HP2:Hid ((putB [(((Ob.crcs 65535 [qai tb (30+F.length),F]):Nat),2)])=leB 2 (Ob.crcs 65535 [qai tb (30+F.length),F])):=by show _=_;simp [putB]
  have hl2:∀F':List UInt8,(putB [((Ob.crcs 65535 [qai tb (30+F.length),F]:Nat),2)]).length≤1000000:=fun _=>by
   rw [HP2.out,qa8];omega
  clear g1 g2 g3 g4 g5 g6 g7 g8 g9 g10 b28 b58 b7 o8 crcB okS
  have HC:=HS.out w8.drew (Below.refl w8.heap.size w8).drew
  refine wp_region_held_drew (S:=fun W=>W.cell? ⟨Y,0,none⟩=some (.slice (some ⟨Z,0,none⟩) 7 7)) (by kernel_rfl) HC (fun hHeld=>?_)
  clear HC
  change wpAnyH _ _ _ _ _ _ #[false,false,false,false,false,false,false,false,false,false,false,false] _ _
  try simp only [qN]
  refine qTI 0 (.slice a5 (qai tb (30+F.length)).length c5) rfl hHeld ?_
  try simp only [qN]
  refine qTI 4 (.slice (some ⟨Z,0,none⟩) 7 7) rfl hHeld ?_
  try simp only [qN]
  refine qTI 5 (.slice a8 (putB [(((Ob.crcs 65535 [qai tb (30+F.length),F]):Nat),2)]).length c8) rfl hHeld ?_
  try simp only [qN]
  clear hHeld
  refine qes (fun G HG=>?_)
  dsimp only
  generalize (.agg (qC tb v):Value)=U
  obtain ⟨T6,hT6⟩:∃T:Value→Value→Value→Value→Value→Value→Array Value,T=fun y79 y80 y81 y84 y85 y86=>#[U,.pointer (some ⟨X0,0,none⟩),qZ,.pointer (some ⟨X1,0,none⟩),.pointer (some ⟨Y,0,none⟩),.slice aa4 F.length ca4,.slice a5 (qai tb (30+F.length)).length c5,.slice a8 (putB [(((Ob.crcs 65535 [qai tb (30+F.length),F]):Nat),2)]).length c8,U,U,.pointer (some ⟨X0,2,none⟩),.slice v.t.a v.t.n v.t.c,I v.t.n,U,.func (.func 59) #[U] #[],slT s1,.agg #[I 2,I L1.length,u1],.pointer (some ⟨X0,3,none⟩),.slice v.g.a v.g.n v.g.c,I v.g.n,U,.func (.func 60) #[U] #[],slT s2,.agg #[I 3,I L2.length,u2],.pointer (some ⟨X0,4,none⟩),.slice v.r.a v.r.n v.r.c,I v.r.n,U,.func (.func 61) #[U] #[],slT s3,.agg #[I 4,I L3.length,u3],.pointer (some ⟨X0,5,none⟩),.slice v.k.a v.k.n v.k.c,I v.k.n,U,.func (.func 62) #[U] #[],slT s4,.agg #[I 5,I L4.length,u4],.pointer (some ⟨X0,6,none⟩),.slice v.a.a v.a.n v.a.c,I v.a.n,U,.func (.func 63) #[U] #[],slT s5,.agg #[I 6,I L5.length,u5],.pointer (some ⟨X0,7,none⟩),.slice v.i.a v.i.n v.i.c,I v.i.n,U,.func (.func 64) #[U] #[],slT s6,.agg #[I 7,I L6.length,u6],.pointer (some ⟨X0,8,none⟩),.slice v.s.a v.s.n v.s.c,I v.s.n,U,.func (.func 65) #[U] #[],slT s7,.agg #[I 8,I L7.length,u7],.slice (some ⟨Z,0,none⟩) 7 7,.slice (some ⟨Z,0,none⟩) 7 7,I 7,.func (.func 67) #[] #[.pointer (some ⟨Y,0,none⟩)],.slice sa sn sc,.slice aa4 F.length ca4,U,.slice aa4 F.length ca4,I F.length,I (28+(F.length:Int)),I (28+(F.length:Int)+2),.slice a5 (qai tb (30+F.length)).length c5,.slice a5 (qai tb (30+F.length)).length c5,.slice aa4 F.length ca4,.slice (some ⟨w5.heap.size,0,none⟩) 2 2,.int .u16 ((Ob.crcs 65535 [qai tb (30+F.length),F]):Nat),cV ((Ob.crcs 65535 [qai tb (30+F.length),F]):Nat) 2,.slice (some ⟨w7.heap.size,0,none⟩) 1 1,.slice a8 (putB [(((Ob.crcs 65535 [qai tb (30+F.length),F]):Nat),2)]).length c8,.slice a5 (qai tb (30+F.length)).length c5,y79,y80,y81,.slice (some ⟨Z,0,none⟩) 7 7,.slice a8 (putB [(((Ob.crcs 65535 [qai tb (30+F.length),F]):Nat),2)]).length c8,y84,y85,y86,undef,undef]:=⟨_,rfl⟩
  have K0:Hid (∀(W:World) (B1:Nat) (v1:Value) (B3:Nat) (B6:Nat) (v9:Value) (B8:Nat),qB w8 W→(W.ownsRow 0 5 1 v1 (qai tb (30+F.length)).length (Bs8 (qai tb (30+F.length))))→(W.heap[B3]?=some (.cells #[I 1,I 1,v1] 67))→(W.ownsRow 0 5 1 v9 (putB [(((Ob.crcs 65535 [qai tb (30+F.length),F]):Nat),2)]).length (Bs8 (putB [(((Ob.crcs 65535 [qai tb (30+F.length),F]):Nat),2)])))→(W.heap[B8]?=some (.cells #[I 9,I 1,v9] 67))→G 3 #[true,true,true,true,true,true,true,true,true,false,false,false] (T6 (.slice (some ⟨B1,0,none⟩) 1 1) (.agg #[I 1,I 1,v1]) (.slice (some ⟨B3,0,none⟩) 1 1) (.slice (some ⟨B6,0,none⟩) 1 1) (.agg #[I 9,I 1,v9]) (.slice (some ⟨B8,0,none⟩) 1 1)) W):=fun W B1 v1 B3 B6 v9 B8 hb h2 h3 h7 h8=>by
   subst hT6
   rw [HG.out]
   dsimp only
   refine qR1 (i:=9) rfl (fun K hK=>?_)
   go_simp
   refine hK.out _ _ (HS.out _ (belA hb)) (fun hSS=>?_)
   clear hSS hK K
   try simp only [qN]
   refine qR1 (i:=10) rfl (fun K hK=>?_)
   go_simp
   have hcat:=catP (W.alloc (.cells #[.slice (some ⟨B3,0,none⟩) 1 1,.slice (some ⟨Z,0,none⟩) 7 7,.slice (some ⟨B8,0,none⟩) 1 1] 64)) ⟨some ⟨W.heap.size,0,none⟩,3,3⟩ [[⟨1,1,v1⟩],[⟨2,L1.length,u1⟩,⟨3,L2.length,u2⟩,⟨4,L3.length,u3⟩,⟨5,L4.length,u4⟩,⟨6,L5.length,u5⟩,⟨7,L6.length,u6⟩,⟨8,L7.length,u7⟩],[⟨9,1,v9⟩]]
    (qmw [.slice (some ⟨B3,0,none⟩) 1 1,.slice (some ⟨Z,0,none⟩) 7 7,.slice (some ⟨B8,0,none⟩) 1 1] _ (heap_alloc_new W _) rfl rfl (by simp) (fun j l v e1 e2=>by
     match j,e1,e2 with
     | 0,e1,e2=>simp at e1 e2;subst e1 e2;exact qav (qg0 [I 1,I 1,v1] h3 rfl) (qa0 W _)
     | 1,e1,e2=>simp at e1 e2;subst e1 e2;exact qav (qg0 [I 2,I L1.length,u1,I 3,I L2.length,u2,I 4,I L3.length,u3,I 5,I L4.length,u4,I 6,I L5.length,u5,I 7,I L6.length,u6,I 8,I L7.length,u7] (HZ.out W hb) rfl) (qa0 W _)
     | 2,e1,e2=>simp at e1 e2;subst e1 e2;exact qav (qg0 [I 9,I 1,v9] h8 rfl) (qa0 W _)))
    (by simp) (qqw (by
     intro p hp
     simp only [List.flatten_cons,List.flatten_nil,List.append_nil,List.cons_append,List.nil_append,List.mem_cons,List.not_mem_nil,or_false] at hp
     rcases hp with rfl | rfl | rfl | rfl | rfl | rfl | rfl | rfl | rfl
     all_goals first | exact qck h2 | exact qck h7 | exact qck (HU.out.1) | exact qck (HU.out.2.1) | exact qck (HU.out.2.2.1) | exact qck (HU.out.2.2.2.1) | exact qck (HU.out.2.2.2.2.1) | exact qck (HU.out.2.2.2.2.2.1) | exact qck (HU.out.2.2.2.2.2.2)))
   go_wp2_with (first | (go_at_call 71;refine hcat.mono ?_;rintro e w9 ⟨u,rfl,o9,b9⟩))
   clear hcat
   have hb9:qB w8 w9:=belT hb (belT (qa0 W _) b9)
   obtain ⟨⟨fa,fn,fc⟩,rfl,hfin⟩:=qo7 _ [(1,1,qai tb (30+F.length)),(2,L1.length,F1),(3,L2.length,F2),(4,L3.length,F3),(5,L4.length,F4),(6,L5.length,F5),(7,L6.length,F6),(8,L7.length,F7),(9,1,leB 2 (Ob.crcs 65535 [qai tb (30+F.length),F]))] o9 (by simp) (fun j p x e1 e2=>by
    have k1:=qbp (qa2 (qa2 h2 (qa0 W (.cells #[.slice (some ⟨B3,0,none⟩) 1 1,.slice (some ⟨Z,0,none⟩) 7 7,.slice (some ⟨B8,0,none⟩) 1 1] 64))) b9)
    have k9:=qbp (qa2 (qa2 h7 (qa0 W (.cells #[.slice (some ⟨B3,0,none⟩) 1 1,.slice (some ⟨Z,0,none⟩) 7 7,.slice (some ⟨B8,0,none⟩) 1 1] 64))) b9)
    have kk:=(HV.out w9 hb9)
    simp only [List.flatten_cons,List.flatten_nil,List.append_nil,List.cons_append,List.nil_append] at e1
    match j,e1,e2 with
    | 0,e1,e2=>simp at e1 e2;subst e1 e2;exact ⟨rfl,rfl,k1⟩
    | 1,e1,e2=>simp at e1 e2;subst e1 e2;exact ⟨rfl,rfl,kk.1⟩
    | 2,e1,e2=>simp at e1 e2;subst e1 e2;exact ⟨rfl,rfl,kk.2.1⟩
    | 3,e1,e2=>simp at e1 e2;subst e1 e2;exact ⟨rfl,rfl,kk.2.2.1⟩
    | 4,e1,e2=>simp at e1 e2;subst e1 e2;exact ⟨rfl,rfl,kk.2.2.2.1⟩
    | 5,e1,e2=>simp at e1 e2;subst e1 e2;exact ⟨rfl,rfl,kk.2.2.2.2.1⟩
    | 6,e1,e2=>simp at e1 e2;subst e1 e2;exact ⟨rfl,rfl,kk.2.2.2.2.2.1⟩
    | 7,e1,e2=>simp at e1 e2;subst e1 e2;exact ⟨rfl,rfl,kk.2.2.2.2.2.2⟩
    | 8,e1,e2=>simp at e1 e2;subst e1 e2;exact ⟨rfl,rfl,by rw [←HP2.out];exact k9⟩)
   have HFIN:Hid (RowsAt w9 3 (pceP w9) ⟨fa,fn,fc⟩ [(1,1,qai tb (30+F.length)),(2,L1.length,F1),(3,L2.length,F2),(4,L3.length,F3),(5,L4.length,F4),(6,L5.length,F5),(7,L6.length,F6),(8,L7.length,F7),(9,1,leB 2 (Ob.crcs 65535 [qai tb (30+F.length),F]))]∧qB w8 w9):=⟨hfin,hb9⟩
   have hSw:=HS.out w9 hb9
   clear o9 b9 hb9 hfin h2 h3 h7 h8 hb
   refine hK.out _ _ hSw (fun hSS=>?_)
   clear hSS hSw hK K
   try simp only [qN]
   refine qR1 (i:=11) rfl (fun K hK=>?_)
   dsimp only [slT]
   go_simp
   refine hK.out _ _ (HS.out w9 HFIN.out.2) (fun hSS=>?_)
   clear hSS hK K
   try simp only [qN]
   refine wpAnyH_done (by kernel_rfl) ?_ _
   go_wp2
   go_ret
   have hB0:=HB.out
   rw [←HX.out] at hB0
   refine ⟨⟨fa,fn,fc⟩,rfl,?_,belT (belT hB0 H18.out) HFIN.out.2⟩
   rw [HF.out]
   exact HFIN.out.1
  have K1:Hid (∀(W:World) (B1:Nat) (v1:Value) (B3:Nat) (B6:Nat) (v9:Value),qB w8 W→(W.ownsRow 0 5 1 v1 (qai tb (30+F.length)).length (Bs8 (qai tb (30+F.length))))→(W.heap[B3]?=some (.cells #[I 1,I 1,v1] 67))→(W.ownsRow 0 5 1 v9 (putB [(((Ob.crcs 65535 [qai tb (30+F.length),F]):Nat),2)]).length (Bs8 (putB [(((Ob.crcs 65535 [qai tb (30+F.length),F]):Nat),2)])))→G 4 #[true,true,true,true,true,true,true,true,false,false,false,false] (T6 (.slice (some ⟨B1,0,none⟩) 1 1) (.agg #[I 1,I 1,v1]) (.slice (some ⟨B3,0,none⟩) 1 1) (.slice (some ⟨B6,0,none⟩) 1 1) (.agg #[I 9,I 1,v9]) undef) W):=fun W B1 v1 B3 B6 v9 hb h2 h3 h7=>by
   subst hT6
   rw [HG.out]
   dsimp only
   refine qW [8] ?_
   refine qK (fun K hK=>?_) ?_
   ·go_simp
    refine hK.out _ _ (HS.out _ (belT hb (qa0 W _))) (fun _=>?_)
    try simp only [qN]
    exact (HG.out _ _ _ _).mp (K0.out _ B1 v1 B3 B6 v9 _ (belT hb (qa0 W _)) (qa2 h2 (qa0 W _)) (((qa0 W _)).block _ (qa5 h3) |>.trans h3) (qa2 h7 (qa0 W _)) (heap_alloc_new _ _))
   exact qn
  have K2:Hid (∀(W:World) (B1:Nat) (v1:Value) (B6:Nat) (v9:Value) (B8:Nat),qB w8 W→(W.ownsRow 0 5 1 v1 (qai tb (30+F.length)).length (Bs8 (qai tb (30+F.length))))→(W.ownsRow 0 5 1 v9 (putB [(((Ob.crcs 65535 [qai tb (30+F.length),F]):Nat),2)]).length (Bs8 (putB [(((Ob.crcs 65535 [qai tb (30+F.length),F]):Nat),2)])))→(W.heap[B8]?=some (.cells #[I 9,I 1,v9] 67))→G 4 #[true,true,true,false,true,true,true,true,true,false,false,false] (T6 (.slice (some ⟨B1,0,none⟩) 1 1) (.agg #[I 1,I 1,v1]) undef (.slice (some ⟨B6,0,none⟩) 1 1) (.agg #[I 9,I 1,v9]) (.slice (some ⟨B8,0,none⟩) 1 1)) W):=fun W B1 v1 B6 v9 B8 hb h2 h7 h8=>by
   subst hT6
   rw [HG.out]
   dsimp only
   refine qW [3] ?_
   refine qK (fun K hK=>?_) ?_
   ·go_simp
    refine hK.out _ _ (HS.out _ (belT hb (qa0 W _))) (fun _=>?_)
    try simp only [qN]
    exact (HG.out _ _ _ _).mp (K0.out _ B1 v1 _ B6 v9 B8 (belT hb (qa0 W _)) (qa2 h2 (qa0 W _)) (heap_alloc_new _ _) (qa2 h7 (qa0 W _)) (((qa0 W _)).block _ (qa5 h8) |>.trans h8))
   exact qn
  have K3:Hid (∀(W:World) (B1:Nat) (v1:Value) (B3:Nat) (B6:Nat),qB w8 W→(W.ownsRow 0 5 1 v1 (qai tb (30+F.length)).length (Bs8 (qai tb (30+F.length))))→(W.heap[B3]?=some (.cells #[I 1,I 1,v1] 67))→(W.heap[B6]?=some (.cells #[.slice a8 (putB [(((Ob.crcs 65535 [qai tb (30+F.length),F]):Nat),2)]).length c8] 31))→G 5 #[true,true,true,true,true,true,true,false,false,false,false,false] (T6 (.slice (some ⟨B1,0,none⟩) 1 1) (.agg #[I 1,I 1,v1]) (.slice (some ⟨B3,0,none⟩) 1 1) (.slice (some ⟨B6,0,none⟩) 1 1) undef undef) W):=fun W B1 v1 B3 B6 hb h2 h3 h6=>by
   subst hT6
   rw [HG.out]
   dsimp only
   refine qW [7] ?_
   refine qK (fun K hK=>?_) ?_
   ·go_simp
    go_wp2_with (first | (go_at_call 57;refine (qbn W 9 ⟨some ⟨B6,0,none⟩,1,1⟩ [putB [(((Ob.crcs 65535 [qai tb (30+F.length),F]):Nat),2)]] (putB [(((Ob.crcs 65535 [qai tb (30+F.length),F]):Nat),2)]) (by simp) (seg1 h6 (HW.out W hb).2) (hl2 F)).mono ?_;rintro e w9 ⟨a9,c9,rfl,o9⟩))
    refine hK.out _ _ (HS.out _ (belT hb (o9.2))) (fun _=>?_)
    try simp only [qN]
    exact (HG.out _ _ _ _).mp (K1.out _ B1 v1 B3 B6 _ (belT hb (o9.2)) (qa2 h2 (o9.2)) (((o9.2)).block _ (qa5 h3) |>.trans h3) (qam o9.1))
   exact qn
  have K4:Hid (∀(W:World) (B1:Nat) (v1:Value) (B6:Nat) (v9:Value),qB w8 W→(W.ownsRow 0 5 1 v1 (qai tb (30+F.length)).length (Bs8 (qai tb (30+F.length))))→(W.ownsRow 0 5 1 v9 (putB [(((Ob.crcs 65535 [qai tb (30+F.length),F]):Nat),2)]).length (Bs8 (putB [(((Ob.crcs 65535 [qai tb (30+F.length),F]):Nat),2)])))→G 5 #[true,true,true,false,true,true,true,true,false,false,false,false] (T6 (.slice (some ⟨B1,0,none⟩) 1 1) (.agg #[I 1,I 1,v1]) undef (.slice (some ⟨B6,0,none⟩) 1 1) (.agg #[I 9,I 1,v9]) undef) W):=fun W B1 v1 B6 v9 hb h2 h7=>by
   subst hT6
   rw [HG.out]
   dsimp only
   refine qW [3,8] ?_
   refine qK (fun K hK=>?_) ?_
   ·go_simp
    refine hK.out _ _ (HS.out _ (belT hb (qa0 W _))) (fun _=>?_)
    try simp only [qN]
    exact (HG.out _ _ _ _).mp (K1.out _ B1 v1 _ B6 v9 (belT hb (qa0 W _)) (qa2 h2 (qa0 W _)) (heap_alloc_new _ _) (qa2 h7 (qa0 W _)))
   refine qK (fun K hK=>?_) ?_
   ·go_simp
    refine hK.out _ _ (HS.out _ (belT hb (qa0 W _))) (fun _=>?_)
    try simp only [qN]
    exact (HG.out _ _ _ _).mp (K2.out _ B1 v1 B6 v9 _ (belT hb (qa0 W _)) (qa2 h2 (qa0 W _)) (qa2 h7 (qa0 W _)) (heap_alloc_new _ _))
   exact qn
  have K5:Hid (∀(W:World) (B1:Nat) (v1:Value) (B3:Nat),qB w8 W→(W.ownsRow 0 5 1 v1 (qai tb (30+F.length)).length (Bs8 (qai tb (30+F.length))))→(W.heap[B3]?=some (.cells #[I 1,I 1,v1] 67))→G 6 #[true,true,true,true,true,true,false,false,false,false,false,false] (T6 (.slice (some ⟨B1,0,none⟩) 1 1) (.agg #[I 1,I 1,v1]) (.slice (some ⟨B3,0,none⟩) 1 1) undef undef undef) W):=fun W B1 v1 B3 hb h2 h3=>by
   subst hT6
   rw [HG.out]
   dsimp only
   refine qW [6] ?_
   refine qK (fun K hK=>?_) ?_
   ·go_simp
    refine hK.out _ _ (HS.out _ (belT hb (qa0 W _))) (fun _=>?_)
    try simp only [qN]
    exact (HG.out _ _ _ _).mp (K3.out _ B1 v1 B3 _ (belT hb (qa0 W _)) (qa2 h2 (qa0 W _)) (((qa0 W _)).block _ (qa5 h3) |>.trans h3) (heap_alloc_new _ _))
   exact qn
  have K6:Hid (∀(W:World) (B1:Nat) (v1:Value) (B6:Nat),qB w8 W→(W.ownsRow 0 5 1 v1 (qai tb (30+F.length)).length (Bs8 (qai tb (30+F.length))))→(W.heap[B6]?=some (.cells #[.slice a8 (putB [(((Ob.crcs 65535 [qai tb (30+F.length),F]):Nat),2)]).length c8] 31))→G 6 #[true,true,true,false,true,true,true,false,false,false,false,false] (T6 (.slice (some ⟨B1,0,none⟩) 1 1) (.agg #[I 1,I 1,v1]) undef (.slice (some ⟨B6,0,none⟩) 1 1) undef undef) W):=fun W B1 v1 B6 hb h2 h6=>by
   subst hT6
   rw [HG.out]
   dsimp only
   refine qW [3,7] ?_
   refine qK (fun K hK=>?_) ?_
   ·go_simp
    refine hK.out _ _ (HS.out _ (belT hb (qa0 W _))) (fun _=>?_)
    try simp only [qN]
    exact (HG.out _ _ _ _).mp (K3.out _ B1 v1 _ B6 (belT hb (qa0 W _)) (qa2 h2 (qa0 W _)) (heap_alloc_new _ _) (((qa0 W _)).block _ (qa5 h6) |>.trans h6))
   refine qK (fun K hK=>?_) ?_
   ·go_simp
    go_wp2_with (first | (go_at_call 57;refine (qbn W 9 ⟨some ⟨B6,0,none⟩,1,1⟩ [putB [(((Ob.crcs 65535 [qai tb (30+F.length),F]):Nat),2)]] (putB [(((Ob.crcs 65535 [qai tb (30+F.length),F]):Nat),2)]) (by simp) (seg1 h6 (HW.out W hb).2) (hl2 F)).mono ?_;rintro e w9 ⟨a9,c9,rfl,o9⟩))
    refine hK.out _ _ (HS.out _ (belT hb (o9.2))) (fun _=>?_)
    try simp only [qN]
    exact (HG.out _ _ _ _).mp (K4.out _ B1 v1 B6 _ (belT hb (o9.2)) (qa2 h2 (o9.2)) (qam o9.1))
   exact qn
  have K7:Hid (∀(W:World) (B1:Nat) (v1:Value),qB w8 W→(W.ownsRow 0 5 1 v1 (qai tb (30+F.length)).length (Bs8 (qai tb (30+F.length))))→G 7 #[true,true,true,false,true,true,false,false,false,false,false,false] (T6 (.slice (some ⟨B1,0,none⟩) 1 1) (.agg #[I 1,I 1,v1]) undef undef undef undef) W):=fun W B1 v1 hb h2=>by
   subst hT6
   rw [HG.out]
   dsimp only
   refine qW [3,6] ?_
   refine qK (fun K hK=>?_) ?_
   ·go_simp
    refine hK.out _ _ (HS.out _ (belT hb (qa0 W _))) (fun _=>?_)
    try simp only [qN]
    exact (HG.out _ _ _ _).mp (K5.out _ B1 v1 _ (belT hb (qa0 W _)) (qa2 h2 (qa0 W _)) (heap_alloc_new _ _))
   refine qK (fun K hK=>?_) ?_
   ·go_simp
    refine hK.out _ _ (HS.out _ (belT hb (qa0 W _))) (fun _=>?_)
    try simp only [qN]
    exact (HG.out _ _ _ _).mp (K6.out _ B1 v1 _ (belT hb (qa0 W _)) (qa2 h2 (qa0 W _)) (heap_alloc_new _ _))
   exact qn
  have K8:Hid (∀(W:World) (B1:Nat) (B6:Nat),qB w8 W→(W.heap[B1]?=some (.cells #[.slice a5 (qai tb (30+F.length)).length c5] 31))→(W.heap[B6]?=some (.cells #[.slice a8 (putB [(((Ob.crcs 65535 [qai tb (30+F.length),F]):Nat),2)]).length c8] 31))→G 7 #[true,true,false,false,true,true,true,false,false,false,false,false] (T6 (.slice (some ⟨B1,0,none⟩) 1 1) undef undef (.slice (some ⟨B6,0,none⟩) 1 1) undef undef) W):=fun W B1 B6 hb h1 h6=>by
   subst hT6
   rw [HG.out]
   dsimp only
   refine qW [2] ?_
   refine qK (fun K hK=>?_) ?_
   ·go_simp
    go_wp2_with (first | (go_at_call 57;refine (qbn W 1 ⟨some ⟨B1,0,none⟩,1,1⟩ [qai tb (30+F.length)] (qai tb (30+F.length)) (by simp) (seg1 h1 (HW.out W hb).1) (hlH F hFl)).mono ?_;rintro e w9 ⟨a9,c9,rfl,o9⟩))
    refine hK.out _ _ (HS.out _ (belT hb (o9.2))) (fun _=>?_)
    try simp only [qN]
    exact (HG.out _ _ _ _).mp (K6.out _ B1 _ B6 (belT hb (o9.2)) (qam o9.1) (((o9.2)).block _ (qa5 h6) |>.trans h6))
   exact qn
  have K9:Hid (∀(W:World) (B1:Nat),qB w8 W→(W.heap[B1]?=some (.cells #[.slice a5 (qai tb (30+F.length)).length c5] 31))→G 8 #[true,true,false,false,true,true,false,false,false,false,false,false] (T6 (.slice (some ⟨B1,0,none⟩) 1 1) undef undef undef undef undef) W):=fun W B1 hb h1=>by
   subst hT6
   rw [HG.out]
   dsimp only
   refine qW [2,6] ?_
   refine qK (fun K hK=>?_) ?_
   ·go_simp
    go_wp2_with (first | (go_at_call 57;refine (qbn W 1 ⟨some ⟨B1,0,none⟩,1,1⟩ [qai tb (30+F.length)] (qai tb (30+F.length)) (by simp) (seg1 h1 (HW.out W hb).1) (hlH F hFl)).mono ?_;rintro e w9 ⟨a9,c9,rfl,o9⟩))
    refine hK.out _ _ (HS.out _ (belT hb (o9.2))) (fun _=>?_)
    try simp only [qN]
    exact (HG.out _ _ _ _).mp (K7.out _ B1 _ (belT hb (o9.2)) (qam o9.1))
   refine qK (fun K hK=>?_) ?_
   ·go_simp
    refine hK.out _ _ (HS.out _ (belT hb (qa0 W _))) (fun _=>?_)
    try simp only [qN]
    exact (HG.out _ _ _ _).mp (K8.out _ B1 _ (belT hb (qa0 W _)) (((qa0 W _)).block _ (qa5 h1) |>.trans h1) (heap_alloc_new _ _))
   exact qn
  have K10:Hid (∀(W:World) (B6:Nat),qB w8 W→(W.heap[B6]?=some (.cells #[.slice a8 (putB [(((Ob.crcs 65535 [qai tb (30+F.length),F]):Nat),2)]).length c8] 31))→G 8 #[true,false,false,false,true,true,true,false,false,false,false,false] (T6 undef undef undef (.slice (some ⟨B6,0,none⟩) 1 1) undef undef) W):=fun W B6 hb h6=>by
   subst hT6
   rw [HG.out]
   dsimp only
   refine qW [1] ?_
   refine qK (fun K hK=>?_) ?_
   ·go_simp
    refine hK.out _ _ (HS.out _ (belT hb (qa0 W _))) (fun _=>?_)
    try simp only [qN]
    exact (HG.out _ _ _ _).mp (K8.out _ _ B6 (belT hb (qa0 W _)) (heap_alloc_new _ _) (((qa0 W _)).block _ (qa5 h6) |>.trans h6))
   exact qn
  have K11:Hid (∀(W:World),qB w8 W→G 9 #[true,false,false,false,true,true,false,false,false,false,false,false] (T6 undef undef undef undef undef undef) W):=fun W hb=>by
   subst hT6
   rw [HG.out]
   dsimp only
   refine qW [1,6] ?_
   refine qK (fun K hK=>?_) ?_
   ·go_simp
    refine hK.out _ _ (HS.out _ (belT hb (qa0 W _))) (fun _=>?_)
    try simp only [qN]
    exact (HG.out _ _ _ _).mp (K9.out _ _ (belT hb (qa0 W _)) (heap_alloc_new _ _))
   refine qK (fun K hK=>?_) ?_
   ·go_simp
    refine hK.out _ _ (HS.out _ (belT hb (qa0 W _))) (fun _=>?_)
    try simp only [qN]
    exact (HG.out _ _ _ _).mp (K10.out _ _ (belT hb (qa0 W _)) (heap_alloc_new _ _))
   exact qn
  subst hT6
  exact K11.out _ (Below.refl _ _).drew
 have K1:Hid (∀(W:World) (s1:Sl) (u1:Value) (s2:Sl) (u2:Value) (s3:Sl) (u3:Value) (s4:Sl) (u4:Value) (s5:Sl) (u5:Value) (s6:Sl) (u6:Value) (s7:Sl) (u7:Value) (Z:Nat),qB w1 W→(W.ownsRow 0 5 1 u1 F1.length (Bs8 F1))→(W.ownsRow 0 5 1 u2 F2.length (Bs8 F2))→(W.ownsRow 0 5 1 u3 F3.length (Bs8 F3))→(W.ownsRow 0 5 1 u4 F4.length (Bs8 F4))→(W.ownsRow 0 5 1 u5 F5.length (Bs8 F5))→(W.ownsRow 0 5 1 u6 F6.length (Bs8 F6))→(W.ownsRow 0 5 1 u7 F7.length (Bs8 F7))→(W.heap[Z]?=some (.cells #[I 2,I L1.length,u1,I 3,I L2.length,u2,I 4,I L3.length,u3,I 5,I L4.length,u4,I 6,I L5.length,u5,I 7,I L6.length,u6,I 8,I L7.length,u7] 67))→(w1.heap.size≤Z)→G 2 #[true,true,true,true,true,true,true,true,true,true,true,true,true,true,true,true,true,true,true,true,true,true,true,true,true,true,true,true,true,true,true,true,true,true,true,true,true,true,true,true,true,true,true,true,true,true,true,true,true,true,false,false] (T2 undef (slT s1) (.agg #[I 2,I L1.length,u1]) (slT s2) (.agg #[I 3,I L2.length,u2]) (slT s3) (.agg #[I 4,I L3.length,u3]) (slT s4) (.agg #[I 5,I L4.length,u4]) (slT s5) (.agg #[I 6,I L5.length,u5]) (slT s6) (.agg #[I 7,I L6.length,u6]) (slT s7) (.agg #[I 8,I L7.length,u7]) (.slice (some ⟨Z,0,none⟩) 7 7)) W):=fun W s1 u1 s2 u2 s3 u3 s4 u4 s5 u5 s6 u6 s7 u7 Z hb p1 p2 p3 p4 p5 p6 p7 z1 z2=>by
  subst hT2
  rw [HG.out]
  dsimp only
  refine qW [50] ?_
  refine qK (fun K hK=>?_) ?_
  ·go_simp
   refine hK.out _ _ (HS.out _ (belT hb (qa0 W _))) (fun _=>?_)
   try simp only [qN]
   exact (HG.out _ _ _ _).mp (K0.out _ s1 u1 s2 u2 s3 u3 s4 u4 s5 u5 s6 u6 s7 u7 Z _ (belT hb (qa0 W _)) (qa2 p1 (qa0 W _)) (qa2 p2 (qa0 W _)) (qa2 p3 (qa0 W _)) (qa2 p4 (qa0 W _)) (qa2 p5 (qa0 W _)) (qa2 p6 (qa0 W _)) (qa2 p7 (qa0 W _)) (((qa0 W _)).block _ (qa5 z1) |>.trans z1) z2 (heap_alloc_new _ _) (hb.size))
  exact qn
 have K2:Hid (∀(W:World) (s1:Sl) (u1:Value) (s2:Sl) (u2:Value) (s3:Sl) (u3:Value) (s4:Sl) (u4:Value) (s5:Sl) (u5:Value) (s6:Sl) (u6:Value) (s7:Sl) (u7:Value) (Y:Nat),qB w1 W→(W.ownsRow 0 5 1 u1 F1.length (Bs8 F1))→(W.ownsRow 0 5 1 u2 F2.length (Bs8 F2))→(W.ownsRow 0 5 1 u3 F3.length (Bs8 F3))→(W.ownsRow 0 5 1 u4 F4.length (Bs8 F4))→(W.ownsRow 0 5 1 u5 F5.length (Bs8 F5))→(W.ownsRow 0 5 1 u6 F6.length (Bs8 F6))→(W.ownsRow 0 5 1 u7 F7.length (Bs8 F7))→(W.heap[Y]?=some (.cells #[qZ] 64))→(w1.heap.size≤Y)→G 2 #[true,true,true,true,true,true,true,true,true,true,true,true,true,true,true,true,true,true,true,true,true,true,true,true,true,true,true,true,true,true,true,true,true,true,true,true,true,true,true,true,true,true,true,true,true,true,true,true,true,false,true,false] (T2 (.pointer (some ⟨Y,0,none⟩)) (slT s1) (.agg #[I 2,I L1.length,u1]) (slT s2) (.agg #[I 3,I L2.length,u2]) (slT s3) (.agg #[I 4,I L3.length,u3]) (slT s4) (.agg #[I 5,I L4.length,u4]) (slT s5) (.agg #[I 6,I L5.length,u5]) (slT s6) (.agg #[I 7,I L6.length,u6]) (slT s7) (.agg #[I 8,I L7.length,u7]) undef) W):=fun W s1 u1 s2 u2 s3 u3 s4 u4 s5 u5 s6 u6 s7 u7 Y hb p1 p2 p3 p4 p5 p6 p7 y1 y2=>by
  subst hT2
  rw [HG.out]
  dsimp only
  refine qW [49] ?_
  refine qK (fun K hK=>?_) ?_
  ·go_simp
   refine hK.out _ _ (HS.out _ (belT hb (qa0 W _))) (fun _=>?_)
   try simp only [qN]
   exact (HG.out _ _ _ _).mp (K0.out _ s1 u1 s2 u2 s3 u3 s4 u4 s5 u5 s6 u6 s7 u7 _ Y (belT hb (qa0 W _)) (qa2 p1 (qa0 W _)) (qa2 p2 (qa0 W _)) (qa2 p3 (qa0 W _)) (qa2 p4 (qa0 W _)) (qa2 p5 (qa0 W _)) (qa2 p6 (qa0 W _)) (qa2 p7 (qa0 W _)) (heap_alloc_new _ _) (hb.size) (((qa0 W _)).block _ (qa5 y1) |>.trans y1) y2)
  exact qn
 have K3:Hid (∀(W:World) (s1:Sl) (u1:Value) (s2:Sl) (u2:Value) (s3:Sl) (u3:Value) (s4:Sl) (u4:Value) (s5:Sl) (u5:Value) (s6:Sl) (u6:Value) (s7:Sl) (u7:Value),qB w1 W→(W.ownsRow 0 5 1 u1 F1.length (Bs8 F1))→(W.ownsRow 0 5 1 u2 F2.length (Bs8 F2))→(W.ownsRow 0 5 1 u3 F3.length (Bs8 F3))→(W.ownsRow 0 5 1 u4 F4.length (Bs8 F4))→(W.ownsRow 0 5 1 u5 F5.length (Bs8 F5))→(W.ownsRow 0 5 1 u6 F6.length (Bs8 F6))→(W.ownsRow 0 5 1 u7 F7.length (Bs8 F7))→G 3 #[true,true,true,true,true,true,true,true,true,true,true,true,true,true,true,true,true,true,true,true,true,true,true,true,true,true,true,true,true,true,true,true,true,true,true,true,true,true,true,true,true,true,true,true,true,true,true,true,true,false,false,false] (T2 undef (slT s1) (.agg #[I 2,I L1.length,u1]) (slT s2) (.agg #[I 3,I L2.length,u2]) (slT s3) (.agg #[I 4,I L3.length,u3]) (slT s4) (.agg #[I 5,I L4.length,u4]) (slT s5) (.agg #[I 6,I L5.length,u5]) (slT s6) (.agg #[I 7,I L6.length,u6]) (slT s7) (.agg #[I 8,I L7.length,u7]) undef) W):=fun W s1 u1 s2 u2 s3 u3 s4 u4 s5 u5 s6 u6 s7 u7 hb p1 p2 p3 p4 p5 p6 p7=>by
  subst hT2
  rw [HG.out]
  dsimp only
  refine qW [49,50] ?_
  refine qK (fun K hK=>?_) ?_
  ·go_simp
   refine hK.out _ _ (HS.out _ (belT hb (qa0 W _))) (fun _=>?_)
   try simp only [qN]
   exact (HG.out _ _ _ _).mp (K1.out _ s1 u1 s2 u2 s3 u3 s4 u4 s5 u5 s6 u6 s7 u7 _ (belT hb (qa0 W _)) (qa2 p1 (qa0 W _)) (qa2 p2 (qa0 W _)) (qa2 p3 (qa0 W _)) (qa2 p4 (qa0 W _)) (qa2 p5 (qa0 W _)) (qa2 p6 (qa0 W _)) (qa2 p7 (qa0 W _)) (heap_alloc_new _ _) (hb.size))
  refine qK (fun K hK=>?_) ?_
  ·go_simp
   refine hK.out _ _ (HS.out _ (belT hb (qa0 W _))) (fun _=>?_)
   try simp only [qN]
   exact (HG.out _ _ _ _).mp (K2.out _ s1 u1 s2 u2 s3 u3 s4 u4 s5 u5 s6 u6 s7 u7 _ (belT hb (qa0 W _)) (qa2 p1 (qa0 W _)) (qa2 p2 (qa0 W _)) (qa2 p3 (qa0 W _)) (qa2 p4 (qa0 W _)) (qa2 p5 (qa0 W _)) (qa2 p6 (qa0 W _)) (qa2 p7 (qa0 W _)) (heap_alloc_new _ _) (hb.size))
  exact qn
 have K4:Hid (∀(W:World) (s1:Sl) (u1:Value) (s2:Sl) (u2:Value) (s3:Sl) (u3:Value) (s4:Sl) (u4:Value) (s5:Sl) (u5:Value) (s6:Sl) (u6:Value) (s7:Sl) (Y:Nat),qB w1 W→(W.ownsRow 0 5 1 u1 F1.length (Bs8 F1))→(W.ownsRow 0 5 1 u2 F2.length (Bs8 F2))→(W.ownsRow 0 5 1 u3 F3.length (Bs8 F3))→(W.ownsRow 0 5 1 u4 F4.length (Bs8 F4))→(W.ownsRow 0 5 1 u5 F5.length (Bs8 F5))→(W.ownsRow 0 5 1 u6 F6.length (Bs8 F6))→(RowsAt W 1 (segB W) s7 L7)→(W.heap[Y]?=some (.cells #[qZ] 64))→(w1.heap.size≤Y)→G 3 #[true,true,true,true,true,true,true,true,true,true,true,true,true,true,true,true,true,true,true,true,true,true,true,true,true,true,true,true,true,true,true,true,true,true,true,true,true,true,true,true,true,true,true,true,true,true,true,true,false,false,true,false] (T2 (.pointer (some ⟨Y,0,none⟩)) (slT s1) (.agg #[I 2,I L1.length,u1]) (slT s2) (.agg #[I 3,I L2.length,u2]) (slT s3) (.agg #[I 4,I L3.length,u3]) (slT s4) (.agg #[I 5,I L4.length,u4]) (slT s5) (.agg #[I 6,I L5.length,u5]) (slT s6) (.agg #[I 7,I L6.length,u6]) (slT s7) undef undef) W):=fun W s1 u1 s2 u2 s3 u3 s4 u4 s5 u5 s6 u6 s7 Y hb p1 p2 p3 p4 p5 p6 r7 y1 y2=>by
  subst hT2
  rw [HG.out]
  dsimp only
  refine qW [48] ?_
  refine qK (fun K hK=>?_) ?_
  ·go_simp
   go_wp2_with (first | (go_at_call 57;refine (hQ7 W s7 r7).mono ?_;rintro e w5 ⟨a5,c5,rfl,o5⟩))
   refine hK.out _ _ (HS.out _ (belT hb (o5.2))) (fun _=>?_)
   try simp only [qN]
   exact (HG.out _ _ _ _).mp (K2.out _ s1 u1 s2 u2 s3 u3 s4 u4 s5 u5 s6 u6 s7 _ Y (belT hb (o5.2)) (qa2 p1 (o5.2)) (qa2 p2 (o5.2)) (qa2 p3 (o5.2)) (qa2 p4 (o5.2)) (qa2 p5 (o5.2)) (qa2 p6 (o5.2)) (qam o5.1) (((o5.2)).block _ (qa5 y1) |>.trans y1) y2)
  exact qn
 have K5:Hid (∀(W:World) (s1:Sl) (u1:Value) (s2:Sl) (u2:Value) (s3:Sl) (u3:Value) (s4:Sl) (u4:Value) (s5:Sl) (u5:Value) (s6:Sl) (u6:Value) (s7:Sl),qB w1 W→(W.ownsRow 0 5 1 u1 F1.length (Bs8 F1))→(W.ownsRow 0 5 1 u2 F2.length (Bs8 F2))→(W.ownsRow 0 5 1 u3 F3.length (Bs8 F3))→(W.ownsRow 0 5 1 u4 F4.length (Bs8 F4))→(W.ownsRow 0 5 1 u5 F5.length (Bs8 F5))→(W.ownsRow 0 5 1 u6 F6.length (Bs8 F6))→(RowsAt W 1 (segB W) s7 L7)→G 4 #[true,true,true,true,true,true,true,true,true,true,true,true,true,true,true,true,true,true,true,true,true,true,true,true,true,true,true,true,true,true,true,true,true,true,true,true,true,true,true,true,true,true,true,true,true,true,true,true,false,false,false,false] (T2 undef (slT s1) (.agg #[I 2,I L1.length,u1]) (slT s2) (.agg #[I 3,I L2.length,u2]) (slT s3) (.agg #[I 4,I L3.length,u3]) (slT s4) (.agg #[I 5,I L4.length,u4]) (slT s5) (.agg #[I 6,I L5.length,u5]) (slT s6) (.agg #[I 7,I L6.length,u6]) (slT s7) undef undef) W):=fun W s1 u1 s2 u2 s3 u3 s4 u4 s5 u5 s6 u6 s7 hb p1 p2 p3 p4 p5 p6 r7=>by
  subst hT2
  rw [HG.out]
  dsimp only
  refine qW [48,50] ?_
  refine qK (fun K hK=>?_) ?_
  ·go_simp
   go_wp2_with (first | (go_at_call 57;refine (hQ7 W s7 r7).mono ?_;rintro e w5 ⟨a5,c5,rfl,o5⟩))
   refine hK.out _ _ (HS.out _ (belT hb (o5.2))) (fun _=>?_)
   try simp only [qN]
   exact (HG.out _ _ _ _).mp (K3.out _ s1 u1 s2 u2 s3 u3 s4 u4 s5 u5 s6 u6 s7 _ (belT hb (o5.2)) (qa2 p1 (o5.2)) (qa2 p2 (o5.2)) (qa2 p3 (o5.2)) (qa2 p4 (o5.2)) (qa2 p5 (o5.2)) (qa2 p6 (o5.2)) (qam o5.1))
  refine qK (fun K hK=>?_) ?_
  ·go_simp
   refine hK.out _ _ (HS.out _ (belT hb (qa0 W _))) (fun _=>?_)
   try simp only [qN]
   exact (HG.out _ _ _ _).mp (K4.out _ s1 u1 s2 u2 s3 u3 s4 u4 s5 u5 s6 u6 s7 _ (belT hb (qa0 W _)) (qa2 p1 (qa0 W _)) (qa2 p2 (qa0 W _)) (qa2 p3 (qa0 W _)) (qa2 p4 (qa0 W _)) (qa2 p5 (qa0 W _)) (qa2 p6 (qa0 W _)) (qc9 r7 (qa0 W _)) (heap_alloc_new _ _) (hb.size))
  exact qn
 have K6:Hid (∀(W:World) (s1:Sl) (u1:Value) (s2:Sl) (u2:Value) (s3:Sl) (u3:Value) (s4:Sl) (u4:Value) (s5:Sl) (u5:Value) (s6:Sl) (u6:Value) (Y:Nat),qB w1 W→(W.ownsRow 0 5 1 u1 F1.length (Bs8 F1))→(W.ownsRow 0 5 1 u2 F2.length (Bs8 F2))→(W.ownsRow 0 5 1 u3 F3.length (Bs8 F3))→(W.ownsRow 0 5 1 u4 F4.length (Bs8 F4))→(W.ownsRow 0 5 1 u5 F5.length (Bs8 F5))→(W.ownsRow 0 5 1 u6 F6.length (Bs8 F6))→(W.heap[Y]?=some (.cells #[qZ] 64))→(w1.heap.size≤Y)→G 4 #[true,true,true,true,true,true,true,true,true,true,true,true,true,true,true,true,true,true,true,true,true,true,true,true,true,true,true,true,true,true,true,true,true,true,true,true,true,true,true,true,true,true,true,true,true,true,true,false,false,false,true,false] (T2 (.pointer (some ⟨Y,0,none⟩)) (slT s1) (.agg #[I 2,I L1.length,u1]) (slT s2) (.agg #[I 3,I L2.length,u2]) (slT s3) (.agg #[I 4,I L3.length,u3]) (slT s4) (.agg #[I 5,I L4.length,u4]) (slT s5) (.agg #[I 6,I L5.length,u5]) (slT s6) (.agg #[I 7,I L6.length,u6]) undef undef undef) W):=fun W s1 u1 s2 u2 s3 u3 s4 u4 s5 u5 s6 u6 Y hb p1 p2 p3 p4 p5 p6 y1 y2=>by
  subst hT2
  rw [HG.out]
  dsimp only
  refine qW [47] ?_
  refine qK (fun K hK=>?_) ?_
  ·go_simp
   go_wp2_with (first | (go_at_call 58;refine (hT7 W hb).mono ?_;rintro e w5 ⟨s7,rfl,r7,b5⟩))
   refine hK.out _ _ (HS.out _ (belT hb (b5))) (fun _=>?_)
   try simp only [qN]
   exact (HG.out _ _ _ _).mp (K4.out _ s1 u1 s2 u2 s3 u3 s4 u4 s5 u5 s6 u6 s7 Y (belT hb (b5)) (qa2 p1 (b5)) (qa2 p2 (b5)) (qa2 p3 (b5)) (qa2 p4 (b5)) (qa2 p5 (b5)) (qa2 p6 (b5)) (r7) (((b5)).block _ (qa5 y1) |>.trans y1) y2)
  exact qn
 have K7:Hid (∀(W:World) (s1:Sl) (u1:Value) (s2:Sl) (u2:Value) (s3:Sl) (u3:Value) (s4:Sl) (u4:Value) (s5:Sl) (u5:Value) (s6:Sl) (u6:Value),qB w1 W→(W.ownsRow 0 5 1 u1 F1.length (Bs8 F1))→(W.ownsRow 0 5 1 u2 F2.length (Bs8 F2))→(W.ownsRow 0 5 1 u3 F3.length (Bs8 F3))→(W.ownsRow 0 5 1 u4 F4.length (Bs8 F4))→(W.ownsRow 0 5 1 u5 F5.length (Bs8 F5))→(W.ownsRow 0 5 1 u6 F6.length (Bs8 F6))→G 5 #[true,true,true,true,true,true,true,true,true,true,true,true,true,true,true,true,true,true,true,true,true,true,true,true,true,true,true,true,true,true,true,true,true,true,true,true,true,true,true,true,true,true,true,true,true,true,true,false,false,false,false,false] (T2 undef (slT s1) (.agg #[I 2,I L1.length,u1]) (slT s2) (.agg #[I 3,I L2.length,u2]) (slT s3) (.agg #[I 4,I L3.length,u3]) (slT s4) (.agg #[I 5,I L4.length,u4]) (slT s5) (.agg #[I 6,I L5.length,u5]) (slT s6) (.agg #[I 7,I L6.length,u6]) undef undef undef) W):=fun W s1 u1 s2 u2 s3 u3 s4 u4 s5 u5 s6 u6 hb p1 p2 p3 p4 p5 p6=>by
  subst hT2
  rw [HG.out]
  dsimp only
  refine qW [47,50] ?_
  refine qK (fun K hK=>?_) ?_
  ·go_simp
   go_wp2_with (first | (go_at_call 58;refine (hT7 W hb).mono ?_;rintro e w5 ⟨s7,rfl,r7,b5⟩))
   refine hK.out _ _ (HS.out _ (belT hb (b5))) (fun _=>?_)
   try simp only [qN]
   exact (HG.out _ _ _ _).mp (K5.out _ s1 u1 s2 u2 s3 u3 s4 u4 s5 u5 s6 u6 s7 (belT hb (b5)) (qa2 p1 (b5)) (qa2 p2 (b5)) (qa2 p3 (b5)) (qa2 p4 (b5)) (qa2 p5 (b5)) (qa2 p6 (b5)) (r7))
  refine qK (fun K hK=>?_) ?_
  ·go_simp
   refine hK.out _ _ (HS.out _ (belT hb (qa0 W _))) (fun _=>?_)
   try simp only [qN]
   exact (HG.out _ _ _ _).mp (K6.out _ s1 u1 s2 u2 s3 u3 s4 u4 s5 u5 s6 u6 _ (belT hb (qa0 W _)) (qa2 p1 (qa0 W _)) (qa2 p2 (qa0 W _)) (qa2 p3 (qa0 W _)) (qa2 p4 (qa0 W _)) (qa2 p5 (qa0 W _)) (qa2 p6 (qa0 W _)) (heap_alloc_new _ _) (hb.size))
  exact qn
 have K8:Hid (∀(W:World) (s1:Sl) (u1:Value) (s2:Sl) (u2:Value) (s3:Sl) (u3:Value) (s4:Sl) (u4:Value) (s5:Sl) (u5:Value) (s6:Sl) (Y:Nat),qB w1 W→(W.ownsRow 0 5 1 u1 F1.length (Bs8 F1))→(W.ownsRow 0 5 1 u2 F2.length (Bs8 F2))→(W.ownsRow 0 5 1 u3 F3.length (Bs8 F3))→(W.ownsRow 0 5 1 u4 F4.length (Bs8 F4))→(W.ownsRow 0 5 1 u5 F5.length (Bs8 F5))→(RowsAt W 1 (segB W) s6 L6)→(W.heap[Y]?=some (.cells #[qZ] 64))→(w1.heap.size≤Y)→G 5 #[true,true,true,true,true,true,true,true,true,true,true,true,true,true,true,true,true,true,true,true,true,true,true,true,true,true,true,true,true,true,true,true,true,true,true,true,true,true,true,true,true,false,true,true,true,true,true,false,false,false,true,false] (T2 (.pointer (some ⟨Y,0,none⟩)) (slT s1) (.agg #[I 2,I L1.length,u1]) (slT s2) (.agg #[I 3,I L2.length,u2]) (slT s3) (.agg #[I 4,I L3.length,u3]) (slT s4) (.agg #[I 5,I L4.length,u4]) (slT s5) (.agg #[I 6,I L5.length,u5]) (slT s6) undef undef undef undef) W):=fun W s1 u1 s2 u2 s3 u3 s4 u4 s5 u5 s6 Y hb p1 p2 p3 p4 p5 r6 y1 y2=>by
  subst hT2
  rw [HG.out]
  dsimp only
  refine qW [41] ?_
  refine qK (fun K hK=>?_) ?_
  ·go_simp
   go_wp2_with (first | (go_at_call 57;refine (hQ6 W s6 r6).mono ?_;rintro e w5 ⟨a5,c5,rfl,o5⟩))
   refine hK.out _ _ (HS.out _ (belT hb (o5.2))) (fun _=>?_)
   try simp only [qN]
   exact (HG.out _ _ _ _).mp (K6.out _ s1 u1 s2 u2 s3 u3 s4 u4 s5 u5 s6 _ Y (belT hb (o5.2)) (qa2 p1 (o5.2)) (qa2 p2 (o5.2)) (qa2 p3 (o5.2)) (qa2 p4 (o5.2)) (qa2 p5 (o5.2)) (qam o5.1) (((o5.2)).block _ (qa5 y1) |>.trans y1) y2)
  exact qn
 have K9:Hid (∀(W:World) (s1:Sl) (u1:Value) (s2:Sl) (u2:Value) (s3:Sl) (u3:Value) (s4:Sl) (u4:Value) (s5:Sl) (u5:Value) (s6:Sl),qB w1 W→(W.ownsRow 0 5 1 u1 F1.length (Bs8 F1))→(W.ownsRow 0 5 1 u2 F2.length (Bs8 F2))→(W.ownsRow 0 5 1 u3 F3.length (Bs8 F3))→(W.ownsRow 0 5 1 u4 F4.length (Bs8 F4))→(W.ownsRow 0 5 1 u5 F5.length (Bs8 F5))→(RowsAt W 1 (segB W) s6 L6)→G 6 #[true,true,true,true,true,true,true,true,true,true,true,true,true,true,true,true,true,true,true,true,true,true,true,true,true,true,true,true,true,true,true,true,true,true,true,true,true,true,true,true,true,false,true,true,true,true,true,false,false,false,false,false] (T2 undef (slT s1) (.agg #[I 2,I L1.length,u1]) (slT s2) (.agg #[I 3,I L2.length,u2]) (slT s3) (.agg #[I 4,I L3.length,u3]) (slT s4) (.agg #[I 5,I L4.length,u4]) (slT s5) (.agg #[I 6,I L5.length,u5]) (slT s6) undef undef undef undef) W):=fun W s1 u1 s2 u2 s3 u3 s4 u4 s5 u5 s6 hb p1 p2 p3 p4 p5 r6=>by
  subst hT2
  rw [HG.out]
  dsimp only
  refine qW [41,50] ?_
  refine qK (fun K hK=>?_) ?_
  ·go_simp
   go_wp2_with (first | (go_at_call 57;refine (hQ6 W s6 r6).mono ?_;rintro e w5 ⟨a5,c5,rfl,o5⟩))
   refine hK.out _ _ (HS.out _ (belT hb (o5.2))) (fun _=>?_)
   try simp only [qN]
   exact (HG.out _ _ _ _).mp (K7.out _ s1 u1 s2 u2 s3 u3 s4 u4 s5 u5 s6 _ (belT hb (o5.2)) (qa2 p1 (o5.2)) (qa2 p2 (o5.2)) (qa2 p3 (o5.2)) (qa2 p4 (o5.2)) (qa2 p5 (o5.2)) (qam o5.1))
  refine qK (fun K hK=>?_) ?_
  ·go_simp
   refine hK.out _ _ (HS.out _ (belT hb (qa0 W _))) (fun _=>?_)
   try simp only [qN]
   exact (HG.out _ _ _ _).mp (K8.out _ s1 u1 s2 u2 s3 u3 s4 u4 s5 u5 s6 _ (belT hb (qa0 W _)) (qa2 p1 (qa0 W _)) (qa2 p2 (qa0 W _)) (qa2 p3 (qa0 W _)) (qa2 p4 (qa0 W _)) (qa2 p5 (qa0 W _)) (qc9 r6 (qa0 W _)) (heap_alloc_new _ _) (hb.size))
  exact qn
 have K10:Hid (∀(W:World) (s1:Sl) (u1:Value) (s2:Sl) (u2:Value) (s3:Sl) (u3:Value) (s4:Sl) (u4:Value) (s5:Sl) (u5:Value) (Y:Nat),qB w1 W→(W.ownsRow 0 5 1 u1 F1.length (Bs8 F1))→(W.ownsRow 0 5 1 u2 F2.length (Bs8 F2))→(W.ownsRow 0 5 1 u3 F3.length (Bs8 F3))→(W.ownsRow 0 5 1 u4 F4.length (Bs8 F4))→(W.ownsRow 0 5 1 u5 F5.length (Bs8 F5))→(W.heap[Y]?=some (.cells #[qZ] 64))→(w1.heap.size≤Y)→G 6 #[true,true,true,true,true,true,true,true,true,true,true,true,true,true,true,true,true,true,true,true,true,true,true,true,true,true,true,true,true,true,true,true,true,true,true,true,true,true,true,true,false,false,true,true,true,true,true,false,false,false,true,false] (T2 (.pointer (some ⟨Y,0,none⟩)) (slT s1) (.agg #[I 2,I L1.length,u1]) (slT s2) (.agg #[I 3,I L2.length,u2]) (slT s3) (.agg #[I 4,I L3.length,u3]) (slT s4) (.agg #[I 5,I L4.length,u4]) (slT s5) (.agg #[I 6,I L5.length,u5]) undef undef undef undef undef) W):=fun W s1 u1 s2 u2 s3 u3 s4 u4 s5 u5 Y hb p1 p2 p3 p4 p5 y1 y2=>by
  subst hT2
  rw [HG.out]
  dsimp only
  refine qW [40] ?_
  refine qK (fun K hK=>?_) ?_
  ·go_simp
   go_wp2_with (first | (go_at_call 58;refine (hT6 W hb).mono ?_;rintro e w5 ⟨s6,rfl,r6,b5⟩))
   refine hK.out _ _ (HS.out _ (belT hb (b5))) (fun _=>?_)
   try simp only [qN]
   exact (HG.out _ _ _ _).mp (K8.out _ s1 u1 s2 u2 s3 u3 s4 u4 s5 u5 s6 Y (belT hb (b5)) (qa2 p1 (b5)) (qa2 p2 (b5)) (qa2 p3 (b5)) (qa2 p4 (b5)) (qa2 p5 (b5)) (r6) (((b5)).block _ (qa5 y1) |>.trans y1) y2)
  exact qn
 have K11:Hid (∀(W:World) (s1:Sl) (u1:Value) (s2:Sl) (u2:Value) (s3:Sl) (u3:Value) (s4:Sl) (u4:Value) (s5:Sl) (u5:Value),qB w1 W→(W.ownsRow 0 5 1 u1 F1.length (Bs8 F1))→(W.ownsRow 0 5 1 u2 F2.length (Bs8 F2))→(W.ownsRow 0 5 1 u3 F3.length (Bs8 F3))→(W.ownsRow 0 5 1 u4 F4.length (Bs8 F4))→(W.ownsRow 0 5 1 u5 F5.length (Bs8 F5))→G 7 #[true,true,true,true,true,true,true,true,true,true,true,true,true,true,true,true,true,true,true,true,true,true,true,true,true,true,true,true,true,true,true,true,true,true,true,true,true,true,true,true,false,false,true,true,true,true,true,false,false,false,false,false] (T2 undef (slT s1) (.agg #[I 2,I L1.length,u1]) (slT s2) (.agg #[I 3,I L2.length,u2]) (slT s3) (.agg #[I 4,I L3.length,u3]) (slT s4) (.agg #[I 5,I L4.length,u4]) (slT s5) (.agg #[I 6,I L5.length,u5]) undef undef undef undef undef) W):=fun W s1 u1 s2 u2 s3 u3 s4 u4 s5 u5 hb p1 p2 p3 p4 p5=>by
  subst hT2
  rw [HG.out]
  dsimp only
  refine qW [40,50] ?_
  refine qK (fun K hK=>?_) ?_
  ·go_simp
   go_wp2_with (first | (go_at_call 58;refine (hT6 W hb).mono ?_;rintro e w5 ⟨s6,rfl,r6,b5⟩))
   refine hK.out _ _ (HS.out _ (belT hb (b5))) (fun _=>?_)
   try simp only [qN]
   exact (HG.out _ _ _ _).mp (K9.out _ s1 u1 s2 u2 s3 u3 s4 u4 s5 u5 s6 (belT hb (b5)) (qa2 p1 (b5)) (qa2 p2 (b5)) (qa2 p3 (b5)) (qa2 p4 (b5)) (qa2 p5 (b5)) (r6))
  refine qK (fun K hK=>?_) ?_
  ·go_simp
   refine hK.out _ _ (HS.out _ (belT hb (qa0 W _))) (fun _=>?_)
   try simp only [qN]
   exact (HG.out _ _ _ _).mp (K10.out _ s1 u1 s2 u2 s3 u3 s4 u4 s5 u5 _ (belT hb (qa0 W _)) (qa2 p1 (qa0 W _)) (qa2 p2 (qa0 W _)) (qa2 p3 (qa0 W _)) (qa2 p4 (qa0 W _)) (qa2 p5 (qa0 W _)) (heap_alloc_new _ _) (hb.size))
  exact qn
 have K12:Hid (∀(W:World) (s1:Sl) (u1:Value) (s2:Sl) (u2:Value) (s3:Sl) (u3:Value) (s4:Sl) (u4:Value) (s5:Sl) (Y:Nat),qB w1 W→(W.ownsRow 0 5 1 u1 F1.length (Bs8 F1))→(W.ownsRow 0 5 1 u2 F2.length (Bs8 F2))→(W.ownsRow 0 5 1 u3 F3.length (Bs8 F3))→(W.ownsRow 0 5 1 u4 F4.length (Bs8 F4))→(RowsAt W 1 (segB W) s5 L5)→(W.heap[Y]?=some (.cells #[qZ] 64))→(w1.heap.size≤Y)→G 7 #[true,true,true,true,true,true,true,true,true,true,true,true,true,true,true,true,true,true,true,true,true,true,true,true,true,true,true,true,true,true,true,true,true,true,false,true,true,true,true,true,false,false,true,true,true,true,true,false,false,false,true,false] (T2 (.pointer (some ⟨Y,0,none⟩)) (slT s1) (.agg #[I 2,I L1.length,u1]) (slT s2) (.agg #[I 3,I L2.length,u2]) (slT s3) (.agg #[I 4,I L3.length,u3]) (slT s4) (.agg #[I 5,I L4.length,u4]) (slT s5) undef undef undef undef undef undef) W):=fun W s1 u1 s2 u2 s3 u3 s4 u4 s5 Y hb p1 p2 p3 p4 r5 y1 y2=>by
  subst hT2
  rw [HG.out]
  dsimp only
  refine qW [34] ?_
  refine qK (fun K hK=>?_) ?_
  ·go_simp
   go_wp2_with (first | (go_at_call 57;refine (hQ5 W s5 r5).mono ?_;rintro e w5 ⟨a5,c5,rfl,o5⟩))
   refine hK.out _ _ (HS.out _ (belT hb (o5.2))) (fun _=>?_)
   try simp only [qN]
   exact (HG.out _ _ _ _).mp (K10.out _ s1 u1 s2 u2 s3 u3 s4 u4 s5 _ Y (belT hb (o5.2)) (qa2 p1 (o5.2)) (qa2 p2 (o5.2)) (qa2 p3 (o5.2)) (qa2 p4 (o5.2)) (qam o5.1) (((o5.2)).block _ (qa5 y1) |>.trans y1) y2)
  exact qn
 have K13:Hid (∀(W:World) (s1:Sl) (u1:Value) (s2:Sl) (u2:Value) (s3:Sl) (u3:Value) (s4:Sl) (u4:Value) (s5:Sl),qB w1 W→(W.ownsRow 0 5 1 u1 F1.length (Bs8 F1))→(W.ownsRow 0 5 1 u2 F2.length (Bs8 F2))→(W.ownsRow 0 5 1 u3 F3.length (Bs8 F3))→(W.ownsRow 0 5 1 u4 F4.length (Bs8 F4))→(RowsAt W 1 (segB W) s5 L5)→G 8 #[true,true,true,true,true,true,true,true,true,true,true,true,true,true,true,true,true,true,true,true,true,true,true,true,true,true,true,true,true,true,true,true,true,true,false,true,true,true,true,true,false,false,true,true,true,true,true,false,false,false,false,false] (T2 undef (slT s1) (.agg #[I 2,I L1.length,u1]) (slT s2) (.agg #[I 3,I L2.length,u2]) (slT s3) (.agg #[I 4,I L3.length,u3]) (slT s4) (.agg #[I 5,I L4.length,u4]) (slT s5) undef undef undef undef undef undef) W):=fun W s1 u1 s2 u2 s3 u3 s4 u4 s5 hb p1 p2 p3 p4 r5=>by
  subst hT2
  rw [HG.out]
  dsimp only
  refine qW [34,50] ?_
  refine qK (fun K hK=>?_) ?_
  ·go_simp
   go_wp2_with (first | (go_at_call 57;refine (hQ5 W s5 r5).mono ?_;rintro e w5 ⟨a5,c5,rfl,o5⟩))
   refine hK.out _ _ (HS.out _ (belT hb (o5.2))) (fun _=>?_)
   try simp only [qN]
   exact (HG.out _ _ _ _).mp (K11.out _ s1 u1 s2 u2 s3 u3 s4 u4 s5 _ (belT hb (o5.2)) (qa2 p1 (o5.2)) (qa2 p2 (o5.2)) (qa2 p3 (o5.2)) (qa2 p4 (o5.2)) (qam o5.1))
  refine qK (fun K hK=>?_) ?_
  ·go_simp
   refine hK.out _ _ (HS.out _ (belT hb (qa0 W _))) (fun _=>?_)
   try simp only [qN]
   exact (HG.out _ _ _ _).mp (K12.out _ s1 u1 s2 u2 s3 u3 s4 u4 s5 _ (belT hb (qa0 W _)) (qa2 p1 (qa0 W _)) (qa2 p2 (qa0 W _)) (qa2 p3 (qa0 W _)) (qa2 p4 (qa0 W _)) (qc9 r5 (qa0 W _)) (heap_alloc_new _ _) (hb.size))
  exact qn
 have K14:Hid (∀(W:World) (s1:Sl) (u1:Value) (s2:Sl) (u2:Value) (s3:Sl) (u3:Value) (s4:Sl) (u4:Value) (Y:Nat),qB w1 W→(W.ownsRow 0 5 1 u1 F1.length (Bs8 F1))→(W.ownsRow 0 5 1 u2 F2.length (Bs8 F2))→(W.ownsRow 0 5 1 u3 F3.length (Bs8 F3))→(W.ownsRow 0 5 1 u4 F4.length (Bs8 F4))→(W.heap[Y]?=some (.cells #[qZ] 64))→(w1.heap.size≤Y)→G 8 #[true,true,true,true,true,true,true,true,true,true,true,true,true,true,true,true,true,true,true,true,true,true,true,true,true,true,true,true,true,true,true,true,true,false,false,true,true,true,true,true,false,false,true,true,true,true,true,false,false,false,true,false] (T2 (.pointer (some ⟨Y,0,none⟩)) (slT s1) (.agg #[I 2,I L1.length,u1]) (slT s2) (.agg #[I 3,I L2.length,u2]) (slT s3) (.agg #[I 4,I L3.length,u3]) (slT s4) (.agg #[I 5,I L4.length,u4]) undef undef undef undef undef undef undef) W):=fun W s1 u1 s2 u2 s3 u3 s4 u4 Y hb p1 p2 p3 p4 y1 y2=>by
  subst hT2
  rw [HG.out]
  dsimp only
  refine qW [33] ?_
  refine qK (fun K hK=>?_) ?_
  ·go_simp
   go_wp2_with (first | (go_at_call 58;refine (hT5 W hb).mono ?_;rintro e w5 ⟨s5,rfl,r5,b5⟩))
   refine hK.out _ _ (HS.out _ (belT hb (b5))) (fun _=>?_)
   try simp only [qN]
   exact (HG.out _ _ _ _).mp (K12.out _ s1 u1 s2 u2 s3 u3 s4 u4 s5 Y (belT hb (b5)) (qa2 p1 (b5)) (qa2 p2 (b5)) (qa2 p3 (b5)) (qa2 p4 (b5)) (r5) (((b5)).block _ (qa5 y1) |>.trans y1) y2)
  exact qn
 have K15:Hid (∀(W:World) (s1:Sl) (u1:Value) (s2:Sl) (u2:Value) (s3:Sl) (u3:Value) (s4:Sl) (u4:Value),qB w1 W→(W.ownsRow 0 5 1 u1 F1.length (Bs8 F1))→(W.ownsRow 0 5 1 u2 F2.length (Bs8 F2))→(W.ownsRow 0 5 1 u3 F3.length (Bs8 F3))→(W.ownsRow 0 5 1 u4 F4.length (Bs8 F4))→G 9 #[true,true,true,true,true,true,true,true,true,true,true,true,true,true,true,true,true,true,true,true,true,true,true,true,true,true,true,true,true,true,true,true,true,false,false,true,true,true,true,true,false,false,true,true,true,true,true,false,false,false,false,false] (T2 undef (slT s1) (.agg #[I 2,I L1.length,u1]) (slT s2) (.agg #[I 3,I L2.length,u2]) (slT s3) (.agg #[I 4,I L3.length,u3]) (slT s4) (.agg #[I 5,I L4.length,u4]) undef undef undef undef undef undef undef) W):=fun W s1 u1 s2 u2 s3 u3 s4 u4 hb p1 p2 p3 p4=>by
  subst hT2
  rw [HG.out]
  dsimp only
  refine qW [33,50] ?_
  refine qK (fun K hK=>?_) ?_
  ·go_simp
   go_wp2_with (first | (go_at_call 58;refine (hT5 W hb).mono ?_;rintro e w5 ⟨s5,rfl,r5,b5⟩))
   refine hK.out _ _ (HS.out _ (belT hb (b5))) (fun _=>?_)
   try simp only [qN]
   exact (HG.out _ _ _ _).mp (K13.out _ s1 u1 s2 u2 s3 u3 s4 u4 s5 (belT hb (b5)) (qa2 p1 (b5)) (qa2 p2 (b5)) (qa2 p3 (b5)) (qa2 p4 (b5)) (r5))
  refine qK (fun K hK=>?_) ?_
  ·go_simp
   refine hK.out _ _ (HS.out _ (belT hb (qa0 W _))) (fun _=>?_)
   try simp only [qN]
   exact (HG.out _ _ _ _).mp (K14.out _ s1 u1 s2 u2 s3 u3 s4 u4 _ (belT hb (qa0 W _)) (qa2 p1 (qa0 W _)) (qa2 p2 (qa0 W _)) (qa2 p3 (qa0 W _)) (qa2 p4 (qa0 W _)) (heap_alloc_new _ _) (hb.size))
  exact qn
 have K16:Hid (∀(W:World) (s1:Sl) (u1:Value) (s2:Sl) (u2:Value) (s3:Sl) (u3:Value) (s4:Sl) (Y:Nat),qB w1 W→(W.ownsRow 0 5 1 u1 F1.length (Bs8 F1))→(W.ownsRow 0 5 1 u2 F2.length (Bs8 F2))→(W.ownsRow 0 5 1 u3 F3.length (Bs8 F3))→(RowsAt W 1 (segB W) s4 L4)→(W.heap[Y]?=some (.cells #[qZ] 64))→(w1.heap.size≤Y)→G 9 #[true,true,true,true,true,true,true,true,true,true,true,true,true,true,true,true,true,true,true,true,true,true,true,true,true,true,true,false,true,true,true,true,true,false,false,true,true,true,true,true,false,false,true,true,true,true,true,false,false,false,true,false] (T2 (.pointer (some ⟨Y,0,none⟩)) (slT s1) (.agg #[I 2,I L1.length,u1]) (slT s2) (.agg #[I 3,I L2.length,u2]) (slT s3) (.agg #[I 4,I L3.length,u3]) (slT s4) undef undef undef undef undef undef undef undef) W):=fun W s1 u1 s2 u2 s3 u3 s4 Y hb p1 p2 p3 r4 y1 y2=>by
  subst hT2
  rw [HG.out]
  dsimp only
  refine qW [27] ?_
  refine qK (fun K hK=>?_) ?_
  ·go_simp
   go_wp2_with (first | (go_at_call 57;refine (hQ4 W s4 r4).mono ?_;rintro e w5 ⟨a5,c5,rfl,o5⟩))
   refine hK.out _ _ (HS.out _ (belT hb (o5.2))) (fun _=>?_)
   try simp only [qN]
   exact (HG.out _ _ _ _).mp (K14.out _ s1 u1 s2 u2 s3 u3 s4 _ Y (belT hb (o5.2)) (qa2 p1 (o5.2)) (qa2 p2 (o5.2)) (qa2 p3 (o5.2)) (qam o5.1) (((o5.2)).block _ (qa5 y1) |>.trans y1) y2)
  exact qn
 have K17:Hid (∀(W:World) (s1:Sl) (u1:Value) (s2:Sl) (u2:Value) (s3:Sl) (u3:Value) (s4:Sl),qB w1 W→(W.ownsRow 0 5 1 u1 F1.length (Bs8 F1))→(W.ownsRow 0 5 1 u2 F2.length (Bs8 F2))→(W.ownsRow 0 5 1 u3 F3.length (Bs8 F3))→(RowsAt W 1 (segB W) s4 L4)→G 10 #[true,true,true,true,true,true,true,true,true,true,true,true,true,true,true,true,true,true,true,true,true,true,true,true,true,true,true,false,true,true,true,true,true,false,false,true,true,true,true,true,false,false,true,true,true,true,true,false,false,false,false,false] (T2 undef (slT s1) (.agg #[I 2,I L1.length,u1]) (slT s2) (.agg #[I 3,I L2.length,u2]) (slT s3) (.agg #[I 4,I L3.length,u3]) (slT s4) undef undef undef undef undef undef undef undef) W):=fun W s1 u1 s2 u2 s3 u3 s4 hb p1 p2 p3 r4=>by
  subst hT2
  rw [HG.out]
  dsimp only
  refine qW [27,50] ?_
  refine qK (fun K hK=>?_) ?_
  ·go_simp
   go_wp2_with (first | (go_at_call 57;refine (hQ4 W s4 r4).mono ?_;rintro e w5 ⟨a5,c5,rfl,o5⟩))
   refine hK.out _ _ (HS.out _ (belT hb (o5.2))) (fun _=>?_)
   try simp only [qN]
   exact (HG.out _ _ _ _).mp (K15.out _ s1 u1 s2 u2 s3 u3 s4 _ (belT hb (o5.2)) (qa2 p1 (o5.2)) (qa2 p2 (o5.2)) (qa2 p3 (o5.2)) (qam o5.1))
  refine qK (fun K hK=>?_) ?_
  ·go_simp
   refine hK.out _ _ (HS.out _ (belT hb (qa0 W _))) (fun _=>?_)
   try simp only [qN]
   exact (HG.out _ _ _ _).mp (K16.out _ s1 u1 s2 u2 s3 u3 s4 _ (belT hb (qa0 W _)) (qa2 p1 (qa0 W _)) (qa2 p2 (qa0 W _)) (qa2 p3 (qa0 W _)) (qc9 r4 (qa0 W _)) (heap_alloc_new _ _) (hb.size))
  exact qn
 have K18:Hid (∀(W:World) (s1:Sl) (u1:Value) (s2:Sl) (u2:Value) (s3:Sl) (u3:Value) (Y:Nat),qB w1 W→(W.ownsRow 0 5 1 u1 F1.length (Bs8 F1))→(W.ownsRow 0 5 1 u2 F2.length (Bs8 F2))→(W.ownsRow 0 5 1 u3 F3.length (Bs8 F3))→(W.heap[Y]?=some (.cells #[qZ] 64))→(w1.heap.size≤Y)→G 10 #[true,true,true,true,true,true,true,true,true,true,true,true,true,true,true,true,true,true,true,true,true,true,true,true,true,true,false,false,true,true,true,true,true,false,false,true,true,true,true,true,false,false,true,true,true,true,true,false,false,false,true,false] (T2 (.pointer (some ⟨Y,0,none⟩)) (slT s1) (.agg #[I 2,I L1.length,u1]) (slT s2) (.agg #[I 3,I L2.length,u2]) (slT s3) (.agg #[I 4,I L3.length,u3]) undef undef undef undef undef undef undef undef undef) W):=fun W s1 u1 s2 u2 s3 u3 Y hb p1 p2 p3 y1 y2=>by
  subst hT2
  rw [HG.out]
  dsimp only
  refine qW [26] ?_
  refine qK (fun K hK=>?_) ?_
  ·go_simp
   go_wp2_with (first | (go_at_call 58;refine (hT4 W hb).mono ?_;rintro e w5 ⟨s4,rfl,r4,b5⟩))
   refine hK.out _ _ (HS.out _ (belT hb (b5))) (fun _=>?_)
   try simp only [qN]
   exact (HG.out _ _ _ _).mp (K16.out _ s1 u1 s2 u2 s3 u3 s4 Y (belT hb (b5)) (qa2 p1 (b5)) (qa2 p2 (b5)) (qa2 p3 (b5)) (r4) (((b5)).block _ (qa5 y1) |>.trans y1) y2)
  exact qn
 have K19:Hid (∀(W:World) (s1:Sl) (u1:Value) (s2:Sl) (u2:Value) (s3:Sl) (u3:Value),qB w1 W→(W.ownsRow 0 5 1 u1 F1.length (Bs8 F1))→(W.ownsRow 0 5 1 u2 F2.length (Bs8 F2))→(W.ownsRow 0 5 1 u3 F3.length (Bs8 F3))→G 11 #[true,true,true,true,true,true,true,true,true,true,true,true,true,true,true,true,true,true,true,true,true,true,true,true,true,true,false,false,true,true,true,true,true,false,false,true,true,true,true,true,false,false,true,true,true,true,true,false,false,false,false,false] (T2 undef (slT s1) (.agg #[I 2,I L1.length,u1]) (slT s2) (.agg #[I 3,I L2.length,u2]) (slT s3) (.agg #[I 4,I L3.length,u3]) undef undef undef undef undef undef undef undef undef) W):=fun W s1 u1 s2 u2 s3 u3 hb p1 p2 p3=>by
  subst hT2
  rw [HG.out]
  dsimp only
  refine qW [26,50] ?_
  refine qK (fun K hK=>?_) ?_
  ·go_simp
   go_wp2_with (first | (go_at_call 58;refine (hT4 W hb).mono ?_;rintro e w5 ⟨s4,rfl,r4,b5⟩))
   refine hK.out _ _ (HS.out _ (belT hb (b5))) (fun _=>?_)
   try simp only [qN]
   exact (HG.out _ _ _ _).mp (K17.out _ s1 u1 s2 u2 s3 u3 s4 (belT hb (b5)) (qa2 p1 (b5)) (qa2 p2 (b5)) (qa2 p3 (b5)) (r4))
  refine qK (fun K hK=>?_) ?_
  ·go_simp
   refine hK.out _ _ (HS.out _ (belT hb (qa0 W _))) (fun _=>?_)
   try simp only [qN]
   exact (HG.out _ _ _ _).mp (K18.out _ s1 u1 s2 u2 s3 u3 _ (belT hb (qa0 W _)) (qa2 p1 (qa0 W _)) (qa2 p2 (qa0 W _)) (qa2 p3 (qa0 W _)) (heap_alloc_new _ _) (hb.size))
  exact qn
 have K20:Hid (∀(W:World) (s1:Sl) (u1:Value) (s2:Sl) (u2:Value) (s3:Sl) (Y:Nat),qB w1 W→(W.ownsRow 0 5 1 u1 F1.length (Bs8 F1))→(W.ownsRow 0 5 1 u2 F2.length (Bs8 F2))→(RowsAt W 1 (segB W) s3 L3)→(W.heap[Y]?=some (.cells #[qZ] 64))→(w1.heap.size≤Y)→G 11 #[true,true,true,true,true,true,true,true,true,true,true,true,true,true,true,true,true,true,true,true,false,true,true,true,true,true,false,false,true,true,true,true,true,false,false,true,true,true,true,true,false,false,true,true,true,true,true,false,false,false,true,false] (T2 (.pointer (some ⟨Y,0,none⟩)) (slT s1) (.agg #[I 2,I L1.length,u1]) (slT s2) (.agg #[I 3,I L2.length,u2]) (slT s3) undef undef undef undef undef undef undef undef undef undef) W):=fun W s1 u1 s2 u2 s3 Y hb p1 p2 r3 y1 y2=>by
  subst hT2
  rw [HG.out]
  dsimp only
  refine qW [20] ?_
  refine qK (fun K hK=>?_) ?_
  ·go_simp
   go_wp2_with (first | (go_at_call 57;refine (hQ3 W s3 r3).mono ?_;rintro e w5 ⟨a5,c5,rfl,o5⟩))
   refine hK.out _ _ (HS.out _ (belT hb (o5.2))) (fun _=>?_)
   try simp only [qN]
   exact (HG.out _ _ _ _).mp (K18.out _ s1 u1 s2 u2 s3 _ Y (belT hb (o5.2)) (qa2 p1 (o5.2)) (qa2 p2 (o5.2)) (qam o5.1) (((o5.2)).block _ (qa5 y1) |>.trans y1) y2)
  exact qn
 have K21:Hid (∀(W:World) (s1:Sl) (u1:Value) (s2:Sl) (u2:Value) (s3:Sl),qB w1 W→(W.ownsRow 0 5 1 u1 F1.length (Bs8 F1))→(W.ownsRow 0 5 1 u2 F2.length (Bs8 F2))→(RowsAt W 1 (segB W) s3 L3)→G 12 #[true,true,true,true,true,true,true,true,true,true,true,true,true,true,true,true,true,true,true,true,false,true,true,true,true,true,false,false,true,true,true,true,true,false,false,true,true,true,true,true,false,false,true,true,true,true,true,false,false,false,false,false] (T2 undef (slT s1) (.agg #[I 2,I L1.length,u1]) (slT s2) (.agg #[I 3,I L2.length,u2]) (slT s3) undef undef undef undef undef undef undef undef undef undef) W):=fun W s1 u1 s2 u2 s3 hb p1 p2 r3=>by
  subst hT2
  rw [HG.out]
  dsimp only
  refine qW [20,50] ?_
  refine qK (fun K hK=>?_) ?_
  ·go_simp
   go_wp2_with (first | (go_at_call 57;refine (hQ3 W s3 r3).mono ?_;rintro e w5 ⟨a5,c5,rfl,o5⟩))
   refine hK.out _ _ (HS.out _ (belT hb (o5.2))) (fun _=>?_)
   try simp only [qN]
   exact (HG.out _ _ _ _).mp (K19.out _ s1 u1 s2 u2 s3 _ (belT hb (o5.2)) (qa2 p1 (o5.2)) (qa2 p2 (o5.2)) (qam o5.1))
  refine qK (fun K hK=>?_) ?_
  ·go_simp
   refine hK.out _ _ (HS.out _ (belT hb (qa0 W _))) (fun _=>?_)
   try simp only [qN]
   exact (HG.out _ _ _ _).mp (K20.out _ s1 u1 s2 u2 s3 _ (belT hb (qa0 W _)) (qa2 p1 (qa0 W _)) (qa2 p2 (qa0 W _)) (qc9 r3 (qa0 W _)) (heap_alloc_new _ _) (hb.size))
  exact qn
 have K22:Hid (∀(W:World) (s1:Sl) (u1:Value) (s2:Sl) (u2:Value) (Y:Nat),qB w1 W→(W.ownsRow 0 5 1 u1 F1.length (Bs8 F1))→(W.ownsRow 0 5 1 u2 F2.length (Bs8 F2))→(W.heap[Y]?=some (.cells #[qZ] 64))→(w1.heap.size≤Y)→G 12 #[true,true,true,true,true,true,true,true,true,true,true,true,true,true,true,true,true,true,true,false,false,true,true,true,true,true,false,false,true,true,true,true,true,false,false,true,true,true,true,true,false,false,true,true,true,true,true,false,false,false,true,false] (T2 (.pointer (some ⟨Y,0,none⟩)) (slT s1) (.agg #[I 2,I L1.length,u1]) (slT s2) (.agg #[I 3,I L2.length,u2]) undef undef undef undef undef undef undef undef undef undef undef) W):=fun W s1 u1 s2 u2 Y hb p1 p2 y1 y2=>by
  subst hT2
  rw [HG.out]
  dsimp only
  refine qW [19] ?_
  refine qK (fun K hK=>?_) ?_
  ·go_simp
   go_wp2_with (first | (go_at_call 58;refine (hT3 W hb).mono ?_;rintro e w5 ⟨s3,rfl,r3,b5⟩))
   refine hK.out _ _ (HS.out _ (belT hb (b5))) (fun _=>?_)
   try simp only [qN]
   exact (HG.out _ _ _ _).mp (K20.out _ s1 u1 s2 u2 s3 Y (belT hb (b5)) (qa2 p1 (b5)) (qa2 p2 (b5)) (r3) (((b5)).block _ (qa5 y1) |>.trans y1) y2)
  exact qn
 have K23:Hid (∀(W:World) (s1:Sl) (u1:Value) (s2:Sl) (u2:Value),qB w1 W→(W.ownsRow 0 5 1 u1 F1.length (Bs8 F1))→(W.ownsRow 0 5 1 u2 F2.length (Bs8 F2))→G 13 #[true,true,true,true,true,true,true,true,true,true,true,true,true,true,true,true,true,true,true,false,false,true,true,true,true,true,false,false,true,true,true,true,true,false,false,true,true,true,true,true,false,false,true,true,true,true,true,false,false,false,false,false] (T2 undef (slT s1) (.agg #[I 2,I L1.length,u1]) (slT s2) (.agg #[I 3,I L2.length,u2]) undef undef undef undef undef undef undef undef undef undef undef) W):=fun W s1 u1 s2 u2 hb p1 p2=>by
  subst hT2
  rw [HG.out]
  dsimp only
  refine qW [19,50] ?_
  refine qK (fun K hK=>?_) ?_
  ·go_simp
   go_wp2_with (first | (go_at_call 58;refine (hT3 W hb).mono ?_;rintro e w5 ⟨s3,rfl,r3,b5⟩))
   refine hK.out _ _ (HS.out _ (belT hb (b5))) (fun _=>?_)
   try simp only [qN]
   exact (HG.out _ _ _ _).mp (K21.out _ s1 u1 s2 u2 s3 (belT hb (b5)) (qa2 p1 (b5)) (qa2 p2 (b5)) (r3))
  refine qK (fun K hK=>?_) ?_
  ·go_simp
   refine hK.out _ _ (HS.out _ (belT hb (qa0 W _))) (fun _=>?_)
   try simp only [qN]
   exact (HG.out _ _ _ _).mp (K22.out _ s1 u1 s2 u2 _ (belT hb (qa0 W _)) (qa2 p1 (qa0 W _)) (qa2 p2 (qa0 W _)) (heap_alloc_new _ _) (hb.size))
  exact qn
 have K24:Hid (∀(W:World) (s1:Sl) (u1:Value) (s2:Sl) (Y:Nat),qB w1 W→(W.ownsRow 0 5 1 u1 F1.length (Bs8 F1))→(RowsAt W 1 (segB W) s2 L2)→(W.heap[Y]?=some (.cells #[qZ] 64))→(w1.heap.size≤Y)→G 13 #[true,true,true,true,true,true,true,true,true,true,true,true,true,false,true,true,true,true,true,false,false,true,true,true,true,true,false,false,true,true,true,true,true,false,false,true,true,true,true,true,false,false,true,true,true,true,true,false,false,false,true,false] (T2 (.pointer (some ⟨Y,0,none⟩)) (slT s1) (.agg #[I 2,I L1.length,u1]) (slT s2) undef undef undef undef undef undef undef undef undef undef undef undef) W):=fun W s1 u1 s2 Y hb p1 r2 y1 y2=>by
  subst hT2
  rw [HG.out]
  dsimp only
  refine qW [13] ?_
  refine qK (fun K hK=>?_) ?_
  ·go_simp
   go_wp2_with (first | (go_at_call 57;refine (hQ2 W s2 r2).mono ?_;rintro e w5 ⟨a5,c5,rfl,o5⟩))
   refine hK.out _ _ (HS.out _ (belT hb (o5.2))) (fun _=>?_)
   try simp only [qN]
   exact (HG.out _ _ _ _).mp (K22.out _ s1 u1 s2 _ Y (belT hb (o5.2)) (qa2 p1 (o5.2)) (qam o5.1) (((o5.2)).block _ (qa5 y1) |>.trans y1) y2)
  exact qn
 have K25:Hid (∀(W:World) (s1:Sl) (u1:Value) (s2:Sl),qB w1 W→(W.ownsRow 0 5 1 u1 F1.length (Bs8 F1))→(RowsAt W 1 (segB W) s2 L2)→G 14 #[true,true,true,true,true,true,true,true,true,true,true,true,true,false,true,true,true,true,true,false,false,true,true,true,true,true,false,false,true,true,true,true,true,false,false,true,true,true,true,true,false,false,true,true,true,true,true,false,false,false,false,false] (T2 undef (slT s1) (.agg #[I 2,I L1.length,u1]) (slT s2) undef undef undef undef undef undef undef undef undef undef undef undef) W):=fun W s1 u1 s2 hb p1 r2=>by
  subst hT2
  rw [HG.out]
  dsimp only
  refine qW [13,50] ?_
  refine qK (fun K hK=>?_) ?_
  ·go_simp
   go_wp2_with (first | (go_at_call 57;refine (hQ2 W s2 r2).mono ?_;rintro e w5 ⟨a5,c5,rfl,o5⟩))
   refine hK.out _ _ (HS.out _ (belT hb (o5.2))) (fun _=>?_)
   try simp only [qN]
   exact (HG.out _ _ _ _).mp (K23.out _ s1 u1 s2 _ (belT hb (o5.2)) (qa2 p1 (o5.2)) (qam o5.1))
  refine qK (fun K hK=>?_) ?_
  ·go_simp
   refine hK.out _ _ (HS.out _ (belT hb (qa0 W _))) (fun _=>?_)
   try simp only [qN]
   exact (HG.out _ _ _ _).mp (K24.out _ s1 u1 s2 _ (belT hb (qa0 W _)) (qa2 p1 (qa0 W _)) (qc9 r2 (qa0 W _)) (heap_alloc_new _ _) (hb.size))
  exact qn
 have K26:Hid (∀(W:World) (s1:Sl) (u1:Value) (Y:Nat),qB w1 W→(W.ownsRow 0 5 1 u1 F1.length (Bs8 F1))→(W.heap[Y]?=some (.cells #[qZ] 64))→(w1.heap.size≤Y)→G 14 #[true,true,true,true,true,true,true,true,true,true,true,true,false,false,true,true,true,true,true,false,false,true,true,true,true,true,false,false,true,true,true,true,true,false,false,true,true,true,true,true,false,false,true,true,true,true,true,false,false,false,true,false] (T2 (.pointer (some ⟨Y,0,none⟩)) (slT s1) (.agg #[I 2,I L1.length,u1]) undef undef undef undef undef undef undef undef undef undef undef undef undef) W):=fun W s1 u1 Y hb p1 y1 y2=>by
  subst hT2
  rw [HG.out]
  dsimp only
  refine qW [12] ?_
  refine qK (fun K hK=>?_) ?_
  ·go_simp
   go_wp2_with (first | (go_at_call 58;refine (hT2 W hb).mono ?_;rintro e w5 ⟨s2,rfl,r2,b5⟩))
   refine hK.out _ _ (HS.out _ (belT hb (b5))) (fun _=>?_)
   try simp only [qN]
   exact (HG.out _ _ _ _).mp (K24.out _ s1 u1 s2 Y (belT hb (b5)) (qa2 p1 (b5)) (r2) (((b5)).block _ (qa5 y1) |>.trans y1) y2)
  exact qn
 have K27:Hid (∀(W:World) (s1:Sl) (u1:Value),qB w1 W→(W.ownsRow 0 5 1 u1 F1.length (Bs8 F1))→G 15 #[true,true,true,true,true,true,true,true,true,true,true,true,false,false,true,true,true,true,true,false,false,true,true,true,true,true,false,false,true,true,true,true,true,false,false,true,true,true,true,true,false,false,true,true,true,true,true,false,false,false,false,false] (T2 undef (slT s1) (.agg #[I 2,I L1.length,u1]) undef undef undef undef undef undef undef undef undef undef undef undef undef) W):=fun W s1 u1 hb p1=>by
  subst hT2
  rw [HG.out]
  dsimp only
  refine qW [12,50] ?_
  refine qK (fun K hK=>?_) ?_
  ·go_simp
   go_wp2_with (first | (go_at_call 58;refine (hT2 W hb).mono ?_;rintro e w5 ⟨s2,rfl,r2,b5⟩))
   refine hK.out _ _ (HS.out _ (belT hb (b5))) (fun _=>?_)
   try simp only [qN]
   exact (HG.out _ _ _ _).mp (K25.out _ s1 u1 s2 (belT hb (b5)) (qa2 p1 (b5)) (r2))
  refine qK (fun K hK=>?_) ?_
  ·go_simp
   refine hK.out _ _ (HS.out _ (belT hb (qa0 W _))) (fun _=>?_)
   try simp only [qN]
   exact (HG.out _ _ _ _).mp (K26.out _ s1 u1 _ (belT hb (qa0 W _)) (qa2 p1 (qa0 W _)) (heap_alloc_new _ _) (hb.size))
  exact qn
 have K28:Hid (∀(W:World) (s1:Sl) (Y:Nat),qB w1 W→(RowsAt W 1 (segB W) s1 L1)→(W.heap[Y]?=some (.cells #[qZ] 64))→(w1.heap.size≤Y)→G 15 #[true,true,true,true,true,true,false,true,true,true,true,true,false,false,true,true,true,true,true,false,false,true,true,true,true,true,false,false,true,true,true,true,true,false,false,true,true,true,true,true,false,false,true,true,true,true,true,false,false,false,true,false] (T2 (.pointer (some ⟨Y,0,none⟩)) (slT s1) undef undef undef undef undef undef undef undef undef undef undef undef undef undef) W):=fun W s1 Y hb r1 y1 y2=>by
  subst hT2
  rw [HG.out]
  dsimp only
  refine qW [6] ?_
  refine qK (fun K hK=>?_) ?_
  ·go_simp
   go_wp2_with (first | (go_at_call 57;refine (hQ1 W s1 r1).mono ?_;rintro e w5 ⟨a5,c5,rfl,o5⟩))
   refine hK.out _ _ (HS.out _ (belT hb (o5.2))) (fun _=>?_)
   try simp only [qN]
   exact (HG.out _ _ _ _).mp (K26.out _ s1 _ Y (belT hb (o5.2)) (qam o5.1) (((o5.2)).block _ (qa5 y1) |>.trans y1) y2)
  exact qn
 have K29:Hid (∀(W:World) (s1:Sl),qB w1 W→(RowsAt W 1 (segB W) s1 L1)→G 16 #[true,true,true,true,true,true,false,true,true,true,true,true,false,false,true,true,true,true,true,false,false,true,true,true,true,true,false,false,true,true,true,true,true,false,false,true,true,true,true,true,false,false,true,true,true,true,true,false,false,false,false,false] (T2 undef (slT s1) undef undef undef undef undef undef undef undef undef undef undef undef undef undef) W):=fun W s1 hb r1=>by
  subst hT2
  rw [HG.out]
  dsimp only
  refine qW [6,50] ?_
  refine qK (fun K hK=>?_) ?_
  ·go_simp
   go_wp2_with (first | (go_at_call 57;refine (hQ1 W s1 r1).mono ?_;rintro e w5 ⟨a5,c5,rfl,o5⟩))
   refine hK.out _ _ (HS.out _ (belT hb (o5.2))) (fun _=>?_)
   try simp only [qN]
   exact (HG.out _ _ _ _).mp (K27.out _ s1 _ (belT hb (o5.2)) (qam o5.1))
  refine qK (fun K hK=>?_) ?_
  ·go_simp
   refine hK.out _ _ (HS.out _ (belT hb (qa0 W _))) (fun _=>?_)
   try simp only [qN]
   exact (HG.out _ _ _ _).mp (K28.out _ s1 _ (belT hb (qa0 W _)) (qc9 r1 (qa0 W _)) (heap_alloc_new _ _) (hb.size))
  exact qn
 have K30:Hid (∀(W:World) (Y:Nat),qB w1 W→(W.heap[Y]?=some (.cells #[qZ] 64))→(w1.heap.size≤Y)→G 16 #[true,true,true,true,true,false,false,true,true,true,true,true,false,false,true,true,true,true,true,false,false,true,true,true,true,true,false,false,true,true,true,true,true,false,false,true,true,true,true,true,false,false,true,true,true,true,true,false,false,false,true,false] (T2 (.pointer (some ⟨Y,0,none⟩)) undef undef undef undef undef undef undef undef undef undef undef undef undef undef undef) W):=fun W Y hb y1 y2=>by
  subst hT2
  rw [HG.out]
  dsimp only
  refine qW [5] ?_
  refine qK (fun K hK=>?_) ?_
  ·go_simp
   go_wp2_with (first | (go_at_call 58;refine (hT1 W hb).mono ?_;rintro e w5 ⟨s1,rfl,r1,b5⟩))
   refine hK.out _ _ (HS.out _ (belT hb (b5))) (fun _=>?_)
   try simp only [qN]
   exact (HG.out _ _ _ _).mp (K28.out _ s1 Y (belT hb (b5)) (r1) (((b5)).block _ (qa5 y1) |>.trans y1) y2)
  exact qn
 have K31:Hid (∀(W:World),qB w1 W→G 17 #[true,true,true,true,true,false,false,true,true,true,true,true,false,false,true,true,true,true,true,false,false,true,true,true,true,true,false,false,true,true,true,true,true,false,false,true,true,true,true,true,false,false,true,true,true,true,true,false,false,false,false,false] (T2 undef undef undef undef undef undef undef undef undef undef undef undef undef undef undef undef) W):=fun W hb=>by
  subst hT2
  rw [HG.out]
  dsimp only
  refine qW [5,50] ?_
  refine qK (fun K hK=>?_) ?_
  ·go_simp
   go_wp2_with (first | (go_at_call 58;refine (hT1 W hb).mono ?_;rintro e w5 ⟨s1,rfl,r1,b5⟩))
   refine hK.out _ _ (HS.out _ (belT hb (b5))) (fun _=>?_)
   try simp only [qN]
   exact (HG.out _ _ _ _).mp (K29.out _ s1 (belT hb (b5)) (r1))
  refine qK (fun K hK=>?_) ?_
  ·go_simp
   refine hK.out _ _ (HS.out _ (belT hb (qa0 W _))) (fun _=>?_)
   try simp only [qN]
   exact (HG.out _ _ _ _).mp (K30.out _ _ (belT hb (qa0 W _)) (heap_alloc_new _ _) (hb.size))
  exact qn
 subst hT2
 exact K31.out _ (Below.refl _ _).drew
end Go.Proofs.YtijgopkhdjaolaaGreat
