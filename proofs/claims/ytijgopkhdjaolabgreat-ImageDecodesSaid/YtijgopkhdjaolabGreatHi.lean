import Derived.Test.YtijgopkhdjaolabGreatXHx
import Derived.Deep.RegionHeldLaw
import Derived.Deep.DrawnRows
import Derived.Lib.SlBytesConst
set_option linter.unusedSimpArgs false
set_option linter.unusedVariables false
set_option maxRecDepth 100000
namespace Go.Proofs.YtijgopkhdjaolabGreat
open Go.RowKit Go.Shelf Go.Sort
open Go.Proofs.YtijgopkhdjaolabGreat.Ob (leB leV qa8 qag crc Rd RdAll qa7)
set_option maxHeartbeats 40000000
def hiL (i f:Nat):Array Bool:=#[decide (1≤f),decide (2≤f),true,decide (1≤i),true,true,true,decide (2≤i),true,true,true,decide (3≤i),true,true,true,decide (4≤i),true,true,true,decide (5≤i),true,true,true,decide (6≤i),true,true,true,decide (7≤i),true,true,true,decide (8≤i),true,true,decide (9≤i),true,true,decide (10≤i),true,true,decide (11≤i),true,true,decide (12≤i),true,true,decide (13≤i),true,true,decide (14≤i),decide (15≤i),decide (16≤i),false,false,false]
def hiT (tb:Tb) (v:Ts) (n X0 X M Y:Nat) (ay:Option Addr) (cy f i:Nat):Array Value:=#[.agg (qC tb v),I n,.pointer (some ⟨X0,0,none⟩),undef,qZ,.pointer (some ⟨X,0,none⟩),.pointer (some ⟨X0,0,none⟩),.agg (qC tb v),if 1≤f then .slice (some ⟨M,0,none⟩) 4 4 else undef,if 2≤f then .slice (some ⟨M,0,none⟩) 4 4 else undef,I n,if 1≤i then cV (n:Int) 4 else undef,.pointer (some ⟨X,2,none⟩),.slice v.t.a v.t.n v.t.c,I v.t.n,if 2≤i then cV (v.t.n:Int) 2 else undef,.pointer (some ⟨X,3,none⟩),.slice v.g.a v.g.n v.g.c,I v.g.n,if 3≤i then cV (v.g.n:Int) 2 else undef,.pointer (some ⟨X,4,none⟩),.slice v.r.a v.r.n v.r.c,I v.r.n,if 4≤i then cV (v.r.n:Int) 2 else undef,.pointer (some ⟨X,5,none⟩),.slice v.k.a v.k.n v.k.c,I v.k.n,if 5≤i then cV (v.k.n:Int) 2 else undef,.pointer (some ⟨X,6,none⟩),.slice v.a.a v.a.n v.a.c,I v.a.n,if 6≤i then cV (v.a.n:Int) 2 else undef,.pointer (some ⟨X,7,none⟩),.slice v.i.a v.i.n v.i.c,I v.i.n,if 7≤i then cV (v.i.n:Int) 2 else undef,.pointer (some ⟨X,8,none⟩),.slice v.s.a v.s.n v.s.c,I v.s.n,if 8≤i then cV (v.s.n:Int) 2 else undef,.pointer (some ⟨X,0,none⟩),I tb.uses,if 9≤i then cV tb.uses 1 else undef,.pointer (some ⟨X,1,none⟩),I tb.modes,if 10≤i then cV tb.modes 1 else undef,.pointer (some ⟨X,9,none⟩),I tb.depth,if 11≤i then cV tb.depth 1 else undef,.pointer (some ⟨X,10,none⟩),I tb.frames,if 12≤i then cV tb.frames 1 else undef,.pointer (some ⟨X,11,none⟩),I tb.errors,if 13≤i then cV tb.errors 1 else undef,.pointer (some ⟨X,12,none⟩),I tb.calls,if 14≤i then cV tb.calls 1 else undef,if 15≤i then .slice (some ⟨Y,0,none⟩) 14 14 else undef,if 16≤i then .slice ay (putB [((n:Int),4),((v.t.n:Int),2),((v.g.n:Int),2),((v.r.n:Int),2),((v.k.n:Int),2),((v.a.n:Int),2),((v.i.n:Int),2),((v.s.n:Int),2),(tb.uses,1),(tb.modes,1),(tb.depth,1),(tb.frames,1),(tb.errors,1),(tb.calls,1)]).length cy else undef,undef,undef]
def hiC (j:Nat):Nat:=match j with
 | 0=>3
 | 1=>7
 | 2=>11
 | 3=>15
 | 4=>19
 | 5=>23
 | 6=>27
 | 7=>31
 | 8=>34
 | 9=>37
 | 10=>40
 | 11=>43
 | 12=>46
 | 13=>49
 | 14=>50
 | _=>51
def hiF (w1 W:World) (M f:Nat):Prop:=match f with
 | 0=>True
 | 1=>w1.heap.size≤M∧W.heap[M]?=some mkO
 | _=>rdV W 1 (.slice (some ⟨M,0,none⟩) 4 4) mrk.length (Bs8 mrk)
def hiY (cs:List (Int×Nat)) (W:World) (M Y:Nat) (ay:Option Addr) (cy f i:Nat):Prop:=match i with
 | 15=>W.heap[Y]?=some (.cells (cs.flatMap qdm).toArray 140)∧(f=1→Y≠M)
 | 16=>rdV W 1 (.slice ay (putB cs).length cy) (putB cs).length (Bs8 (putB cs))∧(f=1→∀g o,ay=some ⟨g,o,none⟩→g≠M)
 | _=>True
theorem qdy {w1 W W':World} {M f:Nat} (h:hiF w1 W M f) (b:qB W W'):hiF w1 W' M f:=by
 match f,h with
 | 0,_=>trivial
 | 1,h=>exact ⟨h.1,(b.block _ (qa6 h.2)).trans h.2⟩
 | _+2,h=>exact qc0 h b
theorem qnx {cs:List (Int×Nat)} {W:World} {M Y:Nat} {ay:Option Addr} {cy i:Nat} {o:Obj} (h:hiY cs W M Y ay cy 0 i):hiY cs (W.alloc o) W.heap.size Y ay cy 1 i:=by
 unfold hiY at h ⊢;split
 ·exact ⟨(qa0 W _).block _ (qa6 h.1) |>.trans h.1,fun _=>by have:=qa6 h.1;omega⟩
 ·exact ⟨qlm h.1,fun _ g o e=>by have:=qsq h.1 g o e;omega⟩
 ·trivial
theorem qny {cs:List (Int×Nat)} {W:World} {M Y:Nat} {ay:Option Addr} {cy i:Nat} (h:hiY cs W M Y ay cy 1 i):hiY cs (W.freeze ⟨M,4,none⟩ 1) M Y ay cy 2 i:=by
 unfold hiY at h ⊢;split
 ·exact ⟨qoz h.1 (h.2 rfl),fun e=>absurd e (by decide)⟩
 ·exact ⟨qrm h.1 (h.2 rfl),fun e=>absurd e (by decide)⟩
 ·trivial
theorem qnz (w:World) (tb:Tb) (v:Ts) (h:TbAt w tb v) (n:Nat) (hn:n < 256 ^ 4) (ok:okTb tb):Calls Tryz.prog 85 #[.agg (tbC tb v),I n] w fun e w'=>∃u,e=.returned u∧OwB w w' u (qal tb n):=by
 have ez0:v.t.n=tb.tasks.length:=h.t.n;have q0:b16 (v.t.n:Int):=⟨by omega,by have:=ok.n0;rw [show (256:Nat) ^ 2=65536 from rfl] at this;omega⟩;have ez1:v.g.n=tb.rings.length:=h.g.n;have q1:b16 (v.g.n:Int):=⟨by omega,by have:=ok.n1;rw [show (256:Nat) ^ 2=65536 from rfl] at this;omega⟩;have ez2:v.r.n=tb.ress.length:=h.r.n;have q2:b16 (v.r.n:Int):=⟨by omega,by have:=ok.n2;rw [show (256:Nat) ^ 2=65536 from rfl] at this;omega⟩;have ez3:v.k.n=tb.ctrs.length:=h.k.n;have q3:b16 (v.k.n:Int):=⟨by omega,by have:=ok.n3;rw [show (256:Nat) ^ 2=65536 from rfl] at this;omega⟩;have ez4:v.a.n=tb.als.length:=h.a.n;have q4:b16 (v.a.n:Int):=⟨by omega,by have:=ok.n4;rw [show (256:Nat) ^ 2=65536 from rfl] at this;omega⟩;have ez5:v.i.n=tb.isrs.length:=h.i.n;have q5:b16 (v.i.n:Int):=⟨by omega,by have:=ok.n5;rw [show (256:Nat) ^ 2=65536 from rfl] at this;omega⟩;have ez6:v.s.n=tb.msgs.length:=h.s.n;have q6:b16 (v.s.n:Int):=⟨by omega,by have:=ok.n6;rw [show (256:Nat) ^ 2=65536 from rfl] at this;omega⟩;have hO0:=fun W=>qop W (n:Int) (n4 hn).1 (n4 hn).2
 have hO1:=fun W=>qdq W (v.t.n:Int) (i2 q0).1 (i2 q0).2
 have hO2:=fun W=>qdq W (v.g.n:Int) (i2 q1).1 (i2 q1).2
 have hO3:=fun W=>qdq W (v.r.n:Int) (i2 q2).1 (i2 q2).2
 have hO4:=fun W=>qdq W (v.k.n:Int) (i2 q3).1 (i2 q3).2
 have hO5:=fun W=>qdq W (v.a.n:Int) (i2 q4).1 (i2 q4).2
 have hO6:=fun W=>qdq W (v.i.n:Int) (i2 q5).1 (i2 q5).2
 have hO7:=fun W=>qdq W (v.s.n:Int) (i2 q6).1 (i2 q6).2
 have hO8:=fun W=>qbq W tb.uses (i1 ok.x0).1 (i1 ok.x0).2
 have hO9:=fun W=>qbq W tb.modes (i1 ok.x1).1 (i1 ok.x1).2
 have hO10:=fun W=>qbq W tb.depth (i1 ok.x2).1 (i1 ok.x2).2
 have hO11:=fun W=>qbq W tb.frames (i1 ok.x3).1 (i1 ok.x3).2
 have hO12:=fun W=>qbq W tb.errors (i1 ok.x4).1 (i1 ok.x4).2
 have hO13:=fun W=>qbq W tb.calls (i1 ok.x5).1 (i1 ok.x5).2
 have HO:Hid (∀y∈[((n:Int),4),((v.t.n:Int),2),((v.g.n:Int),2),((v.r.n:Int),2),((v.k.n:Int),2),((v.a.n:Int),2),((v.i.n:Int),2),((v.s.n:Int),2),(tb.uses,1),(tb.modes,1),(tb.depth,1),(tb.frames,1),(tb.errors,1),(tb.calls,1)],okC y):=by
  intro y hx;simp only [List.mem_cons,List.not_mem_nil,or_false] at hx;rcases hx with rfl | rfl | rfl | rfl | rfl | rfl | rfl | rfl | rfl | rfl | rfl | rfl | rfl | rfl
  ·exact okC4 hn
  ·exact okC2 q0
  ·exact okC2 q1
  ·exact okC2 q2
  ·exact okC2 q3
  ·exact okC2 q4
  ·exact okC2 q5
  ·exact okC2 q6
  ·exact okC1 ok.x0
  ·exact okC1 ok.x1
  ·exact okC1 ok.x2
  ·exact okC1 ok.x3
  ·exact okC1 ok.x4
  ·exact okC1 ok.x5
 have hP:=fun (W:World) (X:Nat) h=>qcl (W:=W) (X:=X) (n:=14) [((n:Int),4),((v.t.n:Int),2),((v.g.n:Int),2),((v.r.n:Int),2),((v.k.n:Int),2),((v.a.n:Int),2),((v.i.n:Int),2),((v.s.n:Int),2),(tb.uses,1),(tb.modes,1),(tb.depth,1),(tb.frames,1),(tb.errors,1),(tb.calls,1)] h rfl HO.out (by simp)
 have HE:Hid (mrk++putB [((n:Int),4),((v.t.n:Int),2),((v.g.n:Int),2),((v.r.n:Int),2),((v.k.n:Int),2),((v.a.n:Int),2),((v.i.n:Int),2),((v.s.n:Int),2),(tb.uses,1),(tb.modes,1),(tb.depth,1),(tb.frames,1),(tb.errors,1),(tb.calls,1)]=qal tb n):=by show _=_;simp [putB,qal,eCnt,eHd,e1,ez0,ez1,ez2,ez3,ez4,ez5,ez6]
 have HLEN:Hid (mrk.length+(putB [((n:Int),4),((v.t.n:Int),2),((v.g.n:Int),2),((v.r.n:Int),2),((v.k.n:Int),2),((v.a.n:Int),2),((v.i.n:Int),2),((v.s.n:Int),2),(tb.uses,1),(tb.modes,1),(tb.depth,1),(tb.frames,1),(tb.errors,1),(tb.calls,1)]).length≤1000000):=by
  show _≤_;rw [←List.length_append,HE.out];simp only [qal,eCnt,eHd,e1,mrk,List.length_append,List.length_cons,List.length_nil,qa8];omega
 have hb0:=qa0 w (.cells (qC tb v) 133);have hV0:=heap_alloc_new w (.cells (qC tb v) 133);have hb1:=qa0 (w.alloc (.cells (qC tb v) 133)) (.cells (qC tb v) 32);have hV1:=heap_alloc_new (w.alloc (.cells (qC tb v) 133)) (.cells (qC tb v) 32);have HB:Hid (Below w.heap.size w ((w.alloc (.cells (qC tb v) 133)).alloc (.cells (qC tb v) 32))):=belT hb0 hb1;have HS0:Hid (∀W,qB ((w.alloc (.cells (qC tb v) 133)).alloc (.cells (qC tb v) 32)) W→(fun X=>qP W X tb v) (w.alloc (.cells (qC tb v) 133)).heap.size):=fun W hW=>by
  have q:=(hW.block _ (qa6 hV1)).trans hV1;refine ⟨?_,?_,?_,?_,?_,?_,?_,?_,?_,?_,?_,?_,?_⟩ <;> (rw [qcr q];rfl)
 unfold tbC;clear hb0 hV0 hb1 hV1 h ez0 q0 ez1 q1 ez2 q2 ez3 q3 ez4 q4 ez5 q5 ez6 q6 hn ok;go_enter Tryz.func85,Tryz.ntmps85
 go_upto_region 1 with fail;go_upto_region 2 with fail;generalize (w.alloc (.cells (qC tb v) 133)).alloc (.cells (qC tb v) 32)=w1 at *;rw [qpo] at HS0;generalize w.heap.size+1=X at *;generalize hX0:w.heap.size=X0 at *;have HX0:Hid (w.heap.size=X0):=hX0;clear hX0;have HS:Hid (∀W,qB w1 W→qP W X tb v):=HS0.out;have HC:=HS.out w1.drew (Below.refl w1.heap.size w1).drew;refine wp_region_held_drew (S:=fun W=>qP W X tb v) (by kernel_rfl) HC (fun hHeld=>?_);clear HC;change wpAnyH _ _ _ _ _ _ #[false,false,false,false,false,false,false,false,false,false,false,false,false,false,false,false,false,false,false,false,false,false,false,false,false,false,false,false,false,false,false,false,false,false,false,false,false,false,false,false,false,false,false,false,false,false,false,false,false,false,false,false,false,false,false] _ _;try simp only [Act.put,hiC,List.getElem_toArray,List.getElem_cons_succ,List.getElem_cons_zero,List.setIfInBounds_toArray,List.set_cons_zero,List.set_cons_succ]
 refine qTH 2 (I n) rfl hHeld ?_;try simp only [Act.put,hiC,List.getElem_toArray,List.getElem_cons_succ,List.getElem_cons_zero,List.setIfInBounds_toArray,List.set_cons_zero,List.set_cons_succ]
 refine qTH 4 (.pointer (some ⟨X,2,none⟩)) rfl hHeld ?_;try simp only [Act.put,hiC,List.getElem_toArray,List.getElem_cons_succ,List.getElem_cons_zero,List.setIfInBounds_toArray,List.set_cons_zero,List.set_cons_succ]
 refine qTH 5 (.slice v.t.a v.t.n v.t.c) rfl hHeld ?_;try simp only [Act.put,hiC,List.getElem_toArray,List.getElem_cons_succ,List.getElem_cons_zero,List.setIfInBounds_toArray,List.set_cons_zero,List.set_cons_succ]
 refine qTH 6 (I v.t.n) rfl hHeld ?_;try simp only [Act.put,hiC,List.getElem_toArray,List.getElem_cons_succ,List.getElem_cons_zero,List.setIfInBounds_toArray,List.set_cons_zero,List.set_cons_succ]
 refine qTH 8 (.pointer (some ⟨X,3,none⟩)) rfl hHeld ?_;try simp only [Act.put,hiC,List.getElem_toArray,List.getElem_cons_succ,List.getElem_cons_zero,List.setIfInBounds_toArray,List.set_cons_zero,List.set_cons_succ]
 refine qTH 9 (.slice v.g.a v.g.n v.g.c) rfl hHeld ?_;try simp only [Act.put,hiC,List.getElem_toArray,List.getElem_cons_succ,List.getElem_cons_zero,List.setIfInBounds_toArray,List.set_cons_zero,List.set_cons_succ]
 refine qTH 10 (I v.g.n) rfl hHeld ?_;try simp only [Act.put,hiC,List.getElem_toArray,List.getElem_cons_succ,List.getElem_cons_zero,List.setIfInBounds_toArray,List.set_cons_zero,List.set_cons_succ]
 refine qTH 12 (.pointer (some ⟨X,4,none⟩)) rfl hHeld ?_;try simp only [Act.put,hiC,List.getElem_toArray,List.getElem_cons_succ,List.getElem_cons_zero,List.setIfInBounds_toArray,List.set_cons_zero,List.set_cons_succ]
 refine qTH 13 (.slice v.r.a v.r.n v.r.c) rfl hHeld ?_;try simp only [Act.put,hiC,List.getElem_toArray,List.getElem_cons_succ,List.getElem_cons_zero,List.setIfInBounds_toArray,List.set_cons_zero,List.set_cons_succ]
 refine qTH 14 (I v.r.n) rfl hHeld ?_;try simp only [Act.put,hiC,List.getElem_toArray,List.getElem_cons_succ,List.getElem_cons_zero,List.setIfInBounds_toArray,List.set_cons_zero,List.set_cons_succ]
 refine qTH 16 (.pointer (some ⟨X,5,none⟩)) rfl hHeld ?_;try simp only [Act.put,hiC,List.getElem_toArray,List.getElem_cons_succ,List.getElem_cons_zero,List.setIfInBounds_toArray,List.set_cons_zero,List.set_cons_succ]
 refine qTH 17 (.slice v.k.a v.k.n v.k.c) rfl hHeld ?_;try simp only [Act.put,hiC,List.getElem_toArray,List.getElem_cons_succ,List.getElem_cons_zero,List.setIfInBounds_toArray,List.set_cons_zero,List.set_cons_succ]
 refine qTH 18 (I v.k.n) rfl hHeld ?_;try simp only [Act.put,hiC,List.getElem_toArray,List.getElem_cons_succ,List.getElem_cons_zero,List.setIfInBounds_toArray,List.set_cons_zero,List.set_cons_succ]
 refine qTH 20 (.pointer (some ⟨X,6,none⟩)) rfl hHeld ?_;try simp only [Act.put,hiC,List.getElem_toArray,List.getElem_cons_succ,List.getElem_cons_zero,List.setIfInBounds_toArray,List.set_cons_zero,List.set_cons_succ]
 refine qTH 21 (.slice v.a.a v.a.n v.a.c) rfl hHeld ?_;try simp only [Act.put,hiC,List.getElem_toArray,List.getElem_cons_succ,List.getElem_cons_zero,List.setIfInBounds_toArray,List.set_cons_zero,List.set_cons_succ]
 refine qTH 22 (I v.a.n) rfl hHeld ?_;try simp only [Act.put,hiC,List.getElem_toArray,List.getElem_cons_succ,List.getElem_cons_zero,List.setIfInBounds_toArray,List.set_cons_zero,List.set_cons_succ]
 refine qTH 24 (.pointer (some ⟨X,7,none⟩)) rfl hHeld ?_;try simp only [Act.put,hiC,List.getElem_toArray,List.getElem_cons_succ,List.getElem_cons_zero,List.setIfInBounds_toArray,List.set_cons_zero,List.set_cons_succ]
 refine qTH 25 (.slice v.i.a v.i.n v.i.c) rfl hHeld ?_;try simp only [Act.put,hiC,List.getElem_toArray,List.getElem_cons_succ,List.getElem_cons_zero,List.setIfInBounds_toArray,List.set_cons_zero,List.set_cons_succ]
 refine qTH 26 (I v.i.n) rfl hHeld ?_;try simp only [Act.put,hiC,List.getElem_toArray,List.getElem_cons_succ,List.getElem_cons_zero,List.setIfInBounds_toArray,List.set_cons_zero,List.set_cons_succ]
 refine qTH 28 (.pointer (some ⟨X,8,none⟩)) rfl hHeld ?_;try simp only [Act.put,hiC,List.getElem_toArray,List.getElem_cons_succ,List.getElem_cons_zero,List.setIfInBounds_toArray,List.set_cons_zero,List.set_cons_succ]
 refine qTH 29 (.slice v.s.a v.s.n v.s.c) rfl hHeld ?_;try simp only [Act.put,hiC,List.getElem_toArray,List.getElem_cons_succ,List.getElem_cons_zero,List.setIfInBounds_toArray,List.set_cons_zero,List.set_cons_succ]
 refine qTH 30 (I v.s.n) rfl hHeld ?_;try simp only [Act.put,hiC,List.getElem_toArray,List.getElem_cons_succ,List.getElem_cons_zero,List.setIfInBounds_toArray,List.set_cons_zero,List.set_cons_succ]
 refine qTH 32 (.pointer (some ⟨X,0,none⟩)) rfl hHeld ?_;try simp only [Act.put,hiC,List.getElem_toArray,List.getElem_cons_succ,List.getElem_cons_zero,List.setIfInBounds_toArray,List.set_cons_zero,List.set_cons_succ]
 refine qTH 33 (I tb.uses) rfl hHeld ?_;try simp only [Act.put,hiC,List.getElem_toArray,List.getElem_cons_succ,List.getElem_cons_zero,List.setIfInBounds_toArray,List.set_cons_zero,List.set_cons_succ]
 refine qTH 35 (.pointer (some ⟨X,1,none⟩)) rfl hHeld ?_;try simp only [Act.put,hiC,List.getElem_toArray,List.getElem_cons_succ,List.getElem_cons_zero,List.setIfInBounds_toArray,List.set_cons_zero,List.set_cons_succ]
 refine qTH 36 (I tb.modes) rfl hHeld ?_;try simp only [Act.put,hiC,List.getElem_toArray,List.getElem_cons_succ,List.getElem_cons_zero,List.setIfInBounds_toArray,List.set_cons_zero,List.set_cons_succ]
 refine qTH 38 (.pointer (some ⟨X,9,none⟩)) rfl hHeld ?_;try simp only [Act.put,hiC,List.getElem_toArray,List.getElem_cons_succ,List.getElem_cons_zero,List.setIfInBounds_toArray,List.set_cons_zero,List.set_cons_succ]
 refine qTH 39 (I tb.depth) rfl hHeld ?_;try simp only [Act.put,hiC,List.getElem_toArray,List.getElem_cons_succ,List.getElem_cons_zero,List.setIfInBounds_toArray,List.set_cons_zero,List.set_cons_succ]
 refine qTH 41 (.pointer (some ⟨X,10,none⟩)) rfl hHeld ?_;try simp only [Act.put,hiC,List.getElem_toArray,List.getElem_cons_succ,List.getElem_cons_zero,List.setIfInBounds_toArray,List.set_cons_zero,List.set_cons_succ]
 refine qTH 42 (I tb.frames) rfl hHeld ?_;try simp only [Act.put,hiC,List.getElem_toArray,List.getElem_cons_succ,List.getElem_cons_zero,List.setIfInBounds_toArray,List.set_cons_zero,List.set_cons_succ]
 refine qTH 44 (.pointer (some ⟨X,11,none⟩)) rfl hHeld ?_;try simp only [Act.put,hiC,List.getElem_toArray,List.getElem_cons_succ,List.getElem_cons_zero,List.setIfInBounds_toArray,List.set_cons_zero,List.set_cons_succ]
 refine qTH 45 (I tb.errors) rfl hHeld ?_;try simp only [Act.put,hiC,List.getElem_toArray,List.getElem_cons_succ,List.getElem_cons_zero,List.setIfInBounds_toArray,List.set_cons_zero,List.set_cons_succ]
 refine qTH 47 (.pointer (some ⟨X,12,none⟩)) rfl hHeld ?_;try simp only [Act.put,hiC,List.getElem_toArray,List.getElem_cons_succ,List.getElem_cons_zero,List.setIfInBounds_toArray,List.set_cons_zero,List.set_cons_succ]
 refine qTH 48 (I tb.calls) rfl hHeld ?_;try simp only [Act.put,hiC,List.getElem_toArray,List.getElem_cons_succ,List.getElem_cons_zero,List.setIfInBounds_toArray,List.set_cons_zero,List.set_cons_succ]
 clear hHeld;refine qfl (fun G HG=>?_);dsimp only;obtain ⟨KF,hKF⟩:∃KF:Nat→Nat→Prop,∀i f,KF i f=∀(W:World) (M Y:Nat) (ay:Option Addr) (cy:Nat),qB w1 W→hiF w1 W M f→hiY [((n:Int),4),((v.t.n:Int),2),((v.g.n:Int),2),((v.r.n:Int),2),((v.k.n:Int),2),((v.a.n:Int),2),((v.i.n:Int),2),((v.s.n:Int),2),(tb.uses,1),(tb.modes,1),(tb.depth,1),(tb.frames,1),(tb.errors,1),(tb.calls,1)] W M Y ay cy f i→G (21 - i - f) (hiL i f) (hiT tb v n X0 X M Y ay cy f i) W:=⟨_,fun _ _=>rfl⟩
 have KE:∀f,f < 3→Hid (KF 16 f):=by
  have k2:Hid (KF 16 2):=by
   show KF 16 2;rw [hKF];intro W M Y ay cy hb hf hy;rw [HG.out];simp only [hiL,hiT,Nat.reduceLeDiff,decide_true,decide_false,↓reduceIte,Nat.reduceSub];refine qW [52] ?_;refine qK (fun K hK=>?_) ?_
   ·go_simp
    refine hK.out _ _ (HS.out _ (belA hb)) (fun _=>?_);clear hK K;try simp only [Act.put,hiC,List.getElem_toArray,List.getElem_cons_succ,List.getElem_cons_zero,List.setIfInBounds_toArray,List.set_cons_zero,List.set_cons_succ]
    refine qR1 (i:=53) rfl (fun K hK=>?_);go_simp;go_wp2_with (first | (go_at_call 83;refine (qro (w:=w1) (belA hb) (heap_alloc_new _ _) (qlm hf) (qlm hy.1) HLEN.out).mono ?_;rintro e w9 ⟨u,rfl,o9⟩;have K9:Hid (OwB w1 w9 u (mrk++(putB [((n:Int),4),((v.t.n:Int),2),((v.g.n:Int),2),((v.r.n:Int),2),((v.k.n:Int),2),((v.a.n:Int),2),((v.i.n:Int),2),((v.s.n:Int),2),(tb.uses,1),(tb.modes,1),(tb.depth,1),(tb.frames,1),(tb.errors,1),(tb.calls,1)]))):=o9;clear o9));refine hK.out _ _ (HS.out _ K9.out.2) (fun _=>?_);clear hK K;try simp only [Act.put,hiC,List.getElem_toArray,List.getElem_cons_succ,List.getElem_cons_zero,List.setIfInBounds_toArray,List.set_cons_zero,List.set_cons_succ]
    refine qR1 (i:=54) rfl (fun K hK=>?_);go_simp;refine hK.out _ _ (HS.out _ K9.out.2) (fun _=>?_);clear hK K;try simp only [Act.put,hiC,List.getElem_toArray,List.getElem_cons_succ,List.getElem_cons_zero,List.setIfInBounds_toArray,List.set_cons_zero,List.set_cons_succ]
    refine wpAnyH_done (by kernel_rfl) ?_ _;go_wp2;go_ret;have hB:=HB.out;rw [←HX0.out] at hB;have:=qc9 hB K9.out;rw [HE.out] at this;exact ⟨_,rfl,this⟩
   exact qn
  have k1:Hid (KF 16 1):=by
   show KF 16 1;rw [hKF];intro W M Y ay cy hb hf hy;rw [HG.out];simp only [hiL,hiT,Nat.reduceLeDiff,decide_true,decide_false,↓reduceIte,Nat.reduceSub];refine qW [1] ?_;refine qK (fun K hK=>?_) ?_
   ·have hcv:=qgm hf.2
    go_simp;refine hK.out _ _ (HS.out _ (qef hb hf.1)) (fun _=>?_);try simp only [Act.put,hiC,List.getElem_toArray,List.getElem_cons_succ,List.getElem_cons_zero,List.setIfInBounds_toArray,List.set_cons_zero,List.set_cons_succ]
    exact (HG.out _ _ _ _).mp ((hKF _ 2).mp k2 _ M Y ay cy (qef hb hf.1) (qjk hf.2) (qny hy))
   exact qn
  have k0:Hid (KF 16 0):=by
   show KF 16 0;rw [hKF];intro W M Y ay cy hb hf hy;rw [HG.out];simp only [hiL,hiT,Nat.reduceLeDiff,decide_true,decide_false,↓reduceIte,Nat.reduceSub];refine qW [0] ?_;refine qK (fun K hK=>?_) ?_
   ·go_simp
    refine hK.out _ _ (HS.out _ (belA hb)) (fun _=>?_);try simp only [Act.put,hiC,List.getElem_toArray,List.getElem_cons_succ,List.getElem_cons_zero,List.setIfInBounds_toArray,List.set_cons_zero,List.set_cons_succ]
    exact (HG.out _ _ _ _).mp ((hKF _ 1).mp k1 _ W.heap.size Y ay cy (belA hb) (And.intro hb.size (heap_alloc_new _ _)) (qnx hy))
   exact qn
  intro f hf;match f,hf with
  | 0,_=>exact k0
  | 1,_=>exact k1
  | 2,_=>exact k2
 have KS:∀i,i < 16→(∀f,f < 3→Hid (KF (i+1) f))→∀f,f < 3→Hid (KF i f):=by
  intro i hi IH;obtain ⟨j,hj⟩:∃j,j=i:=⟨i,rfl⟩
  have hi':i=0∨i=1∨i=2∨i=3∨i=4∨i=5∨i=6∨i=7∨i=8∨i=9∨i=10∨i=11∨i=12∨i=13∨i=14∨i=15:=by omega
  clear hi;rcases hi' with rfl | rfl | rfl | rfl | rfl | rfl | rfl | rfl | rfl | rfl | rfl | rfl | rfl | rfl | rfl | rfl
  all_goals
   have k2:Hid (KF j 2):=by
    show KF j 2;rw [hj];rw [hKF];intro W M Y ay cy hb hf hy;rw [HG.out];simp only [hiL,hiT,Nat.reduceLeDiff,decide_true,decide_false,↓reduceIte,Nat.reduceSub];refine wpAnyH_ready (rs:=[hiC j]) (by rw [hj];kernel_rfl) (by simp) ?_;simp only [hj,hiC];refine qK (fun K hK=>?_) ?_
    ·go_simp
     first
     | (
       guard_hyp hj:j=14
       refine hK.out _ _ (HS.out _ (belA hb)) (fun _=>?_);try simp only [Act.put,hiC,List.getElem_toArray,List.getElem_cons_succ,List.getElem_cons_zero,List.setIfInBounds_toArray,List.set_cons_zero,List.set_cons_succ]
       exact (HG.out _ _ _ _).mp ((hKF _ _).mp (IH 2 (by omega)) _ M W.heap.size ay cy (belA hb) (qdy hf (qa0 W _)) (And.intro (heap_alloc_new _ _) (fun e1=>absurd e1 (by decide)))))
     | (
       guard_hyp hj:j=15
       go_wp2_with (first | (go_at_call 86;refine (hP W Y hy.1).mono ?_;rintro e w5 ⟨u5,rfl,o5⟩;obtain ⟨a5,c5,rfl⟩:=qam o5.1));refine hK.out _ _ (HS.out _ (belT hb o5.2)) (fun _=>?_);try simp only [Act.put,hiC,List.getElem_toArray,List.getElem_cons_succ,List.getElem_cons_zero,List.setIfInBounds_toArray,List.set_cons_zero,List.set_cons_succ]
       exact (HG.out _ _ _ _).mp ((hKF _ _).mp (IH 2 (by omega)) _ M Y a5 c5 (belT hb o5.2) (qdy hf o5.2) (And.intro (qc7 o5.1) (fun e1=>absurd e1 (by decide)))))
     | (
       go_wp2_with ((first | (go_at_call 156;first | (guard_hyp hj:j=1;refine (hO1 W).mono ?_) | (guard_hyp hj:j=2;refine (hO2 W).mono ?_) | (guard_hyp hj:j=3;refine (hO3 W).mono ?_) | (guard_hyp hj:j=4;refine (hO4 W).mono ?_) | (guard_hyp hj:j=5;refine (hO5 W).mono ?_) | (guard_hyp hj:j=6;refine (hO6 W).mono ?_) | (guard_hyp hj:j=7;refine (hO7 W).mono ?_)) | (go_at_call 150;first | (guard_hyp hj:j=8;refine (hO8 W).mono ?_) | (guard_hyp hj:j=9;refine (hO9 W).mono ?_) | (guard_hyp hj:j=10;refine (hO10 W).mono ?_) | (guard_hyp hj:j=11;refine (hO11 W).mono ?_) | (guard_hyp hj:j=12;refine (hO12 W).mono ?_) | (guard_hyp hj:j=13;refine (hO13 W).mono ?_)) | (go_at_call 161;refine (hO0 W).mono ?_));rintro e w5 ⟨rfl,b5⟩);refine hK.out _ _ (HS.out _ (belT hb b5)) (fun _=>?_);try simp only [Act.put,hiC,List.getElem_toArray,List.getElem_cons_succ,List.getElem_cons_zero,List.setIfInBounds_toArray,List.set_cons_zero,List.set_cons_succ]
       exact (HG.out _ _ _ _).mp ((hKF _ _).mp (IH 2 (by omega)) _ M Y ay cy (belT hb b5) (qdy hf b5) trivial))
    exact qn
   rw [hj] at k2;have k1:Hid (KF j 1):=by
    show KF j 1;rw [hj];rw [hKF];intro W M Y ay cy hb hf hy;rw [HG.out];simp only [hiL,hiT,Nat.reduceLeDiff,decide_true,decide_false,↓reduceIte,Nat.reduceSub];refine wpAnyH_ready (rs:=[1,hiC j]) (by rw [hj];kernel_rfl) (by simp) ?_;simp only [hj,hiC];refine qK (fun K hK=>?_) ?_
    ·have hcv:=qgm hf.2
     go_simp;refine hK.out _ _ (HS.out _ (qef hb hf.1)) (fun _=>?_);try simp only [Act.put,hiC,List.getElem_toArray,List.getElem_cons_succ,List.getElem_cons_zero,List.setIfInBounds_toArray,List.set_cons_zero,List.set_cons_succ]
     exact (HG.out _ _ _ _).mp ((hKF _ 2).mp k2 _ M Y ay cy (qef hb hf.1) (qjk hf.2) (qny hy))
    refine qK (fun K hK=>?_) ?_
    ·go_simp
     first
     | (
       guard_hyp hj:j=14
       refine hK.out _ _ (HS.out _ (belA hb)) (fun _=>?_);try simp only [Act.put,hiC,List.getElem_toArray,List.getElem_cons_succ,List.getElem_cons_zero,List.setIfInBounds_toArray,List.set_cons_zero,List.set_cons_succ]
       exact (HG.out _ _ _ _).mp ((hKF _ _).mp (IH 1 (by omega)) _ M W.heap.size ay cy (belA hb) (qdy hf (qa0 W _)) (And.intro (heap_alloc_new _ _) (fun e1=>by have:=qa6 hf.2;omega))))
     | (
       guard_hyp hj:j=15
       go_wp2_with (first | (go_at_call 86;refine (hP W Y hy.1).mono ?_;rintro e w5 ⟨u5,rfl,o5⟩;obtain ⟨a5,c5,rfl⟩:=qam o5.1));refine hK.out _ _ (HS.out _ (belT hb o5.2)) (fun _=>?_);try simp only [Act.put,hiC,List.getElem_toArray,List.getElem_cons_succ,List.getElem_cons_zero,List.setIfInBounds_toArray,List.set_cons_zero,List.set_cons_succ]
       exact (HG.out _ _ _ _).mp ((hKF _ _).mp (IH 1 (by omega)) _ M Y a5 c5 (belT hb o5.2) (qdy hf o5.2) (And.intro (qc7 o5.1) (fun e1 g o e=>by have:=qrn o5.1 g o e;have:=qa6 hf.2;omega))))
     | (
       go_wp2_with ((first | (go_at_call 156;first | (guard_hyp hj:j=1;refine (hO1 W).mono ?_) | (guard_hyp hj:j=2;refine (hO2 W).mono ?_) | (guard_hyp hj:j=3;refine (hO3 W).mono ?_) | (guard_hyp hj:j=4;refine (hO4 W).mono ?_) | (guard_hyp hj:j=5;refine (hO5 W).mono ?_) | (guard_hyp hj:j=6;refine (hO6 W).mono ?_) | (guard_hyp hj:j=7;refine (hO7 W).mono ?_)) | (go_at_call 150;first | (guard_hyp hj:j=8;refine (hO8 W).mono ?_) | (guard_hyp hj:j=9;refine (hO9 W).mono ?_) | (guard_hyp hj:j=10;refine (hO10 W).mono ?_) | (guard_hyp hj:j=11;refine (hO11 W).mono ?_) | (guard_hyp hj:j=12;refine (hO12 W).mono ?_) | (guard_hyp hj:j=13;refine (hO13 W).mono ?_)) | (go_at_call 161;refine (hO0 W).mono ?_));rintro e w5 ⟨rfl,b5⟩);refine hK.out _ _ (HS.out _ (belT hb b5)) (fun _=>?_);try simp only [Act.put,hiC,List.getElem_toArray,List.getElem_cons_succ,List.getElem_cons_zero,List.setIfInBounds_toArray,List.set_cons_zero,List.set_cons_succ]
       exact (HG.out _ _ _ _).mp ((hKF _ _).mp (IH 1 (by omega)) _ M Y ay cy (belT hb b5) (qdy hf b5) trivial))
    exact qn
   rw [hj] at k1;have k0:Hid (KF j 0):=by
    show KF j 0;rw [hj];rw [hKF];intro W M Y ay cy hb hf hy;rw [HG.out];simp only [hiL,hiT,Nat.reduceLeDiff,decide_true,decide_false,↓reduceIte,Nat.reduceSub];refine wpAnyH_ready (rs:=[0,hiC j]) (by rw [hj];kernel_rfl) (by simp) ?_;simp only [hj,hiC];refine qK (fun K hK=>?_) ?_
    ·go_simp
     refine hK.out _ _ (HS.out _ (belA hb)) (fun _=>?_);try simp only [Act.put,hiC,List.getElem_toArray,List.getElem_cons_succ,List.getElem_cons_zero,List.setIfInBounds_toArray,List.set_cons_zero,List.set_cons_succ]
     exact (HG.out _ _ _ _).mp ((hKF _ 1).mp k1 _ W.heap.size Y ay cy (belA hb) (And.intro hb.size (heap_alloc_new _ _)) (qnx hy))
    refine qK (fun K hK=>?_) ?_
    ·go_simp
     first
     | (
       guard_hyp hj:j=14
       refine hK.out _ _ (HS.out _ (belA hb)) (fun _=>?_);try simp only [Act.put,hiC,List.getElem_toArray,List.getElem_cons_succ,List.getElem_cons_zero,List.setIfInBounds_toArray,List.set_cons_zero,List.set_cons_succ]
       exact (HG.out _ _ _ _).mp ((hKF _ _).mp (IH 0 (by omega)) _ M W.heap.size ay cy (belA hb) (qdy hf (qa0 W _)) (And.intro (heap_alloc_new _ _) (fun e1=>absurd e1 (by decide)))))
     | (
       guard_hyp hj:j=15
       go_wp2_with (first | (go_at_call 86;refine (hP W Y hy.1).mono ?_;rintro e w5 ⟨u5,rfl,o5⟩;obtain ⟨a5,c5,rfl⟩:=qam o5.1));refine hK.out _ _ (HS.out _ (belT hb o5.2)) (fun _=>?_);try simp only [Act.put,hiC,List.getElem_toArray,List.getElem_cons_succ,List.getElem_cons_zero,List.setIfInBounds_toArray,List.set_cons_zero,List.set_cons_succ]
       exact (HG.out _ _ _ _).mp ((hKF _ _).mp (IH 0 (by omega)) _ M Y a5 c5 (belT hb o5.2) (qdy hf o5.2) (And.intro (qc7 o5.1) (fun e1=>absurd e1 (by decide)))))
     | (
       go_wp2_with ((first | (go_at_call 156;first | (guard_hyp hj:j=1;refine (hO1 W).mono ?_) | (guard_hyp hj:j=2;refine (hO2 W).mono ?_) | (guard_hyp hj:j=3;refine (hO3 W).mono ?_) | (guard_hyp hj:j=4;refine (hO4 W).mono ?_) | (guard_hyp hj:j=5;refine (hO5 W).mono ?_) | (guard_hyp hj:j=6;refine (hO6 W).mono ?_) | (guard_hyp hj:j=7;refine (hO7 W).mono ?_)) | (go_at_call 150;first | (guard_hyp hj:j=8;refine (hO8 W).mono ?_) | (guard_hyp hj:j=9;refine (hO9 W).mono ?_) | (guard_hyp hj:j=10;refine (hO10 W).mono ?_) | (guard_hyp hj:j=11;refine (hO11 W).mono ?_) | (guard_hyp hj:j=12;refine (hO12 W).mono ?_) | (guard_hyp hj:j=13;refine (hO13 W).mono ?_)) | (go_at_call 161;refine (hO0 W).mono ?_));rintro e w5 ⟨rfl,b5⟩);refine hK.out _ _ (HS.out _ (belT hb b5)) (fun _=>?_);try simp only [Act.put,hiC,List.getElem_toArray,List.getElem_cons_succ,List.getElem_cons_zero,List.setIfInBounds_toArray,List.set_cons_zero,List.set_cons_succ]
       exact (HG.out _ _ _ _).mp ((hKF _ _).mp (IH 0 (by omega)) _ M Y ay cy (belT hb b5) (qdy hf b5) trivial))
    exact qn
   rw [hj] at k0;intro f hf;match f,hf with
   | 0,_=>exact k0
   | 1,_=>exact k1
   | 2,_=>exact k2
 have KA:∀m,m≤16→∀f,f < 3→Hid (KF (16 - m) f):=by
  intro m;induction m with
  | zero=>intro _;exact KE
  | succ m ih=>intro hm;exact KS _ (by omega) (by rw [show 16 - (m+1)+1=16 - m by omega];exact ih (by omega))
 have:=KA 16 (Nat.le_refl _) 0 (by omega);rw [show 16 - 16=0 from rfl,Hid,hKF] at this;exact this _ 0 0 none 0 (Below.refl _ _).drew trivial trivial
end Go.Proofs.YtijgopkhdjaolabGreat
