import Derived.Test.YtijgopkhdjaolabGreatXTct
import Derived.Test.YtijgopkhdjaolabGreatXTgx
import Derived.Deep.RegionHeldLaw
import Derived.Test.YtijgopkhdjaolabGreatXTcw
set_option linter.unusedSimpArgs false
set_option linter.unusedVariables false
set_option maxHeartbeats 16000000
set_option maxRecDepth 100000
namespace Go.Proofs.YtijgopkhdjaolabGreat
open Go.RowKit Go.Shelf Go.Sort
theorem qf4 {α:Type} (p:α→Bool) (h:α→Int) (hh:∀x,h x=if p x then 1 else 0):∀l:List α,sumZ h l=((l.filter p).length:Int)
 | []=>rfl
 | x :: l=>by
  rw [sumZ,qf4 p h hh l,hh,List.filter_cons];cases p x <;> simp
  omega
structure RoomOK (tb:Tb):Prop where
 a:∀x∈tb.als,0≤x.ctr∧x.ctr < (tb.ctrs.length:Int)
 s:∀x∈tb.msgs,x.kind≠1→0≤x.frm∧x.frm < (tb.msgs.length:Int)
 l:tb.ctrs.length≤16∧tb.als.length≤64∧tb.msgs.length≤64∧tb.isrs.length≤32
def rmC (tb:Tb):Array Value:=#[I tb.rings.length,I ((tb.isrs.length:Int)+4),I ((max 2 (max (qb1 (tb.als.map fun x=>x.ctr)) (qb1 (rcvL tb))):Nat):Int),I (qeb tb)]
def mx3 (a b c:Int):Int:=max a (max b c)
theorem qm4 (ats:Array TypeId) (ty:TypeId) (a b c:Int):Builtin.max_ ats ty #[.int .i64 a,.int .i64 b,.int .i64 c]=pure (.int .i64 (mx3 a b c)):=by
 show (do let s ←Builtin.max2 (.int .i64 a) (.int .i64 b);let s ←Builtin.max2 s (.int .i64 c);pure s:Sem Value)=_;simp only [Builtin.max2];show (pure _:Sem Value)=_;congr 2
 unfold mx3;split <;> split <;> omega
attribute [local go_sem 5000] qm4
theorem qka {w:World} {g:Nat} {t:TypeId} {o0 o1 o2 o3:Value} (h:w.heap[g]?=some (.cells #[o0,o1,o2,o3] t)):w.cell? ⟨g,0,none⟩=some o0∧w.cell? ⟨g,1,none⟩=some o1∧w.cell? ⟨g,2,none⟩=some o2∧w.cell? ⟨g,3,none⟩=some o3∧w.frozen? ⟨g,0,none⟩=false∧w.frozen? ⟨g,1,none⟩=false∧w.frozen? ⟨g,2,none⟩=false∧w.frozen? ⟨g,3,none⟩=false:=
 ⟨by rw [cell_of_row w g 0 _ _ (0,0) h];rfl,by rw [cell_of_row w g 1 _ _ (0,0) h];rfl,by rw [cell_of_row w g 2 _ _ (0,0) h];rfl,by rw [cell_of_row w g 3 _ _ (0,0) h];rfl,frozen_of_row w g 0 _ _ h,frozen_of_row w g 1 _ _ h,frozen_of_row w g 2 _ _ h,frozen_of_row w g 3 _ _ h⟩
theorem qp1 (w:World) (b:Nat) (t:TypeId) (o0 o1 o2 o3 v0 v1 v2 v3:Value) (k:w.heap[b]?=some (.cells #[o0,o1,o2,o3] t (0,0))) :
  ((((w.setCell ⟨b,0,none⟩ v0).setCell ⟨b,1,none⟩ v1).setCell ⟨b,2,none⟩ v2).setCell ⟨b,3,none⟩ v3).heap[b]?=some (.cells #[v0,v1,v2,v3] t (0,0)):=by
 have h0:(w.setCell ⟨b,0,none⟩ v0).heap[b]?=some (.cells #[v0,o1,o2,o3] t (0,0)):=heap_setCell_same _ b 0 _ t _ k;generalize w.setCell ⟨b,0,none⟩ v0=w0 at *;have h1:(w0.setCell ⟨b,1,none⟩ v1).heap[b]?=some (.cells #[v0,v1,o2,o3] t (0,0)):=heap_setCell_same _ b 1 _ t _ h0;generalize w0.setCell ⟨b,1,none⟩ v1=w1 at *;have h2:(w1.setCell ⟨b,2,none⟩ v2).heap[b]?=some (.cells #[v0,v1,v2,o3] t (0,0)):=heap_setCell_same _ b 2 _ t _ h1;generalize w1.setCell ⟨b,2,none⟩ v2=w2 at *;exact heap_setCell_same _ b 3 _ t _ h2
theorem qnq {fn:Func} {n:Nat} (hf:fn.results=#[.cell n 189]) (tmps:Array Value) (b:Nat) (w:World) (v0 v1 v2 v3:Value)
  (h2:tmps[n]?=some (.pointer (some ⟨b,0,none⟩))) (hk:w.heap[b]?=some (.cells #[v0,v1,v2,v3] 189 (0,0))) :
  (results fn tmps).run Tryz.prog w=.ok (.agg #[v0,v1,v2,v3]) w:=by
 have a1:=fun i=>cell_of_row w b i _ _ (0,0) hk
 have z0:=a1 0;have z1:=a1 1;have z2:=a1 2;have z3:=a1 3;simp at z0 z1 z2 z3;simp [results,hf,go_sem,h2,z0,z1,z2,z3]
theorem qp2 {w:World} {b g i k:Nat} {v:Value} (h:b≠g):(w.setCell ⟨g,k,none⟩ v).cell? ⟨b,i,none⟩=w.cell? ⟨b,i,none⟩:=World.cell?_of_block (heap_setCell_other w ⟨g,k,none⟩ b v h)
theorem qkb (tb:Tb) (v:Ts) (w:World) (h:TbAt w tb v) (hr:RoomOK tb):Calls Tryz.prog 144 #[.agg (tbC tb v)] w fun e w'=>e=.returned (.agg (rmC tb))∧qB w w':=by
 have hb:qB w ((w.alloc (.cells (tbC tb v) 32)).alloc (.cells #[I 0,I 0,I 0,I 0] 189)):=(qa0 w _).trans ((qa0 _ _).mono (by simp));have hV0:((w.alloc (.cells (tbC tb v) 32)).alloc (.cells #[I 0,I 0,I 0,I 0] 189)).heap[w.heap.size]?=some (.cells (tbC tb v) 32):=by
  rw [heap_alloc_old _ _ (by simp)];exact heap_alloc_new w _
 have hR0:((w.alloc (.cells (tbC tb v) 32)).alloc (.cells #[I 0,I 0,I 0,I 0] 189)).heap[w.heap.size+1]?=some (.cells #[I 0,I 0,I 0,I 0] 189):=by
  have:=heap_alloc_new (w.alloc (.cells (tbC tb v) 32)) (.cells #[I 0,I 0,I 0,I 0] 189);rw [World.size_alloc] at this;exact this
 have hT0:=h.below hb;have HB0:Hid (qB w ((w.alloc (.cells (tbC tb v) 32)).alloc (.cells #[I 0,I 0,I 0,I 0] 189))):=hb;have hgn:v.g.n=tb.rings.length:=h.g.n;have hin:v.i.n=tb.isrs.length:=h.i.n;have hgm:v.g.n≤9223372036854775807:=by have:=h.g.c;have h2:=h.g.m;unfold maxLen at h2;omega
 have him:v.i.n≤32:=by have:=hr.l;omega
 have HF:Hid (rmC tb=#[I (v.g.n:Int),I ((v.i.n:Int)+4),I ((max 2 (max (qb1 (tb.als.map fun x=>x.ctr)) (qb1 (rcvL tb))):Nat):Int),I (((tb.als.filter fun x=>x.ac.kind==3).length:Int)+((tb.msgs.filter fun x=>x.ac.kind==3).length:Int))]):=by
  show _=_;rw [hgn,hin];unfold rmC qeb;simp
 have HL:Hid (tb.ctrs.length≤16∧tb.als.length≤64∧tb.msgs.length≤64∧tb.isrs.length≤32):=hr.l;clear hgn hin;have hA1:qb1 (tb.als.map fun x=>x.ctr)≤64:=by have:=qjo (tb.als.map fun x=>x.ctr);rw [List.length_map] at this;have:=hr.l;omega
 have hA2:qb1 (rcvL tb)≤64:=by
  have h1:=qjo (rcvL tb);have h2:=List.length_filter_le (fun x:MsR=>x.kind != 1) tb.msgs;have h3:(rcvL tb).length=(tb.msgs.filter fun x=>x.kind != 1).length:=by unfold rcvL;rw [List.length_map]
  have:=hr.l;omega
 have hS1:(tb.als.filter fun x=>x.ac.kind==3).length≤64:=by have:=List.length_filter_le (fun x:AlR=>x.ac.kind==3) tb.als;have:=hr.l;omega
 have hS2:(tb.msgs.filter fun x=>x.ac.kind==3).length≤64:=by have:=List.length_filter_le (fun x:MsR=>x.ac.kind==3) tb.msgs;have:=hr.l;omega
 obtain ⟨Z,hZ⟩:∃Z,Z=rmC tb:=⟨_,rfl⟩
 rw [←hZ] at HF ⊢;clear hZ h hb;have HRk:Hid (RoomOK tb):=hr;have HA12:Hid (qb1 (tb.als.map fun x=>x.ctr)≤64∧qb1 (rcvL tb)≤64∧(tb.als.filter fun x=>x.ac.kind==3).length≤64∧(tb.msgs.filter fun x=>x.ac.kind==3).length≤64):=⟨hA1,hA2,hS1,hS2⟩;clear hr hA1 hA2 hS1 hS2;unfold tbC at *;go_enter Tryz.func144,Tryz.ntmps144
 go_upto_region 1 with fail;generalize ((w.alloc (.cells (qC tb v) 32)).alloc (.cells #[I 0,I 0,I 0,I 0] 189))=W0 at *;have hr:=HRk.out;obtain ⟨hA1,hA2,hS1,hS2⟩:=HA12.out;clear HA12;have kA:∀W,qB W0 W→Calls Tryz.prog 178 #[.slice v.a.a v.a.n v.a.c,.func (.func 179) #[] #[]] W fun e w'=>e=.returned (I (qb1 (tb.als.map fun x=>x.ctr)))∧qB W w':=fun W hW=>
  qno W v.a tb.als (fun W2 hW2=>((hT0.below hW).below hW2).a) 179 #[] (enters_of Tryz.func179 (by kernel_rfl) rfl) (fun x=>x.ctr) tb.ctrs.length hr.a (by have:=hr.l;omega) (by have:=hr.l;omega) (fun W2 hW2 x hx=>qil x W2)
 have kT:∀W,qB W0 W→Calls Tryz.prog 181 #[.slice v.s.a v.s.n v.s.c,.func (.func 182) #[] #[]] W fun e w'=>(∃a c,e=.returned (.slice a (tb.msgs.filter fun x=>x.kind != 1).length c)∧RowsAt w' 8 msrP ⟨a,(tb.msgs.filter fun x=>x.kind != 1).length,c⟩ (tb.msgs.filter fun x=>x.kind != 1))∧qB W w':=fun W hW=>
  qmv W v.s tb.msgs (fun W2 hW2=>((hT0.below hW).below hW2).s) (by have:=hr.l;omega) 182 #[] (enters_of Tryz.func182 (by kernel_rfl) rfl) (fun x=>x.kind != 1) (fun W2 hW2 x hx=>qhl x W2)
 have hfl:(tb.msgs.filter fun x=>x.kind != 1).length≤1048576:=by
  have h1:=List.length_filter_le (fun x:MsR=>x.kind != 1) tb.msgs;have h2:=hr.l.2.2.1;exact Nat.le_trans h1 (Nat.le_trans h2 (by decide))
 have hfp:∀x∈(tb.msgs.filter fun x=>x.kind != 1),0≤x.frm∧x.frm < (tb.msgs.length:Int):=fun x hx=>hr.s x (List.mem_filter.1 hx).1 (by have:=(List.mem_filter.1 hx).2;simpa using this)
 have hfn:tb.msgs.length≤1048576:=Nat.le_trans hr.l.2.2.1 (by decide);have kM:∀W a c,RowsAt W 8 msrP ⟨a,(tb.msgs.filter fun x=>x.kind != 1).length,c⟩ (tb.msgs.filter fun x=>x.kind != 1)→Calls Tryz.prog 180 #[.slice a (tb.msgs.filter fun x=>x.kind != 1).length c,.func (.func 183) #[] #[]] W fun e w'=>e=.returned (I (qb1 (rcvL tb)))∧qB W w':=by
  unfold rcvL;generalize (tb.msgs.filter fun x=>x.kind != 1)=fl at *;intro W a c hrow;exact qnp W ⟨a,fl.length,c⟩ fl (fun W2 hW2=>hrow.below hW2 (fun _ _ _ _ h=>h)) 183 #[] (enters_of Tryz.func183 (by kernel_rfl) rfl) (fun x=>x.frm) tb.msgs.length hfp hfn hfl (fun W2 hW2 x hx=>qjc x W2)
 clear hfl hfp hfn;have kS1:∀W,qB W0 W→Calls Tryz.prog 184 #[.slice v.a.a v.a.n v.a.c,.func (.func 185) #[] #[]] W fun e w'=>e=.returned (I ((tb.als.filter fun x=>x.ac.kind==3).length:Int))∧qB W w':=fun W hW=>by
  have:=qqa W v.a tb.als (fun W2 hW2=>((hT0.below hW).below hW2).a) 185 #[] (enters_of Tryz.func185 (by kernel_rfl) rfl) (fun x=>if x.ac.kind=3 then 1 else 0) (fun W2 hW2 x hx=>qk4 x W2);rw [qf4 (fun x:AlR=>x.ac.kind==3) _ (fun x=>by simp),qem (by omega) (by omega)] at this;exact this
 have kS2:∀W,qB W0 W→Calls Tryz.prog 186 #[.slice v.s.a v.s.n v.s.c,.func (.func 187) #[] #[]] W fun e w'=>e=.returned (I ((tb.msgs.filter fun x=>x.ac.kind==3).length:Int))∧qB W w':=fun W hW=>by
  have:=qqb W v.s tb.msgs (fun W2 hW2=>((hT0.below hW).below hW2).s) 187 #[] (enters_of Tryz.func187 (by kernel_rfl) rfl) (fun x=>if x.ac.kind=3 then 1 else 0) (fun W2 hW2 x hx=>qk5 x W2);rw [qf4 (fun x:MsR=>x.ac.kind==3) _ (fun x=>by simp),qem (by omega) (by omega)] at this;exact this
 generalize qb1 (tb.als.map fun x=>x.ctr)=A1 at *;generalize qb1 (rcvL tb)=A2 at *;generalize (tb.als.filter fun x=>x.ac.kind==3).length=S1 at *;generalize (tb.msgs.filter fun x=>x.ac.kind==3).length=S2 at *;have HS:Hid (∀W,qB W0 W→W.cell? ⟨w.heap.size,3,none⟩=some (.slice v.g.a v.g.n v.g.c)∧W.cell? ⟨w.heap.size,6,none⟩=some (.slice v.a.a v.a.n v.a.c)∧W.cell? ⟨w.heap.size,7,none⟩=some (.slice v.i.a v.i.n v.i.c)∧W.cell? ⟨w.heap.size,8,none⟩=some (.slice v.s.a v.s.n v.s.c)):=fun W hW=>by
  obtain ⟨d0,d1,d2,d3,d4,d5,d6,d7,d8,d9,d10,d11,d12⟩:=qbo ((hW.block w.heap.size (qan hV0)).trans hV0);exact ⟨d3,d6,d7,d8⟩
 have HRR:Hid (∀W,qB W0 W→W.heap[w.heap.size+1]?=some (.cells #[I 0,I 0,I 0,I 0] 189)):=fun W hW=>(hW.block (w.heap.size+1) (qan hR0)).trans hR0
 have b0:qB W0 W0.drew:=(Below.refl _ _).drew;obtain ⟨s3,s6,s7,s8⟩:=HS.out W0 (Below.refl _ _);clear hT0 hr hV0 hR0;have HM:Hid (((max 2 (max A1 A2):Nat):Int)=mx3 2 A1 A2):=by show _=_;unfold mx3;omega
 go_wp2;go_region_held_law (fun w'=>w'.cell? ⟨w.heap.size,3,none⟩=some (.slice v.g.a v.g.n v.g.c)∧w'.cell? ⟨w.heap.size,6,none⟩=some (.slice v.a.a v.a.n v.a.c)∧w'.cell? ⟨w.heap.size,7,none⟩=some (.slice v.i.a v.i.n v.i.c)∧w'.cell? ⟨w.heap.size,8,none⟩=some (.slice v.s.a v.s.n v.s.c))
  (first | with_reducible exact ⟨s3, s6, s7, s8⟩ | with_reducible exact HS.out _ b0 | with_reducible exact m1 | with_reducible exact m2 | with_reducible exact m3 | with_reducible exact m4 | with_reducible exact m5 | (refine ⟨?_, ?_, ?_, ?_⟩ <;> (repeat rw [qp2 (Nat.ne_of_lt (Nat.lt_succ_self w.heap.size))]) <;> first | with_reducible exact m5.1 | with_reducible exact m5.2.1 | with_reducible exact m5.2.2.1 | with_reducible exact m5.2.2.2) | (trace_state; fail "keep"))
  (first
   | (go_at_call 178;refine (kA _ b0).mono ?_;clear kA;rintro e w1 ⟨rfl,q1⟩;have b1:=b0.trans (q1.mono b0.size);have m1:=HS.out w1 b1)
   | (go_at_call 181;refine (kT _ b1).mono ?_;clear kT;rintro e w2 ⟨⟨a2,c2,rfl,r2⟩,q2⟩;have b2:=b1.trans (q2.mono b1.size);have m2:=HS.out w2 b2)
   | (go_at_call 180;refine (kM _ a2 c2 r2).mono ?_;clear kM;rintro e w3 ⟨rfl,q3⟩;have b3:=b2.trans (q3.mono b2.size);have m3:=HS.out w3 b3)
   | (go_at_call 184;refine (kS1 _ b3).mono ?_;clear kS1;rintro e w4 ⟨rfl,q4⟩;have b4:=b3.trans (q4.mono b3.size);have m4:=HS.out w4 b4)
   | (go_at_call 186;refine (kS2 _ b4).mono ?_;clear kS2;rintro e w5 ⟨rfl,q5⟩;have b5:=b4.trans (q5.mono b4.size);have m5:=HS.out w5 b5;have hR5:=HRR.out w5 b5;obtain ⟨n0,n1,n2,n3,f0,f1,f2,f3⟩:=qka hR5;clear hR5))
 all_goals
  have HR:Hid (w5.heap[w.heap.size+1]?=some (.cells #[I 0,I 0,I 0,I 0] 189)):=HRR.out w5 b5;have HBz:Hid (qB w w5):=HB0.out.trans (b5.mono HB0.out.size);clear m1 m2 m3 m4 m5 n0 n1 n2 n3 f0 f1 f2 f3 s3 s6 s7 s8 r2 q1 q2 q3 q4 q5 b0 b1 b2 b3 b4 b5 HRR HS;rename_i hHeld
  clear hHeld;go_wp2;refine bodyPost_ret (qnq Tryz.results144 _ (w.heap.size+1) _ _ _ _ _ rfl (qp1 _ _ _ _ _ _ _ _ _ _ _ HR.out)) rfl ⟨?_,?_⟩
  ·rw [HF.out,HM.out,qem (v:=(v.i.n:Int)+4) (by omega) (by omega),qem (v:=(S1:Int)+S2) (by omega) (by omega)]
  ·exact (((HBz.out.setCell (Nat.le_succ _) _).setCell (Nat.le_succ _) _).setCell (Nat.le_succ _) _).setCell (Nat.le_succ _) _
end Go.Proofs.YtijgopkhdjaolabGreat
namespace Go.Proofs.YtijgopkhdjaolabGreat
open Go.RowKit Go.Shelf Go.Sort
def rmB (tb:Tb):Bool:=qgz tb (max (qb1 (tb.als.map fun x=>x.ctr)) (qb1 (rcvL tb)))
theorem qjp (tb:Tb) (v:Ts) (w:World) (h:TbAt w tb v) (hr:RoomOK tb):Calls Tryz.prog 61 #[.agg (tbC tb v)] w fun e w'=>e=.returned (.bool (rmB tb))∧qB w w':=by
 have hb:=qa0 w (.cells (tbC tb v) 32);have hV0:=heap_alloc_new w (.cells (tbC tb v) 32);have hT0:=h.below hb;have HB0:Hid (qB w (w.alloc (.cells (tbC tb v) 32))):=hb;have hi30:(Tryz.prog.info? 32).map (·.size)=some (tbC tb v).size:=by kernel_rfl
 obtain ⟨p0,p1,p2,p3,hp,hB⟩:∃p0 p1 p2 p3:Int,rmC tb=#[I p0,I p1,I p2,I p3]∧rmB tb=((tb.depth==p0)&&(tb.frames==p1)&&(tb.errors==p2)&&(tb.calls==p3)):=⟨_,_,_,_,rfl,rfl⟩
 obtain ⟨R,hR⟩:∃R,R=rmB tb:=⟨_,rfl⟩
 have HX:Hid (R=((tb.depth==p0)&&(tb.frames==p1)&&(tb.errors==p2)&&(tb.calls==p3))):=hR.trans hB;rw [←hR];have kR:=fun W hW=>qkb tb v W (hT0.below hW) hr
 rw [hp] at kR;clear h hb hB hR hp;go_enter Tryz.func61,Tryz.ntmps61
 unfold tbC at *;go_upto_region 1 with fail;generalize (w.alloc (.cells (qC tb v) 32))=W0 at *;have cR:∀d os,Calls Tryz.prog 144 #[.agg (qC tb v)] (grow (redrawn W0 d) os) fun e w''=>e=.returned (.agg #[I p0,I p1,I p2,I p3])∧∃p:Regrown,w''=grow (redrawn W0 p.d) p.os:=qbl kR
 have hRV:=qcn hV0;have x9:=cell_of_row _ w.heap.size 9 _ _ (0,0) hV0;have x10:=cell_of_row _ w.heap.size 10 _ _ (0,0) hV0;have x11:=cell_of_row _ w.heap.size 11 _ _ (0,0) hV0;have x12:=cell_of_row _ w.heap.size 12 _ _ (0,0) hV0;simp at x9 x10 x11 x12;have y9:=cell_regrown x9;have y10:=cell_regrown x10;have y11:=cell_regrown x11;have y12:=cell_regrown x12;clear kR hT0 hr hV0 x9 x10 x11 x12;by_cases b0:p0=tb.depth
 rotate_left
 ·refine wp_region_quiet_below (by kernel_rfl) (by kernel_rfl) ?_
  repeat (first | (go_big_quiet_step (first | exact cR _ _)) | (refine qai (by kernel_rfl) 32 _ rfl w.heap.size rfl 32 _ (0,0) _ hRV Tryz.underlying32 rfl hi30 ?_;simp only [qN]))
  refine wpQuiet_nil ?_;rintro _ ⟨⟨dq,osq⟩,rfl⟩;dsimp only;have HB9:Hid (qB w (grow (redrawn W0 dq) osq)):=HB0.out.trans ((below_regrown W0 dq osq).mono HB0.out.size);clear cR y9 y10 y11 y12 hRV;generalize grow (redrawn W0 dq) osq=w9 at *;go_wp2;go_ret;exact ⟨qa2 (by rw [HX.out,Bool.eq_iff_iff];simp;try omega),HB9.out⟩
 subst b0;by_cases b1:p1=tb.frames
 rotate_left
 ·refine wp_region_quiet_below (by kernel_rfl) (by kernel_rfl) ?_
  repeat (first | (go_big_quiet_step (first | exact cR _ _)) | (refine qai (by kernel_rfl) 32 _ rfl w.heap.size rfl 32 _ (0,0) _ hRV Tryz.underlying32 rfl hi30 ?_;simp only [qN]))
  refine wpQuiet_nil ?_;rintro _ ⟨⟨dq,osq⟩,rfl⟩;dsimp only;have HB9:Hid (qB w (grow (redrawn W0 dq) osq)):=HB0.out.trans ((below_regrown W0 dq osq).mono HB0.out.size);clear cR y9 y10 y11 y12 hRV;generalize grow (redrawn W0 dq) osq=w9 at *;go_wp2;go_ret;exact ⟨qa2 (by rw [HX.out,Bool.eq_iff_iff];simp;try omega),HB9.out⟩
 subst b1;by_cases b2:p2=tb.errors
 rotate_left
 ·refine wp_region_quiet_below (by kernel_rfl) (by kernel_rfl) ?_
  repeat (first | (go_big_quiet_step (first | exact cR _ _)) | (refine qai (by kernel_rfl) 32 _ rfl w.heap.size rfl 32 _ (0,0) _ hRV Tryz.underlying32 rfl hi30 ?_;simp only [qN]))
  refine wpQuiet_nil ?_;rintro _ ⟨⟨dq,osq⟩,rfl⟩;dsimp only;have HB9:Hid (qB w (grow (redrawn W0 dq) osq)):=HB0.out.trans ((below_regrown W0 dq osq).mono HB0.out.size);clear cR y9 y10 y11 y12 hRV;generalize grow (redrawn W0 dq) osq=w9 at *;go_wp2;go_ret;exact ⟨qa2 (by rw [HX.out,Bool.eq_iff_iff];simp;try omega),HB9.out⟩
 subst b2;by_cases b3:p3=tb.calls
 rotate_left
 ·refine wp_region_quiet_below (by kernel_rfl) (by kernel_rfl) ?_
  repeat (first | (go_big_quiet_step (first | exact cR _ _)) | (refine qai (by kernel_rfl) 32 _ rfl w.heap.size rfl 32 _ (0,0) _ hRV Tryz.underlying32 rfl hi30 ?_;simp only [qN]))
  refine wpQuiet_nil ?_;rintro _ ⟨⟨dq,osq⟩,rfl⟩;dsimp only;have HB9:Hid (qB w (grow (redrawn W0 dq) osq)):=HB0.out.trans ((below_regrown W0 dq osq).mono HB0.out.size);clear cR y9 y10 y11 y12 hRV;generalize grow (redrawn W0 dq) osq=w9 at *;go_wp2;go_ret;exact ⟨qa2 (by rw [HX.out,Bool.eq_iff_iff];simp;try omega),HB9.out⟩
 subst b3;refine wp_region_quiet_below (by kernel_rfl) (by kernel_rfl) ?_;repeat (first | (go_big_quiet_step (first | exact cR _ _)) | (refine qai (by kernel_rfl) 32 _ rfl w.heap.size rfl 32 _ (0,0) _ hRV Tryz.underlying32 rfl hi30 ?_;simp only [qN]))
 refine wpQuiet_nil ?_;rintro _ ⟨⟨dq,osq⟩,rfl⟩;dsimp only;have HB9:Hid (qB w (grow (redrawn W0 dq) osq)):=HB0.out.trans ((below_regrown W0 dq osq).mono HB0.out.size);clear cR y9 y10 y11 y12 hRV;generalize grow (redrawn W0 dq) osq=w9 at *;go_wp2;go_ret;exact ⟨qa2 (by rw [HX.out,Bool.eq_iff_iff];simp;try omega),HB9.out⟩
theorem qjq (y x:IsR) (sy sx:Sl) (X:Nat) (w:World) (hX:w.heap[X]?=some (.cells (isrC x sx) 84)) :
  Calls Tryz.prog 138 #[.agg (isrC y sy),.pointer (some ⟨X,0,none⟩)] w fun e w'=>e=.returned (.bool (qat y x))∧qB w w':=by
 have hb:=qa0 w (.cells (isrC y sy) 84);have hX0:(w.alloc (.cells (isrC y sy) 84)).heap[X]?=some (.cells (isrC x sx) 84):=(hb.block X (qan hX)).trans hX;have hY0:=heap_alloc_new w (.cells (isrC y sy) 84);have ka:=qj4 y x sy sx (w.alloc (.cells (isrC y sy) 84));have hi88:(Tryz.prog.info? 84).map (·.size)=some (isrC x sx).size:=by kernel_rfl
 have hi88':(Tryz.prog.info? 84).map (·.size)=some (isrC y sy).size:=by kernel_rfl
 generalize qat y x=bb at *;clear hX;unfold isrC at *;have a0:=cell_of_row _ X 0 _ _ (0,0) hX0;have a1:=cell_of_row _ X 1 _ _ (0,0) hX0;have a2:=cell_of_row _ X 2 _ _ (0,0) hX0;simp at a0 a1 a2;clear hX0 hY0;go_enter Tryz.func138,Tryz.ntmps138
 go_wp2_with (go_at_call 139;refine ka.mono ?_;clear ka;rintro e w' ⟨rfl,hb2⟩);go_ret;exact ⟨rfl,hb.trans (hb2.mono hb.size)⟩
theorem qp3 (w:World):(sizeOf (Tryz.prog.elem 29)).run Tryz.prog w=.ok 3 w:=by
 have:Tryz.prog.elem 29=84:=by kernel_rfl
 rw [this];have h:(Tryz.prog.info? 84).map (·.size)=some 3:=by kernel_rfl
 cases hq:Tryz.prog.info? 84 with
 | none=>rw [hq] at h;cases h
 | some i=>
  rw [hq] at h;simp at h;simp [sizeOf,typeInfo,hq,h]
theorem qt0 : Tryz.prog.underlying 29=some (.slice (Tryz.prog.elem 29)):=by kernel_rfl
theorem qs2 (g off L c m:Nat) (h:m≤c) (wx:World) :
  (Instr.slice 29 (.slice (some ⟨g,off,none⟩) L c) none (some (I m)) none).run Tryz.prog wx=.ok (.slice (some ⟨g,off,none⟩) m c) wx:=by
 rw [run_slice_h wx 29 _ L c qt0 .i64 (m:Int) (by omega) (by omega),qp3];have e1:((m:Int)).toNat=m:=by omega
 simp only [Result.andThen,sliced,e1,Option.map_some,Nat.zero_mul,Nat.sub_zero];simp [Addr.add]
theorem RowsAt.take {α:Type} {w:World} {k:Nat} {P:α→Nat→Value→Prop} {s:Sl} {l:List α} (h:RowsAt w k P s l) (j:Nat) (hj:j≤s.n):RowsAt w k P ⟨s.a,j,s.c⟩ (l.take j):=by
 refine ⟨by rw [List.length_take];have:=h.n;simp only;omega,Nat.le_trans hj h.c,h.m,fun i x hx=>?_⟩;refine h.row i x ?_;rw [List.getElem?_take] at hx;split at hx
 ·exact hx
 ·cases hx
theorem qkc (tb:Tb) (v:Ts) (w:World) (h:TbAt w tb v):Calls Tryz.prog 59 #[.agg (tbC tb v)] w fun e w'=>e=.returned (.bool (qbs tb [] tb.isrs))∧qB w w':=by
 have hV:=heap_alloc_new w (.cells (tbC tb v) 32);have HB:Hid (qB w (w.alloc (.cells (tbC tb v) 32))):=qa0 w _;have HT:Hid (TbAt (w.alloc (.cells (tbC tb v) 32)) tb v):=h.below HB.out;have HVV:Hid ((w.alloc (.cells (tbC tb v) 32)).heap[w.heap.size]?=some (.cells (tbC tb v) 32)):=hV;obtain ⟨c0,c1,c2,c3,c4,c5,c6,c7,c8,c9,c10,c11,c12⟩:=qbo hV;have HS:Hid (v.i.n=tb.isrs.length):=h.i.n;have hsc:v.i.n≤v.i.c:=h.i.c;have hsm:v.i.c≤maxLen:=h.i.m;unfold maxLen at hsm;have hi30:(Tryz.prog.info? 32).map (·.size)=some (tbC tb v).size:=by kernel_rfl
 obtain ⟨R,hR⟩:∃R,R=qbs tb [] tb.isrs:=⟨_,rfl⟩
 rw [←hR];have HR:Hid (R=qbs tb (tb.isrs.take 0) (tb.isrs.drop 0)):=by show _=_;simpa using hR
 clear hR h hV c0 c1 c2 c3 c4 c5 c6 c8 c9 c10 c11 c12;go_enter Tryz.func59,Tryz.ntmps59
 unfold tbC at *;generalize hW:w.alloc (.cells (qC tb v) 32)=W1 at *;go_upto_region 1 with fail;clear hW;go_wp2;go_loopw [3,4,8] (fun _ _ iv wr=>∃(j:Nat),j≤v.i.n∧iv=.int .i64 j∧Hid (R=qbs tb (tb.isrs.take j) (tb.isrs.drop j)∧qB W1 wr)) (fun _ _ iv _=>v.i.n - (intOf iv).toNat)
 case atStart=>exact ⟨0,by omega,rfl,HR.out,Below.refl _ _⟩
 case round=>
  clear HR;obtain ⟨j,hj,rfl,HJ⟩:=hrel;by_cases hlt:j < v.i.n
  ·have hlt':(j:Int) < v.i.n:=by omega
   obtain ⟨x,hx⟩:∃x,tb.isrs[j]?=some x:=⟨_,List.getElem?_eq_getElem (by rw [←HS.out];exact hlt)⟩
   obtain ⟨g5,o5,s2,e5,hg5,x0,x1,x2,r2⟩:=qdj (HT.out.below HJ.out.2) hx;have HX:Hid (R=(isB tb x&&(tb.isrs.take j).all (fun a=>qat a x)&&qbs tb (tb.isrs.take (j+1)) (tb.isrs.drop (j+1)))):=by
    have h9:=HJ.out.1;rw [qcu hx,qbs] at h9;rw [List.take_add_one,hx];exact h9
   have b0:=HJ.out.2;have bX:qB W1 (wr.alloc (.cells #[I x.cat,I x.prio,.slice s2.a s2.n s2.c] 84)):=b0.trans ((qa0 wr _).mono b0.size);have hXX:=heap_alloc_new wr (.cells #[I x.cat,I x.prio,.slice s2.a s2.n s2.c] 84);have hV0:(wr.alloc (.cells #[I x.cat,I x.prio,.slice s2.a s2.n s2.c] 84)).heap[w.heap.size]?=some (.cells (qC tb v) 32):=(bX.block w.heap.size (qan HVV.out)).trans HVV.out;have r20:=r2.below (qa0 wr (.cells #[I x.cat,I x.prio,.slice s2.a s2.n s2.c] 84)) (fun _ _ _ _ h=>h);have hga:=e5;rw [e5];clear hx HJ b0 r2;go_upto_region 4 with fail;generalize wr.heap.size=X at *;generalize (wr.alloc (.cells #[I x.cat,I x.prio,.slice s2.a s2.n s2.c] 84))=W0 at *;have kf:=qk2 tb v x s2 W0 (HT.out.below bX) r20;unfold tbC isrC at kf;have ke:∀W2,qB W0 W2→Calls Tryz.prog 137 #[.slice (some ⟨g5,o5,none⟩) j v.i.c,.func (.func 138) #[] #[.pointer (some ⟨X,0,none⟩)]] W2 fun e w'=>e=.returned (.bool ((tb.isrs.take j).all (fun a=>qat a x)))∧qB W2 w':=fun W2 hW2=>
    qmt W2 ⟨some ⟨g5,o5,none⟩,j,v.i.c⟩ (tb.isrs.take j) (fun W hW=>by
     have:=((HT.out.below bX).below (hW2.trans (hW.mono hW2.size))).i.take j (by omega);rw [hga] at this;exact this) 138 #[.pointer (some ⟨X,0,none⟩)] (enters_of Tryz.func138 (by kernel_rfl) rfl) (fun a=>qat a x) (fun W hW y hy sy _=>qjq y x sy s2 X W (((hW2.trans (hW.mono hW2.size)).block X (qan hXX)).trans hXX))
   have hsl:=fun wx=>qs2 g5 o5 v.i.n v.i.c j (by omega) wx
   have y0:=cell_of_row _ X 0 _ _ (0,0) hXX;have y1:=cell_of_row _ X 1 _ _ (0,0) hXX;have y2:=cell_of_row _ X 2 _ _ (0,0) hXX;simp at y0 y1 y2;have HV7:Hid (∀W2,qB W0 W2→W2.cell? ⟨w.heap.size,7,none⟩=some (.slice (some ⟨g5,o5,none⟩) v.i.n v.i.c)):=fun W2 hW2=>by
    have h1:=(qbo ((hW2.block w.heap.size (qan hV0)).trans hV0)).2.2.2.2.2.2.2.1;rw [hga] at h1;exact h1
   have HB0:Hid (qB w W0):=HB.out.trans (bX.mono HB.out.size);have HBX:Hid (qB W1 W0):=bX;clear hXX bX r20 e5 hga x0 x1 x2;have hV0':Hid (W0.heap[w.heap.size]?=some (.cells (qC tb v) 32)):=hV0;clear hV0;cases b1:isB tb x with
   | false=>
    rw [b1] at kf HX;go_wp2_with (first
     | (refine wpList_load_row rfl 32 _ rfl w.heap.size rfl 32 _ (0,0) _ hV0'.out Tryz.underlying32 rfl hi30 ?_)
     | (go_at_call 136;refine kf.mono ?_;clear kf;rintro e w2 ⟨rfl,hb2⟩))
    go_ret;exact ⟨qa2 (by rw [HX.out];simp),HB0.out.trans (hb2.mono HB0.out.size)⟩
   | true=>
    rw [b1] at kf HX;cases b2:(tb.isrs.take j).all (fun a=>qat a x) with
    | false=>
     rw [b2] at HX;go_wp2_with (first
      | (refine wpList_load_row rfl 32 _ rfl w.heap.size rfl 32 _ (0,0) _ hV0'.out Tryz.underlying32 rfl hi30 ?_)
      | (go_at_call 136;refine kf.mono ?_;clear kf;rintro e w2 ⟨rfl,hb2⟩;have q7:=HV7.out w2 hb2;have kg:=ke w2 hb2;rw [b2] at kg)
      | (go_at_call 137;refine kg.mono ?_;clear kg;rintro e w3 ⟨rfl,hb3⟩))
     go_ret;exact ⟨qa2 (by rw [HX.out];simp),HB0.out.trans ((hb2.trans (hb3.mono hb2.size)).mono HB0.out.size)⟩
    | true=>
     rw [b2] at HX;go_wp2_with (first
      | (refine wpList_load_row rfl 32 _ rfl w.heap.size rfl 32 _ (0,0) _ hV0'.out Tryz.underlying32 rfl hi30 ?_)
      | (go_at_call 136;refine kf.mono ?_;clear kf;rintro e w2 ⟨rfl,hb2⟩;have q7:=HV7.out w2 hb2;have kg:=ke w2 hb2;rw [b2] at kg)
      | (go_at_call 137;refine kg.mono ?_;clear kg;rintro e w3 ⟨rfl,hb3⟩))
     go_roundw
     case rel=>exact ⟨j+1,by omega,by go_num,by rw [HX.out];simp,HBX.out.trans ((hb2.trans (hb3.mono hb2.size)).mono HBX.out.size)⟩
     case measure=>simp [intOf];omega
  ·obtain rfl:j=v.i.n:=by omega
   have hlt':¬((v.i.n:Nat):Int) < (v.i.n:Nat):=by omega
   have HE:Hid (R=true):=by
    have:=HJ.out.1;rw [List.drop_eq_nil_of_le (by rw [HS.out];exact Nat.le_refl _),qbs] at this;exact this
   have HB9:Hid (qB w wr):=HB.out.trans (HJ.out.2.mono HB.out.size);clear HJ;go_wp2;go_ret;exact ⟨qa2 HE.out.symm,HB9.out⟩
theorem qm5 (w:World) (s:Sl) (l:List Int) (h:RowsAt w 1 intP s l) (p:Int):Calls Tryz.prog 193 #[.slice s.a s.n s.c,I p] w fun e w'=>(∃i:Int,e=.returned (I i)∧decide (0≤i)=l.any (fun x=>x==p))∧w=w':=by
 have HS:Hid (s.n=l.length):=h.n;have hsc:s.n≤s.c:=h.c;have hsm:s.c≤maxLen:=h.m;unfold maxLen at hsm;have HH:Hid (RowsAt w 1 intP s l):=h;obtain ⟨R,hR⟩:∃R,R=l.any (fun x=>x==p):=⟨_,rfl⟩
 rw [←hR];have HR:Hid (R=l.any (fun x=>x==p)):=hR;clear h hR;go_enter Tryz.func193,Tryz.ntmps193
 go_wp2;go_loopw [5,8] (fun _ iv wr=>∃j:Nat,j≤s.n∧iv=.int .i64 j∧Hid (w=wr∧(l.take j).any (fun x=>x==p)=false)) (fun _ iv _=>s.n - (intOf iv).toNat)
 case atStart=>exact ⟨0,by omega,rfl,rfl,by simp⟩
 case round=>
  obtain ⟨j,hj,rfl,HJ⟩:=hrel;obtain rfl:=HJ.out.1;by_cases hlt:j < s.n
  ·have hlt':(j:Int) < s.n:=by omega
   obtain ⟨x,hx⟩:∃x,l[j]?=some x:=⟨_,List.getElem?_eq_getElem (by rw [←HS.out];exact hlt)⟩
   obtain ⟨g5,o5,e5,hg5,b5⟩:=qe2 HH.out hx;have HT:Hid ((x==p)=true→R=true):=fun ht=>by
    rw [HR.out,List.any_eq_true];exact ⟨x,List.mem_of_getElem? hx,ht⟩
   have HA:Hid ((x==p)=false→(l.take (j+1)).any (fun x=>x==p)=false):=fun ht=>by
    rw [List.take_add_one,hx,Option.toList_some,List.any_append,HJ.out.2];simp [ht]
   rw [e5];clear hx e5 HJ;by_cases he:p=x
   ·subst he
    have HE:Hid (R=true):=HT.out (by simp);clear HT HA;go_wp2;go_ret;exact ⟨⟨j,rfl,by rw [HE.out];simp⟩,rfl⟩
   ·have he1:(p==x)=false:=by simpa using he
    have HA2:Hid ((l.take (j+1)).any (fun x=>x==p)=false):=HA.out (by simp;omega);clear HT HA he;go_wp2;go_roundw
    case rel=>exact ⟨j+1,by omega,by go_num,trivial,HA2.out⟩
    case measure=>simp [intOf];omega
  ·obtain rfl:j=s.n:=by omega
   have hlt':¬((s.n:Nat):Int) < (s.n:Nat):=by omega
   have HE:Hid (R=false):=by
    show _=_;rw [HR.out];have:=HJ.out.2;rwa [List.take_of_length_le (by rw [HS.out];exact Nat.le_refl _)] at this
   clear HR HJ;go_wp2;go_ret;exact ⟨⟨-1,rfl,by rw [HE.out];rfl⟩,rfl⟩
theorem qim (w:World) (s:Sl) (l:List Int) (h:RowsAt w 1 intP s l) (p:Int):Calls Tryz.prog 176 #[.slice s.a s.n s.c,I p] w fun e w'=>e=.returned (.bool (l.any (fun x=>x==p)))∧w=w':=by
 have k:=qm5 w s l h p;obtain ⟨R,hR⟩:∃R,R=l.any (fun x=>x==p):=⟨_,rfl⟩
 rw [←hR] at k ⊢;clear h hR;go_enter Tryz.func176,Tryz.ntmps176
 go_wp2_with (go_at_call 193;refine k.mono ?_;clear k;rintro e w' ⟨⟨i,rfl,hi⟩,rfl⟩);go_ret;exact ⟨rfl,rfl⟩
theorem qqq (w:World):RowsAt (w.alloc (.cells #[I 1,I 2,I 4,I 8] 3)) 1 intP ⟨some ⟨w.heap.size,0,none⟩,4,4⟩ [1,2,4,8]:=by
 refine ⟨rfl,Nat.le_refl _,(by show 4≤maxLen;unfold maxLen;decide),fun j x hj=>⟨w.heap.size,0,rfl,by simp,fun i hi=>?_⟩⟩;obtain rfl:i=0:=by omega
 refine ⟨I x,?_,?_⟩
 ·rw [qcr (heap_alloc_new w _)]
  match j,hj with
  | 0,h=>cases h;rfl
  | 1,h=>cases h;rfl
  | 2,h=>cases h;rfl
  | 3,h=>cases h;rfl
 ·first | rfl | exact rfl | trivial
theorem qin (x:MsR) (w:World):Calls Tryz.prog 141 #[.agg (msrC x)] w fun e w'=>e=.returned (.bool (fldB x))∧qB w w':=by
 have hb:∀o,qB w (w.alloc o):=fun o=>qa0 w o
 have hb4:∀o q,qB w ((w.alloc o).alloc q):=fun o q=>(hb o).trans ((qa0 _ _).mono (hb o).size)
 have kc:∀o,Calls Tryz.prog 176 #[.slice (some ⟨w.heap.size+1,0,none⟩) 4 4,I x.len] ((w.alloc o).alloc (.cells #[I 1,I 2,I 4,I 8] 3)) fun e w'=>e=.returned (.bool ([1,2,4,8].any (fun y=>y==x.len)))∧((w.alloc o).alloc (.cells #[I 1,I 2,I 4,I 8] 3))=w':=fun o=>by
  have:=qim _ _ _ (qqq (w.alloc o)) x.len;rw [World.size_alloc] at this;exact this
 have kq:=qca x.queue 1 16;obtain ⟨R,hR⟩:∃R,R=fldB x:=⟨_,rfl⟩
 rw [←hR];unfold msrC at *;by_cases k1:x.kind=1
 ·have k1':(x.kind==1)=true:=by simpa using k1
  have HX:Hid (R=([1,2,4,8].any (fun y=>y==x.len)&&(x.frm==0)&&((x.init:Int)==0)&&(x.queue==0))):=by
   show _=_;rw [hR];unfold fldB;rw [if_pos k1,Bool.eq_iff_iff];simp;omega
  clear hR k1;generalize [1,2,4,8].any (fun y=>y==x.len)=bb at *;go_enter Tryz.func141,Tryz.ntmps141
  cases bb
  ·go_wp2_with (first | (go_at_call 176;refine (kc _).mono ?_;clear kc;rintro e w' ⟨rfl,rfl⟩))
   go_ret;exact ⟨qa2 (by rw [HX.out];simp),hb4 _ _⟩
  ·cases b2:(x.frm==0)
   ·rw [b2] at HX
    go_wp2_with (first | (go_at_call 176;refine (kc _).mono ?_;clear kc;rintro e w' ⟨rfl,rfl⟩));go_ret;exact ⟨qa2 (by rw [HX.out];simp),hb4 _ _⟩
   ·rw [b2] at HX
    cases b3:((x.init:Int)==0)
    ·rw [b3] at HX
     go_wp2_with (first | (go_at_call 176;refine (kc _).mono ?_;clear kc;rintro e w' ⟨rfl,rfl⟩));go_ret;exact ⟨qa2 (by rw [HX.out];simp),hb4 _ _⟩
    ·rw [b3] at HX
     go_wp2_with (first | (go_at_call 176;refine (kc _).mono ?_;clear kc;rintro e w' ⟨rfl,rfl⟩));go_ret;exact ⟨qa2 (by rw [HX.out];simp),hb4 _ _⟩
 ·have k1':(x.kind==1)=false:=by simpa using k1
  by_cases k2:x.kind=2
  ·have k2':(x.kind==2)=true:=by simpa using k2
   have HX:Hid (R=((x.len==0)&&decide ((x.init:Int)≤4294967295)&&(x.queue==0))):=by
    show _=_;rw [hR];unfold fldB;rw [if_neg k1,if_pos k2,Bool.eq_iff_iff];simp;omega
   clear hR k1 k2 kc;go_enter Tryz.func141,Tryz.ntmps141
   cases b1:(x.len==0)
   ·rw [b1] at HX
    go_wp2_with (first | (go_at_call 117;refine (kq _).mono ?_;clear kq;rintro e w' ⟨rfl,rfl⟩));go_ret;exact ⟨qa2 (by rw [HX.out];simp),hb _⟩
   ·rw [b1] at HX
    by_cases b2:(x.init:Int)≤4294967295
    ·have b2':decide ((x.init:Int)≤4294967295)=true:=by simpa using b2
     rw [b2'] at HX;go_wp2_with (first | (go_at_call 117;refine (kq _).mono ?_;clear kq;rintro e w' ⟨rfl,rfl⟩));go_ret;exact ⟨qa2 (by rw [HX.out];simp),hb _⟩
    ·have b2':decide ((x.init:Int)≤4294967295)=false:=by simpa using b2
     rw [b2'] at HX;go_wp2_with (first | (go_at_call 117;refine (kq _).mono ?_;clear kq;rintro e w' ⟨rfl,rfl⟩));go_ret;exact ⟨qa2 (by rw [HX.out];simp),hb _⟩
  ·have k2':(x.kind==2)=false:=by simpa using k2
   by_cases k3:x.kind=3
   ·have k3':(x.kind==3)=true:=by simpa using k3
    have HX:Hid (R=((x.len==0)&&((x.init:Int)==0)&&inI x.queue 1 16)):=by
     show _=_;rw [hR];unfold fldB;rw [if_neg k1,if_neg k2,if_pos k3,Bool.eq_iff_iff];simp
    clear hR k1 k2 k3 kc;generalize inI x.queue 1 16=bq at *;go_enter Tryz.func141,Tryz.ntmps141
    cases b1:(x.len==0)
    ·rw [b1] at HX
     go_wp2_with (first | (go_at_call 117;refine (kq _).mono ?_;clear kq;rintro e w' ⟨rfl,rfl⟩));go_ret;exact ⟨qa2 (by rw [HX.out];simp),hb _⟩
    ·rw [b1] at HX
     cases b2:((x.init:Int)==0)
     ·rw [b2] at HX
      go_wp2_with (first | (go_at_call 117;refine (kq _).mono ?_;clear kq;rintro e w' ⟨rfl,rfl⟩));go_ret;exact ⟨qa2 (by rw [HX.out];simp),hb _⟩
     ·rw [b2] at HX
      go_wp2_with (first | (go_at_call 117;refine (kq _).mono ?_;clear kq;rintro e w' ⟨rfl,rfl⟩));go_ret;exact ⟨qa2 (by rw [HX.out];simp),hb _⟩
   ·have k3':(x.kind==3)=false:=by simpa using k3
    have HX:Hid (R=false):=by
     show _=_;rw [hR];unfold fldB;rw [if_neg k1,if_neg k2,if_neg k3]
    clear hR k1 k2 k3 kc;go_enter Tryz.func141,Tryz.ntmps141
    go_wp2_with (first | (go_at_call 117;refine (kq _).mono ?_;clear kq;rintro e w' ⟨rfl,rfl⟩));go_ret;exact ⟨qa2 (by rw [HX.out]),hb _⟩
end Go.Proofs.YtijgopkhdjaolabGreat
