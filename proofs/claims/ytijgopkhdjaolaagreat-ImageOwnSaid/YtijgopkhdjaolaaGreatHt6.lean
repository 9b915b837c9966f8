import Derived.Test.YtijgopkhdjaolaaGreatXHt5
namespace Go.Proofs.YtijgopkhdjaolaaGreat
open Go.RowKit Go.Shelf Go.Sort
open Go.Proofs.YtijgopkhdjaolaaGreat.Ob (leB leV qa8 qaj crc Rd RdAll qa9)
set_option linter.unusedSimpArgs false
set_option linter.unusedVariables false
set_option maxHeartbeats 16000000
set_option maxRecDepth 100000
structure SzT (tb:Tb):Prop where
 t:tb.tasks.length * 80≤140737488355328
 g:tb.rings.length * 16≤140737488355328
 r:tb.ress.length * 16≤140737488355328
 k:tb.ctrs.length * 12≤140737488355328
 a:tb.als.length * 48≤140737488355328
 i:tb.isrs.length * 40≤140737488355328
 s:tb.msgs.length * 64≤140737488355328
 ot:∀(j:Nat) (x:TkR),tb.tasks[j]?=some x→x.own.length * 8≤140737488355328
 oi:∀(j:Nat) (x:IsR),tb.isrs[j]?=some x→x.own.length * 8≤140737488355328
abbrev zO : Obj:=.cells qV 30
structure Cy0 (w W:World) (tb:Tb) (v vv:Ts) (X1 X2 X3:Nat):Prop where
 b:qB w W
 o:w.heap.size≤X1∧X1 < X2∧X2 < X3
 h1:W.heap[X1]?=some (.cells (tbC tb v) 30)
 h2:W.heap[X2]?=some zO
 h3:W.heap[X3]?=some (.cells (tbC tb vv) 30)
section
variable {w W W' : World} {tb : Tb} {v vv vv' : Ts} {X1 X2 X3 : Nat}
theorem Cy0.below (h:Cy0 w W tb v vv X1 X2 X3) (hb:qB W W'):Cy0 w W' tb v vv X1 X2 X3:=
 ⟨belT h.b hb,h.o,(hb.block _ (qa5 h.h1)).trans h.h1,(hb.block _ (qa5 h.h2)).trans h.h2,(hb.block _ (qa5 h.h3)).trans h.h3⟩
theorem Cy0.grown {b T k n:Nat} {u:Value} {xs:List Value} (h:Cy0 w W tb v vv X1 X2 X3) (ho:W.ownsRow b T k u n xs) (hT:T≠30) (hbase:w.heap.size≤b) (hg:W.grownBy W' u.ownBlock):Cy0 w W' tb v vv X1 X2 X3:=by
 have key:∀(X:Nat) (cs:Array Value),W.heap[X]?=some (Obj.cells cs 30)→W'.heap[X]?=some (Obj.cells cs 30):=fun X cs hX=>by
  refine (hg.block X (qa5 hX) (fun e=>?_)).trans hX
  rcases ho.2 with ⟨q,_⟩ | ⟨g1,cap1,cur1,q,_,hh,_⟩
  ·rw [q] at e;cases e
  ·rw [q] at e
   have e3:X=g1:=Option.some.inj e
   rw [←e3,hX] at hh
   injection hh with hh
   injection hh with _ e4
   exact hT e4.symm
 exact ⟨h.b.grown hg h.b.size (fun k e=>Nat.le_trans hbase (ho.lt k e).1),h.o,key _ _ h.h1,key _ _ h.h2,key _ _ h.h3⟩
theorem Cy0.put (h:Cy0 w W tb v vv X1 X2 X3) (j:Nat) (u:Value) (e:(tbC tb vv).setIfInBounds j u=tbC tb vv'):Cy0 w (W.setCell ⟨X3,j,none⟩ u) tb v vv' X1 X2 X3:=by
 have o:=h.o
 refine ⟨qag h.b (by omega),h.o,?_,?_,?_⟩
 ·rw [heap_setCell_other _ _ _ _ (by show X1≠X3;omega)];exact h.h1
 ·rw [heap_setCell_other _ _ _ _ (by show X2≠X3;omega)];exact h.h2
 ·rw [←e];exact heap_setCell_same _ _ j _ _ _ h.h3
end
theorem qo8 {W W':World} {lo b2 k2 m:Nat} {xs:List TkR} {u v:Value} {ys:List Value} (h:VRTk lo W xs u) (h2:W.ownsRow b2 87 k2 v m ys) (hg:W.grownBy W' v.ownBlock):VRTk lo W' xs u:=by
 obtain ⟨sa,sc,cs,rfl,o,x⟩:=h
 refine ⟨sa,sc,cs,rfl,qd6 o h2 (by decide) hg,RwX.mono x (fun x i u h=>?_)⟩
 unfold tkO9 at h ⊢
 split at h <;> first | exact h | exact qc3 h h2 hg (by decide)
theorem qo9 {W W':World} {lo b2 k2 m:Nat} {xs:List RgR} {u v:Value} {ys:List Value} (h:VRRg lo W xs u) (h2:W.ownsRow b2 87 k2 v m ys) (hg:W.grownBy W' v.ownBlock):VRRg lo W' xs u:=by
 obtain ⟨sa,sc,cs,rfl,o,x⟩:=h
 exact ⟨sa,sc,cs,rfl,qd6 o h2 (by decide) hg,x⟩
theorem qoa {W W':World} {lo b2 k2 m:Nat} {xs:List RsR} {u v:Value} {ys:List Value} (h:VRRs lo W xs u) (h2:W.ownsRow b2 87 k2 v m ys) (hg:W.grownBy W' v.ownBlock):VRRs lo W' xs u:=by
 obtain ⟨sa,sc,cs,rfl,o,x⟩:=h
 exact ⟨sa,sc,cs,rfl,qd6 o h2 (by decide) hg,x⟩
theorem qob {W W':World} {lo b2 k2 m:Nat} {xs:List CtR} {u v:Value} {ys:List Value} (h:VRCt lo W xs u) (h2:W.ownsRow b2 87 k2 v m ys) (hg:W.grownBy W' v.ownBlock):VRCt lo W' xs u:=by
 obtain ⟨sa,sc,cs,rfl,o,x⟩:=h
 exact ⟨sa,sc,cs,rfl,qd6 o h2 (by decide) hg,x⟩
theorem qoc {W W':World} {lo b2 k2 m:Nat} {xs:List AlR} {u v:Value} {ys:List Value} (h:VRAl lo W xs u) (h2:W.ownsRow b2 87 k2 v m ys) (hg:W.grownBy W' v.ownBlock):VRAl lo W' xs u:=by
 obtain ⟨sa,sc,cs,rfl,o,x⟩:=h
 exact ⟨sa,sc,cs,rfl,qd6 o h2 (by decide) hg,x⟩
abbrev tkX (x:TkR) (s:Sl):Obj:=.cells #[I x.prio,I x.ring,.bool x.full,I x.limit,.int .u32 (x.mask:Int),I x.inner,.slice s.a s.n s.c,.int .u32 (x.auto:Int)] 61
abbrev isX (x:IsR) (s:Sl):Obj:=.cells #[I x.cat,I x.prio,.slice s.a s.n s.c] 87
theorem qhq (w:World) (tb:Tb) (v:Ts) (h:TbAt w tb v) (hz:SzT tb):Calls Tryz.prog 20 #[.agg (tbC tb v)] w fun e w'=>∃v',e=.returned (.agg (tbC tb v'))∧TbO w' w.heap.size tb v'∧qB w w':=by
 obtain ⟨ii,hii,hi0,hi1,hi2⟩:=info_parts qh5
 obtain ⟨it,hit,ht0,ht1,ht2⟩:=info_parts qj0
 obtain ⟨iRg,hRg0,hRg1,hRg2,hRg3⟩:=info_parts qj1
 obtain ⟨iRs,hRs0,hRs1,hRs2,hRs3⟩:=info_parts qmm
 obtain ⟨iCt,hCt0,hCt1,hCt2,hCt3⟩:=info_parts qmn
 obtain ⟨iAl,hAl0,hAl1,hAl2,hAl3⟩:=info_parts qmo
 obtain ⟨iIs,hIs0,hIs1,hIs2,hIs3⟩:=info_parts qmp
 obtain ⟨iMs,hMs0,hMs1,hMs2,hMs3⟩:=info_parts qmq
 have hb1:=qa0 w (tO tb v)
 have hv1:=heap_alloc_new w (tO tb v)
 have hb2:=qa0 (w.alloc (tO tb v)) (zO)
 have hv2:=heap_alloc_new (w.alloc (tO tb v)) (zO)
 have hb3:=qa0 ((w.alloc (tO tb v)).alloc (zO)) (tO tb v)
 have hv3:=heap_alloc_new ((w.alloc (tO tb v)).alloc (zO)) (tO tb v)
 have e2:(w.alloc (tO tb v)).heap.size=w.heap.size+1:=qi7 _ _
 have e3:((w.alloc (tO tb v)).alloc (zO)).heap.size=w.heap.size+1+1:=by rw [qi7,e2]
 have HC:Hid (Cy0 w (((w.alloc (tO tb v)).alloc (zO)).alloc (tO tb v)) tb v v w.heap.size (w.heap.size+1) (w.heap.size+1+1)):=by
  have q1:=(hb2.block _ (qa5 hv1)).trans hv1
  have q2:=(hb3.block _ (qa5 q1)).trans q1
  have q3:=(hb3.block _ (qa5 hv2)).trans hv2
  rw [e2] at q3
  have q4:=hv3
  rw [e3] at q4
  exact ⟨belT hb1 (belT hb2 hb3),by omega,q2,q3,q4⟩
 obtain ⟨c0,c1,c2,c3,c4,c5,c6,c7,c8,c9,c10,c11,c12⟩:=qca ((hb2.block _ (qa5 hv1)).trans hv1)
 have HT:Hid (∀W,qB w W→TbAt W tb v):=fun W hW=>h.below hW
 have HZ:Hid (SzT tb):=hz
 unfold tbC
 clear hb1 hv1 hb2 hv2 hb3 hv3 e2 e3 h hz
 go_enter Tryz.func20,Tryz.ntmps20
 go_upto_region 2 with fail
 clear c0 c1 c2 c3 c4 c5 c6 c7 c8 c9 c10 c11 c12
 generalize ((w.alloc (.cells (qC tb v) 30)).alloc (.cells qV 30)).alloc (.cells (qC tb v) 30)=w3 at *
 generalize w.heap.size+1+1=X3 at *
 generalize w.heap.size+1=X2 at *
 have f2:=frozen_of_row w3 X3 2 _ _ HC.out.h3
 have d2:w3.cell? ⟨X3,2,none⟩=some (.slice v.t.a v.t.n v.t.c):=by rw [qcr HC.out.h3];rfl
 go_upto_region 3 with fail
 clear f2 d2
 have HL:Hid (∃vv,Cy0 w (w3.setCell ⟨X3,2,none⟩ qZ) tb v vv w.heap.size X2 X3∧vv={ v with t:=⟨none,0,0⟩ }∧VRTk w.heap.size (w3.setCell ⟨X3,2,none⟩ qZ) (tb.tasks.take 0) qZ):=⟨_,HC.out.put 2 _ rfl,rfl,none,0,[],rfl,World.ownsRow_nil _ _ _ _,RwX.nil _ _⟩
 clear HC
 generalize w3.setCell ⟨X3,2,none⟩ (.slice none 0 0)=w4 at *
 have c2:w4.cell? ⟨w.heap.size,2,none⟩=some (.slice v.t.a v.t.n v.t.c):=by obtain ⟨vv,h,-⟩:=HL.out;rw [qcr h.h1];rfl
 go_wp2
 clear c2
 go_loopw [4,5] (fun v4 _ wr=>∃(k:Nat) (va:Option Addr) (vc:Nat),k≤v.t.n∧v4=I k∧Hid (∃vv,Cy0 w wr tb v vv w.heap.size X2 X3∧vv={ v with t:=⟨va,k,vc⟩ }∧VRTk w.heap.size wr (tb.tasks.take k) (.slice va k vc))) (fun v4 _ _=>v.t.n - (intOf v4).toNat)
 case atStart=>exact ⟨0,none,0,by omega,rfl,HL.out⟩
 case round=>
  clear HL
  obtain ⟨k,va,vc,hk,rfl,HJ⟩:=hrel
  obtain ⟨vv,hC,hvv,hV⟩:=HJ.out
  have c2:wr.cell? ⟨w.heap.size,2,none⟩=some (.slice v.t.a v.t.n v.t.c):=by rw [qcr hC.h1];rfl
  have hT:=HT.out wr hC.b
  by_cases hlt:k < v.t.n
  ·have hltI:(k:Int) < v.t.n:=by omega
   have hk1:k < tb.tasks.length:=by rw [←hT.t.n];exact hlt
   have hmx:v.t.n≤maxLen:=Nat.le_trans hT.t.c hT.t.m
   unfold maxLen at hmx
   obtain ⟨x,hx⟩:∃x,tb.tasks[k]?=some x:=⟨_,List.getElem?_eq_getElem hk1⟩
   obtain ⟨g1,o1,s1,e1,hg1,q0,q1,q2,q3,q4,q5,q6,q7,R1⟩:=qcq hT hx
   rw [e1] at c2
   clear e1
   have hsz:=Nat.le_trans (Nat.mul_le_mul_right 80 (show k+1≤tb.tasks.length from hk1)) HZ.out.t
   have hso:=HZ.out.ot k x hx
   have hb5:=qa0 wr (tkX x s1)
   have hv5:=heap_alloc_new wr (tkX x s1)
   have hpp:(wr.alloc (tkX x s1)).cell? ⟨wr.heap.size,6,none⟩=some (.slice s1.a s1.n s1.c):=by rw [qcr hv5];rfl
   have hR:=R1.below hb5 (fun _ _ _ _ h=>h)
   have HK:Hid (k < v.t.n∧qB wr (wr.alloc (tkX x s1))∧(wr.alloc (tkX x s1)).heap[wr.heap.size]?=some (tkX x s1)∧tb.tasks[k]?=some x):=⟨hlt,hb5,hv5,hx⟩
   clear hT hg1 R1 hb5 hv5 hx hC hvv hV hk1
   go_upto_region 7 with fail
   clear q0 q1 q2 q3 q4 q5 q6 q7 c2
   generalize wr.alloc (.cells #[I x.prio,I x.ring,.bool x.full,I x.limit,.int .u32 (x.mask:Int),I x.inner,.slice s1.a s1.n s1.c,.int .u32 (x.auto:Int)] 61)=w5 at *
   go_upto_region 8 with (first | (at_builtin;refine qbl rfl _ (.tmp 23) 40 rfl 3 ii (I 0) 1 8 Tryz.underlying40 hii hi0 hi1 hi2 rfl (by decide) rfl s1 x.own intP rfl hR qj8 hso ?_;intro sa sc cs w6 ho6 hx6 hb6;have hp6:=(hb6.block wr.heap.size (qa5 HK.out.2.2.1)).trans HK.out.2.2.1;have hc6:w6.cell? ⟨wr.heap.size,6,none⟩=some (.slice s1.a s1.n s1.c):=(by rw [qcr hp6];rfl);have hf6:=frozen_of_row w6 wr.heap.size 6 _ _ hp6;have H6:Hid (w6.ownsRow w5.heap.size 3 1 (.slice sa x.own.length sc) x.own.length (x.own.map fun y=>I y)∧qB w5 w6∧w6.heap[wr.heap.size]?=some (tkX x s1)):=⟨(by rw [←qj7 hx6];exact ho6),hb6,hp6⟩;clear ho6 hx6 hb6 hp6 hpp hR))
   clear hc6 hf6
   have H7:Hid ((w6.setCell ⟨wr.heap.size,6,none⟩ (.slice sa x.own.length sc)).heap[wr.heap.size]?=some (tkX x ⟨sa,x.own.length,sc⟩)∧qB wr (w6.setCell ⟨wr.heap.size,6,none⟩ (.slice sa x.own.length sc))∧qbz (w6.setCell ⟨wr.heap.size,6,none⟩ (.slice sa x.own.length sc)) w.heap.size x.own (.slice sa x.own.length sc)):=by
    obtain ⟨y1,y2,y3⟩:=H6.out
    have hb56:=belT HK.out.2.1 y2
    refine ⟨heap_setCell_same _ _ 6 _ _ _ y3,?_,?_⟩
    ·exact qag hb56 (Nat.le_refl _)
    ·refine qak (qay y1 ?_) y3 (by decide)
     obtain ⟨vv,hC,-⟩:=HJ.out
     have z1:=hC.b.size
     have z2:=HK.out.2.1.size
     omega
   clear H6
   generalize w6.setCell ⟨wr.heap.size,6,none⟩ (.slice sa x.own.length sc)=w7 at *
   obtain ⟨vv,hC,hvv,sa0,sc0,cs0,eV,oR,xR⟩:=HJ.out
   have hlk:(tb.tasks.take k).length=k:=by rw [List.length_take];have:=List.getElem?_eq_some_iff.mp HK.out.2.2.2;obtain ⟨h9,-⟩:=this;omega
   rw [hlk] at eV oR
   cases eV
   subst hvv
   have hC7:=hC.below H7.out.2.1
   have c3:w7.cell? ⟨X3,2,none⟩=some (.slice va k vc):=by rw [qcr hC7.h3];rfl
   obtain ⟨p0,p1,p2,p3,p4,p5,p6,p7⟩:w7.cell? ⟨wr.heap.size,0,none⟩=some (I x.prio)∧w7.cell? ⟨wr.heap.size,1,none⟩=some (I x.ring)∧w7.cell? ⟨wr.heap.size,2,none⟩=some (.bool x.full)∧w7.cell? ⟨wr.heap.size,3,none⟩=some (I x.limit)∧w7.cell? ⟨wr.heap.size,4,none⟩=some (.int .u32 (x.mask:Int))∧w7.cell? ⟨wr.heap.size,5,none⟩=some (I x.inner)∧w7.cell? ⟨wr.heap.size,6,none⟩=some (.slice sa x.own.length sc)∧w7.cell? ⟨wr.heap.size,7,none⟩=some (.int .u32 (x.auto:Int)):=by
    refine ⟨?_,?_,?_,?_,?_,?_,?_,?_⟩ <;> (rw [qcr H7.out.1];rfl)
   have o7:=qa2 oR H7.out.2.1
   have hO:=o7.alloc (tkX x ⟨sa,x.own.length,sc⟩)
   have hw7:w.heap.size≤w7.heap.size:=hC7.b.size
   have hsw:w.heap.size≤(w7.alloc (tkX x ⟨sa,x.own.length,sc⟩)).heap.size:=Nat.le_trans hw7 (qa0 w7 _).size
   have hnew:=qb3 w7 #[I x.prio,I x.ring,.bool x.full,I x.limit,.int .u32 (x.mask:Int),I x.inner,.slice sa x.own.length sc,.int .u32 (x.auto:Int)] 61
   have hone:∀u∈(#[I x.prio,I x.ring,.bool x.full,I x.limit,.int .u32 (x.mask:Int),I x.inner,.slice sa x.own.length sc,.int .u32 (x.auto:Int)]:Array Value).toList,u.oneCell'=true:=by
    intro u hu
    simp only [List.mem_cons,List.not_mem_nil,or_false] at hu
    rcases hu with rfl | rfl | rfl | rfl | rfl | rfl | rfl | rfl <;> rfl
   have H8:Hid (Cy0 w (w7.alloc (tkX x ⟨sa,x.own.length,sc⟩)) tb v { v with t:=⟨va,k,vc⟩ } w.heap.size X2 X3∧RwX 8 (tkO9 (w7.alloc (tkX x ⟨sa,x.own.length,sc⟩)) w.heap.size) (tb.tasks.take k) cs0∧qbz (w7.alloc (tkX x ⟨sa,x.own.length,sc⟩)) w.heap.size x.own (.slice sa x.own.length sc)):=⟨hC7.below (qa0 _ _),RwX.mono xR (fun y i u q=>qdt (qdt q H7.out.2.1) (qa0 _ _)),qcg H7.out.2.2 (qa0 _ _)⟩
   clear hC hC7 oR xR o7 hw7 hlk HJ
   go_wp2_with (first | (at_builtin;refine wpList_append_own _ rfl (.tmp 27) (.tmp 29) 22 rfl w.heap.size 61 it _ 8 80 Tryz.underlying22 hit ht0 ht1 ht2 rfl (by decide) _ _ _ rfl hO ⟨w7.heap.size,0,none⟩ 1 1 (#[I x.prio,I x.ring,.bool x.full,I x.limit,.int .u32 (x.mask:Int),I x.inner,.slice sa x.own.length sc,.int .u32 (x.auto:Int)]:Array Value).toList rfl rfl hnew hone (by unfold maxLen;omega) (by omega) hsw ?_;intro v9 w9 ho9 hg9 _;obtain ⟨a9,c9,rfl⟩:=qah ho9;have hC9:=H8.out.1.grown hO (by decide) (Nat.le_refl _) hg9;have c9x:w9.cell? ⟨X3,2,none⟩=some (.slice va k vc):=(by rw [qcr hC9.h3];rfl);have f9x:=frozen_of_row w9 X3 2 _ _ hC9.h3;have H9:Hid (Cy0 w (w9.setCell ⟨X3,2,none⟩ (.slice a9 (k+1) c9)) tb v { v with t:=⟨a9,k+1,c9⟩ } w.heap.size X2 X3∧VRTk w.heap.size (w9.setCell ⟨X3,2,none⟩ (.slice a9 (k+1) c9)) (tb.tasks.take (k+1)) (.slice a9 (k+1) c9)):=(by
     refine ⟨hC9.put 2 _ rfl,qat ?_ hC9.h3⟩
     have hl1:(tb.tasks.take (k+1)).length=k+1:=by rw [List.length_take];have:=List.getElem?_eq_some_iff.mp HK.out.2.2.2;obtain ⟨h9,-⟩:=this;omega
     refine ⟨a9,c9,_,by rw [hl1],by rw [hl1];exact ho9,?_⟩
     rw [qek HK.out.2.2.2]
     refine RwX.snoc (RwX.mono H8.out.2.1 (fun y i u q=>qgf q hO hg9)) x _ rfl (fun i hi=>?_)
     match i,hi with
     | 0,_=>exact ⟨_,rfl,rfl⟩
     | 1,_=>exact ⟨_,rfl,rfl⟩
     | 2,_=>exact ⟨_,rfl,rfl⟩
     | 3,_=>exact ⟨_,rfl,rfl⟩
     | 4,_=>exact ⟨_,rfl,rfl⟩
     | 5,_=>exact ⟨_,rfl,rfl⟩
     | 6,_=>exact ⟨_,rfl,qc3 H8.out.2.2 hO hg9 (by decide)⟩
     | 7,_=>exact ⟨_,rfl,rfl⟩);clear ho9 hg9 hC9 p0 p1 p2 p3 p4 p5 p6 p7 c3 hO hnew hone))
   go_roundw
   case rel=>exact ⟨k+1,a9,c9,by omega,by go_num,⟨_,H9.out.1,rfl,H9.out.2⟩⟩
   case measure=>simp [intOf];omega
  ·obtain rfl:k=v.t.n:=by omega
   have hge:¬((v.t.n:Int) < v.t.n):=by omega
   have HP:Hid (Cy0 w wr tb v (⟨⟨va,v.t.n,vc⟩,v.g,v.r,v.k,v.a,v.i,v.s⟩:Ts) w.heap.size X2 X3∧VRTk w.heap.size wr tb.tasks (.slice va v.t.n vc)):=by
    obtain ⟨vv,hC,hvv,hV⟩:=HJ.out
    subst hvv
    refine ⟨hC,?_⟩
    have hT:=HT.out wr hC.b
    rw [List.take_of_length_le (by rw [hT.t.n];exact Nat.le_refl _)] at hV
    exact hV
   clear HJ hT hC hvv hV
   have cz:wr.cell? ⟨w.heap.size,2,none⟩=some (.slice v.t.a v.t.n v.t.c):=by rw [qcr HP.out.1.h1];rfl
   go_upto_region 9 with fail
   clear cz c2
   have hCRg:=HP.out.1
   have cfRg:wr.cell? ⟨w.heap.size,3,none⟩=some (.slice v.g.a v.g.n v.g.c):=by rw [qcr hCRg.h1];rfl
   have hRRg:=(HT.out _ hCRg.b).g
   go_upto_region 10 with (first | (at_builtin;refine qbl rfl _ (.tmp 33) 23 rfl 63 iRg _ 2 16 Tryz.underlying23 hRg0 hRg1 hRg2 hRg3 rfl (by decide) rfl v.g tb.rings rgrP rfl hRRg qr4 HZ.out.g ?_;intro sRg cRg cs wRg ho hx hb;have hC9:=hCRg.below hb;have cx9:wRg.cell? ⟨X3,3,none⟩=some (.slice v.g.a v.g.n v.g.c):=(by rw [qcr hC9.h3];rfl);have fx9:=frozen_of_row wRg X3 3 _ _ hC9.h3;have HPRg:Hid (Cy0 w (wRg.setCell ⟨X3,3,none⟩ (.slice sRg tb.rings.length cRg)) tb v (⟨⟨va,v.t.n,vc⟩,⟨sRg,tb.rings.length,cRg⟩,v.r,v.k,v.a,v.i,v.s⟩:Ts) w.heap.size X2 X3∧VRTk w.heap.size (wRg.setCell ⟨X3,3,none⟩ (.slice sRg tb.rings.length cRg)) tb.tasks (.slice va v.t.n vc)∧VRRg w.heap.size (wRg.setCell ⟨X3,3,none⟩ (.slice sRg tb.rings.length cRg)) tb.rings (.slice sRg tb.rings.length cRg)):=⟨hC9.put 3 _ rfl,qat (qc8 HP.out.2 hb) hC9.h3,⟨sRg,cRg,cs,rfl,qak (qay ho hCRg.b.size) hC9.h3 (by decide),hx⟩⟩;clear ho hx hb hC9 cfRg hRRg))
   clear cx9 fx9 hCRg HP
   generalize wRg.setCell ⟨X3,3,none⟩ (.slice sRg tb.rings.length cRg)=vRg at *
   have hCRs:=HPRg.out.1
   have cfRs:vRg.cell? ⟨w.heap.size,4,none⟩=some (.slice v.r.a v.r.n v.r.c):=by rw [qcr hCRs.h1];rfl
   have hRRs:=(HT.out _ hCRs.b).r
   go_upto_region 11 with (first | (at_builtin;refine qbl rfl _ (.tmp 37) 24 rfl 78 iRs _ 2 16 Tryz.underlying24 hRs0 hRs1 hRs2 hRs3 rfl (by decide) rfl v.r tb.ress rsrP rfl hRRs qr5 HZ.out.r ?_;intro sRs cRs cs wRs ho hx hb;have hC9:=hCRs.below hb;have cx9:wRs.cell? ⟨X3,4,none⟩=some (.slice v.r.a v.r.n v.r.c):=(by rw [qcr hC9.h3];rfl);have fx9:=frozen_of_row wRs X3 4 _ _ hC9.h3;have HPRs:Hid (Cy0 w (wRs.setCell ⟨X3,4,none⟩ (.slice sRs tb.ress.length cRs)) tb v (⟨⟨va,v.t.n,vc⟩,⟨sRg,tb.rings.length,cRg⟩,⟨sRs,tb.ress.length,cRs⟩,v.k,v.a,v.i,v.s⟩:Ts) w.heap.size X2 X3∧VRTk w.heap.size (wRs.setCell ⟨X3,4,none⟩ (.slice sRs tb.ress.length cRs)) tb.tasks (.slice va v.t.n vc)∧VRRg w.heap.size (wRs.setCell ⟨X3,4,none⟩ (.slice sRs tb.ress.length cRs)) tb.rings (.slice sRg tb.rings.length cRg)∧VRRs w.heap.size (wRs.setCell ⟨X3,4,none⟩ (.slice sRs tb.ress.length cRs)) tb.ress (.slice sRs tb.ress.length cRs)):=⟨hC9.put 4 _ rfl,qat (qc8 HPRg.out.2.1 hb) hC9.h3,qax (qcj HPRg.out.2.2 hb) hC9.h3,⟨sRs,cRs,cs,rfl,qak (qay ho hCRs.b.size) hC9.h3 (by decide),hx⟩⟩;clear ho hx hb hC9 cfRs hRRs))
   clear cx9 fx9 hCRs HPRg
   generalize wRs.setCell ⟨X3,4,none⟩ (.slice sRs tb.ress.length cRs)=vRs at *
   have hCCt:=HPRs.out.1
   have cfCt:vRs.cell? ⟨w.heap.size,5,none⟩=some (.slice v.k.a v.k.n v.k.c):=by rw [qcr hCCt.h1];rfl
   have hRCt:=(HT.out _ hCCt.b).k
   go_upto_region 12 with (first | (at_builtin;refine qbl rfl _ (.tmp 41) 25 rfl 80 iCt _ 3 12 Tryz.underlying25 hCt0 hCt1 hCt2 hCt3 rfl (by decide) rfl v.k tb.ctrs ctrP rfl hRCt qr6 HZ.out.k ?_;intro sCt cCt cs wCt ho hx hb;have hC9:=hCCt.below hb;have cx9:wCt.cell? ⟨X3,5,none⟩=some (.slice v.k.a v.k.n v.k.c):=(by rw [qcr hC9.h3];rfl);have fx9:=frozen_of_row wCt X3 5 _ _ hC9.h3;have HPCt:Hid (Cy0 w (wCt.setCell ⟨X3,5,none⟩ (.slice sCt tb.ctrs.length cCt)) tb v (⟨⟨va,v.t.n,vc⟩,⟨sRg,tb.rings.length,cRg⟩,⟨sRs,tb.ress.length,cRs⟩,⟨sCt,tb.ctrs.length,cCt⟩,v.a,v.i,v.s⟩:Ts) w.heap.size X2 X3∧VRTk w.heap.size (wCt.setCell ⟨X3,5,none⟩ (.slice sCt tb.ctrs.length cCt)) tb.tasks (.slice va v.t.n vc)∧VRRg w.heap.size (wCt.setCell ⟨X3,5,none⟩ (.slice sCt tb.ctrs.length cCt)) tb.rings (.slice sRg tb.rings.length cRg)∧VRRs w.heap.size (wCt.setCell ⟨X3,5,none⟩ (.slice sCt tb.ctrs.length cCt)) tb.ress (.slice sRs tb.ress.length cRs)∧VRCt w.heap.size (wCt.setCell ⟨X3,5,none⟩ (.slice sCt tb.ctrs.length cCt)) tb.ctrs (.slice sCt tb.ctrs.length cCt)):=⟨hC9.put 5 _ rfl,qat (qc8 HPRs.out.2.1 hb) hC9.h3,qax (qcj HPRs.out.2.2.1 hb) hC9.h3,qb0 (qcz HPRs.out.2.2.2 hb) hC9.h3,⟨sCt,cCt,cs,rfl,qak (qay ho hCCt.b.size) hC9.h3 (by decide),hx⟩⟩;clear ho hx hb hC9 cfCt hRCt))
   clear cx9 fx9 hCCt HPRs
   generalize wCt.setCell ⟨X3,5,none⟩ (.slice sCt tb.ctrs.length cCt)=vCt at *
   have hCAl:=HPCt.out.1
   have cfAl:vCt.cell? ⟨w.heap.size,6,none⟩=some (.slice v.a.a v.a.n v.a.c):=by rw [qcr hCAl.h1];rfl
   have hRAl:=(HT.out _ hCAl.b).a
   go_upto_region 13 with (first | (at_builtin;refine qbl rfl _ (.tmp 45) 26 rfl 85 iAl _ 7 48 Tryz.underlying26 hAl0 hAl1 hAl2 hAl3 rfl (by decide) rfl v.a tb.als alrP rfl hRAl qr7 HZ.out.a ?_;intro sAl cAl cs wAl ho hx hb;have hC9:=hCAl.below hb;have cx9:wAl.cell? ⟨X3,6,none⟩=some (.slice v.a.a v.a.n v.a.c):=(by rw [qcr hC9.h3];rfl);have fx9:=frozen_of_row wAl X3 6 _ _ hC9.h3;have HPAl:Hid (Cy0 w (wAl.setCell ⟨X3,6,none⟩ (.slice sAl tb.als.length cAl)) tb v (⟨⟨va,v.t.n,vc⟩,⟨sRg,tb.rings.length,cRg⟩,⟨sRs,tb.ress.length,cRs⟩,⟨sCt,tb.ctrs.length,cCt⟩,⟨sAl,tb.als.length,cAl⟩,v.i,v.s⟩:Ts) w.heap.size X2 X3∧VRTk w.heap.size (wAl.setCell ⟨X3,6,none⟩ (.slice sAl tb.als.length cAl)) tb.tasks (.slice va v.t.n vc)∧VRRg w.heap.size (wAl.setCell ⟨X3,6,none⟩ (.slice sAl tb.als.length cAl)) tb.rings (.slice sRg tb.rings.length cRg)∧VRRs w.heap.size (wAl.setCell ⟨X3,6,none⟩ (.slice sAl tb.als.length cAl)) tb.ress (.slice sRs tb.ress.length cRs)∧VRCt w.heap.size (wAl.setCell ⟨X3,6,none⟩ (.slice sAl tb.als.length cAl)) tb.ctrs (.slice sCt tb.ctrs.length cCt)∧VRAl w.heap.size (wAl.setCell ⟨X3,6,none⟩ (.slice sAl tb.als.length cAl)) tb.als (.slice sAl tb.als.length cAl)):=⟨hC9.put 6 _ rfl,qat (qc8 HPCt.out.2.1 hb) hC9.h3,qax (qcj HPCt.out.2.2.1 hb) hC9.h3,qb0 (qcz HPCt.out.2.2.2.1 hb) hC9.h3,qb5 (qdb HPCt.out.2.2.2.2 hb) hC9.h3,⟨sAl,cAl,cs,rfl,qak (qay ho hCAl.b.size) hC9.h3 (by decide),hx⟩⟩;clear ho hx hb hC9 cfAl hRAl))
   clear cx9 fx9 hCAl HPCt
   generalize wAl.setCell ⟨X3,6,none⟩ (.slice sAl tb.als.length cAl)=vAl at *
   have hCA:=HPAl.out.1
   have cx9:vAl.cell? ⟨X3,7,none⟩=some (.slice v.i.a v.i.n v.i.c):=by rw [qcr hCA.h3];rfl
   have fx9:=frozen_of_row vAl X3 7 _ _ hCA.h3
   have HL2:Hid (∃vv,Cy0 w (vAl.setCell ⟨X3,7,none⟩ qZ) tb v vv w.heap.size X2 X3∧vv=(⟨⟨va,v.t.n,vc⟩,⟨sRg,tb.rings.length,cRg⟩,⟨sRs,tb.ress.length,cRs⟩,⟨sCt,tb.ctrs.length,cCt⟩,⟨sAl,tb.als.length,cAl⟩,⟨none,0,0⟩,v.s⟩:Ts)∧VRIs w.heap.size (vAl.setCell ⟨X3,7,none⟩ qZ) (tb.isrs.take 0) qZ∧VRTk w.heap.size (vAl.setCell ⟨X3,7,none⟩ qZ) tb.tasks (.slice va v.t.n vc)∧VRRg w.heap.size (vAl.setCell ⟨X3,7,none⟩ qZ) tb.rings (.slice sRg tb.rings.length cRg)∧VRRs w.heap.size (vAl.setCell ⟨X3,7,none⟩ qZ) tb.ress (.slice sRs tb.ress.length cRs)∧VRCt w.heap.size (vAl.setCell ⟨X3,7,none⟩ qZ) tb.ctrs (.slice sCt tb.ctrs.length cCt)∧VRAl w.heap.size (vAl.setCell ⟨X3,7,none⟩ qZ) tb.als (.slice sAl tb.als.length cAl)):=⟨_,hCA.put 7 _ rfl,rfl,⟨none,0,[],rfl,World.ownsRow_nil _ _ _ _,RwX.nil _ _⟩,qat HPAl.out.2.1 hCA.h3,qax HPAl.out.2.2.1 hCA.h3,qb0 HPAl.out.2.2.2.1 hCA.h3,qb5 HPAl.out.2.2.2.2.1 hCA.h3,qb7 HPAl.out.2.2.2.2.2 hCA.h3⟩
   clear hCA
   go_upto_region 14 with fail
   clear cx9 fx9 HPAl
   generalize vAl.setCell ⟨X3,7,none⟩ (.slice none 0 0)=u4 at *
   go_wp2
   go_loopw [6,7] (fun v6 _ wr=>∃(k:Nat) (va7:Option Addr) (vc7:Nat),k≤v.i.n∧v6=I k∧Hid (∃vv,Cy0 w wr tb v vv w.heap.size X2 X3∧vv=(⟨⟨va,v.t.n,vc⟩,⟨sRg,tb.rings.length,cRg⟩,⟨sRs,tb.ress.length,cRs⟩,⟨sCt,tb.ctrs.length,cCt⟩,⟨sAl,tb.als.length,cAl⟩,⟨va7,k,vc7⟩,v.s⟩:Ts)∧VRIs w.heap.size wr (tb.isrs.take k) (.slice va7 k vc7)∧VRTk w.heap.size wr tb.tasks (.slice va v.t.n vc)∧VRRg w.heap.size wr tb.rings (.slice sRg tb.rings.length cRg)∧VRRs w.heap.size wr tb.ress (.slice sRs tb.ress.length cRs)∧VRCt w.heap.size wr tb.ctrs (.slice sCt tb.ctrs.length cCt)∧VRAl w.heap.size wr tb.als (.slice sAl tb.als.length cAl))) (fun v6 _ _=>v.i.n - (intOf v6).toNat)
   case atStart=>exact ⟨0,none,0,by omega,rfl,HL2.out⟩
   case round=>
    clear HL2
    obtain ⟨k,va7,vc7,hk,rfl,HJ⟩:=hrel
    obtain ⟨vv,hC,hvv,hV,hcar⟩:=HJ.out
    have c2:wr.cell? ⟨w.heap.size,7,none⟩=some (.slice v.i.a v.i.n v.i.c):=by rw [qcr hC.h1];rfl
    have hT:=HT.out wr hC.b
    by_cases hlt:k < v.i.n
    ·have hltI:(k:Int) < v.i.n:=by omega
     have hk1:k < tb.isrs.length:=by rw [←hT.i.n];exact hlt
     have hmx:v.i.n≤maxLen:=Nat.le_trans hT.i.c hT.i.m
     unfold maxLen at hmx
     obtain ⟨x,hx⟩:∃x,tb.isrs[k]?=some x:=⟨_,List.getElem?_eq_getElem hk1⟩
     obtain ⟨g1,o1,s1,e1,hg1,q0,q1,q2,R1⟩:=qcs hT hx
     rw [e1] at c2
     clear e1
     have hsz:=Nat.le_trans (Nat.mul_le_mul_right 40 (show k+1≤tb.isrs.length from hk1)) HZ.out.i
     have hso:=HZ.out.oi k x hx
     have hb5:=qa0 wr (isX x s1)
     have hv5:=heap_alloc_new wr (isX x s1)
     have hpp:(wr.alloc (isX x s1)).cell? ⟨wr.heap.size,2,none⟩=some (.slice s1.a s1.n s1.c):=by rw [qcr hv5];rfl
     have hR:=R1.below hb5 (fun _ _ _ _ h=>h)
     have HK:Hid (k < v.i.n∧qB wr (wr.alloc (isX x s1))∧(wr.alloc (isX x s1)).heap[wr.heap.size]?=some (isX x s1)∧tb.isrs[k]?=some x):=⟨hlt,hb5,hv5,hx⟩
     clear hT hg1 R1 hb5 hv5 hx hC hvv hV hk1 hcar
     go_upto_region 18 with fail
     clear q0 q1 q2 c2
     generalize wr.alloc (.cells #[I x.cat,I x.prio,.slice s1.a s1.n s1.c] 87)=w5 at *
     go_upto_region 19 with (first | (at_builtin;refine qbl rfl _ (.tmp 62) 40 rfl 3 ii (I 0) 1 8 Tryz.underlying40 hii hi0 hi1 hi2 rfl (by decide) rfl s1 x.own intP rfl hR qj8 hso ?_;intro sa sc cs w6 ho6 hx6 hb6;have hp6:=(hb6.block wr.heap.size (qa5 HK.out.2.2.1)).trans HK.out.2.2.1;have hc6:w6.cell? ⟨wr.heap.size,2,none⟩=some (.slice s1.a s1.n s1.c):=(by rw [qcr hp6];rfl);have hf6:=frozen_of_row w6 wr.heap.size 2 _ _ hp6;have H6:Hid (w6.ownsRow w5.heap.size 3 1 (.slice sa x.own.length sc) x.own.length (x.own.map fun y=>I y)∧qB w5 w6∧w6.heap[wr.heap.size]?=some (isX x s1)):=⟨(by rw [←qj7 hx6];exact ho6),hb6,hp6⟩;clear ho6 hx6 hb6 hp6 hpp hR))
     clear hc6 hf6
     have H7:Hid ((w6.setCell ⟨wr.heap.size,2,none⟩ (.slice sa x.own.length sc)).heap[wr.heap.size]?=some (isX x ⟨sa,x.own.length,sc⟩)∧qB wr (w6.setCell ⟨wr.heap.size,2,none⟩ (.slice sa x.own.length sc))∧qbz (w6.setCell ⟨wr.heap.size,2,none⟩ (.slice sa x.own.length sc)) w.heap.size x.own (.slice sa x.own.length sc)):=by
      obtain ⟨y1,y2,y3⟩:=H6.out
      have hb56:=belT HK.out.2.1 y2
      refine ⟨heap_setCell_same _ _ 2 _ _ _ y3,?_,?_⟩
      ·exact qag hb56 (Nat.le_refl _)
      ·refine qak (qay y1 ?_) y3 (by decide)
       obtain ⟨vv,hC,-⟩:=HJ.out
       have z1:=hC.b.size
       have z2:=HK.out.2.1.size
       omega
     clear H6
     generalize w6.setCell ⟨wr.heap.size,2,none⟩ (.slice sa x.own.length sc)=w7 at *
     obtain ⟨vv,hC,hvv,⟨sa0,sc0,cs0,eV,oR,xR⟩,hcar⟩:=HJ.out
     have hlk:(tb.isrs.take k).length=k:=by rw [List.length_take];have:=List.getElem?_eq_some_iff.mp HK.out.2.2.2;obtain ⟨h9,-⟩:=this;omega
     rw [hlk] at eV oR
     cases eV
     subst hvv
     have hC7:=hC.below H7.out.2.1
     have c3:w7.cell? ⟨X3,7,none⟩=some (.slice va7 k vc7):=by rw [qcr hC7.h3];rfl
     obtain ⟨p0,p1,p2⟩:w7.cell? ⟨wr.heap.size,0,none⟩=some (I x.cat)∧w7.cell? ⟨wr.heap.size,1,none⟩=some (I x.prio)∧w7.cell? ⟨wr.heap.size,2,none⟩=some (.slice sa x.own.length sc):=by
      refine ⟨?_,?_,?_⟩ <;> (rw [qcr H7.out.1];rfl)
     have o7:=qa2 oR H7.out.2.1
     have hO:=o7.alloc (isX x ⟨sa,x.own.length,sc⟩)
     have hw7:w.heap.size≤w7.heap.size:=hC7.b.size
     have hsw:w.heap.size≤(w7.alloc (isX x ⟨sa,x.own.length,sc⟩)).heap.size:=Nat.le_trans hw7 (qa0 w7 _).size
     have hnew:=qb3 w7 #[I x.cat,I x.prio,.slice sa x.own.length sc] 87
     have hone:∀u∈(#[I x.cat,I x.prio,.slice sa x.own.length sc]:Array Value).toList,u.oneCell'=true:=by
      intro u hu
      simp only [List.mem_cons,List.not_mem_nil,or_false] at hu
      rcases hu with rfl | rfl | rfl <;> rfl
     have H8:Hid (Cy0 w (w7.alloc (isX x ⟨sa,x.own.length,sc⟩)) tb v (⟨⟨va,v.t.n,vc⟩,⟨sRg,tb.rings.length,cRg⟩,⟨sRs,tb.ress.length,cRs⟩,⟨sCt,tb.ctrs.length,cCt⟩,⟨sAl,tb.als.length,cAl⟩,⟨va7,k,vc7⟩,v.s⟩:Ts) w.heap.size X2 X3∧RwX 3 (isO9 (w7.alloc (isX x ⟨sa,x.own.length,sc⟩)) w.heap.size) (tb.isrs.take k) cs0∧qbz (w7.alloc (isX x ⟨sa,x.own.length,sc⟩)) w.heap.size x.own (.slice sa x.own.length sc)∧VRTk w.heap.size (w7.alloc (isX x ⟨sa,x.own.length,sc⟩)) tb.tasks (.slice va v.t.n vc)∧VRRg w.heap.size (w7.alloc (isX x ⟨sa,x.own.length,sc⟩)) tb.rings (.slice sRg tb.rings.length cRg)∧VRRs w.heap.size (w7.alloc (isX x ⟨sa,x.own.length,sc⟩)) tb.ress (.slice sRs tb.ress.length cRs)∧VRCt w.heap.size (w7.alloc (isX x ⟨sa,x.own.length,sc⟩)) tb.ctrs (.slice sCt tb.ctrs.length cCt)∧VRAl w.heap.size (w7.alloc (isX x ⟨sa,x.own.length,sc⟩)) tb.als (.slice sAl tb.als.length cAl)):=⟨hC7.below (qa0 _ _),RwX.mono xR (fun y i u q=>qdu (qdu q H7.out.2.1) (qa0 _ _)),qcg H7.out.2.2 (qa0 _ _),qc8 (qc8 hcar.1 H7.out.2.1) (qa0 _ _),qcj (qcj hcar.2.1 H7.out.2.1) (qa0 _ _),qcz (qcz hcar.2.2.1 H7.out.2.1) (qa0 _ _),qdb (qdb hcar.2.2.2.1 H7.out.2.1) (qa0 _ _),qdv (qdv hcar.2.2.2.2 H7.out.2.1) (qa0 _ _)⟩
     clear hC hC7 oR xR o7 hw7 hlk HJ hcar
     go_wp2_with (first | (at_builtin;refine wpList_append_own _ rfl (.tmp 66) (.tmp 68) 27 rfl w.heap.size 87 iIs _ 3 40 Tryz.underlying27 hIs0 hIs1 hIs2 hIs3 rfl (by decide) _ _ _ rfl hO ⟨w7.heap.size,0,none⟩ 1 1 (#[I x.cat,I x.prio,.slice sa x.own.length sc]:Array Value).toList rfl rfl hnew hone (by unfold maxLen;omega) (by omega) hsw ?_;intro v9 w9 ho9 hg9 _;obtain ⟨a9,c9,rfl⟩:=qah ho9;have hC9:=H8.out.1.grown hO (by decide) (Nat.le_refl _) hg9;have c9x:w9.cell? ⟨X3,7,none⟩=some (.slice va7 k vc7):=(by rw [qcr hC9.h3];rfl);have f9x:=frozen_of_row w9 X3 7 _ _ hC9.h3;have H9:Hid (Cy0 w (w9.setCell ⟨X3,7,none⟩ (.slice a9 (k+1) c9)) tb v (⟨⟨va,v.t.n,vc⟩,⟨sRg,tb.rings.length,cRg⟩,⟨sRs,tb.ress.length,cRs⟩,⟨sCt,tb.ctrs.length,cCt⟩,⟨sAl,tb.als.length,cAl⟩,⟨a9,k+1,c9⟩,v.s⟩:Ts) w.heap.size X2 X3∧VRIs w.heap.size (w9.setCell ⟨X3,7,none⟩ (.slice a9 (k+1) c9)) (tb.isrs.take (k+1)) (.slice a9 (k+1) c9)∧VRTk w.heap.size (w9.setCell ⟨X3,7,none⟩ (.slice a9 (k+1) c9)) tb.tasks (.slice va v.t.n vc)∧VRRg w.heap.size (w9.setCell ⟨X3,7,none⟩ (.slice a9 (k+1) c9)) tb.rings (.slice sRg tb.rings.length cRg)∧VRRs w.heap.size (w9.setCell ⟨X3,7,none⟩ (.slice a9 (k+1) c9)) tb.ress (.slice sRs tb.ress.length cRs)∧VRCt w.heap.size (w9.setCell ⟨X3,7,none⟩ (.slice a9 (k+1) c9)) tb.ctrs (.slice sCt tb.ctrs.length cCt)∧VRAl w.heap.size (w9.setCell ⟨X3,7,none⟩ (.slice a9 (k+1) c9)) tb.als (.slice sAl tb.als.length cAl)):=(by
       refine ⟨hC9.put 7 _ rfl,qba ?_ hC9.h3,qat (qo8 H8.out.2.2.2.1 hO hg9) hC9.h3,qax (qo9 H8.out.2.2.2.2.1 hO hg9) hC9.h3,qb0 (qoa H8.out.2.2.2.2.2.1 hO hg9) hC9.h3,qb5 (qob H8.out.2.2.2.2.2.2.1 hO hg9) hC9.h3,qb7 (qoc H8.out.2.2.2.2.2.2.2 hO hg9) hC9.h3⟩
       have hl1:(tb.isrs.take (k+1)).length=k+1:=by rw [List.length_take];have:=List.getElem?_eq_some_iff.mp HK.out.2.2.2;obtain ⟨h9,-⟩:=this;omega
       refine ⟨a9,c9,_,by rw [hl1],by rw [hl1];exact ho9,?_⟩
       rw [qek HK.out.2.2.2]
       refine RwX.snoc (RwX.mono H8.out.2.1 (fun y i u q=>qgg q hO hg9)) x _ rfl (fun i hi=>?_)
       match i,hi with
       | 0,_=>exact ⟨_,rfl,rfl⟩
       | 1,_=>exact ⟨_,rfl,rfl⟩
       | 2,_=>exact ⟨_,rfl,qc3 H8.out.2.2.1 hO hg9 (by decide)⟩);clear ho9 hg9 hC9 p0 p1 p2 c3 hO hnew hone))
     go_roundw
     case rel=>exact ⟨k+1,a9,c9,by omega,by go_num,⟨_,H9.out.1,rfl,H9.out.2⟩⟩
     case measure=>simp [intOf];omega
    ·obtain rfl:k=v.i.n:=by omega
     have hge:¬((v.i.n:Int) < v.i.n):=by omega
     have HPIs:Hid (Cy0 w wr tb v (⟨⟨va,v.t.n,vc⟩,⟨sRg,tb.rings.length,cRg⟩,⟨sRs,tb.ress.length,cRs⟩,⟨sCt,tb.ctrs.length,cCt⟩,⟨sAl,tb.als.length,cAl⟩,⟨va7,v.i.n,vc7⟩,v.s⟩:Ts) w.heap.size X2 X3∧VRIs w.heap.size wr tb.isrs (.slice va7 v.i.n vc7)∧VRTk w.heap.size wr tb.tasks (.slice va v.t.n vc)∧VRRg w.heap.size wr tb.rings (.slice sRg tb.rings.length cRg)∧VRRs w.heap.size wr tb.ress (.slice sRs tb.ress.length cRs)∧VRCt w.heap.size wr tb.ctrs (.slice sCt tb.ctrs.length cCt)∧VRAl w.heap.size wr tb.als (.slice sAl tb.als.length cAl)):=by
      subst hvv
      refine ⟨hC,?_,hcar⟩
      rw [List.take_of_length_le (by rw [hT.i.n];exact Nat.le_refl _)] at hV
      exact hV
     clear HJ hT hC hvv hV hcar
     go_upto_region 20 with fail
     clear c2
     generalize wr=vIs at *
     have hCMs:=HPIs.out.1
     have cfMs:vIs.cell? ⟨w.heap.size,8,none⟩=some (.slice v.s.a v.s.n v.s.c):=by rw [qcr hCMs.h1];rfl
     have hRMs:=(HT.out _ hCMs.b).s
     go_upto_region 21 with (first | (at_builtin;refine qbl rfl _ (.tmp 72) 28 rfl 91 iMs _ 8 64 Tryz.underlying28 hMs0 hMs1 hMs2 hMs3 rfl (by decide) rfl v.s tb.msgs msrP rfl hRMs qr8 HZ.out.s ?_;intro sMs cMs cs wMs ho hx hb;have hC9:=hCMs.below hb;have cx9:wMs.cell? ⟨X3,8,none⟩=some (.slice v.s.a v.s.n v.s.c):=(by rw [qcr hC9.h3];rfl);have fx9:=frozen_of_row wMs X3 8 _ _ hC9.h3;have HPMs:Hid (Cy0 w (wMs.setCell ⟨X3,8,none⟩ (.slice sMs tb.msgs.length cMs)) tb v (⟨⟨va,v.t.n,vc⟩,⟨sRg,tb.rings.length,cRg⟩,⟨sRs,tb.ress.length,cRs⟩,⟨sCt,tb.ctrs.length,cCt⟩,⟨sAl,tb.als.length,cAl⟩,⟨va7,v.i.n,vc7⟩,⟨sMs,tb.msgs.length,cMs⟩⟩:Ts) w.heap.size X2 X3∧VRIs w.heap.size (wMs.setCell ⟨X3,8,none⟩ (.slice sMs tb.msgs.length cMs)) tb.isrs (.slice va7 v.i.n vc7)∧VRTk w.heap.size (wMs.setCell ⟨X3,8,none⟩ (.slice sMs tb.msgs.length cMs)) tb.tasks (.slice va v.t.n vc)∧VRRg w.heap.size (wMs.setCell ⟨X3,8,none⟩ (.slice sMs tb.msgs.length cMs)) tb.rings (.slice sRg tb.rings.length cRg)∧VRRs w.heap.size (wMs.setCell ⟨X3,8,none⟩ (.slice sMs tb.msgs.length cMs)) tb.ress (.slice sRs tb.ress.length cRs)∧VRCt w.heap.size (wMs.setCell ⟨X3,8,none⟩ (.slice sMs tb.msgs.length cMs)) tb.ctrs (.slice sCt tb.ctrs.length cCt)∧VRAl w.heap.size (wMs.setCell ⟨X3,8,none⟩ (.slice sMs tb.msgs.length cMs)) tb.als (.slice sAl tb.als.length cAl)∧VRMs w.heap.size (wMs.setCell ⟨X3,8,none⟩ (.slice sMs tb.msgs.length cMs)) tb.msgs (.slice sMs tb.msgs.length cMs)):=⟨hC9.put 8 _ rfl,qba (qgp HPIs.out.2.1 hb) hC9.h3,qat (qc8 HPIs.out.2.2.1 hb) hC9.h3,qax (qcj HPIs.out.2.2.2.1 hb) hC9.h3,qb0 (qcz HPIs.out.2.2.2.2.1 hb) hC9.h3,qb5 (qdb HPIs.out.2.2.2.2.2.1 hb) hC9.h3,qb7 (qdv HPIs.out.2.2.2.2.2.2 hb) hC9.h3,⟨sMs,cMs,cs,rfl,qak (qay ho hCMs.b.size) hC9.h3 (by decide),hx⟩⟩;clear ho hx hb hC9 cfMs hRMs))
     clear cx9 fx9 hCMs HPIs
     generalize wMs.setCell ⟨X3,8,none⟩ (.slice sMs tb.msgs.length cMs)=vM at *
     have hX3:vM.heap[X3]?=some (.cells #[I tb.uses,I tb.modes,.slice va v.t.n vc,.slice sRg tb.rings.length cRg,.slice sRs tb.ress.length cRs,.slice sCt tb.ctrs.length cCt,.slice sAl tb.als.length cAl,.slice va7 v.i.n vc7,.slice sMs tb.msgs.length cMs,I tb.depth,I tb.frames,I tb.errors,I tb.calls] 30):=HPMs.out.1.h3
     have d0:vM.cell? ⟨X3,0,none⟩=some (I tb.uses):=by rw [qcr hX3];rfl
     have d1:vM.cell? ⟨X3,1,none⟩=some (I tb.modes):=by rw [qcr hX3];rfl
     have d2:vM.cell? ⟨X3,2,none⟩=some (.slice va v.t.n vc):=by rw [qcr hX3];rfl
     have d3:vM.cell? ⟨X3,3,none⟩=some (.slice sRg tb.rings.length cRg):=by rw [qcr hX3];rfl
     have d4:vM.cell? ⟨X3,4,none⟩=some (.slice sRs tb.ress.length cRs):=by rw [qcr hX3];rfl
     have d5:vM.cell? ⟨X3,5,none⟩=some (.slice sCt tb.ctrs.length cCt):=by rw [qcr hX3];rfl
     have d6:vM.cell? ⟨X3,6,none⟩=some (.slice sAl tb.als.length cAl):=by rw [qcr hX3];rfl
     have d7:vM.cell? ⟨X3,7,none⟩=some (.slice va7 v.i.n vc7):=by rw [qcr hX3];rfl
     have d8:vM.cell? ⟨X3,8,none⟩=some (.slice sMs tb.msgs.length cMs):=by rw [qcr hX3];rfl
     have d9:vM.cell? ⟨X3,9,none⟩=some (I tb.depth):=by rw [qcr hX3];rfl
     have d10:vM.cell? ⟨X3,10,none⟩=some (I tb.frames):=by rw [qcr hX3];rfl
     have d11:vM.cell? ⟨X3,11,none⟩=some (I tb.errors):=by rw [qcr hX3];rfl
     have d12:vM.cell? ⟨X3,12,none⟩=some (I tb.calls):=by rw [qcr hX3];rfl
     obtain ⟨⟨kY0,cY0,fY0⟩,⟨kY1,cY1,fY1⟩,⟨kY2,cY2,fY2⟩,⟨kY3,cY3,fY3⟩,⟨kY4,cY4,fY4⟩,⟨kY5,cY5,fY5⟩,⟨kY6,cY6,fY6⟩,⟨kY7,cY7,fY7⟩,⟨kY8,cY8,fY8⟩,⟨kY9,cY9,fY9⟩,⟨kY10,cY10,fY10⟩,⟨kY11,cY11,fY11⟩,⟨kY12,cY12,fY12⟩,hY13⟩:=qdq (I tb.uses) (I tb.modes) (.slice va v.t.n vc) (.slice sRg tb.rings.length cRg) (.slice sRs tb.ress.length cRs) (.slice sCt tb.ctrs.length cCt) (.slice sAl tb.als.length cAl) (.slice va7 v.i.n vc7) (.slice sMs tb.msgs.length cMs) (I tb.depth) (I tb.frames) (I tb.errors) (I tb.calls) HPMs.out.1.h2
     obtain ⟨hCF,q0,q1,q2,q3,q4,q5,q6⟩:=HPMs.out
     have HEnd:=((((((((((((((⟨q1,q2,q3,q4,q5,q0,q6⟩:TbO vM w.heap.size tb (⟨⟨va,v.t.n,vc⟩,⟨sRg,tb.rings.length,cRg⟩,⟨sRs,tb.ress.length,cRs⟩,⟨sCt,tb.ctrs.length,cCt⟩,⟨sAl,tb.als.length,cAl⟩,⟨va7,v.i.n,vc7⟩,⟨sMs,tb.msgs.length,cMs⟩⟩:Ts))).setY (i:=0) (y:=I tb.uses) kY0).setY (i:=1) (y:=I tb.modes) kY1).setY (i:=2) (y:=.slice va v.t.n vc) kY2).setY (i:=3) (y:=.slice sRg tb.rings.length cRg) kY3).setY (i:=4) (y:=.slice sRs tb.ress.length cRs) kY4).setY (i:=5) (y:=.slice sCt tb.ctrs.length cCt) kY5).setY (i:=6) (y:=.slice sAl tb.als.length cAl) kY6).setY (i:=7) (y:=.slice va7 v.i.n vc7) kY7).setY (i:=8) (y:=.slice sMs tb.msgs.length cMs) kY8).setY (i:=9) (y:=I tb.depth) kY9).setY (i:=10) (y:=I tb.frames) kY10).setY (i:=11) (y:=I tb.errors) kY11).setY (i:=12) (y:=I tb.calls) kY12
     have ox:w.heap.size≤X2:=by have:=hCF.o;omega
     have HBel:=qag (v:=(I tb.calls)) (i:=12) (qag (v:=(I tb.errors)) (i:=11) (qag (v:=(I tb.frames)) (i:=10) (qag (v:=(I tb.depth)) (i:=9) (qag (v:=(.slice sMs tb.msgs.length cMs)) (i:=8) (qag (v:=(.slice va7 v.i.n vc7)) (i:=7) (qag (v:=(.slice sAl tb.als.length cAl)) (i:=6) (qag (v:=(.slice sCt tb.ctrs.length cCt)) (i:=5) (qag (v:=(.slice sRs tb.ress.length cRs)) (i:=4) (qag (v:=(.slice sRg tb.rings.length cRg)) (i:=3) (qag (v:=(.slice va v.t.n vc)) (i:=2) (qag (v:=(I tb.modes)) (i:=1) (qag (v:=(I tb.uses)) (i:=0) (hCF.b) ox) ox) ox) ox) ox) ox) ox) ox) ox) ox) ox) ox) ox
     have HE2:Hid _:=HEnd
     have HB2:Hid _:=HBel
     clear HEnd HBel q0 q1 q2 q3 q4 q5 q6 hCF hX3 HPMs ox kY0 kY1 kY2 kY3 kY4 kY5 kY6 kY7 kY8 kY9 kY10 kY11 kY12
     go_wp2
     refine bodyPost_ret (qj2 Tryz.results20 _ X2 _ _ _ _ _ _ _ _ _ _ _ _ _ _ rfl hY13) rfl ?_
     exact ⟨(⟨⟨va,v.t.n,vc⟩,⟨sRg,tb.rings.length,cRg⟩,⟨sRs,tb.ress.length,cRs⟩,⟨sCt,tb.ctrs.length,cCt⟩,⟨sAl,tb.als.length,cAl⟩,⟨va7,v.i.n,vc7⟩,⟨sMs,tb.msgs.length,cMs⟩⟩:Ts),rfl,HE2.out,HB2.out⟩
end Go.Proofs.YtijgopkhdjaolaaGreat
