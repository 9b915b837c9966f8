import Derived.Test.YtijgopkhdjaolaaGreatXHm
import Derived.Test.YtijgopkhdjaolaaGreatHt6
import Derived.Deep.RegionHeldLaw
namespace Go.Proofs.YtijgopkhdjaolaaGreat
open Go.RowKit Go.Shelf Go.Sort
open Go.Proofs.YtijgopkhdjaolaaGreat.Ob (leB leV qa8 qaj crc Rd RdAll qa9)
set_option linter.unusedSimpArgs false
set_option linter.unusedVariables false
set_option maxHeartbeats 16000000
set_option maxRecDepth 100000
structure Kp (Z:Nat→Prop) (w w':World):Prop where
 os:w'.os=w.os
 tape:w'.tape=w.tape
 output:w'.output=w.output
 size:w.heap.size≤w'.heap.size
 block:∀k,Z k→w'.heap[k]?=w.heap[k]?
def Shp (w w':World):Prop:=∀(k:Nat) (cur:Array Value) (e:TypeId) (fz:Nat×Nat),w.heap[k]?=some (.cells cur e fz)→∃cur':Array Value,w'.heap[k]?=some (.cells cur' e fz)∧cur'.size=cur.size
structure Fr (Z:Nat→Prop) (e:TypeId) (w w':World):Prop where
 kp:Kp Z w w'
 shp:Shp w w'
 oth:∀(k:Nat) (cur:Array Value) (t:TypeId) (fz:Nat×Nat),w.heap[k]?=some (.cells cur t fz)→t≠e→w'.heap[k]?=some (.cells cur t fz)
def OE (Z:Nat→Prop) (w:World) (e:TypeId) (k:Nat) (u:Value) (n:Nat):Prop:=(∃ys,w.ownsRow 0 e k u n ys)∧∀g,u.ownBlock=some g→¬Z g
section
variable {Z : Nat → Prop} {e t : TypeId} {w w' w1 : World} {k n : Nat} {u : Value}
theorem Kp.refl : Kp Z w w:=⟨rfl,rfl,rfl,Nat.le_refl _,fun _ _=>rfl⟩
theorem Kp.trans (h:Kp Z w w') (q:Kp Z w' w1):Kp Z w w1:=⟨q.os.trans h.os,q.tape.trans h.tape,q.output.trans h.output,Nat.le_trans h.size q.size,fun k hk=>(q.block k hk).trans (h.block k hk)⟩
theorem Kp.of_below (h:qB w w') (hZ:∀k,Z k→k < w.heap.size):Kp Z w w':=⟨h.os,h.tape,h.output,h.size,fun k hk=>h.block k (hZ k hk)⟩
theorem Fr.alloc (o:Obj) (hZ:∀k,Z k→k < w.heap.size):Fr Z e w (w.alloc o):=
 ⟨⟨rfl,rfl,rfl,by simp,fun k hk=>(qa0 w o).block k (hZ k hk)⟩,fun k cur e fz h=>⟨cur,((qa0 w o).block k (qa5 h)).trans h,rfl⟩,fun k cur t fz h _=>((qa0 w o).block k (qa5 h)).trans h⟩
theorem Fr.trans (h:Fr Z e w w') (q:Fr Z e w' w1):Fr Z e w w1:=
 ⟨h.kp.trans q.kp,fun k cur e fz hk=>by
  obtain ⟨c1,h1,s1⟩:=h.shp k cur e fz hk
  obtain ⟨c2,h2,s2⟩:=q.shp k c1 e fz h1
  exact ⟨c2,h2,s2.trans s1⟩,fun k cur t fz hk ht=>q.oth k cur t fz (h.oth k cur t fz hk ht) ht⟩
theorem Fr.set {g i:Nat} {cur:Array Value} {v:Value} (h:w.heap[g]?=some (.cells cur e (0,0))) (hg:¬Z g):Fr Z e w (w.setCell ⟨g,i,none⟩ v):=by
 refine ⟨⟨rfl,rfl,rfl,?_,fun k hk=>heap_setCell_other _ _ _ _ (fun q=>hg (by rw [←show k=g from q];exact hk))⟩,fun k c e' fz hk=>?_,fun k c t fz hk ht=>?_⟩
 ·simp [World.setCell]
 ·by_cases q:k=g
  ·subst q
   rw [h] at hk
   injection hk with hk
   injection hk with h1 h2 h3
   subst h1 h2 h3
   exact ⟨_,heap_setCell_same w k i cur e v h,by simp⟩
  ·exact ⟨c,(heap_setCell_other _ _ _ _ q).trans hk,rfl⟩
 ·have q:k≠g:=fun q=>by
   subst q
   rw [h] at hk
   injection hk with hk
   injection hk with h1 h2 h3
   exact ht h2.symm
  exact (heap_setCell_other _ _ _ _ q).trans hk
theorem OE.shp (h:OE Z w e k u n) (q:Shp w w'):OE Z w' e k u n:=by
 obtain ⟨⟨ys,h1,h2⟩,h3⟩:=h
 rcases h2 with ⟨r1,r2⟩ | ⟨g,cap,cur,r1,r2,r3,r4,r5,r6,r7⟩
 ·exact ⟨⟨ys,h1,.inl ⟨r1,r2⟩⟩,h3⟩
 ·obtain ⟨c',p1,p2⟩:=q g cur e (0,0) r3
  refine ⟨⟨c'.toList.take (n * k),?_,.inr ⟨g,cap,c',r1,r2,p1,r4,r5,p2.trans r6,rfl⟩⟩,h3⟩
  rw [List.length_take,Array.length_toList,p2,r6]
  exact Nat.min_eq_left (Nat.mul_le_mul_right k r4)
theorem OE.of {b:Nat} {ys:List Value} (h:w.ownsRow b e k u n ys) (hz:∀g,b≤g→g < w.heap.size→¬Z g):OE Z w e k u n:=⟨⟨ys,qay h (Nat.zero_le _)⟩,fun g hg=>hz g (h.lt g hg).1 (h.lt g hg).2⟩
theorem OE.at (h:OE Z w e k u n) {j:Nat} (hj:j < n):∃(g off c:Nat),u=.slice (some ⟨g,off,none⟩) n c∧c≤maxLen∧n≤c∧¬Z g∧(∃cur,w.heap[g]?=some (.cells cur e (0,0)))∧∀i,i < k→(∃x,w.cell? ⟨g,off+j * k+i,none⟩=some x)∧w.frozen? ⟨g,off+j * k+i,none⟩=false∧∀v,Fr Z e w (w.setCell ⟨g,off+j * k+i,none⟩ v):=by
 obtain ⟨⟨ys,h1,h2⟩,h3⟩:=h
 rcases h2 with ⟨r1,r2⟩ | ⟨g,cap,cur,r1,r2,r3,r4,r5,r6,r7⟩
 ·omega
 ·refine ⟨g,0,cap,r1,r5,r4,h3 g (by rw [r1];rfl),⟨cur,r3⟩,fun i hi=>?_⟩
  have hs:0+j * k+i < cur.size:=by
   rw [r6]
   have a1:(j+1) * k≤cap * k:=Nat.mul_le_mul_right k (by omega)
   rw [Nat.add_mul] at a1
   omega
  exact ⟨⟨cur[0+j * k+i],by rw [qcr r3];exact Array.getElem?_eq_getElem hs⟩,frozen_of_row _ _ _ _ _ r3,fun v=>Fr.set r3 (h3 g (by rw [r1];rfl))⟩
end
theorem qjc {P:Program} (w:World) {Z:Nat→Prop} (t ty e:TypeId) (i:TypeInfo) (z:Value) (size bytes:Nat) (ht:P.underlying t=some (.slice e)) (hi:P.info? e=some i) (hz:i.zero=some z)
  (hsize:i.size=size) (hby:i.bytes=bytes) (hzs:z.cells.size=size) (hsz:0 < size) (hZ:∀k,Z k→k < w.heap.size)
  (v:Value) (n:Nat) (hE:OE Z w e size v n)
  (a:Addr) (m c:Nat) (news:List Value) (hl:news.length=m * size) (hnews:∀j u,news[j]?=some u→w.cell? (a.add j)=some u) (h1:∀u∈news,u.oneCell'=true)
  (h63:n+m≤maxLen) (hbytes:(n+m) * bytes≤140737488355328) :
  ∃v' w',(Builtin.append_ #[t,t] ty #[v,.slice (some a) m c]).run P w=.ok v' w'∧OE Z w' e size v' (n+m)∧Fr Z e w w':=by
 subst hsize
 subst hby
 have hsmall:n+m≤9223372036854775807:=by simp only [maxLen] at h63;omega
 obtain ⟨⟨xs,hown⟩,hEZ⟩:=hE
 have hlen:(xs++news).length=(n+m) * i.size:=by rw [List.length_append,hown.1,hl,Nat.add_mul]
 have grown:∀(old:Nat),old < n+m →
   OE Z (w.drew.alloc (.cells (xs.toArray++news.toArray++Builtin.zeroCells z.cells (grownCap w (n+m) old e - (n+m))) e)) e i.size
    (.slice (some ⟨w.heap.size,0,none⟩) (n+m) (grownCap w (n+m) old e)) (n+m) ∧
   Fr Z e w (w.drew.alloc (.cells (xs.toArray++news.toArray++Builtin.zeroCells z.cells (grownCap w (n+m) old e - (n+m))) e)):=by
  intro old ho
  have hge:=grownCap_ge w (n+m) old e
  have hcm:grownCap w (n+m) old e≤maxLen:=grownCap_le_maxLen w (n+m) old e h63
  refine ⟨⟨⟨xs++news,hlen,.inr ⟨w.heap.size,_,_,rfl,Nat.zero_le _,heap_alloc_new w.drew _,hge,hcm,?_,?_⟩⟩,fun g hg=>?_⟩,?_⟩
  ·simp only [Array.size_append,List.size_toArray,size_zeroCells,hzs,hown.1,hl,←Nat.add_mul]
   congr 1
   omega
  ·simp only [Array.toList_append,List.append_assoc]
   rw [←List.append_assoc,←hlen]
   exact List.take_left
  ·have:w.heap.size=g:=Option.some.inj hg
   subst this
   intro q
   exact Nat.lt_irrefl _ (hZ _ q)
  ·have h0:Fr Z e w.drew (w.drew.alloc (.cells (xs.toArray++news.toArray++Builtin.zeroCells z.cells (grownCap w (n+m) old e - (n+m))) e)):=Fr.alloc _ hZ
   exact ⟨⟨h0.kp.os,h0.kp.tape,h0.kp.output,h0.kp.size,h0.kp.block⟩,h0.shp,h0.oth⟩
 rcases hown.2 with ⟨rfl,rfl⟩ | ⟨g,cap,cur,rfl,hbg,hg,hnc,hcm,hcs,htake⟩
 ·have hx:xs=[]:=List.eq_nil_of_length_eq_zero (by simpa using hown.1)
  subst hx
  by_cases hm:m=0
  ·subst hm
   have hn:news=[]:=List.eq_nil_of_length_eq_zero (by simpa using hl)
   subst hn
   refine ⟨qZ,w,?_,⟨⟨[],World.ownsRow_nil w 0 e i.size⟩,fun g hg=>by cases hg⟩,⟨Kp.refl,fun k cur e fz h=>⟨cur,h,rfl⟩,fun k cur t fz h _=>h⟩⟩
   simp [Builtin.append_,run_underlying ht,sizeOf,typeInfo,hi,Builtin.lenOf,Builtin.firstCells,loadCells,loadCellsFrom]
  ·have hr:=run_append_nil (P:=P) w t ty e i z ht hi hz a m c news hl hnews (by omega) (by omega) (by have hb:=hbytes;simp only [Nat.zero_add] at hb;omega)
   have hgr:=grown 0 (by omega)
   simp only [Nat.zero_add,List.nil_append,Array.empty_append] at hgr ⊢
   exact ⟨_,_,hr,hgr.1,hgr.2⟩
 ·by_cases hroom:n+m≤cap
  ·have hfit:n * i.size+news.length≤cur.size:=by rw [hl,hcs,←Nat.add_mul];exact Nat.mul_le_mul_right _ hroom
   have hr:=run_append_room (P:=P) w t ty e i ht hi g n cap cur hg a m c news hl hnews h1 hroom hfit
   have hsz':(cur.toList.take (n * i.size)++news++cur.toList.drop (n * i.size+news.length)).toArray.size=cur.size:=by
    simp only [List.size_toArray,List.length_append,List.length_take,List.length_drop,Array.length_toList]
    omega
   have hZg:¬Z g:=hEZ g rfl
   refine ⟨_,_,hr,⟨⟨xs++news,hlen,.inr ⟨g,cap,_,rfl,hbg,setRow_heap w g cur _ e _ hg,hroom,hcm,hsz'.trans hcs,?_⟩⟩,fun g' hg'=>hEZ g' hg'⟩,⟨⟨rfl,rfl,rfl,by simp,fun k hk=>setRow_other w g k _ (fun q=>hZg (by rw [←q];exact hk))⟩,fun k c t fz hk=>?_,fun k c t fz hk htt=>?_⟩⟩
   ·rw [htake,←hlen]
    exact List.take_left
   ·by_cases q:k=g
    ·subst q
     rw [hg] at hk
     injection hk with hk
     injection hk with p1 p2 p3
     subst p1 p2 p3
     exact ⟨_,setRow_heap w k _ _ _ _ hg,hsz'⟩
    ·exact ⟨c,(setRow_other w g k _ q).trans hk,rfl⟩
   ·have q:k≠g:=fun q=>by
     subst q
     rw [hg] at hk
     injection hk with hk
     injection hk with p1 p2 p3
     exact htt p2.symm
    exact (setRow_other w g k _ q).trans hk
  ·have holds:∀j u,xs[j]?=some u→w.cell? ((⟨g,0,none⟩:Addr).add j)=some u:=hown.cells (g:=g) rfl
   have hr:=run_append_grow (P:=P) w t ty e i z ht hi hz ⟨g,0,none⟩ n cap xs hown.1 holds a m c news hl hnews (by omega) (by omega) (growslice_fits (by omega) hbytes)
   have hgr:=grown cap (by omega)
   exact ⟨_,_,hr,hgr.1,hgr.2⟩
theorem qcp {P:Program} {w:World} {Z:Nat→Prop} {ops:Array Oper} {rest:List Oper} {o:Oper} {a:Act} {Q:Exit→Act→World→Prop} (hgd:o.guard=none) (s x:Operand) (t:TypeId)
  (ho:o.op=.call { callee:=.builtin .append,args:=#[s,x],argTypes:=#[t,t] })
  (e:TypeId) (i:TypeInfo) (z:Value) (size bytes:Nat) (ht:P.underlying t=some (.slice e)) (hi:P.info? e=some i) (hz:i.zero=some z)
  (hsize:i.size=size) (hby:i.bytes=bytes) (hzs:z.cells.size=size) (hsz:0 < size) (hZ:∀k,Z k→k < w.heap.size)
  (v:Value) (n:Nat) (hs:a.eval s=v) (hE:OE Z w e size v n)
  (ad:Addr) (m c:Nat) (news:List Value) (hx:a.eval x=.slice (some ad) m c) (hl:news.length=m * size) (hnews:∀j u,news[j]?=some u→w.cell? (ad.add j)=some u) (h1:∀u∈news,u.oneCell'=true)
  (h63:n+m≤maxLen) (hbytes:(n+m) * bytes≤140737488355328)
  (h:∀v' w',OE Z w' e size v' (n+m)→Fr Z e w w'→wpList P ops Q rest (a.put o.dst v') w'):wpList P ops Q (o :: rest) a w:=
 wpList_plain hgd fun K hK=>by
  obtain ⟨v',w',hr,h2,h3⟩:=qjc (P:=P) w (Z:=Z) t o.type e i z size bytes ht hi hz hsize hby hzs hsz hZ v n hE ad m c news hl hnews h1 h63 hbytes
  unfold Oper.wp execOp
  simp only [ho,resolve,invoke,builtin,Sem.run_bind,Sem.run_pure,Result.andThen_ok,List.map_toArray,List.map_cons,List.map_nil,hs,hx,hr]
  exact hK _ _ (h v' w' h2 h3)
theorem qcn {w w':World} {lo e k n:Nat} {u:Value} {ys:List Value} (h:w.ownsRow lo e k u n ys) (hb:∀g,lo≤g→g < w.heap.size→w'.heap[g]?=w.heap[g]?):w'.ownsRow lo e k u n ys:=by
 refine ⟨h.1,?_⟩
 rcases h.2 with q | ⟨g,cap,cur,q1,q2,q3,q4⟩
 ·exact .inl q
 ·exact .inr ⟨g,cap,cur,q1,q2,(hb g q2 (qa5 q3)).trans q3,q4⟩
theorem qoe {w w':World} {lo:Nat} {xs:List TkR} {u:Value} (h:VRTk lo w xs u) (hb:∀g,lo≤g→g < w.heap.size→w'.heap[g]?=w.heap[g]?):VRTk lo w' xs u:=by
 obtain ⟨sa,sc,cs,rfl,o,x⟩:=h
 refine ⟨sa,sc,cs,rfl,qcn o hb,RwX.mono x (fun x i u h=>?_)⟩
 unfold tkO9 at h ⊢
 split at h <;> first | exact h | exact qcn h hb
theorem qof {w w':World} {lo:Nat} {xs:List RgR} {u:Value} (h:VRRg lo w xs u) (hb:∀g,lo≤g→g < w.heap.size→w'.heap[g]?=w.heap[g]?):VRRg lo w' xs u:=by
 obtain ⟨sa,sc,cs,rfl,o,x⟩:=h
 exact ⟨sa,sc,cs,rfl,qcn o hb,x⟩
theorem qog {w w':World} {lo:Nat} {xs:List RsR} {u:Value} (h:VRRs lo w xs u) (hb:∀g,lo≤g→g < w.heap.size→w'.heap[g]?=w.heap[g]?):VRRs lo w' xs u:=by
 obtain ⟨sa,sc,cs,rfl,o,x⟩:=h
 exact ⟨sa,sc,cs,rfl,qcn o hb,x⟩
theorem qoh {w w':World} {lo:Nat} {xs:List CtR} {u:Value} (h:VRCt lo w xs u) (hb:∀g,lo≤g→g < w.heap.size→w'.heap[g]?=w.heap[g]?):VRCt lo w' xs u:=by
 obtain ⟨sa,sc,cs,rfl,o,x⟩:=h
 exact ⟨sa,sc,cs,rfl,qcn o hb,x⟩
theorem qoi {w w':World} {lo:Nat} {xs:List AlR} {u:Value} (h:VRAl lo w xs u) (hb:∀g,lo≤g→g < w.heap.size→w'.heap[g]?=w.heap[g]?):VRAl lo w' xs u:=by
 obtain ⟨sa,sc,cs,rfl,o,x⟩:=h
 exact ⟨sa,sc,cs,rfl,qcn o hb,x⟩
theorem qoj {w w':World} {lo:Nat} {xs:List IsR} {u:Value} (h:VRIs lo w xs u) (hb:∀g,lo≤g→g < w.heap.size→w'.heap[g]?=w.heap[g]?):VRIs lo w' xs u:=by
 obtain ⟨sa,sc,cs,rfl,o,x⟩:=h
 refine ⟨sa,sc,cs,rfl,qcn o hb,RwX.mono x (fun x i u h=>?_)⟩
 unfold isO9 at h ⊢
 split at h <;> first | exact h | exact qcn h hb
theorem qok {w w':World} {lo:Nat} {xs:List MsR} {u:Value} (h:VRMs lo w xs u) (hb:∀g,lo≤g→g < w.heap.size→w'.heap[g]?=w.heap[g]?):VRMs lo w' xs u:=by
 obtain ⟨sa,sc,cs,rfl,o,x⟩:=h
 exact ⟨sa,sc,cs,rfl,qcn o hb,x⟩
theorem TbO.blk {W W':World} {lo:Nat} {tb:Tb} {v:Ts} (h:TbO W lo tb v) (hb:∀g,lo≤g→g < W.heap.size→W'.heap[g]?=W.heap[g]?):TbO W' lo tb v:=
 ⟨qoe h.t hb,qof h.g hb,qog h.r hb,qoh h.k hb,qoi h.a hb,qoj h.i hb,qok h.s hb⟩
structure JE (Z:Nat→Prop) (w9 W:World) (X8:Nat) (vt:Value) (nt:Nat) (vg:Value) (ng:Nat):Prop where
 z:∀k,Z k→k < W.heap.size
 kp:Kp Z w9 W
 x8:∃c0 c1 c4 c5 c6 c7 c8 c9 c10 c11 c12,W.heap[X8]?=some (.cells #[c0,c1,vt,vg,c4,c5,c6,c7,c8,c9,c10,c11,c12] 30)
 t:OE Z W 61 8 vt nt
 g:OE Z W 63 2 vg ng
def OC (Z:Nat→Prop) (W:World) (vt:Value) (nt:Nat):Prop:=∀g off n c,vt=.slice (some ⟨g,off,none⟩) n c→∀j,j < nt→∃s m c',W.cell? ⟨g,off+j * 8+6,none⟩=some (.slice s m c')∧m≤65536∧OE Z W 3 1 (.slice s m c') m
section
variable {Z : Nat → Prop} {w7 w9 W W' : World} {X8 nt ng lu : Nat} {e : TypeId} {vt vg : Value}
theorem Shp.of_below (h:qB W W'):Shp W W':=fun k cur e fz hk=>⟨cur,(h.block k (qa5 hk)).trans hk,rfl⟩
theorem JE.fr (h:JE Z w9 W X8 vt nt vg ng) (q:Fr Z e W W') (he:30≠e):JE Z w9 W' X8 vt nt vg ng:=by
 obtain ⟨c0,c1,c4,c5,c6,c7,c8,c9,c10,c11,c12,hx⟩:=h.x8
 exact ⟨fun k hk=>Nat.lt_of_lt_of_le (h.z k hk) q.kp.size,h.kp.trans q.kp,⟨c0,c1,c4,c5,c6,c7,c8,c9,c10,c11,c12,q.oth _ _ _ _ hx he⟩,h.t.shp q.shp,h.g.shp q.shp⟩
theorem JE.cells (h:JE Z w9 W X8 vt nt vg ng):W.cell? ⟨X8,2,none⟩=some vt∧W.cell? ⟨X8,3,none⟩=some vg∧W.frozen? ⟨X8,2,none⟩=false∧W.frozen? ⟨X8,3,none⟩=false:=by
 obtain ⟨c0,c1,c4,c5,c6,c7,c8,c9,c10,c11,c12,hx⟩:=h.x8
 exact ⟨by rw [qcr hx];rfl,by rw [qcr hx];rfl,frozen_of_row _ _ _ _ _ hx,frozen_of_row _ _ _ _ _ hx⟩
theorem JE.setG (h:JE Z w9 W X8 vt nt vg ng) (hX:¬Z X8) {vg':Value} {ng':Nat} (hg:OE Z W 63 2 vg' ng'):JE Z w9 (W.setCell ⟨X8,3,none⟩ vg') X8 vt nt vg' ng':=by
 obtain ⟨c0,c1,c4,c5,c6,c7,c8,c9,c10,c11,c12,hx⟩:=h.x8
 have q:Fr Z 30 W (W.setCell ⟨X8,3,none⟩ vg'):=Fr.set hx hX
 exact ⟨fun k hk=>Nat.lt_of_lt_of_le (h.z k hk) q.kp.size,h.kp.trans q.kp,⟨c0,c1,c4,c5,c6,c7,c8,c9,c10,c11,c12,heap_setCell_same _ _ 3 _ _ _ hx⟩,h.t.shp q.shp,hg.shp q.shp⟩
theorem JE.setT (h:JE Z w9 W X8 vt nt vg ng) (hX:¬Z X8) {vt':Value} {nt':Nat} (hg:OE Z W 61 8 vt' nt'):JE Z w9 (W.setCell ⟨X8,2,none⟩ vt') X8 vt' nt' vg ng:=by
 obtain ⟨c0,c1,c4,c5,c6,c7,c8,c9,c10,c11,c12,hx⟩:=h.x8
 have q:Fr Z 30 W (W.setCell ⟨X8,2,none⟩ vt'):=Fr.set hx hX
 exact ⟨fun k hk=>Nat.lt_of_lt_of_le (h.z k hk) q.kp.size,h.kp.trans q.kp,⟨c0,c1,c4,c5,c6,c7,c8,c9,c10,c11,c12,heap_setCell_same _ _ 2 _ _ _ hx⟩,hg.shp q.shp,h.g.shp q.shp⟩
theorem JE.shpX (h:JE Z w9 W X8 vt nt vg ng) (i:Nat) (u:Value):Shp W (W.setCell ⟨X8,i,none⟩ u):=by
 obtain ⟨c0,c1,c4,c5,c6,c7,c8,c9,c10,c11,c12,hx⟩:=h.x8
 exact (Fr.set (Z:=fun _=>False) hx (fun q=>q)).shp
theorem OC.fr (h:OC Z W vt nt) (ht:OE Z W 61 8 vt nt) (q:Fr Z e W W') (he:61≠e):OC Z W' vt nt:=fun g off n c hv j hj=>by
 obtain ⟨s,m,c1,h1,h2,h3⟩:=h g off n c hv j hj
 obtain ⟨g',off',c',e1,-,-,-,⟨cur,hg⟩,-⟩:=ht.at hj
 rw [hv] at e1
 injection e1 with e1 e2 e3
 injection e1 with e1
 injection e1 with e1 e4 e5
 subst e1
 refine ⟨s,m,c1,?_,h2,h3.shp q.shp⟩
 rw [World.cell?_of_block (a:=⟨g,off+j * 8+6,none⟩) ((q.oth _ _ _ _ hg he).trans hg.symm)]
 exact h1
theorem OC.prio {g off n c:Nat} (h:OC Z W (.slice (some ⟨g,off,none⟩) n c) nt) (k:Nat) (u:Value) (q:Shp W (W.setCell ⟨g,off+k * 8,none⟩ u)):OC Z (W.setCell ⟨g,off+k * 8,none⟩ u) (.slice (some ⟨g,off,none⟩) n c) nt:=fun g' off' n' c' hv j hj=>by
 obtain ⟨s,m,c1,h1,h2,h3⟩:=h g' off' n' c' hv j hj
 injection hv with e1 e2 e3
 injection e1 with e1
 injection e1 with e1 e4 e5
 subst e1 e4
 refine ⟨s,m,c1,?_,h2,h3.shp q⟩
 rw [World.cell?_setCell_other _ _ _ _ (by intro e;injection e with e1 e2 e3;omega)]
 exact h1
theorem OC.of {xs:List TkR} (h:VRTk lu w7 xs vt) (hz:∀g,lu≤g→g < w7.heap.size→¬Z g) (hm:∀x∈xs,x.own.length≤65536):OC Z w7 vt xs.length:=fun g off n c hv j hj=>by
 obtain ⟨sa,sc,cs,e,o,x⟩:=h
 rw [e] at hv
 injection hv with e1 e2 e3
 subst e1
 rcases o.2 with ⟨q1,-⟩ | ⟨g',cap,cur,q1,-,q3,-,-,-,q7⟩
 ·cases q1
 ·injection q1 with p1 p2 p3
  injection p1 with p1
  injection p1 with p1 p4 p5
  subst p1 p4
  obtain ⟨u,h1,h2⟩:=x.at' j xs[j] (List.getElem?_eq_getElem hj) 6 (by omega)
  have h2:qbz w7 lu xs[j].own u:=h2
  obtain ⟨a9,c9,rfl⟩:=qah h2
  refine ⟨a9,_,c9,?_,hm _ (List.getElem_mem hj),OE.of h2 hz⟩
  rw [qcr q3,Nat.zero_add]
  rw [←q7,List.getElem?_take] at h1
  split at h1
  ·simpa using h1
  ·cases h1
theorem JE.start {tb:Tb} {vu:Ts} (hZ:∀k,Z k→k < w9.heap.size) (b:qB w7 w9) (hz:∀g,lu≤g→g < w7.heap.size→¬Z g) (hO:TbO w7 lu tb vu) (hX:w7.heap[X8]?=some (tO tb vu)) (hm:∀x∈tb.tasks,x.own.length≤65536) :
  JE Z w9 w9 X8 (.slice vu.t.a vu.t.n vu.t.c) tb.tasks.length (.slice vu.g.a vu.g.n vu.g.c) tb.rings.length∧OC Z w9 (.slice vu.t.a vu.t.n vu.t.c) tb.tasks.length∧vu.t.n=tb.tasks.length∧vu.g.n=tb.rings.length:=by
 have hs:=Shp.of_below b
 have hC:OC Z w7 (.slice vu.t.a vu.t.n vu.t.c) tb.tasks.length:=OC.of hO.t hz hm
 obtain ⟨sa,sc,cs,e,o,x⟩:=hO.t
 obtain ⟨ga,gc,gs,eg,og,xg⟩:=hO.g
 have ht:OE Z w7 61 8 (.slice vu.t.a vu.t.n vu.t.c) tb.tasks.length:=by
  have e':(.slice vu.t.a vu.t.n vu.t.c:Value)=_:=e
  rw [e'];exact OE.of o hz
 have hg:OE Z w7 63 2 (.slice vu.g.a vu.g.n vu.g.c) tb.rings.length:=by
  have e':(.slice vu.g.a vu.g.n vu.g.c:Value)=_:=eg
  rw [e'];exact OE.of og hz
 refine ⟨⟨hZ,Kp.refl,⟨_,_,_,_,_,_,_,_,_,_,_,(b.block _ (qa5 hX)).trans hX⟩,ht.shp hs,hg.shp hs⟩,fun g off n c hv j hj=>?_,?_,?_⟩
 ·obtain ⟨s,m,c1,h1,h2,h3⟩:=hC g off n c hv j hj
  exact ⟨s,m,c1,(World.cell?_of_block (a:=⟨g,off+j * 8+6,none⟩) (b.block g (World.block_lt_of_cell? _ _ h1))).trans h1,h2,h3.shp hs⟩
 ·have e':(.slice vu.t.a vu.t.n vu.t.c:Value)=_:=e
  injection e'
 ·have e':(.slice vu.g.a vu.g.n vu.g.c:Value)=_:=eg
  injection e'
end
end Go.Proofs.YtijgopkhdjaolaaGreat
