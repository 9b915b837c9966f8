import Derived.Test.YtijgopkhdjaolabGreatXHr4
import Derived.Test.YtijgopkhdjaolabGreatXHv1
import Derived.Deep.RegionHeldLaw
import Derived.Deep.DrawnRows
set_option linter.unusedSimpArgs false
set_option linter.unusedVariables false
set_option maxHeartbeats 16000000
set_option maxRecDepth 100000
namespace Go.Proofs.YtijgopkhdjaolabGreat
open Go.RowKit Go.Shelf Go.Sort
open Go.Proofs.YtijgopkhdjaolabGreat.Ob (leB leV qa8 qag crc Rd RdAll qa7 rd_drop)
theorem qej {P:Program} {ops:Array Oper} {o:Oper} {a:Act} {w:World} {K:Act→World→Prop} {Q:Exit→Act→World→Prop} {E:Prop} (hgd:o.guard=none) (s x:Operand) (t:TypeId)
  (ho:o.op=.call { callee:=.builtin .append,args:=#[s,x],argTypes:=#[t,t] })
  (base:Nat) (e:TypeId) (i:TypeInfo) (z:Value) (size bytes:Nat) (ht:P.underlying t=some (.slice e)) (hi:P.info? e=some i) (hz:i.zero=some z)
  (hsize:i.size=size) (hby:i.bytes=bytes) (hzs:z.cells.size=size) (hsz:0 < size)
  (v:Value) (n:Nat) (xs:List Value) (hs:a.eval s=v) (hown:w.ownsRow base e size v n xs)
  (ad:Addr) (m c:Nat) (news:List Value) (hx:a.eval x=.slice (some ad) m c) (hl:news.length=m * size) (hnews:∀j u,news[j]?=some u→w.cell? (ad.add j)=some u) (h1:∀u∈news,u.oneCell'=true)
  (h63:n+m≤maxLen) (hbytes:(n+m) * bytes≤140737488355328) (hbase:base≤w.heap.size)
  (h:∀v' w',w'.ownsRow base e size v' (n+m) (xs++news)→w.grownBy w' v.ownBlock→K (a.put o.dst v') w'):if Region.wanted o (yielded ops a.tmps)=true then Oper.wp P o a w K Q else E:=by
 have hw:Region.wanted o (yielded ops a.tmps)=true:=by simp [Region.wanted,hgd]
 rw [if_pos hw];exact wp_append_own w s x t ho base e i z size bytes ht hi hz hsize hby hzs hsz v n xs hs hown ad m c news hx hl hnews h1 h63 hbytes hbase (fun v' w' h2 h3 _=>h v' w' h2 h3)
structure AI (w W:World) (r:Nat) (s:DS) (X4:Nat) (tb:Tb) (v:Ts):Prop where
 f:DF w W r s
 c:HC w W r X4 32 (tbC tb v)
 o:TbO W w.heap.size tb v
section
variable {w W W' W1 W2 : World} {r X4 : Nat} {s s' : DS} {tb : Tb} {v : Ts}
theorem TbO.gr {lo:Nat} (h:TbO W lo tb v) (hr:r < lo) (hg:W.grownBy W' (some r)):TbO W' lo tb v:=
 ⟨qe5 h.t hr hg,qen h.g hr hg,qf9 h.r hr hg,qga h.k hr hg,qhp h.a hr hg,ql0 h.i hr hg,qqo h.s hr hg⟩
theorem AI.call (h:AI w W r s X4 tb v) (hd:dSt W' r s') (hg:W.grownBy W' (some r)):AI w W' r s' X4 tb v:=⟨h.f.call hd hg,h.c.call h.f.lr hg,h.o.gr h.f.lr hg⟩
theorem AI.below (h:AI w W r s X4 tb v) (hb:qB W W'):AI w W' r s X4 tb v:=⟨h.f.below hb,h.c.below hb,h.o.below hb⟩
theorem AI.cell (h:AI w W r s X4 tb v) (i:Nat) (u:Value) (e:(tbC tb v)[i]?=some u):W.cell? ⟨X4,i,none⟩=some u:=by rw [qcr h.c.2];exact e
theorem AI.ownTk (h:AI w W r s X4 tb v):∃cs,W.ownsRow w.heap.size 71 8 (slT v.t) tb.tasks.length cs∧RwX 8 (tkO9 W w.heap.size) tb.tasks cs:=by
 obtain ⟨sa,sc,cs,e,o,xx⟩:=h.o.t;have e':slT v.t=.slice sa tb.tasks.length sc:=e;exact ⟨cs,by rw [e'];exact o,xx⟩
theorem AI.appTk {W1 W2:World} {u':Value} (h:AI w W1 r s X4 tb v) (x:TkR) (cs news:List Value) (oo:W1.ownsRow w.heap.size 71 8 (slT v.t) tb.tasks.length cs) (xx:RwX 8 (tkO9 W1 w.heap.size) tb.tasks cs) (hg:W1.grownBy W2 (slT v.t).ownBlock)
  (hO2:W2.ownsRow w.heap.size 71 8 u' (tb.tasks.length+1) (cs++news)) (hn:news.length=8)
  (hP:∀i,i < 8→∃y,news[i]?=some y∧(tkO9 W2 w.heap.size) x i y) :
  ∃a c,u'=.slice a (tb.tasks.length+1) c∧W2.cell? ⟨X4,2,none⟩=some (slT v.t)∧W2.frozen? ⟨X4,2,none⟩=false∧AI w (W2.setCell ⟨X4,2,none⟩ u') r s X4 { tb with tasks:=tb.tasks++[x] } { v with t:=⟨a,tb.tasks.length+1,c⟩ }:=by
 obtain ⟨a,c,rfl⟩:=qam hO2;have q:Oth 71 W1 W2:=qcb oo hg;have hX:W2.heap[X4]?=some (.cells (tbC tb v) 32):=q.oth _ _ _ _ h.c.2 (by decide);have hlow:∀b,b < w.heap.size→W2.heap[b]?=W1.heap[b]?:=fun b hb'=>hg.block b (Nat.lt_of_lt_of_le hb' h.f.g.size) (fun e=>by have:=(oo.lt b e.symm).1;omega)
 have hlr:=h.f.lr;have hD:DF w W2 r s:=⟨h.f.d.keep (fun b hb'=>hlow b (by omega)) hg.size,⟨hg.os.trans h.f.g.os,hg.tape.trans h.f.g.tape,hg.output.trans h.f.g.output,Nat.le_trans h.f.g.size hg.size,fun b hb' hne=>(hlow b hb').trans (h.f.g.block b hb' hne)⟩,hlr⟩;refine ⟨a,c,rfl,by rw [qcr hX];rfl,frozen_of_row _ _ _ _ _ hX,hD.set h.c.1,⟨h.c.1,heap_setCell_same _ _ 2 _ _ _ hX⟩,?_⟩;have hz:VRTk w.heap.size W2 (tb.tasks++[x]) (.slice a (tb.tasks.length+1) c):=⟨a,c,cs++news,by simp,by simpa using hO2,RwX.snoc (RwX.mono xx (fun y i u hu=>by unfold tkO9 at hu ⊢;split at hu <;> first | exact hu | exact qcm hu q (by decide))) x news hn hP⟩;exact ⟨qay hz hX,qb2 (qcy h.o.g q (by decide)) hX,qb4 (qcz h.o.r q (by decide)) hX,qb5 (qd0 h.o.k q (by decide)) hX,qb6 (qd1 h.o.a q (by decide)) hX,qbc (qd2 h.o.i q (by decide) (by decide)) hX,qbf (qd3 h.o.s q (by decide)) hX⟩
theorem AI.ownRg (h:AI w W r s X4 tb v):∃cs,W.ownsRow w.heap.size 73 2 (slT v.g) tb.rings.length cs∧RwX 2 rgrP tb.rings cs:=by
 obtain ⟨sa,sc,cs,e,o,xx⟩:=h.o.g;have e':slT v.g=.slice sa tb.rings.length sc:=e;exact ⟨cs,by rw [e'];exact o,xx⟩
theorem AI.appRg {W1 W2:World} {u':Value} (h:AI w W1 r s X4 tb v) (x:RgR) (cs news:List Value) (oo:W1.ownsRow w.heap.size 73 2 (slT v.g) tb.rings.length cs) (xx:RwX 2 rgrP tb.rings cs) (hg:W1.grownBy W2 (slT v.g).ownBlock)
  (hO2:W2.ownsRow w.heap.size 73 2 u' (tb.rings.length+1) (cs++news)) (hn:news.length=2)
  (hP:∀i,i < 2→∃y,news[i]?=some y∧rgrP x i y) :
  ∃a c,u'=.slice a (tb.rings.length+1) c∧W2.cell? ⟨X4,3,none⟩=some (slT v.g)∧W2.frozen? ⟨X4,3,none⟩=false∧AI w (W2.setCell ⟨X4,3,none⟩ u') r s X4 { tb with rings:=tb.rings++[x] } { v with g:=⟨a,tb.rings.length+1,c⟩ }:=by
 obtain ⟨a,c,rfl⟩:=qam hO2;have q:Oth 73 W1 W2:=qcb oo hg;have hX:W2.heap[X4]?=some (.cells (tbC tb v) 32):=q.oth _ _ _ _ h.c.2 (by decide);have hlow:∀b,b < w.heap.size→W2.heap[b]?=W1.heap[b]?:=fun b hb'=>hg.block b (Nat.lt_of_lt_of_le hb' h.f.g.size) (fun e=>by have:=(oo.lt b e.symm).1;omega)
 have hlr:=h.f.lr;have hD:DF w W2 r s:=⟨h.f.d.keep (fun b hb'=>hlow b (by omega)) hg.size,⟨hg.os.trans h.f.g.os,hg.tape.trans h.f.g.tape,hg.output.trans h.f.g.output,Nat.le_trans h.f.g.size hg.size,fun b hb' hne=>(hlow b hb').trans (h.f.g.block b hb' hne)⟩,hlr⟩;refine ⟨a,c,rfl,by rw [qcr hX];rfl,frozen_of_row _ _ _ _ _ hX,hD.set h.c.1,⟨h.c.1,heap_setCell_same _ _ 3 _ _ _ hX⟩,?_⟩;have hz:VRRg w.heap.size W2 (tb.rings++[x]) (.slice a (tb.rings.length+1) c):=⟨a,c,cs++news,by simp,by simpa using hO2,RwX.snoc xx x news hn hP⟩;exact ⟨qay (qcx h.o.t q (by decide) (by decide)) hX,qb2 hz hX,qb4 (qcz h.o.r q (by decide)) hX,qb5 (qd0 h.o.k q (by decide)) hX,qb6 (qd1 h.o.a q (by decide)) hX,qbc (qd2 h.o.i q (by decide) (by decide)) hX,qbf (qd3 h.o.s q (by decide)) hX⟩
theorem AI.ownRs (h:AI w W r s X4 tb v):∃cs,W.ownsRow w.heap.size 75 2 (slT v.r) tb.ress.length cs∧RwX 2 rsrP tb.ress cs:=by
 obtain ⟨sa,sc,cs,e,o,xx⟩:=h.o.r;have e':slT v.r=.slice sa tb.ress.length sc:=e;exact ⟨cs,by rw [e'];exact o,xx⟩
theorem AI.appRs {W1 W2:World} {u':Value} (h:AI w W1 r s X4 tb v) (x:RsR) (cs news:List Value) (oo:W1.ownsRow w.heap.size 75 2 (slT v.r) tb.ress.length cs) (xx:RwX 2 rsrP tb.ress cs) (hg:W1.grownBy W2 (slT v.r).ownBlock)
  (hO2:W2.ownsRow w.heap.size 75 2 u' (tb.ress.length+1) (cs++news)) (hn:news.length=2)
  (hP:∀i,i < 2→∃y,news[i]?=some y∧rsrP x i y) :
  ∃a c,u'=.slice a (tb.ress.length+1) c∧W2.cell? ⟨X4,4,none⟩=some (slT v.r)∧W2.frozen? ⟨X4,4,none⟩=false∧AI w (W2.setCell ⟨X4,4,none⟩ u') r s X4 { tb with ress:=tb.ress++[x] } { v with r:=⟨a,tb.ress.length+1,c⟩ }:=by
 obtain ⟨a,c,rfl⟩:=qam hO2;have q:Oth 75 W1 W2:=qcb oo hg;have hX:W2.heap[X4]?=some (.cells (tbC tb v) 32):=q.oth _ _ _ _ h.c.2 (by decide);have hlow:∀b,b < w.heap.size→W2.heap[b]?=W1.heap[b]?:=fun b hb'=>hg.block b (Nat.lt_of_lt_of_le hb' h.f.g.size) (fun e=>by have:=(oo.lt b e.symm).1;omega)
 have hlr:=h.f.lr;have hD:DF w W2 r s:=⟨h.f.d.keep (fun b hb'=>hlow b (by omega)) hg.size,⟨hg.os.trans h.f.g.os,hg.tape.trans h.f.g.tape,hg.output.trans h.f.g.output,Nat.le_trans h.f.g.size hg.size,fun b hb' hne=>(hlow b hb').trans (h.f.g.block b hb' hne)⟩,hlr⟩;refine ⟨a,c,rfl,by rw [qcr hX];rfl,frozen_of_row _ _ _ _ _ hX,hD.set h.c.1,⟨h.c.1,heap_setCell_same _ _ 4 _ _ _ hX⟩,?_⟩;have hz:VRRs w.heap.size W2 (tb.ress++[x]) (.slice a (tb.ress.length+1) c):=⟨a,c,cs++news,by simp,by simpa using hO2,RwX.snoc xx x news hn hP⟩;exact ⟨qay (qcx h.o.t q (by decide) (by decide)) hX,qb2 (qcy h.o.g q (by decide)) hX,qb4 hz hX,qb5 (qd0 h.o.k q (by decide)) hX,qb6 (qd1 h.o.a q (by decide)) hX,qbc (qd2 h.o.i q (by decide) (by decide)) hX,qbf (qd3 h.o.s q (by decide)) hX⟩
theorem AI.ownCt (h:AI w W r s X4 tb v):∃cs,W.ownsRow w.heap.size 77 3 (slT v.k) tb.ctrs.length cs∧RwX 3 ctrP tb.ctrs cs:=by
 obtain ⟨sa,sc,cs,e,o,xx⟩:=h.o.k;have e':slT v.k=.slice sa tb.ctrs.length sc:=e;exact ⟨cs,by rw [e'];exact o,xx⟩
theorem AI.appCt {W1 W2:World} {u':Value} (h:AI w W1 r s X4 tb v) (x:CtR) (cs news:List Value) (oo:W1.ownsRow w.heap.size 77 3 (slT v.k) tb.ctrs.length cs) (xx:RwX 3 ctrP tb.ctrs cs) (hg:W1.grownBy W2 (slT v.k).ownBlock)
  (hO2:W2.ownsRow w.heap.size 77 3 u' (tb.ctrs.length+1) (cs++news)) (hn:news.length=3)
  (hP:∀i,i < 3→∃y,news[i]?=some y∧ctrP x i y) :
  ∃a c,u'=.slice a (tb.ctrs.length+1) c∧W2.cell? ⟨X4,5,none⟩=some (slT v.k)∧W2.frozen? ⟨X4,5,none⟩=false∧AI w (W2.setCell ⟨X4,5,none⟩ u') r s X4 { tb with ctrs:=tb.ctrs++[x] } { v with k:=⟨a,tb.ctrs.length+1,c⟩ }:=by
 obtain ⟨a,c,rfl⟩:=qam hO2;have q:Oth 77 W1 W2:=qcb oo hg;have hX:W2.heap[X4]?=some (.cells (tbC tb v) 32):=q.oth _ _ _ _ h.c.2 (by decide);have hlow:∀b,b < w.heap.size→W2.heap[b]?=W1.heap[b]?:=fun b hb'=>hg.block b (Nat.lt_of_lt_of_le hb' h.f.g.size) (fun e=>by have:=(oo.lt b e.symm).1;omega)
 have hlr:=h.f.lr;have hD:DF w W2 r s:=⟨h.f.d.keep (fun b hb'=>hlow b (by omega)) hg.size,⟨hg.os.trans h.f.g.os,hg.tape.trans h.f.g.tape,hg.output.trans h.f.g.output,Nat.le_trans h.f.g.size hg.size,fun b hb' hne=>(hlow b hb').trans (h.f.g.block b hb' hne)⟩,hlr⟩;refine ⟨a,c,rfl,by rw [qcr hX];rfl,frozen_of_row _ _ _ _ _ hX,hD.set h.c.1,⟨h.c.1,heap_setCell_same _ _ 5 _ _ _ hX⟩,?_⟩;have hz:VRCt w.heap.size W2 (tb.ctrs++[x]) (.slice a (tb.ctrs.length+1) c):=⟨a,c,cs++news,by simp,by simpa using hO2,RwX.snoc xx x news hn hP⟩;exact ⟨qay (qcx h.o.t q (by decide) (by decide)) hX,qb2 (qcy h.o.g q (by decide)) hX,qb4 (qcz h.o.r q (by decide)) hX,qb5 hz hX,qb6 (qd1 h.o.a q (by decide)) hX,qbc (qd2 h.o.i q (by decide) (by decide)) hX,qbf (qd3 h.o.s q (by decide)) hX⟩
theorem AI.ownAl (h:AI w W r s X4 tb v):∃cs,W.ownsRow w.heap.size 82 7 (slT v.a) tb.als.length cs∧RwX 7 alrP tb.als cs:=by
 obtain ⟨sa,sc,cs,e,o,xx⟩:=h.o.a;have e':slT v.a=.slice sa tb.als.length sc:=e;exact ⟨cs,by rw [e'];exact o,xx⟩
theorem AI.appAl {W1 W2:World} {u':Value} (h:AI w W1 r s X4 tb v) (x:AlR) (cs news:List Value) (oo:W1.ownsRow w.heap.size 82 7 (slT v.a) tb.als.length cs) (xx:RwX 7 alrP tb.als cs) (hg:W1.grownBy W2 (slT v.a).ownBlock)
  (hO2:W2.ownsRow w.heap.size 82 7 u' (tb.als.length+1) (cs++news)) (hn:news.length=7)
  (hP:∀i,i < 7→∃y,news[i]?=some y∧alrP x i y) :
  ∃a c,u'=.slice a (tb.als.length+1) c∧W2.cell? ⟨X4,6,none⟩=some (slT v.a)∧W2.frozen? ⟨X4,6,none⟩=false∧AI w (W2.setCell ⟨X4,6,none⟩ u') r s X4 { tb with als:=tb.als++[x] } { v with a:=⟨a,tb.als.length+1,c⟩ }:=by
 obtain ⟨a,c,rfl⟩:=qam hO2;have q:Oth 82 W1 W2:=qcb oo hg;have hX:W2.heap[X4]?=some (.cells (tbC tb v) 32):=q.oth _ _ _ _ h.c.2 (by decide);have hlow:∀b,b < w.heap.size→W2.heap[b]?=W1.heap[b]?:=fun b hb'=>hg.block b (Nat.lt_of_lt_of_le hb' h.f.g.size) (fun e=>by have:=(oo.lt b e.symm).1;omega)
 have hlr:=h.f.lr;have hD:DF w W2 r s:=⟨h.f.d.keep (fun b hb'=>hlow b (by omega)) hg.size,⟨hg.os.trans h.f.g.os,hg.tape.trans h.f.g.tape,hg.output.trans h.f.g.output,Nat.le_trans h.f.g.size hg.size,fun b hb' hne=>(hlow b hb').trans (h.f.g.block b hb' hne)⟩,hlr⟩;refine ⟨a,c,rfl,by rw [qcr hX];rfl,frozen_of_row _ _ _ _ _ hX,hD.set h.c.1,⟨h.c.1,heap_setCell_same _ _ 6 _ _ _ hX⟩,?_⟩;have hz:VRAl w.heap.size W2 (tb.als++[x]) (.slice a (tb.als.length+1) c):=⟨a,c,cs++news,by simp,by simpa using hO2,RwX.snoc xx x news hn hP⟩;exact ⟨qay (qcx h.o.t q (by decide) (by decide)) hX,qb2 (qcy h.o.g q (by decide)) hX,qb4 (qcz h.o.r q (by decide)) hX,qb5 (qd0 h.o.k q (by decide)) hX,qb6 hz hX,qbc (qd2 h.o.i q (by decide) (by decide)) hX,qbf (qd3 h.o.s q (by decide)) hX⟩
theorem AI.ownIs (h:AI w W r s X4 tb v):∃cs,W.ownsRow w.heap.size 84 3 (slT v.i) tb.isrs.length cs∧RwX 3 (isO9 W w.heap.size) tb.isrs cs:=by
 obtain ⟨sa,sc,cs,e,o,xx⟩:=h.o.i;have e':slT v.i=.slice sa tb.isrs.length sc:=e;exact ⟨cs,by rw [e'];exact o,xx⟩
theorem AI.appIs {W1 W2:World} {u':Value} (h:AI w W1 r s X4 tb v) (x:IsR) (cs news:List Value) (oo:W1.ownsRow w.heap.size 84 3 (slT v.i) tb.isrs.length cs) (xx:RwX 3 (isO9 W1 w.heap.size) tb.isrs cs) (hg:W1.grownBy W2 (slT v.i).ownBlock)
  (hO2:W2.ownsRow w.heap.size 84 3 u' (tb.isrs.length+1) (cs++news)) (hn:news.length=3)
  (hP:∀i,i < 3→∃y,news[i]?=some y∧(isO9 W2 w.heap.size) x i y) :
  ∃a c,u'=.slice a (tb.isrs.length+1) c∧W2.cell? ⟨X4,7,none⟩=some (slT v.i)∧W2.frozen? ⟨X4,7,none⟩=false∧AI w (W2.setCell ⟨X4,7,none⟩ u') r s X4 { tb with isrs:=tb.isrs++[x] } { v with i:=⟨a,tb.isrs.length+1,c⟩ }:=by
 obtain ⟨a,c,rfl⟩:=qam hO2;have q:Oth 84 W1 W2:=qcb oo hg;have hX:W2.heap[X4]?=some (.cells (tbC tb v) 32):=q.oth _ _ _ _ h.c.2 (by decide);have hlow:∀b,b < w.heap.size→W2.heap[b]?=W1.heap[b]?:=fun b hb'=>hg.block b (Nat.lt_of_lt_of_le hb' h.f.g.size) (fun e=>by have:=(oo.lt b e.symm).1;omega)
 have hlr:=h.f.lr;have hD:DF w W2 r s:=⟨h.f.d.keep (fun b hb'=>hlow b (by omega)) hg.size,⟨hg.os.trans h.f.g.os,hg.tape.trans h.f.g.tape,hg.output.trans h.f.g.output,Nat.le_trans h.f.g.size hg.size,fun b hb' hne=>(hlow b hb').trans (h.f.g.block b hb' hne)⟩,hlr⟩;refine ⟨a,c,rfl,by rw [qcr hX];rfl,frozen_of_row _ _ _ _ _ hX,hD.set h.c.1,⟨h.c.1,heap_setCell_same _ _ 7 _ _ _ hX⟩,?_⟩;have hz:VRIs w.heap.size W2 (tb.isrs++[x]) (.slice a (tb.isrs.length+1) c):=⟨a,c,cs++news,by simp,by simpa using hO2,RwX.snoc (RwX.mono xx (fun y i u hu=>by unfold isO9 at hu ⊢;split at hu <;> first | exact hu | exact qcm hu q (by decide))) x news hn hP⟩;exact ⟨qay (qcx h.o.t q (by decide) (by decide)) hX,qb2 (qcy h.o.g q (by decide)) hX,qb4 (qcz h.o.r q (by decide)) hX,qb5 (qd0 h.o.k q (by decide)) hX,qb6 (qd1 h.o.a q (by decide)) hX,qbc hz hX,qbf (qd3 h.o.s q (by decide)) hX⟩
theorem AI.ownMs (h:AI w W r s X4 tb v):∃cs,W.ownsRow w.heap.size 87 8 (slT v.s) tb.msgs.length cs∧RwX 8 msrP tb.msgs cs:=by
 obtain ⟨sa,sc,cs,e,o,xx⟩:=h.o.s;have e':slT v.s=.slice sa tb.msgs.length sc:=e;exact ⟨cs,by rw [e'];exact o,xx⟩
theorem AI.appMs {W1 W2:World} {u':Value} (h:AI w W1 r s X4 tb v) (x:MsR) (cs news:List Value) (oo:W1.ownsRow w.heap.size 87 8 (slT v.s) tb.msgs.length cs) (xx:RwX 8 msrP tb.msgs cs) (hg:W1.grownBy W2 (slT v.s).ownBlock)
  (hO2:W2.ownsRow w.heap.size 87 8 u' (tb.msgs.length+1) (cs++news)) (hn:news.length=8)
  (hP:∀i,i < 8→∃y,news[i]?=some y∧msrP x i y) :
  ∃a c,u'=.slice a (tb.msgs.length+1) c∧W2.cell? ⟨X4,8,none⟩=some (slT v.s)∧W2.frozen? ⟨X4,8,none⟩=false∧AI w (W2.setCell ⟨X4,8,none⟩ u') r s X4 { tb with msgs:=tb.msgs++[x] } { v with s:=⟨a,tb.msgs.length+1,c⟩ }:=by
 obtain ⟨a,c,rfl⟩:=qam hO2;have q:Oth 87 W1 W2:=qcb oo hg;have hX:W2.heap[X4]?=some (.cells (tbC tb v) 32):=q.oth _ _ _ _ h.c.2 (by decide);have hlow:∀b,b < w.heap.size→W2.heap[b]?=W1.heap[b]?:=fun b hb'=>hg.block b (Nat.lt_of_lt_of_le hb' h.f.g.size) (fun e=>by have:=(oo.lt b e.symm).1;omega)
 have hlr:=h.f.lr;have hD:DF w W2 r s:=⟨h.f.d.keep (fun b hb'=>hlow b (by omega)) hg.size,⟨hg.os.trans h.f.g.os,hg.tape.trans h.f.g.tape,hg.output.trans h.f.g.output,Nat.le_trans h.f.g.size hg.size,fun b hb' hne=>(hlow b hb').trans (h.f.g.block b hb' hne)⟩,hlr⟩;refine ⟨a,c,rfl,by rw [qcr hX];rfl,frozen_of_row _ _ _ _ _ hX,hD.set h.c.1,⟨h.c.1,heap_setCell_same _ _ 8 _ _ _ hX⟩,?_⟩;have hz:VRMs w.heap.size W2 (tb.msgs++[x]) (.slice a (tb.msgs.length+1) c):=⟨a,c,cs++news,by simp,by simpa using hO2,RwX.snoc xx x news hn hP⟩;exact ⟨qay (qcx h.o.t q (by decide) (by decide)) hX,qb2 (qcy h.o.g q (by decide)) hX,qb4 (qcz h.o.r q (by decide)) hX,qb5 (qd0 h.o.k q (by decide)) hX,qb6 (qd1 h.o.a q (by decide)) hX,qbc (qd2 h.o.i q (by decide) (by decide)) hX,qbf hz hX⟩
end
end Go.Proofs.YtijgopkhdjaolabGreat
namespace Go.Proofs.YtijgopkhdjaolabGreat
open Go.RowKit Go.Shelf Go.Sort
open Go.Proofs.YtijgopkhdjaolabGreat.Ob (leB leV qa8 qag crc Rd RdAll qa7 rd_drop)
set_option maxHeartbeats 40000000
theorem qek (T:Array Value) (h:T.size=194):T=((List.range 194).map (tk T)).toArray:=by
 apply Array.ext
 ·simp [h]
 ·intro i h1 h2
  simp [tk,h1]
theorem qel : List.range 194=[0,1,2,3,4,5,6,7,8,9,10,11,12,13,14,15,16,17,18,19,20,21,22,23,24,25,26,27,28,29,30,31,32,33,34,35,36,37,38,39,40,41,42,43,44,45,46,47,48,49,50,51,52,53,54,55,56,57,58,59,60,61,62,63,64,65,66,67,68,69,70,71,72,73,74,75,76,77,78,79,80,81,82,83,84,85,86,87,88,89,90,91,92,93,94,95,96,97,98,99,100,101,102,103,104,105,106,107,108,109,110,111,112,113,114,115,116,117,118,119,120,121,122,123,124,125,126,127,128,129,130,131,132,133,134,135,136,137,138,139,140,141,142,143,144,145,146,147,148,149,150,151,152,153,154,155,156,157,158,159,160,161,162,163,164,165,166,167,168,169,170,171,172,173,174,175,176,177,178,179,180,181,182,183,184,185,186,187,188,189,190,191,192,193]:=by kernel_rfl
abbrev zA : Array Value:=qV
def qmd (T:Array Value) (r gn cn X4 X6:Nat):Prop:=T.size=194∧T.getD 0 undef=.pointer (some ⟨r,0,none⟩)∧T.getD 2 undef=.slice (some ⟨gn,0,none⟩) 7 cn∧T.getD 4 undef=.pointer (some ⟨X4,0,none⟩)∧T.getD 6 undef=.pointer (some ⟨X6,0,none⟩)
structure AX (w W:World) (r:Nat) (s:DS) (X6:Nat) (tb:Tb) (v:Ts):Prop where
 i:AI w W r s w.heap.size tb v
 z:HC w W r X6 32 zA
 ne:w.heap.size≠X6
section
variable {w W W' : World} {r X6 : Nat} {s s' : DS} {tb : Tb} {v : Ts}
theorem AX.call (h:AX w W r s X6 tb v) (hd:dSt W' r s') (hg:W.grownBy W' (some r)):AX w W' r s' X6 tb v:=⟨h.i.call hd hg,h.z.call h.i.f.lr hg,h.ne⟩
theorem AX.below (h:AX w W r s X6 tb v) (hb:qB W W'):AX w W' r s X6 tb v:=⟨h.i.below hb,h.z.below hb,h.ne⟩
end
theorem AX.app {w W1 W2:World} {r X6 i:Nat} {s:DS} {tb tb':Tb} {v v':Ts} {e:TypeId} {u:Value} (h:AX w W1 r s X6 tb v) (q:Oth e W1 W2) (he:32≠e) (hA:AI w (W2.setCell ⟨w.heap.size,i,none⟩ u) r s w.heap.size tb' v'):AX w (W2.setCell ⟨w.heap.size,i,none⟩ u) r s X6 tb' v':=
 ⟨hA,⟨h.z.1,(heap_setCell_other _ _ _ _ (fun e=>h.ne e.symm)).trans (q.oth _ _ _ _ h.z.2 he)⟩,h.ne⟩
def ASg (j:Nat) (w:World) (r gn cn X6:Nat) (f:DS→Tb→DS×Tb) (ok:Tb→Prop):Prop:=∀(N R:Act→World→Prop) (T:Array Value) (vs:List Deferred) (W:World) (s:DS) (tb:Tb) (v:Ts),qmd T r gn cn w.heap.size X6→AX w W r s X6 tb v→ok tb→(∀T' W' v',qmd T' r gn cn w.heap.size X6→AX w W' r (f s tb).1 X6 (f s tb).2 v'→N ⟨T',vs⟩ W')→(hdc (drp (j+1) (Tryz.f22.body.getD .skip))).wp Tryz.prog (SQ N R) ⟨T,vs⟩ W
def qdc (w:World) (r gn:Nat) (n:Nat→Nat):Prop:=∀W,w.grownBy W (some r)→∀j,j < 7→W.cell? ⟨gn,j,none⟩=some (I (n j))
theorem qtg {w:World} {r gn cn X6:Nat} (n:Nat→Nat) (hn:∀j,j < 7→n j < 65536) (hcn:7≤cn) (hc:Hid (qdc w r gn n)):ASg 0 w r gn cn X6 (fun s tb=>((dRep dTsk (n 0) s).2,{ tb with tasks:=(dRep dTsk (n 0) s).1 })) (fun tb=>tb.tasks=[]):=by
 intro N R T vs W s tb v hT hA hok hK;obtain ⟨info0,hi0,hz0,hz1,hz2⟩:=info_parts qn3;obtain ⟨hT,h0,h2,h4,h6⟩:=hT;obtain ⟨x0,x1,l0,l1,l2,l3,l4,l5,l6,x2,x3,x4,x5⟩:=tb;obtain ⟨st,sg,sr,sk,sa,si,ss⟩:=v;dsimp only at hok hK;subst hok;obtain ⟨va,vn,vc⟩:=st;have hvn:vn=0:=by
  obtain ⟨q1,q2,q3,e,-⟩:=hA.i.o.t;have e:(.slice va vn vc:Value)=.slice q1 0 q2:=e;injection e
 subst hvn;have HK:Hid _:=hK;have HI:Hid (AX w W r s X6 (⟨x0,x1,[],l1,l2,l3,l4,l5,l6,x2,x3,x4,x5⟩:Tb) (⟨⟨va,0,vc⟩,sg,sr,sk,sa,si,ss⟩:Ts)):=hA;have hnb:=hn 0 (by omega);have hcc:=fun W hW=>hc.out W hW 0 (by omega)
 generalize n 0=n0 at *;rw [qek T hT];simp only [qel,List.map_cons,List.map_nil,show tk T 0=_ from h0,show tk T 2=_ from h2,show tk T 4=_ from h4,show tk T 6=_ from h6];clear hK hA h0 h2 h4 h6 hT hn hc;generalize tk T=tt;conv=>arg 2;whnf
 go_wp2;go_loopw [7] (fun v7 wr=>∃(k:Nat) (ys:List TkR) (t:DS) (va:Option Addr) (vc:Nat),k≤n0∧v7=I k∧Hid (ys.length=k∧dRep dTsk n0 s=(ys++(dRep dTsk (n0 - k) t).1,(dRep dTsk (n0 - k) t).2)∧AX w wr r t X6 (⟨x0,x1,ys,l1,l2,l3,l4,l5,l6,x2,x3,x4,x5⟩:Tb) (⟨⟨va,k,vc⟩,sg,sr,sk,sa,si,ss⟩:Ts))) (fun v7 _=>n0 - (intOf v7).toNat)
 case atStart=>exact ⟨0,[],s,va,vc,by omega,rfl,rfl,by simp,HI.out⟩
 case round=>
  clear HI;obtain ⟨k,ys,t,va,vc,hk,rfl,HJ⟩:=hrel;have c0:=hcc wr HJ.out.2.2.i.f.g;have hd:=HJ.out.2.2.i.f.d;obtain ⟨-,a9,m9,c9,p1,-,-⟩:=hd;have ce:wr.cell? ⟨r,1,none⟩=some (I t.2):=by rw [qcr p1];rfl
  clear p1;by_cases hlt:k < n0
  ·have hltI:(k:Int) < n0:=by omega
   by_cases he:t.2=0
   ·rw [he] at ce
    have hne:=qdf (d:=dTsk) (n:=n0 - (k+1)) he;rw [show n0 - (k+1)+1=n0 - k by omega] at hne;have HN:Hid (dRep dTsk (n0 - k) t=((dTsk t).1 :: (dRep dTsk (n0 - (k+1)) (dTsk t).2).1,(dRep dTsk (n0 - (k+1)) (dTsk t).2).2)):=hne;clear hne;go_upto_region 4 with fail;refine qc5 (S:=fun W=>W.cell? ⟨w.heap.size,2,none⟩=some (.slice va k vc)) 7 (by kernel_rfl) ?_;change qbw _ _ _ _ _ _ _ #[false,false,false,false,false,false,false,false] _ _;have HD:=HJ.out.2.2.below (Below.refl wr.heap.size wr).drew;have hT:=qn8 wr.drew r t HD.i.f.d;have hHeld:=HD.i.cell 2 (.slice va k vc) rfl;have HDD:Hid (AX w wr.drew r t X6 (⟨x0,x1,ys,l1,l2,l3,l4,l5,l6,x2,x3,x4,x5⟩:Tb) (⟨⟨va,k,vc⟩,sg,sr,sk,sa,si,ss⟩:Ts)):=HD;clear HD c0 ce hcc;try simp only [qN]
    refine qTG 0 (.pointer (some ⟨w.heap.size,2,none⟩)) rfl hHeld ?_;try simp only [qN]
    refine qTG 1 (.slice va k vc) rfl hHeld ?_;try simp only [qN]
    refine qTG 2 (.pointer (some ⟨r,0,none⟩)) rfl hHeld ?_;try simp only [qN]
    clear hHeld;generalize wr.drew=w0 at *;obtain ⟨x,hx⟩:∃x,x=(dTsk t).1:=⟨_,rfl⟩
    obtain ⟨t2,ht⟩:∃t2,t2=(dTsk t).2:=⟨_,rfl⟩
    rw [←hx,←ht] at hT;have HXX:Hid (x=(dTsk t).1∧t2=(dTsk t).2):=⟨hx,ht⟩;clear hx ht;refine qab (i:=3) (by kernel_rfl) rfl (fun K hK=>?_);go_simp;(go_at_call 63;refine hT.mono ?_;clear hT;rintro e W1 ⟨u,rfl,hu,hd,hg⟩)
    have H1:Hid (AX w W1 r t2 X6 (⟨x0,x1,ys,l1,l2,l3,l4,l5,l6,x2,x3,x4,x5⟩:Tb) (⟨⟨va,k,vc⟩,sg,sr,sk,sa,si,ss⟩:Ts)∧qbm W1 w.heap.size x.own u):=⟨HDD.out.call hd hg,qbk hu HDD.out.i.f.g.size⟩;clear hu hd hg HDD;refine hK.out _ _ (fun _=>H1.out.1.i.cell 2 _ rfl) ?_;clear hK K;try simp only [qN]
    have hb1:=qa0 W1 (.cells #[I x.prio,I x.ring,.bool x.full,I x.limit,.int .u32 (x.mask:Int),I x.inner,u,.int .u32 (x.auto:Int)] 71);have hnew:=qaz W1 #[I x.prio,I x.ring,.bool x.full,I x.limit,.int .u32 (x.mask:Int),I x.inner,u,.int .u32 (x.auto:Int)] 71;refine qab (i:=4) (by kernel_rfl) rfl (fun K hK=>?_);go_simp;refine hK.out _ _ (fun _=>(H1.out.1.below hb1).i.cell 2 _ rfl) ?_;clear hK K;try simp only [qN]
    have H2:Hid (AX w (W1.alloc (.cells #[I x.prio,I x.ring,.bool x.full,I x.limit,.int .u32 (x.mask:Int),I x.inner,u,.int .u32 (x.auto:Int)] 71)) r t2 X6 (⟨x0,x1,ys,l1,l2,l3,l4,l5,l6,x2,x3,x4,x5⟩:Tb) (⟨⟨va,k,vc⟩,sg,sr,sk,sa,si,ss⟩:Ts)):=H1.out.1.below hb1;have hiv:=qad H1.out.2 hb1;obtain ⟨cs,oo,xx⟩:=H2.out.i.ownTk;have hyl:ys.length=k:=HJ.out.1;have hszz:w.heap.size≤(W1.alloc (.cells #[I x.prio,I x.ring,.bool x.full,I x.limit,.int .u32 (x.mask:Int),I x.inner,u,.int .u32 (x.auto:Int)] 71)).heap.size:=H2.out.i.f.g.size;clear H1 hb1;generalize W1.alloc (.cells #[I x.prio,I x.ring,.bool x.full,I x.limit,.int .u32 (x.mask:Int),I x.inner,u,.int .u32 (x.auto:Int)] 71)=W3 at *;refine qab (i:=5) (by kernel_rfl) rfl (fun K hK=>?_);refine qej rfl _ _ 24 rfl w.heap.size 71 info0 _ 8 80 Tryz.underlying24 hi0 hz0 hz1 hz2 rfl (by decide) (.slice va k vc) ys.length cs (by simp [Act.eval]) oo ⟨W1.heap.size,0,none⟩ 1 1 (#[I x.prio,I x.ring,.bool x.full,I x.limit,.int .u32 (x.mask:Int),I x.inner,u,.int .u32 (x.auto:Int)]:Array Value).toList (by simp [Act.eval]) rfl hnew (by obtain ⟨ua,uc,rfl⟩:=qam hiv;intro y hy;simp only [List.mem_cons,List.not_mem_nil,or_false] at hy;rcases hy with rfl | rfl | rfl | rfl | rfl | rfl | rfl | rfl <;> rfl) (by unfold maxLen;omega) (by omega) hszz ?_;intro v' W2 hO2 hg2;have hiw:=qcm hiv (qcb oo hg2) (by decide);obtain ⟨a',c',hv',hc2,hf2,HA⟩:=H2.out.i.appTk x cs (#[I x.prio,I x.ring,.bool x.full,I x.limit,.int .u32 (x.mask:Int),I x.inner,u,.int .u32 (x.auto:Int)]:Array Value).toList oo xx hg2 hO2 rfl (fun i hi=>by
     match i,hi with
     | 0,_=>exact ⟨_,rfl,rfl⟩
     | 1,_=>exact ⟨_,rfl,rfl⟩
     | 2,_=>exact ⟨_,rfl,rfl⟩
     | 3,_=>exact ⟨_,rfl,rfl⟩
     | 4,_=>exact ⟨_,rfl,rfl⟩
     | 5,_=>exact ⟨_,rfl,rfl⟩
     | 6,_=>exact ⟨_,rfl,hiw⟩
     | 7,_=>exact ⟨_,rfl,rfl⟩)
    have HA:=H2.out.app (qcb oo hg2) (by decide) HA;dsimp only [slT] at hc2 HA hv';rw [hyl] at hv';subst hv';rw [hyl] at HA;have H9:Hid ((ys++[x]).length=k+1∧dRep dTsk n0 s=((ys++[x])++(dRep dTsk (n0 - (k+1)) t2).1,(dRep dTsk (n0 - (k+1)) t2).2)∧AX w (W2.setCell ⟨w.heap.size,2,none⟩ (.slice a' (k+1) c')) r t2 X6 (⟨x0,x1,ys++[x],l1,l2,l3,l4,l5,l6,x2,x3,x4,x5⟩:Tb) (⟨⟨a',k+1,c'⟩,sg,sr,sk,sa,si,ss⟩:Ts)):=by
     refine ⟨by simp [hyl],?_,HA⟩;have h1:=HJ.out.2.1;rw [HN.out,←HXX.out.1,←HXX.out.2] at h1;rw [h1];simp
    clear HJ HN HXX HA hO2 hg2 oo xx hnew H2 hiw hiv;refine hK.out _ _ (fun _=>hc2) ?_;clear hK K;try simp only [qN]
    refine qab (i:=6) (by kernel_rfl) rfl (fun K hK=>?_);go_simp;refine hK.out _ _ (fun _=>hc2) ?_;clear hK K;try simp only [qN]
    refine qab (i:=7) (by kernel_rfl) rfl (fun K hK=>?_);go_simp;refine hK.out _ _ (fun h=>absurd rfl h) ?_;clear hK K hc2 hf2;try simp only [qN]
    refine qc4 (by kernel_rfl) ?_ _;go_wp2;go_roundw
    case rel=>exact ⟨k+1,_,t2,a',c',by omega,by go_num,H9.out⟩
    case measure=>simp [intOf];omega
   ·have heI:¬((t.2:Int)=0):=by omega
    have HE:Hid (AX w wr r (dRep dTsk n0 s).2 X6 (⟨x0,x1,(dRep dTsk n0 s).1,l1,l2,l3,l4,l5,l6,x2,x3,x4,x5⟩:Tb) (⟨⟨va,k,vc⟩,sg,sr,sk,sa,si,ss⟩:Ts)):=by
     obtain ⟨f1,f2,f3⟩:=HJ.out;rw [f2,qcs he,List.append_nil];exact f3
    clear HJ;go_wp2;(try simp only [Exit.inBlock,Exit.then])
    exact HK.out _ _ _ ⟨rfl,rfl,rfl,rfl,rfl⟩ HE.out
  ·obtain rfl:k=n0:=by omega
   have hge:¬((k:Int) < k):=by omega
   have HE:Hid (AX w wr r (dRep dTsk k s).2 X6 (⟨x0,x1,(dRep dTsk k s).1,l1,l2,l3,l4,l5,l6,x2,x3,x4,x5⟩:Tb) (⟨⟨va,k,vc⟩,sg,sr,sk,sa,si,ss⟩:Ts)):=by
    obtain ⟨f1,f2,f3⟩:=HJ.out;rw [f2,Nat.sub_self];simp only [dRep,List.append_nil];exact f3
   clear HJ;go_wp2;(try simp only [Exit.inBlock,Exit.then])
   exact HK.out _ _ _ ⟨rfl,rfl,rfl,rfl,rfl⟩ HE.out
theorem qth {w:World} {r gn cn X6:Nat} (n:Nat→Nat) (hn:∀j,j < 7→n j < 65536) (hcn:7≤cn) (hc:Hid (qdc w r gn n)):ASg 2 w r gn cn X6 (fun s tb=>((dRep dRs (n 2) s).2,{ tb with ress:=(dRep dRs (n 2) s).1 })) (fun tb=>tb.ress=[]):=by
 intro N R T vs W s tb v hT hA hok hK;obtain ⟨info0,hi0,hz0,hz1,hz2⟩:=info_parts qn9;obtain ⟨hT,h0,h2,h4,h6⟩:=hT;obtain ⟨x0,x1,l0,l1,l2,l3,l4,l5,l6,x2,x3,x4,x5⟩:=tb;obtain ⟨st,sg,sr,sk,sa,si,ss⟩:=v;dsimp only at hok hK;subst hok;obtain ⟨va,vn,vc⟩:=sr;have hvn:vn=0:=by
  obtain ⟨q1,q2,q3,e,-⟩:=hA.i.o.r;have e:(.slice va vn vc:Value)=.slice q1 0 q2:=e;injection e
 subst hvn;have HK:Hid _:=hK;have HI:Hid (AX w W r s X6 (⟨x0,x1,l0,l1,[],l3,l4,l5,l6,x2,x3,x4,x5⟩:Tb) (⟨st,sg,⟨va,0,vc⟩,sk,sa,si,ss⟩:Ts)):=hA;have hnb:=hn 2 (by omega);have hcc:=fun W hW=>hc.out W hW 2 (by omega)
 generalize n 2=n0 at *;rw [qek T hT];simp only [qel,List.map_cons,List.map_nil,show tk T 0=_ from h0,show tk T 2=_ from h2,show tk T 4=_ from h4,show tk T 6=_ from h6];clear hK hA h0 h2 h4 h6 hT hn hc;generalize tk T=tt;conv=>arg 2;whnf
 go_wp2;go_loopw [10] (fun v7 wr=>∃(k:Nat) (ys:List RsR) (t:DS) (va:Option Addr) (vc:Nat),k≤n0∧v7=I k∧Hid (ys.length=k∧dRep dRs n0 s=(ys++(dRep dRs (n0 - k) t).1,(dRep dRs (n0 - k) t).2)∧AX w wr r t X6 (⟨x0,x1,l0,l1,ys,l3,l4,l5,l6,x2,x3,x4,x5⟩:Tb) (⟨st,sg,⟨va,k,vc⟩,sk,sa,si,ss⟩:Ts))) (fun v7 _=>n0 - (intOf v7).toNat)
 case atStart=>exact ⟨0,[],s,va,vc,by omega,rfl,rfl,by simp,HI.out⟩
 case round=>
  clear HI;obtain ⟨k,ys,t,va,vc,hk,rfl,HJ⟩:=hrel;have c0:=hcc wr HJ.out.2.2.i.f.g;have hd:=HJ.out.2.2.i.f.d;obtain ⟨-,a9,m9,c9,p1,-,-⟩:=hd;have ce:wr.cell? ⟨r,1,none⟩=some (I t.2):=by rw [qcr p1];rfl
  clear p1;by_cases hlt:k < n0
  ·have hltI:(k:Int) < n0:=by omega
   by_cases he:t.2=0
   ·rw [he] at ce
    have hne:=qdf (d:=dRs) (n:=n0 - (k+1)) he;rw [show n0 - (k+1)+1=n0 - k by omega] at hne;have HN:Hid (dRep dRs (n0 - k) t=((dRs t).1 :: (dRep dRs (n0 - (k+1)) (dRs t).2).1,(dRep dRs (n0 - (k+1)) (dRs t).2).2)):=hne;clear hne;go_upto_region 14 with fail;refine qc5 (S:=fun W=>W.cell? ⟨w.heap.size,4,none⟩=some (.slice va k vc)) 7 (by kernel_rfl) ?_;change qbw _ _ _ _ _ _ _ #[false,false,false,false,false,false,false,false] _ _;have HD:=HJ.out.2.2.below (Below.refl wr.heap.size wr).drew;have hT:=qnb wr.drew r t HD.i.f.d;have hHeld:=HD.i.cell 4 (.slice va k vc) rfl;have HDD:Hid (AX w wr.drew r t X6 (⟨x0,x1,l0,l1,ys,l3,l4,l5,l6,x2,x3,x4,x5⟩:Tb) (⟨st,sg,⟨va,k,vc⟩,sk,sa,si,ss⟩:Ts)):=HD;clear HD c0 ce hcc;try simp only [qN]
    refine qTG 0 (.pointer (some ⟨w.heap.size,4,none⟩)) rfl hHeld ?_;try simp only [qN]
    refine qTG 1 (.slice va k vc) rfl hHeld ?_;try simp only [qN]
    refine qTG 2 (.pointer (some ⟨r,0,none⟩)) rfl hHeld ?_;try simp only [qN]
    clear hHeld;generalize wr.drew=w0 at *;obtain ⟨x,hx⟩:∃x,x=(dRs t).1:=⟨_,rfl⟩
    obtain ⟨t2,ht⟩:∃t2,t2=(dRs t).2:=⟨_,rfl⟩
    rw [←hx,←ht] at hT;have HXX:Hid (x=(dRs t).1∧t2=(dRs t).2):=⟨hx,ht⟩;clear hx ht;refine qab (i:=3) (by kernel_rfl) rfl (fun K hK=>?_);go_simp;(go_at_call 64;refine hT.mono ?_;clear hT;rintro e W1 ⟨rfl,hd,hg⟩)
    have H1:Hid (AX w W1 r t2 X6 (⟨x0,x1,l0,l1,ys,l3,l4,l5,l6,x2,x3,x4,x5⟩:Tb) (⟨st,sg,⟨va,k,vc⟩,sk,sa,si,ss⟩:Ts)∧True):=⟨HDD.out.call hd hg,trivial⟩;clear hd hg HDD;refine hK.out _ _ (fun _=>H1.out.1.i.cell 4 _ rfl) ?_;clear hK K;try simp only [qN]
    have hb1:=qa0 W1 (.cells #[.bool x.inner,I x.ceil] 75);have hnew:=qaz W1 #[.bool x.inner,I x.ceil] 75;refine qab (i:=4) (by kernel_rfl) rfl (fun K hK=>?_);go_simp;refine hK.out _ _ (fun _=>(H1.out.1.below hb1).i.cell 4 _ rfl) ?_;clear hK K;try simp only [qN]
    have H2:Hid (AX w (W1.alloc (.cells #[.bool x.inner,I x.ceil] 75)) r t2 X6 (⟨x0,x1,l0,l1,ys,l3,l4,l5,l6,x2,x3,x4,x5⟩:Tb) (⟨st,sg,⟨va,k,vc⟩,sk,sa,si,ss⟩:Ts)):=H1.out.1.below hb1;skip;obtain ⟨cs,oo,xx⟩:=H2.out.i.ownRs;have hyl:ys.length=k:=HJ.out.1;have hszz:w.heap.size≤(W1.alloc (.cells #[.bool x.inner,I x.ceil] 75)).heap.size:=H2.out.i.f.g.size;clear H1 hb1;generalize W1.alloc (.cells #[.bool x.inner,I x.ceil] 75)=W3 at *;refine qab (i:=5) (by kernel_rfl) rfl (fun K hK=>?_);refine qej rfl _ _ 26 rfl w.heap.size 75 info0 _ 2 16 Tryz.underlying26 hi0 hz0 hz1 hz2 rfl (by decide) (.slice va k vc) ys.length cs (by simp [Act.eval]) oo ⟨W1.heap.size,0,none⟩ 1 1 (#[.bool x.inner,I x.ceil]:Array Value).toList (by simp [Act.eval]) rfl hnew (by intro y hy;simp only [List.mem_cons,List.not_mem_nil,or_false] at hy;rcases hy with rfl | rfl <;> rfl) (by unfold maxLen;omega) (by omega) hszz ?_;intro v' W2 hO2 hg2;skip;obtain ⟨a',c',hv',hc2,hf2,HA⟩:=H2.out.i.appRs x cs (#[.bool x.inner,I x.ceil]:Array Value).toList oo xx hg2 hO2 rfl (fun i hi=>by
     match i,hi with
     | 0,_=>exact ⟨_,rfl,rfl⟩
     | 1,_=>exact ⟨_,rfl,rfl⟩)
    have HA:=H2.out.app (qcb oo hg2) (by decide) HA;dsimp only [slT] at hc2 HA hv';rw [hyl] at hv';subst hv';rw [hyl] at HA;have H9:Hid ((ys++[x]).length=k+1∧dRep dRs n0 s=((ys++[x])++(dRep dRs (n0 - (k+1)) t2).1,(dRep dRs (n0 - (k+1)) t2).2)∧AX w (W2.setCell ⟨w.heap.size,4,none⟩ (.slice a' (k+1) c')) r t2 X6 (⟨x0,x1,l0,l1,ys++[x],l3,l4,l5,l6,x2,x3,x4,x5⟩:Tb) (⟨st,sg,⟨a',k+1,c'⟩,sk,sa,si,ss⟩:Ts)):=by
     refine ⟨by simp [hyl],?_,HA⟩;have h1:=HJ.out.2.1;rw [HN.out,←HXX.out.1,←HXX.out.2] at h1;rw [h1];simp
    clear HJ HN HXX HA hO2 hg2 oo xx hnew H2;refine hK.out _ _ (fun _=>hc2) ?_;clear hK K;try simp only [qN]
    refine qab (i:=6) (by kernel_rfl) rfl (fun K hK=>?_);go_simp;refine hK.out _ _ (fun _=>hc2) ?_;clear hK K;try simp only [qN]
    refine qab (i:=7) (by kernel_rfl) rfl (fun K hK=>?_);go_simp;refine hK.out _ _ (fun h=>absurd rfl h) ?_;clear hK K hc2 hf2;try simp only [qN]
    refine qc4 (by kernel_rfl) ?_ _;go_wp2;go_roundw
    case rel=>exact ⟨k+1,_,t2,a',c',by omega,by go_num,H9.out⟩
    case measure=>simp [intOf];omega
   ·have heI:¬((t.2:Int)=0):=by omega
    have HE:Hid (AX w wr r (dRep dRs n0 s).2 X6 (⟨x0,x1,l0,l1,(dRep dRs n0 s).1,l3,l4,l5,l6,x2,x3,x4,x5⟩:Tb) (⟨st,sg,⟨va,k,vc⟩,sk,sa,si,ss⟩:Ts)):=by
     obtain ⟨f1,f2,f3⟩:=HJ.out;rw [f2,qcs he,List.append_nil];exact f3
    clear HJ;go_wp2;(try simp only [Exit.inBlock,Exit.then])
    exact HK.out _ _ _ ⟨rfl,rfl,rfl,rfl,rfl⟩ HE.out
  ·obtain rfl:k=n0:=by omega
   have hge:¬((k:Int) < k):=by omega
   have HE:Hid (AX w wr r (dRep dRs k s).2 X6 (⟨x0,x1,l0,l1,(dRep dRs k s).1,l3,l4,l5,l6,x2,x3,x4,x5⟩:Tb) (⟨st,sg,⟨va,k,vc⟩,sk,sa,si,ss⟩:Ts)):=by
    obtain ⟨f1,f2,f3⟩:=HJ.out;rw [f2,Nat.sub_self];simp only [dRep,List.append_nil];exact f3
   clear HJ;go_wp2;(try simp only [Exit.inBlock,Exit.then])
   exact HK.out _ _ _ ⟨rfl,rfl,rfl,rfl,rfl⟩ HE.out
end Go.Proofs.YtijgopkhdjaolabGreat
