import Derived.Test.YtijgopkhdjaolabGreatXHs5
import Derived.Test.YtijgopkhdjaolabGreatHs4
import Derived.Test.YtijgopkhdjaolabGreatXHk2
import Derived.Deep.RegionHeldLaw
import Derived.Deep.DrawnRows
set_option linter.unusedSimpArgs false
set_option linter.unusedVariables false
set_option maxHeartbeats 16000000
set_option maxRecDepth 100000
namespace Go.Proofs.YtijgopkhdjaolabGreat
open Go.RowKit Go.Shelf Go.Sort
open Go.Proofs.YtijgopkhdjaolabGreat.Ob (leB leV qa8 qag crc Rd RdAll qa7)
def prX (x:Pce) (o:Nat):List Value:=[I x.1,I o,I x.2.2.length,I x.2.1]
def prC : Nat→List Pce→List Value
 | _,[]=>[]
 | o,x :: l=>prX x o++prC (o+x.2.2.length) l
theorem qfo (x:Pce):∀(l:List Pce) (o:Nat),prC o (l++[x])=prC o l++prX x (o+(flP l).length)
 | [],o=>by simp [prC,flP]
 | y :: l,o=>by
  rw [List.cons_append,prC,qfo x l,prC,List.append_assoc];simp [flP,Nat.add_assoc]
theorem qo0 : (Tryz.prog.info? 48).map (fun i=>(i.zero,i.size,i.bytes))=some (some (.agg #[I 0,I 0,I 0,I 0]:Value),4,32):=by kernel_rfl
theorem qfb {α:Type} {l:List α} {k:Nat} {x:α} (h:l[k]?=some x):l.take (k+1)=l.take k++[x]:=by rw [List.take_add_one,h];rfl
theorem qp5 {w:World} {a:Option Addr} {n c q:Nat} {bs:List UInt8} (h:Rd w a n c bs) (hd:dec bs=.error q) (hq:q≠0):Calls Tryz.prog 10 #[.slice a n c] w fun e w'=>e=.returned (.tuple #[qZ,I q])∧qB w w':=by
 have hD:=qdx h;rw [hd] at hD;have hbn:((q:Int) != 0)=true:=by simp [bne];omega
 unfold DP zT at hD;clear h hd hq;go_enter Tryz.func10,Tryz.ntmps10
 go_wp2_with (first | (go_at_call 5;refine hD.mono ?_;clear hD;rintro e w2 ⟨rfl,b2⟩;have B2:Hid (qB w w2):=b2;clear b2));refine bodyPost_ret (results_tmp2 Tryz.results10 _ _ _) rfl ?_;exact ⟨rfl,belT B2.out (qa0 w2 _)⟩
theorem qib {w:World} {a:Option Addr} {n c:Nat} {bs:List UInt8} {tb:Tb} (h:Rd w a n c bs) (hd:dec bs=.ok tb):Calls Tryz.prog 10 #[.slice a n c] w fun e w'=>∃u,e=.returned (.tuple #[u,I 0])∧w'.ownsRow w.heap.size 48 4 u 9 (prC 0 (psOf tb))∧qB w w':=by
 obtain ⟨i0,hi0,hz0,hz1,hz2⟩:=info_parts qo0;obtain ⟨rfl,hok,hc⟩:=qml hd;have hwf:=qm8 hok;have hbl:(flP (psOf tb)).length≤1000000:=by
  have:=(qfz hc hwf).2;rw [qfn,qg8];omega
 have HL:Hid ((flP (psOf tb)).length≤1000000):=hbl;have HP:Hid (∀W v,TbAt W tb v→Calls Tryz.prog 26 #[.agg (tbC tb v)] W fun e w'=>∃s,e=.returned (slT s)∧RowsAt w' 3 (pceP w') s (psOf tb)∧qB W w'):=fun W v hT=>qhg W tb v hT hwf hc
 have hn9:(psOf tb).length=9:=rfl;generalize psOf tb=ps at *;have hD:=qdx h;rw [hd] at hD;have HN9:Hid (ps.length=9):=hn9;clear h hd hc hok hwf hbl hn9;go_enter Tryz.func10,Tryz.ntmps10
 go_upto_region 2 with (first | (go_at_call 5;refine hD.mono ?_;clear hD;rintro e w2 ⟨v,lo,hlo,rfl,hO,b2⟩;unfold tbC));have hT:=(hO.below (qa0 w2 (.cells (qC tb v) 32))).at;have hB3:=belT b2 (qa0 w2 (.cells (qC tb v) 32));have hV3:=heap_alloc_new w2 (.cells (qC tb v) 32);have hcells:(fun X W=>qP W X tb v) w2.heap.size (w2.alloc (.cells (qC tb v) 32)):=by
  refine ⟨?_,?_,?_,?_,?_,?_,?_,?_,?_,?_,?_,?_,?_⟩ <;> (rw [qcr hV3];rfl)
 have hQ:=HP.out _ v hT;unfold tbC at hQ;clear hO hT hV3 b2 HP;generalize w2.alloc (.cells (qC tb v) 32)=w3 at *;obtain ⟨c0,c1,c2,c3,c4,c5,c6,c7,c8,c9,c10,c11,c12⟩:=hcells;go_wp2_with (first | (go_at_call 26;refine hQ.mono ?_;clear hQ c0 c1 c2 c3 c4 c5 c6 c7 c8 c9 c10 c11 c12;rintro e w4 ⟨⟨sa,sn,sc⟩,rfl,r4,b4⟩;dsimp only [slT];have hsn:Hid (sn=ps.length):=r4.n;have hsn1:sn≤9:=(by have:=hsn.out;have:=HN9.out;omega)));have H4:Hid (RowsAt w4 3 (pceP w4) ⟨sa,sn,sc⟩ ps∧sn=ps.length∧qB w w4):=⟨r4,hsn.out,belT hB3 b4⟩;clear r4 b4 hsn hB3;have HI:Hid (w4.ownsRow w4.heap.size 48 4 qZ 0 (prC 0 (ps.take 0))∧qB w4 w4):=⟨by simpa [prC] using World.ownsRow_nil w4 w4.heap.size 48 4,Below.refl _ _⟩;go_loopw [6,7,9,21] (fun v6 v7 _ v21 wr=>∃(k:Nat) (va:Option Addr) (vc:Nat),k≤sn∧v21=I k∧v6=.slice va k vc∧Hid (v7=I ((flP (ps.take k)).length:Nat))∧Hid (wr.ownsRow w4.heap.size 48 4 (.slice va k vc) k (prC 0 (ps.take k))∧qB w4 wr)) (fun _ _ _ v21 _=>sn - (intOf v21).toNat)
 case atStart=>exact ⟨0,none,0,by omega,rfl,rfl,rfl,HI.out⟩
 case round=>
  clear HI;obtain ⟨k,va,vc,hk,rfl,rfl,HV7,HJ⟩:=hrel;have hv7:=HV7.out;subst hv7;by_cases hlt:k < sn
  ·have hltI:(k:Int) < sn:=by omega
   obtain ⟨x,hx⟩:∃x,ps[k]?=some x:=⟨_,List.getElem?_eq_getElem (by rw [←H4.out.2.1];exact hlt)⟩
   obtain ⟨g,off,ea,hg,hr⟩:=(H4.out.1).row k _ hx;obtain ⟨y0,z0,e0⟩:=hr 0 (by omega);obtain ⟨y1,z1,e1⟩:=hr 1 (by omega);obtain ⟨y2,z2,e2⟩:=hr 2 (by omega);have e0':y0=I x.1:=e0;have e1':y1=I x.2.1:=e1;have e2':rdV w4 1 y2 x.2.2.length (Bs8 x.2.2):=e2;obtain ⟨xa,xc,rfl⟩:=qh4 e2';subst e0' e1';have q0:wr.cell? ⟨g,off+k * 3,none⟩=some (I x.1):=by rw [qa5 HJ.out.2 _ _ hg];exact z0
   have q1:wr.cell? ⟨g,off+k * 3+1,none⟩=some (I x.2.1):=by rw [qa5 HJ.out.2 _ _ hg];exact z1
   have q2:wr.cell? ⟨g,off+k * 3+2,none⟩=some (.slice xa x.2.2.length xc):=by rw [qa5 HJ.out.2 _ _ hg];exact z2
   have hf:=qgq hx;have hle:=Nat.le_trans (qjw ps (k+1)) HL.out;have hq1:(flP (ps.take k)).length+x.2.2.length≤1000000:=by rw [hf,List.length_append] at hle;exact hle
   have HF:Hid ((flP (ps.take (k+1))).length=(flP (ps.take k)).length+x.2.2.length):=by show _=_;rw [hf,List.length_append]
   have HS:Hid (prC 0 (ps.take (k+1))=prC 0 (ps.take k)++prX x (flP (ps.take k)).length):=by show _=_;rw [qfb hx,qfo,Nat.zero_add]
   have ha:sa=some ⟨g,off,none⟩:=ea;obtain ⟨xk,xn,xb⟩:=x;dsimp only at *;have hb4:=qa0 wr (pcO xk xn (.slice xa xb.length xc));have hv4:=heap_alloc_new wr (pcO xk xn (.slice xa xb.length xc));have J1:Hid ((wr.alloc (pcO xk xn (.slice xa xb.length xc))).ownsRow w4.heap.size 48 4 (.slice va k vc) k (prC 0 (ps.take k))∧qB w4 (wr.alloc (pcO xk xn (.slice xa xb.length xc)))):=⟨qad HJ.out.1 hb4,belT HJ.out.2 hb4⟩;have y0:(wr.alloc (pcO xk xn (.slice xa xb.length xc))).cell? ⟨wr.heap.size,0,none⟩=some (I xk):=by rw [qcr hv4];rfl
   have y1:(wr.alloc (pcO xk xn (.slice xa xb.length xc))).cell? ⟨wr.heap.size,1,none⟩=some (I xn):=by rw [qcr hv4];rfl
   have y2:(wr.alloc (pcO xk xn (.slice xa xb.length xc))).cell? ⟨wr.heap.size,2,none⟩=some (.slice xa xb.length xc):=by rw [qcr hv4];rfl
   have hv5:=hv4;have hwl:wr.heap.size < (wr.alloc (pcO xk xn (.slice xa xb.length xc))).heap.size:=qa6 hv4;clear hr z0 z1 z2 hx ea hg e0 e1 e2 e2' hf hle hb4 hv4 HJ HV7 HL;subst ha;generalize hO':(flP (ps.take k)).length=ofs at *;clear hO';go_upto_region 9 with fail;clear q0 q1 q2;generalize wr.alloc (pcO xk xn (.slice xa xb.length xc))=w5 at *;generalize wr.heap.size=X5 at *;have hown:=J1.out.1;have hbs:=J1.out.2.size;have hO:=hown.alloc (.cells #[I xk,I ofs,I xb.length,I xn] 48);have hnew:=qaz w5 #[I xk,I ofs,I xb.length,I xn] 48;have hone:∀u∈(#[I xk,I ofs,I xb.length,I xn]:Array Value).toList,u.oneCell'=true:=by
    intro u hu;simp only [List.mem_cons,List.not_mem_nil,or_false] at hu;rcases hu with rfl | rfl | rfl | rfl <;> rfl
   have hsz:w4.heap.size≤(w5.alloc (.cells #[I xk,I ofs,I xb.length,I xn] 48)).heap.size:=Nat.le_trans hbs (qa0 w5 _).size;have Y2:Hid (∀w',(w5.alloc (.cells #[I xk,I ofs,I xb.length,I xn] 48)).grownBy w' (Value.slice va k vc).ownBlock→w'.cell? ⟨X5,2,none⟩=some (.slice xa xb.length xc)):=fun w' hg'=>by
    refine hg'.cell (by rw [qa5 (qa0 w5 _) _ _ hwl];exact y2) ?_;intro e;rcases hown.2 with ⟨q,_⟩ | ⟨g1,cap1,cur1,q,_,hh,_⟩
    ·rw [q] at e;cases e
    ·rw [q] at e
     have e3:X5=g1:=Option.some.inj e;rw [←e3,hv5] at hh;cases hh
   clear hown hbs hwl;go_wp2_with (at_builtin;refine wpList_append_own _ rfl (.tmp 25) (.tmp 35) 41 rfl w4.heap.size 48 i0 _ 4 32 Tryz.underlying41 hi0 hz0 hz1 hz2 rfl (by decide) _ _ _ rfl hO ⟨w5.heap.size,0,none⟩ 1 1 (#[I xk,I ofs,I xb.length,I xn]:Array Value).toList rfl rfl hnew hone (by unfold maxLen;omega) (by omega) hsz ?_;intro v6 w6 ho6 hg6 _;obtain ⟨a6,c6,rfl⟩:=qam ho6;have y6:=Y2.out w6 hg6;have H9:Hid (w6.ownsRow w4.heap.size 48 4 (.slice a6 (k+1) c6) (k+1) (prC 0 (ps.take (k+1)))∧qB w4 w6):=⟨(by rw [HS.out];exact ho6),Below.grown hO (belT J1.out.2 (qa0 w5 _)) hg6⟩;clear ho6 hg6 hO hnew hone hsz y0 y1 y2);go_roundw
   case rel=>exact ⟨k+1,a6,c6,by omega,by go_num,rfl,(by show _=_;rw [HF.out];simp),H9.out⟩
   case measure=>simp [intOf];omega
  ·obtain rfl:k=sn:=by omega
   have hge:¬((k:Int) < k):=by omega
   have HE:Hid (wr.ownsRow w.heap.size 48 4 (.slice va k vc) 9 (prC 0 ps)∧qB w wr):=by
    obtain ⟨q1,q2⟩:=HJ.out;rw [show ps.take k=ps by rw [H4.out.2.1];exact List.take_length] at q1;have hk9:k=9:=by rw [H4.out.2.1];exact HN9.out
    refine ⟨?_,belT H4.out.2.2 q2⟩;have:=qbk q1 H4.out.2.2.size;rw [hk9] at this ⊢;exact this
   clear HJ HV7 H4;go_wp2;refine bodyPost_ret (results_tmp2 Tryz.results10 _ _ _) rfl ?_;exact ⟨_,rfl,HE.out⟩
end Go.Proofs.YtijgopkhdjaolabGreat
namespace Go.Proofs.YtijgopkhdjaolabGreat
open Go.RowKit Go.Shelf Go.Sort
theorem qg4 (w:World) (s1 s2:Sl) (l1 l2:List Int) (h1:RowsAt w 1 intP s1 l1) (h2:RowsAt w 1 intP s2 l2):Calls Tryz.prog 24 #[slT s1,slT s2] w fun e w'=>e=.returned (.bool (decide (l1=l2)))∧qB w w':=by
 obtain ⟨a1,n1,c1⟩:=s1;obtain ⟨a2,n2,c2⟩:=s2;have hn1:Hid (n1=l1.length):=h1.n;have hn2:Hid (n2=l2.length):=h2.n;have hm1:n1≤maxLen:=Nat.le_trans h1.c h1.m;unfold maxLen at hm1;have H1:Hid (RowsAt w 1 intP ⟨a1,n1,c1⟩ l1):=h1;have H2:Hid (RowsAt w 1 intP ⟨a2,n2,c2⟩ l2):=h2;clear h1 h2;show Calls _ _ #[.slice a1 n1 c1,.slice a2 n2 c2] _ _;by_cases hl:n1=n2
 ·subst hl
  go_enter Tryz.func24,Tryz.ntmps24
  go_wp2;go_loopw [5] (fun v13 wr=>∃k:Nat,k≤n1∧v13=I k∧Hid (l1.take k=l2.take k∧qB w wr)) (fun v13 _=>n1 - (intOf v13).toNat)
  case atStart=>exact ⟨0,by omega,rfl,by simp,Below.refl _ _⟩
  case round=>
   obtain ⟨k,hk,rfl,HJ⟩:=hrel;by_cases hlt:k < n1
   ·have hltI:(k:Int) < n1:=by omega
    have hk1:k < l1.length:=by rw [←hn1.out];exact hlt
    have hk2:k < l2.length:=by rw [←hn2.out];exact hlt
    obtain ⟨g1,o1,e1,q1⟩:=qfm H1.out hk1 HJ.out.2;obtain ⟨g2,o2,e2,q2⟩:=qfm H2.out hk2 HJ.out.2;have e1':a1=some ⟨g1,o1,none⟩:=e1;have e2':a2=some ⟨g2,o2,none⟩:=e2;clear e1 e2;subst e1' e2';by_cases hx:l1[k]=l2[k]
    ·have HT:Hid (l1.take (k+1)=l2.take (k+1)∧qB w wr):=⟨ql5 hk1 hk2 HJ.out.1 hx,HJ.out.2⟩
     clear HJ;rw [←hx] at q2;generalize l1[k]=x at *;clear hk1 hk2 hx;go_upto_region 6 with fail;go_region_held_law (fun W=>W.cell? ⟨g1,o1+k,none⟩=some (I x)∧W.cell? ⟨g2,o2+k,none⟩=some (I x)) (first | exact ⟨q1,q2⟩ | (go_keep;done)) (fail)
     go_wp2;go_roundw
     case rel=>exact ⟨k+1,by omega,by go_num,HT.out.1,HT.out.2.drew⟩
     case measure=>simp [intOf];omega
    ·have HN:Hid (¬l1=l2∧qB w wr):=⟨fun e=>hx (by subst e;rfl),HJ.out.2⟩
     clear HJ;obtain ⟨x,ex⟩:∃x,x=l1[k]:=⟨_,rfl⟩
     obtain ⟨y,ey⟩:∃y,y=l2[k]:=⟨_,rfl⟩
     rw [←ex] at q1 hx;rw [←ey] at q2 hx;clear ex ey hk1 hk2;go_upto_region 6 with fail;go_region_held_law (fun W=>W.cell? ⟨g1,o1+k,none⟩=some (I x)∧W.cell? ⟨g2,o2+k,none⟩=some (I y)) (first | exact ⟨q1,q2⟩ | (go_keep;done)) (fail)
     go_wp2;go_ret;exact ⟨by rw [decide_eq_false HN.out.1];rfl,HN.out.2.drew⟩
   ·obtain rfl:k=n1:=by omega
    have hge:¬((k:Int) < k):=by omega
    have HE:Hid (l1=l2∧qB w wr):=⟨by have:=HJ.out.1;rwa [show l1.take k=l1 by rw [hn1.out];exact List.take_length,show l2.take k=l2 by rw [hn2.out];exact List.take_length] at this,HJ.out.2⟩;clear HJ;go_wp2;go_ret;exact ⟨by rw [decide_eq_true HE.out.1];rfl,HE.out.2⟩
 ·have hlI:¬((n1:Int)=n2):=by omega
  have HN:Hid (¬l1=l2):=fun e=>hl (by rw [hn1.out,hn2.out,e])
  go_enter Tryz.func24,Tryz.ntmps24
  go_wp2;go_ret;exact ⟨by rw [decide_eq_false HN.out];rfl,Below.refl _ _⟩
def lenL (tb:Tb):List Int:=[(tb.tasks.length:Int),tb.rings.length,tb.ress.length,tb.ctrs.length,tb.als.length,tb.isrs.length,tb.msgs.length]
theorem qic (w:World) (tb:Tb) (v:Ts) (h:TbAt w tb v):Calls Tryz.prog 25 #[.agg (tbC tb v)] w fun e w'=>∃s,e=.returned (slT s)∧RowsAt w' 1 intP s (lenL tb)∧qB w w':=by
 have hL:[(v.t.n:Int),v.g.n,v.r.n,v.k.n,v.a.n,v.i.n,v.s.n]=lenL tb:=by
  have h0:v.t.n=_:=h.t.n;have h1:v.g.n=_:=h.g.n;have h2:v.r.n=_:=h.r.n;have h3:v.k.n=_:=h.k.n;have h4:v.a.n=_:=h.a.n;have h5:v.i.n=_:=h.i.n;have h6:v.s.n=_:=h.s.n;unfold lenL;rw [←h0,←h1,←h2,←h3,←h4,←h5,←h6]
 have HL:Hid ([(v.t.n:Int),v.g.n,v.r.n,v.k.n,v.a.n,v.i.n,v.s.n]=lenL tb):=hL;clear h hL;unfold tbC;go_enter Tryz.func25,Tryz.ntmps25
 go_wp2;go_ret;refine ⟨⟨some ⟨w.heap.size+1,0,none⟩,7,7⟩,rfl,?_,belT (qa0 w _) (qa0 _ _)⟩;rw [←HL.out];have hv:=heap_alloc_new (w.alloc (.cells (qC tb v) 32)) (.cells #[I v.t.n,I v.g.n,I v.r.n,I v.k.n,I v.a.n,I v.i.n,I v.s.n] 3);rw [show (w.alloc (.cells (qC tb v) 32)).heap.size=w.heap.size+1 by simp] at hv;refine ⟨rfl,Nat.le_refl _,by show 7≤maxLen;unfold maxLen;omega,fun j x hj=>⟨w.heap.size+1,0,rfl,qa6 hv,fun i hi=>?_⟩⟩;obtain rfl:i=0:=by omega
 refine ⟨I x,?_,rfl⟩;rw [qcr hv,Nat.mul_one,Nat.zero_add,Nat.add_zero];match j,hj with
 | 0,hj | 1,hj | 2,hj | 3,hj | 4,hj | 5,hj | 6,hj=>simp at hj ⊢;exact hj
end Go.Proofs.YtijgopkhdjaolabGreat
namespace Go.Proofs.YtijgopkhdjaolabGreat
open Go.RowKit Go.Shelf Go.Sort
set_option maxHeartbeats 40000000
theorem qpy {W:World} {Z T:Nat} {z0 z1 z2 z3 z4 z5 z6 z7:Value} (v0 v1 v2 v3 v4 v5 v6 v7:Value) (h0:W.heap[Z]?=some (.cells #[z0,z1,z2,z3,z4,z5,z6,z7] T)):(W.heap[Z]?=some (.cells #[z0,z1,z2,z3,z4,z5,z6,z7] T)∧W.cell? ⟨Z,0,none⟩=some z0∧W.frozen? ⟨Z,0,none⟩=false)∧((W.setCell ⟨Z,0,none⟩ v0).heap[Z]?=some (.cells #[v0,z1,z2,z3,z4,z5,z6,z7] T)∧(W.setCell ⟨Z,0,none⟩ v0).cell? ⟨Z,1,none⟩=some z1∧(W.setCell ⟨Z,0,none⟩ v0).frozen? ⟨Z,1,none⟩=false)∧(((W.setCell ⟨Z,0,none⟩ v0).setCell ⟨Z,1,none⟩ v1).heap[Z]?=some (.cells #[v0,v1,z2,z3,z4,z5,z6,z7] T)∧((W.setCell ⟨Z,0,none⟩ v0).setCell ⟨Z,1,none⟩ v1).cell? ⟨Z,2,none⟩=some z2∧((W.setCell ⟨Z,0,none⟩ v0).setCell ⟨Z,1,none⟩ v1).frozen? ⟨Z,2,none⟩=false)∧((((W.setCell ⟨Z,0,none⟩ v0).setCell ⟨Z,1,none⟩ v1).setCell ⟨Z,2,none⟩ v2).heap[Z]?=some (.cells #[v0,v1,v2,z3,z4,z5,z6,z7] T)∧(((W.setCell ⟨Z,0,none⟩ v0).setCell ⟨Z,1,none⟩ v1).setCell ⟨Z,2,none⟩ v2).cell? ⟨Z,3,none⟩=some z3∧(((W.setCell ⟨Z,0,none⟩ v0).setCell ⟨Z,1,none⟩ v1).setCell ⟨Z,2,none⟩ v2).frozen? ⟨Z,3,none⟩=false)∧(((((W.setCell ⟨Z,0,none⟩ v0).setCell ⟨Z,1,none⟩ v1).setCell ⟨Z,2,none⟩ v2).setCell ⟨Z,3,none⟩ v3).heap[Z]?=some (.cells #[v0,v1,v2,v3,z4,z5,z6,z7] T)∧((((W.setCell ⟨Z,0,none⟩ v0).setCell ⟨Z,1,none⟩ v1).setCell ⟨Z,2,none⟩ v2).setCell ⟨Z,3,none⟩ v3).cell? ⟨Z,4,none⟩=some z4∧((((W.setCell ⟨Z,0,none⟩ v0).setCell ⟨Z,1,none⟩ v1).setCell ⟨Z,2,none⟩ v2).setCell ⟨Z,3,none⟩ v3).frozen? ⟨Z,4,none⟩=false)∧((((((W.setCell ⟨Z,0,none⟩ v0).setCell ⟨Z,1,none⟩ v1).setCell ⟨Z,2,none⟩ v2).setCell ⟨Z,3,none⟩ v3).setCell ⟨Z,4,none⟩ v4).heap[Z]?=some (.cells #[v0,v1,v2,v3,v4,z5,z6,z7] T)∧(((((W.setCell ⟨Z,0,none⟩ v0).setCell ⟨Z,1,none⟩ v1).setCell ⟨Z,2,none⟩ v2).setCell ⟨Z,3,none⟩ v3).setCell ⟨Z,4,none⟩ v4).cell? ⟨Z,5,none⟩=some z5∧(((((W.setCell ⟨Z,0,none⟩ v0).setCell ⟨Z,1,none⟩ v1).setCell ⟨Z,2,none⟩ v2).setCell ⟨Z,3,none⟩ v3).setCell ⟨Z,4,none⟩ v4).frozen? ⟨Z,5,none⟩=false)∧(((((((W.setCell ⟨Z,0,none⟩ v0).setCell ⟨Z,1,none⟩ v1).setCell ⟨Z,2,none⟩ v2).setCell ⟨Z,3,none⟩ v3).setCell ⟨Z,4,none⟩ v4).setCell ⟨Z,5,none⟩ v5).heap[Z]?=some (.cells #[v0,v1,v2,v3,v4,v5,z6,z7] T)∧((((((W.setCell ⟨Z,0,none⟩ v0).setCell ⟨Z,1,none⟩ v1).setCell ⟨Z,2,none⟩ v2).setCell ⟨Z,3,none⟩ v3).setCell ⟨Z,4,none⟩ v4).setCell ⟨Z,5,none⟩ v5).cell? ⟨Z,6,none⟩=some z6∧((((((W.setCell ⟨Z,0,none⟩ v0).setCell ⟨Z,1,none⟩ v1).setCell ⟨Z,2,none⟩ v2).setCell ⟨Z,3,none⟩ v3).setCell ⟨Z,4,none⟩ v4).setCell ⟨Z,5,none⟩ v5).frozen? ⟨Z,6,none⟩=false)∧((((((((W.setCell ⟨Z,0,none⟩ v0).setCell ⟨Z,1,none⟩ v1).setCell ⟨Z,2,none⟩ v2).setCell ⟨Z,3,none⟩ v3).setCell ⟨Z,4,none⟩ v4).setCell ⟨Z,5,none⟩ v5).setCell ⟨Z,6,none⟩ v6).heap[Z]?=some (.cells #[v0,v1,v2,v3,v4,v5,v6,z7] T)∧(((((((W.setCell ⟨Z,0,none⟩ v0).setCell ⟨Z,1,none⟩ v1).setCell ⟨Z,2,none⟩ v2).setCell ⟨Z,3,none⟩ v3).setCell ⟨Z,4,none⟩ v4).setCell ⟨Z,5,none⟩ v5).setCell ⟨Z,6,none⟩ v6).cell? ⟨Z,7,none⟩=some z7∧(((((((W.setCell ⟨Z,0,none⟩ v0).setCell ⟨Z,1,none⟩ v1).setCell ⟨Z,2,none⟩ v2).setCell ⟨Z,3,none⟩ v3).setCell ⟨Z,4,none⟩ v4).setCell ⟨Z,5,none⟩ v5).setCell ⟨Z,6,none⟩ v6).frozen? ⟨Z,7,none⟩=false)∧((((((((W.setCell ⟨Z,0,none⟩ v0).setCell ⟨Z,1,none⟩ v1).setCell ⟨Z,2,none⟩ v2).setCell ⟨Z,3,none⟩ v3).setCell ⟨Z,4,none⟩ v4).setCell ⟨Z,5,none⟩ v5).setCell ⟨Z,6,none⟩ v6).setCell ⟨Z,7,none⟩ v7).heap[Z]?=some (.cells #[v0,v1,v2,v3,v4,v5,v6,v7] T):=by
 have c0:W.cell? ⟨Z,0,none⟩=some z0:=by rw [qcr h0];rfl
 have f0:W.frozen? ⟨Z,0,none⟩=false:=frozen_of_row _ _ _ _ _ h0;have h1:(W.setCell ⟨Z,0,none⟩ v0).heap[Z]?=some (.cells #[v0,z1,z2,z3,z4,z5,z6,z7] T):=heap_setCell_same W Z 0 _ _ v0 h0;have c1:(W.setCell ⟨Z,0,none⟩ v0).cell? ⟨Z,1,none⟩=some z1:=by rw [qcr h1];rfl
 have f1:(W.setCell ⟨Z,0,none⟩ v0).frozen? ⟨Z,1,none⟩=false:=frozen_of_row _ _ _ _ _ h1;have h2:(qS2 W Z v0 v1).heap[Z]?=some (.cells #[v0,v1,z2,z3,z4,z5,z6,z7] T):=heap_setCell_same (W.setCell ⟨Z,0,none⟩ v0) Z 1 _ _ v1 h1;have c2:(qS2 W Z v0 v1).cell? ⟨Z,2,none⟩=some z2:=by rw [qcr h2];rfl
 have f2:(qS2 W Z v0 v1).frozen? ⟨Z,2,none⟩=false:=frozen_of_row _ _ _ _ _ h2;have h3:(qS3 W Z v0 v1 v2).heap[Z]?=some (.cells #[v0,v1,v2,z3,z4,z5,z6,z7] T):=heap_setCell_same (qS2 W Z v0 v1) Z 2 _ _ v2 h2;have c3:(qS3 W Z v0 v1 v2).cell? ⟨Z,3,none⟩=some z3:=by rw [qcr h3];rfl
 have f3:(qS3 W Z v0 v1 v2).frozen? ⟨Z,3,none⟩=false:=frozen_of_row _ _ _ _ _ h3;have h4:(qS4 W Z v0 v1 v2 v3).heap[Z]?=some (.cells #[v0,v1,v2,v3,z4,z5,z6,z7] T):=heap_setCell_same (qS3 W Z v0 v1 v2) Z 3 _ _ v3 h3;have c4:(qS4 W Z v0 v1 v2 v3).cell? ⟨Z,4,none⟩=some z4:=by rw [qcr h4];rfl
 have f4:(qS4 W Z v0 v1 v2 v3).frozen? ⟨Z,4,none⟩=false:=frozen_of_row _ _ _ _ _ h4;have h5:(qS5 W Z v0 v1 v2 v3 v4).heap[Z]?=some (.cells #[v0,v1,v2,v3,v4,z5,z6,z7] T):=heap_setCell_same (qS4 W Z v0 v1 v2 v3) Z 4 _ _ v4 h4;have c5:(qS5 W Z v0 v1 v2 v3 v4).cell? ⟨Z,5,none⟩=some z5:=by rw [qcr h5];rfl
 have f5:(qS5 W Z v0 v1 v2 v3 v4).frozen? ⟨Z,5,none⟩=false:=frozen_of_row _ _ _ _ _ h5;have h6:(qS6 W Z v0 v1 v2 v3 v4 v5).heap[Z]?=some (.cells #[v0,v1,v2,v3,v4,v5,z6,z7] T):=heap_setCell_same (qS5 W Z v0 v1 v2 v3 v4) Z 5 _ _ v5 h5;have c6:(qS6 W Z v0 v1 v2 v3 v4 v5).cell? ⟨Z,6,none⟩=some z6:=by rw [qcr h6];rfl
 have f6:(qS6 W Z v0 v1 v2 v3 v4 v5).frozen? ⟨Z,6,none⟩=false:=frozen_of_row _ _ _ _ _ h6;have h7:(qS7 W Z v0 v1 v2 v3 v4 v5 v6).heap[Z]?=some (.cells #[v0,v1,v2,v3,v4,v5,v6,z7] T):=heap_setCell_same (qS6 W Z v0 v1 v2 v3 v4 v5) Z 6 _ _ v6 h6;have c7:(qS7 W Z v0 v1 v2 v3 v4 v5 v6).cell? ⟨Z,7,none⟩=some z7:=by rw [qcr h7];rfl
 have f7:(qS7 W Z v0 v1 v2 v3 v4 v5 v6).frozen? ⟨Z,7,none⟩=false:=frozen_of_row _ _ _ _ _ h7;have h8:(qS8 W Z v0 v1 v2 v3 v4 v5 v6 v7).heap[Z]?=some (.cells #[v0,v1,v2,v3,v4,v5,v6,v7] T):=heap_setCell_same (qS7 W Z v0 v1 v2 v3 v4 v5 v6) Z 7 _ _ v7 h7;exact ⟨⟨h0,c0,f0⟩,⟨h1,c1,f1⟩,⟨h2,c2,f2⟩,⟨h3,c3,f3⟩,⟨h4,c4,f4⟩,⟨h5,c5,f5⟩,⟨h6,c6,f6⟩,⟨h7,c7,f7⟩,h8⟩
theorem qpz {W:World} {Z T:Nat} {z0 z1 z2:Value} (v0 v1 v2:Value) (h0:W.heap[Z]?=some (.cells #[z0,z1,z2] T)):(W.heap[Z]?=some (.cells #[z0,z1,z2] T)∧W.cell? ⟨Z,0,none⟩=some z0∧W.frozen? ⟨Z,0,none⟩=false)∧((W.setCell ⟨Z,0,none⟩ v0).heap[Z]?=some (.cells #[v0,z1,z2] T)∧(W.setCell ⟨Z,0,none⟩ v0).cell? ⟨Z,1,none⟩=some z1∧(W.setCell ⟨Z,0,none⟩ v0).frozen? ⟨Z,1,none⟩=false)∧(((W.setCell ⟨Z,0,none⟩ v0).setCell ⟨Z,1,none⟩ v1).heap[Z]?=some (.cells #[v0,v1,z2] T)∧((W.setCell ⟨Z,0,none⟩ v0).setCell ⟨Z,1,none⟩ v1).cell? ⟨Z,2,none⟩=some z2∧((W.setCell ⟨Z,0,none⟩ v0).setCell ⟨Z,1,none⟩ v1).frozen? ⟨Z,2,none⟩=false)∧(((W.setCell ⟨Z,0,none⟩ v0).setCell ⟨Z,1,none⟩ v1).setCell ⟨Z,2,none⟩ v2).heap[Z]?=some (.cells #[v0,v1,v2] T):=by
 have c0:W.cell? ⟨Z,0,none⟩=some z0:=by rw [qcr h0];rfl
 have f0:W.frozen? ⟨Z,0,none⟩=false:=frozen_of_row _ _ _ _ _ h0;have h1:(W.setCell ⟨Z,0,none⟩ v0).heap[Z]?=some (.cells #[v0,z1,z2] T):=heap_setCell_same W Z 0 _ _ v0 h0;have c1:(W.setCell ⟨Z,0,none⟩ v0).cell? ⟨Z,1,none⟩=some z1:=by rw [qcr h1];rfl
 have f1:(W.setCell ⟨Z,0,none⟩ v0).frozen? ⟨Z,1,none⟩=false:=frozen_of_row _ _ _ _ _ h1;have h2:(qS2 W Z v0 v1).heap[Z]?=some (.cells #[v0,v1,z2] T):=heap_setCell_same (W.setCell ⟨Z,0,none⟩ v0) Z 1 _ _ v1 h1;have c2:(qS2 W Z v0 v1).cell? ⟨Z,2,none⟩=some z2:=by rw [qcr h2];rfl
 have f2:(qS2 W Z v0 v1).frozen? ⟨Z,2,none⟩=false:=frozen_of_row _ _ _ _ _ h2;have h3:(qS3 W Z v0 v1 v2).heap[Z]?=some (.cells #[v0,v1,v2] T):=heap_setCell_same (qS2 W Z v0 v1) Z 2 _ _ v2 h2;exact ⟨⟨h0,c0,f0⟩,⟨h1,c1,f1⟩,⟨h2,c2,f2⟩,h3⟩
def tk (T:Array Value) (i:Nat):Value:=T.getD i undef
theorem qdz (T:Array Value) (h:T.size=263):T=((List.range 263).map (tk T)).toArray:=by
 apply Array.ext
 ·simp [h]
 ·intro i h1 h2
  simp [tk,h1]
theorem rng : List.range 263=[0,1,2,3,4,5,6,7,8,9,10,11,12,13,14,15,16,17,18,19,20,21,22,23,24,25,26,27,28,29,30,31,32,33,34,35,36,37,38,39,40,41,42,43,44,45,46,47,48,49,50,51,52,53,54,55,56,57,58,59,60,61,62,63,64,65,66,67,68,69,70,71,72,73,74,75,76,77,78,79,80,81,82,83,84,85,86,87,88,89,90,91,92,93,94,95,96,97,98,99,100,101,102,103,104,105,106,107,108,109,110,111,112,113,114,115,116,117,118,119,120,121,122,123,124,125,126,127,128,129,130,131,132,133,134,135,136,137,138,139,140,141,142,143,144,145,146,147,148,149,150,151,152,153,154,155,156,157,158,159,160,161,162,163,164,165,166,167,168,169,170,171,172,173,174,175,176,177,178,179,180,181,182,183,184,185,186,187,188,189,190,191,192,193,194,195,196,197,198,199,200,201,202,203,204,205,206,207,208,209,210,211,212,213,214,215,216,217,218,219,220,221,222,223,224,225,226,227,228,229,230,231,232,233,234,235,236,237,238,239,240,241,242,243,244,245,246,247,248,249,250,251,252,253,254,255,256,257,258,259,260,261,262]:=by kernel_rfl
def drp : Nat→Code→Code
 | n+1,.seq _ b=>drp n b
 | _,c=>c
def hdc : Code→Code
 | .seq a _=>a
 | c=>c
def SQ (N R:Act→World→Prop):Exit→Act→World→Prop
 | .normal,a,w=>N a w
 | .ret,a,w=>R a w
 | _,_,_=>False
theorem qbr {P:Program} {c:Code} {K:Act→World→Prop} {Q:Exit→Act→World→Prop} {a:Act} {w:World} (h:c.wp P (SQ K (Q .ret)) a w):c.wp P (Exit.then K Q) a w:=Code.wp_mono (fun e a w q=>by cases e <;> first | exact q | exact q.elim) h
def Seg (i:Nat) (X0 X1:Nat) (w1:World):Prop:=∀(N R:Act→World→Prop) (T:Array Value) (vs:List Deferred) (w:World),T.size=263→T.getD 2 undef=.pointer (some ⟨X0,0,none⟩)→T.getD 3 undef=.pointer (some ⟨X1,0,none⟩)→qB w1 w→(∀T' w',T'.size=263→T'.getD 2 undef=.pointer (some ⟨X0,0,none⟩)→T'.getD 3 undef=.pointer (some ⟨X1,0,none⟩)→qB w1 w'→N ⟨T',vs⟩ w')→(hdc (drp i (Tryz.f8.body.getD .skip))).wp Tryz.prog (SQ N R) ⟨T,vs⟩ w
theorem qt7 {w1:World} {X0 X1:Nat} {tb:Tb} {va vb:Ts} (HS:Hid (∀W,qB w1 W→W.cell? ⟨X0,3,none⟩=some (.slice va.g.a va.g.n va.g.c)∧W.cell? ⟨X1,3,none⟩=some (.slice vb.g.a vb.g.n vb.g.c))) (HT:Hid (∀W,qB w1 W→TbAt W tb va∧TbAt W tb vb)):Seg 3 X0 X1 w1:=by
 intro N R T vs w hT h2 h3 hb hK;have HK:Hid _:=hK;clear hK;rw [qdz T hT];simp only [rng,List.map_cons,List.map_nil,show tk T 2=_ from h2,show tk T 3=_ from h3];clear h2 h3 hT;generalize tk T=tt;conv=>arg 2;whnf
 go_wp2;have HI:Hid (qB w1 w):=hb;clear hb;go_loopw [8] (fun v8 wr=>∃k:Nat,k≤va.g.n∧v8=I k∧Hid (qB w1 wr)) (fun v8 _=>va.g.n - (intOf v8).toNat)
 case atStart=>exact ⟨0,by omega,rfl,HI.out⟩
 case round=>
  clear HI;obtain ⟨k,hk,rfl,HJ⟩:=hrel;obtain ⟨cA,cB⟩:=HS.out wr HJ.out;by_cases hlt:k < va.g.n
  ·skip
   have hltI:(k:Int) < va.g.n:=by omega
   have hltJ:(k:Int) < vb.g.n:=by have h1:=(HT.out wr HJ.out).1.g.n;have h2:=(HT.out wr HJ.out).2.g.n;omega
   have hk1:k < tb.rings.length:=by have:=(HT.out wr HJ.out).1.g.n;omega
   have hmx:va.g.n≤maxLen:=Nat.le_trans (HT.out wr HJ.out).1.g.c (HT.out wr HJ.out).1.g.m;unfold maxLen at hmx;obtain ⟨g1,o1,e1,q0,q1⟩:=atRg (HT.out wr HJ.out).1.g hk1 (Below.refl wr.heap.size wr);obtain ⟨g2,o2,e2,r0,r1⟩:=atRg (HT.out wr HJ.out).2.g hk1 (Below.refl wr.heap.size wr);rw [e1] at cA;rw [e2] at cB;have hN:=fun W=>qpq W tb.rings[k]
   generalize tb.rings[k]=x at *;clear hk1 e1 e2;go_upto_region 12 with fail;go_region_held_law (fun W=>W.cell? ⟨X0,3,none⟩=some (.slice (some ⟨g1,o1,none⟩) va.g.n va.g.c)∧W.cell? ⟨X1,3,none⟩=some (.slice (some ⟨g2,o2,none⟩) vb.g.n vb.g.c)∧W.cell? ⟨g1,o1+k * 2,none⟩=some (I x.prio)∧W.cell? ⟨g1,o1+k * 2+1,none⟩=some (I x.cap)∧W.cell? ⟨g2,o2+k * 2,none⟩=some (I x.prio)∧W.cell? ⟨g2,o2+k * 2+1,none⟩=some (I x.cap)) (first | exact ⟨cA,cB,q0,q1,r0,r1⟩ | (go_keep;done)) (fail)
   have HJ2:Hid (qB w1 wr.drew):=HJ.out.drew;clear HJ cA cB q0 q1 r0 r1;go_wp2;go_roundw
   case rel=>exact ⟨k+1,by omega,by go_num,HJ2.out⟩
   case measure=>simp [intOf];omega
  ·obtain rfl:k=va.g.n:=by omega
   have hge:¬((va.g.n:Int) < va.g.n):=by omega
   clear cB;go_wp2;(try simp only [Exit.inBlock,Exit.then])
   exact HK.out _ _ rfl rfl rfl HJ.out
theorem qt8 {w1:World} {X0 X1:Nat} {tb:Tb} {va vb:Ts} (HS:Hid (∀W,qB w1 W→W.cell? ⟨X0,4,none⟩=some (.slice va.r.a va.r.n va.r.c)∧W.cell? ⟨X1,4,none⟩=some (.slice vb.r.a vb.r.n vb.r.c))) (HT:Hid (∀W,qB w1 W→TbAt W tb va∧TbAt W tb vb)):Seg 4 X0 X1 w1:=by
 intro N R T vs w hT h2 h3 hb hK;have HK:Hid _:=hK;clear hK;rw [qdz T hT];simp only [rng,List.map_cons,List.map_nil,show tk T 2=_ from h2,show tk T 3=_ from h3];clear h2 h3 hT;generalize tk T=tt;conv=>arg 2;whnf
 go_wp2;have HI:Hid (qB w1 w):=hb;clear hb;go_loopw [9] (fun v9 wr=>∃k:Nat,k≤va.r.n∧v9=I k∧Hid (qB w1 wr)) (fun v9 _=>va.r.n - (intOf v9).toNat)
 case atStart=>exact ⟨0,by omega,rfl,HI.out⟩
 case round=>
  clear HI;obtain ⟨k,hk,rfl,HJ⟩:=hrel;obtain ⟨cA,cB⟩:=HS.out wr HJ.out;by_cases hlt:k < va.r.n
  ·skip
   have hltI:(k:Int) < va.r.n:=by omega
   have hltJ:(k:Int) < vb.r.n:=by have h1:=(HT.out wr HJ.out).1.r.n;have h2:=(HT.out wr HJ.out).2.r.n;omega
   have hk1:k < tb.ress.length:=by have:=(HT.out wr HJ.out).1.r.n;omega
   have hmx:va.r.n≤maxLen:=Nat.le_trans (HT.out wr HJ.out).1.r.c (HT.out wr HJ.out).1.r.m;unfold maxLen at hmx;obtain ⟨g1,o1,e1,q0,q1⟩:=atRs (HT.out wr HJ.out).1.r hk1 (Below.refl wr.heap.size wr);obtain ⟨g2,o2,e2,r0,r1⟩:=atRs (HT.out wr HJ.out).2.r hk1 (Below.refl wr.heap.size wr);rw [e1] at cA;rw [e2] at cB;have hN:=fun W=>qpr W tb.ress[k]
   generalize tb.ress[k]=x at *;clear hk1 e1 e2;go_upto_region 17 with fail;go_region_held_law (fun W=>W.cell? ⟨X0,4,none⟩=some (.slice (some ⟨g1,o1,none⟩) va.r.n va.r.c)∧W.cell? ⟨X1,4,none⟩=some (.slice (some ⟨g2,o2,none⟩) vb.r.n vb.r.c)∧W.cell? ⟨g1,o1+k * 2,none⟩=some (.bool x.inner)∧W.cell? ⟨g1,o1+k * 2+1,none⟩=some (I x.ceil)∧W.cell? ⟨g2,o2+k * 2,none⟩=some (.bool x.inner)∧W.cell? ⟨g2,o2+k * 2+1,none⟩=some (I x.ceil)) (first | exact ⟨cA,cB,q0,q1,r0,r1⟩ | (go_keep;done)) (fail)
   have HJ2:Hid (qB w1 wr.drew):=HJ.out.drew;clear HJ cA cB q0 q1 r0 r1;go_wp2;go_roundw
   case rel=>exact ⟨k+1,by omega,by go_num,HJ2.out⟩
   case measure=>simp [intOf];omega
  ·obtain rfl:k=va.r.n:=by omega
   have hge:¬((va.r.n:Int) < va.r.n):=by omega
   clear cB;go_wp2;(try simp only [Exit.inBlock,Exit.then])
   exact HK.out _ _ rfl rfl rfl HJ.out
theorem qt9 {w1:World} {X0 X1:Nat} {tb:Tb} {va vb:Ts} (HS:Hid (∀W,qB w1 W→W.cell? ⟨X0,5,none⟩=some (.slice va.k.a va.k.n va.k.c)∧W.cell? ⟨X1,5,none⟩=some (.slice vb.k.a vb.k.n vb.k.c))) (HT:Hid (∀W,qB w1 W→TbAt W tb va∧TbAt W tb vb)):Seg 5 X0 X1 w1:=by
 intro N R T vs w hT h2 h3 hb hK;have HK:Hid _:=hK;clear hK;rw [qdz T hT];simp only [rng,List.map_cons,List.map_nil,show tk T 2=_ from h2,show tk T 3=_ from h3];clear h2 h3 hT;generalize tk T=tt;conv=>arg 2;whnf
 go_wp2;have HI:Hid (qB w1 w):=hb;clear hb;go_loopw [10] (fun v10 wr=>∃k:Nat,k≤va.k.n∧v10=I k∧Hid (qB w1 wr)) (fun v10 _=>va.k.n - (intOf v10).toNat)
 case atStart=>exact ⟨0,by omega,rfl,HI.out⟩
 case round=>
  clear HI;obtain ⟨k,hk,rfl,HJ⟩:=hrel;obtain ⟨cA,cB⟩:=HS.out wr HJ.out;by_cases hlt:k < va.k.n
  ·skip
   have hltI:(k:Int) < va.k.n:=by omega
   have hltJ:(k:Int) < vb.k.n:=by have h1:=(HT.out wr HJ.out).1.k.n;have h2:=(HT.out wr HJ.out).2.k.n;omega
   have hk1:k < tb.ctrs.length:=by have:=(HT.out wr HJ.out).1.k.n;omega
   have hmx:va.k.n≤maxLen:=Nat.le_trans (HT.out wr HJ.out).1.k.c (HT.out wr HJ.out).1.k.m;unfold maxLen at hmx;obtain ⟨g1,o1,e1,q0,q1,q2⟩:=atCt (HT.out wr HJ.out).1.k hk1 (Below.refl wr.heap.size wr);obtain ⟨g2,o2,e2,r0,r1,r2⟩:=atCt (HT.out wr HJ.out).2.k hk1 (Below.refl wr.heap.size wr);rw [e1] at cA;rw [e2] at cB;have hN:=fun W=>qpu W tb.ctrs[k]
   generalize tb.ctrs[k]=x at *;clear hk1 e1 e2;go_upto_region 22 with fail;go_region_held_law (fun W=>W.cell? ⟨X0,5,none⟩=some (.slice (some ⟨g1,o1,none⟩) va.k.n va.k.c)∧W.cell? ⟨X1,5,none⟩=some (.slice (some ⟨g2,o2,none⟩) vb.k.n vb.k.c)∧W.cell? ⟨g1,o1+k * 3,none⟩=some (qU x.max)∧W.cell? ⟨g1,o1+k * 3+1,none⟩=some (qU x.base)∧W.cell? ⟨g1,o1+k * 3+2,none⟩=some (qU x.min)∧W.cell? ⟨g2,o2+k * 3,none⟩=some (qU x.max)∧W.cell? ⟨g2,o2+k * 3+1,none⟩=some (qU x.base)∧W.cell? ⟨g2,o2+k * 3+2,none⟩=some (qU x.min)) (first | exact ⟨cA,cB,q0,q1,q2,r0,r1,r2⟩ | (go_keep;done)) (fail)
   have HJ2:Hid (qB w1 wr.drew):=HJ.out.drew;clear HJ cA cB q0 q1 q2 r0 r1 r2;go_wp2;go_roundw
   case rel=>exact ⟨k+1,by omega,by go_num,HJ2.out⟩
   case measure=>simp [intOf];omega
  ·obtain rfl:k=va.k.n:=by omega
   have hge:¬((va.k.n:Int) < va.k.n):=by omega
   clear cB;go_wp2;(try simp only [Exit.inBlock,Exit.then])
   exact HK.out _ _ rfl rfl rfl HJ.out
theorem qta {w1:World} {X0 X1:Nat} {tb:Tb} {va vb:Ts} (HS:Hid (∀W,qB w1 W→W.cell? ⟨X0,6,none⟩=some (.slice va.a.a va.a.n va.a.c)∧W.cell? ⟨X1,6,none⟩=some (.slice vb.a.a vb.a.n vb.a.c))) (HT:Hid (∀W,qB w1 W→TbAt W tb va∧TbAt W tb vb)):Seg 6 X0 X1 w1:=by
 intro N R T vs w hT h2 h3 hb hK;have HK:Hid _:=hK;clear hK;rw [qdz T hT];simp only [rng,List.map_cons,List.map_nil,show tk T 2=_ from h2,show tk T 3=_ from h3];clear h2 h3 hT;generalize tk T=tt;conv=>arg 2;whnf
 go_wp2;have HI:Hid (qB w1 w):=hb;clear hb;go_loopw [11] (fun v11 wr=>∃k:Nat,k≤va.a.n∧v11=I k∧Hid (qB w1 wr)) (fun v11 _=>va.a.n - (intOf v11).toNat)
 case atStart=>exact ⟨0,by omega,rfl,HI.out⟩
 case round=>
  clear HI;obtain ⟨k,hk,rfl,HJ⟩:=hrel;obtain ⟨cA,cB⟩:=HS.out wr HJ.out;by_cases hlt:k < va.a.n
  ·skip
   have hltI:(k:Int) < va.a.n:=by omega
   have hltJ:(k:Int) < vb.a.n:=by have h1:=(HT.out wr HJ.out).1.a.n;have h2:=(HT.out wr HJ.out).2.a.n;omega
   have hk1:k < tb.als.length:=by have:=(HT.out wr HJ.out).1.a.n;omega
   have hmx:va.a.n≤maxLen:=Nat.le_trans (HT.out wr HJ.out).1.a.c (HT.out wr HJ.out).1.a.m;unfold maxLen at hmx;obtain ⟨g1,o1,e1,q0,q1,q2,q3,q4,q5,q6⟩:=atAl (HT.out wr HJ.out).1.a hk1 (Below.refl wr.heap.size wr);obtain ⟨g2,o2,e2,r0,r1,r2,r3,r4,r5,r6⟩:=atAl (HT.out wr HJ.out).2.a hk1 (Below.refl wr.heap.size wr);rw [e1] at cA;rw [e2] at cB;have hN:=fun W=>qps W tb.als[k]
   generalize tb.als[k]=x at *;clear hk1 e1 e2;go_upto_region 27 with fail;go_region_held_law (fun W=>W.cell? ⟨X0,6,none⟩=some (.slice (some ⟨g1,o1,none⟩) va.a.n va.a.c)∧W.cell? ⟨X1,6,none⟩=some (.slice (some ⟨g2,o2,none⟩) vb.a.n vb.a.c)∧W.cell? ⟨g1,o1+k * 7,none⟩=some (I x.ctr)∧W.cell? ⟨g1,o1+k * 7+1,none⟩=some (I x.ac.kind)∧W.cell? ⟨g1,o1+k * 7+2,none⟩=some (I x.ac.task)∧W.cell? ⟨g1,o1+k * 7+3,none⟩=some (qU x.ac.mask)∧W.cell? ⟨g1,o1+k * 7+4,none⟩=some (qU x.auto)∧W.cell? ⟨g1,o1+k * 7+5,none⟩=some (qU x.time)∧W.cell? ⟨g1,o1+k * 7+6,none⟩=some (qU x.cycle)∧W.cell? ⟨g2,o2+k * 7,none⟩=some (I x.ctr)∧W.cell? ⟨g2,o2+k * 7+1,none⟩=some (I x.ac.kind)∧W.cell? ⟨g2,o2+k * 7+2,none⟩=some (I x.ac.task)∧W.cell? ⟨g2,o2+k * 7+3,none⟩=some (qU x.ac.mask)∧W.cell? ⟨g2,o2+k * 7+4,none⟩=some (qU x.auto)∧W.cell? ⟨g2,o2+k * 7+5,none⟩=some (qU x.time)∧W.cell? ⟨g2,o2+k * 7+6,none⟩=some (qU x.cycle)) (first | exact ⟨cA,cB,q0,q1,q2,q3,q4,q5,q6,r0,r1,r2,r3,r4,r5,r6⟩ | (go_keep;done)) (fail)
   have HJ2:Hid (qB w1 wr.drew):=HJ.out.drew;clear HJ cA cB q0 q1 q2 q3 q4 q5 q6 r0 r1 r2 r3 r4 r5 r6;go_wp2;go_roundw
   case rel=>exact ⟨k+1,by omega,by go_num,HJ2.out⟩
   case measure=>simp [intOf];omega
  ·obtain rfl:k=va.a.n:=by omega
   have hge:¬((va.a.n:Int) < va.a.n):=by omega
   clear cB;go_wp2;(try simp only [Exit.inBlock,Exit.then])
   exact HK.out _ _ rfl rfl rfl HJ.out
theorem qtb {w1:World} {X0 X1:Nat} {tb:Tb} {va vb:Ts} (HS:Hid (∀W,qB w1 W→W.cell? ⟨X0,8,none⟩=some (.slice va.s.a va.s.n va.s.c)∧W.cell? ⟨X1,8,none⟩=some (.slice vb.s.a vb.s.n vb.s.c))) (HT:Hid (∀W,qB w1 W→TbAt W tb va∧TbAt W tb vb)):Seg 8 X0 X1 w1:=by
 intro N R T vs w hT h2 h3 hb hK;have HK:Hid _:=hK;clear hK;rw [qdz T hT];simp only [rng,List.map_cons,List.map_nil,show tk T 2=_ from h2,show tk T 3=_ from h3];clear h2 h3 hT;generalize tk T=tt;conv=>arg 2;whnf
 go_wp2;have HI:Hid (qB w1 w):=hb;clear hb;go_loopw [15] (fun v15 wr=>∃k:Nat,k≤va.s.n∧v15=I k∧Hid (qB w1 wr)) (fun v15 _=>va.s.n - (intOf v15).toNat)
 case atStart=>exact ⟨0,by omega,rfl,HI.out⟩
 case round=>
  clear HI;obtain ⟨k,hk,rfl,HJ⟩:=hrel;obtain ⟨cA,cB⟩:=HS.out wr HJ.out;by_cases hlt:k < va.s.n
  ·skip
   have hltI:(k:Int) < va.s.n:=by omega
   have hltJ:(k:Int) < vb.s.n:=by have h1:=(HT.out wr HJ.out).1.s.n;have h2:=(HT.out wr HJ.out).2.s.n;omega
   have hk1:k < tb.msgs.length:=by have:=(HT.out wr HJ.out).1.s.n;omega
   have hmx:va.s.n≤maxLen:=Nat.le_trans (HT.out wr HJ.out).1.s.c (HT.out wr HJ.out).1.s.m;unfold maxLen at hmx;obtain ⟨g1,o1,e1,q0,q1,q2,q3,q4,q5,q6,q7⟩:=atMs (HT.out wr HJ.out).1.s hk1 (Below.refl wr.heap.size wr);obtain ⟨g2,o2,e2,r0,r1,r2,r3,r4,r5,r6,r7⟩:=atMs (HT.out wr HJ.out).2.s hk1 (Below.refl wr.heap.size wr);rw [e1] at cA;rw [e2] at cB;have hN:=fun W=>qpt W tb.msgs[k]
   generalize tb.msgs[k]=x at *;clear hk1 e1 e2;go_upto_region 38 with fail;go_region_held_law (fun W=>W.cell? ⟨X0,8,none⟩=some (.slice (some ⟨g1,o1,none⟩) va.s.n va.s.c)∧W.cell? ⟨X1,8,none⟩=some (.slice (some ⟨g2,o2,none⟩) vb.s.n vb.s.c)∧W.cell? ⟨g1,o1+k * 8,none⟩=some (I x.kind)∧W.cell? ⟨g1,o1+k * 8+1,none⟩=some (I x.len)∧W.cell? ⟨g1,o1+k * 8+2,none⟩=some (I x.frm)∧W.cell? ⟨g1,o1+k * 8+3,none⟩=some (.int .u64 (x.init:Int))∧W.cell? ⟨g1,o1+k * 8+4,none⟩=some (I x.queue)∧W.cell? ⟨g1,o1+k * 8+5,none⟩=some (I x.ac.kind)∧W.cell? ⟨g1,o1+k * 8+6,none⟩=some (I x.ac.task)∧W.cell? ⟨g1,o1+k * 8+7,none⟩=some (qU x.ac.mask)∧W.cell? ⟨g2,o2+k * 8,none⟩=some (I x.kind)∧W.cell? ⟨g2,o2+k * 8+1,none⟩=some (I x.len)∧W.cell? ⟨g2,o2+k * 8+2,none⟩=some (I x.frm)∧W.cell? ⟨g2,o2+k * 8+3,none⟩=some (.int .u64 (x.init:Int))∧W.cell? ⟨g2,o2+k * 8+4,none⟩=some (I x.queue)∧W.cell? ⟨g2,o2+k * 8+5,none⟩=some (I x.ac.kind)∧W.cell? ⟨g2,o2+k * 8+6,none⟩=some (I x.ac.task)∧W.cell? ⟨g2,o2+k * 8+7,none⟩=some (qU x.ac.mask)) (first | exact ⟨cA,cB,q0,q1,q2,q3,q4,q5,q6,q7,r0,r1,r2,r3,r4,r5,r6,r7⟩ | (go_keep;done)) (fail)
   have HJ2:Hid (qB w1 wr.drew):=HJ.out.drew;clear HJ cA cB q0 q1 q2 q3 q4 q5 q6 q7 r0 r1 r2 r3 r4 r5 r6 r7;go_wp2;go_roundw
   case rel=>exact ⟨k+1,by omega,by go_num,HJ2.out⟩
   case measure=>simp [intOf];omega
  ·obtain rfl:k=va.s.n:=by omega
   have hge:¬((va.s.n:Int) < va.s.n):=by omega
   clear cB;go_wp2;(try simp only [Exit.inBlock,Exit.then])
   exact HK.out _ _ rfl rfl rfl HJ.out
end Go.Proofs.YtijgopkhdjaolabGreat
namespace Go.Proofs.YtijgopkhdjaolabGreat
open Go.RowKit Go.Shelf Go.Sort
open Go.Proofs.YtijgopkhdjaolabGreat.Ob (leB leV qa8 qag crc Rd RdAll qa7)
def smTk : TkR:=⟨1,0,true,1,0,-1,[],0⟩
def qau : Tb:=⟨0,1,[smTk],[⟨1,1⟩],[],[],[],[],[],1,4,2,0⟩
theorem qo1 : chkP qau=true:=by kernel_rfl
theorem qs5 : (img qau).length=44:=by kernel_rfl
theorem qtc : ((img qau)[0]?,(img qau)[4]?,(img qau)[28]?,(img qau)[30]?)=(some 84,some 44,some 1,some 1):=by kernel_rfl
def qs6 {α:Type}:Except Nat α→Nat
 | .ok _=>0
 | .error c=>c
theorem qqy : qs6 (dec ((img qau).set 30 0))=102:=by kernel_rfl
theorem qs7 : dec ((img qau).set 30 0)=.error 102:=by
 have h:=qqy;cases hd:dec ((img qau).set 30 0) with
 | ok tb=>rw [hd] at h;cases h
 | error c=>rw [hd] at h;exact congrArg _ h
theorem qq0 : WfT qau:=by
 refine ⟨fun x hx=>?_,fun x hx=>?_,fun x hx=>?_,fun x hx=>?_⟩
 ·have hx':x=smTk:=by simpa [qau] using hx
  subst hx';exact ⟨by decide,by decide⟩
 ·cases hx
 ·cases hx
 ·cases hx
end Go.Proofs.YtijgopkhdjaolabGreat
