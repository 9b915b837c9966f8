import Derived.Test.YtijgopkhdjaolabGreatXHs8a
import Derived.Test.YtijgopkhdjaolabGreatXHs9
import Derived.Test.YtijgopkhdjaolabGreatHs8g
import Derived.Test.YtijgopkhdjaolabGreatXHk2
import Derived.Deep.RegionHeldLaw
import Derived.Laws.AppendOwnNone
import Derived.Deep.CutBlock
import Derived.Test.YtijgopkhdjaolabGreatXI6
import Derived.Test.YtijgopkhdjaolabGreatXHo
set_option linter.unusedSimpArgs false
set_option linter.unusedVariables false
set_option maxHeartbeats 16000000
set_option maxRecDepth 100000
namespace Go.Proofs.YtijgopkhdjaolabGreat
open Go.RowKit Go.Shelf Go.Sort
open Go.Proofs.YtijgopkhdjaolabGreat.Ob (leB leV qa8 qag crc Rd RdAll qa7)
abbrev tO (tb:Tb) (v:Ts):Obj:=.cells (qC tb v) 32
theorem qhx (w:World) (x:Int):Calls Tryz.prog 7 #[I x] w fun e w'=>e=.returned (I x)∧w'=w:=by
 go_enter Tryz.func7,Tryz.ntmps7
 go_wp2;go_ret;exact ⟨rfl,rfl⟩
theorem qs8 : dec (img qau)=.ok qau:=qq9 qo1 qq0 (Ob.crc_lt _ _ (by decide))
theorem qs9 : ((prC 0 (psOf qau))[4]?,(prC 0 (psOf qau))[5]?,(prC 0 (psOf qau))[6]?,(prC 0 (psOf qau))[7]?)=(some (I 2),some (I 28),some (I 11),some (I 1)):=by kernel_rfl
theorem qfp {W:World} {X:Nat} {tb:Tb} {v:Ts} (h:W.heap[X]?=some (tO tb v)):qP W X tb v:=by
 refine ⟨?_,?_,?_,?_,?_,?_,?_,?_,?_,?_,?_,?_,?_⟩ <;> (rw [qcr h];rfl)
theorem ow8 {W:World} {base n:Nat} {u:Value} {l:List UInt8} (h:W.ownsRow base 5 1 u n (Bs8 l)) (hn:0 < n):∃g cap,u=.slice (some ⟨g,0,none⟩) n cap∧base≤g∧g < W.heap.size∧n≤cap∧cap≤maxLen∧(∃cur,W.heap[g]?=some (.cells cur 5))∧W.ownsRow base 5 1 (.slice (some ⟨g,0,none⟩) n cap) n (Bs8 l):=by
 have h':=h;rcases h.2 with ⟨-,e⟩ | ⟨g,cap,cur,e1,e2,e3,e4,e5,e6,e7⟩
 ·omega
 ·subst e1
  exact ⟨g,cap,rfl,e2,qa6 e3,e4,e5,⟨cur,e3⟩,h'⟩
theorem qg5 {W:World} {base g cap n:Nat} {l:List UInt8} (h:W.ownsRow base 5 1 (.slice (some ⟨g,0,none⟩) n cap) n (Bs8 l)) {i:Nat} {x:UInt8} (hx:l[i]?=some x):W.cell? ⟨g,i,none⟩=some (.int .u8 (x.toNat:Int)):=by
 have hl:l.length=n:=by have:=h.1;simpa using this
 have hi:i < l.length:=(List.getElem?_eq_some_iff.mp hx).1;rw [h.cellAt i (by omega)];simp [hx,Ob.B]
theorem qqz {W:World} {base g cap n:Nat} {l:List UInt8} (h:W.ownsRow base 5 1 (.slice (some ⟨g,0,none⟩) n cap) n (Bs8 l)) (i:Nat) (x:UInt8):(W.setCell ⟨g,i,none⟩ (.int .u8 (x.toNat:Int))).ownsRow base 5 1 (.slice (some ⟨g,0,none⟩) n cap) n (Bs8 (l.set i x)):=by
 have:=(h.stored i (.int .u8 (x.toNat:Int))).1;simpa [Bs8,Ob.B,List.map_set] using this
theorem TbO.setU {W:World} {lo Y i:Nat} {tb:Tb} {v:Ts} {y:Value} {cs:Array Value} (h:TbO W lo tb v) (hY:W.heap[Y]?=some (.cells cs 5)):TbO (W.setCell ⟨Y,i,none⟩ y) lo tb v:=by
 obtain ⟨⟨a1,a2,a3,a4,a5,a6⟩,⟨b1,b2,b3,b4,b5,b6⟩,⟨c1,c2,c3,c4,c5,c6⟩,⟨d1,d2,d3,d4,d5,d6⟩,⟨e1,e2,e3,e4,e5,e6⟩,⟨f1,f2,f3,f4,f5,f6⟩,⟨g1,g2,g3,g4,g5,g6⟩⟩:=h;exact ⟨⟨a1,a2,a3,a4,qao a5 hY (by decide),RwX.mono a6 (fun _ _ _ q=>qgn q hY (by decide))⟩,⟨b1,b2,b3,b4,qao b5 hY (by decide),b6⟩,⟨c1,c2,c3,c4,qao c5 hY (by decide),c6⟩,⟨d1,d2,d3,d4,qao d5 hY (by decide),d6⟩,⟨e1,e2,e3,e4,qao e5 hY (by decide),e6⟩,⟨f1,f2,f3,f4,qao f5 hY (by decide),RwX.mono f6 (fun _ _ _ q=>qgo q hY (by decide))⟩,⟨g1,g2,g3,g4,qao g5 hY (by decide),g6⟩⟩
theorem eqPt (w:World):(binOp .eql 48 (.agg #[I 2,I 28,I 11,I 1]) (.agg #[I 2,I 28,I 11,I 1])).run Tryz.prog w=.ok (.bool true) w:=by kernel_rfl
theorem qtf {W:World} {base T k n:Nat} {u:Value} {xs:List Value} (h:W.ownsRow base T k u n xs) (hn:0 < n):∃g cap,u=.slice (some ⟨g,0,none⟩) n cap∧base≤g∧g < W.heap.size∧n≤cap∧∃cur,W.heap[g]?=some (.cells cur T)∧W.ownsRow base T k (.slice (some ⟨g,0,none⟩) n cap) n xs:=by
 have h':=h;rcases h.2 with ⟨-,e⟩ | ⟨g,cap,cur,e1,e2,e3,e4,e5,e6,e7⟩
 ·omega
 ·subst e1
  exact ⟨g,cap,rfl,e2,qa6 e3,e4,cur,e3,h'⟩
theorem qid {W:World} {base T k n g i:Nat} {u y:Value} {xs:List Value} (h:W.ownsRow base T k u n xs) (hg:g < base):(W.setCell ⟨g,i,none⟩ y).ownsRow base T k u n xs:=by
 obtain ⟨hl,h0 | ⟨g',cap,cur,hv,hb1,hh,rr⟩⟩:=h
 ·exact ⟨hl,.inl h0⟩
 ·exact ⟨hl,.inr ⟨g',cap,cur,hv,hb1,(heap_setCell_other _ _ _ _ (by show g'≠g;omega)).trans hh,rr⟩⟩
theorem qo3 (w:World):Calls Tryz.prog 12 #[] w fun e w'=>e=.returned (.bool true)∧qB w w':=by
 have hsm:=fun W=>qo2 W
 have HD:Hid (dec (img qau)=.ok qau):=qs8;have HB:Hid (dec ((img qau).set 30 0)=.error 102):=qs7;have HP:Hid (((prC 0 (psOf qau))[4]?,(prC 0 (psOf qau))[5]?,(prC 0 (psOf qau))[6]?,(prC 0 (psOf qau))[7]?)=(some (I 2),some (I 28),some (I 11),some (I 1))):=qs9;have HA:Hid (((img qau)[0]?,(img qau)[4]?,(img qau)[28]?,(img qau)[30]?)=(some 84,some 44,some 1,some 1)):=qtc;have HL:Hid ((img qau).length=44):=qs5;have HAx:=HA;have HE:Hid (∀W v,TbAt W qau v→Calls Tryz.prog 28 #[.agg (tbC qau v)] W fun e w'=>∃u,e=.returned (.tuple #[u,I 0])∧OwB W w' u (img qau)):=fun W v h=>qmb W qau v h qq0 qo1
 generalize qau=sb at *;go_enter Tryz.func12,Tryz.ntmps12
 go_upto_region 2 with (first
  | (go_at_call 29;refine (hsm _).mono ?_;rintro e w1 ⟨v1,rfl,hT1,b1⟩;have hE:=HE.out _ _ hT1)
  | (go_at_call 28;refine hE.mono ?_;clear hE;rintro e w2 ⟨u,rfl,hO,b2⟩;have hO:=qbk hO b1.size;rw [HL.out] at hO;obtain ⟨g,cap,rfl,hg0,hg,hn,hm,⟨cur,hcur⟩,hO⟩:=ow8 hO (by decide)))
 have HA':=HA.out;obtain ⟨i0,i4,i28,i30⟩:(img sb)[0]?=some 84∧(img sb)[4]?=some 44∧(img sb)[28]?=some 1∧(img sb)[30]?=some 1:=by simpa using HA'
 have c0:w2.cell? ⟨g,0,none⟩=some (.int .u8 84):=qg5 hO i0;have c4:w2.cell? ⟨g,4,none⟩=some (.int .u8 44):=qg5 hO i4;have c28:w2.cell? ⟨g,28,none⟩=some (.int .u8 1):=qg5 hO i28;have c30:w2.cell? ⟨g,30,none⟩=some (.int .u8 1):=qg5 hO i30;have B2:Hid (qB w w2):=belT b1 b2;have hRd:Rd w2 (some ⟨g,0,none⟩) 44 cap (img sb):=qa7 hO (by decide);have HO:Hid (w2.ownsRow w.heap.size 5 1 (.slice (some ⟨g,0,none⟩) 44 cap) 44 (Bs8 (img sb))∧w2.heap[g]?=some (.cells cur 5)∧w.heap.size≤g∧g < w2.heap.size):=⟨hO,hcur,hg0,hg⟩;have hD:=qdx hRd;rw [HD.out] at hD;clear HA HA' HE hT1 b1 b2 hO hcur hg0 hg i0 i4 i28 i30;have hn0:=fun W=>qhx W 0
 go_upto_region 4 with (first | (go_at_call 7;refine (hn0 _).mono ?_;rintro e w' ⟨rfl,rfl⟩));clear c0 c4 c28 c30;go_upto_region 5 with (first | (go_at_call 5;refine hD.mono ?_;clear hD;rintro e w3 ⟨v3,lo,hlo,rfl,hO3,b3⟩;unfold tbC));have hb4:=qa0 w3 (tO sb v3);have hV4:=heap_alloc_new w3 (tO sb v3);have hlt:g < w3.heap.size:=Nat.lt_of_lt_of_le HO.out.2.2.2 b3.size;have H4:Hid ((w3.alloc (tO sb v3)).ownsRow w.heap.size 5 1 (.slice (some ⟨g,0,none⟩) 44 cap) 44 (Bs8 (img sb))∧(w3.alloc (tO sb v3)).heap[g]?=some (.cells cur 5)∧w.heap.size≤g∧g < w3.heap.size∧TbO (w3.alloc (tO sb v3)) lo sb v3∧(w3.alloc (tO sb v3)).heap[w3.heap.size]?=some (tO sb v3)∧qB w (w3.alloc (tO sb v3))):=⟨qad (qad HO.out.1 b3) hb4,(hb4.block g hlt).trans ((b3.block g HO.out.2.2.2).trans HO.out.2.1),HO.out.2.2.1,hlt,hO3.below hb4,hV4,belT B2.out (belT b3 hb4)⟩;clear hb4 hV4 hlt hO3 b3 hlo HO B2 hRd;generalize w3.alloc (.cells (qC sb v3) 32)=w4 at *;generalize w3.heap.size=X3 at *;have hRd:Rd w4 (some ⟨g,0,none⟩) 44 cap (img sb):=qa7 H4.out.1 (by decide);have hP:=qib hRd HD.out;go_upto_region 6 with (first | (go_at_call 10;refine hP.mono ?_;clear hP;rintro e w5 ⟨u,rfl,r5,b5⟩;obtain ⟨gp,cp,rfl,hgp,hgp9,hcp,curp,hgpc,r5⟩:=qtf r5 (by decide)));have hgX:g < X3:=H4.out.2.2.2.1;have hX4:X3 < w4.heap.size:=qa6 H4.out.2.2.2.2.2.1;have hg4:g < w4.heap.size:=by omega
 have hO5:=qad H4.out.1 b5;have hc5:=(b5.block g hg4).trans H4.out.2.1;have f30:=hO5.frozenAt 30;have c30:w5.cell? ⟨g,30,none⟩=some (.int .u8 1):=by
  refine qg5 hO5 (x:=1) ?_;have HA':=HAx.out;simp only [Prod.mk.injEq] at HA';exact HA'.2.2.2
 have H6:Hid ((w5.setCell ⟨g,30,none⟩ (.int .u8 0)).ownsRow w.heap.size 5 1 (.slice (some ⟨g,0,none⟩) 44 cap) 44 (Bs8 ((img sb).set 30 0))∧TbO (w5.setCell ⟨g,30,none⟩ (.int .u8 0)) lo sb v3∧(w5.setCell ⟨g,30,none⟩ (.int .u8 0)).heap[X3]?=some (tO sb v3)∧(w5.setCell ⟨g,30,none⟩ (.int .u8 0)).ownsRow w4.heap.size 48 4 (.slice (some ⟨gp,0,none⟩) 9 cp) 9 (prC 0 (psOf sb))∧gp < w5.heap.size∧qB w (w5.setCell ⟨g,30,none⟩ (.int .u8 0))∧X3 < w5.heap.size):=by
  refine ⟨qqz hO5 30 0,(H4.out.2.2.2.2.1.below b5).setU hc5,?_,?_,hgp9,qak (belT H4.out.2.2.2.2.2.2 b5) H4.out.2.2.1,Nat.lt_of_lt_of_le hX4 b5.size⟩
  ·rw [heap_setCell_other _ _ _ _ (by show X3≠g;omega)]
   exact (b5.block X3 hX4).trans H4.out.2.2.2.2.2.1
  ·exact qid r5 (by omega)
 clear hO5 hc5 r5 b5 H4 hRd hgpc hgp hgp9;go_upto_region 7 with fail;clear c30 f30;have hs6:(w5.setCell ⟨g,30,none⟩ (.int .u8 0)).heap.size=w5.heap.size:=by simp
 have hg6:gp < (w5.setCell ⟨g,30,none⟩ (.int .u8 0)).heap.size:=by rw [hs6];exact H6.out.2.2.2.2.1
 have hX6:X3 < (w5.setCell ⟨g,30,none⟩ (.int .u8 0)).heap.size:=by rw [hs6];exact H6.out.2.2.2.2.2.2
 generalize w5.setCell ⟨g,30,none⟩ (.int .u8 0)=w6 at *;have hRd6:Rd w6 (some ⟨g,0,none⟩) 44 cap ((img sb).set 30 0):=qa7 H6.out.1 (by decide);have hD:=qdx hRd6;rw [HB.out] at hD;unfold DP zT at hD;clear hs6 hRd6;go_upto_region 8 with (first | (go_at_call 5;refine hD.mono ?_;clear hD;rintro e w7 ⟨rfl,b7⟩));have b8:=belT b7 (qa0 w7 (.cells qV 32));have HBF:Hid (qB w (w7.alloc (.cells qV 32))):=belT H6.out.2.2.2.2.2.1 b8;have hX8:=(b8.block X3 hX6).trans H6.out.2.2.1;have hp8:=qad H6.out.2.2.2.1 b8;have hT8:=(H6.out.2.1.below b8).at;have hsz:=b8.size;clear b7 b8 H6 HB;generalize w7.alloc (.cells qV 32)=w8 at *;have hPT:=HP.out;have HS:Hid (∀W,qB w8 W→W.cell? ⟨X3,0,none⟩=some (I sb.uses)∧W.cell? ⟨X3,1,none⟩=some (I sb.modes)∧W.cell? ⟨X3,2,none⟩=some (.slice v3.t.a v3.t.n v3.t.c)∧W.cell? ⟨X3,3,none⟩=some (.slice v3.g.a v3.g.n v3.g.c)∧W.cell? ⟨X3,4,none⟩=some (.slice v3.r.a v3.r.n v3.r.c)∧W.cell? ⟨X3,5,none⟩=some (.slice v3.k.a v3.k.n v3.k.c)∧W.cell? ⟨X3,6,none⟩=some (.slice v3.a.a v3.a.n v3.a.c)∧W.cell? ⟨X3,7,none⟩=some (.slice v3.i.a v3.i.n v3.i.c)∧W.cell? ⟨X3,8,none⟩=some (.slice v3.s.a v3.s.n v3.s.c)∧W.cell? ⟨X3,9,none⟩=some (I sb.depth)∧W.cell? ⟨X3,10,none⟩=some (I sb.frames)∧W.cell? ⟨X3,11,none⟩=some (I sb.errors)∧W.cell? ⟨X3,12,none⟩=some (I sb.calls)∧W.cell? ⟨gp,4,none⟩=some (I 2)∧W.cell? ⟨gp,5,none⟩=some (I 28)∧W.cell? ⟨gp,6,none⟩=some (I 11)∧W.cell? ⟨gp,7,none⟩=some (I 1)):=fun W hW=>by
  obtain ⟨x0,x1,x2,x3,x4,x5,x6,x7,x8,x9,x10,x11,x12⟩:=qfp ((hW.block X3 (Nat.lt_of_lt_of_le hX6 hsz)).trans hX8);have hp9:=qad hp8 hW;refine ⟨x0,x1,x2,x3,x4,x5,x6,x7,x8,x9,x10,x11,x12,?_,?_,?_,?_⟩ <;> (rw [hp9.cellAt _ (by decide)];simp only [Prod.mk.injEq] at hPT;first | exact hPT.1 | exact hPT.2.1 | exact hPT.2.2.1 | exact hPT.2.2.2)
 have HT:Hid (∀W,qB w8 W→TbAt W sb v3):=fun W hW=>hT8.below hW
 clear hX8 hp8 hT8 hPT hX6 hg6 hsz HP;have HSM:Hid (∀W va vb,TbAt W sb va→TbAt W sb vb→Calls Tryz.prog 8 #[.agg (tbC sb va),.agg (tbC sb vb)] W fun e w'=>e=.returned (.bool true)∧qB W w'):=fun W va vb h1 h2=>qhh W sb va vb h1 h2
 have HSP:Hid (∀W va vb,TbAt W sb va→TbAt W sb vb→Calls Tryz.prog 30 #[.agg (tbC sb va),.agg (tbC sb vb)] W fun e w'=>e=.returned (.bool true)∧qB W w'):=fun W va vb h1 h2=>same_any W sb va vb h1 h2
 have hnn:=fun W (x:Int)=>qhx W x
 have hep:=fun W=>eqPt W
 have HY:=HS.out w8.drew (Below.refl w8.heap.size w8).drew;have hbz:qB w8 w8.drew:=(Below.refl w8.heap.size w8).drew;unfold tbC at hsm HSM HSP;go_region_held_law (fun W=>W.cell? ⟨X3,0,none⟩=some (I sb.uses)∧W.cell? ⟨X3,1,none⟩=some (I sb.modes)∧W.cell? ⟨X3,2,none⟩=some (.slice v3.t.a v3.t.n v3.t.c)∧W.cell? ⟨X3,3,none⟩=some (.slice v3.g.a v3.g.n v3.g.c)∧W.cell? ⟨X3,4,none⟩=some (.slice v3.r.a v3.r.n v3.r.c)∧W.cell? ⟨X3,5,none⟩=some (.slice v3.k.a v3.k.n v3.k.c)∧W.cell? ⟨X3,6,none⟩=some (.slice v3.a.a v3.a.n v3.a.c)∧W.cell? ⟨X3,7,none⟩=some (.slice v3.i.a v3.i.n v3.i.c)∧W.cell? ⟨X3,8,none⟩=some (.slice v3.s.a v3.s.n v3.s.c)∧W.cell? ⟨X3,9,none⟩=some (I sb.depth)∧W.cell? ⟨X3,10,none⟩=some (I sb.frames)∧W.cell? ⟨X3,11,none⟩=some (I sb.errors)∧W.cell? ⟨X3,12,none⟩=some (I sb.calls)∧W.cell? ⟨gp,4,none⟩=some (I 2)∧W.cell? ⟨gp,5,none⟩=some (I 28)∧W.cell? ⟨gp,6,none⟩=some (I 11)∧W.cell? ⟨gp,7,none⟩=some (I 1)) (first | exact HY | exact HS.out _ (by repeat' (first | exact hbz | apply Below.drew | apply belA)) | (go_keep;done)) (first
  | (go_at_call 7;refine (hnn _ _).mono ?_;rintro e w' ⟨rfl,rfl⟩)
  | (go_at_call 29;refine (hsm _).mono ?_;rintro e wq ⟨vq,rfl,hTq,bq⟩;have hbz:=belT hbz bq;have HY:=HS.out _ hbz;have hTr:=HT.out _ hbz;clear bq)
  | (go_at_call 8;refine (HSM.out _ _ _ hTr hTq).mono ?_;rintro e wr ⟨rfl,br⟩;have hbz:=belT hbz br;have HY:=HS.out _ hbz;clear br hTq hTr)
  | (go_at_call 30;refine (HSP.out _ _ _ hTr hTq).mono ?_;rintro e ws ⟨rfl,bs⟩;have hbz:=belT hbz bs;have HY:=HS.out _ hbz;clear bs hTq hTr))
 go_wp2;go_ret;exact ⟨rfl,belT HBF.out hbz⟩
theorem qes {ops:Array Oper} {rest:List Oper} {o:Oper} {a:Act} {w:World} {Q:Exit→Act→World→Prop} (hgd:o.guard=none) (s x:Operand)
  (ho:o.op=.call { callee:=.builtin .append,args:=#[s,x],argTypes:=#[22,22] }) (base:Nat) (v:Value) (n:Nat) (l:List UInt8) (hs:a.eval s=v) (hown:w.ownsRow base 5 1 v n (Bs8 l))
  (ma:Option Addr) (mn mc:Nat) (ml:List UInt8) (hx:a.eval x=.slice ma mn mc) (hR:Rd w ma mn mc ml) (hb:n+mn≤140737488355328) (hbase:base≤w.heap.size)
  (h:∀v' w',w'.ownsRow base 5 1 v' (n+mn) (Bs8 (l++ml))→w.grownBy w' v.ownBlock→wpList Tryz.prog ops Q rest (a.put o.dst v') w'):wpList Tryz.prog ops Q (o :: rest) a w:=by
 obtain ⟨i0,hi,hz0,hz1,hz2⟩:=info_parts qh3;cases ma with
 | none=>
  obtain ⟨rfl,rfl⟩:=hR.hnil rfl;have hl0:ml=[]:=List.eq_nil_of_length_eq_zero hR.hlen;subst hl0;refine wpList_append_own_none hgd s x 22 ho base 5 i0 1 Tryz.underlying22 hi v n (Bs8 l) hs hown hx ?_;have:=h v w (by simpa using hown) (qcf _ _);exact this
 | some ad=>
  refine wpList_append_own w hgd s x 22 ho base 5 i0 (.int .u8 0) 1 1 Tryz.underlying22 hi hz0 hz1 hz2 rfl (by decide) v n (Bs8 l) hs hown ad mn mc (Bs8 ml) hx (by simp [hR.hlen]) (Ob.Rd.news hR) (Ob.one_cells ml) (by unfold maxLen;omega) (by omega) hbase ?_;intro v' w' h1 h2 _;exact h v' w' (by simpa [Bs8] using h1) h2
theorem qfc (w:World) (v:Int) (h0:0≤v) (h1:v < 256):Calls Tryz.prog 90 #[I v] w fun e w'=>∃a c,e=.returned (.slice a 1 c)∧OwB w w' (.slice a 1 c) (e1 v):=by
 obtain ⟨n,rfl⟩:=Int.eq_ofNat_of_zero_le h0;have hL:=Ob.low_any n 1 w (by omega) (by omega) (by omega) (by omega);have hk:IntKind.u64.wrap (n:Int)=n:=by rw [IntKind.wrap_u64];omega
 have hk2:(n:Int) % 18446744073709551616=n:=by omega
 clear h0 h1;go_enter Tryz.func90,Tryz.ntmps90
 go_wp2_with (first | (go_at_call 97;refine hL.mono ?_;clear hL;rintro e w2 ⟨a,c,rfl,ho,hb⟩;have HO:Hid (w2.ownsRow w.heap.size 5 1 (.slice a 1 c) 1 (Bs8 (leB 1 n))∧qB w w2):=⟨ho,hb⟩;clear ho hb));go_ret;refine ⟨a,c,rfl,?_,HO.out.2⟩;show World.ownsRow _ _ _ _ _ (leB 1 n).length (Bs8 (leB 1 n));rw [qa8];exact HO.out.1
theorem qsa (w:World) (v:Int) (h0:0≤v) (h1:v < 65536):Calls Tryz.prog 95 #[I v] w fun e w'=>∃a c,e=.returned (.slice a 2 c)∧OwB w w' (.slice a 2 c) (e2 v):=by
 obtain ⟨n,rfl⟩:=Int.eq_ofNat_of_zero_le h0;have hL:=Ob.low_any n 2 w (by omega) (by omega) (by omega) (by omega);have hk:IntKind.u64.wrap (n:Int)=n:=by rw [IntKind.wrap_u64];omega
 have hk2:(n:Int) % 18446744073709551616=n:=by omega
 clear h0 h1;go_enter Tryz.func95,Tryz.ntmps95
 go_wp2_with (first | (go_at_call 97;refine hL.mono ?_;clear hL;rintro e w2 ⟨a,c,rfl,ho,hb⟩;have HO:Hid (w2.ownsRow w.heap.size 5 1 (.slice a 2 c) 2 (Bs8 (leB 2 n))∧qB w w2):=⟨ho,hb⟩;clear ho hb));go_ret;refine ⟨a,c,rfl,?_,HO.out.2⟩;show World.ownsRow _ _ _ _ _ (leB 2 n).length (Bs8 (leB 2 n));rw [qa8];exact HO.out.1
theorem qo4 (w:World) (n:Nat) (h1:n < 4294967296):Calls Tryz.prog 92 #[(qU n)] w fun e w'=>∃a c,e=.returned (.slice a 4 c)∧OwB w w' (.slice a 4 c) (leB 4 n):=by
 have hL:=Ob.low_any n 4 w (by omega) (by omega) (by omega) (by omega);have hk:IntKind.u64.wrap (n:Int)=n:=by rw [IntKind.wrap_u64];omega
 have hk2:(n:Int) % 18446744073709551616=n:=by omega
 clear h1;go_enter Tryz.func92,Tryz.ntmps92
 go_wp2_with (first | (go_at_call 97;refine hL.mono ?_;clear hL;rintro e w2 ⟨a,c,rfl,ho,hb⟩;have HO:Hid (w2.ownsRow w.heap.size 5 1 (.slice a 4 c) 4 (Bs8 (leB 4 n))∧qB w w2):=⟨ho,hb⟩;clear ho hb));go_ret;refine ⟨a,c,rfl,?_,HO.out.2⟩;show World.ownsRow _ _ _ _ _ (leB 4 n).length (Bs8 (leB 4 n));rw [qa8];exact HO.out.1
theorem qo5 (w:World) (b:Bool):Calls Tryz.prog 91 #[.bool b] w fun e w'=>∃a c,e=.returned (.slice a 1 c)∧OwB w w' (.slice a 1 c) (eF b):=by
 have ho:∀x:UInt8,OwB w (w.alloc (.cells #[.int .u8 (x.toNat:Int)] 5)) (.slice (some ⟨w.heap.size,0,none⟩) 1 1) [x]:=fun x=>⟨World.ownsRow_lit w #[.int .u8 (x.toNat:Int)] 1 (Nat.le_refl _) (by unfold maxLen;omega) rfl,qa0 _ _⟩
 have H1:Hid (OwB w (w.alloc (.cells #[.int .u8 1] 5)) (.slice (some ⟨w.heap.size,0,none⟩) 1 1) (eF true)):=ho 1;have H0:Hid (OwB w (w.alloc (.cells #[.int .u8 0] 5)) (.slice (some ⟨w.heap.size,0,none⟩) 1 1) (eF false)):=ho 0;clear ho;cases b with
 | true=>
  go_enter Tryz.func91,Tryz.ntmps91
  go_wp2;go_ret;exact ⟨_,_,rfl,H1.out⟩
 | false=>
  go_enter Tryz.func91,Tryz.ntmps91
  go_wp2;go_ret;exact ⟨_,_,rfl,H0.out⟩
theorem qr0 (ls:List (List UInt8)) {k:Nat} {l:List UInt8} (h:ls[k]?=some l):(ls.take (k+1)).flatten=(ls.take k).flatten++l:=by
 rw [qfb h];simp
theorem qjx (w:World) (a:Option Addr) (n c:Nat) (ls:List (List UInt8)) (h:RdAll w a n c ls) (hn:ls.length=n) (ht:ls.flatten.length≤100000000):Calls Tryz.prog 89 #[.slice a n c] w fun e w'=>∃u,e=.returned u∧OwB w w' u ls.flatten:=by
 have hsm:=h.hsmall;have HR:Hid (RdAll w a n c ls∧ls.length=n∧ls.flatten.length≤100000000):=⟨h,hn,ht⟩;clear h hn ht;go_enter Tryz.func89,Tryz.ntmps89
 go_wp2;go_loopw [3,4] (fun v3 v4 wr=>∃(k:Nat) (va:Option Addr) (vc:Nat),k≤n∧v4=I k∧v3=.slice va (ls.take k).flatten.length vc∧Hid (wr.ownsRow w.heap.size 5 1 v3 (ls.take k).flatten.length (Bs8 (ls.take k).flatten)∧qB w wr)) (fun _ v4 _=>n - (intOf v4).toNat)
 case atStart=>exact ⟨0,none,0,by omega,rfl,rfl,World.ownsRow_nil _ _ _ _,Below.refl _ _⟩
 case round=>
  obtain ⟨k,va,vc,hk,rfl,rfl,HJ⟩:=hrel;by_cases hlt:k < n
  ·have hltI:(k:Int) < n:=by omega
   obtain ⟨b,off,ea,hcell⟩:=HR.out.1.hcell (by omega);obtain ⟨l,hl⟩:∃l,ls[k]?=some l:=⟨_,List.getElem?_eq_getElem (by rw [HR.out.2.1];exact hlt)⟩
   obtain ⟨a',n',c',hc,hRd⟩:=hcell k l hl;have hc2:wr.cell? ⟨b,off+k,none⟩=some (.slice a' n' c'):=by rw [qa5 HJ.out.2 _ _ (World.block_lt_of_cell? _ _ hc)];exact hc
   have hR2:=hRd.below HJ.out.2;have hln:=hRd.hlen;have HS:Hid ((ls.take (k+1)).flatten=(ls.take k).flatten++l):=qr0 ls hl;have hle:(ls.take k).flatten.length+n'≤100000000:=by
    have h1:=HR.out.2.2;have h2:(ls.take (k+1)).flatten.length≤ls.flatten.length:=by
     have e9:ls.flatten=(ls.take (k+1)).flatten++(ls.drop (k+1)).flatten:=by rw [←List.flatten_append,List.take_append_drop]
     rw [e9,List.length_append];omega
    rw [HS.out,List.length_append] at h2;omega
   subst ea;have hO:=HJ.out.1;have hbs:=HJ.out.2.size;obtain ⟨m,hm⟩:∃m,m=(ls.take k).flatten.length:=⟨_,rfl⟩
   rw [←hm] at hO hle;have HM:Hid (m=(ls.take k).flatten.length):=hm;rw [←hm];clear hm hc hRd hl hcell;go_wp2_with (first | (at_builtin;refine qes rfl _ _ rfl w.heap.size _ m (ls.take k).flatten rfl hO a' n' c' l rfl hR2 (by omega) hbs ?_;intro vp wp hOp hgp;obtain ⟨ap,cp,rfl⟩:=qam hOp;have H9:Hid (wp.ownsRow w.heap.size 5 1 (.slice ap (m+n') cp) (m+n') (Bs8 ((ls.take k).flatten++l))∧qB w wp):=⟨hOp,Below.grown hO HJ.out.2 hgp⟩;clear hOp hgp hO hR2 hc2));have HN:Hid ((ls.take (k+1)).flatten.length=m+n'):=by show _=_;rw [HS.out,List.length_append,←HM.out,hln]
   go_roundw
   case rel=>exact ⟨k+1,ap,cp,by omega,by go_num,by rw [HN.out],by rw [HN.out,HS.out];exact H9.out⟩
   case measure=>simp [intOf];omega
  ·obtain rfl:k=n:=by omega
   have hge:¬((k:Int) < k):=by omega
   have HE:Hid (OwB w wr (.slice va (ls.take k).flatten.length vc) ls.flatten):=by
    obtain ⟨q1,q2⟩:=HJ.out;rw [show ls.take k=ls by rw [←HR.out.2.1];exact List.take_length] at q1 ⊢;exact ⟨q1,q2⟩
   clear HJ;generalize (ls.take k).flatten.length=m at *;go_wp2;go_ret;exact ⟨_,rfl,HE.out⟩
theorem qmc (w:World) (v:Int) (h0:0≤v+1) (h1:v+1 < 256):Calls Tryz.prog 93 #[I v] w fun e w'=>∃a c,e=.returned (.slice a 1 c)∧OwB w w' (.slice a 1 c) (e1 (v+1)):=by
 have hB:=qfc w (v+1) h0 h1;have hw:wrap64 (v+1)=v+1:=by unfold wrap64;omega
 clear h0 h1;go_enter Tryz.func93,Tryz.ntmps93
 go_wp2_with (first | (go_at_call 90;refine hB.mono ?_;clear hB;rintro e w2 ⟨a,c,rfl,ho⟩;have HO:Hid (OwB w w2 (.slice a 1 c) (e1 (v+1))):=ho;clear ho));go_ret;exact ⟨a,c,rfl,HO.out⟩
theorem qo6 (w:World) (s:Sl) (l:List Int) (h:RowsAt w 1 intP s l) (hl:l.length < 256) (hb:∀y∈l,b8 y):Calls Tryz.prog 94 #[slT s] w fun e w'=>∃u,e=.returned u∧OwB w w' u (eL l):=by
 obtain ⟨sa,sn,sc⟩:=s;have hn:sn=l.length:=h.n;have HR:Hid (RowsAt w 1 intP ⟨sa,sn,sc⟩ l∧sn=l.length∧l.length < 256∧∀y∈l,b8 y):=⟨h,hn,hl,hb⟩;have hB:=qfc w (sn:Int) (by omega) (by omega);have hsn:sn < 256:=by omega
 clear h hn hl hb;unfold slT;go_enter Tryz.func94,Tryz.ntmps94
 go_wp2_with (first | (go_at_call 90;refine hB.mono ?_;clear hB;rintro e w2 ⟨a0,c0,rfl,ho⟩;have HO:Hid (w2.ownsRow w.heap.size 5 1 (.slice a0 1 c0) 1 (Bs8 (e1 (sn:Int)))∧qB w w2):=⟨by have:=ho.1;unfold e1 at this;rwa [qa8] at this,ho.2⟩;clear ho));go_loopw [3,4] (fun v3 v4 wr=>∃(k:Nat) (va:Option Addr) (vc:Nat),k≤sn∧v4=I k∧v3=.slice va (1+k) vc∧Hid (wr.ownsRow w.heap.size 5 1 (.slice va (1+k) vc) (1+k) (Bs8 (e1 (sn:Int)++(l.take k).flatMap e1))∧qB w wr)) (fun _ v4 _=>sn - (intOf v4).toNat)
 case atStart=>exact ⟨0,a0,c0,by omega,rfl,rfl,by show _∧_;simpa using HO.out⟩
 case round=>
  clear HO;obtain ⟨k,va,vc,hk,rfl,rfl,HJ⟩:=hrel;by_cases hlt:k < sn
  ·have hltI:(k:Int) < sn:=by omega
   obtain ⟨y,hy⟩:∃y,l[k]?=some y:=⟨_,List.getElem?_eq_getElem (by rw [←HR.out.2.1];exact hlt)⟩
   obtain ⟨g,off,ea,hg,hr⟩:=HR.out.1.row k y hy;obtain ⟨u,hu,he⟩:=hr 0 (by omega);have he':u=I y:=he;subst he';have hc:wr.cell? ⟨g,off+k,none⟩=some (I y):=by rw [qa5 HJ.out.2 _ _ hg];simpa using hu
   have hy8:=HR.out.2.2.2 y (List.mem_of_getElem? hy);have hBy:=qfc wr y hy8.1 hy8.2;have ha:sa=some ⟨g,off,none⟩:=ea;subst ha;have HT:Hid ((l.take (k+1)).flatMap e1=(l.take k).flatMap e1++e1 y):=by show _=_;rw [qfb hy];simp
   clear hr hu he hg ea hy8;go_wp2_with (first
    | (go_at_call 90;refine hBy.mono ?_;clear hBy hc;rintro e w4 ⟨a4,c4,rfl,ho4⟩;have hO:=qad HJ.out.1 ho4.2;have hb4:qB w w4:=belT HJ.out.2 ho4.2;have hR4:Rd w4 a4 1 c4 (e1 y):=qa7 (by have:=ho4.1;unfold e1 at this ⊢;rwa [qa8] at this) (by omega);clear ho4)
    | (at_builtin;refine qes rfl _ _ rfl w.heap.size _ (1+k) (e1 (sn:Int)++(l.take k).flatMap e1) rfl hO a4 1 c4 (e1 y) rfl hR4 (by omega) hb4.size ?_;intro vp wp hOp hgp;obtain ⟨ap,cp,rfl⟩:=qam hOp;have H9:Hid (wp.ownsRow w.heap.size 5 1 (.slice ap (1+k+1) cp) (1+k+1) (Bs8 ((e1 (sn:Int)++(l.take k).flatMap e1)++e1 y))∧qB w wp):=⟨hOp,Below.grown hO hb4 hgp⟩;clear hOp hgp hO hR4 hb4))
   go_roundw
   case rel=>exact ⟨k+1,ap,cp,by omega,by go_num,rfl,by rw [HT.out,←List.append_assoc];exact H9.out⟩
   case measure=>simp [intOf];omega
  ·obtain rfl:k=sn:=by omega
   have hge:¬((k:Int) < k):=by omega
   have HE:Hid (OwB w wr (.slice va (1+k) vc) (eL l)):=by
    obtain ⟨q1,q2⟩:=HJ.out;rw [show l.take k=l by rw [HR.out.2.1];exact List.take_length,HR.out.2.1] at q1;refine ⟨?_,q2⟩;rw [qf8,HR.out.2.1];exact q1
   clear HJ;go_wp2;go_ret;exact ⟨_,rfl,HE.out⟩
theorem qd5 {w w':World} {a:Option Addr} {c n:Nat} {l:List UInt8} (h:OwB w w' (.slice a n c) l) (hl:l.length=n) (hs:n≤1000000):Rd w' a n c l:=qa7 (by have:=h.1;rwa [hl] at this) (by omega)
theorem qjy {W:World} {X:Nat} {us:List (Option Addr×Nat×Nat)} {ls:List (List UInt8)} (h:W.heap[X]?=some (.cells (us.map fun (u:Option Addr×Nat×Nat)=>(.slice u.1 u.2.1 u.2.2:Value)).toArray 22)) (hl:us.length=ls.length) (hs:ls.length≤1000) (hr:∀(i:Nat) (u:Option Addr×Nat×Nat) (l:List UInt8),us[i]?=some u→ls[i]?=some l→Rd W u.1 u.2.1 u.2.2 l):RdAll W (some ⟨X,0,none⟩) ls.length ls.length ls:=by
 refine ⟨rfl,by omega,fun _=>⟨X,0,rfl,fun i l hi=>?_⟩⟩;have hlt:i < ls.length:=(List.getElem?_eq_some_iff.mp hi).1;obtain ⟨u,hu⟩:∃u,us[i]?=some u:=⟨_,List.getElem?_eq_getElem (by omega)⟩
 refine ⟨u.1,u.2.1,u.2.2,?_,hr i u l hu hi⟩;rw [qcr h,Nat.zero_add];simp [hu]
theorem row3 (w:World) {a1 a2 a3:Option Addr} {n1 n2 n3 c1 c2 c3:Nat} {l1 l2 l3:List UInt8} (r1:Rd w a1 n1 c1 l1) (r2:Rd w a2 n2 c2 l2) (r3:Rd w a3 n3 c3 l3) (hs:n1+n2+n3≤10000:=by omega):Calls Tryz.prog 89 #[.slice (some ⟨w.heap.size,0,none⟩) 3 3] (w.alloc (.cells #[.slice a1 n1 c1,.slice a2 n2 c2,.slice a3 n3 c3] 22)) fun e w'=>∃u,e=.returned u∧OwB (w.alloc (.cells #[.slice a1 n1 c1,.slice a2 n2 c2,.slice a3 n3 c3] 22)) w' u [l1,l2,l3].flatten:=by
 have hb:=qa0 w (.cells #[.slice a1 n1 c1,.slice a2 n2 c2,.slice a3 n3 c3] 22);refine qjx _ _ 3 3 [l1,l2,l3] (qjy (us:=[(a1,n1,c1),(a2,n2,c2),(a3,n3,c3)]) (ls:=[l1,l2,l3]) (heap_alloc_new w _) rfl (by simp) (fun i u l hu hl=>?_)) rfl (by simp [r1.hlen,r2.hlen,r3.hlen];omega);match i,hu,hl with
 | 0,hu,hl=>cases hu;cases hl;exact r1.below hb
 | 1,hu,hl=>cases hu;cases hl;exact r2.below hb
 | 2,hu,hl=>cases hu;cases hl;exact r3.below hb
theorem qkh (w:World) (x:AcR) (h:okAc x):Calls Tryz.prog 96 #[.agg #[I x.kind,I x.task,.int .u32 (x.mask:Int)]] w fun e w'=>∃u,e=.returned u∧OwB w w' u (eAc x):=by
 obtain ⟨hk,ht,hm⟩:=h;have hb1:=qa0 w (.cells #[I x.kind,I x.task,.int .u32 (x.mask:Int)] 80);have hv1:=heap_alloc_new w (.cells #[I x.kind,I x.task,.int .u32 (x.mask:Int)] 80);have hB:∀(W:World) (v:Int),b8 v→Calls Tryz.prog 90 #[I v] W fun e w'=>∃a c,e=.returned (.slice a 1 c)∧Rd w' a 1 c (e1 v)∧qB W w':=fun W v h=>(qfc W v h.1 h.2).mono fun e w' ⟨a,c,q1,q2⟩=>⟨a,c,q1,qd5 q2 (by simp [e1,qa8]) (by omega),q2.2⟩
 have hW:∀(W:World),Calls Tryz.prog 92 #[.int .u32 (x.mask:Int)] W fun e w'=>∃a c,e=.returned (.slice a 4 c)∧Rd w' a 4 c (leB 4 x.mask)∧qB W w':=fun W=>(qo4 W x.mask (by omega)).mono fun e w' ⟨a,c,q1,q2⟩=>⟨a,c,q1,qd5 q2 (by simp [qa8]) (by omega),q2.2⟩
 have HS0:Hid (∀W,qB (w.alloc (.cells #[I x.kind,I x.task,.int .u32 (x.mask:Int)] 80)) W→W.cell? ⟨w.heap.size,0,none⟩=some (I x.kind)∧W.cell? ⟨w.heap.size,1,none⟩=some (I x.task)∧W.cell? ⟨w.heap.size,2,none⟩=some (.int .u32 (x.mask:Int))):=fun W hW=>by
  have p:=(hW.block _ (qa6 hv1)).trans hv1;refine ⟨?_,?_,?_⟩ <;> (rw [qcr p];rfl)
 have HBB:Hid (Below w.heap.size w (w.alloc (.cells #[I x.kind,I x.task,.int .u32 (x.mask:Int)] 80))):=hb1;clear hb1 hv1;go_enter Tryz.func96,Tryz.ntmps96
 go_upto_region 1 with fail;generalize w.alloc (.cells #[I x.kind,I x.task,.int .u32 (x.mask:Int)] 80)=w1 at *;generalize hX0:w.heap.size=X0 at *;have HX0:Hid (w.heap.size=X0):=hX0;clear hX0;have HY:=HS0.out w1.drew (Below.refl w1.heap.size w1).drew;have hbz:qB w1 w1.drew:=(Below.refl w1.heap.size w1).drew;go_region_held_law (fun W=>W.cell? ⟨X0,0,none⟩=some (I x.kind)∧W.cell? ⟨X0,1,none⟩=some (I x.task)∧W.cell? ⟨X0,2,none⟩=some (.int .u32 (x.mask:Int))) (first | exact HY | exact HS0.out _ (by repeat' (first | exact hbz | apply Below.drew | apply belA)) | (go_keep;done)) (first
  | (go_at_call 90;refine (hB _ _ (by first | exact hk | exact ht)).mono ?_;first | (have chk:=r1;rintro e w3 ⟨a2,c2,rfl,r2,b3⟩;clear chk;have r1:=r1.below b3;have hbz:=belT hbz b3;have HY:=HS0.out _ hbz;clear b3) | (rintro e w2 ⟨a1,c1,rfl,r1,b2⟩;have hbz:=belT hbz b2;have HY:=HS0.out _ hbz;clear b2))
  | (go_at_call 92;refine (hW _).mono ?_;rintro e w4 ⟨a3,c3,rfl,r3,b4⟩;have r1:=r1.below b4;have r2:=r2.below b4;have hbz:=belT hbz b4;have HY:=HS0.out _ hbz;clear b4)
  | (go_at_call 89;have hR:=row3 w4 r1 r2 r3;refine hR.mono ?_;clear hR r1 r2 r3;rintro e w5 ⟨u,rfl,ho⟩;have HO:Hid (OwB (w4.alloc (.cells #[.slice a1 1 c1,.slice a2 1 c2,.slice a3 4 c3] 22)) w5 u [e1 x.kind,e1 x.task,leB 4 x.mask].flatten∧qB w1 (w4.alloc (.cells #[.slice a1 1 c1,.slice a2 1 c2,.slice a3 4 c3] 22))):=⟨ho,belT hbz (qa0 _ _)⟩;have hbz:=belT (belT hbz (qa0 _ _)) ho.2;have HY:=HS0.out _ hbz;clear ho))
 go_wp2;go_ret;refine ⟨u,rfl,?_⟩;have hB0:=HBB.out;try rw [←HX0.out] at hB0
 have h9:=qc9 (belT hB0 HO.out.2) HO.out.1;simpa [eAc] using h9
theorem qdb {ops:Array Oper} {o:Oper} {a:Act} {w:World} {K:Act→World→Prop} {Q:Exit→Act→World→Prop} {E:Prop} (hgd:o.guard=none) (s x:Operand)
  (ho:o.op=.call { callee:=.builtin .append,args:=#[s,x],argTypes:=#[22,22] })
  (base b2:Nat) (v u:Value) (l r:List UInt8) (hs:a.eval s=v) (hx:a.eval x=u) (hown:w.ownsRow base 5 1 v l.length (Bs8 l)) (hu:w.ownsRow b2 5 1 u r.length (Bs8 r))
  (h63:l.length+r.length≤140737488355328) (hbase:base≤w.heap.size)
  (h:∀v' w',w'.ownsRow base 5 1 v' (l.length+r.length) (Bs8 (l++r))→w.grownBy w' v.ownBlock→K (a.put o.dst v') w') :
  if Region.wanted o (yielded ops a.tmps)=true then Oper.wp Tryz.prog o a w K Q else E:=by
 have hw:Region.wanted o (yielded ops a.tmps)=true:=by simp [Region.wanted,hgd]
 rw [if_pos hw];obtain ⟨i0,hi,hz0,hz1,hz2⟩:=info_parts qh3;obtain ⟨v',w',hr,h2,h3⟩:=qey (P:=Tryz.prog) w base b2 22 o.type 5 i0 (.int .u8 0) 1 1 Tryz.underlying22 hi hz0 hz1 hz2 rfl (by decide) v u l.length r.length (Bs8 l) (Bs8 r) hown (qc7 hu) (Ob.one_cells r) (by unfold maxLen;omega) (by omega) hbase;unfold Oper.wp;simp [execOp,ho,resolve,invoke,builtin,hs,hx,hr,Result.andThen];exact h v' w' (by simpa [Bs8] using h2) h3
theorem qe0 {w0 w wr:World} {B:Nat} (h:qB w0 w) (hB:w0.heap.size≤B) (g:w.grownBy wr (some B)):qB w0 wr:=
 ⟨g.os.trans h.os,g.tape.trans h.tape,g.output.trans h.output,Nat.le_trans h.size g.size,fun i hi=>by
  rw [g.block i (Nat.lt_of_lt_of_le hi h.size) (fun e=>by cases e;omega)];exact h.block i hi⟩
theorem qsb {cs:Array Value} {q:Nat} {x:Value} (h:cs[q]?=some x):cs.setIfInBounds q x=cs:=by
 apply Array.ext
 ·simp
 ·intro i h1 h2
  rw [Array.getElem_setIfInBounds];split
  ·rename_i e;subst e
   have:=(Array.getElem?_eq_some_iff.mp h).2;exact this.symm
  ·rfl
structure PI (w W:World) (B q:Nat) (cs:Array Value) (a:Option Addr) (c:Nat) (l:List UInt8):Prop where
 g:w.grownBy W (some B)
 h:W.heap[B]?=some (.cells (cs.setIfInBounds q (.slice a l.length c)) 22)
 o:W.ownsRow w.heap.size 5 1 (.slice a l.length c) l.length (Bs8 l)
 b:B < w.heap.size
 s:q < cs.size
theorem PI.nil {w:World} {B q:Nat} {cs:Array Value} (h:w.heap[B]?=some (.cells cs 22)) (hq:cs[q]?=some qZ):PI w w B q cs none 0 []:=
 ⟨qcf _ _,by show _=some (Obj.cells (cs.setIfInBounds q qZ) _);rw [qsb hq];exact h,World.ownsRow_nil _ _ _ _,qa6 h,(Array.getElem?_eq_some_iff.mp hq).1⟩
theorem PI.below {w W W':World} {B q:Nat} {cs:Array Value} {a:Option Addr} {c:Nat} {l:List UInt8} (h:PI w W B q cs a c l) (hb:qB W W'):PI w W' B q cs a c l:=
 ⟨qec h.g hb,(hb.block _ (qa6 h.h)).trans h.h,qad h.o hb,h.b,h.s⟩
theorem PI.cell {w W:World} {B q:Nat} {cs:Array Value} {a:Option Addr} {c:Nat} {l:List UInt8} (h:PI w W B q cs a c l):W.cell? ⟨B,q,none⟩=some (.slice a l.length c):=by
 rw [cell_of_row _ _ _ _ _ _ h.h];simp [h.s]
theorem PI.next {w W W':World} {B q:Nat} {cs:Array Value} {a:Option Addr} {c:Nat} {l r:List UInt8} {v':Value} (h:PI w W B q cs a c l)
  (hO:W'.ownsRow w.heap.size 5 1 v' (l.length+r.length) (Bs8 (l++r))) (hg:W.grownBy W' (Value.slice a l.length c).ownBlock) :
  w.grownBy W' (some B)∧(∀(k:Nat) (T:TypeId) (xs:Array Value),W.heap[k]?=some (.cells xs T)→T≠5→W'.heap[k]?=some (.cells xs T))∧∃a' c',v'=.slice a' (l++r).length c'∧W'.cell? ⟨B,q,none⟩=some (.slice a l.length c)∧W'.frozen? ⟨B,q,none⟩=false∧PI w (W'.setCell ⟨B,q,none⟩ (.slice a' (l++r).length c')) B q cs a' c' (l++r):=by
 rw [←List.length_append] at hO;obtain ⟨a',c',rfl⟩:=qam hO;have hB:=h.b;have hh:W'.heap[B]?=some (.cells (cs.setIfInBounds q (.slice a l.length c)) 22):=(hg.block B (qa6 h.h) (fun e=>by have:=(h.o.lt B e.symm).1;omega)).trans h.h;have hgr:w.grownBy W' (some B):=⟨hg.os.trans h.g.os,hg.tape.trans h.g.tape,hg.output.trans h.g.output,Nat.le_trans h.g.size hg.size,fun k hk hne=>(hg.block k (Nat.lt_of_lt_of_le hk h.g.size) (fun e=>by have:=(h.o.lt k e.symm).1;omega)).trans (h.g.block k hk hne)⟩;have hty:∀(k:Nat) (T:TypeId) (xs:Array Value),W.heap[k]?=some (.cells xs T)→T≠5→W'.heap[k]?=some (.cells xs T):=fun k T xs hk hT=>(hg.block k (qa6 hk) (fun e=>by
  rcases h.o.2 with ⟨e2,-⟩ | ⟨g2,cap,cur,e2,-,e3,-⟩
  ·rw [e2] at e;cases e
  ·rw [e2] at e;cases e;rw [hk] at e3;cases e3;exact hT rfl)).trans hk
 refine ⟨hgr,hty,a',c',rfl,?_,frozen_of_row _ _ _ _ _ hh,⟨⟨hg.os.trans h.g.os,hg.tape.trans h.g.tape,hg.output.trans h.g.output,?_,fun k hk hne=>?_⟩,?_,qid hO h.b,h.b,h.s⟩⟩
 ·rw [cell_of_row _ _ _ _ _ _ hh]
  simp [h.s]
 ·have:=Nat.le_trans h.g.size hg.size
  simpa using this
 ·rw [heap_setCell_other _ _ _ _ (by show k≠B;exact fun e=>hne (by rw [e]))]
  exact (hg.block k (Nat.lt_of_lt_of_le hk h.g.size) (fun e=>by have:=(h.o.lt k e.symm).1;omega)).trans (h.g.block k hk hne)
 ·rw [heap_setCell_same _ _ _ _ _ _ hh,Array.setIfInBounds_setIfInBounds]
def RdL (w:World):List (Option Addr×Nat×Nat)→List (List UInt8)→Prop
 | [],[]=>True
 | u :: us,l :: ls=>Rd w u.1 u.2.1 u.2.2 l∧RdL w us ls
 | _,_=>False
theorem RdL.get {w:World}:∀{us:List (Option Addr×Nat×Nat)} {ls:List (List UInt8)},RdL w us ls→us.length=ls.length∧∀(i:Nat) (u:Option Addr×Nat×Nat) (l:List UInt8),us[i]?=some u→ls[i]?=some l→Rd w u.1 u.2.1 u.2.2 l
 | [],[],_=>⟨rfl,fun i u l h=>by simp at h⟩
 | u :: us,l :: ls,h=>⟨by simp [(RdL.get h.2).1],fun i u' l' h1 h2=>by
   cases i with
   | zero=>cases h1;cases h2;exact h.1
   | succ i=>exact (RdL.get h.2).2 i u' l' (by simpa using h1) (by simpa using h2)⟩
theorem rowN (w:World) (us:List (Option Addr×Nat×Nat)) (ls:List (List UInt8)) (n:Nat) (h:RdL w us ls) (hn:ls.length=n) (h9:n≤1000) (hs:ls.flatten.length≤100000000):Calls Tryz.prog 89 #[.slice (some ⟨w.heap.size,0,none⟩) n n] (w.alloc (.cells (us.map fun (u:Option Addr×Nat×Nat)=>(.slice u.1 u.2.1 u.2.2:Value)).toArray 22)) fun e w'=>∃u,e=.returned u∧OwB (w.alloc (.cells (us.map fun (u:Option Addr×Nat×Nat)=>(.slice u.1 u.2.1 u.2.2:Value)).toArray 22)) w' u ls.flatten:=by
 obtain ⟨h1,h2⟩:=h.get;subst hn;exact qjx _ _ _ _ ls (qjy (heap_alloc_new w _) h1 h9 (fun i u l hu hl=>(h2 i u l hu hl).below (qa0 w _))) rfl hs
def PSeg (i q X B:Nat) (w0:World) (l:List UInt8):Prop:=∀(N R:Act→World→Prop) (T:Array Value) (vs:List Deferred) (w:World) (cs:Array Value),T.size=253→T.getD 1 undef=.pointer (some ⟨X,0,none⟩)→T.getD 3 undef=.slice (some ⟨B,0,none⟩) 7 7→qB w0 w→w.heap[B]?=some (.cells cs 22)→cs[q]?=some qZ→(∀T' w' a c,T'.size=253→T'.getD 1 undef=.pointer (some ⟨X,0,none⟩)→T'.getD 3 undef=.slice (some ⟨B,0,none⟩) 7 7→qB w0 w'→PI w w' B q cs a c l→N ⟨T',vs⟩ w')→(hdc (drp i (Tryz.f27.body.getD .skip))).wp Tryz.prog (SQ N R) ⟨T,vs⟩ w
theorem qei (T:Array Value) (h:T.size=253):T=((List.range 253).map (tk T)).toArray:=by
 apply Array.ext
 ·simp [h]
 ·intro i h1 h2
  simp [tk,h1]
theorem rng2 : List.range 253=[0,1,2,3,4,5,6,7,8,9,10,11,12,13,14,15,16,17,18,19,20,21,22,23,24,25,26,27,28,29,30,31,32,33,34,35,36,37,38,39,40,41,42,43,44,45,46,47,48,49,50,51,52,53,54,55,56,57,58,59,60,61,62,63,64,65,66,67,68,69,70,71,72,73,74,75,76,77,78,79,80,81,82,83,84,85,86,87,88,89,90,91,92,93,94,95,96,97,98,99,100,101,102,103,104,105,106,107,108,109,110,111,112,113,114,115,116,117,118,119,120,121,122,123,124,125,126,127,128,129,130,131,132,133,134,135,136,137,138,139,140,141,142,143,144,145,146,147,148,149,150,151,152,153,154,155,156,157,158,159,160,161,162,163,164,165,166,167,168,169,170,171,172,173,174,175,176,177,178,179,180,181,182,183,184,185,186,187,188,189,190,191,192,193,194,195,196,197,198,199,200,201,202,203,204,205,206,207,208,209,210,211,212,213,214,215,216,217,218,219,220,221,222,223,224,225,226,227,228,229,230,231,232,233,234,235,236,237,238,239,240,241,242,243,244,245,246,247,248,249,250,251,252]:=by kernel_rfl
end Go.Proofs.YtijgopkhdjaolabGreat
