import Derived.Test.YtijgopkhdjaolabGreatXTcz
import Derived.Test.YtijgopkhdjaolabGreatXTdd
set_option linter.unusedSimpArgs false
set_option linter.unusedVariables false
set_option maxHeartbeats 16000000
set_option maxRecDepth 100000
namespace Go.Proofs.YtijgopkhdjaolabGreat
open Go.RowKit Go.Shelf Go.Sort
theorem qfr (tb:Tb) (v:Ts) (a:AcR) (lo hi:Int) (w:World) (h:TbAt w tb v):Calls Tryz.prog 149 #[.agg (tbC tb v),.agg (acrC a),I lo,I hi] w fun e w'=>e=.returned (.bool (acB tb a lo hi))∧qB w w':=by
 have hb:qB w ((w.alloc (.cells (tbC tb v) 32)).alloc (.cells (acrC a) 80)):=(qa0 w _).trans ((qa0 _ _).mono (by simp));have hV1:((w.alloc (.cells (tbC tb v) 32)).alloc (.cells (acrC a) 80)).heap[w.heap.size]?=some (.cells (tbC tb v) 32):=by
  rw [heap_alloc_old _ _ (by simp)];exact heap_alloc_new w _
 have hV2:((w.alloc (.cells (tbC tb v) 32)).alloc (.cells (acrC a) 80)).heap[w.heap.size+1]?=some (.cells (acrC a) 80):=by
  have:=heap_alloc_new (w.alloc (.cells (tbC tb v) 32)) (.cells (acrC a) 80);rw [World.size_alloc] at this;exact this
 have HT:Hid (TbAt ((w.alloc (.cells (tbC tb v) 32)).alloc (.cells (acrC a) 80)) tb v):=h.below hb;have HB0:Hid (qB w ((w.alloc (.cells (tbC tb v) 32)).alloc (.cells (acrC a) 80))):=hb;have HN:Hid (v.t.n=tb.tasks.length):=h.t.n;have htc:v.t.n≤v.t.c:=h.t.c;have htm:v.t.c≤maxLen:=h.t.m;unfold maxLen at htm;obtain ⟨R,hR⟩:∃R,R=acB tb a lo hi:=⟨_,rfl⟩
 rw [←hR];have HR:Hid (R=(inI a.kind lo hi&&(if a.kind=1 then idB a.task v.t.n&&(a.mask==0) else if a.kind=2 then idB a.task v.t.n&&(a.mask != 0)&&(bits BinOp.andNot IntKind.u32 (a.mask:Int) (qeo tb a.task:Int)==0) else (a.task==0)&&(a.mask==0)))):=by
  show _=_;rw [hR,HN.out];rfl
 clear hR h hb;unfold acrC tbC at *;generalize a.kind=ak at *;generalize a.task=at_ at *;generalize a.mask=am at *;go_enter Tryz.func149,Tryz.ntmps149
 go_upto_region 1 with fail;generalize ((w.alloc (.cells (qC tb v) 32)).alloc (.cells #[I ak,I at_,.int .u32 (am:Int)] 80))=W0 at *;have z2:=cell_of_row _ w.heap.size 2 _ _ (0,0) hV1;have y0:=cell_of_row _ (w.heap.size+1) 0 _ _ (0,0) hV2;have y1:=cell_of_row _ (w.heap.size+1) 1 _ _ (0,0) hV2;have y2:=cell_of_row _ (w.heap.size+1) 2 _ _ (0,0) hV2;simp at z2 y0 y1 y2;clear hV1 hV2;by_cases g1:ak < lo
 ·have HE:Hid (R=false):=by
   show _=_;rw [HR.out];have:inI ak lo hi=false:=by unfold inI;simp;omega
   rw [this];rfl
  clear HR;go_wp2;go_ret;exact ⟨qa2 (by rw [HE.out]),HB0.out⟩
 by_cases g2:hi < ak
 ·have HE:Hid (R=false):=by
   show _=_;rw [HR.out];have:inI ak lo hi=false:=by unfold inI;simp;omega
   rw [this];rfl
  clear HR;go_wp2;go_ret;exact ⟨qa2 (by rw [HE.out]),HB0.out⟩
 have HI:Hid (inI ak lo hi=true):=by show _=_;unfold inI;simp;omega
 by_cases k1:ak=1
 ·subst k1
  rw [HI.out] at HR;by_cases t0:at_ < 0
  ·have HE:Hid (R=false):=by
    show _=_;rw [HR.out];have:idB at_ v.t.n=false:=by unfold idB;simp;omega
    simp [this]
   clear HR HI;go_wp2;go_ret;exact ⟨qa2 (by rw [HE.out]),HB0.out⟩
  ·obtain ⟨k,rfl⟩:=Int.eq_ofNat_of_zero_le (show 0≤at_ by omega)
   by_cases t1:v.t.n≤k
   ·have HE:Hid (R=false):=by
     show _=_;rw [HR.out];have:idB (k:Int) v.t.n=false:=by unfold idB;simp;omega
     simp [this]
    clear HR HI;go_wp2;go_ret;exact ⟨qa2 (by rw [HE.out]),HB0.out⟩
   ·have HE:Hid (R=(am==0)):=by
     show _=_;rw [HR.out];have:idB (k:Int) v.t.n=true:=by unfold idB;simp;omega
     simp [this]
    clear HR HI;go_wp2;go_ret;exact ⟨qa2 (by rw [HE.out,Bool.eq_iff_iff];simp),HB0.out⟩
 have k1':(ak==1)=false:=by simpa using k1
 by_cases k2:ak=2
 ·subst k2
  rw [HI.out] at HR;by_cases t0:at_ < 0
  ·have HE:Hid (R=false):=by
    show _=_;rw [HR.out];have:idB at_ v.t.n=false:=by unfold idB;simp;omega
    simp [this]
   clear HR HI;go_wp2;go_ret;exact ⟨qa2 (by rw [HE.out]),HB0.out⟩
  ·obtain ⟨k,rfl⟩:=Int.eq_ofNat_of_zero_le (show 0≤at_ by omega)
   by_cases t1:v.t.n≤k
   ·have HE:Hid (R=false):=by
     show _=_;rw [HR.out];have:idB (k:Int) v.t.n=false:=by unfold idB;simp;omega
     simp [this]
    clear HR HI;go_wp2;go_ret;exact ⟨qa2 (by rw [HE.out]),HB0.out⟩
   ·obtain ⟨x,hx⟩:∃x,tb.tasks[k]?=some x:=⟨_,List.getElem?_eq_getElem (by rw [←HN.out];omega)⟩
    obtain ⟨g5,o5,s6,e5,hg5,q0,q1,q2,q3,q4,q5,q6,q7,r6⟩:=qdi HT.out hx;have HE:Hid (R=((am != 0)&&(bits BinOp.andNot IntKind.u32 (am:Int) (x.mask:Int)==0))):=by
     show _=_;rw [HR.out];have h1:idB (k:Int) v.t.n=true:=by unfold idB;simp;omega
     have h2:qeo tb (k:Int)=x.mask:=by unfold qeo;rw [Int.toNat_natCast,hx]
     simp [h1,h2]
    rw [e5] at z2;have t2:(k:Int) < v.t.n:=by omega
    clear HR HI hx e5 q0 q1 q2 q3 q5 q6 q7 r6 hg5;generalize x.mask=xm at *;have x2:=cell_regrown z2;have x0:=cell_regrown y0;have x1:=cell_regrown y1;have x5:=cell_regrown y2;have xm4:=cell_regrown q4;cases m0:((am:Int) != 0) with
    | false=>
     have m1:am=0:=by simp at m0;omega
     go_wp2;refine wp_region_quiet_below (by kernel_rfl) (by kernel_rfl) ?_;repeat (go_big_quiet_step (first | fail))
     refine wpQuiet_nil ?_;rintro _ ⟨⟨dq,osq⟩,rfl⟩;dsimp only;have HB9:Hid (qB w (grow (redrawn W0 dq) osq)):=HB0.out.trans ((below_regrown W0 dq osq).mono HB0.out.size);clear x2 x0 x1 x5 xm4;generalize grow (redrawn W0 dq) osq=w9 at *;go_wp2;go_ret;exact ⟨qa2 (by rw [HE.out,m1];rfl),HB9.out⟩
    | true=>
     have HM:Hid ((am != 0)=true):=by show _=_;simp at m0;simp;omega
     go_wp2;refine wp_region_quiet_below (by kernel_rfl) (by kernel_rfl) ?_;repeat (go_big_quiet_step (first | fail))
     refine wpQuiet_nil ?_;rintro _ ⟨⟨dq,osq⟩,rfl⟩;dsimp only;have HB9:Hid (qB w (grow (redrawn W0 dq) osq)):=HB0.out.trans ((below_regrown W0 dq osq).mono HB0.out.size);clear x2 x0 x1 x5 xm4;generalize grow (redrawn W0 dq) osq=w9 at *;go_wp2;go_ret;exact ⟨qa2 (by rw [HE.out,HM.out];simp),HB9.out⟩
 have k2':(ak==2)=false:=by simpa using k2
 rw [if_neg k1,if_neg k2,HI.out] at HR;by_cases t0:at_=0
 ·subst t0
  have HE:Hid (R=(am==0)):=by show _=_;rw [HR.out];simp
  clear HR HI;go_wp2;go_ret;exact ⟨qa2 (by rw [HE.out,Bool.eq_iff_iff];simp),HB0.out⟩
 ·have t0':(at_==0)=false:=by simpa using t0
  have HE:Hid (R=false):=by show _=_;rw [HR.out,t0'];rfl
  clear HR HI;go_wp2;go_ret;exact ⟨qa2 (by rw [HE.out]),HB0.out⟩
theorem qo9 (a:Nat) (m:Int):decide (a < 2 ^ m.toNat)=((a:Int) / 2 ^ m.toNat==0):=by
 rw [Bool.eq_iff_iff];simp only [decide_eq_true_eq,beq_iff_eq];have h0:(0:Int) < 2 ^ m.toNat:=Int.pow_pos (by decide);have h1:((2 ^ m.toNat:Nat):Int)=2 ^ m.toNat:=by push_cast;rfl
 constructor
 ·intro h
  exact Int.ediv_eq_zero_of_lt (by omega) (by rw [←h1];exact_mod_cast h)
 ·intro h
  have h2:=Int.emod_add_mul_ediv (a:Int) (2 ^ m.toNat);have h3:=Int.emod_lt_of_pos (a:Int) h0;rw [h] at h2;have h4:(a:Int) < ((2 ^ m.toNat:Nat):Int):=by rw [h1];omega
  exact_mod_cast h4
theorem qki (tb:Tb) (v:Ts) (w:World) (h:TbAt w tb v) (hm:1≤tb.modes∧tb.modes≤8):Calls Tryz.prog 70 #[.agg (tbC tb v)] w fun e w'=>e=.returned (.bool (tb.ctrs.all ctB&&tb.als.all (alB tb)))∧qB w w':=by
 have hb:=qa0 w (.cells (tbC tb v) 32);have hV0:=heap_alloc_new w (.cells (tbC tb v) 32);have HT:Hid (TbAt (w.alloc (.cells (tbC tb v) 32)) tb v):=h.below hb;have HB0:Hid (qB w (w.alloc (.cells (tbC tb v) 32))):=hb;have HV0:Hid ((w.alloc (.cells (tbC tb v) 32)).heap[w.heap.size]?=some (.cells (tbC tb v) 32)):=hV0;have HKn:Hid (v.k.n=tb.ctrs.length):=h.k.n;have hkc:v.k.n≤v.k.c:=h.k.c;have hkm:v.k.c≤maxLen:=h.k.m;have HAn:Hid (v.a.n=tb.als.length):=h.a.n;have hac:v.a.n≤v.a.c:=h.a.c;have ham:v.a.c≤maxLen:=h.a.m;unfold maxLen at hkm ham;obtain ⟨R,hR⟩:∃R,R=(tb.ctrs.all ctB&&tb.als.all (alB tb)):=⟨_,rfl⟩
 rw [←hR];have HR:Hid (R=((tb.ctrs.drop 0).all ctB&&tb.als.all (alB tb))):=hR;have HAC:Hid (∀(W:World) (a:AcR),TbAt W tb v→Calls Tryz.prog 149 #[.agg (tbC tb v),.agg (acrC a),I 1,I 3] W fun e w'=>e=.returned (.bool (acB tb a 1 3))∧qB W w'):=fun W a hT=>qfr tb v a 1 3 W hT
 have hi30:(Tryz.prog.info? 32).map (·.size)=some (tbC tb v).size:=by kernel_rfl
 obtain ⟨hm0,hm8⟩:=hm;clear h hR hb hV0;unfold tbC at *;have HAU:Hid (∀a:Nat,qcv tb a=((a:Int) / 2 ^ tb.modes.toNat==0)):=fun a=>qo9 a tb.modes
 go_enter Tryz.func70,Tryz.ntmps70
 generalize hW:w.alloc (.cells (qC tb v) 32)=W1 at *;go_upto_region 1 with fail;clear hW;go_wp2;go_loopw [3] (fun iv wr=>∃j:Nat,j≤v.k.n∧iv=.int .i64 j∧Hid (R=((tb.ctrs.drop j).all ctB&&tb.als.all (alB tb))∧qB W1 wr)) (fun iv _=>v.k.n - (intOf iv).toNat)
 case atStart=>exact ⟨0,by omega,rfl,HR.out,Below.refl _ _⟩
 case round=>
  clear HR;obtain ⟨j,hj,rfl,HJ⟩:=hrel;have HBW:Hid (qB w wr):=HB0.out.trans (HJ.out.2.mono HB0.out.size);have HTW:Hid (TbAt wr tb v):=HT.out.below HJ.out.2;have HVW:Hid (wr.heap[w.heap.size]?=some (.cells (qC tb v) 32)):=(HJ.out.2.block _ (qan HV0.out)).trans HV0.out;obtain ⟨_,_,_,_,_,c5,c6,_,_⟩:=qbo HVW.out;by_cases hlt:j < v.k.n
  ·have hlt':(j:Int) < v.k.n:=by omega
   obtain ⟨x,hx⟩:∃x,tb.ctrs[j]?=some x:=⟨_,List.getElem?_eq_getElem (by rw [←HKn.out];exact hlt)⟩
   obtain ⟨g5,o5,e5,hg5,q0,q1,q2⟩:=qgw HTW.out hx;have HX:Hid (R=(decide (1≤(x.max:Int)∧(x.max:Int)≤2147483647∧1≤(x.base:Int)∧(x.base:Int)≤2147483647∧1≤(x.min:Int)∧(x.min:Int)≤(x.max:Int))&&((tb.ctrs.drop (j+1)).all ctB&&tb.als.all (alB tb)))):=by
    have h9:=HJ.out.1;rw [qcu hx,List.all_cons,Bool.and_assoc] at h9;show _=_;rw [h9];congr 1
    unfold ctB;rw [Bool.eq_iff_iff];simp only [decide_eq_true_eq];omega
   have HB1:Hid (qB W1 wr):=HJ.out.2;rw [e5] at c5;clear hx HJ hg5 HVW e5 c6;generalize (x.max:Int)=xm at *;generalize (x.base:Int)=xb at *;generalize (x.min:Int)=xn at *;have HBX:Hid (qB wr (wr.alloc (.cells #[.int .u32 xm,.int .u32 xb,.int .u32 xn] 77))):=qa0 wr _;have hXN:(wr.alloc (.cells #[.int .u32 xm,.int .u32 xb,.int .u32 xn] 77)).heap[wr.heap.size]?=some (.cells #[.int .u32 xm,.int .u32 xb,.int .u32 xn] 77):=heap_alloc_new wr _;go_upto_region 5 with fail;generalize (wr.alloc (.cells #[.int .u32 xm,.int .u32 xb,.int .u32 xn] 77))=W5 at *;have x0:=cell_of_row W5 _ 0 _ _ (0,0) hXN;have x1:=cell_of_row W5 _ 1 _ _ (0,0) hXN;have x2:=cell_of_row W5 _ 2 _ _ (0,0) hXN;simp at x0 x1 x2;have HB5:Hid (qB w W5):=HBW.out.trans (HBX.out.mono HBW.out.size);have HB15:Hid (qB W1 W5):=HB1.out.trans (HBX.out.mono HB1.out.size);clear hXN c5 q0 q1 q2;by_cases g0:xm < 1
   ·have HE:Hid (R=false):=by show _=_;rw [HX.out,decide_eq_false (by omega)];rfl
    clear HX;go_wp2;go_ret;exact ⟨qa2 (by rw [HE.out]),HB5.out⟩
   by_cases g1:2147483647 < xm
   ·have HE:Hid (R=false):=by show _=_;rw [HX.out,decide_eq_false (by omega)];rfl
    clear HX;go_wp2;go_ret;exact ⟨qa2 (by rw [HE.out]),HB5.out⟩
   by_cases g2:xb < 1
   ·have HE:Hid (R=false):=by show _=_;rw [HX.out,decide_eq_false (by omega)];rfl
    clear HX;go_wp2;go_ret;exact ⟨qa2 (by rw [HE.out]),HB5.out⟩
   by_cases g3:2147483647 < xb
   ·have HE:Hid (R=false):=by show _=_;rw [HX.out,decide_eq_false (by omega)];rfl
    clear HX;go_wp2;go_ret;exact ⟨qa2 (by rw [HE.out]),HB5.out⟩
   by_cases g4:xn < 1
   ·have HE:Hid (R=false):=by show _=_;rw [HX.out,decide_eq_false (by omega)];rfl
    clear HX;go_wp2;go_ret;exact ⟨qa2 (by rw [HE.out]),HB5.out⟩
   by_cases g5:xm < xn
   ·have HE:Hid (R=false):=by show _=_;rw [HX.out,decide_eq_false (by omega)];rfl
    clear HX;go_wp2;go_ret;exact ⟨qa2 (by rw [HE.out]),HB5.out⟩
   have HN:Hid (R=((tb.ctrs.drop (j+1)).all ctB&&tb.als.all (alB tb))):=by show _=_;rw [HX.out,decide_eq_true (by omega)];rfl
   clear HX;go_wp2;go_roundw
   case rel=>exact ⟨j+1,by omega,by go_num,HN.out,HB15.out⟩
   case measure=>simp [intOf];omega
  ·obtain rfl:j=v.k.n:=by omega
   have hlt':¬((v.k.n:Nat):Int) < (v.k.n:Nat):=by omega
   have HRA:Hid (R=(tb.als.drop 0).all (alB tb)):=by
    have h9:=HJ.out.1;rw [HKn.out,List.drop_length] at h9;exact h9
   have HB1:Hid (qB W1 wr):=HJ.out.2;clear HJ c6;have HTQ:Hid (TbAt wr tb v):=HTW.out;have HVQ:Hid (wr.heap[w.heap.size]?=some (.cells (qC tb v) 32)):=HVW.out;have HBQ:Hid (qB w wr):=HBW.out;clear HT HV0 HB0 HBW HTW HVW HB1;go_upto_region 7 with fail;generalize wr=W2 at *;clear c5;go_wp2;go_loopw [5] (fun iv wr=>∃j:Nat,j≤v.a.n∧iv=.int .i64 j∧Hid (R=(tb.als.drop j).all (alB tb)∧qB W2 wr)) (fun iv _=>v.a.n - (intOf iv).toNat)
   case atStart=>exact ⟨0,by omega,rfl,HRA.out,Below.refl _ _⟩
   case round=>
    clear HRA;obtain ⟨j,hj,rfl,HJ⟩:=hrel;have HBW:Hid (qB w wr):=HBQ.out.trans (HJ.out.2.mono HBQ.out.size);have HTW:Hid (TbAt wr tb v):=HTQ.out.below HJ.out.2;have HVW:Hid (wr.heap[w.heap.size]?=some (.cells (qC tb v) 32)):=(HJ.out.2.block _ (qan HVQ.out)).trans HVQ.out;obtain ⟨_,_,_,_,_,_,c6,_,_⟩:=qbo HVW.out;by_cases hlt:j < v.a.n
    ·have hlt':(j:Int) < v.a.n:=by omega
     obtain ⟨x,hx⟩:∃x,tb.als[j]?=some x:=⟨_,List.getElem?_eq_getElem (by rw [←HAn.out];exact hlt)⟩
     obtain ⟨g5,o5,e5,hg5,q0,q1,q2,q3,q4,q5,q6⟩:=qgx HTW.out hx;obtain ⟨kk,hkk⟩:∃kk,kk=ctOf tb x.ctr:=⟨_,rfl⟩
     obtain ⟨AB,hAB⟩:∃AB,AB=acB tb x.ac 1 3:=⟨_,rfl⟩
     have HX:Hid (R=(idB x.ctr v.k.n&&AB&&((x.auto:Int) / 2 ^ tb.modes.toNat==0)&&(if (x.auto:Int)=0 then ((x.time:Int)==0)&&((x.cycle:Int)==0) else decide (1≤(x.time:Int)∧(x.time:Int)≤(kk.max:Int))&&((x.cycle:Int)==0 || decide ((kk.min:Int)≤(x.cycle:Int)∧(x.cycle:Int)≤(kk.max:Int))))&&(tb.als.drop (j+1)).all (alB tb))):=by
      have h9:=HJ.out.1;rw [qcu hx,List.all_cons] at h9;show _=_;rw [h9];congr 1
      unfold alB;rw [HAU.out,←hAB,←hkk,HKn.out];congr 1
      unfold qep;by_cases h0:x.auto=0
      ·rw [if_pos h0,if_pos (by omega)]
       rw [Bool.eq_iff_iff];simp
      ·rw [if_neg h0,if_neg (by omega)]
       rw [Bool.eq_iff_iff];simp;omega
     have kA:=HAC.out (wr.alloc (.cells #[I x.ctr,I x.ac.kind,I x.ac.task,.int .u32 (x.ac.mask:Int),.int .u32 (x.auto:Int),.int .u32 (x.time:Int),.int .u32 (x.cycle:Int)] 82)) x.ac (HTW.out.below (qa0 wr _));rw [←hAB] at kA;unfold acrC at kA;have HKK:Hid (∀(W:World),TbAt W tb v→0≤x.ctr→x.ctr < v.k.n→∃(g off:Nat),v.k.a=some ⟨g,off,none⟩∧W.cell? ⟨g,off+x.ctr.toNat * 3,none⟩=some (.int .u32 (kk.max:Int))∧W.cell? ⟨g,off+x.ctr.toNat * 3+1,none⟩=some (.int .u32 (kk.base:Int))∧W.cell? ⟨g,off+x.ctr.toNat * 3+2,none⟩=some (.int .u32 (kk.min:Int))):=fun W hT h0 h1=>by
      have hlt9:x.ctr.toNat < tb.ctrs.length:=by rw [←HKn.out];omega
      have he:tb.ctrs[x.ctr.toNat]?=some kk:=by
       rw [hkk];unfold ctOf;rw [List.getElem?_eq_getElem hlt9]
      obtain ⟨g,off,e,_,a0,a1,a2⟩:=qgw hT he;exact ⟨g,off,e,a0,a1,a2⟩
     have HB1:Hid (qB W2 wr):=HJ.out.2;rw [e5] at c6;clear hx HJ hg5 e5 hkk hAB;generalize x.ctr=xc at *;generalize x.ac.kind=ak at *;generalize x.ac.task=at_ at *;generalize (x.ac.mask:Int)=am at *;generalize (x.auto:Int)=au at *;generalize (x.time:Int)=ti at *;generalize (x.cycle:Int)=cy at *;generalize (kk.max:Int)=xm at *;generalize (kk.base:Int)=xb at *;generalize (kk.min:Int)=xn at *;have HBX:Hid (qB wr (wr.alloc (.cells #[I xc,I ak,I at_,.int .u32 am,.int .u32 au,.int .u32 ti,.int .u32 cy] 82))):=qa0 wr _;have hXN:(wr.alloc (.cells #[I xc,I ak,I at_,.int .u32 am,.int .u32 au,.int .u32 ti,.int .u32 cy] 82)).heap[wr.heap.size]?=some (.cells #[I xc,I ak,I at_,.int .u32 am,.int .u32 au,.int .u32 ti,.int .u32 cy] 82):=heap_alloc_new wr _;have hVX:(wr.alloc (.cells #[I xc,I ak,I at_,.int .u32 am,.int .u32 au,.int .u32 ti,.int .u32 cy] 82)).heap[w.heap.size]?=some (.cells (qC tb v) 32):=((qa0 wr _).block _ (qan HVW.out)).trans HVW.out;go_upto_region 11 with fail;generalize (wr.alloc (.cells #[I xc,I ak,I at_,.int .u32 am,.int .u32 au,.int .u32 ti,.int .u32 cy] 82))=W5 at *;have HXX:Hid (∀W,qB W5 W→W.cell? ⟨wr.heap.size,0,none⟩=some (I xc)∧W.cell? ⟨wr.heap.size,1,none⟩=some (I ak)∧W.cell? ⟨wr.heap.size,2,none⟩=some (I at_)∧W.cell? ⟨wr.heap.size,3,none⟩=some (.int .u32 am)∧W.cell? ⟨wr.heap.size,4,none⟩=some (.int .u32 au)∧W.cell? ⟨wr.heap.size,5,none⟩=some (.int .u32 ti)∧W.cell? ⟨wr.heap.size,6,none⟩=some (.int .u32 cy)∧W.cell? ⟨w.heap.size,1,none⟩=some (I tb.modes)∧W.cell? ⟨w.heap.size,5,none⟩=some (.slice v.k.a v.k.n v.k.c)):=fun W hW=>by
      have h1:=(hW.block _ (qan hXN)).trans hXN;have h2:=(hW.block _ (qan hVX)).trans hVX;obtain ⟨_,d1,_,_,_,d5,_⟩:=qbo h2;exact ⟨by rw [cell_of_row W _ 0 _ _ (0,0) h1];rfl,by rw [cell_of_row W _ 1 _ _ (0,0) h1];rfl,by rw [cell_of_row W _ 2 _ _ (0,0) h1];rfl,by rw [cell_of_row W _ 3 _ _ (0,0) h1];rfl,by rw [cell_of_row W _ 4 _ _ (0,0) h1];rfl,by rw [cell_of_row W _ 5 _ _ (0,0) h1];rfl,by rw [cell_of_row W _ 6 _ _ (0,0) h1];rfl,d1,d5⟩
     obtain ⟨x0,x1,x2,x3,x4,x5,x6,m1,k5⟩:=HXX.out W5 (Below.refl _ _);have HB5:Hid (qB w W5):=HBW.out.trans (HBX.out.mono HBW.out.size);have HB25:Hid (qB W2 W5):=HB1.out.trans (HBX.out.mono HB1.out.size);have HT5:Hid (TbAt W5 tb v):=HTW.out.below HBX.out;clear hXN c6 q0 q1 q2 q3 q4 q5 q6;by_cases g0:xc < 0
     ·have HE:Hid (R=false):=by show _=_;rw [HX.out,show idB xc v.k.n=false from by unfold idB;simp;omega];rfl
      clear HX;go_wp2;go_ret;exact ⟨qa2 (by rw [HE.out]),HB5.out⟩
     by_cases g1:(v.k.n:Int)≤xc
     ·have HE:Hid (R=false):=by show _=_;rw [HX.out,show idB xc v.k.n=false from by unfold idB;simp;omega];rfl
      clear HX;go_wp2;go_ret;exact ⟨qa2 (by rw [HE.out]),HB5.out⟩
     have HID:Hid (idB xc v.k.n=true):=by show _=_;unfold idB;simp;omega
     rw [HID.out] at HX;cases AB with
     | false=>
      have HE:Hid (R=false):=by show _=_;rw [HX.out];rfl
      clear HX;go_wp2_with (first | (refine qaf (by kernel_rfl) 32 _ rfl w.heap.size rfl 32 _ (0,0) _ hVX Tryz.underlying32 rfl hi30 ?_;simp only [qN]));refine kA.mono ?_;clear kA;rintro e w6 ⟨rfl,hb6⟩;obtain ⟨z0,z1,z2,z3,z4,z5,z6,n1,l5⟩:=HXX.out w6 hb6;have HB6:Hid (qB w w6):=HB5.out.trans (hb6.mono HB5.out.size);have HB26:Hid (qB W2 w6):=HB25.out.trans (hb6.mono HB25.out.size);have HT6:Hid (TbAt w6 tb v):=HT5.out.below hb6;have HXY:Hid (∀W,qB w6 W→qB W5 W):=fun W hW=>hb6.trans (hW.mono hb6.size)
      clear hb6 hVX x0 x1 x2 x3 x4 x5 x6 m1 k5;go_wp2;go_ret;exact ⟨qa2 (by rw [HE.out]),HB6.out⟩
     | true=>
      cases hau:(au / 2 ^ tb.modes.toNat==0) with
      | false=>
       have hau2:(au / 2 ^ tb.modes.toNat != 0)=true:=by simp only [bne,hau];rfl
       rw [hau] at HX;have HE:Hid (R=false):=by show _=_;rw [HX.out];rfl
       clear HX;go_wp2_with (first | (refine qaf (by kernel_rfl) 32 _ rfl w.heap.size rfl 32 _ (0,0) _ hVX Tryz.underlying32 rfl hi30 ?_;simp only [qN]));refine kA.mono ?_;clear kA;rintro e w6 ⟨rfl,hb6⟩;obtain ⟨z0,z1,z2,z3,z4,z5,z6,n1,l5⟩:=HXX.out w6 hb6;have HB6:Hid (qB w w6):=HB5.out.trans (hb6.mono HB5.out.size);have HB26:Hid (qB W2 w6):=HB25.out.trans (hb6.mono HB25.out.size);have HT6:Hid (TbAt w6 tb v):=HT5.out.below hb6;have HXY:Hid (∀W,qB w6 W→qB W5 W):=fun W hW=>hb6.trans (hW.mono hb6.size)
       clear hb6 hVX x0 x1 x2 x3 x4 x5 x6 m1 k5;go_wp2;go_ret;exact ⟨qa2 (by rw [HE.out]),HB6.out⟩
      | true=>
       have hau2:(au / 2 ^ tb.modes.toNat != 0)=false:=by simp only [bne,hau];rfl
       rw [hau] at HX;go_wp2_with (first | (refine qaf (by kernel_rfl) 32 _ rfl w.heap.size rfl 32 _ (0,0) _ hVX Tryz.underlying32 rfl hi30 ?_;simp only [qN]));refine kA.mono ?_;clear kA;rintro e w6 ⟨rfl,hb6⟩;obtain ⟨z0,z1,z2,z3,z4,z5,z6,n1,l5⟩:=HXX.out w6 hb6;have HB6:Hid (qB w w6):=HB5.out.trans (hb6.mono HB5.out.size);have HB26:Hid (qB W2 w6):=HB25.out.trans (hb6.mono HB25.out.size);have HT6:Hid (TbAt w6 tb v):=HT5.out.below hb6;have HXY:Hid (∀W,qB w6 W→qB W5 W):=fun W hW=>hb6.trans (hW.mono hb6.size)
       clear hb6 hVX x0 x1 x2 x3 x4 x5 x6 m1 k5;obtain ⟨gk,ok,ek,k0,k1,k2⟩:=HKK.out w6 HT6.out (by omega) (by omega);rw [ek] at l5;clear ek;have hBY:qB w6 (w6.alloc (.cells #[.int .u32 xm,.int .u32 xb,.int .u32 xn] 77)):=qa0 w6 _;have hYN:(w6.alloc (.cells #[.int .u32 xm,.int .u32 xb,.int .u32 xn] 77)).heap[w6.heap.size]?=some (.cells #[.int .u32 xm,.int .u32 xb,.int .u32 xn] 77):=heap_alloc_new w6 _;go_upto_region 14 with fail;generalize (w6.alloc (.cells #[.int .u32 xm,.int .u32 xb,.int .u32 xn] 77))=W7 at *;have y0:=cell_of_row W7 _ 0 _ _ (0,0) hYN;have y2:=cell_of_row W7 _ 2 _ _ (0,0) hYN;simp at y0 y2;clear z0 z1 z2 z3 z4 z5 z6 n1 l5 k0 k1 k2 hau hau2;obtain ⟨_,_,_,_,z4,z5,z6,_,_⟩:=HXX.out W7 (HXY.out W7 hBY);have HB7:Hid (qB w W7):=HB6.out.trans (hBY.mono HB6.out.size);have HB27:Hid (qB W2 W7):=HB26.out.trans (hBY.mono HB26.out.size);clear hBY hYN;have HX2:Hid (R=((if au=0 then (ti==0)&&(cy==0) else decide (1≤ti∧ti≤xm)&&(cy==0 || decide (xn≤cy∧cy≤xm)))&&(tb.als.drop (j+1)).all (alB tb))):=by show _=_;rw [HX.out];rfl
       clear HX;have HX:Hid (R=((if au=0 then (ti==0)&&(cy==0) else decide (1≤ti∧ti≤xm)&&(cy==0 || decide (xn≤cy∧cy≤xm)))&&(tb.als.drop (j+1)).all (alB tb))):=HX2.out;clear HX2;cases ha0:(au==0) with
       | true=>
        have ha02:(au != 0)=false:=by simp only [bne,ha0];rfl
        have HX3:Hid (R=((ti==0)&&(cy==0)&&(tb.als.drop (j+1)).all (alB tb))):=by show _=_;rw [HX.out,if_pos (by simpa using ha0)]
        clear HX;cases ht0:(ti==0) with
        | false=>
         have ht02:(ti != 0)=true:=by simp only [bne,ht0];rfl
         have HE:Hid (R=false):=by show _=_;rw [HX3.out,ht0];rfl
         clear HX3;go_wp2;go_ret;exact ⟨qa2 (by rw [HE.out]),HB7.out⟩
        | true=>
         have ht02:(ti != 0)=false:=by simp only [bne,ht0];rfl
         cases hc0:(cy==0) with
         | false=>
          have hc02:(cy != 0)=true:=by simp only [bne,hc0];rfl
          have HE:Hid (R=false):=by show _=_;rw [HX3.out,ht0,hc0];rfl
          clear HX3;go_wp2;go_ret;exact ⟨qa2 (by rw [HE.out]),HB7.out⟩
         | true=>
          have hc02:(cy != 0)=false:=by simp only [bne,hc0];rfl
          have HN:Hid (R=(tb.als.drop (j+1)).all (alB tb)):=by show _=_;rw [HX3.out,ht0,hc0];rfl
          clear HX3;go_wp2;go_roundw
          case rel=>exact ⟨j+1,by omega,by go_num,HN.out,HB27.out⟩
          case measure=>simp [intOf];omega
       | false=>
        have ha02:(au != 0)=true:=by simp only [bne,ha0];rfl
        have HX3:Hid (R=(decide (1≤ti∧ti≤xm)&&(cy==0 || decide (xn≤cy∧cy≤xm))&&(tb.als.drop (j+1)).all (alB tb))):=by show _=_;rw [HX.out,if_neg (by simpa using ha0)]
        clear HX;have HX:Hid (R=(decide (1≤ti∧ti≤xm)&&(cy==0 || decide (xn≤cy∧cy≤xm))&&(tb.als.drop (j+1)).all (alB tb))):=HX3.out;clear HX3;by_cases g0t:ti < 1
        ·have HE:Hid (R=false):=by show _=_;rw [HX.out,decide_eq_false (by omega)];rfl
         clear HX;go_wp2;go_ret;exact ⟨qa2 (by rw [HE.out]),HB7.out⟩
        by_cases g1t:xm < ti
        ·have HE:Hid (R=false):=by show _=_;rw [HX.out,decide_eq_false (by omega)];rfl
         clear HX;go_wp2;go_ret;exact ⟨qa2 (by rw [HE.out]),HB7.out⟩
        have HX3:Hid (R=((cy==0 || decide (xn≤cy∧cy≤xm))&&(tb.als.drop (j+1)).all (alB tb))):=by show _=_;rw [HX.out,decide_eq_true (by omega)];rfl
        clear HX;have HX:Hid (R=((cy==0 || decide (xn≤cy∧cy≤xm))&&(tb.als.drop (j+1)).all (alB tb))):=HX3.out;clear HX3;cases hc0:(cy==0) with
        | true=>
         have hc02:(cy != 0)=false:=by simp only [bne,hc0];rfl
         have HN:Hid (R=(tb.als.drop (j+1)).all (alB tb)):=by show _=_;rw [HX.out,hc0];rfl
         clear HX;go_wp2;go_roundw
         case rel=>exact ⟨j+1,by omega,by go_num,HN.out,HB27.out⟩
         case measure=>simp [intOf];omega
        | false=>
         have hc02:(cy != 0)=true:=by simp only [bne,hc0];rfl
         by_cases g0c:cy < xn
         ·have HE:Hid (R=false):=by show _=_;rw [HX.out,hc0,decide_eq_false (by omega)];rfl
          clear HX;go_wp2;go_ret;exact ⟨qa2 (by rw [HE.out]),HB7.out⟩
         by_cases g1c:xm < cy
         ·have HE:Hid (R=false):=by show _=_;rw [HX.out,hc0,decide_eq_false (by omega)];rfl
          clear HX;go_wp2;go_ret;exact ⟨qa2 (by rw [HE.out]),HB7.out⟩
         have HN:Hid (R=(tb.als.drop (j+1)).all (alB tb)):=by show _=_;rw [HX.out,hc0,decide_eq_true (by omega)];rfl
         clear HX;go_wp2;go_roundw
         case rel=>exact ⟨j+1,by omega,by go_num,HN.out,HB27.out⟩
         case measure=>simp [intOf];omega
    ·obtain rfl:j=v.a.n:=by omega
     have hlt':¬((v.a.n:Nat):Int) < (v.a.n:Nat):=by omega
     have HE:Hid (R=true):=by
      have h9:=HJ.out.1;rw [HAn.out,List.drop_length] at h9;exact h9
     clear HJ HVW HTW;go_wp2;go_ret;exact ⟨qa2 (by rw [HE.out]),HBW.out⟩
end Go.Proofs.YtijgopkhdjaolabGreat
