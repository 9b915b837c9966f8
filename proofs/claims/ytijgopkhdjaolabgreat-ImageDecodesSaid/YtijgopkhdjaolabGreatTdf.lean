import Derived.Test.YtijgopkhdjaolabGreatXTdd
import Derived.Test.YtijgopkhdjaolabGreatXTde
set_option linter.unusedSimpArgs false
set_option linter.unusedVariables false
set_option maxHeartbeats 16000000
set_option maxRecDepth 100000
namespace Go.Proofs.YtijgopkhdjaolabGreat
open Go.RowKit Go.Shelf Go.Sort
def msDl (nm:Nat) (xk xl xf xi xq ak at_ am fk fl:Int) (PB AB:Bool):Bool:=
 if xk=1 then (xl==1 || xl==2 || xl==4 || xl==8)&&(xf==0)&&(xi==0)&&(xq==0)&&((ak==0)&&(at_==0)&&(am==0))
 else inI xk 1 3&&(xl==0)&&(xk != 2 || xq==0)&&(xk != 3 || ((xi==0)&&inI xq 1 16))&&idB xf nm&&(fk==1)&&decide (xi≤4294967295)&&!(decide (0≤fl)&&decide (fl < 8)&&PB)&&AB
theorem qtn (tb:Tb) (x:MsR) (nm:Nat) (hn:nm=tb.msgs.length):msD tb x=msDl nm x.kind x.len x.frm x.init x.queue x.ac.kind x.ac.task x.ac.mask (msOf tb x.frm).kind (msOf tb x.frm).len (decide (2 ^ (8 * (msOf tb x.frm).len.toNat)≤x.init)) (acB tb x.ac 0 4):=by
 unfold msD msDl;by_cases h:x.kind=1
 ·rw [if_pos h,if_pos h]
  rw [Bool.eq_iff_iff];simp
 ·rw [if_neg h,if_neg h,hn]
  rw [Bool.eq_iff_iff];simp;omega
theorem qoa (a:Nat) (m:Int) (h:0≤m):decide (2 ^ (8 * m.toNat)≤a)=!((a:Int) / 2 ^ (8 * m).toNat==0):=by
 have e:(8 * m).toNat=8 * m.toNat:=by omega
 rw [e];generalize 8 * m.toNat=k;have h0:(0:Int) < 2 ^ k:=Int.pow_pos (by decide);have h1:((2 ^ k:Nat):Int)=2 ^ k:=by push_cast;rfl
 rw [Bool.eq_iff_iff];simp only [decide_eq_true_eq,Bool.not_eq_true',beq_eq_false_iff_ne,ne_eq];constructor
 ·intro h9 h8
  have h2:=Int.emod_add_mul_ediv (a:Int) (2 ^ k);have h3:=Int.emod_lt_of_pos (a:Int) h0;rw [h8] at h2;have h4:(a:Int) < ((2 ^ k:Nat):Int):=by rw [h1];omega
  have h5:a < 2 ^ k:=by exact_mod_cast h4
  omega
 ·intro h9
  rcases Nat.lt_or_ge a (2 ^ k) with h8 | h8
  ·exact absurd (Int.ediv_eq_zero_of_lt (by omega) (by rw [←h1];exact_mod_cast h8)) h9
  ·exact h8
theorem qet {M r:Bool} (h:M=true):(M&&r)=r:=by rw [h];rfl
theorem qbg {M r:Bool} (h:M=false):(M&&r)=false:=by rw [h];rfl
theorem qbx {P:Program} {ops:Array Oper} {Q:Exit→Act→World→Prop} {l:List Oper} {a:Act} {w:World} (h:wpList P ops Q l a w):wpList P ops Q l a w:=h
theorem qiq (tb:Tb) (v:Ts) (w:World) (h:TbAt w tb v):Calls Tryz.prog 72 #[.agg (tbC tb v)] w fun e w'=>e=.returned (.bool (tb.msgs.all (msD tb)))∧qB w w':=by
 have hb:=qa0 w (.cells (tbC tb v) 32);have hV0:=heap_alloc_new w (.cells (tbC tb v) 32);have HT:Hid (TbAt (w.alloc (.cells (tbC tb v) 32)) tb v):=h.below hb;have HB0:Hid (qB w (w.alloc (.cells (tbC tb v) 32))):=hb;have HV0:Hid ((w.alloc (.cells (tbC tb v) 32)).heap[w.heap.size]?=some (.cells (tbC tb v) 32)):=hV0;have HSn:Hid (v.s.n=tb.msgs.length):=h.s.n;have hsc:v.s.n≤v.s.c:=h.s.c;have hsm:v.s.c≤maxLen:=h.s.m;unfold maxLen at hsm;obtain ⟨R,hR⟩:∃R,R=tb.msgs.all (msD tb):=⟨_,rfl⟩
 rw [←hR];have HR:Hid (R=(tb.msgs.drop 0).all (msD tb)):=hR;have HAC:Hid (∀(W:World) (a:AcR),TbAt W tb v→Calls Tryz.prog 149 #[.agg (tbC tb v),.agg (acrC a),I 0,I 4] W fun e w'=>e=.returned (.bool (acB tb a 0 4))∧qB W w'):=fun W a hT=>qfr tb v a 0 4 W hT
 have hi30:(Tryz.prog.info? 32).map (·.size)=some (tbC tb v).size:=by kernel_rfl
 clear h hR hb hV0;unfold tbC at *;go_enter Tryz.func72,Tryz.ntmps72
 generalize hW:w.alloc (.cells (qC tb v) 32)=W1 at *;go_upto_region 1 with fail;clear hW;go_wp2;go_loopw [3] (fun iv wr=>∃j:Nat,j≤v.s.n∧iv=.int .i64 j∧Hid (R=(tb.msgs.drop j).all (msD tb)∧qB W1 wr)) (fun iv _=>v.s.n - (intOf iv).toNat)
 case atStart=>exact ⟨0,by omega,rfl,HR.out,Below.refl _ _⟩
 case round=>
  clear HR;obtain ⟨j,hj,rfl,HJ⟩:=hrel;have HBW:Hid (qB w wr):=HB0.out.trans (HJ.out.2.mono HB0.out.size);have HTW:Hid (TbAt wr tb v):=HT.out.below HJ.out.2;have HVW:Hid (wr.heap[w.heap.size]?=some (.cells (qC tb v) 32)):=(HJ.out.2.block _ (qan HV0.out)).trans HV0.out;obtain ⟨_,_,_,_,_,_,_,_,c8,_⟩:=qbo HVW.out;by_cases hlt:j < v.s.n
  ·have hlt':(j:Int) < v.s.n:=by omega
   obtain ⟨x,hx⟩:∃x,tb.msgs[j]?=some x:=⟨_,List.getElem?_eq_getElem (by rw [←HSn.out];exact hlt)⟩
   obtain ⟨g5,o5,e5,hg5,q0,q1,q2,q3,q4,q5,q6,q7⟩:=qf7 HTW.out hx;obtain ⟨f,hf⟩:∃f,f=msOf tb x.frm:=⟨_,rfl⟩
   obtain ⟨AB,hAB⟩:∃AB,AB=acB tb x.ac 0 4:=⟨_,rfl⟩
   obtain ⟨PB,hPB⟩:∃PB,PB=decide (2 ^ (8 * (msOf tb x.frm).len.toNat)≤x.init):=⟨_,rfl⟩
   have HX:Hid (R=(msDl v.s.n x.kind x.len x.frm x.init x.queue x.ac.kind x.ac.task x.ac.mask f.kind f.len PB AB&&(tb.msgs.drop (j+1)).all (msD tb))):=by
    have h9:=HJ.out.1;rw [qcu hx,List.all_cons,qtn tb x v.s.n HSn.out,←hf,←hAB] at h9;show _=_;rw [h9,hPB,hf]
   have HPB:Hid (0≤f.len→PB=!((x.init:Int) / 2 ^ (8 * f.len).toNat==0)):=fun h0=>by rw [hPB,←hf];exact qoa _ _ h0
   have HKA:Hid (∀(W:World),TbAt W tb v→Calls Tryz.prog 149 #[.agg (qC tb v),.agg #[I x.ac.kind,I x.ac.task,.int .u32 (x.ac.mask:Int)],I 0,I 4] W fun e w'=>e=.returned (.bool AB)∧qB W w'):=fun W hT=>by rw [hAB];exact HAC.out W x.ac hT
   have HKK:Hid (∀(W:World),TbAt W tb v→0≤x.frm→x.frm < v.s.n→∃(g off:Nat),v.s.a=some ⟨g,off,none⟩∧W.cell? ⟨g,off+x.frm.toNat * 8,none⟩=some (I f.kind)∧W.cell? ⟨g,off+x.frm.toNat * 8+1,none⟩=some (I f.len)∧W.cell? ⟨g,off+x.frm.toNat * 8+2,none⟩=some (I f.frm)∧W.cell? ⟨g,off+x.frm.toNat * 8+3,none⟩=some (.int .u64 (f.init:Int))∧W.cell? ⟨g,off+x.frm.toNat * 8+4,none⟩=some (I f.queue)∧W.cell? ⟨g,off+x.frm.toNat * 8+5,none⟩=some (I f.ac.kind)∧W.cell? ⟨g,off+x.frm.toNat * 8+6,none⟩=some (I f.ac.task)∧W.cell? ⟨g,off+x.frm.toNat * 8+7,none⟩=some (.int .u32 (f.ac.mask:Int))):=fun W hT h0 h1=>by
    have hlt9:x.frm.toNat < tb.msgs.length:=by rw [←HSn.out];omega
    have he:tb.msgs[x.frm.toNat]?=some f:=by
     rw [hf];unfold msOf;rw [List.getElem?_eq_getElem hlt9]
    obtain ⟨g,off,e,_,a⟩:=qf7 hT he;exact ⟨g,off,e,a⟩
   have HB1:Hid (qB W1 wr):=HJ.out.2;have HE5:Hid (v.s.a=some ⟨g5,o5,none⟩):=e5;have c8':=c8;rw [e5] at c8;have hi0:(0:Int)≤(x.init:Int):=by omega
   clear hx HJ hg5 e5 hf hAB hPB HAC c8';generalize x.kind=xk at *;generalize x.len=xl at *;generalize x.frm=xf at *;generalize (x.init:Int)=xi at *;generalize x.queue=xq at *;generalize x.ac.kind=ak at *;generalize x.ac.task=at_ at *;generalize (x.ac.mask:Int)=am at *;generalize f.kind=fk at *;generalize f.len=fl at *;generalize f.frm=ff at *;generalize (f.init:Int)=fi at *;generalize f.queue=fq at *;generalize f.ac.kind=bk at *;generalize f.ac.task=bt at *;generalize (f.ac.mask:Int)=bm at *;have HBX:Hid (qB wr (wr.alloc (.cells #[I xk,I xl,I xf,.int .u64 xi,I xq,I ak,I at_,.int .u32 am] 87))):=qa0 wr _;have hXN:(wr.alloc (.cells #[I xk,I xl,I xf,.int .u64 xi,I xq,I ak,I at_,.int .u32 am] 87)).heap[wr.heap.size]?=some (.cells #[I xk,I xl,I xf,.int .u64 xi,I xq,I ak,I at_,.int .u32 am] 87):=heap_alloc_new wr _;have hVX:(wr.alloc (.cells #[I xk,I xl,I xf,.int .u64 xi,I xq,I ak,I at_,.int .u32 am] 87)).heap[w.heap.size]?=some (.cells (qC tb v) 32):=((qa0 wr _).block _ (qan HVW.out)).trans HVW.out;go_upto_region 5 with fail;generalize (wr.alloc (.cells #[I xk,I xl,I xf,.int .u64 xi,I xq,I ak,I at_,.int .u32 am] 87))=W5 at *;have HXX:Hid (∀W,qB W5 W→W.cell? ⟨wr.heap.size,0,none⟩=some (I xk)∧W.cell? ⟨wr.heap.size,1,none⟩=some (I xl)∧W.cell? ⟨wr.heap.size,2,none⟩=some (I xf)∧W.cell? ⟨wr.heap.size,3,none⟩=some (.int .u64 xi)∧W.cell? ⟨wr.heap.size,4,none⟩=some (I xq)∧W.cell? ⟨wr.heap.size,5,none⟩=some (I ak)∧W.cell? ⟨wr.heap.size,6,none⟩=some (I at_)∧W.cell? ⟨wr.heap.size,7,none⟩=some (.int .u32 am)∧W.cell? ⟨w.heap.size,8,none⟩=some (.slice v.s.a v.s.n v.s.c)∧W.heap[w.heap.size]?=some (.cells (qC tb v) 32)):=fun W hW=>by
    have h1:=(hW.block _ (qan hXN)).trans hXN;have h2:=(hW.block _ (qan hVX)).trans hVX;obtain ⟨_,_,_,_,_,_,_,_,d8,_⟩:=qbo h2;exact ⟨by rw [cell_of_row W _ 0 _ _ (0,0) h1];rfl,by rw [cell_of_row W _ 1 _ _ (0,0) h1];rfl,by rw [cell_of_row W _ 2 _ _ (0,0) h1];rfl,by rw [cell_of_row W _ 3 _ _ (0,0) h1];rfl,by rw [cell_of_row W _ 4 _ _ (0,0) h1];rfl,by rw [cell_of_row W _ 5 _ _ (0,0) h1];rfl,by rw [cell_of_row W _ 6 _ _ (0,0) h1];rfl,by rw [cell_of_row W _ 7 _ _ (0,0) h1];rfl,d8,h2⟩
   obtain ⟨x0,x1,x2,x3,x4,x5,x6,x7,k8,_⟩:=HXX.out W5 (Below.refl _ _);have HB5:Hid (qB w W5):=HBW.out.trans (HBX.out.mono HBW.out.size);have HB15:Hid (qB W1 W5):=HB1.out.trans (HBX.out.mono HB1.out.size);have HT5:Hid (TbAt W5 tb v):=HTW.out.below HBX.out;clear hXN hVX c8 q0 q1 q2 q3 q4 q5 q6 q7 HTW HVW;by_cases g1:xk < 1
   ·have HE:Hid (R=false):=HX.out.trans (qbg (by rw [Bool.eq_false_iff];intro hq;unfold msDl at hq;rw [if_neg (by omega)] at hq;simp [inI,idB] at hq;omega))
    clear HX;go_wp2;go_ret;exact ⟨qa2 (by rw [HE.out]),HB5.out⟩
   by_cases g2:3 < xk
   ·have HE:Hid (R=false):=HX.out.trans (qbg (by rw [Bool.eq_false_iff];intro hq;unfold msDl at hq;rw [if_neg (by omega)] at hq;simp [inI,idB] at hq;omega))
    clear HX;go_wp2;go_ret;exact ⟨qa2 (by rw [HE.out]),HB5.out⟩
   have hkk:xk=1∨xk=2∨xk=3:=by omega
   clear g1 g2;rcases hkk with rfl | rfl | rfl
   ·clear HKA HKK HPB k8
    by_cases hL:xl=1∨xl=2∨xl=4∨xl=8
    ·rcases hL with rfl | rfl | rfl | rfl
     all_goals
      cases f0:(xf==0) with
      | true=>
       have f02:(xf != 0)=false:=by simp only [bne,f0];rfl
       have f03:xf=0:=by simpa using f0
       have f04:Hid (xf=0):=f03;have f05:Hid ((xf==0)=true):=f0;clear f03 f0;cases i0:(xi==0) with
       | true=>
        have i02:(xi != 0)=false:=by simp only [bne,i0];rfl
        have i03:xi=0:=by simpa using i0
        have i04:Hid (xi=0):=i03;have i05:Hid ((xi==0)=true):=i0;clear i03 i0;cases q0:(xq==0) with
        | true=>
         have q02:(xq != 0)=false:=by simp only [bne,q0];rfl
         have q03:xq=0:=by simpa using q0
         have q04:Hid (xq=0):=q03;have q05:Hid ((xq==0)=true):=q0;clear q03 q0;cases a0:(ak==0) with
         | true=>
          have a02:(ak != 0)=false:=by simp only [bne,a0];rfl
          have a03:ak=0:=by simpa using a0
          have a04:Hid (ak=0):=a03;have a05:Hid ((ak==0)=true):=a0;clear a03 a0;cases t0:(at_==0) with
          | true=>
           have t02:(at_ != 0)=false:=by simp only [bne,t0];rfl
           have t03:at_=0:=by simpa using t0
           have t04:Hid (at_=0):=t03;have t05:Hid ((at_==0)=true):=t0;clear t03 t0;cases m0:(am==0) with
           | true=>
            have m02:(am != 0)=false:=by simp only [bne,m0];rfl
            have m03:am=0:=by simpa using m0
            have m04:Hid (am=0):=m03;have m05:Hid ((am==0)=true):=m0;clear m03 m0;have HN:Hid (R=(tb.msgs.drop (j+1)).all (msD tb)):=HX.out.trans (qet (by simp [msDl,inI,idB];have:=f04.out;have:=i04.out;have:=q04.out;have:=a04.out;have:=t04.out;have:=m04.out;omega));clear HX;go_wp2;go_roundw
            case rel=>exact ⟨j+1,by omega,by go_num,HN.out,HB15.out⟩
            case measure=>simp [intOf];omega
           | false=>
            have m02:(am != 0)=true:=by simp only [bne,m0];rfl
            have m03:¬am=0:=by simpa using m0
            have m04:Hid (¬am=0):=m03;have m05:Hid ((am==0)=false):=m0;clear m03 m0;have HE:Hid (R=false):=HX.out.trans (qbg (by rw [Bool.eq_false_iff];intro hq;simp [msDl,inI,idB] at hq;have:=f04.out;have:=i04.out;have:=q04.out;have:=a04.out;have:=t04.out;have:=m04.out;omega));clear HX;go_wp2;go_ret;exact ⟨qa2 (by rw [HE.out]),HB5.out⟩
          | false=>
           have t02:(at_ != 0)=true:=by simp only [bne,t0];rfl
           have t03:¬at_=0:=by simpa using t0
           have t04:Hid (¬at_=0):=t03;have t05:Hid ((at_==0)=false):=t0;clear t03 t0;have HE:Hid (R=false):=HX.out.trans (qbg (by rw [Bool.eq_false_iff];intro hq;simp [msDl,inI,idB] at hq;have:=f04.out;have:=i04.out;have:=q04.out;have:=a04.out;have:=t04.out;omega));clear HX;go_wp2;go_ret;exact ⟨qa2 (by rw [HE.out]),HB5.out⟩
         | false=>
          have a02:(ak != 0)=true:=by simp only [bne,a0];rfl
          have a03:¬ak=0:=by simpa using a0
          have a04:Hid (¬ak=0):=a03;have a05:Hid ((ak==0)=false):=a0;clear a03 a0;have HE:Hid (R=false):=HX.out.trans (qbg (by rw [Bool.eq_false_iff];intro hq;simp [msDl,inI,idB] at hq;have:=f04.out;have:=i04.out;have:=q04.out;have:=a04.out;omega));clear HX;go_wp2;go_ret;exact ⟨qa2 (by rw [HE.out]),HB5.out⟩
        | false=>
         have q02:(xq != 0)=true:=by simp only [bne,q0];rfl
         have q03:¬xq=0:=by simpa using q0
         have q04:Hid (¬xq=0):=q03;have q05:Hid ((xq==0)=false):=q0;clear q03 q0;have HE:Hid (R=false):=HX.out.trans (qbg (by rw [Bool.eq_false_iff];intro hq;simp [msDl,inI,idB] at hq;have:=f04.out;have:=i04.out;have:=q04.out;omega));clear HX;go_wp2;go_ret;exact ⟨qa2 (by rw [HE.out]),HB5.out⟩
       | false=>
        have i02:(xi != 0)=true:=by simp only [bne,i0];rfl
        have i03:¬xi=0:=by simpa using i0
        have i04:Hid (¬xi=0):=i03;have i05:Hid ((xi==0)=false):=i0;clear i03 i0;have HE:Hid (R=false):=HX.out.trans (qbg (by rw [Bool.eq_false_iff];intro hq;simp [msDl,inI,idB] at hq;have:=f04.out;have:=i04.out;omega));clear HX;go_wp2;go_ret;exact ⟨qa2 (by rw [HE.out]),HB5.out⟩
      | false=>
       have f02:(xf != 0)=true:=by simp only [bne,f0];rfl
       have f03:¬xf=0:=by simpa using f0
       have f04:Hid (¬xf=0):=f03;have f05:Hid ((xf==0)=false):=f0;clear f03 f0;have HE:Hid (R=false):=HX.out.trans (qbg (by rw [Bool.eq_false_iff];intro hq;simp [msDl,inI,idB] at hq;have:=f04.out;omega));clear HX;go_wp2;go_ret;exact ⟨qa2 (by rw [HE.out]),HB5.out⟩
    ·have l1:(xl==1)=false:=by simp;omega
     have l2:(xl==2)=false:=by simp;omega
     have l4:(xl==4)=false:=by simp;omega
     have l8:(xl==8)=false:=by simp;omega
     have l12:(xl != 1)=true:=by simp;omega
     have l22:(xl != 2)=true:=by simp;omega
     have l42:(xl != 4)=true:=by simp;omega
     have l82:(xl != 8)=true:=by simp;omega
     have HL:Hid (¬(xl=1∨xl=2∨xl=4∨xl=8)):=hL;clear hL;have HE:Hid (R=false):=HX.out.trans (qbg (by rw [Bool.eq_false_iff];intro hq;simp [msDl,inI,idB] at hq;have:=HL.out;omega));clear HX;go_wp2;go_ret;exact ⟨qa2 (by rw [HE.out]),HB5.out⟩
   ·cases xz:(xl==0) with
    | true=>
     have xz2:(xl != 0)=false:=by simp only [bne,xz];rfl
     have xz3:xl=0:=by simpa using xz
     have xz4:Hid (xl=0):=xz3;have xz5:Hid ((xl==0)=true):=xz;clear xz3 xz;cases q0:(xq==0) with
     | true=>
      have q02:(xq != 0)=false:=by simp only [bne,q0];rfl
      have q03:xq=0:=by simpa using q0
      have q04:Hid (xq=0):=q03;have q05:Hid ((xq==0)=true):=q0;clear q03 q0;by_cases h1:xf < 0
      ·have HE:Hid (R=false):=HX.out.trans (qbg (by rw [Bool.eq_false_iff];intro hq;simp [msDl,inI,idB] at hq;have:=xz4.out;have:=q04.out;omega))
       clear HX;go_wp2;go_ret;exact ⟨qa2 (by rw [HE.out]),HB5.out⟩
      by_cases h2:(v.s.n:Int)≤xf
      ·have HE:Hid (R=false):=HX.out.trans (qbg (by rw [Bool.eq_false_iff];intro hq;simp [msDl,inI,idB] at hq;have:=xz4.out;have:=q04.out;omega))
       clear HX;go_wp2;go_ret;exact ⟨qa2 (by rw [HE.out]),HB5.out⟩
      have h3:xf < (v.s.n:Int):=by omega
      obtain ⟨gk,ok,ek,k0,k1,k2,k3,k4,k5,k6,k7⟩:=HKK.out W5 HT5.out (by omega) (by omega);rw [ek] at k8;clear ek;have hBY:qB W5 (W5.alloc (.cells #[I fk,I fl,I ff,.int .u64 fi,I fq,I bk,I bt,.int .u32 bm] 87)):=qa0 W5 _;have hYN:(W5.alloc (.cells #[I fk,I fl,I ff,.int .u64 fi,I fq,I bk,I bt,.int .u32 bm] 87)).heap[W5.heap.size]?=some (.cells #[I fk,I fl,I ff,.int .u64 fi,I fq,I bk,I bt,.int .u32 bm] 87):=heap_alloc_new W5 _;go_upto_region 13 with fail;generalize (W5.alloc (.cells #[I fk,I fl,I ff,.int .u64 fi,I fq,I bk,I bt,.int .u32 bm] 87))=W7 at *;have y0:=cell_of_row W7 _ 0 _ _ (0,0) hYN;have y1:=cell_of_row W7 _ 1 _ _ (0,0) hYN;simp at y0 y1;clear x0 x1 x2 x3 x4 x5 x6 x7 k0 k1 k2 k3 k4 k5 k6 k7 k8;obtain ⟨x0,x1,x2,x3,x4,x5,x6,x7,_,hV7⟩:=HXX.out W7 hBY;have HB7:Hid (qB w W7):=HB5.out.trans (hBY.mono HB5.out.size);have HB17:Hid (qB W1 W7):=HB15.out.trans (hBY.mono HB15.out.size);have kA:=HKA.out W7 (HT5.out.below hBY);clear hBY hYN HKA HKK;cases f1:(fk==1) with
      | true=>
       have f12:(fk != 1)=false:=by simp only [bne,f1];rfl
       have f13:fk=1:=by simpa using f1
       have f14:Hid (fk=1):=f13;have f15:Hid ((fk==1)=true):=f1;clear f13 f1;by_cases i9:4294967295 < xi
       ·have HE:Hid (R=false):=HX.out.trans (qbg (by rw [Bool.eq_false_iff];intro hq;simp [msDl,inI,idB] at hq;have:=xz4.out;have:=q04.out;have:=f14.out;omega))
        clear HX;go_wp2;go_ret;exact ⟨qa2 (by rw [HE.out]),HB7.out⟩
       by_cases fl0:fl < 0
       ·have l0':¬0≤fl:=by omega
        cases AB with
        | false=>
         have HE:Hid (R=false):=HX.out.trans (qbg (by simp [msDl]));clear HX;go_wp2_with (first | (with_reducible refine qbx ?_;refine qaf (by kernel_rfl) 32 _ rfl w.heap.size rfl 32 _ (0,0) _ hV7 Tryz.underlying32 rfl hi30 ?_;simp only [qN]));refine kA.mono ?_;clear kA;rintro e w8 ⟨rfl,hb8⟩;have HB8:Hid (qB w w8):=HB7.out.trans (hb8.mono HB7.out.size);have HB18:Hid (qB W1 w8):=HB17.out.trans (hb8.mono HB17.out.size);clear hb8 x0 x1 x2 x3 x4 x5 x6 x7 y0 y1 hV7;go_wp2;go_ret;exact ⟨qa2 (by rw [HE.out]),HB8.out⟩
        | true=>
         have HN:Hid (R=(tb.msgs.drop (j+1)).all (msD tb)):=by show _=_;exact HX.out.trans (qet (by have:=xz4.out;have:=q04.out;have:=f14.out; simp [msDl,inI,idB];omega))
         clear HX;go_wp2_with (first | (with_reducible refine qbx ?_;refine qaf (by kernel_rfl) 32 _ rfl w.heap.size rfl 32 _ (0,0) _ hV7 Tryz.underlying32 rfl hi30 ?_;simp only [qN]));refine kA.mono ?_;clear kA;rintro e w8 ⟨rfl,hb8⟩;have HB8:Hid (qB w w8):=HB7.out.trans (hb8.mono HB7.out.size);have HB18:Hid (qB W1 w8):=HB17.out.trans (hb8.mono HB17.out.size);clear hb8 x0 x1 x2 x3 x4 x5 x6 x7 y0 y1 hV7;go_wp2;go_roundw
         case rel=>exact ⟨j+1,by omega,by go_num,HN.out,HB18.out⟩
         case measure=>simp [intOf];omega
       by_cases l8:8≤fl
       ·have l8':¬fl < 8:=by omega
        have l80:0≤fl:=by omega
        cases AB with
        | false=>
         have HE:Hid (R=false):=HX.out.trans (qbg (by simp [msDl]));clear HX;go_wp2_with (first | (with_reducible refine qbx ?_;refine qaf (by kernel_rfl) 32 _ rfl w.heap.size rfl 32 _ (0,0) _ hV7 Tryz.underlying32 rfl hi30 ?_;simp only [qN]));refine kA.mono ?_;clear kA;rintro e w8 ⟨rfl,hb8⟩;have HB8:Hid (qB w w8):=HB7.out.trans (hb8.mono HB7.out.size);have HB18:Hid (qB W1 w8):=HB17.out.trans (hb8.mono HB17.out.size);clear hb8 x0 x1 x2 x3 x4 x5 x6 x7 y0 y1 hV7;go_wp2;go_ret;exact ⟨qa2 (by rw [HE.out]),HB8.out⟩
        | true=>
         have HN:Hid (R=(tb.msgs.drop (j+1)).all (msD tb)):=by show _=_;exact HX.out.trans (qet (by have:=xz4.out;have:=q04.out;have:=f14.out; simp [msDl,inI,idB];omega))
         clear HX;go_wp2_with (first | (with_reducible refine qbx ?_;refine qaf (by kernel_rfl) 32 _ rfl w.heap.size rfl 32 _ (0,0) _ hV7 Tryz.underlying32 rfl hi30 ?_;simp only [qN]));refine kA.mono ?_;clear kA;rintro e w8 ⟨rfl,hb8⟩;have HB8:Hid (qB w w8):=HB7.out.trans (hb8.mono HB7.out.size);have HB18:Hid (qB W1 w8):=HB17.out.trans (hb8.mono HB17.out.size);clear hb8 x0 x1 x2 x3 x4 x5 x6 x7 y0 y1 hV7;go_wp2;go_roundw
         case rel=>exact ⟨j+1,by omega,by go_num,HN.out,HB18.out⟩
         case measure=>simp [intOf];omega
       have l80:0≤fl:=by omega
       have l88:fl < 8:=by omega
       have HPC:=HPB.out l80;obtain ⟨sv,hsv⟩:∃sv,xi / 2 ^ (8 * fl).toNat=sv:=⟨_,rfl⟩
       rw [hsv] at HPC;cases s0:(sv==0) with
       | true=>
        have s02:(sv != 0)=false:=by simp only [bne,s0];rfl
        have s03:sv=0:=by simpa using s0
        have s04:Hid (sv=0):=s03;have s05:Hid ((sv==0)=true):=s0;clear s03 s0;have hPF:PB=false:=by rw [HPC,s05.out];rfl
        subst hPF;clear HPC HPB;cases AB with
        | false=>
         have HE:Hid (R=false):=HX.out.trans (qbg (by simp [msDl]));clear HX;go_wp2_with (first | (with_reducible refine qbx ?_;refine qaf (by kernel_rfl) 32 _ rfl w.heap.size rfl 32 _ (0,0) _ hV7 Tryz.underlying32 rfl hi30 ?_;simp only [qN]));refine kA.mono ?_;clear kA;rintro e w8 ⟨rfl,hb8⟩;have HB8:Hid (qB w w8):=HB7.out.trans (hb8.mono HB7.out.size);have HB18:Hid (qB W1 w8):=HB17.out.trans (hb8.mono HB17.out.size);clear hb8 x0 x1 x2 x3 x4 x5 x6 x7 y0 y1 hV7;go_wp2;go_ret;exact ⟨qa2 (by rw [HE.out]),HB8.out⟩
        | true=>
         have HN:Hid (R=(tb.msgs.drop (j+1)).all (msD tb)):=by show _=_;exact HX.out.trans (qet (by have:=xz4.out;have:=q04.out;have:=f14.out; simp [msDl,inI,idB];omega))
         clear HX;go_wp2_with (first | (with_reducible refine qbx ?_;refine qaf (by kernel_rfl) 32 _ rfl w.heap.size rfl 32 _ (0,0) _ hV7 Tryz.underlying32 rfl hi30 ?_;simp only [qN]));refine kA.mono ?_;clear kA;rintro e w8 ⟨rfl,hb8⟩;have HB8:Hid (qB w w8):=HB7.out.trans (hb8.mono HB7.out.size);have HB18:Hid (qB W1 w8):=HB17.out.trans (hb8.mono HB17.out.size);clear hb8 x0 x1 x2 x3 x4 x5 x6 x7 y0 y1 hV7;go_wp2;go_roundw
         case rel=>exact ⟨j+1,by omega,by go_num,HN.out,HB18.out⟩
         case measure=>simp [intOf];omega
       | false=>
        have s02:(sv != 0)=true:=by simp only [bne,s0];rfl
        have s03:¬sv=0:=by simpa using s0
        have s04:Hid (¬sv=0):=s03;have s05:Hid ((sv==0)=false):=s0;clear s03 s0;have hPF:PB=true:=by rw [HPC,s05.out];rfl
        subst hPF;clear HPC HPB;have HE:Hid (R=false):=HX.out.trans (qbg (by rw [Bool.eq_false_iff];intro hq;simp [msDl,inI,idB] at hq;omega));clear HX;go_wp2;go_ret;exact ⟨qa2 (by rw [HE.out]),HB7.out⟩
      | false=>
       have f12:(fk != 1)=true:=by simp only [bne,f1];rfl
       have f13:¬fk=1:=by simpa using f1
       have f14:Hid (¬fk=1):=f13;have f15:Hid ((fk==1)=false):=f1;clear f13 f1;have HE:Hid (R=false):=HX.out.trans (qbg (by rw [Bool.eq_false_iff];intro hq;simp [msDl,inI,idB] at hq;have:=xz4.out;have:=q04.out;have:=f14.out;omega));clear HX;go_wp2;go_ret;exact ⟨qa2 (by rw [HE.out]),HB7.out⟩
     | false=>
      have q02:(xq != 0)=true:=by simp only [bne,q0];rfl
      have q03:¬xq=0:=by simpa using q0
      have q04:Hid (¬xq=0):=q03;have q05:Hid ((xq==0)=false):=q0;clear q03 q0;have HE:Hid (R=false):=HX.out.trans (qbg (by rw [Bool.eq_false_iff];intro hq;simp [msDl,inI,idB] at hq;have:=xz4.out;have:=q04.out;omega));clear HX;go_wp2;go_ret;exact ⟨qa2 (by rw [HE.out]),HB5.out⟩
    | false=>
     have xz2:(xl != 0)=true:=by simp only [bne,xz];rfl
     have xz3:¬xl=0:=by simpa using xz
     have xz4:Hid (¬xl=0):=xz3;have xz5:Hid ((xl==0)=false):=xz;clear xz3 xz;have HE:Hid (R=false):=HX.out.trans (qbg (by rw [Bool.eq_false_iff];intro hq;simp [msDl,inI,idB] at hq;have:=xz4.out;omega));clear HX;go_wp2;go_ret;exact ⟨qa2 (by rw [HE.out]),HB5.out⟩
   ·cases xz:(xl==0) with
    | true=>
     have xz2:(xl != 0)=false:=by simp only [bne,xz];rfl
     have xz3:xl=0:=by simpa using xz
     have xz4:Hid (xl=0):=xz3;have xz5:Hid ((xl==0)=true):=xz;clear xz3 xz;cases i0:(xi==0) with
     | true=>
      have i02:(xi != 0)=false:=by simp only [bne,i0];rfl
      have i03:xi=0:=by simpa using i0
      have i04:Hid (xi=0):=i03;have i05:Hid ((xi==0)=true):=i0;clear i03 i0;by_cases hq1:xq < 1
      ·have HE:Hid (R=false):=HX.out.trans (qbg (by rw [Bool.eq_false_iff];intro hq;simp [msDl,inI,idB] at hq;have:=xz4.out;have:=i04.out;omega))
       clear HX;go_wp2;go_ret;exact ⟨qa2 (by rw [HE.out]),HB5.out⟩
      by_cases hq2:16 < xq
      ·have HE:Hid (R=false):=HX.out.trans (qbg (by rw [Bool.eq_false_iff];intro hq;simp [msDl,inI,idB] at hq;have:=xz4.out;have:=i04.out;omega))
       clear HX;go_wp2;go_ret;exact ⟨qa2 (by rw [HE.out]),HB5.out⟩
      by_cases h1:xf < 0
      ·have HE:Hid (R=false):=HX.out.trans (qbg (by rw [Bool.eq_false_iff];intro hq;simp [msDl,inI,idB] at hq;have:=xz4.out;have:=i04.out;omega))
       clear HX;go_wp2;go_ret;exact ⟨qa2 (by rw [HE.out]),HB5.out⟩
      by_cases h2:(v.s.n:Int)≤xf
      ·have HE:Hid (R=false):=HX.out.trans (qbg (by rw [Bool.eq_false_iff];intro hq;simp [msDl,inI,idB] at hq;have:=xz4.out;have:=i04.out;omega))
       clear HX;go_wp2;go_ret;exact ⟨qa2 (by rw [HE.out]),HB5.out⟩
      have h3:xf < (v.s.n:Int):=by omega
      obtain ⟨gk,ok,ek,k0,k1,k2,k3,k4,k5,k6,k7⟩:=HKK.out W5 HT5.out (by omega) (by omega);rw [ek] at k8;clear ek;have hBY:qB W5 (W5.alloc (.cells #[I fk,I fl,I ff,.int .u64 fi,I fq,I bk,I bt,.int .u32 bm] 87)):=qa0 W5 _;have hYN:(W5.alloc (.cells #[I fk,I fl,I ff,.int .u64 fi,I fq,I bk,I bt,.int .u32 bm] 87)).heap[W5.heap.size]?=some (.cells #[I fk,I fl,I ff,.int .u64 fi,I fq,I bk,I bt,.int .u32 bm] 87):=heap_alloc_new W5 _;go_upto_region 13 with fail;generalize (W5.alloc (.cells #[I fk,I fl,I ff,.int .u64 fi,I fq,I bk,I bt,.int .u32 bm] 87))=W7 at *;have y0:=cell_of_row W7 _ 0 _ _ (0,0) hYN;have y1:=cell_of_row W7 _ 1 _ _ (0,0) hYN;simp at y0 y1;clear x0 x1 x2 x3 x4 x5 x6 x7 k0 k1 k2 k3 k4 k5 k6 k7 k8;obtain ⟨x0,x1,x2,x3,x4,x5,x6,x7,_,hV7⟩:=HXX.out W7 hBY;have HB7:Hid (qB w W7):=HB5.out.trans (hBY.mono HB5.out.size);have HB17:Hid (qB W1 W7):=HB15.out.trans (hBY.mono HB15.out.size);have kA:=HKA.out W7 (HT5.out.below hBY);clear hBY hYN HKA HKK;cases f1:(fk==1) with
      | true=>
       have f12:(fk != 1)=false:=by simp only [bne,f1];rfl
       have f13:fk=1:=by simpa using f1
       have f14:Hid (fk=1):=f13;have f15:Hid ((fk==1)=true):=f1;clear f13 f1;by_cases i9:4294967295 < xi
       ·have HE:Hid (R=false):=HX.out.trans (qbg (by rw [Bool.eq_false_iff];intro hq;simp [msDl,inI,idB] at hq;have:=xz4.out;have:=i04.out;have:=f14.out;omega))
        clear HX;go_wp2;go_ret;exact ⟨qa2 (by rw [HE.out]),HB7.out⟩
       by_cases fl0:fl < 0
       ·have l0':¬0≤fl:=by omega
        cases AB with
        | false=>
         have HE:Hid (R=false):=HX.out.trans (qbg (by simp [msDl]));clear HX;go_wp2_with (first | (with_reducible refine qbx ?_;refine qaf (by kernel_rfl) 32 _ rfl w.heap.size rfl 32 _ (0,0) _ hV7 Tryz.underlying32 rfl hi30 ?_;simp only [qN]));refine kA.mono ?_;clear kA;rintro e w8 ⟨rfl,hb8⟩;have HB8:Hid (qB w w8):=HB7.out.trans (hb8.mono HB7.out.size);have HB18:Hid (qB W1 w8):=HB17.out.trans (hb8.mono HB17.out.size);clear hb8 x0 x1 x2 x3 x4 x5 x6 x7 y0 y1 hV7;go_wp2;go_ret;exact ⟨qa2 (by rw [HE.out]),HB8.out⟩
        | true=>
         have HN:Hid (R=(tb.msgs.drop (j+1)).all (msD tb)):=by show _=_;exact HX.out.trans (qet (by have:=xz4.out;have:=i04.out;have:=f14.out; simp [msDl,inI,idB];omega))
         clear HX;go_wp2_with (first | (with_reducible refine qbx ?_;refine qaf (by kernel_rfl) 32 _ rfl w.heap.size rfl 32 _ (0,0) _ hV7 Tryz.underlying32 rfl hi30 ?_;simp only [qN]));refine kA.mono ?_;clear kA;rintro e w8 ⟨rfl,hb8⟩;have HB8:Hid (qB w w8):=HB7.out.trans (hb8.mono HB7.out.size);have HB18:Hid (qB W1 w8):=HB17.out.trans (hb8.mono HB17.out.size);clear hb8 x0 x1 x2 x3 x4 x5 x6 x7 y0 y1 hV7;go_wp2;go_roundw
         case rel=>exact ⟨j+1,by omega,by go_num,HN.out,HB18.out⟩
         case measure=>simp [intOf];omega
       by_cases l8:8≤fl
       ·have l8':¬fl < 8:=by omega
        have l80:0≤fl:=by omega
        cases AB with
        | false=>
         have HE:Hid (R=false):=HX.out.trans (qbg (by simp [msDl]));clear HX;go_wp2_with (first | (with_reducible refine qbx ?_;refine qaf (by kernel_rfl) 32 _ rfl w.heap.size rfl 32 _ (0,0) _ hV7 Tryz.underlying32 rfl hi30 ?_;simp only [qN]));refine kA.mono ?_;clear kA;rintro e w8 ⟨rfl,hb8⟩;have HB8:Hid (qB w w8):=HB7.out.trans (hb8.mono HB7.out.size);have HB18:Hid (qB W1 w8):=HB17.out.trans (hb8.mono HB17.out.size);clear hb8 x0 x1 x2 x3 x4 x5 x6 x7 y0 y1 hV7;go_wp2;go_ret;exact ⟨qa2 (by rw [HE.out]),HB8.out⟩
        | true=>
         have HN:Hid (R=(tb.msgs.drop (j+1)).all (msD tb)):=by show _=_;exact HX.out.trans (qet (by have:=xz4.out;have:=i04.out;have:=f14.out; simp [msDl,inI,idB];omega))
         clear HX;go_wp2_with (first | (with_reducible refine qbx ?_;refine qaf (by kernel_rfl) 32 _ rfl w.heap.size rfl 32 _ (0,0) _ hV7 Tryz.underlying32 rfl hi30 ?_;simp only [qN]));refine kA.mono ?_;clear kA;rintro e w8 ⟨rfl,hb8⟩;have HB8:Hid (qB w w8):=HB7.out.trans (hb8.mono HB7.out.size);have HB18:Hid (qB W1 w8):=HB17.out.trans (hb8.mono HB17.out.size);clear hb8 x0 x1 x2 x3 x4 x5 x6 x7 y0 y1 hV7;go_wp2;go_roundw
         case rel=>exact ⟨j+1,by omega,by go_num,HN.out,HB18.out⟩
         case measure=>simp [intOf];omega
       have l80:0≤fl:=by omega
       have l88:fl < 8:=by omega
       have HPC:=HPB.out l80;obtain ⟨sv,hsv⟩:∃sv,xi / 2 ^ (8 * fl).toNat=sv:=⟨_,rfl⟩
       rw [hsv] at HPC;cases s0:(sv==0) with
       | true=>
        have s02:(sv != 0)=false:=by simp only [bne,s0];rfl
        have s03:sv=0:=by simpa using s0
        have s04:Hid (sv=0):=s03;have s05:Hid ((sv==0)=true):=s0;clear s03 s0;have hPF:PB=false:=by rw [HPC,s05.out];rfl
        subst hPF;clear HPC HPB;cases AB with
        | false=>
         have HE:Hid (R=false):=HX.out.trans (qbg (by simp [msDl]));clear HX;go_wp2_with (first | (with_reducible refine qbx ?_;refine qaf (by kernel_rfl) 32 _ rfl w.heap.size rfl 32 _ (0,0) _ hV7 Tryz.underlying32 rfl hi30 ?_;simp only [qN]));refine kA.mono ?_;clear kA;rintro e w8 ⟨rfl,hb8⟩;have HB8:Hid (qB w w8):=HB7.out.trans (hb8.mono HB7.out.size);have HB18:Hid (qB W1 w8):=HB17.out.trans (hb8.mono HB17.out.size);clear hb8 x0 x1 x2 x3 x4 x5 x6 x7 y0 y1 hV7;go_wp2;go_ret;exact ⟨qa2 (by rw [HE.out]),HB8.out⟩
        | true=>
         have HN:Hid (R=(tb.msgs.drop (j+1)).all (msD tb)):=by show _=_;exact HX.out.trans (qet (by have:=xz4.out;have:=i04.out;have:=f14.out; simp [msDl,inI,idB];omega))
         clear HX;go_wp2_with (first | (with_reducible refine qbx ?_;refine qaf (by kernel_rfl) 32 _ rfl w.heap.size rfl 32 _ (0,0) _ hV7 Tryz.underlying32 rfl hi30 ?_;simp only [qN]));refine kA.mono ?_;clear kA;rintro e w8 ⟨rfl,hb8⟩;have HB8:Hid (qB w w8):=HB7.out.trans (hb8.mono HB7.out.size);have HB18:Hid (qB W1 w8):=HB17.out.trans (hb8.mono HB17.out.size);clear hb8 x0 x1 x2 x3 x4 x5 x6 x7 y0 y1 hV7;go_wp2;go_roundw
         case rel=>exact ⟨j+1,by omega,by go_num,HN.out,HB18.out⟩
         case measure=>simp [intOf];omega
       | false=>
        have s02:(sv != 0)=true:=by simp only [bne,s0];rfl
        have s03:¬sv=0:=by simpa using s0
        have s04:Hid (¬sv=0):=s03;have s05:Hid ((sv==0)=false):=s0;clear s03 s0;have hPF:PB=true:=by rw [HPC,s05.out];rfl
        subst hPF;clear HPC HPB;have HE:Hid (R=false):=HX.out.trans (qbg (by rw [Bool.eq_false_iff];intro hq;simp [msDl,inI,idB] at hq;omega));clear HX;go_wp2;go_ret;exact ⟨qa2 (by rw [HE.out]),HB7.out⟩
      | false=>
       have f12:(fk != 1)=true:=by simp only [bne,f1];rfl
       have f13:¬fk=1:=by simpa using f1
       have f14:Hid (¬fk=1):=f13;have f15:Hid ((fk==1)=false):=f1;clear f13 f1;have HE:Hid (R=false):=HX.out.trans (qbg (by rw [Bool.eq_false_iff];intro hq;simp [msDl,inI,idB] at hq;have:=xz4.out;have:=i04.out;have:=f14.out;omega));clear HX;go_wp2;go_ret;exact ⟨qa2 (by rw [HE.out]),HB7.out⟩
     | false=>
      have i02:(xi != 0)=true:=by simp only [bne,i0];rfl
      have i03:¬xi=0:=by simpa using i0
      have i04:Hid (¬xi=0):=i03;have i05:Hid ((xi==0)=false):=i0;clear i03 i0;have HE:Hid (R=false):=HX.out.trans (qbg (by rw [Bool.eq_false_iff];intro hq;simp [msDl,inI,idB] at hq;have:=xz4.out;have:=i04.out;omega));clear HX;go_wp2;go_ret;exact ⟨qa2 (by rw [HE.out]),HB5.out⟩
    | false=>
     have xz2:(xl != 0)=true:=by simp only [bne,xz];rfl
     have xz3:¬xl=0:=by simpa using xz
     have xz4:Hid (¬xl=0):=xz3;have xz5:Hid ((xl==0)=false):=xz;clear xz3 xz;have HE:Hid (R=false):=HX.out.trans (qbg (by rw [Bool.eq_false_iff];intro hq;simp [msDl,inI,idB] at hq;have:=xz4.out;omega));clear HX;go_wp2;go_ret;exact ⟨qa2 (by rw [HE.out]),HB5.out⟩
  ·obtain rfl:j=v.s.n:=by omega
   have hlt':¬((v.s.n:Nat):Int) < (v.s.n:Nat):=by omega
   have HE:Hid (R=true):=by
    have h9:=HJ.out.1;rw [HSn.out,List.drop_length] at h9;exact h9
   clear HJ HVW HTW;go_wp2;go_ret;exact ⟨qa2 (by rw [HE.out]),HBW.out⟩
end Go.Proofs.YtijgopkhdjaolabGreat
