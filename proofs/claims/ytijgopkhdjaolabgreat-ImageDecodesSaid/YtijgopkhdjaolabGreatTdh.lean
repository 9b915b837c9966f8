import Derived.Test.YtijgopkhdjaolabGreatXTdd
import Derived.Test.YtijgopkhdjaolabGreatTdg
import Derived.Test.YtijgopkhdjaolabGreatTgy
set_option linter.unusedSimpArgs false
set_option linter.unusedVariables false
set_option maxHeartbeats 16000000
set_option maxRecDepth 100000
namespace Go.Proofs.YtijgopkhdjaolabGreat
open Go.Maps Go.RowKit Go.Shelf Go.Sort
def tkE (tb:Tb) (x:TkR):Bool:=idB x.ring tb.rings.length&&(qct tb.rings x.ring==x.prio)&&qex tb x
def tkD (tb:Tb):Bool:=tb.tasks.all qbu&&decide (tb.rings=qb3 tb.tasks 64)&&tb.tasks.all (tkE tb)
theorem qhy (x:TkR):qbu x=decide (0≤x.prio∧x.prio≤63∧1≤x.limit∧x.limit≤255∧((x.mask:Int)=0∨x.limit=1)):=by
 unfold qbu inI;rw [Bool.eq_iff_iff];simp;omega
theorem qp9 (a:Nat) (m:Int):decide (a < 2 ^ m.toNat)=((a:Int) / 2 ^ m.toNat==0):=by
 rw [Bool.eq_iff_iff];simp only [decide_eq_true_eq,beq_iff_eq];have h0:(0:Int) < 2 ^ m.toNat:=Int.pow_pos (by decide);have h1:((2 ^ m.toNat:Nat):Int)=2 ^ m.toNat:=by push_cast;rfl
 constructor
 ·intro h
  exact Int.ediv_eq_zero_of_lt (by omega) (by rw [←h1];exact_mod_cast h)
 ·intro h
  have h2:=Int.emod_add_mul_ediv (a:Int) (2 ^ m.toNat);have h3:=Int.emod_lt_of_pos (a:Int) h0;rw [h] at h2;have h4:(a:Int) < ((2 ^ m.toNat:Nat):Int):=by rw [h1];omega
  exact_mod_cast h4
theorem qb7 {P:Program} {ops:Array Oper} {Q:Exit→Act→World→Prop} {l:List Oper} {a:Act} {w:World} (h:wpList P ops Q l a w):wpList P ops Q l a w:=h
theorem qmf (tb:Tb) (v:Ts) (w:World) (h:TbAt w tb v) (hm:1≤tb.modes∧tb.modes≤8) (hl:tb.tasks.length≤256):Calls Tryz.prog 69 #[.agg (tbC tb v)] w fun e w'=>e=.returned (.bool (tkD tb))∧qB w w':=by
 obtain ⟨i0,hi0,hz0,hz1,hz2⟩:=info_parts qqf;have hb:=qa0 w (.cells (tbC tb v) 32);have hV0:=heap_alloc_new w (.cells (tbC tb v) 32);have HT:Hid (TbAt (w.alloc (.cells (tbC tb v) 32)) tb v):=h.below hb;have HB0:Hid (qB w (w.alloc (.cells (tbC tb v) 32))):=hb;have HV0:Hid ((w.alloc (.cells (tbC tb v) 32)).heap[w.heap.size]?=some (.cells (tbC tb v) 32)):=hV0;have HTn:Hid (v.t.n=tb.tasks.length):=h.t.n;have htc:v.t.n≤v.t.c:=h.t.c;have htm:v.t.c≤maxLen:=h.t.m;have ht256:v.t.n≤256:=by rw [h.t.n];exact hl
 have HGn:Hid (v.g.n=tb.rings.length):=h.g.n;have hgc:v.g.n≤v.g.c:=h.g.c;have hgm:v.g.c≤maxLen:=h.g.m;unfold maxLen at htm hgm;obtain ⟨R,hR⟩:∃R,R=tkD tb:=⟨_,rfl⟩
 rw [←hR];obtain ⟨D2,hD2⟩:∃D2,D2=(decide (tb.rings=qb3 tb.tasks 64)&&tb.tasks.all (tkE tb)):=⟨_,rfl⟩
 have HD2:Hid (D2=(decide (tb.rings=qb3 tb.tasks 64)&&tb.tasks.all (tkE tb))):=hD2;have HR:Hid (R=((tb.tasks.drop 0).all qbu&&D2)):=by show _=_;rw [hR,hD2,tkD,Bool.and_assoc];rfl
 have HO:Hid (∀(W:World) (x:TkR) (s:Sl),TbAt W tb v→RowsAt W 1 intP s x.own→Calls Tryz.prog 148 #[.agg (tbC tb v),.slice s.a s.n s.c,I x.prio] W fun e w'=>e=.returned (.bool (ownG tb x.prio (-1) x.own))∧qB W w'):=fun W x s hT hs=>qie tb v W hT s x.own hs x.prio
 have hi30:(Tryz.prog.info? 32).map (·.size)=some (tbC tb v).size:=by kernel_rfl
 have HAU:Hid (∀a:Nat,qcv tb a=((a:Int) / 2 ^ tb.modes.toNat==0)):=fun a=>qp9 a tb.modes
 obtain ⟨hm0,hm8⟩:=hm;clear h hR hb hV0 hD2 hl;unfold tbC at *;go_enter Tryz.func69,Tryz.ntmps69
 generalize hW:w.alloc (.cells (qC tb v) 32)=W1 at *;go_upto_region 1 with fail;clear hW;go_wp2;go_loopw [3,4,5] (fun pv lv iv wr=>∃(j:Nat) (a1:Option Addr) (c1:Nat) (a2:Option Addr) (c2:Nat),j≤v.t.n∧iv=.int .i64 j∧pv=.slice a1 j c1∧lv=.slice a2 j c2∧Hid (R=((tb.tasks.drop j).all qbu&&D2)∧(tb.tasks.take j).all qbu=true∧Two9 W1.heap.size 3 1 wr (.slice a1 j c1) j ((tb.tasks.take j).map fun x=>I x.prio) (.slice a2 j c2) j ((tb.tasks.take j).map fun x=>I x.limit)∧qB W1 wr)) (fun _ _ iv _=>v.t.n - (intOf iv).toNat)
 case atStart=>exact ⟨0,none,0,none,0,by omega,rfl,rfl,rfl,HR.out,rfl,Two9.nil,Below.refl _ _⟩
 case round=>
  clear HR;obtain ⟨j,a1,c1,a2,c2,hj,rfl,rfl,rfl,HJ⟩:=hrel;have HBW:Hid (qB w wr):=HB0.out.trans (HJ.out.2.2.2.mono HB0.out.size);have HTW:Hid (TbAt wr tb v):=HT.out.below HJ.out.2.2.2;have HVW:Hid (wr.heap[w.heap.size]?=some (.cells (qC tb v) 32)):=(HJ.out.2.2.2.block _ (qan HV0.out)).trans HV0.out;obtain ⟨_,_,d2,_,_,_,_,_,_⟩:=qbo HVW.out;by_cases hlt:j < v.t.n
  ·have hlt':(j:Int) < v.t.n:=by omega
   have hj8:j≤256:=by omega
   obtain ⟨x,hx⟩:∃x,tb.tasks[j]?=some x:=⟨_,List.getElem?_eq_getElem (by rw [←HTn.out];exact hlt)⟩
   obtain ⟨g5,o5,s6,e5,hg5,q0,q1,q2,q3,q4,q5,q6,q7,_⟩:=qdi HTW.out hx;have HX:Hid (R=(decide (0≤x.prio∧x.prio≤63∧1≤x.limit∧x.limit≤255∧((x.mask:Int)=0∨x.limit=1))&&((tb.tasks.drop (j+1)).all qbu&&D2))):=by
    have h9:=HJ.out.1;rw [qcu hx,List.all_cons,Bool.and_assoc,qhy] at h9;exact h9
   have HFT:Hid (qbu x=decide (0≤x.prio∧x.prio≤63∧1≤x.limit∧x.limit≤255∧((x.mask:Int)=0∨x.limit=1))∧(qbu x=true→(tb.tasks.take (j+1)).all qbu=true)):=⟨qhy x,fun hf=>by rw [List.take_add_one,hx,Option.toList_some,List.all_append,HJ.out.2.1];simp [hf]⟩;have HMP:Hid ((tb.tasks.take (j+1)).map (fun x=>I x.prio)=(tb.tasks.take j).map (fun x=>I x.prio)++[I x.prio]∧(tb.tasks.take (j+1)).map (fun x=>I x.limit)=(tb.tasks.take j).map (fun x=>I x.limit)++[I x.limit]):=⟨qi6 _ hx,qi6 _ hx⟩;have HB1:Hid (qB W1 wr):=HJ.out.2.2.2;obtain ⟨PS,hPS⟩:∃PS,PS=(tb.tasks.take j).map fun x=>I x.prio:=⟨_,rfl⟩
   obtain ⟨LS,hLS⟩:∃LS,LS=(tb.tasks.take j).map fun x=>I x.limit:=⟨_,rfl⟩
   have HT2:Hid (Two9 W1.heap.size 3 1 wr (.slice a1 j c1) j PS (.slice a2 j c2) j LS):=by rw [hPS,hLS];exact HJ.out.2.2.1
   rw [←hPS,←hLS] at HMP;clear hPS hLS;rw [e5] at d2;clear hx HJ hg5 e5 HVW HTW;generalize x.prio=xp at *;generalize x.ring=xr at *;generalize x.full=xu at *;generalize x.limit=xl at *;generalize (x.mask:Int)=xm at *;generalize x.inner=xn at *;generalize (x.auto:Int)=xa at *;have HBX:Hid (qB wr (wr.alloc (.cells #[I xp,I xr,.bool xu,I xl,.int .u32 xm,I xn,.slice s6.a s6.n s6.c,.int .u32 xa] 71))):=qa0 wr _;have hXN:(wr.alloc (.cells #[I xp,I xr,.bool xu,I xl,.int .u32 xm,I xn,.slice s6.a s6.n s6.c,.int .u32 xa] 71)).heap[wr.heap.size]?=some (.cells #[I xp,I xr,.bool xu,I xl,.int .u32 xm,I xn,.slice s6.a s6.n s6.c,.int .u32 xa] 71):=heap_alloc_new wr _;go_upto_region 7 with fail;generalize (wr.alloc (.cells #[I xp,I xr,.bool xu,I xl,.int .u32 xm,I xn,.slice s6.a s6.n s6.c,.int .u32 xa] 71))=W5 at *;have x0:=cell_of_row W5 _ 0 _ _ (0,0) hXN;have x1:=cell_of_row W5 _ 1 _ _ (0,0) hXN;have x2:=cell_of_row W5 _ 2 _ _ (0,0) hXN;have x3:=cell_of_row W5 _ 3 _ _ (0,0) hXN;have x4:=cell_of_row W5 _ 4 _ _ (0,0) hXN;simp at x0 x1 x2 x3 x4;have HXN:Hid (W5.heap[wr.heap.size]?=some (.cells #[I xp,I xr,.bool xu,I xl,.int .u32 xm,I xn,.slice s6.a s6.n s6.c,.int .u32 xa] 71)):=hXN;have HB5:Hid (qB w W5):=HBW.out.trans (HBX.out.mono HBW.out.size);have HB15:Hid (qB W1 W5):=HB1.out.trans (HBX.out.mono HB1.out.size);have HLT:Hid (∀b,(Value.slice a1 j c1).ownBlock=some b→b < wr.heap.size):=fun b e=>(HT2.out.o1.lt b e).2
   have HT25:Hid (Two9 W1.heap.size 3 1 W5 (.slice a1 j c1) j PS (.slice a2 j c2) j LS):=HT2.out.below HBX.out;clear hXN d2 q0 q1 q2 q3 q4 q5 q6 q7 HT2 HBX;by_cases g0:xp < 0
   ·have HE:Hid (R=false):=by show _=_;rw [HX.out,decide_eq_false (by omega)];rfl
    clear HX;go_wp2;go_ret;exact ⟨qa2 (by rw [HE.out]),HB5.out⟩
   by_cases g1:63 < xp
   ·have HE:Hid (R=false):=by show _=_;rw [HX.out,decide_eq_false (by omega)];rfl
    clear HX;go_wp2;go_ret;exact ⟨qa2 (by rw [HE.out]),HB5.out⟩
   by_cases g2:xl < 1
   ·have HE:Hid (R=false):=by show _=_;rw [HX.out,decide_eq_false (by omega)];rfl
    clear HX;go_wp2;go_ret;exact ⟨qa2 (by rw [HE.out]),HB5.out⟩
   by_cases g3:255 < xl
   ·have HE:Hid (R=false):=by show _=_;rw [HX.out,decide_eq_false (by omega)];rfl
    clear HX;go_wp2;go_ret;exact ⟨qa2 (by rw [HE.out]),HB5.out⟩
   cases m0:(xm==0) with
   | true=>
    have m02:(xm != 0)=false:=by simp only [bne,m0];rfl
    have m04:Hid (xm=0):=by show _=_;simpa using m0
    have m05:Hid ((xm==0)=true):=m0;clear m0;have HN:Hid (R=((tb.tasks.drop (j+1)).all qbu&&D2)∧(tb.tasks.take (j+1)).all qbu=true):=by
     have h9:(0≤xp∧xp≤63∧1≤xl∧xl≤255∧(xm=0∨xl=1)):=by have:=m04.out;omega
     exact ⟨by rw [HX.out,decide_eq_true h9];rfl,HFT.out.2 (by rw [HFT.out.1,decide_eq_true h9])⟩
    clear HX HFT;go_upto_region 9 with fail;have s15:=HB15.out.size;have q5:=HT25.out.o1.alloc (.cells #[I xp] 3);go_wp2_with (first
     | (at_builtin;refine wpList_append_own_at _ rfl (.tmp 51) (.tmp 54) 62 rfl W1.heap.size 3 i0 _ 1 8 Tryz.underlying62 hi0 hz0 hz1 hz2 rfl (by decide) _ _ _ rfl (q5) ⟨W5.heap.size,0,none⟩ 1 1 [I xp] rfl rfl (qaz W5 #[I xp] _) (by intro u hu;simp at hu;subst hu;rfl) (by unfold maxLen;omega) (by omega) (by simp;omega) ?_))
    intro v7 w7 o7 g7 _ l7;obtain ⟨a7,k7,rfl⟩:=qam o7;have HT27:Hid (Two9 W1.heap.size 3 1 w7 (.slice a7 (j+1) k7) (j+1) (PS++[I xp]) (.slice a2 j c2) j LS):=(HT25.out.below (qa0 W5 _)).left o7 g7 (by simpa using l7);have HB17:Hid (qB W1 w7):=(HB15.out.trans ((qa0 W5 _).mono HB15.out.size)).grown g7 (by simp;omega) (fun b e=>(HT25.out.o1.lt b e).1);have hX7:w7.heap[wr.heap.size]?=some (.cells #[I xp,I xr,.bool xu,I xl,.int .u32 xm,I xn,.slice s6.a s6.n s6.c,.int .u32 xa] 71):=by
     have h1:(W5.alloc (.cells #[I xp] 3)).heap[wr.heap.size]?=some (.cells #[I xp,I xr,.bool xu,I xl,.int .u32 xm,I xn,.slice s6.a s6.n s6.c,.int .u32 xa] 71):=((qa0 W5 _).block _ (qan HXN.out)).trans HXN.out;rw [←h1];exact qh5 g7 (qan h1) (fun e=>by have:=HLT.out _ e.symm;omega)
    have z3:=cell_of_row w7 _ 3 _ _ (0,0) hX7;simp at z3;clear o7 g7 l7 q5 x0 x1 x2 x3 x4 hX7;have q7:=HT27.out.o2.alloc (.cells #[I xl] 3);have s17:=HB17.out.size;go_wp2_with (first
     | (at_builtin;refine wpList_append_own_at _ rfl (.tmp 56) (.tmp 59) 62 rfl W1.heap.size 3 i0 _ 1 8 Tryz.underlying62 hi0 hz0 hz1 hz2 rfl (by decide) _ _ _ rfl (q7) ⟨w7.heap.size,0,none⟩ 1 1 [I xl] rfl rfl (qaz w7 #[I xl] _) (by intro u hu;simp at hu;subst hu;rfl) (by unfold maxLen;omega) (by omega) (by simp;omega) ?_))
    intro v9 w9 o9 g9 _ l9;obtain ⟨a9,k9,rfl⟩:=qam o9;have H9:Hid (R=((tb.tasks.drop (j+1)).all qbu&&D2)∧(tb.tasks.take (j+1)).all qbu=true∧Two9 W1.heap.size 3 1 w9 (.slice a7 (j+1) k7) (j+1) ((tb.tasks.take (j+1)).map fun x=>I x.prio) (.slice a9 (j+1) k9) (j+1) ((tb.tasks.take (j+1)).map fun x=>I x.limit)∧qB W1 w9):=by
     refine ⟨HN.out.1,HN.out.2,?_,(HB17.out.trans ((qa0 w7 _).mono HB17.out.size)).grown g9 (by simp;omega) (fun b e=>(HT27.out.o2.lt b e).1)⟩;rw [HMP.out.1,HMP.out.2];exact (((HT27.out.below (qa0 w7 _)).symm).left o9 g9 (by simpa using l9)).symm
    clear o9 g9 l9 q7;go_wp2;go_roundw
    case rel=>exact ⟨j+1,a7,k7,a9,k9,by omega,by go_num,rfl,rfl,H9.out⟩
    case measure=>simp [intOf];omega
   | false=>
    have m02:(xm != 0)=true:=by simp only [bne,m0];rfl
    have m04:Hid (¬xm=0):=by show ¬_;simpa using m0
    have m05:Hid ((xm==0)=false):=m0;clear m0;cases l1:(xl==1) with
    | true=>
     have l12:(xl != 1)=false:=by simp only [bne,l1];rfl
     have l14:Hid (xl=1):=by show _=_;simpa using l1
     have l15:Hid ((xl==1)=true):=l1;clear l1;have HN:Hid (R=((tb.tasks.drop (j+1)).all qbu&&D2)∧(tb.tasks.take (j+1)).all qbu=true):=by
      have h9:(0≤xp∧xp≤63∧1≤xl∧xl≤255∧(xm=0∨xl=1)):=by have:=l14.out;omega
      exact ⟨by rw [HX.out,decide_eq_true h9];rfl,HFT.out.2 (by rw [HFT.out.1,decide_eq_true h9])⟩
     clear HX HFT;go_upto_region 9 with fail;have s15:=HB15.out.size;have q5:=HT25.out.o1.alloc (.cells #[I xp] 3);go_wp2_with (first
      | (at_builtin;refine wpList_append_own_at _ rfl (.tmp 51) (.tmp 54) 62 rfl W1.heap.size 3 i0 _ 1 8 Tryz.underlying62 hi0 hz0 hz1 hz2 rfl (by decide) _ _ _ rfl (q5) ⟨W5.heap.size,0,none⟩ 1 1 [I xp] rfl rfl (qaz W5 #[I xp] _) (by intro u hu;simp at hu;subst hu;rfl) (by unfold maxLen;omega) (by omega) (by simp;omega) ?_))
     intro v7 w7 o7 g7 _ l7;obtain ⟨a7,k7,rfl⟩:=qam o7;have HT27:Hid (Two9 W1.heap.size 3 1 w7 (.slice a7 (j+1) k7) (j+1) (PS++[I xp]) (.slice a2 j c2) j LS):=(HT25.out.below (qa0 W5 _)).left o7 g7 (by simpa using l7);have HB17:Hid (qB W1 w7):=(HB15.out.trans ((qa0 W5 _).mono HB15.out.size)).grown g7 (by simp;omega) (fun b e=>(HT25.out.o1.lt b e).1);have hX7:w7.heap[wr.heap.size]?=some (.cells #[I xp,I xr,.bool xu,I xl,.int .u32 xm,I xn,.slice s6.a s6.n s6.c,.int .u32 xa] 71):=by
      have h1:(W5.alloc (.cells #[I xp] 3)).heap[wr.heap.size]?=some (.cells #[I xp,I xr,.bool xu,I xl,.int .u32 xm,I xn,.slice s6.a s6.n s6.c,.int .u32 xa] 71):=((qa0 W5 _).block _ (qan HXN.out)).trans HXN.out;rw [←h1];exact qh5 g7 (qan h1) (fun e=>by have:=HLT.out _ e.symm;omega)
     have z3:=cell_of_row w7 _ 3 _ _ (0,0) hX7;simp at z3;clear o7 g7 l7 q5 x0 x1 x2 x3 x4 hX7;have q7:=HT27.out.o2.alloc (.cells #[I xl] 3);have s17:=HB17.out.size;go_wp2_with (first
      | (at_builtin;refine wpList_append_own_at _ rfl (.tmp 56) (.tmp 59) 62 rfl W1.heap.size 3 i0 _ 1 8 Tryz.underlying62 hi0 hz0 hz1 hz2 rfl (by decide) _ _ _ rfl (q7) ⟨w7.heap.size,0,none⟩ 1 1 [I xl] rfl rfl (qaz w7 #[I xl] _) (by intro u hu;simp at hu;subst hu;rfl) (by unfold maxLen;omega) (by omega) (by simp;omega) ?_))
     intro v9 w9 o9 g9 _ l9;obtain ⟨a9,k9,rfl⟩:=qam o9;have H9:Hid (R=((tb.tasks.drop (j+1)).all qbu&&D2)∧(tb.tasks.take (j+1)).all qbu=true∧Two9 W1.heap.size 3 1 w9 (.slice a7 (j+1) k7) (j+1) ((tb.tasks.take (j+1)).map fun x=>I x.prio) (.slice a9 (j+1) k9) (j+1) ((tb.tasks.take (j+1)).map fun x=>I x.limit)∧qB W1 w9):=by
      refine ⟨HN.out.1,HN.out.2,?_,(HB17.out.trans ((qa0 w7 _).mono HB17.out.size)).grown g9 (by simp;omega) (fun b e=>(HT27.out.o2.lt b e).1)⟩;rw [HMP.out.1,HMP.out.2];exact (((HT27.out.below (qa0 w7 _)).symm).left o9 g9 (by simpa using l9)).symm
     clear o9 g9 l9 q7;go_wp2;go_roundw
     case rel=>exact ⟨j+1,a7,k7,a9,k9,by omega,by go_num,rfl,rfl,H9.out⟩
     case measure=>simp [intOf];omega
    | false=>
     have l12:(xl != 1)=true:=by simp only [bne,l1];rfl
     have l14:Hid (¬xl=1):=by show ¬_;simpa using l1
     have l15:Hid ((xl==1)=false):=l1;clear l1;have HE:Hid (R=false):=by show _=_;rw [HX.out,decide_eq_false (by have:=m04.out;have:=l14.out;omega)];rfl
     clear HX;go_wp2;go_ret;exact ⟨qa2 (by rw [HE.out]),HB5.out⟩
  ·obtain rfl:j=v.t.n:=by omega
   have hlt':¬((v.t.n:Nat):Int) < (v.t.n:Nat):=by omega
   have HRD:Hid (R=D2):=by
    have h9:=HJ.out.1;rw [HTn.out,List.drop_length] at h9;exact h9
   have kR:Calls Tryz.prog 147 #[.slice a1 v.t.n c1,.slice a2 v.t.n c2] wr fun e w'=>∃s:Sl,e=.returned (.slice s.a s.n s.c)∧RowsAt w' 2 rgrP s (qb3 tb.tasks 64)∧qB wr w':=by
    obtain ⟨_,h1,h2,_⟩:=HJ.out;have e1:tb.tasks.take v.t.n=tb.tasks:=List.take_of_length_le (by rw [HTn.out];exact Nat.le_refl _);rw [e1] at h1 h2;have h3:=h2.o1;have h4:=h2.o2;have r1:RowsAt wr 1 intP ⟨a1,v.t.n,c1⟩ (tb.tasks.map fun x=>x.prio):=qfj (n:=v.t.n) (base:=W1.heap.size) (s:=⟨a1,v.t.n,c1⟩) (l:=tb.tasks.map fun x=>x.prio) (by rw [List.length_map];exact HTn.out) (by rw [List.map_map];exact h3);have r2:RowsAt wr 1 intP ⟨a2,v.t.n,c2⟩ (tb.tasks.map fun x=>x.limit):=qfj (n:=v.t.n) (base:=W1.heap.size) (s:=⟨a2,v.t.n,c2⟩) (l:=tb.tasks.map fun x=>x.limit) (by rw [List.length_map];exact HTn.out) (by rw [List.map_map];exact h4);refine qme tb.tasks ⟨a1,v.t.n,c1⟩ ⟨a2,v.t.n,c2⟩ wr r1 r2 (fun x hx=>?_) (by rw [←HTn.out];exact ht256);have:=List.all_eq_true.1 h1 x hx;rw [qhy] at this;simp only [decide_eq_true_eq] at this;omega
   clear HJ;go_wp2_with (first | fail);refine kR.mono ?_;clear kR;rintro e w2 ⟨⟨sa,sn,sc⟩,rfl,hRo,hb2⟩;have HRo:Hid (RowsAt w2 2 rgrP ⟨sa,sn,sc⟩ (qb3 tb.tasks 64)):=hRo;have HB2:Hid (qB w w2):=HBW.out.trans (hb2.mono HBW.out.size);have HTQ:Hid (TbAt w2 tb v):=HTW.out.below hb2;have HVQ:Hid (w2.heap[w.heap.size]?=some (.cells (qC tb v) 32)):=(hb2.block _ (qan HVW.out)).trans HVW.out;obtain ⟨_,_,_,d3,_⟩:=qbo HVQ.out;clear hRo hb2 d2;go_upto_region 12 with fail;clear HT HV0 HB0 HBW HTW HVW;have HSn:Hid (sn=(qb3 tb.tasks 64).length):=HRo.out.n;have hsn64:sn≤64:=by rw [HSn.out];exact qhi _ 64
   have hscn:sn≤sc:=HRo.out.c;have hscm:sc≤maxLen:=HRo.out.m;unfold maxLen at hscm;by_cases hnn:sn=v.g.n
   ·subst hnn
    go_wp2;go_loopw [8] (fun iv wr=>∃j:Nat,j≤v.g.n∧iv=.int .i64 j∧Hid (tb.rings.take j=(qb3 tb.tasks 64).take j∧qB w2 wr)) (fun iv _=>v.g.n - (intOf iv).toNat)
    case atStart=>exact ⟨0,by omega,rfl,rfl,Below.refl _ _⟩
    case round=>
     obtain ⟨j,hj,rfl,HJ⟩:=hrel;have HBW:Hid (qB w wr):=HB2.out.trans (HJ.out.2.mono HB2.out.size);have HTW:Hid (TbAt wr tb v):=HTQ.out.below HJ.out.2;have HVW:Hid (wr.heap[w.heap.size]?=some (.cells (qC tb v) 32)):=(HJ.out.2.block _ (qan HVQ.out)).trans HVQ.out;have HRW:Hid (RowsAt wr 2 rgrP ⟨sa,v.g.n,sc⟩ (qb3 tb.tasks 64)):=HRo.out.below HJ.out.2 (fun _ _ _ _ h=>h);obtain ⟨_,_,_,d3,_⟩:=qbo HVW.out;by_cases hlt:j < v.g.n
     ·have hlt':(j:Int) < v.g.n:=by omega
      obtain ⟨z,hz⟩:∃z,tb.rings[j]?=some z:=⟨_,List.getElem?_eq_getElem (by rw [←HGn.out];exact hlt)⟩
      obtain ⟨y,hy⟩:∃y,(qb3 tb.tasks 64)[j]?=some y:=⟨_,List.getElem?_eq_getElem (by rw [←HSn.out];exact hlt)⟩
      obtain ⟨g5,o5,e5,hg5,q0,q1⟩:=qgu HTW.out hz;obtain ⟨g6,o6,e6,hg6,hr6⟩:=HRW.out.row j y hy;obtain ⟨u0,p0,f0⟩:=hr6 0 (by omega);obtain ⟨u1,p1,f1⟩:=hr6 1 (by omega);have f0':u0=I y.prio:=f0;have f1':u1=I y.cap:=f1;subst f0' f1';rw [Nat.add_zero] at p0;dsimp only at e6;have HYZ:Hid (y≠z→R=false):=fun hne=>by
       rw [HRD.out,HD2.out,decide_eq_false (by intro e;rw [←e,hz] at hy;exact hne (Option.some.inj hy.symm))];rfl
      have HYT:Hid (y=z→tb.rings.take (j+1)=(qb3 tb.tasks 64).take (j+1)):=fun he=>by
       rw [List.take_add_one,List.take_add_one,hz,hy,HJ.out.1,he]
      have HB1:Hid (qB w2 wr):=HJ.out.2;have HEQ:Hid (y=z ↔ (y.prio=z.prio∧y.cap=z.cap)):=by cases y;cases z;exact ⟨fun e=>by cases e;exact ⟨rfl,rfl⟩,fun e=>by obtain ⟨e1,e2⟩:=e;simp only at e1 e2;subst e1 e2;rfl⟩
      rw [e6];rw [e5] at d3;clear hz hy e5 e6 hg5 hg6 hr6 f0 f1 HJ HVW HTW HRW;generalize y.prio=yp at *;generalize y.cap=yc at *;generalize z.prio=zp at *;generalize z.cap=zc at *;have r1:=cell_regrown d3;have r2:=cell_regrown q0;have r3:=cell_regrown q1;have r4:=cell_regrown p0;have r5:=cell_regrown p1;clear d3 q0 q1 p0 p1;by_cases hyz:y=z
      ·have HN:Hid (tb.rings.take (j+1)=(qb3 tb.tasks 64).take (j+1)):=HYT.out hyz
       obtain ⟨e1,e2⟩:=HEQ.out.1 hyz;subst e1 e2;clear HYT HYZ HEQ hyz;go_upto_region 17 with fail;refine wp_region_quiet_below (by kernel_rfl) (by kernel_rfl) ?_;repeat (go_big_quiet_step (first | fail))
       refine wpQuiet_nil ?_;rintro _ ⟨⟨dq,osq⟩,rfl⟩;dsimp only;have HB9:Hid (qB w2 (grow (redrawn wr dq) osq)):=HB1.out.trans ((below_regrown wr dq osq).mono HB1.out.size);clear r1 r2 r3 r4 r5;generalize grow (redrawn wr dq) osq=w9 at *;go_wp2;go_roundw
       case rel=>exact ⟨j+1,by omega,by go_num,HN.out,HB9.out⟩
       case measure=>simp [intOf];omega
      ·have HE:Hid (R=false):=HYZ.out hyz
       have hne:¬(yp=zp∧yc=zc):=fun h=>hyz (HEQ.out.2 h)
       clear HYT HYZ HEQ hyz;have hcs:(yp==zp&&yc==zc)=false:=by rw [Bool.eq_false_iff];intro h;apply hne;simpa using h
       by_cases e1:yp=zp
       ·subst e1
        have e2:¬yc=zc:=fun h=>hne ⟨rfl,h⟩
        have e3:(yc==zc)=false:=by simpa using e2
        have e4:(yc != zc)=true:=by simp only [bne,e3];rfl
        clear hne hcs;go_upto_region 17 with fail;refine wp_region_quiet_below (by kernel_rfl) (by kernel_rfl) ?_;repeat (go_big_quiet_step (first | fail))
        refine wpQuiet_nil ?_;rintro _ ⟨⟨dq,osq⟩,rfl⟩;dsimp only;have HB9:Hid (qB w (grow (redrawn wr dq) osq)):=HBW.out.trans ((below_regrown wr dq osq).mono HBW.out.size);clear r1 r2 r3 r4 r5;generalize grow (redrawn wr dq) osq=w9 at *;go_wp2;go_ret;exact ⟨qa2 (by rw [HE.out]),HB9.out⟩
       ·have e3:(yp==zp)=false:=by simpa using e1
        have e4:(yp != zp)=true:=by simp only [bne,e3];rfl
        clear hne hcs;go_upto_region 17 with fail;refine wp_region_quiet_below (by kernel_rfl) (by kernel_rfl) ?_;repeat (go_big_quiet_step (first | fail))
        refine wpQuiet_nil ?_;rintro _ ⟨⟨dq,osq⟩,rfl⟩;dsimp only;have HB9:Hid (qB w (grow (redrawn wr dq) osq)):=HBW.out.trans ((below_regrown wr dq osq).mono HBW.out.size);clear r1 r2 r3 r4 r5;generalize grow (redrawn wr dq) osq=w9 at *;go_wp2;go_ret;exact ⟨qa2 (by rw [HE.out]),HB9.out⟩
     ·obtain rfl:j=v.g.n:=by omega
      have hlt':¬((v.g.n:Nat):Int) < (v.g.n:Nat):=by omega
      have HLR:Hid (tb.rings=qb3 tb.tasks 64):=by
       have h9:=HJ.out.1;rwa [List.take_of_length_le (by rw [HGn.out];exact Nat.le_refl _),List.take_of_length_le (by rw [HSn.out];exact Nat.le_refl _)] at h9
      have HRS:Hid (R=(tb.tasks.drop 0).all (tkE tb)):=by show _=_;rw [HRD.out,HD2.out,decide_eq_true HLR.out];rfl
      have HRo2:Hid (RowsAt wr 2 rgrP ⟨sa,v.g.n,sc⟩ tb.rings):=by have:=HRo.out.below HJ.out.2 (fun _ _ _ _ h=>h);rw [←HLR.out] at this;exact this
      clear HRo HRD HD2 HLR HJ HB2 HTQ HVQ d3;go_upto_region 19 with fail;generalize wr=W3 at *;go_wp2;go_loopw [9] (fun iv wr=>∃j:Nat,j≤v.t.n∧iv=.int .i64 j∧Hid (R=(tb.tasks.drop j).all (tkE tb)∧qB W3 wr)) (fun iv _=>v.t.n - (intOf iv).toNat)
      case atStart=>exact ⟨0,by omega,rfl,HRS.out,Below.refl _ _⟩
      case round=>
       clear HRS;obtain ⟨j,hj,rfl,HJ⟩:=hrel;have HBV:Hid (qB w wr):=HBW.out.trans (HJ.out.2.mono HBW.out.size);have HTV:Hid (TbAt wr tb v):=HTW.out.below HJ.out.2;have HVV:Hid (wr.heap[w.heap.size]?=some (.cells (qC tb v) 32)):=(HJ.out.2.block _ (qan HVW.out)).trans HVW.out;obtain ⟨_,_,d2,_⟩:=qbo HVV.out;by_cases hlt:j < v.t.n
       ·have hlt':(j:Int) < v.t.n:=by omega
        obtain ⟨x,hx⟩:∃x,tb.tasks[j]?=some x:=⟨_,List.getElem?_eq_getElem (by rw [←HTn.out];exact hlt)⟩
        obtain ⟨g5,o5,s6,e5,hg5,q0,q1,q2,q3,q4,q5,q6,q7,r6⟩:=qdi HTV.out hx;obtain ⟨OB,hOB⟩:∃OB,OB=ownG tb x.prio (-1) x.own:=⟨_,rfl⟩
        obtain ⟨PA,hPA⟩:∃PA,PA=qct tb.rings x.ring:=⟨_,rfl⟩
        have HX:Hid (R=(idB x.ring v.g.n&&(PA==x.prio)&&((x.inner==-1 || inI x.inner x.prio 127)&&OB&&((x.auto:Int) / 2 ^ tb.modes.toNat==0))&&(tb.tasks.drop (j+1)).all (tkE tb))):=by
         have h9:=HJ.out.1;rw [qcu hx,List.all_cons] at h9;show _=_;rw [h9];congr 1
         unfold tkE qex;rw [HAU.out,←hOB,←hPA,HGn.out]
        have HKR:Hid (∀(W:World),qB wr W→0≤x.ring→x.ring < v.g.n→∃(g off:Nat),sa=some ⟨g,off,none⟩∧W.cell? ⟨g,off+x.ring.toNat * 2,none⟩=some (I PA)):=fun W hW h0 h1=>by
         have hlt9:x.ring.toNat < tb.rings.length:=by rw [←HGn.out];omega
         obtain ⟨g,off,e,_,hr⟩:=((HRo2.out.below HJ.out.2 (fun _ _ _ _ h=>h)).below hW (fun _ _ _ _ h=>h)).row x.ring.toNat _ (List.getElem?_eq_getElem hlt9);obtain ⟨u,hu,hp⟩:=hr 0 (by omega);refine ⟨g,off,e,?_⟩;rw [Nat.add_zero] at hu;rw [hu,show u=I (tb.rings[x.ring.toNat]'hlt9).prio from hp,hPA];unfold qct;rw [List.getElem?_eq_getElem hlt9]
        have HKO:Hid (∀(W:World),qB wr W→Calls Tryz.prog 148 #[.agg (qC tb v),.slice s6.a s6.n s6.c,I x.prio] W fun e w'=>e=.returned (.bool OB)∧qB W w'):=fun W hW=>by rw [hOB];exact HO.out W x s6 (HTV.out.below hW) (r6.below hW (fun _ _ _ _ h=>h))
        have HB1:Hid (qB W3 wr):=HJ.out.2;rw [e5] at d2;clear hx HJ hg5 e5 hOB hPA r6;generalize x.prio=xp at *;generalize x.ring=xr at *;generalize x.full=xu at *;generalize x.limit=xl at *;generalize (x.mask:Int)=xm at *;generalize x.inner=xn at *;generalize (x.auto:Int)=xa at *;by_cases hring:0≤xr∧xr < (v.g.n:Int)
        ·obtain ⟨g3,g4⟩:=hring
         obtain ⟨gr,orr,er,_⟩:=HKR.out wr (Below.refl _ _) g3 g4;have HP0:Hid (∀W,qB wr W→W.cell? ⟨gr,orr+xr.toNat * 2,none⟩=some (I PA)):=fun W hW=>by
          obtain ⟨g,off,e,p⟩:=HKR.out W hW g3 g4;rw [er] at e;cases e;exact p
         rw [er];clear er;have HBX:Hid (qB wr (wr.alloc (.cells #[I xp,I xr,.bool xu,I xl,.int .u32 xm,I xn,.slice s6.a s6.n s6.c,.int .u32 xa] 71))):=qa0 wr _;have hXN:(wr.alloc (.cells #[I xp,I xr,.bool xu,I xl,.int .u32 xm,I xn,.slice s6.a s6.n s6.c,.int .u32 xa] 71)).heap[wr.heap.size]?=some (.cells #[I xp,I xr,.bool xu,I xl,.int .u32 xm,I xn,.slice s6.a s6.n s6.c,.int .u32 xa] 71):=heap_alloc_new wr _;have hVX:(wr.alloc (.cells #[I xp,I xr,.bool xu,I xl,.int .u32 xm,I xn,.slice s6.a s6.n s6.c,.int .u32 xa] 71)).heap[w.heap.size]?=some (.cells (qC tb v) 32):=((qa0 wr _).block _ (qan HVV.out)).trans HVV.out;go_upto_region 23 with fail;generalize (wr.alloc (.cells #[I xp,I xr,.bool xu,I xl,.int .u32 xm,I xn,.slice s6.a s6.n s6.c,.int .u32 xa] 71))=W5 at *;have HXX:Hid (∀W,qB W5 W→W.cell? ⟨wr.heap.size,0,none⟩=some (I xp)∧W.cell? ⟨wr.heap.size,1,none⟩=some (I xr)∧W.cell? ⟨wr.heap.size,5,none⟩=some (I xn)∧W.cell? ⟨wr.heap.size,6,none⟩=some (.slice s6.a s6.n s6.c)∧W.cell? ⟨wr.heap.size,7,none⟩=some (.int .u32 xa)∧W.cell? ⟨w.heap.size,1,none⟩=some (I tb.modes)∧W.heap[w.heap.size]?=some (.cells (qC tb v) 32)):=fun W hW=>by
          have h1:=(hW.block _ (qan hXN)).trans hXN;have h2:=(hW.block _ (qan hVX)).trans hVX;obtain ⟨_,d1,_⟩:=qbo h2;exact ⟨by rw [cell_of_row W _ 0 _ _ (0,0) h1];rfl,by rw [cell_of_row W _ 1 _ _ (0,0) h1];rfl,by rw [cell_of_row W _ 5 _ _ (0,0) h1];rfl,by rw [cell_of_row W _ 6 _ _ (0,0) h1];rfl,by rw [cell_of_row W _ 7 _ _ (0,0) h1];rfl,d1,h2⟩
         obtain ⟨x0,x1,_⟩:=HXX.out W5 (Below.refl _ _);have r0:=cell_regrown x0;have r1:=cell_regrown x1;have HB5:Hid (qB w W5):=HBV.out.trans (HBX.out.mono HBV.out.size);have HB35:Hid (qB W3 W5):=HB1.out.trans (HBX.out.mono HB1.out.size);clear hXN d2 q0 q1 q2 q3 q4 q5 q6 q7 hVX x0 x1;have g0d:decide (xr < 0)=false:=by simp;omega
         have g1d:decide ((v.g.n:Int)≤xr)=false:=by simp;omega
         have HID:Hid (idB xr v.g.n=true):=by show _=_;unfold idB;simp;omega
         rw [HID.out] at HX;have r2:=cell_regrown (HP0.out W5 HBX.out);clear HP0;cases pp:(PA==xp) with
         | true=>
          have pp2:(PA != xp)=false:=by simp only [bne,pp];rfl
          have pp4:Hid (PA=xp):=by show _=_;simpa using pp
          have pp5:Hid ((PA==xp)=true):=pp;clear pp;have HX2:Hid (R=((xn==-1 || inI xn xp 127)&&OB&&(xa / 2 ^ tb.modes.toNat==0)&&(tb.tasks.drop (j+1)).all (tkE tb))):=by show _=_;rw [HX.out,pp5.out];rfl
          clear HX;refine wp_region_quiet_below (by kernel_rfl) (by kernel_rfl) ?_;repeat (go_big_quiet_step (first | fail))
          refine wpQuiet_nil ?_;rintro _ ⟨⟨dq,osq⟩,rfl⟩;dsimp only;have HQ9:Hid (qB W5 (grow (redrawn W5 dq) osq)):=below_regrown W5 dq osq;clear r0 r1;generalize grow (redrawn W5 dq) osq=w9 at *;clear g0d g1d g3 g4 r2 pp2 pp4;obtain ⟨x0,x1,x5,x6,x7,m1,hV9⟩:=HXX.out w9 HQ9.out;have HB9:Hid (qB w w9):=HB5.out.trans (HQ9.out.mono HB5.out.size);have HB39:Hid (qB W3 w9):=HB35.out.trans (HQ9.out.mono HB35.out.size);have kO:=HKO.out w9 (HBX.out.trans (HQ9.out.mono HBX.out.size));clear HKO HKR;go_upto_region 25 with fail;cases nn:(xn==-1) with
          | true=>
           have nn2:(xn != -1)=false:=by simp only [bne,nn];rfl
           have nn4:Hid (xn=-1):=by show _=_;simpa using nn
           have nn5:Hid ((xn==-1)=true):=nn;clear nn;have HX3:Hid (R=(OB&&(xa / 2 ^ tb.modes.toNat==0)&&(tb.tasks.drop (j+1)).all (tkE tb))):=by
            show _=_;rw [HX2.out,show (xn==-1 || inI xn xp 127)=true from by have:=nn4.out; unfold inI;simp;omega];rfl
           clear HX2;cases OB with
           | false=>
            have HE:Hid (R=false):=by show _=_;rw [HX3.out];rfl
            clear HX3;go_wp2_with (first | (with_reducible refine qb7 ?_;refine qaf (by kernel_rfl) 32 _ rfl w.heap.size rfl 32 _ (0,0) _ hV9 Tryz.underlying32 rfl hi30 ?_;simp only [qN]));refine kO.mono ?_;clear kO;rintro e w8 ⟨rfl,hb8⟩;have HB8:Hid (qB w w8):=HB9.out.trans (hb8.mono HB9.out.size);have HB38:Hid (qB W3 w8):=HB39.out.trans (hb8.mono HB39.out.size);obtain ⟨z0,z1,z5,z6,z7,n1,_⟩:=HXX.out w8 (HQ9.out.trans (hb8.mono HQ9.out.size));clear hb8 x0 x1 x5 x6 x7 m1 hV9;go_wp2;go_ret;exact ⟨qa2 (by rw [HE.out]),HB8.out⟩
           | true=>
            cases ha:(xa / 2 ^ tb.modes.toNat==0) with
            | true=>
             have ha2:(xa / 2 ^ tb.modes.toNat != 0)=false:=by simp only [bne,ha];rfl
             have HN:Hid (R=(tb.tasks.drop (j+1)).all (tkE tb)):=by show _=_;rw [HX3.out,ha];rfl
             clear HX3 ha;go_wp2_with (first | (with_reducible refine qb7 ?_;refine qaf (by kernel_rfl) 32 _ rfl w.heap.size rfl 32 _ (0,0) _ hV9 Tryz.underlying32 rfl hi30 ?_;simp only [qN]));refine kO.mono ?_;clear kO;rintro e w8 ⟨rfl,hb8⟩;have HB8:Hid (qB w w8):=HB9.out.trans (hb8.mono HB9.out.size);have HB38:Hid (qB W3 w8):=HB39.out.trans (hb8.mono HB39.out.size);obtain ⟨z0,z1,z5,z6,z7,n1,_⟩:=HXX.out w8 (HQ9.out.trans (hb8.mono HQ9.out.size));clear hb8 x0 x1 x5 x6 x7 m1 hV9;go_wp2;go_roundw
             case rel=>exact ⟨j+1,by omega,by go_num,HN.out,HB38.out⟩
             case measure=>simp [intOf];omega
            | false=>
             have ha2:(xa / 2 ^ tb.modes.toNat != 0)=true:=by simp only [bne,ha];rfl
             have HE:Hid (R=false):=by show _=_;rw [HX3.out,ha];rfl
             clear HX3 ha;go_wp2_with (first | (with_reducible refine qb7 ?_;refine qaf (by kernel_rfl) 32 _ rfl w.heap.size rfl 32 _ (0,0) _ hV9 Tryz.underlying32 rfl hi30 ?_;simp only [qN]));refine kO.mono ?_;clear kO;rintro e w8 ⟨rfl,hb8⟩;have HB8:Hid (qB w w8):=HB9.out.trans (hb8.mono HB9.out.size);have HB38:Hid (qB W3 w8):=HB39.out.trans (hb8.mono HB39.out.size);obtain ⟨z0,z1,z5,z6,z7,n1,_⟩:=HXX.out w8 (HQ9.out.trans (hb8.mono HQ9.out.size));clear hb8 x0 x1 x5 x6 x7 m1 hV9;go_wp2;go_ret;exact ⟨qa2 (by rw [HE.out]),HB8.out⟩
          | false=>
           have nn2:(xn != -1)=true:=by simp only [bne,nn];rfl
           have nn4:Hid (¬xn=-1):=by show ¬_;simpa using nn
           have nn5:Hid ((xn==-1)=false):=nn;clear nn;by_cases h1:xn < xp
           ·have HE:Hid (R=false):=by show _=_;rw [HX2.out,show (xn==-1 || inI xn xp 127)=false from by have:=nn4.out;unfold inI;simp;omega];rfl
            clear HX2;go_wp2;go_ret;exact ⟨qa2 (by rw [HE.out]),HB9.out⟩
           by_cases h2:127 < xn
           ·have HE:Hid (R=false):=by show _=_;rw [HX2.out,show (xn==-1 || inI xn xp 127)=false from by have:=nn4.out;unfold inI;simp;omega];rfl
            clear HX2;go_wp2;go_ret;exact ⟨qa2 (by rw [HE.out]),HB9.out⟩
           have HX3:Hid (R=(OB&&(xa / 2 ^ tb.modes.toNat==0)&&(tb.tasks.drop (j+1)).all (tkE tb))):=by
            show _=_;rw [HX2.out,show (xn==-1 || inI xn xp 127)=true from by have:=nn4.out; unfold inI;simp;omega];rfl
           clear HX2;cases OB with
           | false=>
            have HE:Hid (R=false):=by show _=_;rw [HX3.out];rfl
            clear HX3;go_wp2_with (first | (with_reducible refine qb7 ?_;refine qaf (by kernel_rfl) 32 _ rfl w.heap.size rfl 32 _ (0,0) _ hV9 Tryz.underlying32 rfl hi30 ?_;simp only [qN]));refine kO.mono ?_;clear kO;rintro e w8 ⟨rfl,hb8⟩;have HB8:Hid (qB w w8):=HB9.out.trans (hb8.mono HB9.out.size);have HB38:Hid (qB W3 w8):=HB39.out.trans (hb8.mono HB39.out.size);obtain ⟨z0,z1,z5,z6,z7,n1,_⟩:=HXX.out w8 (HQ9.out.trans (hb8.mono HQ9.out.size));clear hb8 x0 x1 x5 x6 x7 m1 hV9;go_wp2;go_ret;exact ⟨qa2 (by rw [HE.out]),HB8.out⟩
           | true=>
            cases ha:(xa / 2 ^ tb.modes.toNat==0) with
            | true=>
             have ha2:(xa / 2 ^ tb.modes.toNat != 0)=false:=by simp only [bne,ha];rfl
             have HN:Hid (R=(tb.tasks.drop (j+1)).all (tkE tb)):=by show _=_;rw [HX3.out,ha];rfl
             clear HX3 ha;go_wp2_with (first | (with_reducible refine qb7 ?_;refine qaf (by kernel_rfl) 32 _ rfl w.heap.size rfl 32 _ (0,0) _ hV9 Tryz.underlying32 rfl hi30 ?_;simp only [qN]));refine kO.mono ?_;clear kO;rintro e w8 ⟨rfl,hb8⟩;have HB8:Hid (qB w w8):=HB9.out.trans (hb8.mono HB9.out.size);have HB38:Hid (qB W3 w8):=HB39.out.trans (hb8.mono HB39.out.size);obtain ⟨z0,z1,z5,z6,z7,n1,_⟩:=HXX.out w8 (HQ9.out.trans (hb8.mono HQ9.out.size));clear hb8 x0 x1 x5 x6 x7 m1 hV9;go_wp2;go_roundw
             case rel=>exact ⟨j+1,by omega,by go_num,HN.out,HB38.out⟩
             case measure=>simp [intOf];omega
            | false=>
             have ha2:(xa / 2 ^ tb.modes.toNat != 0)=true:=by simp only [bne,ha];rfl
             have HE:Hid (R=false):=by show _=_;rw [HX3.out,ha];rfl
             clear HX3 ha;go_wp2_with (first | (with_reducible refine qb7 ?_;refine qaf (by kernel_rfl) 32 _ rfl w.heap.size rfl 32 _ (0,0) _ hV9 Tryz.underlying32 rfl hi30 ?_;simp only [qN]));refine kO.mono ?_;clear kO;rintro e w8 ⟨rfl,hb8⟩;have HB8:Hid (qB w w8):=HB9.out.trans (hb8.mono HB9.out.size);have HB38:Hid (qB W3 w8):=HB39.out.trans (hb8.mono HB39.out.size);obtain ⟨z0,z1,z5,z6,z7,n1,_⟩:=HXX.out w8 (HQ9.out.trans (hb8.mono HQ9.out.size));clear hb8 x0 x1 x5 x6 x7 m1 hV9;go_wp2;go_ret;exact ⟨qa2 (by rw [HE.out]),HB8.out⟩
         | false=>
          have pp2:(PA != xp)=true:=by simp only [bne,pp];rfl
          have pp4:Hid (¬PA=xp):=by show ¬_;simpa using pp
          have pp5:Hid ((PA==xp)=false):=pp;clear pp;have HE:Hid (R=false):=by show _=_;rw [HX.out,pp5.out];rfl
          clear HX;refine wp_region_quiet_below (by kernel_rfl) (by kernel_rfl) ?_;repeat (go_big_quiet_step (first | fail))
          refine wpQuiet_nil ?_;rintro _ ⟨⟨dq,osq⟩,rfl⟩;dsimp only;have HQ9:Hid (qB W5 (grow (redrawn W5 dq) osq)):=below_regrown W5 dq osq;clear r0 r1;generalize grow (redrawn W5 dq) osq=w9 at *;have HB9:Hid (qB w w9):=HB5.out.trans (HQ9.out.mono HB5.out.size);go_wp2;go_ret;exact ⟨qa2 (by rw [HE.out]),HB9.out⟩
        ·have HBX:Hid (qB wr (wr.alloc (.cells #[I xp,I xr,.bool xu,I xl,.int .u32 xm,I xn,.slice s6.a s6.n s6.c,.int .u32 xa] 71))):=qa0 wr _
         have hXN:(wr.alloc (.cells #[I xp,I xr,.bool xu,I xl,.int .u32 xm,I xn,.slice s6.a s6.n s6.c,.int .u32 xa] 71)).heap[wr.heap.size]?=some (.cells #[I xp,I xr,.bool xu,I xl,.int .u32 xm,I xn,.slice s6.a s6.n s6.c,.int .u32 xa] 71):=heap_alloc_new wr _;have hVX:(wr.alloc (.cells #[I xp,I xr,.bool xu,I xl,.int .u32 xm,I xn,.slice s6.a s6.n s6.c,.int .u32 xa] 71)).heap[w.heap.size]?=some (.cells (qC tb v) 32):=((qa0 wr _).block _ (qan HVV.out)).trans HVV.out;go_upto_region 23 with fail;generalize (wr.alloc (.cells #[I xp,I xr,.bool xu,I xl,.int .u32 xm,I xn,.slice s6.a s6.n s6.c,.int .u32 xa] 71))=W5 at *;have HXX:Hid (∀W,qB W5 W→W.cell? ⟨wr.heap.size,0,none⟩=some (I xp)∧W.cell? ⟨wr.heap.size,1,none⟩=some (I xr)∧W.cell? ⟨wr.heap.size,5,none⟩=some (I xn)∧W.cell? ⟨wr.heap.size,6,none⟩=some (.slice s6.a s6.n s6.c)∧W.cell? ⟨wr.heap.size,7,none⟩=some (.int .u32 xa)∧W.cell? ⟨w.heap.size,1,none⟩=some (I tb.modes)∧W.heap[w.heap.size]?=some (.cells (qC tb v) 32)):=fun W hW=>by
          have h1:=(hW.block _ (qan hXN)).trans hXN;have h2:=(hW.block _ (qan hVX)).trans hVX;obtain ⟨_,d1,_⟩:=qbo h2;exact ⟨by rw [cell_of_row W _ 0 _ _ (0,0) h1];rfl,by rw [cell_of_row W _ 1 _ _ (0,0) h1];rfl,by rw [cell_of_row W _ 5 _ _ (0,0) h1];rfl,by rw [cell_of_row W _ 6 _ _ (0,0) h1];rfl,by rw [cell_of_row W _ 7 _ _ (0,0) h1];rfl,d1,h2⟩
         obtain ⟨x0,x1,_⟩:=HXX.out W5 (Below.refl _ _);have r0:=cell_regrown x0;have r1:=cell_regrown x1;have HB5:Hid (qB w W5):=HBV.out.trans (HBX.out.mono HBV.out.size);have HB35:Hid (qB W3 W5):=HB1.out.trans (HBX.out.mono HB1.out.size);clear hXN d2 q0 q1 q2 q3 q4 q5 q6 q7 hVX x0 x1;by_cases g0:xr < 0
         ·have g0d:decide (xr < 0)=true:=by simp;omega
          have HE:Hid (R=false):=by show _=_;rw [HX.out,show idB xr v.g.n=false from by rw [Bool.eq_false_iff];intro h9;unfold idB at h9;simp at h9;exact absurd h9 (by omega)];rfl
          clear HX;refine wp_region_quiet_below (by kernel_rfl) (by kernel_rfl) ?_;repeat (go_big_quiet_step (first | fail))
          refine wpQuiet_nil ?_;rintro _ ⟨⟨dq,osq⟩,rfl⟩;dsimp only;have HQ9:Hid (qB W5 (grow (redrawn W5 dq) osq)):=below_regrown W5 dq osq;clear r0 r1;generalize grow (redrawn W5 dq) osq=w9 at *;have HB9:Hid (qB w w9):=HB5.out.trans (HQ9.out.mono HB5.out.size);go_wp2;go_ret;exact ⟨qa2 (by rw [HE.out]),HB9.out⟩
         have g0d:decide (xr < 0)=false:=by simp;omega
         have g1d:decide ((v.g.n:Int)≤xr)=true:=by simp;omega
         have HE:Hid (R=false):=by show _=_;rw [HX.out,show idB xr v.g.n=false from by rw [Bool.eq_false_iff];intro h9;unfold idB at h9;simp at h9;exact absurd h9 (by omega)];rfl
         clear HX;refine wp_region_quiet_below (by kernel_rfl) (by kernel_rfl) ?_;repeat (go_big_quiet_step (first | fail))
         refine wpQuiet_nil ?_;rintro _ ⟨⟨dq,osq⟩,rfl⟩;dsimp only;have HQ9:Hid (qB W5 (grow (redrawn W5 dq) osq)):=below_regrown W5 dq osq;clear r0 r1;generalize grow (redrawn W5 dq) osq=w9 at *;have HB9:Hid (qB w w9):=HB5.out.trans (HQ9.out.mono HB5.out.size);go_wp2;go_ret;exact ⟨qa2 (by rw [HE.out]),HB9.out⟩
       ·obtain rfl:j=v.t.n:=by omega
        have hlt':¬((v.t.n:Nat):Int) < (v.t.n:Nat):=by omega
        have HE:Hid (R=true):=by
         have h9:=HJ.out.1;rw [HTn.out,List.drop_length] at h9;exact h9
        clear HJ HVV HTV;go_wp2;go_ret;exact ⟨qa2 (by rw [HE.out]),HBV.out⟩
   ·have n1:((sn:Int)==(v.g.n:Int))=false:=by simp;omega
    have n2:((sn:Int) != (v.g.n:Int))=true:=by simp;omega
    have n3:¬(sn:Int)=(v.g.n:Int):=by omega
    have HE:Hid (R=false):=by
     show _=_;rw [HRD.out,HD2.out,decide_eq_false (by intro e;apply hnn;rw [HSn.out,HGn.out,e])];rfl
    clear HRD HD2;go_wp2;go_ret;exact ⟨qa2 (by rw [HE.out]),HB2.out⟩
end Go.Proofs.YtijgopkhdjaolabGreat
