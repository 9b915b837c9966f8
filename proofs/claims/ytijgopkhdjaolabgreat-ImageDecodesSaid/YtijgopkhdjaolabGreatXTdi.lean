import Derived.Test.YtijgopkhdjaolabGreatXTcz
import Derived.Test.YtijgopkhdjaolabGreatXTde
import Derived.Test.YtijgopkhdjaolabGreatTdf
import Derived.Test.YtijgopkhdjaolabGreatTdh
set_option linter.unusedSimpArgs false
set_option linter.unusedVariables false
set_option maxHeartbeats 16000000
set_option maxRecDepth 100000
namespace Go.Proofs.YtijgopkhdjaolabGreat
open Go.RowKit Go.Shelf Go.Sort
def mx2 (a b:Int):Int:=max a b
theorem qpa (ats:Array TypeId) (ty:TypeId) (a b:Int):Builtin.max_ ats ty #[.int .i64 a,.int .i64 b]=pure (.int .i64 (mx2 a b)):=by
 show (do let s ←Builtin.max2 (.int .i64 a) (.int .i64 b);pure s:Sem Value)=_;simp only [Builtin.max2];show (pure _:Sem Value)=_;congr 2
 unfold mx2;split <;> omega
attribute [local go_sem 5000] qpa
theorem qf2 {α:Type} (p:α→Bool) {l:List α} {j:Nat} {x:α} (h:l[j]?=some x):(l.take (j+1)).countP p=(l.take j).countP p+if p x then 1 else 0:=by
 rw [List.take_add_one,h,Option.toList_some,List.countP_append];simp [List.countP_cons]
theorem qif (n:Nat) (l:List Int):qcg (n+1) l=max (qcg n l) (l.count (n:Int)):=by
 unfold qcg maxL;rw [List.range_succ,List.map_append,List.foldl_append];rfl
theorem qob (l:List AlR) (c:Int):(l.map fun x=>x.ctr).count c=l.countP fun x=>x.ctr==c:=by
 rw [List.count,List.countP_map];rfl
theorem qoc (tb:Tb) (c:Int):(rcvL tb).count c=tb.msgs.countP fun x=>(x.kind != 1)&&(x.frm==c):=by
 unfold rcvL;rw [List.count,List.countP_map,List.countP_filter];congr 1
 funext x
 simp [Function.comp,Bool.and_comm]
theorem qod {fn:Func} (hf:fn.results=#[.tmp 2,.tmp 3,.tmp 4,.tmp 5]) (tmps:Array Value) (w:World) (v0 v1 v2 v3:Value)
  (h0:tmps[2]?=some v0) (h1:tmps[3]?=some v1) (h2:tmps[4]?=some v2) (h3:tmps[5]?=some v3) :
  (results fn tmps).run Tryz.prog w=.ok (.tuple #[v0,v1,v2,v3]) w:=by
 simp [results,hf,go_sem,h0,h1,h2,h3]
def rmD (tb:Tb):Array Value:=#[I tb.rings.length,I ((tb.isrs.length:Int)+4),I ((max 2 (max (qcg tb.ctrs.length (tb.als.map fun x=>x.ctr)) (qcg tb.msgs.length (rcvL tb))):Nat):Int),I (qeb tb)]
theorem qoe (tb:Tb) (v:Ts) (w:World) (h:TbAt w tb v) (hl:tb.isrs.length≤32∧tb.als.length≤64∧tb.msgs.length≤64):Calls Tryz.prog 73 #[.agg (tbC tb v)] w fun e w'=>e=.returned (.tuple (rmD tb))∧qB w w':=by
 have hb:=qa0 w (.cells (tbC tb v) 32);have hV0:=heap_alloc_new w (.cells (tbC tb v) 32);have HT:Hid (TbAt (w.alloc (.cells (tbC tb v) 32)) tb v):=h.below hb;have HB0:Hid (qB w (w.alloc (.cells (tbC tb v) 32))):=hb;obtain ⟨c0,c1,c2,c3,c4,c5,c6,c7,c8,c9,c10,c11,c12⟩:=qbo hV0;have HAn:Hid (v.a.n=tb.als.length):=h.a.n;have hac:v.a.n≤v.a.c:=h.a.c;have ham:v.a.c≤maxLen:=h.a.m;have HSn:Hid (v.s.n=tb.msgs.length):=h.s.n;have hsc:v.s.n≤v.s.c:=h.s.c;have hsm:v.s.c≤maxLen:=h.s.m;have HKn:Hid (v.k.n=tb.ctrs.length):=h.k.n;have hkc:v.k.n≤v.k.c:=h.k.c;have hkm:v.k.c≤maxLen:=h.k.m;have hin:v.i.n≤32:=by have:=h.i.n;omega
 have HBG:Hid (v.s.n+v.a.n < 9223372036854775807):=by show _ < _;have:=h.s.n;have:=h.a.n;omega
 unfold maxLen at ham hsm hkm;obtain ⟨Z,hZ⟩:∃Z,Z=rmD tb:=⟨_,rfl⟩
 rw [←hZ];have HZ:Hid (Z=#[I (v.g.n:Int),I ((v.i.n:Int)+4),I ((max 2 (max (qcg v.k.n (tb.als.map fun x=>x.ctr)) (qcg v.s.n (rcvL tb))):Nat):Int),I ((tb.msgs.countP (fun x=>x.ac.kind==3)+tb.als.countP (fun x=>x.ac.kind==3):Nat):Int)]):=by
  show _=_;rw [hZ,HKn.out,HSn.out,h.g.n,h.i.n];unfold rmD qeb;rw [List.countP_eq_length_filter,List.countP_eq_length_filter,Nat.add_comm]
 clear h hZ hb hV0 c0 c1 c2 c4 c9 c10 c11 c12 hl;unfold tbC at *;go_enter Tryz.func73,Tryz.ntmps73
 generalize hW:w.alloc (.cells (qC tb v) 32)=W1 at *;go_upto_region 1 with fail;clear hW;go_wp2;go_loopw [6,7] (fun mv cv wr=>∃c m:Nat,c≤v.k.n∧cv=.int .i64 c∧mv=.int .i64 m∧wr=W1∧Hid (m=max 2 (qcg c (tb.als.map fun x=>x.ctr)))) (fun _ cv _=>v.k.n - (intOf cv).toNat)
 case atStart=>exact ⟨0,2,by omega,rfl,rfl,rfl,rfl⟩
 case round=>
  obtain ⟨c,m,hc,rfl,rfl,rfl,HM⟩:=hrel;by_cases hlt:c < v.k.n
  ·have hlt':(c:Int) < v.k.n:=by omega
   go_wp2;go_loopw [8,9] (fun nv iv wr2=>∃i n:Nat,i≤v.a.n∧n≤i∧iv=.int .i64 i∧nv=.int .i64 n∧wr2=wr∧Hid (n=(tb.als.take i).countP fun x=>x.ctr==(c:Int))) (fun _ iv _=>v.a.n - (intOf iv).toNat)
   case atStart=>exact ⟨0,0,by omega,by omega,rfl,rfl,rfl,rfl⟩
   case round=>
    obtain ⟨i,n,hi,hni,rfl,rfl,rfl,HI⟩:=hrel;by_cases hl2:i < v.a.n
    ·have hl2':(i:Int) < v.a.n:=by omega
     obtain ⟨x,hx⟩:∃x,tb.als[i]?=some x:=⟨_,List.getElem?_eq_getElem (by rw [←HAn.out];exact hl2)⟩
     obtain ⟨g5,o5,e5,hg5,q0,q1,_⟩:=qgx HT.out hx;rw [e5] at c6;have HN:Hid ((tb.als.take (i+1)).countP (fun x=>x.ctr==(c:Int))=n+if (x.ctr==(c:Int)) then 1 else 0):=by show _=_;rw [qf2 _ hx,HI.out]
     clear hx e5 HI q1;generalize x.ctr=xc at *;cases he:(xc==(c:Int)) with
     | false=>
      rw [he] at HN;go_wp2;go_roundw
      case rel=>exact ⟨i+1,n,by omega,by omega,by go_num,rfl,trivial,by show _=_;have:=HN.out;simpa using this.symm⟩
      case measure=>simp [intOf];omega
     | true=>
      rw [he] at HN;go_wp2;go_roundw
      case rel=>exact ⟨i+1,n+1,by omega,by omega,by go_num,by go_num,trivial,by show _=_;have:=HN.out;simpa using this.symm⟩
      case measure=>simp [intOf];omega
    ·obtain rfl:i=v.a.n:=by omega
     have hl2':¬((v.a.n:Nat):Int) < (v.a.n:Nat):=by omega
     have HM2:Hid (max m n=max 2 (qcg (c+1) (tb.als.map fun x=>x.ctr))):=by
      show _=_;have h1:=HI.out;rw [List.take_of_length_le (by rw [HAn.out];exact Nat.le_refl _)] at h1;rw [qif,qob,←h1,HM.out];omega
     have HX2:Hid (mx2 (m:Int) (n:Int)=((max m n:Nat):Int)):=by show _=_;unfold mx2;omega
     clear HI HM;go_wp2;go_roundw
     case rel=>exact ⟨c+1,max m n,by omega,by go_num,by rw [HX2.out],trivial,HM2.out⟩
     case measure=>simp [intOf];omega
  ·obtain rfl:c=v.k.n:=by omega
   have hlt':¬((v.k.n:Nat):Int) < (v.k.n:Nat):=by omega
   go_wp2;go_loopw [6,10] (fun mv cv wr2=>∃f m2:Nat,f≤v.s.n∧cv=.int .i64 f∧mv=.int .i64 m2∧wr2=wr∧Hid (m2=max m (qcg f (rcvL tb)))) (fun _ cv _=>v.s.n - (intOf cv).toNat)
   case atStart=>exact ⟨0,m,by omega,rfl,rfl,rfl,by show _=_;unfold qcg maxL;simp⟩
   case round=>
    obtain ⟨f,m2,hf,rfl,rfl,rfl,HF⟩:=hrel;by_cases hlt2:f < v.s.n
    ·have hlt2':(f:Int) < v.s.n:=by omega
     go_wp2;go_loopw [11,12] (fun nv iv wr3=>∃i n:Nat,i≤v.s.n∧n≤i∧iv=.int .i64 i∧nv=.int .i64 n∧wr3=wr∧Hid (n=(tb.msgs.take i).countP fun x=>(x.kind != 1)&&(x.frm==(f:Int)))) (fun _ iv _=>v.s.n - (intOf iv).toNat)
     case atStart=>exact ⟨0,0,by omega,by omega,rfl,rfl,rfl,rfl⟩
     case round=>
      obtain ⟨i,n,hi,hni,rfl,rfl,rfl,HI⟩:=hrel;by_cases hl2:i < v.s.n
      ·have hl2':(i:Int) < v.s.n:=by omega
       obtain ⟨x,hx⟩:∃x,tb.msgs[i]?=some x:=⟨_,List.getElem?_eq_getElem (by rw [←HSn.out];exact hl2)⟩
       obtain ⟨g5,o5,e5,hg5,q0,q1,q2,_⟩:=qf7 HT.out hx;rw [e5] at c8;have HN:Hid ((tb.msgs.take (i+1)).countP (fun x=>(x.kind != 1)&&(x.frm==(f:Int)))=n+if ((x.kind != 1)&&(x.frm==(f:Int))) then 1 else 0):=by show _=_;rw [qf2 _ hx,HI.out]
       clear hx e5 HI q1;generalize x.kind=xk at *;generalize x.frm=xf at *;cases hk:(xk != 1) with
       | false=>
        rw [hk] at HN;go_wp2;go_roundw
        case rel=>exact ⟨i+1,n,by omega,by omega,by go_num,rfl,trivial,by show _=_;have:=HN.out;simpa using this.symm⟩
        case measure=>simp [intOf];omega
       | true=>
        rw [hk] at HN;cases he:(xf==(f:Int)) with
        | false=>
         rw [he] at HN;go_wp2;go_roundw
         case rel=>exact ⟨i+1,n,by omega,by omega,by go_num,rfl,trivial,by show _=_;have:=HN.out;simpa using this.symm⟩
         case measure=>simp [intOf];omega
        | true=>
         rw [he] at HN;go_wp2;go_roundw
         case rel=>exact ⟨i+1,n+1,by omega,by omega,by go_num,by go_num,trivial,by show _=_;have:=HN.out;simpa using this.symm⟩
         case measure=>simp [intOf];omega
      ·obtain rfl:i=v.s.n:=by omega
       have hl2':¬((v.s.n:Nat):Int) < (v.s.n:Nat):=by omega
       have HM2:Hid (max m2 n=max m (qcg (f+1) (rcvL tb))):=by
        show _=_;have h1:=HI.out;rw [List.take_of_length_le (by rw [HSn.out];exact Nat.le_refl _)] at h1;rw [qif,qoc,←h1,HF.out];omega
       have HX2:Hid (mx2 (m2:Int) (n:Int)=((max m2 n:Nat):Int)):=by show _=_;unfold mx2;omega
       clear HI HF;go_wp2;go_roundw
       case rel=>exact ⟨f+1,max m2 n,by omega,by go_num,by rw [HX2.out],trivial,HM2.out⟩
       case measure=>simp [intOf];omega
    ·obtain rfl:f=v.s.n:=by omega
     have hlt2':¬((v.s.n:Nat):Int) < (v.s.n:Nat):=by omega
     go_wp2;go_loopw [13,14] (fun nv iv wr3=>∃i n:Nat,i≤v.s.n∧n≤i∧iv=.int .i64 i∧nv=.int .i64 n∧wr3=wr∧Hid (n=(tb.msgs.take i).countP fun x=>x.ac.kind==3)) (fun _ iv _=>v.s.n - (intOf iv).toNat)
     case atStart=>exact ⟨0,0,by omega,by omega,rfl,rfl,rfl,rfl⟩
     case round=>
      obtain ⟨i,n,hi,hni,rfl,rfl,rfl,HI⟩:=hrel;by_cases hl2:i < v.s.n
      ·have hl2':(i:Int) < v.s.n:=by omega
       obtain ⟨x,hx⟩:∃x,tb.msgs[i]?=some x:=⟨_,List.getElem?_eq_getElem (by rw [←HSn.out];exact hl2)⟩
       obtain ⟨g5,o5,e5,hg5,q0,q1,q2,q3,q4,q5,_⟩:=qf7 HT.out hx;rw [e5] at c8;have HN:Hid ((tb.msgs.take (i+1)).countP (fun x=>x.ac.kind==3)=n+if (x.ac.kind==3) then 1 else 0):=by show _=_;rw [qf2 _ hx,HI.out]
       clear hx e5 HI q0 q1 q2 q3 q4;generalize x.ac.kind=xc at *;cases he:(xc==3) with
       | false=>
        rw [he] at HN;go_wp2;go_roundw
        case rel=>exact ⟨i+1,n,by omega,by omega,by go_num,rfl,trivial,by show _=_;have:=HN.out;simpa using this.symm⟩
        case measure=>simp [intOf];omega
       | true=>
        rw [he] at HN;go_wp2;go_roundw
        case rel=>exact ⟨i+1,n+1,by omega,by omega,by go_num,by go_num,trivial,by show _=_;have:=HN.out;simpa using this.symm⟩
        case measure=>simp [intOf];omega
      ·obtain rfl:i=v.s.n:=by omega
       have hl2':¬((v.s.n:Nat):Int) < (v.s.n:Nat):=by omega
       have HI2:Hid (n=tb.msgs.countP fun x=>x.ac.kind==3):=by
        show _=_;have h1:=HI.out;rwa [List.take_of_length_le (by rw [HSn.out];exact Nat.le_refl _)] at h1
       clear HI;go_wp2;go_loopw [13,15] (fun nv iv wr4=>∃i n4:Nat,i≤v.a.n∧n4≤n+i∧iv=.int .i64 i∧nv=.int .i64 n4∧wr4=wr∧Hid (n4=n+(tb.als.take i).countP fun x=>x.ac.kind==3)) (fun _ iv _=>v.a.n - (intOf iv).toNat)
       case atStart=>exact ⟨0,n,by omega,by omega,rfl,rfl,rfl,rfl⟩
       case round=>
        obtain ⟨i,n4,hi,hni4,rfl,rfl,rfl,HI4⟩:=hrel;by_cases hl4:i < v.a.n
        ·have hl4':(i:Int) < v.a.n:=by omega
         obtain ⟨x,hx⟩:∃x,tb.als[i]?=some x:=⟨_,List.getElem?_eq_getElem (by rw [←HAn.out];exact hl4)⟩
         obtain ⟨g5,o5,e5,hg5,q0,q1,_⟩:=qgx HT.out hx;rw [e5] at c6;have HN:Hid ((tb.als.take (i+1)).countP (fun x=>x.ac.kind==3)=(tb.als.take i).countP (fun x=>x.ac.kind==3)+if (x.ac.kind==3) then 1 else 0):=by show _=_;rw [qf2 _ hx]
         have hbig:n4 < 9223372036854775807:=by have:=HBG.out;omega
         clear hx e5 q0;generalize x.ac.kind=xc at *;cases he:(xc==3) with
         | false=>
          rw [he] at HN;go_wp2;go_roundw
          case rel=>exact ⟨i+1,n4,by omega,by omega,by go_num,rfl,trivial,by show _=_;have h1:=HN.out;have h2:=HI4.out;rw [h1,h2];rfl⟩
          case measure=>simp [intOf];omega
         | true=>
          rw [he] at HN;go_wp2;go_roundw
          case rel=>exact ⟨i+1,n4+1,by omega,by omega,by go_num,by go_num,trivial,by show _=_;have h1:=HN.out;have h2:=HI4.out;rw [h1,h2];rfl⟩
          case measure=>simp [intOf];omega
        ·obtain rfl:i=v.a.n:=by omega
         have hl4':¬((v.a.n:Nat):Int) < (v.a.n:Nat):=by omega
         have HE:Hid (Z=#[I (v.g.n:Int),I ((v.i.n:Int)+4),I (m2:Int),I (n4:Int)]):=by
          show _=_;have h1:=HI4.out;rw [List.take_of_length_le (by rw [HAn.out];exact Nat.le_refl _),HI2.out] at h1;rw [HZ.out,h1,HF.out,HM.out,Nat.max_assoc]
         clear HI4 HI2 HF HM HZ;have y3:=cell_regrown c3;have y7:=cell_regrown c7;go_wp2;refine wp_region_quiet_below (by kernel_rfl) (by kernel_rfl) ?_;repeat (go_big_quiet_step (first | fail))
         refine wpQuiet_nil ?_;rintro _ ⟨⟨dq,osq⟩,rfl⟩;dsimp only;have HB9:Hid (qB w (grow (redrawn wr dq) osq)):=HB0.out.trans ((below_regrown wr dq osq).mono HB0.out.size);clear y3 y7;generalize grow (redrawn wr dq) osq=w9 at *;go_wp2;refine bodyPost_ret (qod Tryz.results73 _ _ _ _ _ _ rfl rfl rfl rfl) rfl ⟨?_,HB9.out⟩;rw [HE.out];rfl
end Go.Proofs.YtijgopkhdjaolabGreat
namespace Go.Proofs.YtijgopkhdjaolabGreat
open Go.RowKit Go.Shelf Go.Sort
theorem qpb (tb:Tb) (v:Ts) (w:World) (h:TbAt w tb v):qby tb=decide (0≤tb.uses∧tb.uses≤255∧1≤tb.modes∧tb.modes≤8∧1≤(v.t.n:Int)∧(v.t.n:Int)≤256∧(v.r.n:Int)≤65∧(v.k.n:Int)≤16∧(v.a.n:Int)≤64∧(v.i.n:Int)≤32∧(v.s.n:Int)≤64):=by
 unfold qby inI;rw [←h.t.n,←h.r.n,←h.k.n,←h.a.n,←h.i.n,←h.s.n];rw [Bool.eq_iff_iff];simp;omega
def rmQ (tb:Tb):Bool:=qgz tb (max (qcg tb.ctrs.length (tb.als.map fun x=>x.ctr)) (qcg tb.msgs.length (rcvL tb)))
theorem qsh (tb:Tb):chkD tb=(qby tb&&(tb.ress.all (fun r=>inI r.ceil (-1) 127)&&(tkD tb&&((tb.ctrs.all ctB&&tb.als.all (alB tb))&&(qbs tb [] tb.isrs&&(tb.msgs.all (msD tb)&&rmQ tb)))))):=by
 unfold chkD;rw [show (fun x:TkR=>idB x.ring tb.rings.length&&(qct tb.rings x.ring==x.prio)&&qex tb x)=tkE tb from rfl];unfold tkD rmQ;simp only [Bool.and_assoc]
theorem qbi {a b:Int} (h:a=b):(Ending.returned (.int .i64 a))=.returned (I b):=by rw [h]
def zOf (b:Bool):Int:=if b then 0 else 90
theorem qir (tb:Tb) (v:Ts) (w:World) (h:TbAt w tb v):Calls Tryz.prog 23 #[.agg (tbC tb v)] w fun e w'=>e=.returned (I (zOf (chkD tb)))∧qB w w':=by
 have hb:=qa0 w (.cells (tbC tb v) 32);have hV0:=heap_alloc_new w (.cells (tbC tb v) 32);have HT:Hid (TbAt (w.alloc (.cells (tbC tb v) 32)) tb v):=h.below hb;have HB0:Hid (qB w (w.alloc (.cells (tbC tb v) 32))):=hb;have HV0:Hid ((w.alloc (.cells (tbC tb v) 32)).heap[w.heap.size]?=some (.cells (tbC tb v) 32)):=hV0;obtain ⟨c0,c1,c2,c3,c4,c5,c6,c7,c8,c9,c10,c11,c12⟩:=qbo hV0;have HRn:Hid (v.r.n=tb.ress.length):=h.r.n;have hrc:v.r.n≤v.r.c:=h.r.c;have hrm:v.r.c≤maxLen:=h.r.m;have HLN:Hid (v.t.n=tb.tasks.length∧v.i.n=tb.isrs.length∧v.a.n=tb.als.length∧v.s.n=tb.msgs.length):=⟨h.t.n,h.i.n,h.a.n,h.s.n⟩;unfold maxLen at hrm;obtain ⟨Z,hZ⟩:∃Z,Z=zOf (chkD tb):=⟨_,rfl⟩
 rw [←hZ];obtain ⟨T1,hT1⟩:∃T1,T1=tkD tb:=⟨_,rfl⟩
 obtain ⟨T2,hT2⟩:∃T2,T2=(tb.ctrs.all ctB&&tb.als.all (alB tb)):=⟨_,rfl⟩
 obtain ⟨T3,hT3⟩:∃T3,T3=qbs tb [] tb.isrs:=⟨_,rfl⟩
 obtain ⟨T4,hT4⟩:∃T4,T4=tb.msgs.all (msD tb):=⟨_,rfl⟩
 obtain ⟨d1,hd1⟩:∃d1:Int,d1=(tb.rings.length:Int):=⟨_,rfl⟩
 obtain ⟨d2,hd2⟩:∃d2:Int,d2=(tb.isrs.length:Int)+4:=⟨_,rfl⟩
 obtain ⟨d3,hd3⟩:∃d3:Int,d3=((max 2 (max (qcg tb.ctrs.length (tb.als.map fun x=>x.ctr)) (qcg tb.msgs.length (rcvL tb))):Nat):Int):=⟨_,rfl⟩
 obtain ⟨d4,hd4⟩:∃d4:Int,d4=(qeb tb:Int):=⟨_,rfl⟩
 have HX:Hid (Z=zOf (decide (0≤tb.uses∧tb.uses≤255∧1≤tb.modes∧tb.modes≤8∧1≤(v.t.n:Int)∧(v.t.n:Int)≤256∧(v.r.n:Int)≤65∧(v.k.n:Int)≤16∧(v.a.n:Int)≤64∧(v.i.n:Int)≤32∧(v.s.n:Int)≤64)&&(tb.ress.all (fun r=>inI r.ceil (-1) 127)&&(T1&&(T2&&(T3&&(T4&&((tb.depth==d1)&&(tb.frames==d2)&&(tb.errors==d3)&&(tb.calls==d4))))))))):=by
  show _=_;rw [hZ,qsh,qpb tb v w h,hT1,hT2,hT3,hT4,hd1,hd2,hd3,hd4];rfl
 have HK1:Hid (∀(W:World),TbAt W tb v→1≤tb.modes∧tb.modes≤8→tb.tasks.length≤256→Calls Tryz.prog 69 #[.agg (tbC tb v)] W fun e w'=>e=.returned (.bool T1)∧qB W w'):=fun W hT hm hl=>by rw [hT1];exact qmf tb v W hT hm hl
 have HK2:Hid (∀(W:World),TbAt W tb v→1≤tb.modes∧tb.modes≤8→Calls Tryz.prog 70 #[.agg (tbC tb v)] W fun e w'=>e=.returned (.bool T2)∧qB W w'):=fun W hT hm=>by rw [hT2];exact qki tb v W hT hm
 have HK3:Hid (∀(W:World),TbAt W tb v→Calls Tryz.prog 71 #[.agg (tbC tb v)] W fun e w'=>e=.returned (.bool T3)∧qB W w'):=fun W hT=>by rw [hT3];exact qo8 tb v W hT
 have HK4:Hid (∀(W:World),TbAt W tb v→Calls Tryz.prog 72 #[.agg (tbC tb v)] W fun e w'=>e=.returned (.bool T4)∧qB W w'):=fun W hT=>by rw [hT4];exact qiq tb v W hT
 have HK5:Hid (∀(W:World),TbAt W tb v→tb.isrs.length≤32∧tb.als.length≤64∧tb.msgs.length≤64→Calls Tryz.prog 73 #[.agg (tbC tb v)] W fun e w'=>e=.returned (.tuple #[I d1,I d2,I d3,I d4])∧qB W w'):=fun W hT hl=>by rw [hd1,hd2,hd3,hd4];exact qoe tb v W hT hl
 have hi30:(Tryz.prog.info? 32).map (·.size)=some (tbC tb v).size:=by kernel_rfl
 clear h hb hV0 hT1 hT2 hT3 hT4 hd1 hd2 hd3 hd4 hZ;unfold tbC at *;go_enter Tryz.func23,Tryz.ntmps23
 generalize hW:w.alloc (.cells (qC tb v) 32)=W1 at *;go_upto_region 1 with fail;clear hW;by_cases b0:tb.uses < 0
 ·have HE:Hid (Z=90):=by show _=_;rw [HX.out,decide_eq_false (by omega)];rfl
  clear HX;go_wp2;go_ret;exact ⟨qbi (by rw [HE.out]),HB0.out⟩
 by_cases b1:255 < tb.uses
 ·have HE:Hid (Z=90):=by show _=_;rw [HX.out,decide_eq_false (by omega)];rfl
  clear HX;go_wp2;go_ret;exact ⟨qbi (by rw [HE.out]),HB0.out⟩
 by_cases b2:tb.modes < 1
 ·have HE:Hid (Z=90):=by show _=_;rw [HX.out,decide_eq_false (by omega)];rfl
  clear HX;go_wp2;go_ret;exact ⟨qbi (by rw [HE.out]),HB0.out⟩
 by_cases b3:8 < tb.modes
 ·have HE:Hid (Z=90):=by show _=_;rw [HX.out,decide_eq_false (by omega)];rfl
  clear HX;go_wp2;go_ret;exact ⟨qbi (by rw [HE.out]),HB0.out⟩
 by_cases b4:(v.t.n:Int) < 1
 ·have HE:Hid (Z=90):=by show _=_;rw [HX.out,decide_eq_false (by omega)];rfl
  clear HX;go_wp2;go_ret;exact ⟨qbi (by rw [HE.out]),HB0.out⟩
 by_cases b5:256 < (v.t.n:Int)
 ·have HE:Hid (Z=90):=by show _=_;rw [HX.out,decide_eq_false (by omega)];rfl
  clear HX;go_wp2;go_ret;exact ⟨qbi (by rw [HE.out]),HB0.out⟩
 by_cases b6:65 < (v.r.n:Int)
 ·have HE:Hid (Z=90):=by show _=_;rw [HX.out,decide_eq_false (by omega)];rfl
  clear HX;go_wp2;go_ret;exact ⟨qbi (by rw [HE.out]),HB0.out⟩
 by_cases b7:16 < (v.k.n:Int)
 ·have HE:Hid (Z=90):=by show _=_;rw [HX.out,decide_eq_false (by omega)];rfl
  clear HX;go_wp2;go_ret;exact ⟨qbi (by rw [HE.out]),HB0.out⟩
 by_cases b8:64 < (v.a.n:Int)
 ·have HE:Hid (Z=90):=by show _=_;rw [HX.out,decide_eq_false (by omega)];rfl
  clear HX;go_wp2;go_ret;exact ⟨qbi (by rw [HE.out]),HB0.out⟩
 by_cases b9:32 < (v.i.n:Int)
 ·have HE:Hid (Z=90):=by show _=_;rw [HX.out,decide_eq_false (by omega)];rfl
  clear HX;go_wp2;go_ret;exact ⟨qbi (by rw [HE.out]),HB0.out⟩
 by_cases b10:64 < (v.s.n:Int)
 ·have HE:Hid (Z=90):=by show _=_;rw [HX.out,decide_eq_false (by omega)];rfl
  clear HX;go_wp2;go_ret;exact ⟨qbi (by rw [HE.out]),HB0.out⟩
 have HX2:Hid (Z=zOf ((tb.ress.drop 0).all (fun r=>inI r.ceil (-1) 127)&&(T1&&(T2&&(T3&&(T4&&((tb.depth==d1)&&(tb.frames==d2)&&(tb.errors==d3)&&(tb.calls==d4)))))))):=by show _=_;rw [HX.out,decide_eq_true (by omega)];rfl
 have HM:Hid (1≤tb.modes∧tb.modes≤8):=⟨by omega,by omega⟩;have HL1:Hid (tb.tasks.length≤256):=by rw [←HLN.out.1];show _≤_;omega
 have HL5:Hid (tb.isrs.length≤32∧tb.als.length≤64∧tb.msgs.length≤64):=by rw [←HLN.out.2.1,←HLN.out.2.2.1,←HLN.out.2.2.2];exact ⟨by omega,by omega,by omega⟩
 have HF:Hid (∀W,qB W1 W→W.heap[w.heap.size]?=some (.cells (qC tb v) 32)∧TbAt W tb v∧qB w W):=fun W hW=>⟨(hW.block _ (qan HV0.out)).trans HV0.out,HT.out.below hW,HB0.out.trans (hW.mono HB0.out.size)⟩
 clear HX HLN HV0;go_wp2;go_loopw [3] (fun iv wr=>∃j:Nat,j≤v.r.n∧iv=.int .i64 j∧wr=W1∧Hid (Z=zOf ((tb.ress.drop j).all (fun r=>inI r.ceil (-1) 127)&&(T1&&(T2&&(T3&&(T4&&((tb.depth==d1)&&(tb.frames==d2)&&(tb.errors==d3)&&(tb.calls==d4))))))))) (fun iv _=>v.r.n - (intOf iv).toNat)
 case atStart=>exact ⟨0,by omega,rfl,rfl,HX2.out⟩
 case round=>
  clear HX2;obtain ⟨j,hj,rfl,rfl,HJ⟩:=hrel;by_cases hlt:j < v.r.n
  ·have hlt':(j:Int) < v.r.n:=by omega
   obtain ⟨x,hx⟩:∃x,tb.ress[j]?=some x:=⟨_,List.getElem?_eq_getElem (by rw [←HRn.out];exact hlt)⟩
   obtain ⟨g5,o5,e5,hg5,q0,q1⟩:=qgv HT.out hx;have HX:Hid (Z=zOf (decide (-1≤x.ceil∧x.ceil≤127)&&((tb.ress.drop (j+1)).all (fun r=>inI r.ceil (-1) 127)&&(T1&&(T2&&(T3&&(T4&&((tb.depth==d1)&&(tb.frames==d2)&&(tb.errors==d3)&&(tb.calls==d4))))))))):=by
    have h9:=HJ.out;rw [qcu hx,List.all_cons,Bool.and_assoc] at h9;show _=_;rw [h9];congr 2
    unfold inI;rw [Bool.eq_iff_iff];simp
   rw [e5] at c4;clear hx HJ hg5 e5 q0;generalize x.ceil=xc at *;by_cases g0:xc < -1
   ·have HE:Hid (Z=90):=by show _=_;rw [HX.out,decide_eq_false (by omega)];rfl
    clear HX;go_wp2;go_ret;exact ⟨qbi (by rw [HE.out]),HB0.out⟩
   by_cases g1:127 < xc
   ·have HE:Hid (Z=90):=by show _=_;rw [HX.out,decide_eq_false (by omega)];rfl
    clear HX;go_wp2;go_ret;exact ⟨qbi (by rw [HE.out]),HB0.out⟩
   have HN:Hid (Z=zOf ((tb.ress.drop (j+1)).all (fun r=>inI r.ceil (-1) 127)&&(T1&&(T2&&(T3&&(T4&&((tb.depth==d1)&&(tb.frames==d2)&&(tb.errors==d3)&&(tb.calls==d4)))))))):=by show _=_;rw [HX.out,decide_eq_true (by omega)];rfl
   clear HX;go_wp2;go_roundw
   case rel=>exact ⟨j+1,by omega,by go_num,trivial,HN.out⟩
   case measure=>simp [intOf];omega
  ·obtain rfl:j=v.r.n:=by omega
   have hlt':¬((v.r.n:Nat):Int) < (v.r.n:Nat):=by omega
   have HX:Hid (Z=zOf (T1&&(T2&&(T3&&(T4&&((tb.depth==d1)&&(tb.frames==d2)&&(tb.errors==d3)&&(tb.calls==d4))))))):=by
    have h9:=HJ.out;rw [HRn.out,List.drop_length] at h9;exact h9
   clear HJ;go_upto_region 8 with fail;clear c0 c1 c2 c3 c4 c5 c6 c7 c8 c9 c10 c11 c12 b0 b1 b2 b3 b4 b5 b6 b7 b8 b9 b10;obtain ⟨hV1,t1,hB1⟩:=HF.out wr (Below.refl _ _);have HB1:Hid (qB wr wr∧qB w wr):=⟨Below.refl _ _,hB1⟩;have kA:=HK1.out wr t1 HM.out HL1.out;clear hB1 t1;cases T1 with
   | false=>
    have HE:Hid (Z=90):=by show _=_;rw [HX.out];rfl
    clear HX;go_wp2_with (first | (with_reducible refine qb7 ?_;refine qaf (by kernel_rfl) 32 _ rfl w.heap.size rfl 32 _ (0,0) _ hV1 Tryz.underlying32 rfl hi30 ?_));refine kA.mono ?_;clear kA;rintro e w2 ⟨rfl,hb2⟩;have HB2:Hid (qB wr w2∧qB w w2):=⟨HB1.out.1.trans (hb2.mono HB1.out.1.size),HB1.out.2.trans (hb2.mono HB1.out.2.size)⟩;obtain ⟨hV2,t2,_⟩:=HF.out w2 HB2.out.1;have kA:=HK2.out w2 t2 HM.out;clear hb2 t2 hV1;clear kA;go_wp2;go_ret;exact ⟨qbi (by rw [HE.out]),HB2.out.2⟩
   | true=>
    cases T2 with
    | false=>
     have HE:Hid (Z=90):=by show _=_;rw [HX.out];rfl
     clear HX;go_wp2_with (first | (with_reducible refine qb7 ?_;refine qaf (by kernel_rfl) 32 _ rfl w.heap.size rfl 32 _ (0,0) _ hV1 Tryz.underlying32 rfl hi30 ?_));refine kA.mono ?_;clear kA;rintro e w2 ⟨rfl,hb2⟩;have HB2:Hid (qB wr w2∧qB w w2):=⟨HB1.out.1.trans (hb2.mono HB1.out.1.size),HB1.out.2.trans (hb2.mono HB1.out.2.size)⟩;obtain ⟨hV2,t2,_⟩:=HF.out w2 HB2.out.1;have kA:=HK2.out w2 t2 HM.out;clear hb2 t2 hV1;go_wp2_with (first | (with_reducible refine qb7 ?_;refine qaf (by kernel_rfl) 32 _ rfl w.heap.size rfl 32 _ (0,0) _ hV2 Tryz.underlying32 rfl hi30 ?_));refine kA.mono ?_;clear kA;rintro e w3 ⟨rfl,hb3⟩;have HB3:Hid (qB wr w3∧qB w w3):=⟨HB2.out.1.trans (hb3.mono HB2.out.1.size),HB2.out.2.trans (hb3.mono HB2.out.2.size)⟩;obtain ⟨hV3,t3,_⟩:=HF.out w3 HB3.out.1;have kA:=HK3.out w3 t3;clear hb3 t3 hV2;clear kA;go_wp2;go_ret;exact ⟨qbi (by rw [HE.out]),HB3.out.2⟩
    | true=>
     cases T3 with
     | false=>
      have HE:Hid (Z=90):=by show _=_;rw [HX.out];rfl
      clear HX;go_wp2_with (first | (with_reducible refine qb7 ?_;refine qaf (by kernel_rfl) 32 _ rfl w.heap.size rfl 32 _ (0,0) _ hV1 Tryz.underlying32 rfl hi30 ?_));refine kA.mono ?_;clear kA;rintro e w2 ⟨rfl,hb2⟩;have HB2:Hid (qB wr w2∧qB w w2):=⟨HB1.out.1.trans (hb2.mono HB1.out.1.size),HB1.out.2.trans (hb2.mono HB1.out.2.size)⟩;obtain ⟨hV2,t2,_⟩:=HF.out w2 HB2.out.1;have kA:=HK2.out w2 t2 HM.out;clear hb2 t2 hV1;go_wp2_with (first | (with_reducible refine qb7 ?_;refine qaf (by kernel_rfl) 32 _ rfl w.heap.size rfl 32 _ (0,0) _ hV2 Tryz.underlying32 rfl hi30 ?_));refine kA.mono ?_;clear kA;rintro e w3 ⟨rfl,hb3⟩;have HB3:Hid (qB wr w3∧qB w w3):=⟨HB2.out.1.trans (hb3.mono HB2.out.1.size),HB2.out.2.trans (hb3.mono HB2.out.2.size)⟩;obtain ⟨hV3,t3,_⟩:=HF.out w3 HB3.out.1;have kA:=HK3.out w3 t3;clear hb3 t3 hV2;go_wp2_with (first | (with_reducible refine qb7 ?_;refine qaf (by kernel_rfl) 32 _ rfl w.heap.size rfl 32 _ (0,0) _ hV3 Tryz.underlying32 rfl hi30 ?_));refine kA.mono ?_;clear kA;rintro e w4 ⟨rfl,hb4⟩;have HB4:Hid (qB wr w4∧qB w w4):=⟨HB3.out.1.trans (hb4.mono HB3.out.1.size),HB3.out.2.trans (hb4.mono HB3.out.2.size)⟩;obtain ⟨hV4,t4,_⟩:=HF.out w4 HB4.out.1;have kA:=HK4.out w4 t4;clear hb4 t4 hV3;clear kA;go_wp2;go_ret;exact ⟨qbi (by rw [HE.out]),HB4.out.2⟩
     | true=>
      cases T4 with
      | false=>
       have HE:Hid (Z=90):=by show _=_;rw [HX.out];rfl
       clear HX;go_wp2_with (first | (with_reducible refine qb7 ?_;refine qaf (by kernel_rfl) 32 _ rfl w.heap.size rfl 32 _ (0,0) _ hV1 Tryz.underlying32 rfl hi30 ?_));refine kA.mono ?_;clear kA;rintro e w2 ⟨rfl,hb2⟩;have HB2:Hid (qB wr w2∧qB w w2):=⟨HB1.out.1.trans (hb2.mono HB1.out.1.size),HB1.out.2.trans (hb2.mono HB1.out.2.size)⟩;obtain ⟨hV2,t2,_⟩:=HF.out w2 HB2.out.1;have kA:=HK2.out w2 t2 HM.out;clear hb2 t2 hV1;go_wp2_with (first | (with_reducible refine qb7 ?_;refine qaf (by kernel_rfl) 32 _ rfl w.heap.size rfl 32 _ (0,0) _ hV2 Tryz.underlying32 rfl hi30 ?_));refine kA.mono ?_;clear kA;rintro e w3 ⟨rfl,hb3⟩;have HB3:Hid (qB wr w3∧qB w w3):=⟨HB2.out.1.trans (hb3.mono HB2.out.1.size),HB2.out.2.trans (hb3.mono HB2.out.2.size)⟩;obtain ⟨hV3,t3,_⟩:=HF.out w3 HB3.out.1;have kA:=HK3.out w3 t3;clear hb3 t3 hV2;go_wp2_with (first | (with_reducible refine qb7 ?_;refine qaf (by kernel_rfl) 32 _ rfl w.heap.size rfl 32 _ (0,0) _ hV3 Tryz.underlying32 rfl hi30 ?_));refine kA.mono ?_;clear kA;rintro e w4 ⟨rfl,hb4⟩;have HB4:Hid (qB wr w4∧qB w w4):=⟨HB3.out.1.trans (hb4.mono HB3.out.1.size),HB3.out.2.trans (hb4.mono HB3.out.2.size)⟩;obtain ⟨hV4,t4,_⟩:=HF.out w4 HB4.out.1;have kA:=HK4.out w4 t4;clear hb4 t4 hV3;go_wp2_with (first | (with_reducible refine qb7 ?_;refine qaf (by kernel_rfl) 32 _ rfl w.heap.size rfl 32 _ (0,0) _ hV4 Tryz.underlying32 rfl hi30 ?_));refine kA.mono ?_;clear kA;rintro e w5 ⟨rfl,hb5⟩;have HB5:Hid (qB wr w5∧qB w w5):=⟨HB4.out.1.trans (hb5.mono HB4.out.1.size),HB4.out.2.trans (hb5.mono HB4.out.2.size)⟩;obtain ⟨hV5,t5,_⟩:=HF.out w5 HB5.out.1;have kA:=HK5.out w5 t5 HL5.out;clear hb5 t5 hV4;clear kA;go_wp2;go_ret;exact ⟨qbi (by rw [HE.out]),HB5.out.2⟩
      | true=>
       have HX9:Hid (Z=zOf ((tb.depth==d1)&&(tb.frames==d2)&&(tb.errors==d3)&&(tb.calls==d4))):=by show _=_;rw [HX.out];rfl
       clear HX;go_wp2_with (first | (with_reducible refine qb7 ?_;refine qaf (by kernel_rfl) 32 _ rfl w.heap.size rfl 32 _ (0,0) _ hV1 Tryz.underlying32 rfl hi30 ?_));refine kA.mono ?_;clear kA;rintro e w2 ⟨rfl,hb2⟩;have HB2:Hid (qB wr w2∧qB w w2):=⟨HB1.out.1.trans (hb2.mono HB1.out.1.size),HB1.out.2.trans (hb2.mono HB1.out.2.size)⟩;obtain ⟨hV2,t2,_⟩:=HF.out w2 HB2.out.1;have kA:=HK2.out w2 t2 HM.out;clear hb2 t2 hV1;go_wp2_with (first | (with_reducible refine qb7 ?_;refine qaf (by kernel_rfl) 32 _ rfl w.heap.size rfl 32 _ (0,0) _ hV2 Tryz.underlying32 rfl hi30 ?_));refine kA.mono ?_;clear kA;rintro e w3 ⟨rfl,hb3⟩;have HB3:Hid (qB wr w3∧qB w w3):=⟨HB2.out.1.trans (hb3.mono HB2.out.1.size),HB2.out.2.trans (hb3.mono HB2.out.2.size)⟩;obtain ⟨hV3,t3,_⟩:=HF.out w3 HB3.out.1;have kA:=HK3.out w3 t3;clear hb3 t3 hV2;go_wp2_with (first | (with_reducible refine qb7 ?_;refine qaf (by kernel_rfl) 32 _ rfl w.heap.size rfl 32 _ (0,0) _ hV3 Tryz.underlying32 rfl hi30 ?_));refine kA.mono ?_;clear kA;rintro e w4 ⟨rfl,hb4⟩;have HB4:Hid (qB wr w4∧qB w w4):=⟨HB3.out.1.trans (hb4.mono HB3.out.1.size),HB3.out.2.trans (hb4.mono HB3.out.2.size)⟩;obtain ⟨hV4,t4,_⟩:=HF.out w4 HB4.out.1;have kA:=HK4.out w4 t4;clear hb4 t4 hV3;go_wp2_with (first | (with_reducible refine qb7 ?_;refine qaf (by kernel_rfl) 32 _ rfl w.heap.size rfl 32 _ (0,0) _ hV4 Tryz.underlying32 rfl hi30 ?_));refine kA.mono ?_;clear kA;rintro e w5 ⟨rfl,hb5⟩;have HB5:Hid (qB wr w5∧qB w w5):=⟨HB4.out.1.trans (hb5.mono HB4.out.1.size),HB4.out.2.trans (hb5.mono HB4.out.2.size)⟩;obtain ⟨hV5,t5,_⟩:=HF.out w5 HB5.out.1;have kA:=HK5.out w5 t5 HL5.out;clear hb5 t5 hV4;go_wp2_with (first | (with_reducible refine qb7 ?_;refine qaf (by kernel_rfl) 32 _ rfl w.heap.size rfl 32 _ (0,0) _ hV5 Tryz.underlying32 rfl hi30 ?_));refine kA.mono ?_;clear kA;rintro e w6 ⟨rfl,hb6⟩;have HB6:Hid (qB wr w6∧qB w w6):=⟨HB5.out.1.trans (hb6.mono HB5.out.1.size),HB5.out.2.trans (hb6.mono HB5.out.2.size)⟩;obtain ⟨hV6,t6,_⟩:=HF.out w6 HB6.out.1;obtain ⟨_,_,_,_,_,_,_,_,_,f9,f10,f11,f12⟩:=qbo hV6;clear hb6 hV5 hV6 t6;go_upto_region 11 with fail;cases y1:(tb.depth==d1) with
       | true=>
        have y12:(tb.depth != d1)=false:=by simp only [bne,y1];rfl
        have y15:Hid ((tb.depth==d1)=true):=y1;clear y1;cases y2:(tb.frames==d2) with
        | true=>
         have y22:(tb.frames != d2)=false:=by simp only [bne,y2];rfl
         have y25:Hid ((tb.frames==d2)=true):=y2;clear y2;cases y3:(tb.errors==d3) with
         | true=>
          have y32:(tb.errors != d3)=false:=by simp only [bne,y3];rfl
          have y35:Hid ((tb.errors==d3)=true):=y3;clear y3;cases y4:(tb.calls==d4) with
          | true=>
           have y42:(tb.calls != d4)=false:=by simp only [bne,y4];rfl
           have y45:Hid ((tb.calls==d4)=true):=y4;clear y4;have HE:Hid (Z=0):=by show _=_;rw [HX9.out,y15.out,y25.out,y35.out,y45.out];rfl
           clear HX9;go_wp2;go_ret;exact ⟨qbi (by rw [HE.out]),HB6.out.2⟩
          | false=>
           have y42:(tb.calls != d4)=true:=by simp only [bne,y4];rfl
           have HE:Hid (Z=90):=by show _=_;rw [HX9.out,y15.out,y25.out,y35.out,y4];simp [zOf]
           clear HX9 y4;go_wp2;go_ret;exact ⟨qbi (by rw [HE.out]),HB6.out.2⟩
         | false=>
          have y32:(tb.errors != d3)=true:=by simp only [bne,y3];rfl
          have HE:Hid (Z=90):=by show _=_;rw [HX9.out,y15.out,y25.out,y3];simp [zOf]
          clear HX9 y3;go_wp2;go_ret;exact ⟨qbi (by rw [HE.out]),HB6.out.2⟩
        | false=>
         have y22:(tb.frames != d2)=true:=by simp only [bne,y2];rfl
         have HE:Hid (Z=90):=by show _=_;rw [HX9.out,y15.out,y2];simp [zOf]
         clear HX9 y2;go_wp2;go_ret;exact ⟨qbi (by rw [HE.out]),HB6.out.2⟩
       | false=>
        have y12:(tb.depth != d1)=true:=by simp only [bne,y1];rfl
        have HE:Hid (Z=90):=by show _=_;rw [HX9.out,y1];simp [zOf]
        clear HX9 y1;go_wp2;go_ret;exact ⟨qbi (by rw [HE.out]),HB6.out.2⟩
end Go.Proofs.YtijgopkhdjaolabGreat
