import Derived.Test.YtijgopkhdjaolabGreatXTgx
import Derived.Test.YtijgopkhdjaolabGreatXTbm
import Derived.Test.YtijgopkhdjaolabGreatXTcd
set_option linter.unusedSimpArgs false
set_option linter.unusedVariables false
set_option maxHeartbeats 16000000
set_option maxRecDepth 100000
namespace Go.Proofs.YtijgopkhdjaolabGreat
open Go.RowKit Go.Shelf Go.Sort
theorem qsg : (Tryz.prog.info? 73).map (fun i=>(i.zero,i.size,i.bytes))=some (some (.agg #[I 0,I 0]),2,16):=by kernel_rfl
theorem qp7 (l:List TkR) (x:TkR) (p:Int):capN (l++[x]) p=capN l p+if x.prio=p then x.limit else 0:=by
 induction l with
 | nil=>simp [capN]
 | cons y r ih=>rw [List.cons_append,capN,capN,ih];omega
theorem qp8 {l:List TkR} {j:Nat} {x:TkR} (h:l[j]?=some x) (p:Int):capN (l.take (j+1)) p=capN (l.take j) p+if x.prio=p then x.limit else 0:=by
 rw [List.take_add_one,h,Option.toList_some,qp7]
theorem qhi (ts:List TkR):∀n,(qb3 ts n).length≤n
 | 0=>by simp [qb3]
 | n+1=>by
  rw [qb3];have:=qhi ts n;split
  ·simp;omega
  ·omega
theorem qme (ts:List TkR) (sp sl:Sl) (w:World) (hp:RowsAt w 1 intP sp (ts.map fun x=>x.prio)) (hl:RowsAt w 1 intP sl (ts.map fun x=>x.limit)) (hb:∀x∈ts,1≤x.limit∧x.limit≤255) (hn:ts.length≤256) :
  Calls Tryz.prog 147 #[.slice sp.a sp.n sp.c,.slice sl.a sl.n sl.c] w fun e w'=>∃s:Sl,e=.returned (.slice s.a s.n s.c)∧RowsAt w' 2 rgrP s (qb3 ts 64)∧qB w w':=by
 obtain ⟨im,him,hm0,hm1,hm2⟩:=info_parts qsg;have HPn:Hid (sp.n=ts.length):=by show _=_;rw [hp.n,List.length_map]
 have HLn:Hid (sl.n=ts.length):=by show _=_;rw [hl.n,List.length_map]
 have HSE:Hid (sl.n=sp.n):=HLn.out.trans HPn.out.symm;have hn2:sp.n≤256:=by rw [HPn.out];exact hn
 have hpc:sp.n≤sp.c:=hp.c;have hpm:sp.c≤maxLen:=hp.m;have hlc:sl.n≤sl.c:=hl.c;have hlm:sl.c≤maxLen:=hl.m;unfold maxLen at hpm hlm;have HP:Hid (∀W,qB w W→RowsAt W 1 intP sp (ts.map fun x=>x.prio)):=fun W hW=>hp.below hW (fun _ _ _ _ h=>h)
 have HL:Hid (∀W,qB w W→RowsAt W 1 intP sl (ts.map fun x=>x.limit)):=fun W hW=>hl.below hW (fun _ _ _ _ h=>h)
 have HLI:Hid (∀x∈ts,1≤x.limit∧x.limit≤255):=hb;clear hp hl hb hn;go_enter Tryz.func147,Tryz.ntmps147
 go_wp2;go_loopw [5,6] (fun lv pv wr=>∃(p:Int) (m:Nat) (a:Option Addr) (c:Nat),-1≤p∧p≤63∧pv=.int .i64 p∧lv=.slice a m c∧Hid ((m:Int)+p≤63∧qB w wr∧∃L xs,m=L.length∧L++qb3 ts (p+1).toNat=qb3 ts 64∧wr.ownsRow w.heap.size 73 2 (.slice a m c) m xs∧RwX 2 rgrP L xs)) (fun _ pv _=>(intOf pv+1).toNat)
 case atStart=>exact ⟨63,0,none,0,by omega,by omega,rfl,rfl,by omega,Below.refl _ _,[],[],rfl,rfl,World.ownsRow_nil _ _ _ _,RwX.nil _ _⟩
 case round=>
  obtain ⟨p,m,a,c,hp0,hp1,rfl,rfl,HJ⟩:=hrel;by_cases hlt:0≤p
  ·have HBW:Hid (qB w wr):=HJ.out.2.1
   go_wp2;go_loopw [7,8] (fun nv iv wr2=>∃(i:Nat) (n:Int),i≤sp.n∧iv=.int .i64 i∧nv=.int .i64 n∧wr2=wr∧0≤n∧n≤255 * (i:Int)∧Hid (n=capN (ts.take i) p)) (fun _ iv _=>sp.n - (intOf iv).toNat)
   case atStart=>exact ⟨0,0,by omega,rfl,rfl,rfl,by omega,by omega,rfl⟩
   case round=>
    obtain ⟨i,n,hi,rfl,rfl,rfl,hn0,hn1,HI⟩:=hrel;by_cases hl2:i < sp.n
    ·have hl2':(i:Int) < sp.n:=by omega
     have hl3:i < sl.n:=by rw [HSE.out];exact hl2
     have hl3':(i:Int) < sl.n:=by omega
     obtain ⟨x,hx⟩:∃x,ts[i]?=some x:=⟨_,List.getElem?_eq_getElem (by rw [←HPn.out];exact hl2)⟩
     obtain ⟨g5,o5,e5,hg5,b5⟩:=qe2 (HP.out _ HBW.out) (j:=i) (x:=x.prio) (by rw [List.getElem?_map,hx];rfl);obtain ⟨g6,o6,e6,hg6,b6⟩:=qe2 (HL.out _ HBW.out) (j:=i) (x:=x.limit) (by rw [List.getElem?_map,hx];rfl);have HN:=qp8 hx p;rw [←HI.out] at HN;have HN2:Hid (capN (ts.take (i+1)) p=n+if x.prio=p then x.limit else 0):=HN;have hxl:=HLI.out x (List.mem_of_getElem? hx);rw [e5,e6];clear hx e5 e6 HI HN;generalize x.prio=xp at *;generalize x.limit=xl at *;obtain ⟨hx1,hx2⟩:=hxl;cases he:(xp==p) with
     | false=>
      have HE:Hid (capN (ts.take (i+1)) p=n):=by show _=_;rw [HN2.out,if_neg (by simpa using he)];omega
      go_wp2;go_roundw
      case rel=>exact ⟨i+1,n,by omega,by go_num,rfl,trivial,by omega,by omega,HE.out.symm⟩
      case measure=>simp [intOf];omega
     | true=>
      have HE:Hid (capN (ts.take (i+1)) p=n+xl):=by show _=_;rw [HN2.out,if_pos (by simpa using he)]
      go_wp2;go_roundw
      case rel=>exact ⟨i+1,n+xl,by omega,by go_num,by go_num,trivial,by omega,by omega,HE.out.symm⟩
      case measure=>simp [intOf];omega
    ·obtain rfl:i=sp.n:=by omega
     have hl2':¬((sp.n:Nat):Int) < (sp.n:Nat):=by omega
     have HC:Hid (n=capN ts p):=by
      show _=_;have:=HI.out;rwa [List.take_of_length_le (by rw [HPn.out];exact Nat.le_refl _)] at this
     clear HI;have HPT:Hid ((p+1).toNat=p.toNat+1∧((p.toNat:Nat):Int)=p∧(p - 1+1).toNat=p.toNat):=by refine ⟨?_,?_,?_⟩ <;> omega
     by_cases hn9:0 < n
     ·obtain ⟨hmm,hbb,L,xs,hL1,hL2,hL3,hL4⟩:=HJ.out
      have HML:Hid (m=L.length∧L++⟨p,n⟩ :: qb3 ts p.toNat=qb3 ts 64):=by
       refine ⟨hL1,?_⟩;rw [←hL2,HPT.out.1,qb3,HPT.out.2.1,←HC.out,if_pos hn9]
      have HMM:Hid ((m:Int)+p≤63):=hmm;have HX4:Hid (RwX 2 rgrP L xs):=hL4;have hm64:m≤64:=by omega
      have s7:=hbb.size;clear HJ hL1 hL2 hL4 hmm;go_wp2_with (first
       | (at_builtin;refine wpList_append_own _ rfl (.tmp 33) (.tmp 37) 25 rfl w.heap.size 73 im _ 2 16 Tryz.underlying25 him hm0 hm1 hm2 rfl (by decide) _ _ _ rfl (hL3.alloc _) ⟨wr.heap.size,0,none⟩ 1 1 (#[I p,I n]:Array Value).toList rfl rfl (qaz wr _ _) (fun uu hu=>(by simp at hu;rcases hu with e | e <;> (subst e;rfl))) (by unfold maxLen;omega) (by omega) (by simp;omega) ?_))
      intro v8 w8 o8 g8 _;obtain ⟨a8,k8,rfl⟩:=qam o8;have H9:Hid (((m+1:Nat):Int)+(p - 1)≤63∧qB w w8∧∃L xs,m+1=L.length∧L++qb3 ts (p - 1+1).toNat=qb3 ts 64∧w8.ownsRow w.heap.size 73 2 (.slice a8 (m+1) k8) (m+1) xs∧RwX 2 rgrP L xs):=by
       refine ⟨by have:=HMM.out;omega,(hbb.alloc hbb.size _).grown g8 (by simp;omega) (fun k e=>(hL3.lt k e).1),L++[⟨p,n⟩],xs++[I p,I n],by rw [List.length_append,←HML.out.1];rfl,by rw [HPT.out.2.2,List.append_assoc];exact HML.out.2,o8,HX4.out.snoc _ _ rfl (fun i hi=>?_)⟩;rcases (by omega:i=0∨i=1) with e | e <;> (subst e;exact ⟨_,rfl,rfl⟩)
      clear o8 g8 hL3 hbb;go_wp2;go_roundw
      case rel=>exact ⟨p - 1,m+1,a8,k8,by omega,by omega,by go_num,rfl,H9.out⟩
      case measure=>simp [intOf];omega
     ·have H9:Hid ((m:Int)+(p - 1)≤63∧qB w wr∧∃L xs,m=L.length∧L++qb3 ts (p - 1+1).toNat=qb3 ts 64∧wr.ownsRow w.heap.size 73 2 (.slice a m c) m xs∧RwX 2 rgrP L xs):=by
       obtain ⟨hmm,hbb,L,xs,hL1,hL2,hL3,hL4⟩:=HJ.out;refine ⟨by omega,hbb,L,xs,hL1,?_,hL3,hL4⟩;rw [←hL2,HPT.out.1,qb3,HPT.out.2.1,←HC.out,if_neg hn9,HPT.out.2.2]
      clear HJ;go_wp2;go_roundw
      case rel=>exact ⟨p - 1,m,a,c,by omega,by omega,by go_num,rfl,H9.out⟩
      case measure=>simp [intOf];omega
  ·obtain rfl:p=-1:=by omega
   have HE:Hid (qB w wr∧RowsAt wr 2 rgrP ⟨a,m,c⟩ (qb3 ts 64)):=by
    obtain ⟨hmm,hbb,L,xs,hL1,hL2,hL3,hL4⟩:=HJ.out;have e0:L=qb3 ts 64:=by rw [←hL2];show L=L++qb3 ts 0;rw [qb3,List.append_nil]
    subst hL1;refine ⟨hbb,?_⟩;rw [←e0];exact hL4.rows hL3
   clear HJ;go_wp2;go_ret;exact ⟨⟨a,m,c⟩,rfl,HE.out.2,HE.out.1⟩
end Go.Proofs.YtijgopkhdjaolabGreat
