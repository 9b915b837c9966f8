import Derived.Test.YtijgopkhdjaolabGreatXGc
import Derived.Test.YtijgopkhdjaolabGreatXTcw
set_option linter.unusedSimpArgs false
set_option linter.unusedVariables false
set_option maxHeartbeats 16000000
set_option maxRecDepth 100000
namespace Go.Proofs.YtijgopkhdjaolabGreat
open Go.RowKit
open Go.Proofs.YtijgopkhdjaolabGreat.Ob (leB leV qa8 qag crc)
theorem qh2 (l:List Int):qb1 l≤l.length:=by
 unfold qb1;refine maxL_le.2 (fun x hx=>?_);obtain ⟨k,-,rfl⟩:=List.mem_map.1 hx;exact List.count_le_length
theorem qfy {ts:List TkR}:∀{a:Int} {l:List RgR},qch ts a l=true→(∀r∈l,0≤r.prio∧r.prio < a∧r.cap=IntKind.i64.wrap (capN ts r.prio))∧(l.length:Int)≤max a 0
 | a,[],_=>⟨(fun r hr=>absurd hr (by simp)),(by simp;omega)⟩
 | a,r0 :: l,h=>by
  rw [qch] at h;simp only [Bool.and_eq_true,inI,decide_eq_true_eq,beq_iff_eq] at h;obtain ⟨⟨⟨h1,h2⟩,h3⟩,h4⟩:=h;obtain ⟨k1,k2⟩:=qfy h4;refine ⟨fun r hr=>?_,?_⟩
  ·rcases List.mem_cons.1 hr with rfl | hr
   ·exact ⟨by omega,by omega,h3⟩
   ·have:=k1 r hr
    exact ⟨this.1,by omega,this.2.2⟩
  ·rw [List.length_cons]
   omega
theorem qhk {tb:Tb} {p:Int}:∀{a:Int} {l:List Int},-1≤a→ownG tb p a l=true→(∀y∈l,0≤y∧y < (tb.ress.length:Int))∧(l.length:Int)≤max ((tb.ress.length:Int) - 1 - a) 0
 | a,[],ha,_=>⟨(fun r hr=>absurd hr (by simp)),(by simp;omega)⟩
 | a,y :: l,ha,h=>by
  rw [ownG] at h;simp only [Bool.and_eq_true,idB,decide_eq_true_eq] at h;obtain ⟨⟨⟨h1,h2⟩,h3⟩,h4⟩:=h;obtain ⟨k1,k2⟩:=qhk (a:=y) (by omega) h4;refine ⟨fun r hr=>?_,?_⟩
  ·rcases List.mem_cons.1 hr with rfl | hr
   ·omega
   ·exact k1 r hr
  ·rw [List.length_cons]
   omega
theorem qja {tb:Tb} {x:AcR} {lo hi:Int} (h:acB tb x lo hi=true) (hn:tb.tasks.length≤256) (h0:0≤lo) (h9:hi≤9) (hm:x.mask < 4294967296):okAc x:=by
 unfold acB at h;simp only [Bool.and_eq_true,inI,decide_eq_true_eq] at h;obtain ⟨h1,h2⟩:=h;refine ⟨⟨by omega,by omega⟩,?_,hm⟩;split at h2
 ·simp only [Bool.and_eq_true,idB,decide_eq_true_eq] at h2
  exact ⟨by omega,by omega⟩
 ·split at h2
  ·simp only [Bool.and_eq_true,idB,decide_eq_true_eq] at h2
   exact ⟨by omega,by omega⟩
  ·simp only [Bool.and_eq_true,beq_iff_eq] at h2
   exact ⟨by omega,by omega⟩
theorem qks {tb:Tb}:∀{pre l:List IsR},qbs tb pre l=true→∀x∈l,isB tb x=true
 | pre,[],_,x,hx=>by cases hx
 | pre,y :: l,h,x,hx=>by
  rw [qbs] at h;simp only [Bool.and_eq_true] at h;rcases List.mem_cons.1 hx with rfl | hx
  ·exact h.1.1
  ·exact qks h.2 x hx
theorem qcp {α:Type} {l:List α} {e:α→List UInt8} {k:Nat} (h:∀x∈l,(e x).length≤k):(l.flatMap e).length≤l.length * k:=by
 induction l with
 | nil=>simp
 | cons y l ih=>
  rw [List.flatMap_cons,List.length_append,List.length_cons,Nat.succ_mul];have:=h y (by simp);have:=ih (fun x hx=>h x (by simp [hx]));omega
theorem qjb : ∀(l:List Int),(l.flatMap e1).length=l.length
 | []=>rfl
 | y :: l=>by rw [List.flatMap_cons,List.length_append,qjb l,List.length_cons,e1,qa8];omega
theorem qf8 {l:List Int}:(eL l).length=1+l.length:=by
 unfold eL;rw [List.length_append,qjb,e1,qa8]
theorem qkt {tb:Tb} {a:Nat} (h:qcv tb a=true) (hm:1≤tb.modes∧tb.modes≤8):a < 256:=by
 unfold qcv at h;rw [decide_eq_true_eq] at h;have:2 ^ tb.modes.toNat≤2 ^ 8:=Nat.pow_le_pow_right (by decide) (by omega);omega
theorem qfz {tb:Tb} (h:chkP tb=true) (hw:WfT tb):okTb tb∧(qbz tb).length≤100000:=by
 unfold chkP at h;simp only [Bool.and_eq_true] at h;obtain ⟨⟨⟨⟨⟨⟨⟨⟨hc,hrs⟩,hrg⟩,htk⟩,hct⟩,hal⟩,his⟩,hf,hms⟩,hro⟩:=h;unfold qby at hc;simp only [Bool.and_eq_true,inI,decide_eq_true_eq] at hc;obtain ⟨⟨⟨hu,hmo⟩,hnt⟩,hn⟩:=hc;obtain ⟨rg1,rg2⟩:=qfy hrg;unfold qgz at hro;simp only [Bool.and_eq_true,beq_iff_eq] at hro;obtain ⟨⟨⟨hd,hfr⟩,her⟩,hca⟩:=hro;have hcr1:=qh2 (tb.als.map fun x=>x.ctr);have hcr2:=qh2 (rcvL tb);have hrc:(rcvL tb).length≤tb.msgs.length:=by unfold rcvL;rw [List.length_map];exact List.length_filter_le _ _
 rw [List.length_map] at hcr1;have hcn:qeb tb≤tb.als.length+tb.msgs.length:=by
  unfold qeb;exact Nat.add_le_add (List.length_filter_le _ _) (List.length_filter_le _ _)
 have hcaps:∀x∈tb.tasks,1≤x.limit∧x.limit≤255:=fun x hx=>by
  have:=List.all_eq_true.1 htk x hx;unfold tkB at this;simp only [Bool.and_eq_true] at this;have h2:=(limit_first.1 this.1.2).1;simp only [inI,Bool.and_eq_true,decide_eq_true_eq] at h2;exact h2
 have otk:∀x∈tb.tasks,okTk x∧x.own.length≤65:=fun x hx=>by
  have:=List.all_eq_true.1 htk x hx;unfold tkB qex at this;simp only [Bool.and_eq_true,idB,decide_eq_true_eq,Bool.or_eq_true,beq_iff_eq,inI] at this;obtain ⟨⟨⟨a1,a2⟩,a3⟩,⟨a4,a5⟩,a6⟩:=this;obtain ⟨o1,o2⟩:=qhk (by omega) a5;have hp:0≤x.prio∧x.prio < 64:=by
   obtain ⟨r,hr,e⟩:=qiz (l:=tb.rings) (i:=x.ring) (p:=x.prio) (by unfold idB;simp only [Bool.and_eq_true,decide_eq_true_eq];exact a1) a2;have:=rg1 r hr;omega
  have hlim:=hcaps x hx;have hau:=qkt a6 (by omega);refine ⟨⟨⟨by omega,by omega⟩,⟨by omega,by omega⟩,⟨by omega,by omega⟩,(hw.t x hx).1,⟨by omega,by omega⟩,⟨by omega,fun y hy=>?_⟩,by omega⟩,by omega⟩;have:=o1 y hy;exact ⟨by omega,by omega⟩
 have oal:∀x∈tb.als,okAl x:=fun x hx=>by
  have:=List.all_eq_true.1 hal x hx;unfold alB at this;simp only [Bool.and_eq_true,idB,decide_eq_true_eq] at this;have ww:=hw.a x hx;have hau:=qkt this.1.2 (by omega);exact ⟨⟨by omega,by omega⟩,qja this.1.1.2 (by omega) (by omega) (by omega) ww.1,by omega,ww.2.2.1,ww.2.2.2⟩
 have ois:∀x∈tb.isrs,okIs x∧x.own.length≤65:=fun x hx=>by
  have:=qks his x hx;unfold isB at this;simp only [Bool.and_eq_true,inI,decide_eq_true_eq] at this;obtain ⟨⟨⟨a1,a2⟩,a3⟩,a4⟩:=this;obtain ⟨o1,o2⟩:=qhk (by omega) a4;refine ⟨⟨⟨by omega,by omega⟩,⟨by omega,by omega⟩,by omega,fun y hy=>?_⟩,by omega⟩;have:=o1 y hy;exact ⟨by omega,by omega⟩
 have oms:∀x∈tb.msgs,okMs x:=fun x hx=>by
  have h1:=List.all_eq_true.1 hf x hx;have h2:=List.all_eq_true.1 hms x hx;have ww:=hw.s x hx;unfold fldB at h1;unfold msB at h2;split at h1
  ·rename_i e
   rw [if_pos e] at h2;simp only [Bool.and_eq_true,Bool.or_eq_true,beq_iff_eq] at h1;exact ⟨⟨by omega,by omega⟩,⟨by omega,by omega⟩,⟨by omega,by omega⟩,ww.1,⟨by omega,by omega⟩,qja h2 (by omega) (by omega) (by omega) ww.2⟩
  ·rename_i e
   rw [if_neg e] at h2;simp only [Bool.and_eq_true] at h2;have h3:=h2.1;unfold sndB at h3;simp only [Bool.and_eq_true,idB,decide_eq_true_eq] at h3;have hac:=qja h2.2 (by omega) (by omega) (by omega) ww.2;split at h1
   ·simp only [Bool.and_eq_true,beq_iff_eq,decide_eq_true_eq] at h1
    exact ⟨⟨by omega,by omega⟩,⟨by omega,by omega⟩,⟨by omega,by omega⟩,ww.1,⟨by omega,by omega⟩,hac⟩
   ·split at h1
    ·simp only [Bool.and_eq_true,beq_iff_eq,decide_eq_true_eq,inI] at h1
     exact ⟨⟨by omega,by omega⟩,⟨by omega,by omega⟩,⟨by omega,by omega⟩,ww.1,⟨by omega,by omega⟩,hac⟩
    ·cases h1
 have hrl:tb.rings.length≤64:=by omega
 refine ⟨⟨by omega,by omega,by omega,by omega,by omega,by omega,by omega,⟨by omega,by omega⟩,⟨by omega,by omega⟩,⟨by omega,by omega⟩,⟨by omega,by omega⟩,⟨by omega,by omega⟩,⟨by omega,by omega⟩,fun x hx=>(otk x hx).1,fun x hx=>?_,fun x hx=>?_,fun x hx=>?_,oal,fun x hx=>(ois x hx).1,oms⟩,?_⟩
 ·have k:=rg1 x hx
  have kc:=qmk hcaps x.prio;rw [qem kc.1 (by omega)] at k;exact ⟨⟨by omega,by omega⟩,by omega,by omega⟩
 ·have:=List.all_eq_true.1 hrs x hx
  simp only [inI,Bool.and_eq_true,decide_eq_true_eq] at this;exact ⟨by omega,by omega⟩
 ·have ww:=hw.k x hx
  exact ⟨ww.1,ww.2.1,ww.2.2⟩
 ·unfold qbz
  simp only [List.length_append];have t1:=qcp (l:=tb.tasks) (e:=eTk) (k:=76) (fun x hx=>by have:=(otk x hx).2;simp only [eTk,eF,e1,List.length_append,qa8,qf8];omega);have t2:=qcp (l:=tb.rings) (e:=eRg) (k:=3) (fun x hx=>by simp only [eRg,e1,e2,List.length_append,qa8];omega);have t3:=qcp (l:=tb.ress) (e:=eRs) (k:=2) (fun x hx=>by simp only [eRs,eF,e1,List.length_append,qa8];omega);have t4:=qcp (l:=tb.ctrs) (e:=eCt) (k:=12) (fun x hx=>by simp only [eCt,List.length_append,qa8];omega);have t5:=qcp (l:=tb.als) (e:=eAl) (k:=16) (fun x hx=>by simp only [eAl,eAc,e1,List.length_append,qa8];omega);have t6:=qcp (l:=tb.isrs) (e:=eIs) (k:=68) (fun x hx=>by have:=(ois x hx).2;simp only [eIs,e1,List.length_append,qa8,qf8];omega);have t7:=qcp (l:=tb.msgs) (e:=eMs) (k:=18) (fun x hx=>by simp only [eMs,eAc,e1,List.length_append,qa8];omega);omega
theorem qq9 {tb:Tb} (h:chkP tb=true) (hw:WfT tb) (h16:crc 65535 (eAll tb) < 65536):dec (img tb)=.ok tb:=by
 obtain ⟨h1,h2⟩:=qfz h hw;exact qq7 h1 h (by have e9:(256:Nat) ^ 4=4294967296:=(by decide);omega) (by exact h16)
end Go.Proofs.YtijgopkhdjaolabGreat
