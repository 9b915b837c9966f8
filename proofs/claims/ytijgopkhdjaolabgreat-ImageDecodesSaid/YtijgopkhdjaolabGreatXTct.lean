import Derived.Test.YtijgopkhdjaolabGreatXTgx
import Derived.Maps.OwnSet
import Derived.Maps.OwnOps
import Derived.Deep.Cut
set_option linter.unusedSimpArgs false
set_option linter.unusedVariables false
set_option maxHeartbeats 16000000
set_option maxRecDepth 100000
namespace Go.Proofs.YtijgopkhdjaolabGreat
open Go.Maps Go.RowKit
theorem ql3 : ∀(n:Nat) (f:Nat→Nat),(∀k,k≤n→f k < n)→∃i j,i < j∧j≤n∧f i=f j
 | 0,f,h=>absurd (h 0 (Nat.le_refl 0)) (Nat.not_lt_zero _)
 | n+1,f,h=>by
  by_cases hv:∃i,i≤n∧f i=f (n+1)
  ·obtain ⟨i,hi,e⟩:=hv
   exact ⟨i,n+1,by omega,Nat.le_refl _,e⟩
  ·have hne:∀i,i≤n→f i≠f (n+1):=fun i hi e=>hv ⟨i,hi,e⟩
   have hvl:=h (n+1) (Nat.le_refl _);obtain ⟨i,j,hij,hjn,e⟩:=ql3 n (fun k=>if f k=n then f (n+1) else f k) (fun k hk=>by
    have h1:=h k (by omega);have h2:=hne k hk;split <;> omega)
   have h1:=hne i (by omega);have h2:=hne j hjn;refine ⟨i,j,hij,by omega,?_⟩;split at e <;> split at e <;> omega
theorem qm3 {l:List Nat} {n:Nat} (hd:l.Nodup) (hl:∀x∈l,x < n):l.length≤n:=by
 by_cases h:l.length≤n
 ·exact h
 ·exfalso
  obtain ⟨i,j,hij,hjn,e⟩:=ql3 n (fun k=>l.getD k 0) (fun k hk=>by
   have hk2:k < l.length:=by omega
   show l.getD k 0 < n;rw [List.getD_eq_getElem?_getD,List.getElem?_eq_getElem hk2];exact hl _ (List.getElem_mem hk2))
  have hi2:i < l.length:=by omega
  have hj2:j < l.length:=by omega
  have e2:l[i]=l[j]:=by
   have e3:l.getD i 0=l.getD j 0:=e;rw [List.getD_eq_getElem?_getD,List.getD_eq_getElem?_getD,List.getElem?_eq_getElem hi2,List.getElem?_eq_getElem hj2] at e3;exact e3
  exact List.pairwise_iff_getElem.1 hd i j hi2 hj2 hij e2
theorem keyI : Keyed Tryz.prog 3:=int_keyed Tryz.underlying3
theorem qsz (w:World):(zeroValue 3).run Tryz.prog w=.ok (.int .i64 0) w:=by kernel_rfl
theorem qnm {j:Nat} (h:j < 9223372036854775808):(Lit.int .i64 (j:Int)).wf=true:=WalkArith.wf_i64 (by omega)
theorem qnn {H:Type} {w:World} {P:Program} {k:TypeId} {R:Value→Option (DataW H×List MemPlace)} {b n:Nat} {D:DataW H} (h:w.ownsMap P k R b n D):w.ownsMap P k R b (Maps.size D) D:=by
 obtain ⟨es,clock,hb,F,hs,rfl⟩:=h;refine ⟨es,clock,hb,F,?_,rfl⟩;rw [Maps.size_eq,length_sorted];simp
structure MapOf (w:World) (b n:Nat) (ks:List Nat) (f:Nat→Int):Prop where
 nd:ks.Nodup
 lt:∀k∈ks,k < n
 ex:∃D:DataW Unit,w.ownsMap Tryz.prog 3 (plainElem Tryz.prog 3) b ks.length D∧Maps.size D=ks.length∧∀j:Nat,Maps.has D (.int .i64 j)=decide (j∈ks)∧D.atKey (.int .i64 j) (.lit (.int .i64 0))=.lit (.int .i64 (if j∈ks then f j else 0))
theorem MapOf.made (w:World) (n:Nat) (f:Nat→Int):MapOf (w.alloc (.map #[] 0)) w.heap.size n [] f:=
 ⟨List.nodup_nil,(fun k hk=>by cases hk),.map [],World.ownsMap_made _ _ _ _,rfl,fun j=>⟨by simp [Maps.has],by simp [DataW.atKey]⟩⟩
theorem MapOf.block {w:World} {b n:Nat} {ks:List Nat} {f:Nat→Int} (h:MapOf w b n ks f):b < w.heap.size:=by
 obtain ⟨D,hD,_⟩:=h.ex;exact hD.lt
theorem MapOf.kept {w w':World} {b n:Nat} {ks:List Nat} {f:Nat→Int} {row:Option Nat} (h:MapOf w b n ks f) (hg:w.grownBy w' row) (hne:some b≠row):MapOf w' b n ks f:=by
 obtain ⟨D,hD,h2⟩:=h.ex;exact ⟨h.nd,h.lt,D,hD.kept hg hne,h2⟩
theorem MapOf.below {w w':World} {b n:Nat} {ks:List Nat} {f:Nat→Int} (h:MapOf w b n ks f) (hb:qB w w'):MapOf w' b n ks f:=h.kept (qah (r:=none) hb) (by simp)
theorem MapOf.congr {w:World} {b n:Nat} {ks:List Nat} {f g:Nat→Int} (h:MapOf w b n ks f) (e:∀k∈ks,f k=g k):MapOf w b n ks g:=by
 obtain ⟨D,hD,hs,h2⟩:=h.ex;refine ⟨h.nd,h.lt,D,hD,hs,fun j=>⟨(h2 j).1,?_⟩⟩;rw [(h2 j).2];by_cases hj:j∈ks
 ·rw [if_pos hj,if_pos hj,e j hj]
 ·rw [if_neg hj,if_neg hj]
def insK (ks:List Nat) (j:Nat):List Nat:=if j∈ks then ks else j :: ks
theorem mem_insK {ks:List Nat} {j i:Nat}:i∈insK ks j ↔ i=j∨i∈ks:=by
 unfold insK;by_cases h:j∈ks
 ·rw [if_pos h]
  constructor
  ·exact .inr
  ·rintro (rfl | h2)
   ·exact h
   ·exact h2
 ·rw [if_neg h,List.mem_cons]
def mapF (f:Nat→Int) (j:Nat) (e:Int) (i:Nat):Int:=if i=j then e else f i
theorem MapOf.len {w:World} {b n:Nat} {ks:List Nat} {f:Nat→Int} (h:MapOf w b n ks f):ks.length≤n:=qm3 h.nd h.lt
section
variable {w : World} {ops : Array Oper} {rest : List Oper} {o : Oper} {a : Act} {Q : Exit → Act → World → Prop}
theorem qdh (hg:o.guard=none) (m x:Operand) (t:TypeId) (hop:o.op=Op.lookup t m x false) (ht:Tryz.prog.underlying t=some (.map 3 3)) (b n:Nat) (ks:List Nat) (f:Nat→Int)
  (hm:a.eval m=.map (some b)) (h:MapOf w b n ks f) (j:Nat) (hj:j < 9223372036854775808) (hx:a.eval x=.int .i64 (j:Int))
  (hK:∀e:Int,Hid (e=if j∈ks then f j else 0)→wpList Tryz.prog ops Q rest (a.put o.dst (.int .i64 e)) w):wpList Tryz.prog ops Q (o :: rest) a w:=by
 obtain ⟨D,hD,hs,h2⟩:=h.ex;refine wpList_lookup_own_int w hg m x t hop 3 3 .i64 keyI ht Tryz.underlying3 (qsz w) b ks.length D hm hD _ (.int .i64 (j:Int)) hx (keyOf_int_mk Tryz.underlying3 (qnm hj)) (fun c hat _=>?_);rw [(h2 j).2] at hat;have hc:c=if j∈ks then f j else 0:=by cases hat;rfl
 exact hK c hc
theorem qfq (hg:o.guard=none) (m x u:Operand) (t:TypeId) (hop:o.op=Op.mapUpdate t m x u) (ht:Tryz.prog.underlying t=some (.map 3 3)) (b n:Nat) (ks:List Nat) (f:Nat→Int)
  (hm:a.eval m=.map (some b)) (h:MapOf w b n ks f) (hn:n≤8796093022208) (j:Nat) (hj:j < n) (hx:a.eval x=.int .i64 (j:Int)) (e:Int) (he:(Lit.int .i64 e).wf=true) (hu:a.eval u=.int .i64 e)
  (hK:∀w',MapOf w' b n (insK ks j) (mapF f j e)→w.grownBy w' (some b)→wpList Tryz.prog ops Q rest (a.put o.dst undef) w'):wpList Tryz.prog ops Q (o :: rest) a w:=by
 have hlen:=h.len;obtain ⟨D,hD,hs,h2⟩:=h.ex;have hT:=hD.tidy keyI;have hkl:WideAt.IsKeyLit (.int .i64 (j:Int)):=trivial;refine wpList_mapUpdate_own w hg m x u t hop 3 3 keyI ht _ b ks.length D hm hD (by unfold maxLen;omega) _ _ (.int .i64 (j:Int)) hx hu (keyOf_int_mk Tryz.underlying3 (qnm (by omega))) _ [] (plainElem_int Tryz.underlying3 he) (fun w' hown hgr=>hK w' ?_ hgr);have hsz:Maps.size (D.put (.int .i64 (j:Int)) (.lit (.int .i64 e)))=(insK ks j).length:=by
  rw [Maps.size_put hT,(h2 j).1,hs];unfold insK;by_cases hm:j∈ks <;> simp [hm]
 refine ⟨?_,?_,_,by rw [←hsz];exact qnn hown,hsz,fun i=>?_⟩
 ·unfold insK
  by_cases hm:j∈ks
  ·rw [if_pos hm];exact h.nd
  ·rw [if_neg hm];exact List.nodup_cons.2 ⟨hm,h.nd⟩
 ·intro k hk
  rcases mem_insK.1 hk with rfl | hk
  ·exact hj
  ·exact h.lt k hk
 ·by_cases hij:i=j
  ·subst hij
   refine ⟨by rw [Maps.has_put_same hT.isMap hkl];simp [mem_insK],?_⟩;rw [Maps.atKey_put_same hT.isMap hkl,if_pos (mem_insK.2 (.inl rfl)),mapF,if_pos rfl]
  ·have hne:(Lit.int .i64 (i:Int))≠.int .i64 (j:Int):=fun e=>by
    have:(i:Int)=j:=by injection e
    omega
   refine ⟨by rw [Maps.has_put_other hne,(h2 i).1];simp [mem_insK,hij],?_⟩;rw [Maps.atKey_put_other hne,(h2 i).2,mapF,if_neg hij];by_cases hi:i∈ks
   ·rw [if_pos hi,if_pos (mem_insK.2 (.inr hi))]
   ·rw [if_neg hi,if_neg (fun h=>(mem_insK.1 h).elim hij hi)]
end
theorem qhc (l:List Int) (a:Int):qb1 (l++[a])=max (qb1 l) (l.count a+1):=by
 have hc:∀k,(l++[a]).count k=l.count k+(if k=a then 1 else 0):=fun k=>by
  rw [List.count_append,List.count_singleton];by_cases h:k=a
  ·simp [h]
  ·have:¬a=k:=fun e=>h e.symm
   simp [h,this]
 apply Nat.le_antisymm
 ·refine maxL_le.2 (fun x hx=>?_)
  obtain ⟨k,hk,rfl⟩:=List.mem_map.1 hx;rw [hc];by_cases h:k=a
  ·rw [if_pos h,h];exact Nat.le_max_right _ _
  ·rw [if_neg h]
   have hkl:k∈l:=by
    rcases List.mem_append.1 hk with h1 | h1
    ·exact h1
    ·exact absurd (by simpa using h1) h
   have:l.count k≤qb1 l:=maxL_le.1 (Nat.le_refl _) _ (List.mem_map.2 ⟨k,hkl,rfl⟩);omega
 ·refine Nat.max_le.2 ⟨?_,?_⟩
  ·refine maxL_le.2 (fun x hx=>?_)
   obtain ⟨k,hk,rfl⟩:=List.mem_map.1 hx;have:(l++[a]).count k≤qb1 (l++[a]):=maxL_le.1 (Nat.le_refl _) _ (List.mem_map.2 ⟨k,by simp [hk],rfl⟩);rw [hc] at this;omega
  ·have:(l++[a]).count a≤qb1 (l++[a]):=maxL_le.1 (Nat.le_refl _) _ (List.mem_map.2 ⟨a,by simp,rfl⟩)
   rw [hc,if_pos rfl] at this;exact this
theorem qjo (l:List Int):qb1 l≤l.length:=by
 refine maxL_le.2 (fun x hx=>?_);obtain ⟨k,hk,rfl⟩:=List.mem_map.1 hx;exact List.count_le_length
end Go.Proofs.YtijgopkhdjaolabGreat
namespace Go.Proofs.YtijgopkhdjaolabGreat
open Go.Maps Go.RowKit Go.Shelf Go.Sort
theorem qno (w:World) (s:Sl) (l:List AlR) (hl:∀W,qB w W→RowsAt W 7 alrP s l) (f:Nat) (caps:Array Value) (eg:∀args W,(callFunc f args).run Tryz.prog W=.ok (.enter f args) W) (p:AlR→Int) (n:Nat) (hp:∀x∈l,0≤p x∧p x < (n:Int)) (hn:n≤1048576) (hll:l.length≤1048576)
  (hf:∀W,qB w W→∀x∈l,Calls Tryz.prog f (#[.agg #[I x.ctr,I x.ac.kind,I x.ac.task,.int .u32 (x.ac.mask:Int),.int .u32 (x.auto:Int),.int .u32 (x.time:Int),.int .u32 (x.cycle:Int)]]++caps) W fun e w'=>e=.returned (I (p x))∧qB W w') :
  Calls Tryz.prog 178 #[.slice s.a s.n s.c,.func (.func f) #[] caps] w fun e w'=>e=.returned (I (qb1 (l.map p)))∧qB w w':=by
 have hmm:=@run_makeMap Tryz.prog;have h0:=hl w (Below.refl _ _);have HS:Hid (s.n=l.length):=h0.n;have hsc:s.n≤s.c:=h0.c;have hsm:s.c≤maxLen:=h0.m;unfold maxLen at hsm;have HH:Hid (∀W,qB w W→RowsAt W 7 alrP s l):=hl;have HFF:Hid (∀W,qB w W→∀x∈l,Calls Tryz.prog f (#[.agg #[I x.ctr,I x.ac.kind,I x.ac.task,.int .u32 (x.ac.mask:Int),.int .u32 (x.auto:Int),.int .u32 (x.time:Int),.int .u32 (x.cycle:Int)]]++caps) W fun e w'=>e=.returned (I (p x))∧qB W w'):=hf;have HPP:Hid (∀x∈l,0≤p x∧p x < (n:Int)):=hp;have HLL:Hid (l.length≤1048576):=hll;have HM0:Hid (MapOf (w.alloc (.map #[] 0)) w.heap.size n [] (fun k=>(((l.take 0).map p).count (k:Int):Int))∧qB w (w.alloc (.map #[] 0))):=⟨MapOf.made w n _,qa0 w _⟩;obtain ⟨R,hR⟩:∃R:Int,R=qb1 (l.map p):=⟨_,rfl⟩
 rw [←hR];have HR:Hid (R=qb1 (l.map p)):=hR;clear hl hR hf h0 hp hll;go_enter Tryz.func178,Tryz.ntmps178
 go_wp2;clear hmm;go_loopw [6,8,12] (fun mv _ iv wr=>∃(j:Nat) (m:Int),j≤s.n∧iv=.int .i64 j∧mv=.int .i64 m∧Hid (m=(qb1 ((l.take j).map p):Nat)∧(∃ks,MapOf wr w.heap.size n ks (fun k=>(((l.take j).map p).count (k:Int):Int))∧∀k:Nat,k ∉ ks→((l.take j).map p).count (k:Int)=0)∧qB w wr)) (fun _ _ iv _=>s.n - (intOf iv).toNat)
 case atStart=>exact ⟨0,0,by omega,rfl,rfl,by simp [qb1,maxL],⟨[],HM0.out.1,fun k _=>by simp⟩,HM0.out.2⟩
 case round=>
  clear HM0;obtain ⟨j,m,hj,rfl,rfl,HJ⟩:=hrel;by_cases hlt:j < s.n
  ·have hlt':(j:Int) < s.n:=by omega
   obtain ⟨x,hx⟩:∃x,l[j]?=some x:=⟨_,List.getElem?_eq_getElem (by rw [←HS.out];exact hlt)⟩
   obtain ⟨g5,o5,e5,hg5,hr5⟩:=(HH.out _ HJ.out.2.2).row j x hx;obtain ⟨u0,a0,q0⟩:=hr5 0 (by omega);obtain ⟨u1,a1,q1⟩:=hr5 1 (by omega);obtain ⟨u2,a2,q2⟩:=hr5 2 (by omega);obtain ⟨u3,a3,q3⟩:=hr5 3 (by omega);obtain ⟨u4,a4,q4⟩:=hr5 4 (by omega);obtain ⟨u5,a5,q5⟩:=hr5 5 (by omega);obtain ⟨u6,a6,q6⟩:=hr5 6 (by omega);have f0:u0=I x.ctr:=q0;have f1:u1=I x.ac.kind:=q1;have f2:u2=I x.ac.task:=q2;have f3:u3=.int .u32 (x.ac.mask:Int):=q3;have f4:u4=.int .u32 (x.auto:Int):=q4;have f5:u5=.int .u32 (x.time:Int):=q5;have f6:u6=.int .u32 (x.cycle:Int):=q6;subst f0 f1 f2 f3 f4 f5 f6;rw [Nat.add_zero] at a0;have bX:qB wr (wr.alloc (.cells #[I x.ctr,I x.ac.kind,I x.ac.task,.int .u32 (x.ac.mask:Int),.int .u32 (x.auto:Int),.int .u32 (x.time:Int),.int .u32 (x.cycle:Int)] 82)):=qa0 wr _;have bW:qB w (wr.alloc (.cells #[I x.ctr,I x.ac.kind,I x.ac.task,.int .u32 (x.ac.mask:Int),.int .u32 (x.auto:Int),.int .u32 (x.time:Int),.int .u32 (x.cycle:Int)] 82)):=HJ.out.2.2.trans (bX.mono HJ.out.2.2.size);have hXX:=heap_alloc_new wr (.cells #[I x.ctr,I x.ac.kind,I x.ac.task,.int .u32 (x.ac.mask:Int),.int .u32 (x.auto:Int),.int .u32 (x.time:Int),.int .u32 (x.cycle:Int)] 82);have hxl:=List.mem_of_getElem? hx;obtain ⟨c,hc⟩:=Int.eq_ofNat_of_zero_le (HPP.out x hxl).1;have hcn:c < n:=by have:=(HPP.out x hxl).2;omega
   have HC:Hid (∀W,qB w W→Calls Tryz.prog f (#[.agg #[I x.ctr,I x.ac.kind,I x.ac.task,.int .u32 (x.ac.mask:Int),.int .u32 (x.auto:Int),.int .u32 (x.time:Int),.int .u32 (x.cycle:Int)]]++caps) W fun e w'=>e=.returned (I (c:Int))∧qB W w'):=fun W hW=>by
    have:=HFF.out W hW x hxl;rw [hc] at this;exact this
   obtain ⟨ks,hM,hz⟩:=HJ.out.2.1;have hM0:=hM.below bX;have hcnt:((l.take j).map p).count (c:Int)≤1048576:=by
    have h1:=List.count_le_length (a:=(c:Int)) (l:=(l.take j).map p);have h2:=HLL.out;rw [List.length_map,List.length_take] at h1;omega
   have hval:(if c∈ks then (((l.take j).map p).count (c:Int):Int) else 0)=(((l.take j).map p).count (c:Int):Int):=by
    by_cases h9:c∈ks
    ·rw [if_pos h9]
    ·rw [if_neg h9,hz c h9];rfl
   have htk:(l.take (j+1)).map p=(l.take j).map p++[(c:Int)]:=by
    rw [List.take_add_one,hx,Option.toList_some,List.map_append,List.map_singleton,hc]
   have HA:Hid ((max m ((((l.take j).map p).count (c:Int):Int)+1))=(qb1 ((l.take (j+1)).map p):Nat)):=by
    show _=_;rw [htk,qhc,HJ.out.1];omega
   have HF:Hid (∀W,MapOf W w.heap.size n (insK ks c) (mapF (fun k=>(((l.take j).map p).count (k:Int):Int)) c ((((l.take j).map p).count (c:Int):Int)+1))→∃ks',MapOf W w.heap.size n ks' (fun k=>(((l.take (j+1)).map p).count (k:Int):Int))∧∀k:Nat,k ∉ ks'→((l.take (j+1)).map p).count (k:Int)=0):=fun W hW=>by
    have hcc:∀k:Nat,((l.take (j+1)).map p).count (k:Int)=((l.take j).map p).count (k:Int)+(if k=c then 1 else 0):=fun k=>by
     rw [htk,List.count_append,List.count_singleton];by_cases h9:k=c
     ·subst h9;simp
     ·have h8:¬(c:Int)=(k:Int):=by omega
      simp [h9,h8]
    refine ⟨_,hW.congr (fun k hk=>?_),fun k hk=>?_⟩
    ·show mapF _ c _ k=_
     unfold mapF;rw [hcc];by_cases h9:k=c
     ·subst h9;simp
     ·rw [if_neg h9,if_neg h9];simp
    ·rw [hcc]
     have h1:¬k=c:=fun e=>hk (mem_insK.2 (.inl e))
     have h2:k ∉ ks:=fun e=>hk (mem_insK.2 (.inr e))
     rw [if_neg h1,hz k h2]
   rw [e5];have y0:∀i u,#[I x.ctr,I x.ac.kind,I x.ac.task,.int .u32 (x.ac.mask:Int),.int .u32 (x.auto:Int),.int .u32 (x.time:Int),.int .u32 (x.cycle:Int)][i]?=some u→(wr.alloc (.cells #[I x.ctr,I x.ac.kind,I x.ac.task,.int .u32 (x.ac.mask:Int),.int .u32 (x.auto:Int),.int .u32 (x.time:Int),.int .u32 (x.cycle:Int)] 82)).cell? ⟨wr.heap.size,i,none⟩=some u:=fun i u hu=>by rw [qcr hXX];simpa using hu
   have Hhr:Hid (HJ=HJ):=rfl;clear hx e5 hr5 q0 q1 q2 q3 q4 q5 q6 Hhr hz hxl;go_upto_region 5 with fail;generalize hcg:((l.take j).map p).count (c:Int)=cnt at *;have Hcg:Hid (((l.take j).map p).count (c:Int)=cnt):=hcg;have hbx:w.heap.size < wr.heap.size:=hM.block;have Hhbx:Hid (w.heap.size < wr.heap.size):=hbx;have hxs:wr.heap.size < (wr.alloc (.cells #[I x.ctr,I x.ac.kind,I x.ac.task,.int .u32 (x.ac.mask:Int),.int .u32 (x.auto:Int),.int .u32 (x.time:Int),.int .u32 (x.cycle:Int)] 82)).heap.size:=by simp
   have HXS:Hid (wr.heap.size < (wr.alloc (.cells #[I x.ctr,I x.ac.kind,I x.ac.task,.int .u32 (x.ac.mask:Int),.int .u32 (x.auto:Int),.int .u32 (x.time:Int),.int .u32 (x.cycle:Int)] 82)).heap.size):=hxs;clear hcg hM hbx hxs hc hXX bX;generalize wr.heap.size=X at *;generalize (wr.alloc (.cells #[I x.ctr,I x.ac.kind,I x.ac.task,.int .u32 (x.ac.mask:Int),.int .u32 (x.auto:Int),.int .u32 (x.time:Int),.int .u32 (x.cycle:Int)] 82))=W0 at *;have y0_:=y0 0 _ rfl;have y1_:=y0 1 _ rfl;have y2_:=y0 2 _ rfl;have y3_:=y0 3 _ rfl;have y4_:=y0 4 _ rfl;have y5_:=y0 5 _ rfl;have y6_:=y0 6 _ rfl;have c1:=HC.out W0 bW;have HY:Hid (∀i u,#[I x.ctr,I x.ac.kind,I x.ac.task,.int .u32 (x.ac.mask:Int),.int .u32 (x.auto:Int),.int .u32 (x.time:Int),.int .u32 (x.cycle:Int)][i]?=some u→W0.cell? ⟨X,i,none⟩=some u):=y0;have HM:Hid (MapOf W0 w.heap.size n ks (fun k=>(((l.take j).map p).count (k:Int):Int))):=hM0;have HBW:Hid (qB w W0):=bW;have hm0:=HJ.out.1;have Hm0:Hid (m=(qb1 ((l.take j).map p):Nat)):=hm0;clear y0 hM0 bW hm0 HJ;go_wp2;refine c1.mono ?_;clear c1;rintro e2 w2 ⟨rfl,hb2⟩;have hM2:=HM.out.below hb2;go_upto_region 6 with (first
    | (refine qdh rfl (.tmp 16) (.tmp 19) 223 rfl Tryz.underlying223 w.heap.size n ks _ rfl hM2 c (by omega) rfl ?_;intro e3 he3;have he4:e3=(cnt:Int):=(he3.out.trans (by show (if c∈ks then (((l.take j).map p).count (c:Int):Int) else 0)=_;rw [Hcg.out];exact hval));subst he4;clear he3)
    | (refine qfq rfl (.tmp 16) (.tmp 19) (.tmp 21) 223 rfl Tryz.underlying223 w.heap.size n ks _ rfl hM2 (by omega) c hcn rfl ((cnt:Int)+1) (WalkArith.wf_i64 (by omega)) rfl ?_;intro w3 hM3 hg3;have b3:qB w w3:=((HBW.out.trans (hb2.mono HBW.out.size)).grown hg3 (HBW.out.trans (hb2.mono HBW.out.size)).size (fun k e=>(by cases e;exact Nat.le_refl _)));have HY3:Hid (∀i u,#[I x.ctr,I x.ac.kind,I x.ac.task,.int .u32 (x.ac.mask:Int),.int .u32 (x.auto:Int),.int .u32 (x.time:Int),.int .u32 (x.cycle:Int)][i]?=some u→w3.cell? ⟨X,i,none⟩=some u):=(fun i u hu=>(World.cell?_of_block (hg3.block X (Nat.lt_of_lt_of_le HXS.out hb2.size) (by intro e;injection e with e1;exact absurd e1 (Nat.ne_of_gt Hhbx.out)))).trans ((hb2.cell (p:=⟨X,i,none⟩) HXS.out).trans (HY.out i u hu)))))
   clear y0_ y1_ y2_ y3_ y4_ y5_ y6_;have t0:=HY3.out 0 _ rfl;have t1:=HY3.out 1 _ rfl;have t2:=HY3.out 2 _ rfl;have t3:=HY3.out 3 _ rfl;have t4:=HY3.out 4 _ rfl;have t5:=HY3.out 5 _ rfl;have t6:=HY3.out 6 _ rfl;have c3:=HC.out w3 b3;have HM3:Hid (MapOf w3 w.heap.size n (insK ks c) (mapF (fun k=>(((l.take j).map p).count (k:Int):Int)) c ((cnt:Int)+1))∧qB w w3):=⟨hM3,b3⟩;clear hM2 hg3 b3 hb2;have hM3:=HM3.out.1;go_wp2;refine c3.mono ?_;clear c3;rintro e4 w4 ⟨rfl,hb4⟩;have hM4:=hM3.below hb4;go_wp2_with (first
    | (refine qdh rfl (.tmp 23) (.tmp 26) 223 rfl Tryz.underlying223 w.heap.size n (insK ks c) _ rfl hM4 c (by omega) rfl ?_;intro e5 he5;have he6:e5=(cnt:Int)+1:=(he5.out.trans (by rw [if_pos (mem_insK.2 (.inl rfl))];unfold mapF;rw [if_pos rfl]));subst he6;clear he5))
   go_roundw
   case rel=>exact ⟨j+1,_,by omega,by go_num,rfl,(by rw [←HA.out];split <;> omega),HF.out w4 hM4,HM3.out.2.trans (hb4.mono HM3.out.2.size)⟩
   case measure=>simp [intOf];omega
  ·obtain rfl:j=s.n:=by omega
   have hlt':¬((s.n:Nat):Int) < (s.n:Nat):=by omega
   have HE:Hid (m=R):=by
    show _=_;rw [HR.out,HJ.out.1,List.take_of_length_le (by rw [HS.out];exact Nat.le_refl _)]
   have HB:Hid (qB w wr):=HJ.out.2.2;clear HR HJ;go_wp2;go_ret;exact ⟨qh1 HE.out,HB.out⟩
theorem qnp (w:World) (s:Sl) (l:List MsR) (hl:∀W,qB w W→RowsAt W 8 msrP s l) (f:Nat) (caps:Array Value) (eg:∀args W,(callFunc f args).run Tryz.prog W=.ok (.enter f args) W) (p:MsR→Int) (n:Nat) (hp:∀x∈l,0≤p x∧p x < (n:Int)) (hn:n≤1048576) (hll:l.length≤1048576)
  (hf:∀W,qB w W→∀x∈l,Calls Tryz.prog f (#[.agg #[I x.kind,I x.len,I x.frm,.int .u64 (x.init:Int),I x.queue,I x.ac.kind,I x.ac.task,.int .u32 (x.ac.mask:Int)]]++caps) W fun e w'=>e=.returned (I (p x))∧qB W w') :
  Calls Tryz.prog 180 #[.slice s.a s.n s.c,.func (.func f) #[] caps] w fun e w'=>e=.returned (I (qb1 (l.map p)))∧qB w w':=by
 have hmm:=@run_makeMap Tryz.prog;have h0:=hl w (Below.refl _ _);have HS:Hid (s.n=l.length):=h0.n;have hsc:s.n≤s.c:=h0.c;have hsm:s.c≤maxLen:=h0.m;unfold maxLen at hsm;have HH:Hid (∀W,qB w W→RowsAt W 8 msrP s l):=hl;have HFF:Hid (∀W,qB w W→∀x∈l,Calls Tryz.prog f (#[.agg #[I x.kind,I x.len,I x.frm,.int .u64 (x.init:Int),I x.queue,I x.ac.kind,I x.ac.task,.int .u32 (x.ac.mask:Int)]]++caps) W fun e w'=>e=.returned (I (p x))∧qB W w'):=hf;have HPP:Hid (∀x∈l,0≤p x∧p x < (n:Int)):=hp;have HLL:Hid (l.length≤1048576):=hll;have HM0:Hid (MapOf (w.alloc (.map #[] 0)) w.heap.size n [] (fun k=>(((l.take 0).map p).count (k:Int):Int))∧qB w (w.alloc (.map #[] 0))):=⟨MapOf.made w n _,qa0 w _⟩;obtain ⟨R,hR⟩:∃R:Int,R=qb1 (l.map p):=⟨_,rfl⟩
 rw [←hR];have HR:Hid (R=qb1 (l.map p)):=hR;clear hl hR hf h0 hp hll;go_enter Tryz.func180,Tryz.ntmps180
 go_wp2;clear hmm;go_loopw [6,8,12] (fun mv _ iv wr=>∃(j:Nat) (m:Int),j≤s.n∧iv=.int .i64 j∧mv=.int .i64 m∧Hid (m=(qb1 ((l.take j).map p):Nat)∧(∃ks,MapOf wr w.heap.size n ks (fun k=>(((l.take j).map p).count (k:Int):Int))∧∀k:Nat,k ∉ ks→((l.take j).map p).count (k:Int)=0)∧qB w wr)) (fun _ _ iv _=>s.n - (intOf iv).toNat)
 case atStart=>exact ⟨0,0,by omega,rfl,rfl,by simp [qb1,maxL],⟨[],HM0.out.1,fun k _=>by simp⟩,HM0.out.2⟩
 case round=>
  clear HM0;obtain ⟨j,m,hj,rfl,rfl,HJ⟩:=hrel;by_cases hlt:j < s.n
  ·have hlt':(j:Int) < s.n:=by omega
   obtain ⟨x,hx⟩:∃x,l[j]?=some x:=⟨_,List.getElem?_eq_getElem (by rw [←HS.out];exact hlt)⟩
   obtain ⟨g5,o5,e5,hg5,hr5⟩:=(HH.out _ HJ.out.2.2).row j x hx;obtain ⟨u0,a0,q0⟩:=hr5 0 (by omega);obtain ⟨u1,a1,q1⟩:=hr5 1 (by omega);obtain ⟨u2,a2,q2⟩:=hr5 2 (by omega);obtain ⟨u3,a3,q3⟩:=hr5 3 (by omega);obtain ⟨u4,a4,q4⟩:=hr5 4 (by omega);obtain ⟨u5,a5,q5⟩:=hr5 5 (by omega);obtain ⟨u6,a6,q6⟩:=hr5 6 (by omega);obtain ⟨u7,a7,q7⟩:=hr5 7 (by omega);have f0:u0=I x.kind:=q0;have f1:u1=I x.len:=q1;have f2:u2=I x.frm:=q2;have f3:u3=.int .u64 (x.init:Int):=q3;have f4:u4=I x.queue:=q4;have f5:u5=I x.ac.kind:=q5;have f6:u6=I x.ac.task:=q6;have f7:u7=.int .u32 (x.ac.mask:Int):=q7;subst f0 f1 f2 f3 f4 f5 f6 f7;rw [Nat.add_zero] at a0;have bX:qB wr (wr.alloc (.cells #[I x.kind,I x.len,I x.frm,.int .u64 (x.init:Int),I x.queue,I x.ac.kind,I x.ac.task,.int .u32 (x.ac.mask:Int)] 87)):=qa0 wr _;have bW:qB w (wr.alloc (.cells #[I x.kind,I x.len,I x.frm,.int .u64 (x.init:Int),I x.queue,I x.ac.kind,I x.ac.task,.int .u32 (x.ac.mask:Int)] 87)):=HJ.out.2.2.trans (bX.mono HJ.out.2.2.size);have hXX:=heap_alloc_new wr (.cells #[I x.kind,I x.len,I x.frm,.int .u64 (x.init:Int),I x.queue,I x.ac.kind,I x.ac.task,.int .u32 (x.ac.mask:Int)] 87);have hxl:=List.mem_of_getElem? hx;obtain ⟨c,hc⟩:=Int.eq_ofNat_of_zero_le (HPP.out x hxl).1;have hcn:c < n:=by have:=(HPP.out x hxl).2;omega
   have HC:Hid (∀W,qB w W→Calls Tryz.prog f (#[.agg #[I x.kind,I x.len,I x.frm,.int .u64 (x.init:Int),I x.queue,I x.ac.kind,I x.ac.task,.int .u32 (x.ac.mask:Int)]]++caps) W fun e w'=>e=.returned (I (c:Int))∧qB W w'):=fun W hW=>by
    have:=HFF.out W hW x hxl;rw [hc] at this;exact this
   obtain ⟨ks,hM,hz⟩:=HJ.out.2.1;have hM0:=hM.below bX;have hcnt:((l.take j).map p).count (c:Int)≤1048576:=by
    have h1:=List.count_le_length (a:=(c:Int)) (l:=(l.take j).map p);have h2:=HLL.out;rw [List.length_map,List.length_take] at h1;omega
   have hval:(if c∈ks then (((l.take j).map p).count (c:Int):Int) else 0)=(((l.take j).map p).count (c:Int):Int):=by
    by_cases h9:c∈ks
    ·rw [if_pos h9]
    ·rw [if_neg h9,hz c h9];rfl
   have htk:(l.take (j+1)).map p=(l.take j).map p++[(c:Int)]:=by
    rw [List.take_add_one,hx,Option.toList_some,List.map_append,List.map_singleton,hc]
   have HA:Hid ((max m ((((l.take j).map p).count (c:Int):Int)+1))=(qb1 ((l.take (j+1)).map p):Nat)):=by
    show _=_;rw [htk,qhc,HJ.out.1];omega
   have HF:Hid (∀W,MapOf W w.heap.size n (insK ks c) (mapF (fun k=>(((l.take j).map p).count (k:Int):Int)) c ((((l.take j).map p).count (c:Int):Int)+1))→∃ks',MapOf W w.heap.size n ks' (fun k=>(((l.take (j+1)).map p).count (k:Int):Int))∧∀k:Nat,k ∉ ks'→((l.take (j+1)).map p).count (k:Int)=0):=fun W hW=>by
    have hcc:∀k:Nat,((l.take (j+1)).map p).count (k:Int)=((l.take j).map p).count (k:Int)+(if k=c then 1 else 0):=fun k=>by
     rw [htk,List.count_append,List.count_singleton];by_cases h9:k=c
     ·subst h9;simp
     ·have h8:¬(c:Int)=(k:Int):=by omega
      simp [h9,h8]
    refine ⟨_,hW.congr (fun k hk=>?_),fun k hk=>?_⟩
    ·show mapF _ c _ k=_
     unfold mapF;rw [hcc];by_cases h9:k=c
     ·subst h9;simp
     ·rw [if_neg h9,if_neg h9];simp
    ·rw [hcc]
     have h1:¬k=c:=fun e=>hk (mem_insK.2 (.inl e))
     have h2:k ∉ ks:=fun e=>hk (mem_insK.2 (.inr e))
     rw [if_neg h1,hz k h2]
   rw [e5];have y0:∀i u,#[I x.kind,I x.len,I x.frm,.int .u64 (x.init:Int),I x.queue,I x.ac.kind,I x.ac.task,.int .u32 (x.ac.mask:Int)][i]?=some u→(wr.alloc (.cells #[I x.kind,I x.len,I x.frm,.int .u64 (x.init:Int),I x.queue,I x.ac.kind,I x.ac.task,.int .u32 (x.ac.mask:Int)] 87)).cell? ⟨wr.heap.size,i,none⟩=some u:=fun i u hu=>by rw [qcr hXX];simpa using hu
   have Hhr:Hid (HJ=HJ):=rfl;clear hx e5 hr5 q0 q1 q2 q3 q4 q5 q6 q7 Hhr hz hxl;go_upto_region 5 with fail;generalize hcg:((l.take j).map p).count (c:Int)=cnt at *;have Hcg:Hid (((l.take j).map p).count (c:Int)=cnt):=hcg;have hbx:w.heap.size < wr.heap.size:=hM.block;have Hhbx:Hid (w.heap.size < wr.heap.size):=hbx;have hxs:wr.heap.size < (wr.alloc (.cells #[I x.kind,I x.len,I x.frm,.int .u64 (x.init:Int),I x.queue,I x.ac.kind,I x.ac.task,.int .u32 (x.ac.mask:Int)] 87)).heap.size:=by simp
   have HXS:Hid (wr.heap.size < (wr.alloc (.cells #[I x.kind,I x.len,I x.frm,.int .u64 (x.init:Int),I x.queue,I x.ac.kind,I x.ac.task,.int .u32 (x.ac.mask:Int)] 87)).heap.size):=hxs;clear hcg hM hbx hxs hc hXX bX;generalize wr.heap.size=X at *;generalize (wr.alloc (.cells #[I x.kind,I x.len,I x.frm,.int .u64 (x.init:Int),I x.queue,I x.ac.kind,I x.ac.task,.int .u32 (x.ac.mask:Int)] 87))=W0 at *;have y0_:=y0 0 _ rfl;have y1_:=y0 1 _ rfl;have y2_:=y0 2 _ rfl;have y3_:=y0 3 _ rfl;have y4_:=y0 4 _ rfl;have y5_:=y0 5 _ rfl;have y6_:=y0 6 _ rfl;have y7_:=y0 7 _ rfl;have c1:=HC.out W0 bW;have HY:Hid (∀i u,#[I x.kind,I x.len,I x.frm,.int .u64 (x.init:Int),I x.queue,I x.ac.kind,I x.ac.task,.int .u32 (x.ac.mask:Int)][i]?=some u→W0.cell? ⟨X,i,none⟩=some u):=y0;have HM:Hid (MapOf W0 w.heap.size n ks (fun k=>(((l.take j).map p).count (k:Int):Int))):=hM0;have HBW:Hid (qB w W0):=bW;have hm0:=HJ.out.1;have Hm0:Hid (m=(qb1 ((l.take j).map p):Nat)):=hm0;clear y0 hM0 bW hm0 HJ;go_wp2;refine c1.mono ?_;clear c1;rintro e2 w2 ⟨rfl,hb2⟩;have hM2:=HM.out.below hb2;go_upto_region 6 with (first
    | (refine qdh rfl (.tmp 16) (.tmp 19) 223 rfl Tryz.underlying223 w.heap.size n ks _ rfl hM2 c (by omega) rfl ?_;intro e3 he3;have he4:e3=(cnt:Int):=(he3.out.trans (by show (if c∈ks then (((l.take j).map p).count (c:Int):Int) else 0)=_;rw [Hcg.out];exact hval));subst he4;clear he3)
    | (refine qfq rfl (.tmp 16) (.tmp 19) (.tmp 21) 223 rfl Tryz.underlying223 w.heap.size n ks _ rfl hM2 (by omega) c hcn rfl ((cnt:Int)+1) (WalkArith.wf_i64 (by omega)) rfl ?_;intro w3 hM3 hg3;have b3:qB w w3:=((HBW.out.trans (hb2.mono HBW.out.size)).grown hg3 (HBW.out.trans (hb2.mono HBW.out.size)).size (fun k e=>(by cases e;exact Nat.le_refl _)));have HY3:Hid (∀i u,#[I x.kind,I x.len,I x.frm,.int .u64 (x.init:Int),I x.queue,I x.ac.kind,I x.ac.task,.int .u32 (x.ac.mask:Int)][i]?=some u→w3.cell? ⟨X,i,none⟩=some u):=(fun i u hu=>(World.cell?_of_block (hg3.block X (Nat.lt_of_lt_of_le HXS.out hb2.size) (by intro e;injection e with e1;exact absurd e1 (Nat.ne_of_gt Hhbx.out)))).trans ((hb2.cell (p:=⟨X,i,none⟩) HXS.out).trans (HY.out i u hu)))))
   clear y0_ y1_ y2_ y3_ y4_ y5_ y6_ y7_;have t0:=HY3.out 0 _ rfl;have t1:=HY3.out 1 _ rfl;have t2:=HY3.out 2 _ rfl;have t3:=HY3.out 3 _ rfl;have t4:=HY3.out 4 _ rfl;have t5:=HY3.out 5 _ rfl;have t6:=HY3.out 6 _ rfl;have t7:=HY3.out 7 _ rfl;have c3:=HC.out w3 b3;have HM3:Hid (MapOf w3 w.heap.size n (insK ks c) (mapF (fun k=>(((l.take j).map p).count (k:Int):Int)) c ((cnt:Int)+1))∧qB w w3):=⟨hM3,b3⟩;clear hM2 hg3 b3 hb2;have hM3:=HM3.out.1;go_wp2;refine c3.mono ?_;clear c3;rintro e4 w4 ⟨rfl,hb4⟩;have hM4:=hM3.below hb4;go_wp2_with (first
    | (refine qdh rfl (.tmp 23) (.tmp 26) 223 rfl Tryz.underlying223 w.heap.size n (insK ks c) _ rfl hM4 c (by omega) rfl ?_;intro e5 he5;have he6:e5=(cnt:Int)+1:=(he5.out.trans (by rw [if_pos (mem_insK.2 (.inl rfl))];unfold mapF;rw [if_pos rfl]));subst he6;clear he5))
   go_roundw
   case rel=>exact ⟨j+1,_,by omega,by go_num,rfl,(by rw [←HA.out];split <;> omega),HF.out w4 hM4,HM3.out.2.trans (hb4.mono HM3.out.2.size)⟩
   case measure=>simp [intOf];omega
  ·obtain rfl:j=s.n:=by omega
   have hlt':¬((s.n:Nat):Int) < (s.n:Nat):=by omega
   have HE:Hid (m=R):=by
    show _=_;rw [HR.out,HJ.out.1,List.take_of_length_le (by rw [HS.out];exact Nat.le_refl _)]
   have HB:Hid (qB w wr):=HJ.out.2.2;clear HR HJ;go_wp2;go_ret;exact ⟨qh1 HE.out,HB.out⟩
end Go.Proofs.YtijgopkhdjaolabGreat
