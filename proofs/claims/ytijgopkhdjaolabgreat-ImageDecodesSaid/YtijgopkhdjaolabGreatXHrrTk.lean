import Derived.Test.YtijgopkhdjaolabGreatXHy1
import Derived.Test.YtijgopkhdjaolabGreatTgz
import Derived.Deep.RegionHeldLaw
set_option linter.unusedSimpArgs false
set_option linter.unusedVariables false
set_option maxHeartbeats 16000000
set_option maxRecDepth 100000
namespace Go.Proofs.YtijgopkhdjaolabGreat
open Go.RowKit Go.Shelf Go.Sort
open Go.Proofs.YtijgopkhdjaolabGreat.Ob (leB leV qa8 qag crc Rd RdAll qa7 Rdr)
theorem Rst.keep {w w':World} {lo r:Nat} {l:List UInt8} (h:Rst w lo r l) (hb:∀b,b < lo→w'.heap[b]?=w.heap[b]?) (hs:w.heap.size≤w'.heap.size):Rst w' lo r l:=by
 obtain ⟨⟨base,a,cap,q⟩,h2,h3⟩:=h;refine ⟨⟨base,a,cap,⟨(hb r h2).trans q.hheap,q.hbase,⟨q.hrd.hlen,q.hrd.hle,q.hrd.hsmall,q.hrd.hnil,fun hp=>?_⟩,q.hlt⟩⟩,h2,Nat.le_trans h3 hs⟩;obtain ⟨b,off,e,hb1,hc⟩:=q.hrd.hcell hp;have hbr:=q.hlt b off e hp;refine ⟨b,off,e,Nat.lt_of_lt_of_le hb1 hs,fun i x hx=>?_⟩;rw [World.cell?_of_block (hb b (by omega))];exact hc i x hx
theorem qaw {w w':World} {b E k n r:Nat} {v:Value} {xs:List Value} (h:w.ownsRow b E k v n xs) (hr:r < b) (hg:w.grownBy w' (some r)):w'.ownsRow b E k v n xs:=h.kept hg (by
 cases hv:v.ownBlock with
 | none=>exact .inl rfl
 | some g=>exact .inr (by have:=(h.lt g hv).1;intro e;cases e;omega))
theorem qn0 {w w':World} {lo r:Nat} {x:TkR} {i:Nat} {u:Value} (h:tkO9 w lo x i u) (hr:r < lo) (hg:w.grownBy w' (some r)):tkO9 w' lo x i u:=by
 unfold tkO9 at h ⊢;split at h <;> first | exact h | exact qaw h hr hg
theorem qn1 {w w':World} {lo r:Nat} {x:IsR} {i:Nat} {u:Value} (h:isO9 w lo x i u) (hr:r < lo) (hg:w.grownBy w' (some r)):isO9 w' lo x i u:=by
 unfold isO9 at h ⊢;split at h <;> first | exact h | exact qaw h hr hg
def conP {α:Type} (xs:List α) (m:Except Nat (List α×List UInt8)):Except Nat (List α×List UInt8):=match m with
 | .ok (ys,l)=>.ok (xs++ys,l)
 | .error c=>.error c
theorem qda {α:Type} (m:Except Nat (List α×List UInt8)):conP [] m=m:=by
 cases m with
 | error c=>rfl
 | ok q=>rfl
theorem qds {α:Type} {p:Ps α} {m c:Nat} {l:List UInt8} (xs:List α) (h:p l=.error c):conP xs (qa4 p (m+1) l)=.error c:=by rw [qa4,qaj h];rfl
theorem qdt {α:Type} {p:Ps α} {m:Nat} {x:α} {l l':List UInt8} (xs:List α) (h:p l=.ok (x,l')):conP xs (qa4 p (m+1) l)=conP (xs++[x]) (qa4 p m l'):=by
 rw [qa4,qa9 h];unfold andP;cases qa4 p m l' with
 | error c=>rfl
 | ok q=>obtain ⟨ys,l2⟩:=q;simp [conP,retP]
def qlk (lo:Nat) (W:World) (xs:List Int) (u:Value):Prop:=∃(sa:Option Addr) (sc:Nat) (cs:List Value),u=.slice sa xs.length sc∧W.ownsRow lo 3 1 (.slice sa xs.length sc) xs.length cs∧RwX 1 intP xs cs
theorem qhn : (Tryz.prog.info? 3).map (fun i=>(i.zero,i.size,i.bytes))=some (some (I 0:Value),1,8):=by kernel_rfl
theorem qk7 {w:World} {lo r:Nat} {l:List UInt8} (n:Nat) (hn:n≤65535) (h:Rst w lo r l) (f:Nat) (bnd caps:Array Value) (eg:∀args W,(callFunc f args).run Tryz.prog W=.ok (.enter f args) W)
  (hf:∀(W:World) (l':List UInt8) (j:Nat),w.grownBy W (some r)→Rst W lo r l'→j < n→Calls Tryz.prog f (bnd++#[I j]++caps) W fun e w'=>RP W lo r VI (p1 l') e w') :
  Calls Tryz.prog 167 #[I n,.func (.func f) bnd caps] w fun e w'=>RP w lo r (qlk lo) (qa4 p1 n l) e w':=by
 obtain ⟨im,him,hm0,hm1,hm2⟩:=info_parts qhn;have HF:Hid (∀(W:World) (l':List UInt8) (j:Nat),w.grownBy W (some r)→Rst W lo r l'→j < n→Calls Tryz.prog f (bnd++#[I j]++caps) W fun e w'=>RP W lo r VI (p1 l') e w'):=hf;have hlo:lo≤w.heap.size:=h.le;have hrl:r < lo:=h.lt;have HI:Hid (∃(xs:List Int) (l':List UInt8) (cs:List Value),xs.length=0∧qa4 p1 n l=conP xs (qa4 p1 (n - 0) l')∧Rst w lo r l'∧w.grownBy w (some r)∧w.ownsRow w.heap.size 3 1 qZ 0 cs∧RwX 1 intP xs cs):=⟨[],l,[],rfl,(qda _).symm,h,qcf _ _,World.ownsRow_nil _ _ _ _,RwX.nil _ _⟩;clear hf h;go_enter Tryz.func167,Tryz.ntmps167
 go_wp2;go_loopw [5,6,8] (fun v5 _ v8 wr=>∃(j:Nat) (va:Option Addr) (vc:Nat),j≤n∧v8=I j∧v5=.slice va j vc∧Hid (∃(xs:List Int) (l':List UInt8) (cs:List Value),xs.length=j∧qa4 p1 n l=conP xs (qa4 p1 (n - j) l')∧Rst wr lo r l'∧w.grownBy wr (some r)∧wr.ownsRow w.heap.size 3 1 v5 j cs∧RwX 1 intP xs cs)) (fun _ _ v8 _=>n - (intOf v8).toNat)
 case atStart=>exact ⟨0,none,0,by omega,rfl,rfl,HI.out⟩
 case round=>
  clear HI;obtain ⟨j,va,vc,hj,rfl,rfl,HJ⟩:=hrel;obtain ⟨xs,l1,cs,g1,g2,g3,g4,g5,g6⟩:=HJ.out;by_cases hlt:j < n
  ·have hlt':(j:Int) < n:=by omega
   have cx:=HF.out wr l1 j g4 g3 hlt;have H1:Hid (xs.length=j∧qa4 p1 n l=conP xs (qa4 p1 (n - (j+1)+1) l1)∧w.grownBy wr (some r)∧wr.ownsRow w.heap.size 3 1 (.slice va j vc) j cs∧RwX 1 intP xs cs):=⟨g1,by rw [g2,show n - j=n - (j+1)+1 by omega],g4,g5,g6⟩;clear HJ g1 g2 g3 g4 g5 g6;go_wp2;refine cx.mono ?_;clear cx;intro e7 w7 h7;cases hp:p1 l1 with
   | error c=>
    rw [hp] at h7;obtain ⟨rfl,hg7⟩:=qar h7;have e1:qa4 p1 n l=.error c:=H1.out.2.1.trans (qds xs hp);have e2:=qa1 H1.out.2.2.1 hg7;have e9:RP w lo r (qlk lo) (qa4 p1 n l) (gup c) w7:=by rw [e1];exact ⟨rfl,e2⟩
    exact ⟨rfl,e9⟩
   | ok q=>
    obtain ⟨x,l2⟩:=q;rw [hp] at h7;obtain ⟨u,rfl,hv,hr7,hg7⟩:=qaq h7;have hv1:u=I x:=hv;subst hv1;have e1:=H1.out.2.1.trans (qdt xs hp);have o7:=qaw H1.out.2.2.2.1 (by omega) hg7;have hO:=o7.alloc (.cells #[I x] 3);have hw7:w.heap.size≤w7.heap.size:=Nat.le_trans H1.out.2.2.1.size hg7.size;have hsz:w.heap.size≤(w7.alloc (.cells #[I x] 3)).heap.size:=Nat.le_trans hw7 (qa0 w7 _).size;have hnew:=qaz w7 #[I x] 3;have hone:∀u∈(#[I x]:Array Value).toList,u.oneCell'=true:=by
     intro u hu;simp only [List.mem_cons,List.not_mem_nil,or_false] at hu;rcases hu with rfl <;> rfl
    have HE:Hid (xs.length=j∧qa4 p1 n l=conP (xs++[x]) (qa4 p1 (n - (j+1)) l2)∧Rst w7 lo r l2∧w.grownBy w7 (some r)∧RwX 1 intP xs cs∧w7.ownsRow w.heap.size 3 1 (.slice va j vc) j cs):=⟨H1.out.1,e1,hr7,qa1 H1.out.2.2.1 hg7,H1.out.2.2.2.2,o7⟩;clear H1 h7 hp hr7 hg7 e1 o7 HF;go_wp2_with (first
     | (at_builtin;refine wpList_append_own _ rfl (.tmp 11) (.tmp 15) 62 rfl w.heap.size 3 im _ 1 8 Tryz.underlying62 him hm0 hm1 hm2 rfl (by decide) _ _ _ rfl hO ⟨w7.heap.size,0,none⟩ 1 1 (#[I x]:Array Value).toList rfl rfl hnew hone (by unfold maxLen;omega) (by omega) hsz ?_;intro v6 w6 ho6 hg6 _;obtain ⟨a6,c6,rfl⟩:=qam ho6))
    have H9:Hid (∃(xs:List Int) (l':List UInt8) (cs:List Value),xs.length=j+1∧qa4 p1 n l=conP xs (qa4 p1 (n - (j+1)) l')∧Rst w6 lo r l'∧w.grownBy w6 (some r)∧w6.ownsRow w.heap.size 3 1 (.slice a6 (j+1) c6) (j+1) cs∧RwX 1 intP xs cs):=by
     obtain ⟨f1,f2,f3,f4,f5,f6⟩:=HE.out;have hoth:∀b,b < w.heap.size→w6.heap[b]?=w7.heap[b]?:=fun b hb=>by
      rw [hg6.block b (by omega) (fun e=>by have:=(hO.lt b e.symm).1;omega)];exact heap_alloc_old w7 _ (by omega)
     have hs67:w7.heap.size≤w6.heap.size:=Nat.le_trans (qa0 w7 _).size hg6.size;refine ⟨xs++[x],l2,cs++(#[I x]:Array Value).toList,by simp [f1],f2,f3.keep (fun b hb=>hoth b (by omega)) hs67,⟨?_,?_,?_,by omega,fun b hb hne=>(hoth b hb).trans (f4.block b hb hne)⟩,ho6,?_⟩
     ·exact (hg6.os.trans (show _=w7.os from rfl)).trans f4.os
     ·exact (hg6.tape.trans (show _=w7.tape from rfl)).trans f4.tape
     ·exact (hg6.output.trans (show _=w7.output from rfl)).trans f4.output
     ·refine RwX.snoc f5 x _ rfl (fun i hi=>?_)
      match i,hi with
      | 0,_=>exact ⟨_,rfl,rfl⟩
    clear HE ho6 hg6 hO hnew hone hsz hw7;go_wp2;go_roundw
    case rel=>exact ⟨j+1,a6,c6,by omega,by go_num,rfl,H9.out⟩
    case measure=>simp [intOf];omega
  ·obtain rfl:j=n:=by omega
   have hge:¬((j:Int) < j):=by omega
   have HE:Hid (RP w lo r (qlk lo) (qa4 p1 j l) (.returned (.slice va j vc)) wr):=by
    have e1:qa4 p1 j l=.ok (xs,l1):=by rw [g2,Nat.sub_self];simp [qa4,conP,retP]
    rw [e1];refine ⟨_,rfl,⟨va,vc,cs,by rw [g1],?_,g6⟩,g3,g4⟩;rw [g1];exact qbk g5 hlo
   clear HJ HF g1 g2 g3 g4 g5 g6;go_wp2;go_ret;exact HE.out
end Go.Proofs.YtijgopkhdjaolabGreat
namespace Go.Proofs.YtijgopkhdjaolabGreat
open Go.RowKit Go.Shelf Go.Sort
open Go.Proofs.YtijgopkhdjaolabGreat.Ob (leB leV qa8 qag crc Rd RdAll qa7 rd_drop)
def dRep {α:Type} (d:DS→α×DS):Nat→DS→List α×DS
 | 0,s=>([],s)
 | n+1,s=>if s.2=0 then ((d s).1 :: (dRep d n (d s).2).1,(dRep d n (d s).2).2) else ([],s)
theorem qdf {α:Type} {d:DS→α×DS} {n:Nat} {s:DS} (h:s.2=0):dRep d (n+1) s=((d s).1 :: (dRep d n (d s).2).1,(dRep d n (d s).2).2):=by
 rw [dRep,if_pos h]
theorem qcs {α:Type} {d:DS→α×DS} {n:Nat} {s:DS} (h:s.2≠0):dRep d n s=([],s):=by
 cases n with
 | zero=>rfl
 | succ n=>rw [dRep,if_neg h]
theorem dSt.keep {w w':World} {r:Nat} {s:DS} (h:dSt w r s) (hb:∀b,b≤r→w'.heap[b]?=w.heap[b]?) (hs:w.heap.size≤w'.heap.size):dSt w' r s:=by
 obtain ⟨h0,a,n,c,h1,h2,h3⟩:=h;refine ⟨h0,a,n,c,(hb r (Nat.le_refl _)).trans h1,⟨h2.hlen,h2.hle,h2.hsmall,h2.hnil,fun hp=>?_⟩,h3⟩;obtain ⟨b,off,e,hbb,hc⟩:=h2.hcell hp;have:=h3 b off e;refine ⟨b,off,e,by omega,fun i x hx=>?_⟩;rw [World.cell?_of_block (w:=w) (hb b (by omega))];exact hc i x hx
theorem dapp {w0 W W':World} {r T k n:Nat} {v:Value} {xs:List Value} {o:Obj} {s:DS} (hO:(W.alloc o).ownsRow w0.heap.size T k v n xs) (hg:(W.alloc o).grownBy W' v.ownBlock) (hF:w0.grownBy W (some r)) (hd:dSt W r s) (hr:r < w0.heap.size):w0.grownBy W' (some r)∧dSt W' r s:=by
 have hs:=hF.size;have hs1:=(qa0 W o).size;have hoth:∀b,b < w0.heap.size→W'.heap[b]?=W.heap[b]?:=fun b hb=>by
  rw [hg.block b (by omega) (fun e=>by have:=(hO.lt b e.symm).1;omega)];exact (qa0 W o).block b (by omega)
 exact ⟨⟨(hg.os.trans (show _=W.os from rfl)).trans hF.os,(hg.tape.trans (show _=W.tape from rfl)).trans hF.tape,(hg.output.trans (show _=W.output from rfl)).trans hF.output,Nat.le_trans hs (Nat.le_trans hs1 hg.size),fun b hb hne=>(hoth b hb).trans (hF.block b hb hne)⟩,hd.keep (fun b hb=>hoth b (by omega)) (Nat.le_trans hs1 hg.size)⟩
def qb0 (s:DS):Int×DS:=(((dOne s).1:Int),(dOne s).2)
def qcd (s:DS):List Int×DS:=dRep qb0 (dOne s).1 (dOne s).2
theorem qi7 (w:World) (r:Nat) (s:DS) (h:dSt w r s):Calls Tryz.prog 67 #[.pointer (some ⟨r,0,none⟩)] w fun e w'=>∃u,e=.returned u∧qbm w' w.heap.size (qcd s).1 u∧dSt w' r (qcd s).2∧w.grownBy w' (some r):=by
 obtain ⟨im,him,hm0,hm1,hm2⟩:=info_parts qhn;have hT:=qbh w r s h;have hrl:=h.lt;have hn:=qbj 1 s (by omega);unfold qcd;change (dOne s).1 < 256 ^ 1 at hn;generalize dOne s=q at *;obtain ⟨n,s1⟩:=q;dsimp only at *;clear h;go_enter Tryz.func67,Tryz.ntmps67
 go_wp2_with (first | (go_at_call 21;refine hT.mono ?_;clear hT;rintro e w2 ⟨rfl,hd⟩;have HD:Hid (dSt w2 r s1∧w.grownBy w2 (some r)):=hd;clear hd));go_loopw [4,5] (fun v4 v5 wr=>∃(k:Nat) (xs:List Int) (s:DS) (va:Option Addr) (vc:Nat),k≤n∧v5=I k∧v4=.slice va k vc∧Hid (xs.length=k∧dRep qb0 n s1=(xs++(dRep qb0 (n - k) s).1,(dRep qb0 (n - k) s).2)∧dSt wr r s∧w.grownBy wr (some r)∧wr.ownsRow w.heap.size 3 1 (.slice va k vc) k (xs.map fun x=>I x))) (fun _ v5 _=>n - (intOf v5).toNat)
 case atStart=>exact ⟨0,[],s1,none,0,by omega,rfl,rfl,rfl,by simp,HD.out.1,HD.out.2,World.ownsRow_nil _ _ _ _⟩
 case round=>
  clear HD;obtain ⟨k,xs,t,va,vc,hk,rfl,rfl,HJ⟩:=hrel;obtain ⟨-,a,nn,c,p1,-,-⟩:=HJ.out.2.2.1;have c1:wr.cell? ⟨r,1,none⟩=some (I t.2):=by rw [qcr p1];rfl
  clear p1;by_cases hlt:k < n
  ·have hltI:(k:Int) < n:=by omega
   by_cases he:t.2=0
   ·rw [he] at c1
    have hT:=qbh wr r t HJ.out.2.2.1;have hne:=qdf (d:=qb0) (n:=n - (k+1)) he;rw [show n - (k+1)+1=n - k by omega] at hne;have HN:Hid (dRep qb0 (n - k) t=((qb0 t).1 :: (dRep qb0 (n - (k+1)) (qb0 t).2).1,(dRep qb0 (n - (k+1)) (qb0 t).2).2)):=hne;clear hne;have HQ:Hid ((qb0 t).1=((dOne t).1:Int)∧(qb0 t).2=(dOne t).2):=⟨rfl,rfl⟩;generalize dOne t=q at *;obtain ⟨x,t2⟩:=q;dsimp only at *;go_upto_region 5 with (first
     | (go_at_call 21;refine hT.mono ?_;clear hT;rintro e w5 ⟨rfl,hd⟩;have HD:Hid (dSt w5 r t2∧wr.grownBy w5 (some r)):=hd;clear hd;have o5:=qaw HJ.out.2.2.2.2 hrl HD.out.2;have hO:=o5.alloc (.cells #[I x] 3);have hw5:w.heap.size≤w5.heap.size:=Nat.le_trans HJ.out.2.2.2.1.size HD.out.2.size;have hsz:w.heap.size≤(w5.alloc (.cells #[I x] 3)).heap.size:=Nat.le_trans hw5 (qa0 w5 _).size;have hnew:=qaz w5 #[I x] 3)
     | (at_builtin;refine wpList_append_own _ rfl (.tmp 20) (.tmp 23) 62 rfl w.heap.size 3 im (I 0) 1 8 Tryz.underlying62 him hm0 hm1 hm2 rfl (by decide) _ _ _ rfl hO ⟨w5.heap.size,0,none⟩ 1 1 (#[I x]:Array Value).toList rfl rfl hnew (by intro u hu;simp at hu;subst hu;rfl) (by unfold maxLen;omega) (by omega) hsz ?_;intro v6 w6 ho6 hg6 _;obtain ⟨a6,c6,rfl⟩:=qam ho6))
    have hA:=dapp hO hg6 (qa1 HJ.out.2.2.2.1 HD.out.2) HD.out.1 hrl;have H9:Hid ((xs++[(x:Int)]).length=k+1∧dRep qb0 n s1=((xs++[(x:Int)])++(dRep qb0 (n - (k+1)) t2).1,(dRep qb0 (n - (k+1)) t2).2)∧dSt w6 r t2∧w.grownBy w6 (some r)∧w6.ownsRow w.heap.size 3 1 (.slice a6 (k+1) c6) (k+1) ((xs++[(x:Int)]).map fun x=>I x)):=by
     refine ⟨by simp [HJ.out.1],?_,hA.2,hA.1,by rw [List.map_append];exact ho6⟩;have h1:=HJ.out.2.1;rw [HN.out,HQ.out.1,HQ.out.2] at h1;rw [h1];simp
    clear hA HD hO hg6 ho6 HJ HN HQ o5 hnew c1;go_wp2;go_roundw
    case rel=>exact ⟨k+1,_,t2,a6,c6,by omega,by go_num,rfl,H9.out⟩
    case measure=>simp [intOf];omega
   ·have heI:¬((t.2:Int)=0):=by omega
    have H9:Hid (qbm wr w.heap.size (dRep qb0 n s1).1 (.slice va k vc)∧dSt wr r (dRep qb0 n s1).2∧w.grownBy wr (some r)):=by
     obtain ⟨f1,f2,f3,f4,f5⟩:=HJ.out;rw [f2,qcs he,List.append_nil];refine ⟨?_,f3,f4⟩;unfold qbm;rw [f1];exact f5
    clear HJ;go_wp2;go_ret;exact ⟨_,rfl,H9.out⟩
  ·obtain rfl:k=n:=by omega
   have hge:¬((k:Int) < k):=by omega
   have H9:Hid (qbm wr w.heap.size (dRep qb0 k s1).1 (.slice va k vc)∧dSt wr r (dRep qb0 k s1).2∧w.grownBy wr (some r)):=by
    obtain ⟨f1,f2,f3,f4,f5⟩:=HJ.out;rw [f2,Nat.sub_self];refine ⟨?_,f3,f4⟩;unfold qbm;simp only [dRep,List.append_nil];rw [f1];exact f5
   clear HJ;go_wp2;go_ret;exact ⟨_,rfl,H9.out⟩
end Go.Proofs.YtijgopkhdjaolabGreat
namespace Go.Proofs.YtijgopkhdjaolabGreat
open Go.RowKit Go.Shelf Go.Sort
open Go.Proofs.YtijgopkhdjaolabGreat.Ob (leB leV qa8 qag crc Rd RdAll qa7 Rdr)
theorem qae {a W:World} {r Y i:Nat} {v:Value} (h:a.grownBy W (some r)) (hY:a.heap.size≤Y):a.grownBy (W.setCell ⟨Y,i,none⟩ v) (some r):=
 ⟨h.os,h.tape,h.output,by simpa using h.size,fun b hb hne=>(heap_setCell_other W ⟨Y,i,none⟩ b v (by show b≠Y;omega)).trans (h.block b hb hne)⟩
theorem Rst.setY {W:World} {lo r Y i:Nat} {l:List UInt8} {v:Value} (h:Rst W lo r l) (hY:lo≤Y):Rst (W.setCell ⟨Y,i,none⟩ v) lo r l:=
 h.keep (fun b hb=>heap_setCell_other W ⟨Y,i,none⟩ b v (by show b≠Y;omega)) (by simp)
theorem qb8 {a W:World} {r b:Nat} {o:Obj} (h:a.grownBy W (some r)) (hb:a.heap[b]?=some o) (hne:b≠r):W.heap[b]?=some o:=(h.block b (qa6 hb) (fun e=>hne (Option.some.inj e))).trans hb
theorem qao {W:World} {b e k n Y i T:Nat} {u x:Value} {xs:List Value} {cs:Array Value} (h:W.ownsRow b e k u n xs) (hY:W.heap[Y]?=some (.cells cs T)) (he:T≠e):(W.setCell ⟨Y,i,none⟩ x).ownsRow b e k u n xs:=by
 refine ⟨h.1,?_⟩;rcases h.2 with q | ⟨g,cap,cur,q1,q2,q3,q4⟩
 ·exact .inl q
 ·refine .inr ⟨g,cap,cur,q1,q2,?_,q4⟩
  rw [heap_setCell_other W ⟨Y,i,none⟩ g x (by rintro rfl;rw [hY] at q3;cases q3;exact he rfl)];exact q3
theorem qou {xs:List Int} {cs:List Value} (h:RwX 1 intP xs cs):cs=xs.map (fun x=>I x):=by
 apply List.ext_getElem?;intro i;rw [List.getElem?_map];by_cases hi:i < xs.length
 ·obtain ⟨u,hu,hP⟩:=h.at' i xs[i] (List.getElem?_eq_getElem hi) 0 (by omega)
  rw [Nat.mul_one,Nat.add_zero] at hu;rw [hu,List.getElem?_eq_getElem hi];exact congrArg some hP
 ·rw [List.getElem?_eq_none (by have:=h.n;omega),List.getElem?_eq_none (by omega)]
  rfl
def VAc (_:World) (x:AcR) (u:Value):Prop:=u=.agg #[I x.kind,I x.task,.int .u32 (x.mask:Int)]
def VL (lo:Nat) (W:World) (xs:List Int) (u:Value):Prop:=∃(sa:Option Addr) (sc:Nat),u=.slice sa xs.length sc∧qbm W lo xs (.slice sa xs.length sc)
theorem qn2 {fn:Func} {m:Nat} (hf:fn.results=#[.cell m 80]) (tmps:Array Value) (b:Nat) (w:World) (z0 z1 z2:Value) (h2:tmps[m]?=some (.pointer (some ⟨b,0,none⟩))) (hk:w.heap[b]?=some (.cells #[z0,z1,z2] 80 (0,0))) (h1:z0.oneCell'=true∧z1.oneCell'=true∧z2.oneCell'=true):(results fn tmps).run Tryz.prog w=.ok (.agg #[z0,z1,z2]) w:=by
 have a1:=fun i=>cell_of_row w b i _ _ (0,0) hk
 have y0:=a1 0;have y1:=a1 1;have y2:=a1 2;simp at y0 y1 y2;simp [results,hf,go_sem,h2,y0,y1,y2]
theorem qpm {w:World} {lo r:Nat} {l0:List UInt8} (t0:Rst w lo r l0):Calls Tryz.prog 115 #[rdP r] w fun e w'=>RP w lo r VAc (pAc l0) e w':=by
 have hlo:=t0.le;have hrl:=t0.lt;have hc0:=qcq w r;have hb1:=qa0 (w.alloc (rdO r)) (.cells #[I 0,I 0,.int .u32 0] 80);have hY0:=heap_alloc_new (w.alloc (rdO r)) (.cells #[I 0,I 0,.int .u32 0] 80);have HX:Hid (∀W,((w.alloc (rdO r)).alloc (.cells #[I 0,I 0,.int .u32 0] 80)).grownBy W (some r)→W.cell? ⟨w.heap.size,0,none⟩=some (.pointer (some ⟨r,0,none⟩))):=fun W hW=>hW.cell (by rw [qa5 hb1 _ _ (by simp)];exact hc0) (by show some w.heap.size≠some r;intro e;cases e;omega)
 have HY:Hid (∀W,((w.alloc (rdO r)).alloc (.cells #[I 0,I 0,.int .u32 0] 80)).grownBy W (some r)→W.heap[w.heap.size+1]?=some (.cells #[I 0,I 0,.int .u32 0] 80)):=fun W hW=>qb8 hW (by have:=hY0;rwa [show (w.alloc (rdO r)).heap.size=w.heap.size+1 by simp] at this) (by omega)
 have s0:=(t0.al (rdO r)).al (.cells #[I 0,I 0,.int .u32 0] 80);have HB:Hid (w.grownBy ((w.alloc (rdO r)).alloc (.cells #[I 0,I 0,.int .u32 0] 80)) (some r)):=qah ((qa0 w _).trans (hb1.mono (qa0 w _).size));have E0:Hid (pAc l0=pAc l0):=rfl;clear hc0 hb1 hY0 t0;go_enter Tryz.func115,Tryz.ntmps115
 go_upto_region 1 with fail;generalize (w.alloc (rdO r)).alloc (.cells #[I 0,I 0,.int .u32 0] 80)=w1 at *;have G0:=qah (r:=some r) (Below.refl w1.heap.size w1).drew;have HC:=HX.out w1.drew G0;refine wp_region_held_drew (S:=fun W=>W.cell? ⟨w.heap.size,0,none⟩=some (.pointer (some ⟨r,0,none⟩))) (by kernel_rfl) HC (fun hHeld=>?_);clear HC;change wpAnyH _ _ _ _ _ _ #[false,false,false,false,false,false,false,false] _ _;try simp only [qN]
 refine qTH 0 (rdP r) rfl hHeld ?_;try simp only [qN]
 refine qTH 2 (rdP r) rfl hHeld ?_;try simp only [qN]
 refine qTH 4 (rdP r) rfl hHeld ?_;try simp only [qN]
 clear hHeld;have t0:=s0.below (Below.refl w1.heap.size w1).drew;clear s0;generalize w1.drew=W0 at *;refine qR1 (i:=1) rfl (fun K hK=>?_);go_simp;refine (qbd t0).mono ?_;intro e W1 hR;rcases hp:p1 l0 with c | ⟨k,l1⟩
 ·rw [hp] at hR
  obtain ⟨rfl,hg⟩:=qar hR;have e9:RP w lo r VAc (pAc l0) (gup c) W1:=by
   rw [E0.out];unfold pAc;rw [qaj hp];exact ⟨rfl,qa1 HB.out (qa1 G0 hg)⟩
  exact ⟨rfl,e9⟩
 rw [hp] at hR;obtain ⟨u1,rfl,hv,t1,g1⟩:=qaq hR;have q:u1=I k:=hv;subst q;have GG:=qa1 G0 g1;have EE:Hid (pAc l0=(andP p1 fun t=>andP (pn 4) fun m=>retP ⟨k,t,m⟩) l1):=by
  show _=_;rw [E0.out];unfold pAc;rw [qa9 hp]
 skip;refine hK.out _ _ (HX.out W1 GG) (fun hSS=>?_);clear hSS hK K hR hp E0 G0 t0;have G0:=GG;have E0:=EE;clear GG EE g1;try simp only [qN]
 refine qR1 (i:=3) rfl (fun K hK=>?_);go_simp;refine (qbd t1).mono ?_;intro e W2 hR;rcases hp:p1 l1 with c | ⟨t,l2⟩
 ·rw [hp] at hR
  obtain ⟨rfl,hg⟩:=qar hR;have e9:RP w lo r VAc (pAc l0) (gup c) W2:=by
   rw [E0.out];skip;rw [qaj hp];exact ⟨rfl,qa1 HB.out (qa1 G0 hg)⟩
  exact ⟨rfl,e9⟩
 rw [hp] at hR;obtain ⟨u2,rfl,hv,t2,g2⟩:=qaq hR;have q:u2=I t:=hv;subst q;have GG:=qa1 G0 g2;have EE:Hid (pAc l0=(andP (pn 4) fun m=>retP ⟨k,t,m⟩) l2):=by
  show _=_;rw [E0.out];skip;rw [qa9 hp]
 skip;refine hK.out _ _ (HX.out W2 GG) (fun hSS=>?_);clear hSS hK K hR hp E0 G0 t1;have G0:=GG;have E0:=EE;clear GG EE g2;try simp only [qN]
 refine qR1 (i:=5) rfl (fun K hK=>?_);go_simp;refine (qe4 t2).mono ?_;intro e W3 hR;rcases hp:pn 4 l2 with c | ⟨m,l3⟩
 ·rw [hp] at hR
  obtain ⟨rfl,hg⟩:=qar hR;have e9:RP w lo r VAc (pAc l0) (gup c) W3:=by
   rw [E0.out];skip;rw [qaj hp];exact ⟨rfl,qa1 HB.out (qa1 G0 hg)⟩
  exact ⟨rfl,e9⟩
 rw [hp] at hR;obtain ⟨u3,rfl,hv,t3,g3⟩:=qaq hR;have q:u3=.int .u32 (m:Int):=hv;subst q;have GG:=qa1 G0 g3;have EE:Hid (pAc l0=(retP ⟨k,t,m⟩) l3):=by
  show _=_;rw [E0.out];skip;rw [qa9 hp]
 skip;refine hK.out _ _ (HX.out W3 GG) (fun hSS=>?_);clear hSS hK K hR hp E0 G0 t2;have G0:=GG;have E0:=EE;clear GG EE g3;try simp only [qN]
 refine wpAnyH_take (i:=6) (v:=.agg #[I k,I t,.int .u32 (m:Int)]) rfl (by kernel_rfl) (by kernel_rfl) (by kernel_rfl) (fun _ _ _ h=>h) (Or.inl ⟨by rfl,?_⟩) (HX.out W3 G0) ?_
 ·intro w' hSw
  try dsimp only at hSw
  go_simp
 try simp only [qN]
 have hY:=HY.out W3 G0;have cY0:(W3).cell? ⟨w.heap.size+1,0,none⟩=some (I 0):=by rw [qcr hY];rfl
 have fY0:(W3).frozen? ⟨w.heap.size+1,0,none⟩=false:=frozen_of_row _ _ _ _ _ hY;have hY0:=heap_setCell_same (W3) (w.heap.size+1) 0 _ _ (I k) hY;have cY1:((W3).setCell ⟨w.heap.size+1,0,none⟩ (I k)).cell? ⟨w.heap.size+1,1,none⟩=some (I 0):=by rw [qcr hY0];rfl
 have fY1:((W3).setCell ⟨w.heap.size+1,0,none⟩ (I k)).frozen? ⟨w.heap.size+1,1,none⟩=false:=frozen_of_row _ _ _ _ _ hY0;have hY1:=heap_setCell_same ((W3).setCell ⟨w.heap.size+1,0,none⟩ (I k)) (w.heap.size+1) 1 _ _ (I t) hY0;have cY2:(qS2 W3 (w.heap.size+1) (I k) (I t)).cell? ⟨w.heap.size+1,2,none⟩=some (.int .u32 0):=by rw [qcr hY1];rfl
 have fY2:(qS2 W3 (w.heap.size+1) (I k) (I t)).frozen? ⟨w.heap.size+1,2,none⟩=false:=frozen_of_row _ _ _ _ _ hY1;have hY2:=heap_setCell_same (qS2 W3 (w.heap.size+1) (I k) (I t)) (w.heap.size+1) 2 _ _ (.int .u32 (m:Int)) hY1;refine qR1 (i:=7) rfl (fun K hK=>?_);go_simp;have hSf:(qS3 W3 (w.heap.size+1) (I k) (I t) (.int .u32 (m:Int))).cell? ⟨w.heap.size,0,none⟩=some (.pointer (some ⟨r,0,none⟩)):=by
  have hz:=HX.out W3 G0;repeat rw [World.cell?_setCell_far _ _ _ _ (by show w.heap.size+1≠w.heap.size;omega)]
  exact hz
 refine hK.out _ _ hSf (fun hSS=>?_);clear hSS hK K;try simp only [qN]
 refine wpAnyH_done (by kernel_rfl) ?_ _;have hYL:(qS3 W3 (w.heap.size+1) (I k) (I t) (.int .u32 (m:Int))).heap[w.heap.size+1]?=some (.cells #[I k,I t,.int .u32 (m:Int)] 80):=hY2;have hEnd:RP w lo r VAc (pAc l0) (.returned (.agg #[I k,I t,.int .u32 (m:Int)])) (qS3 W3 (w.heap.size+1) (I k) (I t) (.int .u32 (m:Int))):=by
  rw [E0.out];skip;refine ⟨_,rfl,rfl,(((t3.setY (by omega)).setY (by omega)).setY (by omega)),(qae (qae (qae (qa1 HB.out G0) (by omega)) (by omega)) (by omega))⟩
 clear E0;go_wp2;refine bodyPost_ret (qn2 Tryz.results115 _ (w.heap.size+1) _ _ _ _ rfl hYL ⟨rfl,rfl,rfl⟩) rfl ?_;exact hEnd
theorem qov {W:World} {lo r X j:Nat} {l:List UInt8} (t0:Rst W lo r l) (hX:W.cell? ⟨X,0,none⟩=some (.pointer (some ⟨r,0,none⟩))):Calls Tryz.prog 168 #[I j,.pointer (some ⟨X,0,none⟩)] W fun e w'=>RP W lo r VI (p1 l) e w':=by
 have hN:=qbd t0;rcases hp:p1 l with c | ⟨x,l'⟩
 ·rw [hp] at hN
  clear hp t0;go_enter Tryz.func168,Tryz.ntmps168
  go_wp2_with (first | (go_at_call 36;refine hN.mono ?_;clear hN;rintro e w2 ⟨rfl,hg⟩));exact ⟨rfl,rfl,hg⟩
 ·rw [hp] at hN
  clear hp t0;go_enter Tryz.func168,Tryz.ntmps168
  go_wp2_with (first | (go_at_call 36;refine hN.mono ?_;clear hN;rintro e w2 ⟨u,rfl,rfl,hr,hg⟩;have H:Hid (Rst w2 lo r l'∧W.grownBy w2 (some r)):=⟨hr,hg⟩;clear hr hg));go_ret;exact ⟨_,rfl,rfl,H.out⟩
theorem qkx {w:World} {lo r:Nat} {l0:List UInt8} (t0:Rst w lo r l0):Calls Tryz.prog 113 #[rdP r] w fun e w'=>RP w lo r (VL lo) (pL l0) e w':=by
 have hN:=qbd (t0.al (rdO r));have hc0:=qcq w r;have hrl:=t0.lt;have hlo:=t0.le;have HB:Hid (w.grownBy (w.alloc (rdO r)) (some r)):=qah (qa0 w _);unfold pL;rcases hp:pn 1 l0 with c | ⟨n,l1⟩
 ·rw [show p1 l0=.error c from qaj hp] at hN
  rw [qaj hp];clear hp t0;go_enter Tryz.func113,Tryz.ntmps113
  go_upto_region 1 with fail;generalize w.alloc (rdO r)=w1 at *;go_wp2_with (first | (go_at_call 36;refine hN.mono ?_;clear hN;rintro e w2 ⟨rfl,hg⟩));exact ⟨rfl,rfl,qa1 HB.out hg⟩
 ·have hn:n < 256:=qcw hp
  rw [show p1 l0=.ok ((n:Int),l1) from qa9 hp] at hN;rw [qa9 hp];clear hp t0;go_enter Tryz.func113,Tryz.ntmps113
  go_upto_region 1 with fail;generalize w.alloc (rdO r)=w1 at *;go_wp2_with (first | (go_at_call 36;refine hN.mono ?_;clear hN;rintro e w2 ⟨u,rfl,rfl,hr,hg⟩));have hX:∀W,w2.grownBy W (some r)→W.cell? ⟨w.heap.size,0,none⟩=some (.pointer (some ⟨r,0,none⟩)):=fun W hW=>(qa1 hg hW).cell hc0 (by show some w.heap.size≠some r;intro e;cases e;omega)
  have hR:=qk7 n (by omega) hr 168 #[] #[.pointer (some ⟨w.heap.size,0,none⟩)] (fun _ _=>rfl) (fun W l' j hW ht _=>qov ht (hX W hW));clear hX hr;refine hR.mono ?_;intro e W1 hR1;rcases hq:qa4 p1 n l1 with c | ⟨xs,l2⟩
  ·rw [hq] at hR1
   obtain ⟨rfl,hg1⟩:=qar hR1;have e9:RP w lo r (VL lo) (qa4 p1 n l1) (gup c) W1:=by rw [hq];exact ⟨rfl,qa1 HB.out (qa1 hg hg1)⟩
   exact ⟨rfl,e9⟩
  ·rw [hq] at hR1
   obtain ⟨u,rfl,⟨sa,sc,cs,rfl,o1,x1⟩,t1,g1⟩:=qaq hR1;have e9:RP w lo r (VL lo) (qa4 p1 n l1) (.returned (.slice sa xs.length sc)) W1:=by rw [hq];exact ⟨_,rfl,⟨sa,sc,rfl,by rw [qou x1] at o1;exact o1⟩,t1,qa1 HB.out (qa1 hg g1)⟩
   clear hR hR1 o1 x1 t1 g1 hg;go_wp2;go_ret;exact e9
theorem qi8 (w:World) (f:Nat) (h:f≤1):Calls Tryz.prog 114 #[I f] w fun e w'=>e=.returned (.bool (decide (f=1)))∧w'=w:=by
 have hn:¬((f:Int) > 1):=by omega
 have e:((f:Int)==1)=decide (f=1):=by
  by_cases hf:f=1
  ·subst hf;rfl
  ·rw [decide_eq_false hf,beq_eq_false_iff_ne];omega
 have HE:Hid (((f:Int)==1)=decide (f=1)):=e;clear e;go_enter Tryz.func114,Tryz.ntmps114
 go_wp2;go_ret;exact ⟨by rw [←HE.out];rfl,rfl⟩
theorem qji (w:World) (f:Nat) (h:¬f≤1):Calls Tryz.prog 114 #[I f] w fun e w'=>e=gup 103∧w'=w:=by
 have hn:(f:Int) > 1:=by omega
 go_enter Tryz.func114,Tryz.ntmps114
 go_wp2_with (first | (go_at_call 52;refine (qfg _ 103).mono ?_;rintro e w3 ⟨rfl,rfl⟩));exact ⟨rfl,rfl,rfl⟩
end Go.Proofs.YtijgopkhdjaolabGreat
namespace Go.Proofs.YtijgopkhdjaolabGreat
open Go.RowKit Go.Shelf Go.Sort
open Go.Proofs.YtijgopkhdjaolabGreat.Ob (leB leV qa8 qag crc Rd RdAll qa7 rd_drop)
structure DF (w W:World) (r:Nat) (s:DS):Prop where
 d:dSt W r s
 g:w.grownBy W (some r)
 lr:r < w.heap.size
def HC (w W:World) (r X T:Nat) (c:Array Value):Prop:=w.heap.size≤X∧W.heap[X]?=some (.cells c T)
section
variable {w W W' : World} {r X Y T T2 i : Nat} {s s' : DS} {c c2 : Array Value} {v : Value}
theorem DF.start (h:dSt w r s):DF w w r s:=⟨h,⟨rfl,rfl,rfl,Nat.le_refl _,fun _ _ _=>rfl⟩,h.lt⟩
theorem DF.call (h:DF w W r s) (hd:dSt W' r s') (hg:W.grownBy W' (some r)):DF w W' r s':=⟨hd,qa1 h.g hg,h.lr⟩
theorem DF.below (h:DF w W r s) (hb:qB W W'):DF w W' r s:=⟨h.d.below hb,qec h.g hb,h.lr⟩
theorem DF.set (h:DF w W r s) (hX:w.heap.size≤X):DF w (W.setCell ⟨X,i,none⟩ v) r s:=by
 have hr:=h.lr;have ho:∀b,b≠X→(W.setCell ⟨X,i,none⟩ v).heap[b]?=W.heap[b]?:=fun b hb=>heap_setCell_other _ _ _ _ hb
 have hs:W.heap.size≤(W.setCell ⟨X,i,none⟩ v).heap.size:=by simp [World.setCell]
 exact ⟨h.d.keep (fun b hb=>ho b (by omega)) hs,⟨h.g.os,h.g.tape,h.g.output,Nat.le_trans h.g.size hs,fun b hb hne=>(ho b (by omega)).trans (h.g.block b hb hne)⟩,hr⟩
theorem DF.row (h:DF w W r s) (hX:w.heap.size≤X):DF w (W.setRow X c) r s:=by
 have hr:=h.lr;have ho:∀b,b≠X→(W.setRow X c).heap[b]?=W.heap[b]?:=fun b hb=>setRow_other _ _ _ _ hb
 have hs:W.heap.size≤(W.setRow X c).heap.size:=by simp
 exact ⟨h.d.keep (fun b hb=>ho b (by omega)) hs,⟨h.g.os,h.g.tape,h.g.output,Nat.le_trans h.g.size hs,fun b hb hne=>(ho b (by omega)).trans (h.g.block b hb hne)⟩,hr⟩
theorem HC.new (h:DF w W r s) (c:Array Value) (T:Nat):HC w (W.alloc (.cells c T)) r W.heap.size T c:=⟨h.g.size,heap_alloc_new _ _⟩
theorem HC.call (h:HC w W r X T c) (hr:r < w.heap.size) (hg:W.grownBy W' (some r)):HC w W' r X T c:=⟨h.1,(hg.block X (qa6 h.2) (fun e=>by have:=h.1;have:=Option.some.inj e;omega)).trans h.2⟩
theorem HC.below (h:HC w W r X T c) (hb:qB W W'):HC w W' r X T c:=⟨h.1,(hb.block X (qa6 h.2)).trans h.2⟩
theorem HC.set (h:HC w W r X T c):HC w (W.setCell ⟨X,i,none⟩ v) r X T (c.setIfInBounds i v):=⟨h.1,heap_setCell_same _ _ i _ _ _ h.2⟩
theorem HC.other (h:HC w W r X T c) (hne:X≠Y):HC w (W.setCell ⟨Y,i,none⟩ v) r X T c:=⟨h.1,(heap_setCell_other _ _ _ _ hne).trans h.2⟩
theorem HC.rowO (h:HC w W r X T c) (hne:X≠Y):HC w (W.setRow Y c2) r X T c:=⟨h.1,(setRow_other _ _ _ _ hne).trans h.2⟩
theorem HC.row (h:HC w W r X T c):HC w (W.setRow X c2) r X T c2:=⟨h.1,setRow_heap _ _ _ _ _ _ h.2⟩
end
def dB {α β:Type} (d:DS→α×DS) (f:α→DS→β×DS):DS→β×DS:=fun s=>f (d s).1 (d s).2
def dR {α:Type} (x:α):DS→α×DS:=fun s=>(x,s)
def dM (s:DS):Int×DS:=(((dOne s).1:Int) - 1,(dOne s).2)
def qc8 (f:Nat) (s:DS):Bool×DS:=(decide (f=1),if 1 < f then qcj 103 s else s)
def dAc : DS→AcR×DS:=dB qb0 fun k=>dB qb0 fun t=>dB qax fun m=>dR ⟨k,t,m⟩
theorem qh8 (w:World) (r f:Nat) (s:DS) (h:dSt w r s):Calls Tryz.prog 145 #[.pointer (some ⟨r,0,none⟩),I f] w (DC w r (.bool (qc8 f s).1) (qc8 f s).2):=by
 unfold qc8;by_cases hf:1 < f
 ·have hfI:(1:Int) < f:=by omega
  have hF:=qg0 w r 103 s h (by decide);rw [if_pos hf];have hd:decide (f=1)=((f:Int)==1):=by
   rw [decide_eq_false (by omega)];symm;rw [beq_eq_false_iff_ne];omega
  rw [hd];clear hd hf;go_enter Tryz.func145,Tryz.ntmps145
  go_wp2_with (first | (go_at_call 62;refine hF.mono ?_;clear hF;rintro e w2 ⟨rfl,hd⟩;have HD:Hid (dSt w2 r (qcj 103 s)∧w.grownBy w2 (some r)):=hd;clear hd));go_ret;exact ⟨rfl,HD.out⟩
 ·have hfI:¬((1:Int) < f):=by omega
  rw [if_neg hf];have HD:Hid (dSt w r s):=h;have hd:decide (f=1)=((f:Int)==1):=by
   rw [Bool.eq_iff_iff,decide_eq_true_iff,beq_iff_eq];omega
  rw [hd];clear hd hf h;go_enter Tryz.func145,Tryz.ntmps145
  go_wp2;go_ret;exact ⟨rfl,HD.out,⟨rfl,rfl,rfl,Nat.le_refl _,fun _ _ _=>rfl⟩⟩
theorem qgf (w:World) (r:Nat) (s:DS) (h:dSt w r s):Calls Tryz.prog 146 #[.pointer (some ⟨r,0,none⟩)] w (DC w r (.agg #[I (dAc s).1.kind,I (dAc s).1.task,.int .u32 ((dAc s).1.mask:Int)]) (dAc s).2):=by
 have hN0:=HC.new (DF.start h) #[I 0,I 0,.int .u32 0] 80;have hD0:=(DF.start h).below (qa0 w (.cells #[I 0,I 0,.int .u32 0] 80));have HJ:Hid (DF w (w.alloc (.cells #[I 0,I 0,.int .u32 0] 80)) r s∧HC w (w.alloc (.cells #[I 0,I 0,.int .u32 0] 80)) r w.heap.size 80 #[I 0,I 0,.int .u32 0]):=⟨hD0,hN0⟩;have hAc:Hid (dAc s=(⟨(dOne s).1,(dOne (dOne s).2).1,(qax (dOne (dOne s).2).2).1⟩,(qax (dOne (dOne s).2).2).2)):=rfl;rw [hAc.out];clear hN0 hD0 h;go_enter Tryz.func146,Tryz.ntmps146
 go_upto_region 1 with fail;generalize w.alloc (.cells #[I 0,I 0,.int .u32 0] 80)=w1 at *;generalize hX:w.heap.size=X at *;have HX:Hid (w.heap.size=X):=hX;clear hX;have hT:=qbh w1 r s HJ.out.1.d;go_upto_region 2 with (first | (go_at_call 21;refine hT.mono ?_;clear hT;rintro e w2 ⟨rfl,hd,hg⟩;have HJ2:Hid (DF w w2 r (dOne s).2∧HC w w2 r X 80 #[I 0,I 0,.int .u32 0]):=⟨HJ.out.1.call hd hg,HJ.out.2.call HJ.out.1.lr hg⟩;clear hd hg));clear HJ;generalize dOne s=q1 at *;have hT:=qbh w2 r q1.2 HJ2.out.1.d;go_upto_region 3 with (first | (go_at_call 21;refine hT.mono ?_;clear hT;rintro e w3 ⟨rfl,hd,hg⟩;have HJ3:Hid (DF w w3 r (dOne q1.2).2∧HC w w3 r X 80 #[I 0,I 0,.int .u32 0]):=⟨HJ2.out.1.call hd hg,HJ2.out.2.call HJ2.out.1.lr hg⟩;clear hd hg));clear HJ2;generalize dOne q1.2=q2 at *;have hT:=qd9 w3 r q2.2 HJ3.out.1.d;have hi3:(Tryz.prog.info? 80).map (·.size)=some (#[I q1.1,I q2.1,.int .u32 ((qax q2.2).1:Int)]:Array Value).size:=by kernel_rfl
 go_wp2_with (first
  | (go_at_call 65;refine hT.mono ?_;clear hT;rintro e w4 ⟨rfl,hd,hg⟩;have HJ4:Hid (DF w w4 r (qax q2.2).2∧HC w w4 r X 80 #[I 0,I 0,.int .u32 0]):=⟨HJ3.out.1.call hd hg,HJ3.out.2.call HJ3.out.1.lr hg⟩;have hz:=HJ4.out.2.2;clear hd hg)
  | (refine wpList_store_row rfl 80 _ _ rfl X _ rfl rfl 80 _ hz hi3 rfl (by simp [Value.oneCell']) ?_))
 have hX:=HX.out;have hD:=HJ4.out.1.row (X:=X) (c:=#[I q1.1,I q2.1,.int .u32 ((qax q2.2).1:Int)]) (by omega);have hC:=HJ4.out.2.row (c2:=#[I q1.1,I q2.1,.int .u32 ((qax q2.2).1:Int)]);refine ⟨rfl,_,qn2 rfl _ X _ _ _ _ ?_ hC.2 ⟨rfl,rfl,rfl⟩,rfl,hD.d,hD.g⟩;rfl
end Go.Proofs.YtijgopkhdjaolabGreat
namespace Go.Proofs.YtijgopkhdjaolabGreat
open Go.RowKit Go.Shelf Go.Sort
open Go.Proofs.YtijgopkhdjaolabGreat.Ob (leB leV qa8 qag crc Rd RdAll qa7 Rdr)
def VTk (lo:Nat) (W:World) (x:TkR) (u:Value):Prop:=∃(sa:Option Addr) (sc:Nat),u=.agg #[I x.prio,I x.ring,.bool x.full,I x.limit,(qU x.mask),I x.inner,.slice sa x.own.length sc,(qU x.auto)]∧qbm W lo x.own (.slice sa x.own.length sc)
def VRTk (lo:Nat) (W:World) (xs:List TkR) (u:Value):Prop:=∃(sa:Option Addr) (sc:Nat) (cs:List Value),u=.slice sa xs.length sc∧W.ownsRow lo 71 8 (.slice sa xs.length sc) xs.length cs∧RwX 8 (tkO9 W lo) xs cs
theorem qn3 : (Tryz.prog.info? 71).map (fun i=>(i.zero,i.size,i.bytes))=some (some (.agg #[I 0,I 0,.bool false,I 0,.int .u32 0,I 0,qZ,.int .u32 0]:Value),8,80):=by kernel_rfl
theorem qll {w:World} {lo r:Nat} {l:List UInt8} (n:Nat) (hn:n≤65535) (h:Rst w lo r l) (f:Nat) (bnd caps:Array Value) (eg:∀args W,(callFunc f args).run Tryz.prog W=.ok (.enter f args) W)
  (hf:∀(W:World) (l':List UInt8) (j:Nat),w.grownBy W (some r)→Rst W lo r l'→j < n→Calls Tryz.prog f (bnd++#[I j]++caps) W fun e w'=>RP W lo r (VTk lo) (pTk l') e w') :
  Calls Tryz.prog 37 #[I n,.func (.func f) bnd caps] w fun e w'=>RP w lo r (VRTk lo) (qa4 pTk n l) e w':=by
 obtain ⟨im,him,hm0,hm1,hm2⟩:=info_parts qn3;have HF:Hid (∀(W:World) (l':List UInt8) (j:Nat),w.grownBy W (some r)→Rst W lo r l'→j < n→Calls Tryz.prog f (bnd++#[I j]++caps) W fun e w'=>RP W lo r (VTk lo) (pTk l') e w'):=hf;have hlo:lo≤w.heap.size:=h.le;have hrl:r < lo:=h.lt;have HI:Hid (∃(xs:List TkR) (l':List UInt8) (cs:List Value),xs.length=0∧qa4 pTk n l=conP xs (qa4 pTk (n - 0) l')∧Rst w lo r l'∧w.grownBy w (some r)∧w.ownsRow w.heap.size 71 8 qZ 0 cs∧RwX 8 (tkO9 w lo) xs cs):=⟨[],l,[],rfl,(qda _).symm,h,qcf _ _,World.ownsRow_nil _ _ _ _,RwX.nil _ _⟩;clear hf h;go_enter Tryz.func37,Tryz.ntmps37
 go_wp2;go_loopw [5,6,8] (fun v5 _ v8 wr=>∃(j:Nat) (va:Option Addr) (vc:Nat),j≤n∧v8=I j∧v5=.slice va j vc∧Hid (∃(xs:List TkR) (l':List UInt8) (cs:List Value),xs.length=j∧qa4 pTk n l=conP xs (qa4 pTk (n - j) l')∧Rst wr lo r l'∧w.grownBy wr (some r)∧wr.ownsRow w.heap.size 71 8 v5 j cs∧RwX 8 (tkO9 wr lo) xs cs)) (fun _ _ v8 _=>n - (intOf v8).toNat)
 case atStart=>exact ⟨0,none,0,by omega,rfl,rfl,HI.out⟩
 case round=>
  clear HI;obtain ⟨j,va,vc,hj,rfl,rfl,HJ⟩:=hrel;obtain ⟨xs,l1,cs,g1,g2,g3,g4,g5,g6⟩:=HJ.out;by_cases hlt:j < n
  ·have hlt':(j:Int) < n:=by omega
   have cx:=HF.out wr l1 j g4 g3 hlt;have H1:Hid (xs.length=j∧qa4 pTk n l=conP xs (qa4 pTk (n - (j+1)+1) l1)∧w.grownBy wr (some r)∧wr.ownsRow w.heap.size 71 8 (.slice va j vc) j cs∧RwX 8 (tkO9 wr lo) xs cs):=⟨g1,by rw [g2,show n - j=n - (j+1)+1 by omega],g4,g5,g6⟩;clear HJ g1 g2 g3 g4 g5 g6;go_wp2;refine cx.mono ?_;clear cx;intro e7 w7 h7;cases hp:pTk l1 with
   | error c=>
    rw [hp] at h7;obtain ⟨rfl,hg7⟩:=qar h7;have e1:qa4 pTk n l=.error c:=H1.out.2.1.trans (qds xs hp);have e2:=qa1 H1.out.2.2.1 hg7;have e9:RP w lo r (VRTk lo) (qa4 pTk n l) (gup c) w7:=by rw [e1];exact ⟨rfl,e2⟩
    exact ⟨rfl,e9⟩
   | ok q=>
    obtain ⟨x,l2⟩:=q;rw [hp] at h7;obtain ⟨u,rfl,hv,hr7,hg7⟩:=qaq h7;obtain ⟨sa,sc,rfl,hmm⟩:=hv;have e1:=H1.out.2.1.trans (qdt xs hp);have o7:=qaw H1.out.2.2.2.1 (by omega) hg7;have hO:=o7.alloc (.cells #[I x.prio,I x.ring,.bool x.full,I x.limit,(qU x.mask),I x.inner,.slice sa x.own.length sc,(qU x.auto)] 71);have hw7:w.heap.size≤w7.heap.size:=Nat.le_trans H1.out.2.2.1.size hg7.size;have hsz:w.heap.size≤(w7.alloc (.cells #[I x.prio,I x.ring,.bool x.full,I x.limit,(qU x.mask),I x.inner,.slice sa x.own.length sc,(qU x.auto)] 71)).heap.size:=Nat.le_trans hw7 (qa0 w7 _).size;have hnew:=qaz w7 #[I x.prio,I x.ring,.bool x.full,I x.limit,(qU x.mask),I x.inner,.slice sa x.own.length sc,(qU x.auto)] 71;have hone:∀u∈(#[I x.prio,I x.ring,.bool x.full,I x.limit,(qU x.mask),I x.inner,.slice sa x.own.length sc,(qU x.auto)]:Array Value).toList,u.oneCell'=true:=by
     intro u hu;simp only [List.mem_cons,List.not_mem_nil,or_false] at hu;rcases hu with rfl | rfl | rfl | rfl | rfl | rfl | rfl | rfl <;> rfl
    have HE:Hid (xs.length=j∧qa4 pTk n l=conP (xs++[x]) (qa4 pTk (n - (j+1)) l2)∧Rst w7 lo r l2∧w.grownBy w7 (some r)∧RwX 8 (tkO9 w7 lo) xs cs∧w7.ownsRow w.heap.size 71 8 (.slice va j vc) j cs∧qbm w7 lo x.own (.slice sa x.own.length sc)):=⟨H1.out.1,e1,hr7,qa1 H1.out.2.2.1 hg7,RwX.mono H1.out.2.2.2.2 (fun x i u h=>qn0 h hrl hg7),o7,hmm⟩;clear H1 h7 hp hmm hr7 hg7 e1 o7 HF;go_wp2_with (first
     | (at_builtin;refine wpList_append_own _ rfl (.tmp 11) (.tmp 15) 24 rfl w.heap.size 71 im _ 8 80 Tryz.underlying24 him hm0 hm1 hm2 rfl (by decide) _ _ _ rfl hO ⟨w7.heap.size,0,none⟩ 1 1 (#[I x.prio,I x.ring,.bool x.full,I x.limit,(qU x.mask),I x.inner,.slice sa x.own.length sc,(qU x.auto)]:Array Value).toList rfl rfl hnew hone (by unfold maxLen;omega) (by omega) hsz ?_;intro v6 w6 ho6 hg6 _;obtain ⟨a6,c6,rfl⟩:=qam ho6))
    have H9:Hid (∃(xs:List TkR) (l':List UInt8) (cs:List Value),xs.length=j+1∧qa4 pTk n l=conP xs (qa4 pTk (n - (j+1)) l')∧Rst w6 lo r l'∧w.grownBy w6 (some r)∧w6.ownsRow w.heap.size 71 8 (.slice a6 (j+1) c6) (j+1) cs∧RwX 8 (tkO9 w6 lo) xs cs):=by
     obtain ⟨f1,f2,f3,f4,f5,f6,f7⟩:=HE.out;have hoth:∀b,b < w.heap.size→w6.heap[b]?=w7.heap[b]?:=fun b hb=>by
      rw [hg6.block b (by omega) (fun e=>by have:=(hO.lt b e.symm).1;omega)];exact heap_alloc_old w7 _ (by omega)
     have hs67:w7.heap.size≤w6.heap.size:=Nat.le_trans (qa0 w7 _).size hg6.size;refine ⟨xs++[x],l2,cs++(#[I x.prio,I x.ring,.bool x.full,I x.limit,(qU x.mask),I x.inner,.slice sa x.own.length sc,(qU x.auto)]:Array Value).toList,by simp [f1],f2,f3.keep (fun b hb=>hoth b (by omega)) hs67,⟨?_,?_,?_,by omega,fun b hb hne=>(hoth b hb).trans (f4.block b hb hne)⟩,ho6,?_⟩
     ·exact (hg6.os.trans (show _=w7.os from rfl)).trans f4.os
     ·exact (hg6.tape.trans (show _=w7.tape from rfl)).trans f4.tape
     ·exact (hg6.output.trans (show _=w7.output from rfl)).trans f4.output
     ·refine RwX.snoc (RwX.mono f5 (fun x i u h=>qli (qh6 h (qa0 w7 _)) hO hg6)) x _ rfl (fun i hi=>?_)
      match i,hi with
      | 0,_=>exact ⟨_,rfl,rfl⟩
      | 1,_=>exact ⟨_,rfl,rfl⟩
      | 2,_=>exact ⟨_,rfl,rfl⟩
      | 3,_=>exact ⟨_,rfl,rfl⟩
      | 4,_=>exact ⟨_,rfl,rfl⟩
      | 5,_=>exact ⟨_,rfl,rfl⟩
      | 6,_=>exact ⟨_,rfl,qdw (qdv f7 (qa0 w7 _)) hO hg6 (by decide)⟩
      | 7,_=>exact ⟨_,rfl,rfl⟩
    clear HE ho6 hg6 hO hnew hone hsz hw7;go_wp2;go_roundw
    case rel=>exact ⟨j+1,a6,c6,by omega,by go_num,rfl,H9.out⟩
    case measure=>simp [intOf];omega
  ·obtain rfl:j=n:=by omega
   have hge:¬((j:Int) < j):=by omega
   have HE:Hid (RP w lo r (VRTk lo) (qa4 pTk j l) (.returned (.slice va j vc)) wr):=by
    have e1:qa4 pTk j l=.ok (xs,l1):=by rw [g2,Nat.sub_self];simp [qa4,conP,retP]
    rw [e1];refine ⟨_,rfl,⟨va,vc,cs,by rw [g1],?_,g6⟩,g3,g4⟩;rw [g1];exact qbk g5 hlo
   clear HJ HF g1 g2 g3 g4 g5 g6;go_wp2;go_ret;exact HE.out
end Go.Proofs.YtijgopkhdjaolabGreat
