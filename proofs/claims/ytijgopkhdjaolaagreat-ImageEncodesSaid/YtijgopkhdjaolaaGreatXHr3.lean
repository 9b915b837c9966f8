import Derived.Test.YtijgopkhdjaolaaGreatXHc
import Derived.Deep.RegionHeldLaw
import Derived.Test.YtijgopkhdjaolaaGreatXTct
namespace Go.Proofs.YtijgopkhdjaolaaGreat
open Go.RowKit Go.Shelf Go.Sort
open Go.Proofs.YtijgopkhdjaolaaGreat.Ob (leB leV qa8 qaj crc Rd RdAll qa9)
set_option linter.unusedSimpArgs false
set_option linter.unusedVariables false
set_option maxHeartbeats 16000000
set_option maxRecDepth 100000
theorem qnz {w:World} {b1 b2 e1 e2 k1 k2 n1 n2:Nat} {v1 v2:Value} {x1 x2:List Value} (h1:w.ownsRow b1 e1 k1 v1 n1 x1) (h2:w.ownsRow b2 e2 k2 v2 n2 x2) (he:e1≠e2) {g:Nat} (hg:v1.ownBlock=some g):v2.ownBlock≠some g:=by
 intro e
 rcases h1.2 with ⟨rfl,rfl⟩ | ⟨g1,c1,cur1,rfl,_,q1,_⟩
 ·cases hg
 ·rcases h2.2 with ⟨rfl,rfl⟩ | ⟨g2,c2,cur2,rfl,_,q2,_⟩
  ·cases e
  ·have e1':g1=g:=Option.some.inj hg
   have e2':g2=g:=Option.some.inj e
   subst e1' e2'
   rw [q1] at q2
   cases q2
   exact he rfl
theorem qay {w:World} {b b' e k n:Nat} {v:Value} {xs:List Value} (h:w.ownsRow b e k v n xs) (hb:b'≤b):w.ownsRow b' e k v n xs:=by
 refine ⟨h.1,?_⟩
 rcases h.2 with q | ⟨g,cap,cur,q1,q2,q3⟩
 ·exact .inl q
 ·exact .inr ⟨g,cap,cur,q1,Nat.le_trans hb q2,q3⟩
theorem qam {w:World} {b e k n:Nat} {v:Value} {xs:List Value} (h:w.ownsRow b e k v n xs):w.ownsRow 0 e k v n xs:=qay h (Nat.zero_le _)
theorem qmh (w:World) (x:Value) (t:TypeId):∀j u,([x]:List Value)[j]?=some u→(w.alloc (.cells #[x] t)).cell? ((⟨w.heap.size,0,none⟩:Addr).add j)=some u:=by
 intro j u hj
 have hlt:j < 1:=(List.getElem?_eq_some_iff.1 hj).1
 obtain rfl:j=0:=by omega
 rw [qct,qcr (heap_alloc_new w _)]
 exact hj
structure SegL (w W:World) (us:List Value) (ls:List (List UInt8)):Prop where
 n:us.length=ls.length
 r:∀(j:Nat) (l:List UInt8) (v:Value),ls[j]?=some l→us[j]?=some v→W.ownsRow 0 5 1 v l.length (Bs8 l)
theorem SegL.below {w W W':World} {us:List Value} {ls:List (List UInt8)} (h:SegL w W us ls) (hb:qB W W'):SegL w W' us ls:=⟨h.n,fun j l v e1 e2=>qa2 (h.r j l v e1 e2) hb⟩
theorem SegL.grown {w W W':World} {us:List Value} {ls:List (List UInt8)} {b e k n:Nat} {v:Value} {xs:List Value} (h:SegL w W us ls) (ho:W.ownsRow b e k v n xs) (he:e≠5) (hg:W.grownBy W' v.ownBlock):SegL w W' us ls:=⟨h.n,fun j l u e1 e2=>(h.r j l u e1 e2).kept hg (by
 cases hu:u.ownBlock with
 | none=>exact .inl rfl
 | some g=>exact .inr (by rw [←hu];intro q;exact qnz (h.r j l u e1 e2) ho (fun q=>he q.symm) hu (by rw [←q,hu])))⟩
theorem SegL.snoc {w W:World} {us:List Value} {ls:List (List UInt8)} (h:SegL w W us ls) {v:Value} {l:List UInt8} (hv:W.ownsRow 0 5 1 v l.length (Bs8 l)):SegL w W (us++[v]) (ls++[l]):=by
 refine ⟨by simp [h.n],fun j l' v' e1 e2=>?_⟩
 by_cases hj:j < ls.length
 ·rw [List.getElem?_append_left hj] at e1
  rw [List.getElem?_append_left (by rw [h.n];exact hj)] at e2
  exact h.r j l' v' e1 e2
 ·have hlt:j < (ls++[l]).length:=(List.getElem?_eq_some_iff.1 e1).1
  rw [List.length_append] at hlt
  simp at hlt
  obtain rfl:j=ls.length:=by omega
  rw [List.getElem?_append_right (Nat.le_refl _)] at e1
  rw [List.getElem?_append_right (by rw [h.n];exact Nat.le_refl _),h.n] at e2
  simp at e1 e2
  subst e1 e2
  exact hv
def RwB (w W:World) (u:Value) (ls:List (List UInt8)):Prop:=∃us,W.ownsRow w.heap.size 31 1 u ls.length us∧SegL w W us ls
theorem RwB.below {w W W':World} {u:Value} {ls:List (List UInt8)} (h:RwB w W u ls) (hb:qB W W'):RwB w W' u ls:=by
 obtain ⟨us,h1,h2⟩:=h
 exact ⟨us,qa2 h1 hb,h2.below hb⟩
theorem RwB.rows {w W:World} {u:Value} {ls:List (List UInt8)} (h:RwB w W u ls):∃s:Sl,u=slT s∧RowsAt W 1 (segB W) s ls:=by
 obtain ⟨us,h1,h2⟩:=h
 obtain ⟨a,c,rfl⟩:=qah h1
 refine ⟨⟨a,ls.length,c⟩,rfl,⟨rfl,?_,?_,fun j x hj=>?_⟩⟩
 ·rcases h1.2 with ⟨q,q2⟩ | ⟨g,cap,cur,q,_,_,hle,hm,_⟩
  ·show ls.length≤c
   rw [q2];exact Nat.zero_le _
  ·cases q;exact hle
 ·rcases h1.2 with ⟨q,q2⟩ | ⟨g,cap,cur,q,_,_,hle,hm,_⟩
  ·show c≤maxLen
   rw [(Value.slice.inj q).2.2];exact Nat.zero_le _
  ·cases q;exact hm
 ·have hlt:j < ls.length:=(List.getElem?_eq_some_iff.1 hj).1
  rcases h1.2 with ⟨q,q2⟩ | ⟨g,cap,cur,q,_,hh,hle,hm,_⟩
  ·omega
  ·cases q
   refine ⟨g,0,rfl,(Array.getElem?_eq_some_iff.1 hh).1,fun i hi=>?_⟩
   obtain rfl:i=0:=by omega
   obtain ⟨v,hv⟩:∃v,us[j]?=some v:=⟨_,List.getElem?_eq_getElem (by rw [h2.n];exact hlt)⟩
   refine ⟨v,?_,?_⟩
   ·have:=h1.cells rfl j v hv
    rw [qct] at this
    simpa using this
   ·have:=h2.r j x v hj hv
    unfold segB
    rw [qcv]
    exact qbp this
theorem qqb : (Tryz.prog.info? 31).map (fun i=>(i.zero,i.size,i.bytes))=some (some qZ,1,24):=by kernel_rfl
theorem qqc : (Tryz.prog.info? 114).map (fun i=>(i.zero,i.size,i.bytes))=some (some (.agg #[.int .u64 0,I 0]),2,16):=by kernel_rfl
theorem qh4 {α:Type} (mk:Nat→α) (j:Nat):(List.range (j+1)).map mk=(List.range j).map mk++[mk j]:=by rw [List.range_succ,List.map_append];rfl
theorem qop (w:World) (n:Nat) (hn:n≤1000) (f:Nat) (bnd caps:Array Value) (eg:∀args W,(callFunc f args).run Tryz.prog W=.ok (.enter f args) W) (mk:Nat→List UInt8)
  (hf:∀W,qB w W→∀j,j < n→Calls Tryz.prog f (bnd++#[I j]++caps) W fun e w'=>∃u,e=.returned u∧w'.ownsRow 0 5 1 u (mk j).length (Bs8 (mk j))∧qB W w') :
  Calls Tryz.prog 58 #[I n,.func (.func f) bnd caps] w fun e w'=>∃u,e=.returned u∧RwB w w' u ((List.range n).map mk)∧qB w w':=by
 obtain ⟨im,him,hm0,hm1,hm2⟩:=info_parts qqb
 have HF:Hid (∀W,qB w W→∀j,j < n→Calls Tryz.prog f (bnd++#[I j]++caps) W fun e w'=>∃u,e=.returned u∧w'.ownsRow 0 5 1 u (mk j).length (Bs8 (mk j))∧qB W w'):=hf
 have HI:Hid (RwB w w qZ ((List.range 0).map mk)∧qB w w):=⟨⟨[],World.ownsRow_nil _ _ _ _,⟨rfl,fun j l v e=>by simp at e⟩⟩,Below.refl _ _⟩
 clear hf
 go_enter Tryz.func58,Tryz.ntmps58
 go_wp2
 go_loopw [5,6,8] (fun v5 _ v8 wr=>∃j:Nat,j≤n∧v8=I j∧Hid (RwB w wr v5 ((List.range j).map mk)∧qB w wr)) (fun _ _ v8 _=>n - (intOf v8).toNat)
 case atStart=>exact ⟨0,by omega,rfl,HI.out⟩
 case round=>
  clear HI
  obtain ⟨j,hj,rfl,HJ⟩:=hrel
  by_cases hlt:j < n
  ·have hlt':(j:Int) < n:=by omega
   have cx:=HF.out wr HJ.out.2 j hlt
   go_wp2
   refine cx.mono ?_
   clear cx
   rintro e7 w7 ⟨u,rfl,o7,b7⟩
   have H7:Hid (RwB w w7 u5 ((List.range j).map mk)∧qB w w7∧w7.ownsRow 0 5 1 u (mk j).length (Bs8 (mk j))):=⟨HJ.out.1.below b7,HJ.out.2.trans (b7.mono HJ.out.2.size),o7⟩
   obtain ⟨us,h1,h2⟩:=H7.out.1
   obtain ⟨ua,uc,rfl⟩:=qah o7
   have hw7:=H7.out.2.1.size
   have h1':w7.ownsRow w.heap.size 31 1 u5 j us:=by simpa using h1
   have hO:=h1'.alloc (.cells #[.slice ua (mk j).length uc] 31)
   have H8:Hid (SegL w w7 us ((List.range j).map mk)∧w7.ownsRow w.heap.size 31 1 u5 j us):=⟨h2,h1'⟩
   clear h1 h2 h1' b7 o7 HJ
   go_wp2_with (first
    | (at_builtin;refine wpList_append_own _ rfl (.tmp 11) (.tmp 15) 69 rfl w.heap.size 31 im qZ 1 24 Tryz.underlying69 him hm0 hm1 hm2 rfl (by decide) _ _ _ rfl hO ⟨w7.heap.size,0,none⟩ 1 1 [.slice ua (mk j).length uc] rfl rfl (qmh _ _ _) (by intro u hu;simp at hu;subst hu;rfl) (by unfold maxLen;omega) (by omega) (by simp;omega) ?_;intro v6 w6 ho6 hg6 _;have H9:Hid (RwB w w6 v6 ((List.range (j+1)).map mk)∧qB w w6):=⟨⟨us++[.slice ua (mk j).length uc],(by rw [qh4,List.length_append];simpa using ho6),(by rw [qh4];exact (((H8.out.1.snoc H7.out.2.2).below (qa0 w7 _)).grown hO (by decide) hg6))⟩,Below.grown hO (H7.out.2.1.trans ((qa0 w7 _).mono hw7)) hg6⟩;clear ho6 hg6 hO))
   go_roundw
   case rel=>exact ⟨j+1,by omega,by go_num,H9.out⟩
   case measure=>simp [intOf];omega
  ·obtain rfl:j=n:=by omega
   have hge:¬((j:Int) < j):=by omega
   clear HF
   go_wp2
   go_ret
   exact ⟨_,rfl,HJ.out⟩
end Go.Proofs.YtijgopkhdjaolaaGreat
namespace Go.Proofs.YtijgopkhdjaolaaGreat
open Go.RowKit Go.Shelf Go.Sort
open Go.Proofs.YtijgopkhdjaolaaGreat.Ob (leB leV qa8 qaj crc Rd RdAll qa9 Rdr)
set_option linter.unusedSimpArgs false
set_option linter.unusedVariables false
set_option maxHeartbeats 16000000
set_option maxRecDepth 100000
theorem qa1 {a b c:World} {r:Option Nat} (h:a.grownBy b r) (k:b.grownBy c r):a.grownBy c r:=
 ⟨k.os.trans h.os,k.tape.trans h.tape,k.output.trans h.output,Nat.le_trans h.size k.size,fun i hi hne=>(k.block i (Nat.lt_of_lt_of_le hi h.size) hne).trans (h.block i hi hne)⟩
theorem qf9 {a b c:World} {r:Option Nat} (h:a.grownBy b r) (k:qB b c):a.grownBy c r:=qa1 h (qad k)
structure Rst (w:World) (lo r:Nat) (l:List UInt8):Prop where
 rd:∃base,Rdr w base r l
 lt:r < lo
 le:lo≤w.heap.size
theorem Rst.below {w w':World} {lo r:Nat} {l:List UInt8} (h:Rst w lo r l) (hb:qB w w'):Rst w' lo r l:=by
 obtain ⟨⟨base,a,cap,q⟩,h2,h3⟩:=h
 exact ⟨⟨base,a,cap,q.below hb⟩,h2,Nat.le_trans h3 hb.size⟩
theorem Rst.al {w:World} {lo r:Nat} {l:List UInt8} (h:Rst w lo r l) (o:Obj):Rst (w.alloc o) lo r l:=h.below (qa0 w o)
abbrev gup (c:Nat):Ending:=.panicked [{ v:=.iface 145 (.agg #[I c]),recovered:=false }]
abbrev rdP (r:Nat):Value:=.agg #[.pointer (some ⟨r,0,none⟩)]
def RP {α:Type} (w:World) (lo r:Nat) (V:World→α→Value→Prop) (m:Except Nat (α×List UInt8)) (e:Ending) (w':World):Prop:=match m with
 | .ok (x,l)=>∃u,e=.returned u∧V w' x u∧Rst w' lo r l∧w.grownBy w' (some r)
 | .error c=>e=gup c∧w.grownBy w' (some r)
def VI (_:World) (x:Int) (u:Value):Prop:=u=I x
def VN (_:World) (x:Nat) (u:Value):Prop:=u=.int .u64 (x:Int)
def V4 (_:World) (x:Nat) (u:Value):Prop:=u=(qU x)
theorem qeq (w:World) (c:Nat):Calls Tryz.prog 120 #[I c] w fun e w'=>e=gup c∧w'=w:=by
 go_enter Tryz.func120,Tryz.ntmps120
 go_wp2
 exact ⟨rfl,rfl,rfl⟩
theorem qo0 {w:World} {lo r:Nat} {l:List UInt8} (h:Rst w lo r l) (m:Nat) (h1:1≤m) (h2:m≤8) (hm:m≤l.length):Calls Tryz.prog 166 #[.pointer (some ⟨r,0,none⟩),I m] w fun e w'=>e=.returned (.tuple #[.int .u64 (leV (l.take m):Nat),I 0])∧Rst w' lo r (l.drop m)∧w.grownBy w' (some r):=by
 obtain ⟨⟨base,a,cap,q⟩,k2,k3⟩:=h
 refine (Ob.rnumber_made q m h1 h2 hm).mono ?_
 rintro e w' ⟨rfl,hr,hg⟩
 exact ⟨rfl,⟨⟨base,hr⟩,k2,Nat.le_trans k3 hg.size⟩,hg⟩
theorem qph {w:World} {lo r:Nat} {l:List UInt8} (h:Rst w lo r l) (m:Nat) (h1:1≤m) (h2:m≤8) (hm:l.length < m):Calls Tryz.prog 166 #[.pointer (some ⟨r,0,none⟩),I m] w fun e w'=>e=.returned (.tuple #[.int .u64 0,I 10])∧w'=w:=by
 obtain ⟨⟨base,a,cap,q⟩,k2,k3⟩:=h
 refine (Ob.rnumber_short q m (by omega) (by omega) (by omega)).mono ?_
 rintro e w' ⟨rfl,hr⟩
 exact ⟨rfl,hr.symm⟩
theorem qea {w:World} {lo r:Nat} {l:List UInt8} (h:Rst w lo r l) (m:Nat) (h1:1≤m) (h2:m≤8):Calls Tryz.prog 167 #[rdP r,I m] w fun e w'=>RP w lo r VN (pn m l) e w':=by
 unfold pn
 have hb0:=qa0 w (.cells #[.pointer (some ⟨r,0,none⟩)] 151)
 have hc0:(w.alloc (.cells #[.pointer (some ⟨r,0,none⟩)] 151)).cell? ⟨w.heap.size,0,none⟩=some (.pointer (some ⟨r,0,none⟩)):=by rw [qcr (heap_alloc_new w _)];rfl
 by_cases hm:m≤l.length
 ·have hN:=qo0 (h.al (.cells #[.pointer (some ⟨r,0,none⟩)] 151)) m h1 h2 hm
  rw [if_pos hm]
  have HB:Hid (qB w (w.alloc (.cells #[.pointer (some ⟨r,0,none⟩)] 151))):=hb0
  clear hb0 h
  go_enter Tryz.func167,Tryz.ntmps167
  go_upto_region 1 with fail
  generalize w.alloc (.cells #[.pointer (some ⟨r,0,none⟩)] 151)=w1 at *
  go_wp2_with (first | (go_at_call 166;refine hN.mono ?_;clear hN;rintro e w2 ⟨rfl,hr,hg⟩;have H:Hid (Rst w2 lo r (l.drop m)∧w1.grownBy w2 (some r)):=⟨hr,hg⟩;clear hr hg))
  go_ret
  exact ⟨_,rfl,rfl,H.out.1,qa1 (qad HB.out) H.out.2⟩
 ·have hN:=qph (h.al (.cells #[.pointer (some ⟨r,0,none⟩)] 151)) m h1 h2 (by omega)
  rw [if_neg hm]
  have HB:Hid (qB w (w.alloc (.cells #[.pointer (some ⟨r,0,none⟩)] 151))):=hb0
  clear hb0 h
  go_enter Tryz.func167,Tryz.ntmps167
  go_upto_region 1 with fail
  generalize w.alloc (.cells #[.pointer (some ⟨r,0,none⟩)] 151)=w1 at *
  go_wp2_with (first | (go_at_call 166;refine hN.mono ?_;clear hN;rintro e w2 ⟨rfl,rfl⟩) | (go_at_call 120;refine (qeq _ 101).mono ?_;rintro e w3 ⟨rfl,rfl⟩))
  exact ⟨rfl,rfl,qad HB.out⟩
theorem qao {α:Type} {w w':World} {lo r:Nat} {V:World→α→Value→Prop} {e:Ending} {x:α} {l:List UInt8} (h:RP w lo r V (.ok (x,l)) e w'):∃u,e=.returned u∧V w' x u∧Rst w' lo r l∧w.grownBy w' (some r):=h
theorem qap {α:Type} {w w':World} {lo r:Nat} {V:World→α→Value→Prop} {e:Ending} {c:Nat} (h:RP w lo r V (.error c) e w'):e=gup c∧w.grownBy w' (some r):=h
theorem qci {m x:Nat} {l l':List UInt8} (h:pn m l=.ok (x,l')):x < 256 ^ m:=((qas m).bwd _ _ _ h).1
abbrev rdO (r:Nat):Obj:=.cells #[.pointer (some ⟨r,0,none⟩)] 151
theorem qc7 (w:World) (r:Nat):(w.alloc (rdO r)).cell? ⟨w.heap.size,0,none⟩=some (.pointer (some ⟨r,0,none⟩)):=by rw [qcr (heap_alloc_new w _)];rfl
theorem qb4 {w:World} {lo r:Nat} {l:List UInt8} (h:Rst w lo r l):Calls Tryz.prog 104 #[rdP r] w fun e w'=>RP w lo r VI (p1 l) e w':=by
 have hN:=qea (h.al (rdO r)) 1 (by omega) (by omega)
 have hc0:=qc7 w r
 have HB:Hid (qB w (w.alloc (rdO r))):=qa0 w _
 clear h
 unfold p1
 cases hp:pn 1 l with
 | error c=>
  rw [hp] at hN
  rw [qaf hp]
  clear hp
  go_enter Tryz.func104,Tryz.ntmps104
  go_upto_region 1 with fail
  generalize w.alloc (rdO r)=w1 at *
  go_wp2_with (first | (go_at_call 167;refine hN.mono ?_;clear hN;rintro e w2 ⟨rfl,hg⟩))
  exact ⟨rfl,rfl,qa1 (qad HB.out) hg⟩
 | ok q=>
  obtain ⟨x,l'⟩:=q
  have hx1:x < 4294967296:=Nat.lt_of_lt_of_le (qci hp) (by decide)
  rw [hp] at hN
  rw [qa7 hp]
  clear hp
  have hw:IntKind.i64.wrap (x:Int)=x:=by rw [IntKind.wrap_i64];omega
  go_enter Tryz.func104,Tryz.ntmps104
  go_upto_region 1 with fail
  generalize w.alloc (rdO r)=w1 at *
  go_wp2_with (first | (go_at_call 167;refine hN.mono ?_;clear hN;rintro e w2 ⟨u,rfl,rfl,hr,hg⟩;have H:Hid (Rst w2 lo r l'∧w1.grownBy w2 (some r)):=⟨hr,hg⟩;clear hr hg))
  go_ret
  exact ⟨_,rfl,rfl,H.out.1,qa1 (qad HB.out) H.out.2⟩
theorem qdp {w:World} {lo r:Nat} {l:List UInt8} (h:Rst w lo r l):Calls Tryz.prog 103 #[rdP r] w fun e w'=>RP w lo r VI (p2 l) e w':=by
 have hN:=qea (h.al (rdO r)) 2 (by omega) (by omega)
 have hc0:=qc7 w r
 have HB:Hid (qB w (w.alloc (rdO r))):=qa0 w _
 clear h
 unfold p2
 cases hp:pn 2 l with
 | error c=>
  rw [hp] at hN
  rw [qaf hp]
  clear hp
  go_enter Tryz.func103,Tryz.ntmps103
  go_upto_region 1 with fail
  generalize w.alloc (rdO r)=w1 at *
  go_wp2_with (first | (go_at_call 167;refine hN.mono ?_;clear hN;rintro e w2 ⟨rfl,hg⟩))
  exact ⟨rfl,rfl,qa1 (qad HB.out) hg⟩
 | ok q=>
  obtain ⟨x,l'⟩:=q
  have hx1:x < 4294967296:=Nat.lt_of_lt_of_le (qci hp) (by decide)
  rw [hp] at hN
  rw [qa7 hp]
  clear hp
  have hw:IntKind.i64.wrap (x:Int)=x:=by rw [IntKind.wrap_i64];omega
  go_enter Tryz.func103,Tryz.ntmps103
  go_upto_region 1 with fail
  generalize w.alloc (rdO r)=w1 at *
  go_wp2_with (first | (go_at_call 167;refine hN.mono ?_;clear hN;rintro e w2 ⟨u,rfl,rfl,hr,hg⟩;have H:Hid (Rst w2 lo r l'∧w1.grownBy w2 (some r)):=⟨hr,hg⟩;clear hr hg))
  go_ret
  exact ⟨_,rfl,rfl,H.out.1,qa1 (qad HB.out) H.out.2⟩
theorem qdh {w:World} {lo r:Nat} {l:List UInt8} (h:Rst w lo r l):Calls Tryz.prog 168 #[rdP r] w fun e w'=>RP w lo r V4 (pn 4 l) e w':=by
 have hN:=qea (h.al (rdO r)) 4 (by omega) (by omega)
 have hc0:=qc7 w r
 have HB:Hid (qB w (w.alloc (rdO r))):=qa0 w _
 clear h
 skip
 cases hp:pn 4 l with
 | error c=>
  rw [hp] at hN
  skip
  clear hp
  go_enter Tryz.func168,Tryz.ntmps168
  go_upto_region 1 with fail
  generalize w.alloc (rdO r)=w1 at *
  go_wp2_with (first | (go_at_call 167;refine hN.mono ?_;clear hN;rintro e w2 ⟨rfl,hg⟩))
  exact ⟨rfl,rfl,qa1 (qad HB.out) hg⟩
 | ok q=>
  obtain ⟨x,l'⟩:=q
  have hx1:x < 4294967296:=Nat.lt_of_lt_of_le (qci hp) (by decide)
  rw [hp] at hN
  skip
  clear hp
  have hw:IntKind.u32.wrap (x:Int)=x:=by rw [IntKind.wrap_u32];omega
  go_enter Tryz.func168,Tryz.ntmps168
  go_upto_region 1 with fail
  generalize w.alloc (rdO r)=w1 at *
  go_wp2_with (first | (go_at_call 167;refine hN.mono ?_;clear hN;rintro e w2 ⟨u,rfl,rfl,hr,hg⟩;have H:Hid (Rst w2 lo r l'∧w1.grownBy w2 (some r)):=⟨hr,hg⟩;clear hr hg))
  go_ret
  exact ⟨_,rfl,rfl,H.out.1,qa1 (qad HB.out) H.out.2⟩
theorem qix {w:World} {lo r:Nat} {l:List UInt8} (h:Rst w lo r l):Calls Tryz.prog 169 #[rdP r] w fun e w'=>RP w lo r VI (pM l) e w':=by
 have hN:=qb4 (h.al (rdO r))
 have hc0:=qc7 w r
 have HB:Hid (qB w (w.alloc (rdO r))):=qa0 w _
 unfold pM
 clear h
 cases hp:pn 1 l with
 | error c=>
  rw [show p1 l=.error c from qaf hp] at hN
  rw [qaf hp]
  clear hp
  go_enter Tryz.func169,Tryz.ntmps169
  go_upto_region 1 with fail
  generalize w.alloc (rdO r)=w1 at *
  go_wp2_with (first | (go_at_call 104;refine hN.mono ?_;clear hN;rintro e w2 ⟨rfl,hg⟩))
  exact ⟨rfl,rfl,qa1 (qad HB.out) hg⟩
 | ok q=>
  obtain ⟨x,l'⟩:=q
  have hx:=qci hp
  rw [show p1 l=.ok ((x:Int),l') from qa7 hp] at hN
  rw [qa7 hp]
  have hx1:x < 256:=hx
  clear hp hx
  go_enter Tryz.func169,Tryz.ntmps169
  go_upto_region 1 with fail
  generalize w.alloc (rdO r)=w1 at *
  go_wp2_with (first | (go_at_call 104;refine hN.mono ?_;clear hN;rintro e w2 ⟨u,rfl,rfl,hr,hg⟩;have H:Hid (Rst w2 lo r l'∧w1.grownBy w2 (some r)):=⟨hr,hg⟩;clear hr hg))
  go_ret
  exact ⟨_,rfl,rfl,H.out.1,qa1 (qad HB.out) H.out.2⟩
theorem Rst.keep {w w':World} {lo r:Nat} {l:List UInt8} (h:Rst w lo r l) (hb:∀b,b < lo→w'.heap[b]?=w.heap[b]?) (hs:w.heap.size≤w'.heap.size):Rst w' lo r l:=by
 obtain ⟨⟨base,a,cap,q⟩,h2,h3⟩:=h
 refine ⟨⟨base,a,cap,⟨(hb r h2).trans q.hheap,q.hbase,⟨q.hrd.hlen,q.hrd.hle,q.hrd.hsmall,q.hrd.hnil,fun hp=>?_⟩,q.hlt⟩⟩,h2,Nat.le_trans h3 hs⟩
 obtain ⟨b,off,e,hb1,hc⟩:=q.hrd.hcell hp
 have hbr:=q.hlt b off e hp
 refine ⟨b,off,e,Nat.lt_of_lt_of_le hb1 hs,fun i x hx=>?_⟩
 rw [World.cell?_of_block (hb b (by omega))]
 exact hc i x hx
theorem qaz {w w':World} {b E k n r:Nat} {v:Value} {xs:List Value} (h:w.ownsRow b E k v n xs) (hr:r < b) (hg:w.grownBy w' (some r)):w'.ownsRow b E k v n xs:=h.kept hg (by
 cases hv:v.ownBlock with
 | none=>exact .inl rfl
 | some g=>exact .inr (by have:=(h.lt g hv).1;intro e;cases e;omega))
theorem qmi {w w':World} {lo r:Nat} {x:TkR} {i:Nat} {u:Value} (h:tkO9 w lo x i u) (hr:r < lo) (hg:w.grownBy w' (some r)):tkO9 w' lo x i u:=by
 unfold tkO9 at h ⊢
 split at h <;> first | exact h | exact qaz h hr hg
theorem qmj {w w':World} {lo r:Nat} {x:IsR} {i:Nat} {u:Value} (h:isO9 w lo x i u) (hr:r < lo) (hg:w.grownBy w' (some r)):isO9 w' lo x i u:=by
 unfold isO9 at h ⊢
 split at h <;> first | exact h | exact qaz h hr hg
def conP {α:Type} (xs:List α) (m:Except Nat (List α×List UInt8)):Except Nat (List α×List UInt8):=match m with
 | .ok (ys,l)=>.ok (xs++ys,l)
 | .error c=>.error c
theorem qcw {α:Type} (m:Except Nat (List α×List UInt8)):conP [] m=m:=by
 cases m with
 | error c=>rfl
 | ok q=>rfl
theorem qd8 {α:Type} {p:Ps α} {m c:Nat} {l:List UInt8} (xs:List α) (h:p l=.error c):conP xs (qa4 p (m+1) l)=.error c:=by rw [qa4,qaf h];rfl
theorem qd9 {α:Type} {p:Ps α} {m:Nat} {x:α} {l l':List UInt8} (xs:List α) (h:p l=.ok (x,l')):conP xs (qa4 p (m+1) l)=conP (xs++[x]) (qa4 p m l'):=by
 rw [qa4,qa7 h]
 unfold andP
 cases qa4 p m l' with
 | error c=>rfl
 | ok q=>obtain ⟨ys,l2⟩:=q;simp [conP,retP]
def ql4 (lo:Nat) (W:World) (xs:List Int) (u:Value):Prop:=∃(sa:Option Addr) (sc:Nat) (cs:List Value),u=.slice sa xs.length sc∧W.ownsRow lo 3 1 (.slice sa xs.length sc) xs.length cs∧RwX 1 intP xs cs
theorem qh5 : (Tryz.prog.info? 3).map (fun i=>(i.zero,i.size,i.bytes))=some (some (I 0:Value),1,8):=by kernel_rfl
theorem qjp {w:World} {lo r:Nat} {l:List UInt8} (n:Nat) (hn:n≤65535) (h:Rst w lo r l) (f:Nat) (bnd caps:Array Value) (eg:∀args W,(callFunc f args).run Tryz.prog W=.ok (.enter f args) W)
  (hf:∀(W:World) (l':List UInt8) (j:Nat),w.grownBy W (some r)→Rst W lo r l'→j < n→Calls Tryz.prog f (bnd++#[I j]++caps) W fun e w'=>RP W lo r VI (p1 l') e w') :
  Calls Tryz.prog 185 #[I n,.func (.func f) bnd caps] w fun e w'=>RP w lo r (ql4 lo) (qa4 p1 n l) e w':=by
 obtain ⟨im,him,hm0,hm1,hm2⟩:=info_parts qh5
 have HF:Hid (∀(W:World) (l':List UInt8) (j:Nat),w.grownBy W (some r)→Rst W lo r l'→j < n→Calls Tryz.prog f (bnd++#[I j]++caps) W fun e w'=>RP W lo r VI (p1 l') e w'):=hf
 have hlo:lo≤w.heap.size:=h.le
 have hrl:r < lo:=h.lt
 have HI:Hid (∃(xs:List Int) (l':List UInt8) (cs:List Value),xs.length=0∧qa4 p1 n l=conP xs (qa4 p1 (n - 0) l')∧Rst w lo r l'∧w.grownBy w (some r)∧w.ownsRow w.heap.size 3 1 qZ 0 cs∧RwX 1 intP xs cs):=⟨[],l,[],rfl,(qcw _).symm,h,qbx _ _,World.ownsRow_nil _ _ _ _,RwX.nil _ _⟩
 clear hf h
 go_enter Tryz.func185,Tryz.ntmps185
 go_wp2
 go_loopw [5,6,8] (fun v5 _ v8 wr=>∃(j:Nat) (va:Option Addr) (vc:Nat),j≤n∧v8=I j∧v5=.slice va j vc∧Hid (∃(xs:List Int) (l':List UInt8) (cs:List Value),xs.length=j∧qa4 p1 n l=conP xs (qa4 p1 (n - j) l')∧Rst wr lo r l'∧w.grownBy wr (some r)∧wr.ownsRow w.heap.size 3 1 v5 j cs∧RwX 1 intP xs cs)) (fun _ _ v8 _=>n - (intOf v8).toNat)
 case atStart=>exact ⟨0,none,0,by omega,rfl,rfl,HI.out⟩
 case round=>
  clear HI
  obtain ⟨j,va,vc,hj,rfl,rfl,HJ⟩:=hrel
  obtain ⟨xs,l1,cs,g1,g2,g3,g4,g5,g6⟩:=HJ.out
  by_cases hlt:j < n
  ·have hlt':(j:Int) < n:=by omega
   have cx:=HF.out wr l1 j g4 g3 hlt
   have H1:Hid (xs.length=j∧qa4 p1 n l=conP xs (qa4 p1 (n - (j+1)+1) l1)∧w.grownBy wr (some r)∧wr.ownsRow w.heap.size 3 1 (.slice va j vc) j cs∧RwX 1 intP xs cs):=⟨g1,by rw [g2,show n - j=n - (j+1)+1 by omega],g4,g5,g6⟩
   clear HJ g1 g2 g3 g4 g5 g6
   go_wp2
   refine cx.mono ?_
   clear cx
   intro e7 w7 h7
   cases hp:p1 l1 with
   | error c=>
    rw [hp] at h7
    obtain ⟨rfl,hg7⟩:=qap h7
    have e1:qa4 p1 n l=.error c:=H1.out.2.1.trans (qd8 xs hp)
    have e2:=qa1 H1.out.2.2.1 hg7
    have e9:RP w lo r (ql4 lo) (qa4 p1 n l) (gup c) w7:=by rw [e1];exact ⟨rfl,e2⟩
    exact ⟨rfl,e9⟩
   | ok q=>
    obtain ⟨x,l2⟩:=q
    rw [hp] at h7
    obtain ⟨u,rfl,hv,hr7,hg7⟩:=qao h7
    have hv1:u=I x:=hv
    subst hv1
    have e1:=H1.out.2.1.trans (qd9 xs hp)
    have o7:=qaz H1.out.2.2.2.1 (by omega) hg7
    have hO:=o7.alloc (.cells #[I x] 3)
    have hw7:w.heap.size≤w7.heap.size:=Nat.le_trans H1.out.2.2.1.size hg7.size
    have hsz:w.heap.size≤(w7.alloc (.cells #[I x] 3)).heap.size:=Nat.le_trans hw7 (qa0 w7 _).size
    have hnew:=qb3 w7 #[I x] 3
    have hone:∀u∈(#[I x]:Array Value).toList,u.oneCell'=true:=by
     intro u hu
     simp only [List.mem_cons,List.not_mem_nil,or_false] at hu
     rcases hu with rfl <;> rfl
    have HE:Hid (xs.length=j∧qa4 p1 n l=conP (xs++[x]) (qa4 p1 (n - (j+1)) l2)∧Rst w7 lo r l2∧w.grownBy w7 (some r)∧RwX 1 intP xs cs∧w7.ownsRow w.heap.size 3 1 (.slice va j vc) j cs):=⟨H1.out.1,e1,hr7,qa1 H1.out.2.2.1 hg7,H1.out.2.2.2.2,o7⟩
    clear H1 h7 hp hr7 hg7 e1 o7 HF
    go_wp2_with (first
     | (at_builtin;refine wpList_append_own _ rfl (.tmp 11) (.tmp 15) 40 rfl w.heap.size 3 im _ 1 8 Tryz.underlying40 him hm0 hm1 hm2 rfl (by decide) _ _ _ rfl hO ⟨w7.heap.size,0,none⟩ 1 1 (#[I x]:Array Value).toList rfl rfl hnew hone (by unfold maxLen;omega) (by omega) hsz ?_;intro v6 w6 ho6 hg6 _;obtain ⟨a6,c6,rfl⟩:=qah ho6))
    have H9:Hid (∃(xs:List Int) (l':List UInt8) (cs:List Value),xs.length=j+1∧qa4 p1 n l=conP xs (qa4 p1 (n - (j+1)) l')∧Rst w6 lo r l'∧w.grownBy w6 (some r)∧w6.ownsRow w.heap.size 3 1 (.slice a6 (j+1) c6) (j+1) cs∧RwX 1 intP xs cs):=by
     obtain ⟨f1,f2,f3,f4,f5,f6⟩:=HE.out
     have hoth:∀b,b < w.heap.size→w6.heap[b]?=w7.heap[b]?:=fun b hb=>by
      rw [hg6.block b (by omega) (fun e=>by have:=(hO.lt b e.symm).1;omega)]
      exact heap_alloc_old w7 _ (by omega)
     have hs67:w7.heap.size≤w6.heap.size:=Nat.le_trans (qa0 w7 _).size hg6.size
     refine ⟨xs++[x],l2,cs++(#[I x]:Array Value).toList,by simp [f1],f2,f3.keep (fun b hb=>hoth b (by omega)) hs67,⟨?_,?_,?_,by omega,fun b hb hne=>(hoth b hb).trans (f4.block b hb hne)⟩,ho6,?_⟩
     ·exact (hg6.os.trans (show _=w7.os from rfl)).trans f4.os
     ·exact (hg6.tape.trans (show _=w7.tape from rfl)).trans f4.tape
     ·exact (hg6.output.trans (show _=w7.output from rfl)).trans f4.output
     ·refine RwX.snoc f5 x _ rfl (fun i hi=>?_)
      match i,hi with
      | 0,_=>exact ⟨_,rfl,rfl⟩
    clear HE ho6 hg6 hO hnew hone hsz hw7
    go_wp2
    go_roundw
    case rel=>exact ⟨j+1,a6,c6,by omega,by go_num,rfl,H9.out⟩
    case measure=>simp [intOf];omega
  ·obtain rfl:j=n:=by omega
   have hge:¬((j:Int) < j):=by omega
   have HE:Hid (RP w lo r (ql4 lo) (qa4 p1 j l) (.returned (.slice va j vc)) wr):=by
    have e1:qa4 p1 j l=.ok (xs,l1):=by rw [g2,Nat.sub_self];simp [qa4,conP,retP]
    rw [e1]
    refine ⟨_,rfl,⟨va,vc,cs,by rw [g1],?_,g6⟩,g3,g4⟩
    rw [g1]
    exact qay g5 hlo
   clear HJ HF g1 g2 g3 g4 g5 g6
   go_wp2
   go_ret
   exact HE.out
theorem qaa {a W:World} {r Y i:Nat} {v:Value} (h:a.grownBy W (some r)) (hY:a.heap.size≤Y):a.grownBy (W.setCell ⟨Y,i,none⟩ v) (some r):=
 ⟨h.os,h.tape,h.output,by simpa using h.size,fun b hb hne=>(heap_setCell_other W ⟨Y,i,none⟩ b v (by show b≠Y;omega)).trans (h.block b hb hne)⟩
theorem Rst.setY {W:World} {lo r Y i:Nat} {l:List UInt8} {v:Value} (h:Rst W lo r l) (hY:lo≤Y):Rst (W.setCell ⟨Y,i,none⟩ v) lo r l:=
 h.keep (fun b hb=>heap_setCell_other W ⟨Y,i,none⟩ b v (by show b≠Y;omega)) (by simp)
theorem qb2 {a W:World} {r b:Nat} {o:Obj} (h:a.grownBy W (some r)) (hb:a.heap[b]?=some o) (hne:b≠r):W.heap[b]?=some o:=(h.block b (qa5 hb) (fun e=>hne (Option.some.inj e))).trans hb
theorem qak {W:World} {b e k n Y i T:Nat} {u x:Value} {xs:List Value} {cs:Array Value} (h:W.ownsRow b e k u n xs) (hY:W.heap[Y]?=some (.cells cs T)) (he:T≠e):(W.setCell ⟨Y,i,none⟩ x).ownsRow b e k u n xs:=by
 refine ⟨h.1,?_⟩
 rcases h.2 with q | ⟨g,cap,cur,q1,q2,q3,q4⟩
 ·exact .inl q
 ·refine .inr ⟨g,cap,cur,q1,q2,?_,q4⟩
  rw [heap_setCell_other W ⟨Y,i,none⟩ g x (by rintro rfl;rw [hY] at q3;cases q3;exact he rfl)]
  exact q3
theorem qo1 {xs:List Int} {cs:List Value} (h:RwX 1 intP xs cs):cs=xs.map (fun x=>I x):=by
 apply List.ext_getElem?
 intro i
 rw [List.getElem?_map]
 by_cases hi:i < xs.length
 ·obtain ⟨u,hu,hP⟩:=h.at' i xs[i] (List.getElem?_eq_getElem hi) 0 (by omega)
  rw [Nat.mul_one,Nat.add_zero] at hu
  rw [hu,List.getElem?_eq_getElem hi]
  exact congrArg some hP
 ·rw [List.getElem?_eq_none (by have:=h.n;omega),List.getElem?_eq_none (by omega)]
  rfl
def VAc (_:World) (x:AcR) (u:Value):Prop:=u=.agg #[I x.kind,I x.task,.int .u32 (x.mask:Int)]
def VL (lo:Nat) (W:World) (xs:List Int) (u:Value):Prop:=∃(sa:Option Addr) (sc:Nat),u=.slice sa xs.length sc∧qbz W lo xs (.slice sa xs.length sc)
theorem qqd {fn:Func} {m:Nat} (hf:fn.results=#[.cell m 83]) (tmps:Array Value) (b:Nat) (w:World) (z0 z1 z2:Value) (h2:tmps[m]?=some (.pointer (some ⟨b,0,none⟩))) (hk:w.heap[b]?=some (.cells #[z0,z1,z2] 83 (0,0))) (h1:z0.oneCell'=true∧z1.oneCell'=true∧z2.oneCell'=true):(results fn tmps).run Tryz.prog w=.ok (.agg #[z0,z1,z2]) w:=by
 have a1:=fun i=>cell_of_row w b i _ _ (0,0) hk
 have y0:=a1 0
 have y1:=a1 1
 have y2:=a1 2
 simp at y0 y1 y2
 simp [results,hf,go_sem,h2,y0,y1,y2]
theorem qoq {w:World} {lo r:Nat} {l0:List UInt8} (t0:Rst w lo r l0):Calls Tryz.prog 172 #[rdP r] w fun e w'=>RP w lo r VAc (pAc l0) e w':=by
 have hlo:=t0.le
 have hrl:=t0.lt
 have hc0:=qc7 w r
 have hb1:=qa0 (w.alloc (rdO r)) (.cells #[I 0,I 0,.int .u32 0] 83)
 have hY0:=heap_alloc_new (w.alloc (rdO r)) (.cells #[I 0,I 0,.int .u32 0] 83)
 have HX:Hid (∀W,((w.alloc (rdO r)).alloc (.cells #[I 0,I 0,.int .u32 0] 83)).grownBy W (some r)→W.cell? ⟨w.heap.size,0,none⟩=some (.pointer (some ⟨r,0,none⟩))):=fun W hW=>hW.cell (by rw [qa6 hb1 _ _ (by simp)];exact hc0) (by show some w.heap.size≠some r;intro e;cases e;omega)
 have HY:Hid (∀W,((w.alloc (rdO r)).alloc (.cells #[I 0,I 0,.int .u32 0] 83)).grownBy W (some r)→W.heap[w.heap.size+1]?=some (.cells #[I 0,I 0,.int .u32 0] 83)):=fun W hW=>qb2 hW (by have:=hY0;rwa [show (w.alloc (rdO r)).heap.size=w.heap.size+1 by simp] at this) (by omega)
 have s0:=(t0.al (rdO r)).al (.cells #[I 0,I 0,.int .u32 0] 83)
 have HB:Hid (w.grownBy ((w.alloc (rdO r)).alloc (.cells #[I 0,I 0,.int .u32 0] 83)) (some r)):=qad ((qa0 w _).trans (hb1.mono (qa0 w _).size))
 have E0:Hid (pAc l0=pAc l0):=rfl
 clear hc0 hb1 hY0 t0
 go_enter Tryz.func172,Tryz.ntmps172
 go_upto_region 1 with fail
 generalize (w.alloc (rdO r)).alloc (.cells #[I 0,I 0,.int .u32 0] 83)=w1 at *
 have G0:=qad (r:=some r) (Below.refl w1.heap.size w1).drew
 have HC:=HX.out w1.drew G0
 refine wp_region_held_drew (S:=fun W=>W.cell? ⟨w.heap.size,0,none⟩=some (.pointer (some ⟨r,0,none⟩))) (by kernel_rfl) HC (fun hHeld=>?_)
 clear HC
 change wpAnyH _ _ _ _ _ _ #[false,false,false,false,false,false,false,false] _ _
 try simp only [qN]
 refine qTI 0 (rdP r) rfl hHeld ?_
 try simp only [qN]
 refine qTI 2 (rdP r) rfl hHeld ?_
 try simp only [qN]
 refine qTI 4 (rdP r) rfl hHeld ?_
 try simp only [qN]
 clear hHeld
 have t0:=s0.below (Below.refl w1.heap.size w1).drew
 clear s0
 generalize w1.drew=W0 at *
 refine qR1 (i:=1) rfl (fun K hK=>?_)
 go_simp
 refine (qb4 t0).mono ?_
 intro e W1 hR
 rcases hp:p1 l0 with c | ⟨k,l1⟩
 ·rw [hp] at hR
  obtain ⟨rfl,hg⟩:=qap hR
  have e9:RP w lo r VAc (pAc l0) (gup c) W1:=by
   rw [E0.out]
   unfold pAc
   rw [qaf hp]
   exact ⟨rfl,qa1 HB.out (qa1 G0 hg)⟩
  exact ⟨rfl,e9⟩
 rw [hp] at hR
 obtain ⟨u1,rfl,hv,t1,g1⟩:=qao hR
 have q:u1=I k:=hv
 subst q
 have GG:=qa1 G0 g1
 have EE:Hid (pAc l0=(andP p1 fun t=>andP (pn 4) fun m=>retP ⟨k,t,m⟩) l1):=by
  show _=_
  rw [E0.out]
  unfold pAc
  rw [qa7 hp]
 skip
 refine hK.out _ _ (HX.out W1 GG) (fun hSS=>?_)
 clear hSS hK K hR hp E0 G0 t0
 have G0:=GG
 have E0:=EE
 clear GG EE g1
 try simp only [qN]
 refine qR1 (i:=3) rfl (fun K hK=>?_)
 go_simp
 refine (qb4 t1).mono ?_
 intro e W2 hR
 rcases hp:p1 l1 with c | ⟨t,l2⟩
 ·rw [hp] at hR
  obtain ⟨rfl,hg⟩:=qap hR
  have e9:RP w lo r VAc (pAc l0) (gup c) W2:=by
   rw [E0.out]
   skip
   rw [qaf hp]
   exact ⟨rfl,qa1 HB.out (qa1 G0 hg)⟩
  exact ⟨rfl,e9⟩
 rw [hp] at hR
 obtain ⟨u2,rfl,hv,t2,g2⟩:=qao hR
 have q:u2=I t:=hv
 subst q
 have GG:=qa1 G0 g2
 have EE:Hid (pAc l0=(andP (pn 4) fun m=>retP ⟨k,t,m⟩) l2):=by
  show _=_
  rw [E0.out]
  skip
  rw [qa7 hp]
 skip
 refine hK.out _ _ (HX.out W2 GG) (fun hSS=>?_)
 clear hSS hK K hR hp E0 G0 t1
 have G0:=GG
 have E0:=EE
 clear GG EE g2
 try simp only [qN]
 refine qR1 (i:=5) rfl (fun K hK=>?_)
 go_simp
 refine (qdh t2).mono ?_
 intro e W3 hR
 rcases hp:pn 4 l2 with c | ⟨m,l3⟩
 ·rw [hp] at hR
  obtain ⟨rfl,hg⟩:=qap hR
  have e9:RP w lo r VAc (pAc l0) (gup c) W3:=by
   rw [E0.out]
   skip
   rw [qaf hp]
   exact ⟨rfl,qa1 HB.out (qa1 G0 hg)⟩
  exact ⟨rfl,e9⟩
 rw [hp] at hR
 obtain ⟨u3,rfl,hv,t3,g3⟩:=qao hR
 have q:u3=.int .u32 (m:Int):=hv
 subst q
 have GG:=qa1 G0 g3
 have EE:Hid (pAc l0=(retP ⟨k,t,m⟩) l3):=by
  show _=_
  rw [E0.out]
  skip
  rw [qa7 hp]
 skip
 refine hK.out _ _ (HX.out W3 GG) (fun hSS=>?_)
 clear hSS hK K hR hp E0 G0 t2
 have G0:=GG
 have E0:=EE
 clear GG EE g3
 try simp only [qN]
 refine wpAnyH_take (i:=6) (v:=.agg #[I k,I t,.int .u32 (m:Int)]) rfl (by kernel_rfl) (by kernel_rfl) (by kernel_rfl) (fun _ _ _ h=>h) (Or.inl ⟨by rfl,?_⟩) (HX.out W3 G0) ?_
 ·intro w' hSw
  try dsimp only at hSw
  go_simp
 try simp only [qN]
 have hY:=HY.out W3 G0
 have cY0:(W3).cell? ⟨w.heap.size+1,0,none⟩=some (I 0):=by rw [qcr hY];rfl
 have fY0:(W3).frozen? ⟨w.heap.size+1,0,none⟩=false:=frozen_of_row _ _ _ _ _ hY
 have hY0:=heap_setCell_same (W3) (w.heap.size+1) 0 _ _ (I k) hY
 have cY1:((W3).setCell ⟨w.heap.size+1,0,none⟩ (I k)).cell? ⟨w.heap.size+1,1,none⟩=some (I 0):=by rw [qcr hY0];rfl
 have fY1:((W3).setCell ⟨w.heap.size+1,0,none⟩ (I k)).frozen? ⟨w.heap.size+1,1,none⟩=false:=frozen_of_row _ _ _ _ _ hY0
 have hY1:=heap_setCell_same ((W3).setCell ⟨w.heap.size+1,0,none⟩ (I k)) (w.heap.size+1) 1 _ _ (I t) hY0
 have cY2:(qS2 W3 (w.heap.size+1) (I k) (I t)).cell? ⟨w.heap.size+1,2,none⟩=some (.int .u32 0):=by rw [qcr hY1];rfl
 have fY2:(qS2 W3 (w.heap.size+1) (I k) (I t)).frozen? ⟨w.heap.size+1,2,none⟩=false:=frozen_of_row _ _ _ _ _ hY1
 have hY2:=heap_setCell_same (qS2 W3 (w.heap.size+1) (I k) (I t)) (w.heap.size+1) 2 _ _ (.int .u32 (m:Int)) hY1
 refine qR1 (i:=7) rfl (fun K hK=>?_)
 go_simp
 have hSf:(qS3 W3 (w.heap.size+1) (I k) (I t) (.int .u32 (m:Int))).cell? ⟨w.heap.size,0,none⟩=some (.pointer (some ⟨r,0,none⟩)):=by
  have hz:=HX.out W3 G0
  repeat rw [World.cell?_setCell_far _ _ _ _ (by show w.heap.size+1≠w.heap.size;omega)]
  exact hz
 refine hK.out _ _ hSf (fun hSS=>?_)
 clear hSS hK K
 try simp only [qN]
 refine wpAnyH_done (by kernel_rfl) ?_ _
 have hYL:(qS3 W3 (w.heap.size+1) (I k) (I t) (.int .u32 (m:Int))).heap[w.heap.size+1]?=some (.cells #[I k,I t,.int .u32 (m:Int)] 83):=hY2
 have hEnd:RP w lo r VAc (pAc l0) (.returned (.agg #[I k,I t,.int .u32 (m:Int)])) (qS3 W3 (w.heap.size+1) (I k) (I t) (.int .u32 (m:Int))):=by
  rw [E0.out]
  skip
  refine ⟨_,rfl,rfl,(((t3.setY (by omega)).setY (by omega)).setY (by omega)),(qaa (qaa (qaa (qa1 HB.out G0) (by omega)) (by omega)) (by omega))⟩
 clear E0
 go_wp2
 refine bodyPost_ret (qqd Tryz.results172 _ (w.heap.size+1) _ _ _ _ rfl hYL ⟨rfl,rfl,rfl⟩) rfl ?_
 exact hEnd
theorem qo2 {W:World} {lo r X j:Nat} {l:List UInt8} (t0:Rst W lo r l) (hX:W.cell? ⟨X,0,none⟩=some (.pointer (some ⟨r,0,none⟩))):Calls Tryz.prog 186 #[I j,.pointer (some ⟨X,0,none⟩)] W fun e w'=>RP W lo r VI (p1 l) e w':=by
 have hN:=qb4 t0
 rcases hp:p1 l with c | ⟨x,l'⟩
 ·rw [hp] at hN
  clear hp t0
  go_enter Tryz.func186,Tryz.ntmps186
  go_wp2_with (first | (go_at_call 104;refine hN.mono ?_;clear hN;rintro e w2 ⟨rfl,hg⟩))
  exact ⟨rfl,rfl,hg⟩
 ·rw [hp] at hN
  clear hp t0
  go_enter Tryz.func186,Tryz.ntmps186
  go_wp2_with (first | (go_at_call 104;refine hN.mono ?_;clear hN;rintro e w2 ⟨u,rfl,rfl,hr,hg⟩;have H:Hid (Rst w2 lo r l'∧W.grownBy w2 (some r)):=⟨hr,hg⟩;clear hr hg))
  go_ret
  exact ⟨_,rfl,rfl,H.out⟩
theorem qkh {w:World} {lo r:Nat} {l0:List UInt8} (t0:Rst w lo r l0):Calls Tryz.prog 170 #[rdP r] w fun e w'=>RP w lo r (VL lo) (pL l0) e w':=by
 have hN:=qb4 (t0.al (rdO r))
 have hc0:=qc7 w r
 have hrl:=t0.lt
 have hlo:=t0.le
 have HB:Hid (w.grownBy (w.alloc (rdO r)) (some r)):=qad (qa0 w _)
 unfold pL
 rcases hp:pn 1 l0 with c | ⟨n,l1⟩
 ·rw [show p1 l0=.error c from qaf hp] at hN
  rw [qaf hp]
  clear hp t0
  go_enter Tryz.func170,Tryz.ntmps170
  go_upto_region 1 with fail
  generalize w.alloc (rdO r)=w1 at *
  go_wp2_with (first | (go_at_call 104;refine hN.mono ?_;clear hN;rintro e w2 ⟨rfl,hg⟩))
  exact ⟨rfl,rfl,qa1 HB.out hg⟩
 ·have hn:n < 256:=qci hp
  rw [show p1 l0=.ok ((n:Int),l1) from qa7 hp] at hN
  rw [qa7 hp]
  clear hp t0
  go_enter Tryz.func170,Tryz.ntmps170
  go_upto_region 1 with fail
  generalize w.alloc (rdO r)=w1 at *
  go_wp2_with (first | (go_at_call 104;refine hN.mono ?_;clear hN;rintro e w2 ⟨u,rfl,rfl,hr,hg⟩))
  have hX:∀W,w2.grownBy W (some r)→W.cell? ⟨w.heap.size,0,none⟩=some (.pointer (some ⟨r,0,none⟩)):=fun W hW=>(qa1 hg hW).cell hc0 (by show some w.heap.size≠some r;intro e;cases e;omega)
  have hR:=qjp n (by omega) hr 186 #[] #[.pointer (some ⟨w.heap.size,0,none⟩)] (fun _ _=>rfl) (fun W l' j hW ht _=>qo2 ht (hX W hW))
  clear hX hr
  refine hR.mono ?_
  intro e W1 hR1
  rcases hq:qa4 p1 n l1 with c | ⟨xs,l2⟩
  ·rw [hq] at hR1
   obtain ⟨rfl,hg1⟩:=qap hR1
   have e9:RP w lo r (VL lo) (qa4 p1 n l1) (gup c) W1:=by rw [hq];exact ⟨rfl,qa1 HB.out (qa1 hg hg1)⟩
   exact ⟨rfl,e9⟩
  ·rw [hq] at hR1
   obtain ⟨u,rfl,⟨sa,sc,cs,rfl,o1,x1⟩,t1,g1⟩:=qao hR1
   have e9:RP w lo r (VL lo) (qa4 p1 n l1) (.returned (.slice sa xs.length sc)) W1:=by rw [hq];exact ⟨_,rfl,⟨sa,sc,rfl,by rw [qo1 x1] at o1;exact o1⟩,t1,qa1 HB.out (qa1 hg g1)⟩
   clear hR hR1 o1 x1 t1 g1 hg
   go_wp2
   go_ret
   exact e9
theorem qhl (w:World) (f:Nat) (h:f≤1):Calls Tryz.prog 171 #[I f] w fun e w'=>e=.returned (.bool (decide (f=1)))∧w'=w:=by
 have hn:¬((f:Int) > 1):=by omega
 have e:((f:Int)==1)=decide (f=1):=by
  by_cases hf:f=1
  ·subst hf;rfl
  ·rw [decide_eq_false hf,beq_eq_false_iff_ne];omega
 have HE:Hid (((f:Int)==1)=decide (f=1)):=e
 clear e
 go_enter Tryz.func171,Tryz.ntmps171
 go_wp2
 go_ret
 exact ⟨by rw [←HE.out];rfl,rfl⟩
theorem qiy (w:World) (f:Nat) (h:¬f≤1):Calls Tryz.prog 171 #[I f] w fun e w'=>e=gup 103∧w'=w:=by
 have hn:(f:Int) > 1:=by omega
 go_enter Tryz.func171,Tryz.ntmps171
 go_wp2_with (first | (go_at_call 120;refine (qeq _ 103).mono ?_;rintro e w3 ⟨rfl,rfl⟩))
 exact ⟨rfl,rfl,rfl⟩
end Go.Proofs.YtijgopkhdjaolaaGreat
