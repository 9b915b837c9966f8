import Derived.Test.YtijgopkhdjaolabGreatXHc
import Derived.Deep.RegionHeldLaw
set_option linter.unusedSimpArgs false
set_option linter.unusedVariables false
set_option maxHeartbeats 16000000
set_option maxRecDepth 100000
namespace Go.Proofs.YtijgopkhdjaolabGreat
open Go.RowKit Go.Shelf Go.Sort
open Go.Proofs.YtijgopkhdjaolabGreat.Ob (leB leV qa8 qag crc Rd RdAll qa7)
theorem qos {w:World} {b1 b2 e1 e2 k1 k2 n1 n2:Nat} {v1 v2:Value} {x1 x2:List Value} (h1:w.ownsRow b1 e1 k1 v1 n1 x1) (h2:w.ownsRow b2 e2 k2 v2 n2 x2) (he:e1≠e2) {g:Nat} (hg:v1.ownBlock=some g):v2.ownBlock≠some g:=by
 intro e;rcases h1.2 with ⟨rfl,rfl⟩ | ⟨g1,c1,cur1,rfl,_,q1,_⟩
 ·cases hg
 ·rcases h2.2 with ⟨rfl,rfl⟩ | ⟨g2,c2,cur2,rfl,_,q2,_⟩
  ·cases e
  ·have e1':g1=g:=Option.some.inj hg
   have e2':g2=g:=Option.some.inj e;subst e1' e2';rw [q1] at q2;cases q2;exact he rfl
theorem qbk {w:World} {b b' e k n:Nat} {v:Value} {xs:List Value} (h:w.ownsRow b e k v n xs) (hb:b'≤b):w.ownsRow b' e k v n xs:=by
 refine ⟨h.1,?_⟩;rcases h.2 with q | ⟨g,cap,cur,q1,q2,q3⟩
 ·exact .inl q
 ·exact .inr ⟨g,cap,cur,q1,Nat.le_trans hb q2,q3⟩
theorem qba {w:World} {b e k n:Nat} {v:Value} {xs:List Value} (h:w.ownsRow b e k v n xs):w.ownsRow 0 e k v n xs:=qbk h (Nat.zero_le _)
theorem qmy (w:World) (x:Value) (t:TypeId):∀j u,([x]:List Value)[j]?=some u→(w.alloc (.cells #[x] t)).cell? ((⟨w.heap.size,0,none⟩:Addr).add j)=some u:=by
 intro j u hj;have hlt:j < 1:=(List.getElem?_eq_some_iff.1 hj).1;obtain rfl:j=0:=by omega
 rw [qd6,qcr (heap_alloc_new w _)];exact hj
structure SegL (w W:World) (us:List Value) (ls:List (List UInt8)):Prop where
 n:us.length=ls.length
 r:∀(j:Nat) (l:List UInt8) (v:Value),ls[j]?=some l→us[j]?=some v→W.ownsRow 0 5 1 v l.length (Bs8 l)
theorem SegL.below {w W W':World} {us:List Value} {ls:List (List UInt8)} (h:SegL w W us ls) (hb:qB W W'):SegL w W' us ls:=⟨h.n,fun j l v e1 e2=>qad (h.r j l v e1 e2) hb⟩
theorem SegL.grown {w W W':World} {us:List Value} {ls:List (List UInt8)} {b e k n:Nat} {v:Value} {xs:List Value} (h:SegL w W us ls) (ho:W.ownsRow b e k v n xs) (he:e≠5) (hg:W.grownBy W' v.ownBlock):SegL w W' us ls:=⟨h.n,fun j l u e1 e2=>(h.r j l u e1 e2).kept hg (by
 cases hu:u.ownBlock with
 | none=>exact .inl rfl
 | some g=>exact .inr (by rw [←hu];intro q;exact qos (h.r j l u e1 e2) ho (fun q=>he q.symm) hu (by rw [←q,hu])))⟩
theorem SegL.snoc {w W:World} {us:List Value} {ls:List (List UInt8)} (h:SegL w W us ls) {v:Value} {l:List UInt8} (hv:W.ownsRow 0 5 1 v l.length (Bs8 l)):SegL w W (us++[v]) (ls++[l]):=by
 refine ⟨by simp [h.n],fun j l' v' e1 e2=>?_⟩;by_cases hj:j < ls.length
 ·rw [List.getElem?_append_left hj] at e1
  rw [List.getElem?_append_left (by rw [h.n];exact hj)] at e2;exact h.r j l' v' e1 e2
 ·have hlt:j < (ls++[l]).length:=(List.getElem?_eq_some_iff.1 e1).1
  rw [List.length_append] at hlt;simp at hlt;obtain rfl:j=ls.length:=by omega
  rw [List.getElem?_append_right (Nat.le_refl _)] at e1;rw [List.getElem?_append_right (by rw [h.n];exact Nat.le_refl _),h.n] at e2;simp at e1 e2;subst e1 e2;exact hv
def RwB (w W:World) (u:Value) (ls:List (List UInt8)):Prop:=∃us,W.ownsRow w.heap.size 22 1 u ls.length us∧SegL w W us ls
theorem RwB.below {w W W':World} {u:Value} {ls:List (List UInt8)} (h:RwB w W u ls) (hb:qB W W'):RwB w W' u ls:=by
 obtain ⟨us,h1,h2⟩:=h;exact ⟨us,qad h1 hb,h2.below hb⟩
theorem RwB.rows {w W:World} {u:Value} {ls:List (List UInt8)} (h:RwB w W u ls):∃s:Sl,u=slT s∧RowsAt W 1 (segB W) s ls:=by
 obtain ⟨us,h1,h2⟩:=h;obtain ⟨a,c,rfl⟩:=qam h1;refine ⟨⟨a,ls.length,c⟩,rfl,⟨rfl,?_,?_,fun j x hj=>?_⟩⟩
 ·rcases h1.2 with ⟨q,q2⟩ | ⟨g,cap,cur,q,_,_,hle,hm,_⟩
  ·show ls.length≤c
   rw [q2];exact Nat.zero_le _
  ·cases q;exact hle
 ·rcases h1.2 with ⟨q,q2⟩ | ⟨g,cap,cur,q,_,_,hle,hm,_⟩
  ·show c≤maxLen
   rw [(Value.slice.inj q).2.2];exact Nat.zero_le _
  ·cases q;exact hm
 ·have hlt:j < ls.length:=(List.getElem?_eq_some_iff.1 hj).1
  rcases h1.2 with ⟨q,q2⟩ | ⟨g,cap,cur,q,_,hh,hle,hm,_⟩
  ·omega
  ·cases q
   refine ⟨g,0,rfl,(Array.getElem?_eq_some_iff.1 hh).1,fun i hi=>?_⟩;obtain rfl:i=0:=by omega
   obtain ⟨v,hv⟩:∃v,us[j]?=some v:=⟨_,List.getElem?_eq_getElem (by rw [h2.n];exact hlt)⟩
   refine ⟨v,?_,?_⟩
   ·have:=h1.cells rfl j v hv
    rw [qd6] at this;simpa using this
   ·have:=h2.r j x v hj hv
    unfold segB;rw [qd8];exact qc7 this
theorem qri : (Tryz.prog.info? 22).map (fun i=>(i.zero,i.size,i.bytes))=some (some qZ,1,24):=by kernel_rfl
theorem qrj : (Tryz.prog.info? 140).map (fun i=>(i.zero,i.size,i.bytes))=some (some (.agg #[.int .u64 0,I 0]),2,16):=by kernel_rfl
theorem qhm {α:Type} (mk:Nat→α) (j:Nat):(List.range (j+1)).map mk=(List.range j).map mk++[mk j]:=by rw [List.range_succ,List.map_append];rfl
theorem qpl (w:World) (n:Nat) (hn:n≤1000) (f:Nat) (bnd caps:Array Value) (eg:∀args W,(callFunc f args).run Tryz.prog W=.ok (.enter f args) W) (mk:Nat→List UInt8)
  (hf:∀W,qB w W→∀j,j < n→Calls Tryz.prog f (bnd++#[I j]++caps) W fun e w'=>∃u,e=.returned u∧w'.ownsRow 0 5 1 u (mk j).length (Bs8 (mk j))∧qB W w') :
  Calls Tryz.prog 75 #[I n,.func (.func f) bnd caps] w fun e w'=>∃u,e=.returned u∧RwB w w' u ((List.range n).map mk)∧qB w w':=by
 obtain ⟨im,him,hm0,hm1,hm2⟩:=info_parts qri;have HF:Hid (∀W,qB w W→∀j,j < n→Calls Tryz.prog f (bnd++#[I j]++caps) W fun e w'=>∃u,e=.returned u∧w'.ownsRow 0 5 1 u (mk j).length (Bs8 (mk j))∧qB W w'):=hf;have HI:Hid (RwB w w qZ ((List.range 0).map mk)∧qB w w):=⟨⟨[],World.ownsRow_nil _ _ _ _,⟨rfl,fun j l v e=>by simp at e⟩⟩,Below.refl _ _⟩;clear hf;go_enter Tryz.func75,Tryz.ntmps75
 go_wp2;go_loopw [5,6,8] (fun v5 _ v8 wr=>∃j:Nat,j≤n∧v8=I j∧Hid (RwB w wr v5 ((List.range j).map mk)∧qB w wr)) (fun _ _ v8 _=>n - (intOf v8).toNat)
 case atStart=>exact ⟨0,by omega,rfl,HI.out⟩
 case round=>
  clear HI;obtain ⟨j,hj,rfl,HJ⟩:=hrel;by_cases hlt:j < n
  ·have hlt':(j:Int) < n:=by omega
   have cx:=HF.out wr HJ.out.2 j hlt;go_wp2;refine cx.mono ?_;clear cx;rintro e7 w7 ⟨u,rfl,o7,b7⟩;have H7:Hid (RwB w w7 u5 ((List.range j).map mk)∧qB w w7∧w7.ownsRow 0 5 1 u (mk j).length (Bs8 (mk j))):=⟨HJ.out.1.below b7,HJ.out.2.trans (b7.mono HJ.out.2.size),o7⟩;obtain ⟨us,h1,h2⟩:=H7.out.1;obtain ⟨ua,uc,rfl⟩:=qam o7;have hw7:=H7.out.2.1.size;have h1':w7.ownsRow w.heap.size 22 1 u5 j us:=by simpa using h1
   have hO:=h1'.alloc (.cells #[.slice ua (mk j).length uc] 22);have H8:Hid (SegL w w7 us ((List.range j).map mk)∧w7.ownsRow w.heap.size 22 1 u5 j us):=⟨h2,h1'⟩;clear h1 h2 h1' b7 o7 HJ;go_wp2_with (first
    | (at_builtin;refine wpList_append_own _ rfl (.tmp 11) (.tmp 15) 92 rfl w.heap.size 22 im qZ 1 24 Tryz.underlying92 him hm0 hm1 hm2 rfl (by decide) _ _ _ rfl hO ⟨w7.heap.size,0,none⟩ 1 1 [.slice ua (mk j).length uc] rfl rfl (qmy _ _ _) (by intro u hu;simp at hu;subst hu;rfl) (by unfold maxLen;omega) (by omega) (by simp;omega) ?_;intro v6 w6 ho6 hg6 _;have H9:Hid (RwB w w6 v6 ((List.range (j+1)).map mk)∧qB w w6):=⟨⟨us++[.slice ua (mk j).length uc],(by rw [qhm,List.length_append];simpa using ho6),(by rw [qhm];exact (((H8.out.1.snoc H7.out.2.2).below (qa0 w7 _)).grown hO (by decide) hg6))⟩,Below.grown hO (H7.out.2.1.trans ((qa0 w7 _).mono hw7)) hg6⟩;clear ho6 hg6 hO))
   go_roundw
   case rel=>exact ⟨j+1,by omega,by go_num,H9.out⟩
   case measure=>simp [intOf];omega
  ·obtain rfl:j=n:=by omega
   have hge:¬((j:Int) < j):=by omega
   clear HF;go_wp2;go_ret;exact ⟨_,rfl,HJ.out⟩
end Go.Proofs.YtijgopkhdjaolabGreat
namespace Go.Proofs.YtijgopkhdjaolabGreat
open Go.RowKit Go.Shelf Go.Sort
open Go.Proofs.YtijgopkhdjaolabGreat.Ob (leB leV qa8 qag crc Rd RdAll qa7 Rdr)
theorem qa1 {a b c:World} {r:Option Nat} (h:a.grownBy b r) (k:b.grownBy c r):a.grownBy c r:=
 ⟨k.os.trans h.os,k.tape.trans h.tape,k.output.trans h.output,Nat.le_trans h.size k.size,fun i hi hne=>(k.block i (Nat.lt_of_lt_of_le hi h.size) hne).trans (h.block i hi hne)⟩
theorem qec {a b c:World} {r:Option Nat} (h:a.grownBy b r) (k:qB b c):a.grownBy c r:=qa1 h (qah k)
structure Rst (w:World) (lo r:Nat) (l:List UInt8):Prop where
 rd:∃base,Rdr w base r l
 lt:r < lo
 le:lo≤w.heap.size
theorem Rst.below {w w':World} {lo r:Nat} {l:List UInt8} (h:Rst w lo r l) (hb:qB w w'):Rst w' lo r l:=by
 obtain ⟨⟨base,a,cap,q⟩,h2,h3⟩:=h;exact ⟨⟨base,a,cap,q.below hb⟩,h2,Nat.le_trans h3 hb.size⟩
theorem Rst.al {w:World} {lo r:Nat} {l:List UInt8} (h:Rst w lo r l) (o:Obj):Rst (w.alloc o) lo r l:=h.below (qa0 w o)
abbrev gup (c:Nat):Ending:=.panicked [{ v:=.iface 98 (.agg #[I c]),recovered:=false }]
abbrev rdP (r:Nat):Value:=.agg #[.pointer (some ⟨r,0,none⟩)]
def RP {α:Type} (w:World) (lo r:Nat) (V:World→α→Value→Prop) (m:Except Nat (α×List UInt8)) (e:Ending) (w':World):Prop:=match m with
 | .ok (x,l)=>∃u,e=.returned u∧V w' x u∧Rst w' lo r l∧w.grownBy w' (some r)
 | .error c=>e=gup c∧w.grownBy w' (some r)
def VI (_:World) (x:Int) (u:Value):Prop:=u=I x
def VN (_:World) (x:Nat) (u:Value):Prop:=u=.int .u64 (x:Int)
def V4 (_:World) (x:Nat) (u:Value):Prop:=u=(qU x)
theorem qfg (w:World) (c:Nat):Calls Tryz.prog 52 #[I c] w fun e w'=>e=gup c∧w'=w:=by
 go_enter Tryz.func52,Tryz.ntmps52
 go_wp2;exact ⟨rfl,rfl,rfl⟩
theorem qot {w:World} {lo r:Nat} {l:List UInt8} (h:Rst w lo r l) (m:Nat) (h1:1≤m) (h2:m≤8) (hm:m≤l.length):Calls Tryz.prog 108 #[.pointer (some ⟨r,0,none⟩),I m] w fun e w'=>e=.returned (.tuple #[.int .u64 (leV (l.take m):Nat),I 0])∧Rst w' lo r (l.drop m)∧w.grownBy w' (some r):=by
 obtain ⟨⟨base,a,cap,q⟩,k2,k3⟩:=h;refine (Ob.rnumber_made q m h1 h2 hm).mono ?_;rintro e w' ⟨rfl,hr,hg⟩;exact ⟨rfl,⟨⟨base,hr⟩,k2,Nat.le_trans k3 hg.size⟩,hg⟩
theorem qqe {w:World} {lo r:Nat} {l:List UInt8} (h:Rst w lo r l) (m:Nat) (h1:1≤m) (h2:m≤8) (hm:l.length < m):Calls Tryz.prog 108 #[.pointer (some ⟨r,0,none⟩),I m] w fun e w'=>e=.returned (.tuple #[.int .u64 0,I 10])∧w'=w:=by
 obtain ⟨⟨base,a,cap,q⟩,k2,k3⟩:=h;refine (Ob.rnumber_short q m (by omega) (by omega) (by omega)).mono ?_;rintro e w' ⟨rfl,hr⟩;exact ⟨rfl,hr.symm⟩
theorem qez {w:World} {lo r:Nat} {l:List UInt8} (h:Rst w lo r l) (m:Nat) (h1:1≤m) (h2:m≤8):Calls Tryz.prog 110 #[rdP r,I m] w fun e w'=>RP w lo r VN (pn m l) e w':=by
 unfold pn;have hb0:=qa0 w (.cells #[.pointer (some ⟨r,0,none⟩)] 104);have hc0:(w.alloc (.cells #[.pointer (some ⟨r,0,none⟩)] 104)).cell? ⟨w.heap.size,0,none⟩=some (.pointer (some ⟨r,0,none⟩)):=by rw [qcr (heap_alloc_new w _)];rfl
 by_cases hm:m≤l.length
 ·have hN:=qot (h.al (.cells #[.pointer (some ⟨r,0,none⟩)] 104)) m h1 h2 hm
  rw [if_pos hm];have HB:Hid (qB w (w.alloc (.cells #[.pointer (some ⟨r,0,none⟩)] 104))):=hb0;clear hb0 h;go_enter Tryz.func110,Tryz.ntmps110
  go_upto_region 1 with fail;generalize w.alloc (.cells #[.pointer (some ⟨r,0,none⟩)] 104)=w1 at *;go_wp2_with (first | (go_at_call 108;refine hN.mono ?_;clear hN;rintro e w2 ⟨rfl,hr,hg⟩;have H:Hid (Rst w2 lo r (l.drop m)∧w1.grownBy w2 (some r)):=⟨hr,hg⟩;clear hr hg));go_ret;exact ⟨_,rfl,rfl,H.out.1,qa1 (qah HB.out) H.out.2⟩
 ·have hN:=qqe (h.al (.cells #[.pointer (some ⟨r,0,none⟩)] 104)) m h1 h2 (by omega)
  rw [if_neg hm];have HB:Hid (qB w (w.alloc (.cells #[.pointer (some ⟨r,0,none⟩)] 104))):=hb0;clear hb0 h;go_enter Tryz.func110,Tryz.ntmps110
  go_upto_region 1 with fail;generalize w.alloc (.cells #[.pointer (some ⟨r,0,none⟩)] 104)=w1 at *;go_wp2_with (first | (go_at_call 108;refine hN.mono ?_;clear hN;rintro e w2 ⟨rfl,rfl⟩) | (go_at_call 52;refine (qfg _ 101).mono ?_;rintro e w3 ⟨rfl,rfl⟩));exact ⟨rfl,rfl,qah HB.out⟩
theorem qaq {α:Type} {w w':World} {lo r:Nat} {V:World→α→Value→Prop} {e:Ending} {x:α} {l:List UInt8} (h:RP w lo r V (.ok (x,l)) e w'):∃u,e=.returned u∧V w' x u∧Rst w' lo r l∧w.grownBy w' (some r):=h
theorem qar {α:Type} {w w':World} {lo r:Nat} {V:World→α→Value→Prop} {e:Ending} {c:Nat} (h:RP w lo r V (.error c) e w'):e=gup c∧w.grownBy w' (some r):=h
theorem qcw {m x:Nat} {l l':List UInt8} (h:pn m l=.ok (x,l')):x < 256 ^ m:=((qav m).bwd _ _ _ h).1
abbrev rdO (r:Nat):Obj:=.cells #[.pointer (some ⟨r,0,none⟩)] 104
theorem qcq (w:World) (r:Nat):(w.alloc (rdO r)).cell? ⟨w.heap.size,0,none⟩=some (.pointer (some ⟨r,0,none⟩)):=by rw [qcr (heap_alloc_new w _)];rfl
theorem qbd {w:World} {lo r:Nat} {l:List UInt8} (h:Rst w lo r l):Calls Tryz.prog 36 #[rdP r] w fun e w'=>RP w lo r VI (p1 l) e w':=by
 have hN:=qez (h.al (rdO r)) 1 (by omega) (by omega);have hc0:=qcq w r;have HB:Hid (qB w (w.alloc (rdO r))):=qa0 w _;clear h;unfold p1;cases hp:pn 1 l with
 | error c=>
  rw [hp] at hN;rw [qaj hp];clear hp;go_enter Tryz.func36,Tryz.ntmps36
  go_upto_region 1 with fail;generalize w.alloc (rdO r)=w1 at *;go_wp2_with (first | (go_at_call 110;refine hN.mono ?_;clear hN;rintro e w2 ⟨rfl,hg⟩));exact ⟨rfl,rfl,qa1 (qah HB.out) hg⟩
 | ok q=>
  obtain ⟨x,l'⟩:=q;have hx1:x < 4294967296:=Nat.lt_of_lt_of_le (qcw hp) (by decide);rw [hp] at hN;rw [qa9 hp];clear hp;have hw:IntKind.i64.wrap (x:Int)=x:=by rw [IntKind.wrap_i64];omega
  go_enter Tryz.func36,Tryz.ntmps36
  go_upto_region 1 with fail;generalize w.alloc (rdO r)=w1 at *;go_wp2_with (first | (go_at_call 110;refine hN.mono ?_;clear hN;rintro e w2 ⟨u,rfl,rfl,hr,hg⟩;have H:Hid (Rst w2 lo r l'∧w1.grownBy w2 (some r)):=⟨hr,hg⟩;clear hr hg));go_ret;exact ⟨_,rfl,rfl,H.out.1,qa1 (qah HB.out) H.out.2⟩
theorem qed {w:World} {lo r:Nat} {l:List UInt8} (h:Rst w lo r l):Calls Tryz.prog 35 #[rdP r] w fun e w'=>RP w lo r VI (p2 l) e w':=by
 have hN:=qez (h.al (rdO r)) 2 (by omega) (by omega);have hc0:=qcq w r;have HB:Hid (qB w (w.alloc (rdO r))):=qa0 w _;clear h;unfold p2;cases hp:pn 2 l with
 | error c=>
  rw [hp] at hN;rw [qaj hp];clear hp;go_enter Tryz.func35,Tryz.ntmps35
  go_upto_region 1 with fail;generalize w.alloc (rdO r)=w1 at *;go_wp2_with (first | (go_at_call 110;refine hN.mono ?_;clear hN;rintro e w2 ⟨rfl,hg⟩));exact ⟨rfl,rfl,qa1 (qah HB.out) hg⟩
 | ok q=>
  obtain ⟨x,l'⟩:=q;have hx1:x < 4294967296:=Nat.lt_of_lt_of_le (qcw hp) (by decide);rw [hp] at hN;rw [qa9 hp];clear hp;have hw:IntKind.i64.wrap (x:Int)=x:=by rw [IntKind.wrap_i64];omega
  go_enter Tryz.func35,Tryz.ntmps35
  go_upto_region 1 with fail;generalize w.alloc (rdO r)=w1 at *;go_wp2_with (first | (go_at_call 110;refine hN.mono ?_;clear hN;rintro e w2 ⟨u,rfl,rfl,hr,hg⟩;have H:Hid (Rst w2 lo r l'∧w1.grownBy w2 (some r)):=⟨hr,hg⟩;clear hr hg));go_ret;exact ⟨_,rfl,rfl,H.out.1,qa1 (qah HB.out) H.out.2⟩
theorem qe4 {w:World} {lo r:Nat} {l:List UInt8} (h:Rst w lo r l):Calls Tryz.prog 111 #[rdP r] w fun e w'=>RP w lo r V4 (pn 4 l) e w':=by
 have hN:=qez (h.al (rdO r)) 4 (by omega) (by omega);have hc0:=qcq w r;have HB:Hid (qB w (w.alloc (rdO r))):=qa0 w _;clear h;skip;cases hp:pn 4 l with
 | error c=>
  rw [hp] at hN;skip;clear hp;go_enter Tryz.func111,Tryz.ntmps111
  go_upto_region 1 with fail;generalize w.alloc (rdO r)=w1 at *;go_wp2_with (first | (go_at_call 110;refine hN.mono ?_;clear hN;rintro e w2 ⟨rfl,hg⟩));exact ⟨rfl,rfl,qa1 (qah HB.out) hg⟩
 | ok q=>
  obtain ⟨x,l'⟩:=q;have hx1:x < 4294967296:=Nat.lt_of_lt_of_le (qcw hp) (by decide);rw [hp] at hN;skip;clear hp;have hw:IntKind.u32.wrap (x:Int)=x:=by rw [IntKind.wrap_u32];omega
  go_enter Tryz.func111,Tryz.ntmps111
  go_upto_region 1 with fail;generalize w.alloc (rdO r)=w1 at *;go_wp2_with (first | (go_at_call 110;refine hN.mono ?_;clear hN;rintro e w2 ⟨u,rfl,rfl,hr,hg⟩;have H:Hid (Rst w2 lo r l'∧w1.grownBy w2 (some r)):=⟨hr,hg⟩;clear hr hg));go_ret;exact ⟨_,rfl,rfl,H.out.1,qa1 (qah HB.out) H.out.2⟩
theorem qjg {w:World} {lo r:Nat} {l:List UInt8} (h:Rst w lo r l):Calls Tryz.prog 112 #[rdP r] w fun e w'=>RP w lo r VI (pM l) e w':=by
 have hN:=qbd (h.al (rdO r));have hc0:=qcq w r;have HB:Hid (qB w (w.alloc (rdO r))):=qa0 w _;unfold pM;clear h;cases hp:pn 1 l with
 | error c=>
  rw [show p1 l=.error c from qaj hp] at hN;rw [qaj hp];clear hp;go_enter Tryz.func112,Tryz.ntmps112
  go_upto_region 1 with fail;generalize w.alloc (rdO r)=w1 at *;go_wp2_with (first | (go_at_call 36;refine hN.mono ?_;clear hN;rintro e w2 ⟨rfl,hg⟩));exact ⟨rfl,rfl,qa1 (qah HB.out) hg⟩
 | ok q=>
  obtain ⟨x,l'⟩:=q;have hx:=qcw hp;rw [show p1 l=.ok ((x:Int),l') from qa9 hp] at hN;rw [qa9 hp];have hx1:x < 256:=hx;clear hp hx;go_enter Tryz.func112,Tryz.ntmps112
  go_upto_region 1 with fail;generalize w.alloc (rdO r)=w1 at *;go_wp2_with (first | (go_at_call 36;refine hN.mono ?_;clear hN;rintro e w2 ⟨u,rfl,rfl,hr,hg⟩;have H:Hid (Rst w2 lo r l'∧w1.grownBy w2 (some r)):=⟨hr,hg⟩;clear hr hg));go_ret;exact ⟨_,rfl,rfl,H.out.1,qa1 (qah HB.out) H.out.2⟩
end Go.Proofs.YtijgopkhdjaolabGreat
namespace Go.Proofs.YtijgopkhdjaolabGreat
open Go.RowKit Go.Shelf Go.Sort
open Go.Proofs.YtijgopkhdjaolabGreat.Ob (leB leV qa8 qag crc Rd RdAll qa7 rd_drop)
abbrev DS := List UInt8×Nat
def dSt (w:World) (r:Nat) (s:DS):Prop:=s.2 < 1000∧∃a n c,w.heap[r]?=some (.cells #[.slice a n c,I s.2] 61)∧Rd w a n c s.1∧∀b off,a=some ⟨b,off,none⟩→b < r
def DC (w:World) (r:Nat) (u:Value) (s:DS) (e:Ending) (w':World):Prop:=e=.returned u∧dSt w' r s∧w.grownBy w' (some r)
theorem dSt.lt {w:World} {r:Nat} {s:DS} (h:dSt w r s):r < w.heap.size:=by
 obtain ⟨-,a,n,c,h1,-⟩:=h;exact qa6 h1
theorem dSt.below {w w':World} {r:Nat} {s:DS} (h:dSt w r s) (hb:qB w w'):dSt w' r s:=by
 obtain ⟨h0,a,n,c,h1,h2,h3⟩:=h;exact ⟨h0,a,n,c,(hb.block _ (qa6 h1)).trans h1,h2.below hb,h3⟩
theorem qfh {w:World} {r i:Nat} {v:Value}:w.grownBy (w.setCell ⟨r,i,none⟩ v) (some r):=
 ⟨rfl,rfl,rfl,by simp [World.setCell],fun k _ hk=>heap_setCell_other _ _ _ _ (fun e=>hk (by rw [show k=r from e]))⟩
theorem qkw {w:World} {r i n c:Nat} {a:Option Addr} {v:Value} {l:List UInt8} (h:Rd w a n c l) (hr:∀b off,a=some ⟨b,off,none⟩→b < r):Rd (w.setCell ⟨r,i,none⟩ v) a n c l:=by
 refine ⟨h.hlen,h.hle,h.hsmall,h.hnil,fun hp=>?_⟩;obtain ⟨b,off,e,hb,hc⟩:=h.hcell hp;have hbr:=hr b off e;refine ⟨b,off,e,by simpa [World.setCell] using hb,fun i' x hx=>?_⟩;rw [World.cell?_of_block (w:=w) (heap_setCell_other w ⟨r,i,none⟩ b _ (by show b≠r;omega))];exact hc i' x hx
theorem dSt.setE {w:World} {r:Nat} {s:DS} (h:dSt w r s) (c:Nat) (hc:c < 1000):dSt (w.setCell ⟨r,1,none⟩ (I c)) r (s.1,c):=by
 obtain ⟨h0,a,n,cp,h1,h2,h3⟩:=h;exact ⟨hc,a,n,cp,heap_setCell_same _ _ 1 _ _ _ h1,qkw h2 h3,h3⟩
theorem dSt.setL {w:World} {r n c:Nat} {a:Option Addr} {s:DS} {l:List UInt8} (h:dSt w r s) (hr:Rd w a n c l) (ha:∀b off,a=some ⟨b,off,none⟩→b < r):dSt (w.setCell ⟨r,0,none⟩ (.slice a n c)) r (l,s.2):=by
 obtain ⟨h0,a',n',cp,h1,h2,h3⟩:=h;exact ⟨h0,a,n,c,heap_setCell_same _ _ 0 _ _ _ h1,qkw hr ha,ha⟩
def qcj (c:Nat) (s:DS):DS:=if s.2=0 then (s.1,c) else s
theorem qg0 (w:World) (r c:Nat) (s:DS) (h:dSt w r s) (hc:c < 1000):Calls Tryz.prog 62 #[.pointer (some ⟨r,0,none⟩),I c] w fun e w'=>e=.returned (.tuple #[])∧dSt w' r (qcj c s)∧w.grownBy w' (some r):=by
 have hs:=h;obtain ⟨h0,a,n,cp,h1,h2,h3⟩:=h;have c1:w.cell? ⟨r,1,none⟩=some (I s.2):=by rw [qcr h1];rfl
 have f1:=frozen_of_row w r 1 _ _ h1;by_cases he:s.2=0
 ·have hS:=hs.setE c hc
  unfold qcj;rw [if_pos he];rw [he] at c1;have HS:Hid (dSt (w.setCell ⟨r,1,none⟩ (I c)) r (s.1,c)):=hS;clear hS hs h1 h2 h3 he;go_enter Tryz.func62,Tryz.ntmps62
  go_wp2;exact ⟨rfl,_,results_none rfl _ _ _,rfl,HS.out,qfh⟩
 ·unfold qcj
  rw [if_neg he];have heI:¬((s.2:Int)=0):=by omega
  have HS:Hid (dSt w r s):=hs;clear hs h1 h2 h3;go_enter Tryz.func62,Tryz.ntmps62
  go_wp2;exact ⟨rfl,_,results_none rfl _ _ _,rfl,HS.out,⟨rfl,rfl,rfl,Nat.le_refl _,fun _ _ _=>rfl⟩⟩
def dTk (m:Nat) (s:DS):Nat×DS:=
 if s.1.length < m then (0,qcj 101 s) else if s.2=0 then (leV (s.1.take m),(s.1.drop m,0)) else (0,s)
theorem qfi {w:World} {n c m:Nat} {a:Option Addr} {l:List UInt8} (h:Rd w a n c l) (hm:m≤n) (h1:0 < m):∃b off,a=some ⟨b,off,none⟩∧Rd w (some ⟨b,off,none⟩) m c (l.take m):=by
 obtain ⟨b,off,rfl,hb,hc⟩:=h.hcell (by omega);have hl:=h.hlen;have h2:=h.hle;have h3:=h.hsmall;refine ⟨b,off,rfl,by rw [List.length_take];omega,by omega,by omega,(fun e=>by cases e),fun _=>⟨b,off,rfl,hb,fun i x hx=>?_⟩⟩;rw [List.getElem?_take] at hx;split at hx
 ·exact hc i x hx
 ·cases hx
theorem qee (w:World) (r m:Nat) (s:DS) (h:dSt w r s) (h1:1≤m) (h8:m≤8):Calls Tryz.prog 20 #[.pointer (some ⟨r,0,none⟩),I m] w (DC w r (.int .u64 ((dTk m s).1:Int)) (dTk m s).2):=by
 have hs:=h;obtain ⟨h0,a,n,cp,q1,q2,q3⟩:=h;have c0:w.cell? ⟨r,0,none⟩=some (.slice a n cp):=by rw [qcr q1];rfl
 have c1:w.cell? ⟨r,1,none⟩=some (I s.2):=by rw [qcr q1];rfl
 have f0:=frozen_of_row w r 0 _ _ q1;have hl:=q2.hlen;have HS:Hid (dSt w r s):=hs;by_cases hm:n < m
 ·have hmI:(n:Int) < m:=by omega
  have hF:=qg0 w r 101 s hs (by decide);have e1:dTk m s=(0,qcj 101 s):=by unfold dTk;rw [if_pos (by omega)]
  rw [e1];have hne:Hid ((qcj 101 s).2≠0):=by show _≠_;unfold qcj;split <;> simp_all
  clear hs q1 q2 q3;go_enter Tryz.func20,Tryz.ntmps20
  go_upto_region 2 with fail;go_upto_region 3 with (first | (go_at_call 62;refine hF.mono ?_;clear hF;rintro e w2 ⟨rfl,hd,hg⟩));have hd':=hd;obtain ⟨-,a2,n2,c2,p1,-,-⟩:=hd';have d1:w2.cell? ⟨r,1,none⟩=some (I (qcj 101 s).2):=by rw [qcr p1];rfl
  have hz:¬(((qcj 101 s).2:Int)=0):=by have:=hne.out;omega
  have HD:Hid (dSt w2 r (qcj 101 s)∧w.grownBy w2 (some r)):=⟨hd,hg⟩;clear hd hg p1;go_wp2;go_ret;exact ⟨rfl,HD.out⟩
 ·have hmI:¬((n:Int) < m):=by omega
  by_cases he:s.2=0
  ·have e1:dTk m s=(leV (s.1.take m),(s.1.drop m,0)):=by unfold dTk;rw [if_neg (by omega),if_pos he]
   rw [e1];obtain ⟨b,off,rfl,qt⟩:=qfi q2 (Nat.le_of_not_lt hm) h1;have hV:=qdr w _ _ _ _ qt h8;have hcc:=q2.hle;have hsm:=q2.hsmall;have hmn:(m:Int)≤n:=by omega
   have hmc:(m:Int)≤cp:=by omega
   have hd:=rd_drop q2 m (by omega);have hbr:=q3 b off rfl;rw [he] at c1;have hmn0:¬((n:Int) < m):=by omega
   by_cases hcm:cp=m
   ·have hD:=hs.setL (hd.1 hcm) (fun b' off' e=>by cases e;exact hbr)
    rw [he,show n - m=0 by omega] at hD;have HD:Hid (dSt (w.setCell ⟨r,0,none⟩ (.slice (some ⟨b,off,none⟩) 0 0)) r (s.1.drop m,0)):=hD;subst hcm;clear hs q1 q2 q3 qt hd hD HS;go_enter Tryz.func20,Tryz.ntmps20
    go_wp2_with (first | (go_at_call 18;refine hV.mono ?_;clear hV;rintro e w' ⟨rfl,rfl⟩));go_ret;exact ⟨rfl,HD.out,qfh⟩
   ·have hD:=hs.setL (hd.2 hcm) (fun b' off' e=>by cases e;exact hbr)
    rw [he] at hD;have HD:Hid (dSt (w.setCell ⟨r,0,none⟩ (.slice (some ⟨b,off+m,none⟩) (n - m) (cp - m))) r (s.1.drop m,0)):=hD;clear hs q1 q2 q3 qt hd hD HS;go_enter Tryz.func20,Tryz.ntmps20
    go_wp2_with (first | (go_at_call 18;refine hV.mono ?_;clear hV;rintro e w' ⟨rfl,rfl⟩));go_ret;exact ⟨rfl,HD.out,qfh⟩
  ·have e1:dTk m s=(0,s):=by unfold dTk;rw [if_neg (by omega),if_neg he]
   rw [e1];have hz:¬((s.2:Int)=0):=by omega
   clear hs q1 q2 q3;go_enter Tryz.func20,Tryz.ntmps20
   go_wp2;go_ret;exact ⟨rfl,HS.out,⟨rfl,rfl,rfl,Nat.le_refl _,fun _ _ _=>rfl⟩⟩
def dOne (s:DS):Nat×DS:=dTk 1 s
def qax (s:DS):Nat×DS:=dTk 4 s
theorem qbj (m:Nat) (s:DS) (h8:m≤8):(dTk m s).1 < 256 ^ m:=by
 unfold dTk;split
 ·exact Nat.pow_pos (by decide)
 ·split
  ·refine Nat.lt_of_lt_of_le (qag _) (Nat.pow_le_pow_right (by decide) ?_)
   rw [List.length_take];omega
  ·exact Nat.pow_pos (by decide)
theorem qbh (w:World) (r:Nat) (s:DS) (h:dSt w r s):Calls Tryz.prog 21 #[.pointer (some ⟨r,0,none⟩)] w (DC w r (I (dOne s).1) (dOne s).2):=by
 have hT:=qee w r 1 s h (by omega) (by omega);have hlt:=qbj 1 s (by omega);change Calls Tryz.prog 20 #[.pointer (some ⟨r,0,none⟩),I 1] w _ at hT;unfold dOne;generalize dTk 1 s=q at *;obtain ⟨v,s'⟩:=q;dsimp only at *;clear h;have hv:(v:Int) < 256:=by omega
 go_enter Tryz.func21,Tryz.ntmps21
 go_wp2_with (first | (go_at_call 20;refine hT.mono ?_;clear hT;rintro e w2 ⟨rfl,hd⟩;have HD:Hid (dSt w2 r s'∧w.grownBy w2 (some r)):=hd;clear hd));go_ret;exact ⟨rfl,HD.out⟩
theorem qd9 (w:World) (r:Nat) (s:DS) (h:dSt w r s):Calls Tryz.prog 65 #[.pointer (some ⟨r,0,none⟩)] w (DC w r (.int .u32 ((qax s).1:Int)) (qax s).2):=by
 have hT:=qee w r 4 s h (by omega) (by omega);have hlt:=qbj 4 s (by omega);change Calls Tryz.prog 20 #[.pointer (some ⟨r,0,none⟩),I 4] w _ at hT;unfold qax;generalize dTk 4 s=q at *;obtain ⟨v,s'⟩:=q;dsimp only at *;clear h;have hv:(v:Int) < 4294967296:=by omega
 go_enter Tryz.func65,Tryz.ntmps65
 go_wp2_with (first | (go_at_call 20;refine hT.mono ?_;clear hT;rintro e w2 ⟨rfl,hd⟩;have HD:Hid (dSt w2 r s'∧w.grownBy w2 (some r)):=hd;clear hd));go_ret;exact ⟨rfl,HD.out⟩
end Go.Proofs.YtijgopkhdjaolabGreat
