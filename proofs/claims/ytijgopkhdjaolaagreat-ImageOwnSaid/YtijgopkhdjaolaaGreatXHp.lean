import Derived.Test.YtijgopkhdjaolaaGreatXHm
import Derived.Deep.RegionHeldLaw
namespace Go.Proofs.YtijgopkhdjaolaaGreat
open Go.RowKit Go.Shelf Go.Sort
set_option linter.unusedSimpArgs false
set_option linter.unusedVariables false
set_option maxHeartbeats 16000000
set_option maxRecDepth 100000
theorem qjt (w:World) (x y:IsR) (s1 s2:Sl) (h1:RowsAt w 1 intP s1 x.own) (h2:RowsAt w 1 intP s2 y.own):Calls Tryz.prog 47 #[.agg #[I x.cat,I x.prio,slT s1],.agg #[I y.cat,I y.prio,slT s2]] w fun e w'=>e=.returned (.bool (decide (x.cat=y.cat∧x.prio=y.prio∧x.own=y.own)))∧qB w w':=by
 obtain ⟨a1,n1,c1⟩:=s1
 obtain ⟨a2,n2,c2⟩:=s2
 have hb1:=qa0 w (.cells #[I x.cat,I x.prio,.slice a1 n1 c1] 87)
 have hb2:=qa0 (w.alloc (.cells #[I x.cat,I x.prio,.slice a1 n1 c1] 87)) (.cells #[I y.cat,I y.prio,.slice a2 n2 c2] 87)
 have hb:=belT hb1 hb2
 have hE:=qmt _ _ _ _ _ (h1.below hb (fun _ _ _ _ h=>h)) (h2.below hb (fun _ _ _ _ h=>h))
 have HB:Hid (qB w ((w.alloc (.cells #[I x.cat,I x.prio,.slice a1 n1 c1] 87)).alloc (.cells #[I y.cat,I y.prio,.slice a2 n2 c2] 87))):=hb
 clear h1 h2 hb1 hb2 hb
 show Calls _ _ #[.agg #[I x.cat,I x.prio,.slice a1 n1 c1],.agg #[I y.cat,I y.prio,.slice a2 n2 c2]] _ _
 obtain ⟨c,p,l⟩:=x
 obtain ⟨d,q,m⟩:=y
 dsimp only at *
 by_cases e1:c=d
 ·by_cases e2:p=q
  ·have HD:Hid (decide (c=d∧p=q∧l=m)=decide (l=m)):=by show _=_;simp [e1,e2]
   rw [HD.out]
   clear HD
   subst e1 e2
   generalize decide (l=m)=b at *
   go_enter Tryz.func47,Tryz.ntmps47
   go_wp2_with (first | (go_at_call 121;refine hE.mono ?_;clear hE;rintro e w2 ⟨rfl,b2⟩;have B2:Hid (qB w w2):=belT HB.out b2;clear b2 HB))
   go_ret
   exact ⟨rfl,B2.out⟩
  ·have HD:Hid (decide (c=d∧p=q∧l=m)=false):=by show _=_;simp [e2]
   rw [HD.out]
   clear HD hE
   subst e1
   go_enter Tryz.func47,Tryz.ntmps47
   go_wp2
   go_ret
   exact ⟨rfl,HB.out⟩
 ·have HD:Hid (decide (c=d∧p=q∧l=m)=false):=by show _=_;simp [e1]
  rw [HD.out]
  clear HD hE
  go_enter Tryz.func47,Tryz.ntmps47
  go_wp2
  go_ret
  exact ⟨rfl,HB.out⟩
theorem qs4 (w:World) (o:Obj):(w.alloc o).heap.size=w.heap.size+1:=by first | simp | (unfold World.alloc;simp)
theorem qj3 (w:World) (x y:TkR) (s1 s2:Sl) (h1:RowsAt w 1 intP s1 x.own) (h2:RowsAt w 1 intP s2 y.own):Calls Tryz.prog 41 #[.agg #[I x.prio,I x.ring,.bool x.full,I x.limit,(qU x.mask),I x.inner,slT s1,(qU x.auto)],.agg #[I y.prio,I y.ring,.bool y.full,I y.limit,(qU y.mask),I y.inner,slT s2,(qU y.auto)]] w fun e w'=>e=.returned (.bool (decide (x.prio=y.prio∧x.ring=y.ring∧x.full=y.full∧x.limit=y.limit∧x.mask=y.mask∧x.inner=y.inner∧x.own=y.own∧x.auto=y.auto)))∧qB w w':=by
 obtain ⟨a1,n1,c1⟩:=s1
 obtain ⟨a2,n2,c2⟩:=s2
 have hb1:=qa0 w (.cells #[I x.prio,I x.ring,.bool x.full,I x.limit,(qU x.mask),I x.inner,.slice a1 n1 c1,(qU x.auto)] 61)
 have hb2:=qa0 (w.alloc (.cells #[I x.prio,I x.ring,.bool x.full,I x.limit,(qU x.mask),I x.inner,.slice a1 n1 c1,(qU x.auto)] 61)) (.cells #[I y.prio,I y.ring,.bool y.full,I y.limit,(qU y.mask),I y.inner,.slice a2 n2 c2,(qU y.auto)] 61)
 have hb:=belT hb1 hb2
 have hE:=qmt _ _ _ _ _ (h1.below hb (fun _ _ _ _ h=>h)) (h2.below hb (fun _ _ _ _ h=>h))
 have HB:Hid (qB w ((w.alloc (.cells #[I x.prio,I x.ring,.bool x.full,I x.limit,(qU x.mask),I x.inner,.slice a1 n1 c1,(qU x.auto)] 61)).alloc (.cells #[I y.prio,I y.ring,.bool y.full,I y.limit,(qU y.mask),I y.inner,.slice a2 n2 c2,(qU y.auto)] 61))):=hb
 have hv1:=heap_alloc_new w (.cells #[I x.prio,I x.ring,.bool x.full,I x.limit,(qU x.mask),I x.inner,.slice a1 n1 c1,(qU x.auto)] 61)
 have hv2:=heap_alloc_new (w.alloc (.cells #[I x.prio,I x.ring,.bool x.full,I x.limit,(qU x.mask),I x.inner,.slice a1 n1 c1,(qU x.auto)] 61)) (.cells #[I y.prio,I y.ring,.bool y.full,I y.limit,(qU y.mask),I y.inner,.slice a2 n2 c2,(qU y.auto)] 61)
 have HC:Hid (∀W,qB ((w.alloc (.cells #[I x.prio,I x.ring,.bool x.full,I x.limit,(qU x.mask),I x.inner,.slice a1 n1 c1,(qU x.auto)] 61)).alloc (.cells #[I y.prio,I y.ring,.bool y.full,I y.limit,(qU y.mask),I y.inner,.slice a2 n2 c2,(qU y.auto)] 61)) W→W.cell? ⟨w.heap.size,7,none⟩=some (qU x.auto)∧W.cell? ⟨w.heap.size+1,7,none⟩=some (qU y.auto)):=fun W hW=>by
  have q0:=(hb2.block _ (qa5 hv1)).trans hv1
  have q1:=(hW.block _ (qa5 q0)).trans q0
  have q2:=(hW.block _ (qa5 hv2)).trans hv2
  rw [qs4] at q2
  exact ⟨by rw [qcr q1];rfl,by rw [qcr q2];rfl⟩
 clear h1 h2 hb1 hb2 hb hv1 hv2
 show Calls _ _ #[.agg #[I x.prio,I x.ring,.bool x.full,I x.limit,(qU x.mask),I x.inner,.slice a1 n1 c1,(qU x.auto)],.agg #[I y.prio,I y.ring,.bool y.full,I y.limit,(qU y.mask),I y.inner,.slice a2 n2 c2,(qU y.auto)]] _ _
 obtain ⟨p,r,f,l,m,i,o,a⟩:=x
 obtain ⟨pp,rr,ff,ll,mm,ii,oo,aa⟩:=y
 dsimp only at *
 by_cases E0:p=pp
 ·skip
  by_cases E1:r=rr
  ·skip
   by_cases E2:f=ff
   ·skip
    by_cases E3:l=ll
    ·skip
     by_cases E4:m=mm
     ·skip
      by_cases E5:i=ii
      ·skip
       by_cases E6:o=oo
       ·skip
        by_cases E7:a=aa
        ·rw [show decide (p=pp∧r=rr∧f=ff∧l=ll∧m=mm∧i=ii∧o=oo∧a=aa)=true from decide_eq_true ⟨E0,E1,E2,E3,E4,E5,E6,E7⟩]
         rw [decide_eq_true E6] at hE
         subst E0 E1 E2 E3 E4 E5 E6 E7
         go_enter Tryz.func41,Tryz.ntmps41
         go_wp2_with (first | (go_at_call 121;refine hE.mono ?_;clear hE;rintro e w2 ⟨rfl,b2⟩;have B2:Hid (qB w w2):=belT HB.out b2;obtain ⟨q1,q2⟩:=HC.out w2 b2;clear b2 HB HC))
         go_ret
         exact ⟨by first | rfl | simp [haa] | (simp;omega),B2.out⟩
        ·have HD:Hid (decide (p=pp∧r=rr∧f=ff∧l=ll∧m=mm∧i=ii∧o=oo∧a=aa)=false):=by show _=_;simp [E7]
         rw [HD.out]
         have haa:¬((a:Int)=(aa:Int)):=by omega
         rw [decide_eq_true E6] at hE
         clear HD
         subst E0 E1 E2 E3 E4 E5 E6
         go_enter Tryz.func41,Tryz.ntmps41
         go_wp2_with (first | (go_at_call 121;refine hE.mono ?_;clear hE;rintro e w2 ⟨rfl,b2⟩;have B2:Hid (qB w w2):=belT HB.out b2;obtain ⟨q1,q2⟩:=HC.out w2 b2;clear b2 HB HC))
         go_ret
         exact ⟨by first | rfl | simp [haa] | (simp;omega),B2.out⟩
       ·have HD:Hid (decide (p=pp∧r=rr∧f=ff∧l=ll∧m=mm∧i=ii∧o=oo∧a=aa)=false):=by show _=_;simp [E6]
        rw [HD.out]
        rw [decide_eq_false E6] at hE
        clear HD
        subst E0 E1 E2 E3 E4 E5
        go_enter Tryz.func41,Tryz.ntmps41
        go_wp2_with (first | (go_at_call 121;refine hE.mono ?_;clear hE;rintro e w2 ⟨rfl,b2⟩;have B2:Hid (qB w w2):=belT HB.out b2;obtain ⟨q1,q2⟩:=HC.out w2 b2;clear b2 HB HC))
        go_ret
        exact ⟨by first | rfl | simp [haa] | (simp;omega),B2.out⟩
      ·have HD:Hid (decide (p=pp∧r=rr∧f=ff∧l=ll∧m=mm∧i=ii∧o=oo∧a=aa)=false):=by show _=_;simp [E5]
       rw [HD.out]
       clear HD hE
       subst E0 E1 E2 E3 E4
       go_enter Tryz.func41,Tryz.ntmps41
       go_wp2
       go_ret
       exact ⟨rfl,HB.out⟩
     ·have HD:Hid (decide (p=pp∧r=rr∧f=ff∧l=ll∧m=mm∧i=ii∧o=oo∧a=aa)=false):=by show _=_;simp [E4]
      rw [HD.out]
      have hmm:¬((m:Int)=(mm:Int)):=by omega
      clear HD hE
      subst E0 E1 E2 E3
      go_enter Tryz.func41,Tryz.ntmps41
      go_wp2
      go_ret
      exact ⟨rfl,HB.out⟩
    ·have HD:Hid (decide (p=pp∧r=rr∧f=ff∧l=ll∧m=mm∧i=ii∧o=oo∧a=aa)=false):=by show _=_;simp [E3]
     rw [HD.out]
     clear HD hE
     subst E0 E1 E2
     go_enter Tryz.func41,Tryz.ntmps41
     go_wp2
     go_ret
     exact ⟨rfl,HB.out⟩
   ·have HD:Hid (decide (p=pp∧r=rr∧f=ff∧l=ll∧m=mm∧i=ii∧o=oo∧a=aa)=false):=by show _=_;simp [E2]
    rw [HD.out]
    have hff:(f==ff)=false:=by simp [E2]
    clear HD hE
    subst E0 E1
    go_enter Tryz.func41,Tryz.ntmps41
    go_wp2
    go_ret
    exact ⟨rfl,HB.out⟩
  ·have HD:Hid (decide (p=pp∧r=rr∧f=ff∧l=ll∧m=mm∧i=ii∧o=oo∧a=aa)=false):=by show _=_;simp [E1]
   rw [HD.out]
   clear HD hE
   subst E0
   go_enter Tryz.func41,Tryz.ntmps41
   go_wp2
   go_ret
   exact ⟨rfl,HB.out⟩
 ·have HD:Hid (decide (p=pp∧r=rr∧f=ff∧l=ll∧m=mm∧i=ii∧o=oo∧a=aa)=false):=by show _=_;simp [E0]
  rw [HD.out]
  clear HD hE
  go_enter Tryz.func41,Tryz.ntmps41
  go_wp2
  go_ret
  exact ⟨rfl,HB.out⟩
def Says (e:Ending) (p:Prop):Prop:=∃b,e=.returned (.bool b)∧(b=true ↔ p)
theorem qkn {α:Type} {l1 l2:List α} {k:Nat} (h1:k < l1.length) (h2:k < l2.length) (h:l1.take k=l2.take k) (hx:l1[k]=l2[k]):l1.take (k+1)=l2.take (k+1):=by
 rw [List.take_add_one,List.take_add_one,h,List.getElem?_eq_getElem h1,List.getElem?_eq_getElem h2,hx]
theorem qot (w:World) (x:RgR):(binOp .neq 63 (.agg #[I x.prio,I x.cap]) (.agg #[I x.prio,I x.cap])).run Tryz.prog w=.ok (.bool false) w:=by simp [go_sem]
theorem atRg {w:World} {s:Sl} {l:List RgR} (h:RowsAt w 2 rgrP s l) {k:Nat} (hk:k < l.length) {W:World} (hb:qB w W):∃g off,s.a=some ⟨g,off,none⟩∧W.cell? ⟨g,off+k * 2,none⟩=some (I l[k].prio)∧W.cell? ⟨g,off+k * 2+1,none⟩=some (I l[k].cap):=by
 obtain ⟨g,off,ea,hg,hr⟩:=h.row k _ (List.getElem?_eq_getElem hk)
 obtain ⟨u0,d0,p0⟩:=hr 0 (by omega)
 obtain rfl:u0=I l[k].prio:=by first | exact p0 | exact p0.1
 obtain ⟨u1,d1,p1⟩:=hr 1 (by omega)
 obtain rfl:u1=I l[k].cap:=by first | exact p1 | exact p1.1
 exact ⟨g,off,ea,by rw [qa6 hb _ _ hg];exact d0,by rw [qa6 hb _ _ hg];exact d1⟩
theorem eqRg (w:World) (s1 s2:Sl) (l:List RgR) (h1:RowsAt w 2 rgrP s1 l) (h2:RowsAt w 2 rgrP s2 l):Calls Tryz.prog 42 #[slT s1,slT s2] w fun e w'=>e=.returned (.bool true)∧qB w w':=by
 obtain ⟨a1,n1,c1⟩:=s1
 obtain ⟨a2,n2,c2⟩:=s2
 obtain rfl:n1=n2:=h1.n.trans h2.n.symm
 have hm1:n1≤maxLen:=Nat.le_trans h1.c h1.m
 unfold maxLen at hm1
 have H:Hid (RowsAt w 2 rgrP ⟨a1,n1,c1⟩ l∧RowsAt w 2 rgrP ⟨a2,n1,c2⟩ l):=⟨h1,h2⟩
 clear h1 h2
 show Calls _ _ #[.slice a1 n1 c1,.slice a2 n1 c2] _ _
 go_enter Tryz.func42,Tryz.ntmps42
 go_wp2
 go_loopw [5,13] (fun _ v13 wr=>∃k:Nat,k≤n1∧v13=I k∧Hid (qB w wr)) (fun _ v13 _=>n1 - (intOf v13).toNat)
 case atStart=>exact ⟨0,by omega,rfl,Below.refl _ _⟩
 case round=>
  obtain ⟨k,hk,rfl,HJ⟩:=hrel
  by_cases hlt:k < n1
  ·have hltI:(k:Int) < n1:=by omega
   have hk1:k < l.length:=by have:n1=l.length:=H.out.1.n;omega
   obtain ⟨g1,o1,e1,q0,q1⟩:=atRg H.out.1 hk1 HJ.out
   obtain ⟨g2,o2,e2,r0,r1⟩:=atRg H.out.2 hk1 HJ.out
   obtain rfl:a1=some ⟨g1,o1,none⟩:=e1
   obtain rfl:a2=some ⟨g2,o2,none⟩:=e2
   have hN:=fun W=>qot W l[k]
   generalize l[k]=x at *
   clear hk1
   go_upto_region 6 with fail
   go_region_held_law (fun W=>W.cell? ⟨g1,o1+k * 2,none⟩=some (I x.prio)∧W.cell? ⟨g1,o1+k * 2+1,none⟩=some (I x.cap)∧W.cell? ⟨g2,o2+k * 2,none⟩=some (I x.prio)∧W.cell? ⟨g2,o2+k * 2+1,none⟩=some (I x.cap)) (first | exact ⟨q0,q1,r0,r1⟩ | (go_keep;done)) (fail)
   go_wp2
   go_roundw
   case rel=>exact ⟨k+1,by omega,by go_num,HJ.out.drew⟩
   case measure=>simp [intOf];omega
  ·obtain rfl:k=n1:=by omega
   have hge:¬((k:Int) < k):=by omega
   go_wp2
   go_ret
   exact ⟨rfl,HJ.out⟩
theorem qou (w:World) (x:RsR):(binOp .neq 78 (.agg #[.bool x.inner,I x.ceil]) (.agg #[.bool x.inner,I x.ceil])).run Tryz.prog w=.ok (.bool false) w:=by simp [go_sem]
theorem atRs {w:World} {s:Sl} {l:List RsR} (h:RowsAt w 2 rsrP s l) {k:Nat} (hk:k < l.length) {W:World} (hb:qB w W):∃g off,s.a=some ⟨g,off,none⟩∧W.cell? ⟨g,off+k * 2,none⟩=some (.bool l[k].inner)∧W.cell? ⟨g,off+k * 2+1,none⟩=some (I l[k].ceil):=by
 obtain ⟨g,off,ea,hg,hr⟩:=h.row k _ (List.getElem?_eq_getElem hk)
 obtain ⟨u0,d0,p0⟩:=hr 0 (by omega)
 obtain rfl:u0=.bool l[k].inner:=by first | exact p0 | exact p0.1
 obtain ⟨u1,d1,p1⟩:=hr 1 (by omega)
 obtain rfl:u1=I l[k].ceil:=by first | exact p1 | exact p1.1
 exact ⟨g,off,ea,by rw [qa6 hb _ _ hg];exact d0,by rw [qa6 hb _ _ hg];exact d1⟩
theorem eqRs (w:World) (s1 s2:Sl) (l:List RsR) (h1:RowsAt w 2 rsrP s1 l) (h2:RowsAt w 2 rsrP s2 l):Calls Tryz.prog 43 #[slT s1,slT s2] w fun e w'=>e=.returned (.bool true)∧qB w w':=by
 obtain ⟨a1,n1,c1⟩:=s1
 obtain ⟨a2,n2,c2⟩:=s2
 obtain rfl:n1=n2:=h1.n.trans h2.n.symm
 have hm1:n1≤maxLen:=Nat.le_trans h1.c h1.m
 unfold maxLen at hm1
 have H:Hid (RowsAt w 2 rsrP ⟨a1,n1,c1⟩ l∧RowsAt w 2 rsrP ⟨a2,n1,c2⟩ l):=⟨h1,h2⟩
 clear h1 h2
 show Calls _ _ #[.slice a1 n1 c1,.slice a2 n1 c2] _ _
 go_enter Tryz.func43,Tryz.ntmps43
 go_wp2
 go_loopw [5,13] (fun _ v13 wr=>∃k:Nat,k≤n1∧v13=I k∧Hid (qB w wr)) (fun _ v13 _=>n1 - (intOf v13).toNat)
 case atStart=>exact ⟨0,by omega,rfl,Below.refl _ _⟩
 case round=>
  obtain ⟨k,hk,rfl,HJ⟩:=hrel
  by_cases hlt:k < n1
  ·have hltI:(k:Int) < n1:=by omega
   have hk1:k < l.length:=by have:n1=l.length:=H.out.1.n;omega
   obtain ⟨g1,o1,e1,q0,q1⟩:=atRs H.out.1 hk1 HJ.out
   obtain ⟨g2,o2,e2,r0,r1⟩:=atRs H.out.2 hk1 HJ.out
   obtain rfl:a1=some ⟨g1,o1,none⟩:=e1
   obtain rfl:a2=some ⟨g2,o2,none⟩:=e2
   have hN:=fun W=>qou W l[k]
   generalize l[k]=x at *
   clear hk1
   go_upto_region 6 with fail
   go_region_held_law (fun W=>W.cell? ⟨g1,o1+k * 2,none⟩=some (.bool x.inner)∧W.cell? ⟨g1,o1+k * 2+1,none⟩=some (I x.ceil)∧W.cell? ⟨g2,o2+k * 2,none⟩=some (.bool x.inner)∧W.cell? ⟨g2,o2+k * 2+1,none⟩=some (I x.ceil)) (first | exact ⟨q0,q1,r0,r1⟩ | (go_keep;done)) (fail)
   go_wp2
   go_roundw
   case rel=>exact ⟨k+1,by omega,by go_num,HJ.out.drew⟩
   case measure=>simp [intOf];omega
  ·obtain rfl:k=n1:=by omega
   have hge:¬((k:Int) < k):=by omega
   go_wp2
   go_ret
   exact ⟨rfl,HJ.out⟩
theorem qov (w:World) (x:AlR):(binOp .neq 85 (.agg #[I x.ctr,I x.ac.kind,I x.ac.task,(qU x.ac.mask),(qU x.auto),(qU x.time),(qU x.cycle)]) (.agg #[I x.ctr,I x.ac.kind,I x.ac.task,(qU x.ac.mask),(qU x.auto),(qU x.time),(qU x.cycle)])).run Tryz.prog w=.ok (.bool false) w:=by simp [go_sem]
theorem atAl {w:World} {s:Sl} {l:List AlR} (h:RowsAt w 7 alrP s l) {k:Nat} (hk:k < l.length) {W:World} (hb:qB w W):∃g off,s.a=some ⟨g,off,none⟩∧W.cell? ⟨g,off+k * 7,none⟩=some (I l[k].ctr)∧W.cell? ⟨g,off+k * 7+1,none⟩=some (I l[k].ac.kind)∧W.cell? ⟨g,off+k * 7+2,none⟩=some (I l[k].ac.task)∧W.cell? ⟨g,off+k * 7+3,none⟩=some (.int .u32 (l[k].ac.mask:Int))∧W.cell? ⟨g,off+k * 7+4,none⟩=some (.int .u32 (l[k].auto:Int))∧W.cell? ⟨g,off+k * 7+5,none⟩=some (.int .u32 (l[k].time:Int))∧W.cell? ⟨g,off+k * 7+6,none⟩=some (.int .u32 (l[k].cycle:Int)):=by
 obtain ⟨g,off,ea,hg,hr⟩:=h.row k _ (List.getElem?_eq_getElem hk)
 obtain ⟨u0,d0,p0⟩:=hr 0 (by omega)
 obtain rfl:u0=I l[k].ctr:=by first | exact p0 | exact p0.1
 obtain ⟨u1,d1,p1⟩:=hr 1 (by omega)
 obtain rfl:u1=I l[k].ac.kind:=by first | exact p1 | exact p1.1
 obtain ⟨u2,d2,p2⟩:=hr 2 (by omega)
 obtain rfl:u2=I l[k].ac.task:=by first | exact p2 | exact p2.1
 obtain ⟨u3,d3,p3⟩:=hr 3 (by omega)
 obtain rfl:u3=.int .u32 (l[k].ac.mask:Int):=by first | exact p3 | exact p3.1
 obtain ⟨u4,d4,p4⟩:=hr 4 (by omega)
 obtain rfl:u4=.int .u32 (l[k].auto:Int):=by first | exact p4 | exact p4.1
 obtain ⟨u5,d5,p5⟩:=hr 5 (by omega)
 obtain rfl:u5=.int .u32 (l[k].time:Int):=by first | exact p5 | exact p5.1
 obtain ⟨u6,d6,p6⟩:=hr 6 (by omega)
 obtain rfl:u6=.int .u32 (l[k].cycle:Int):=by first | exact p6 | exact p6.1
 exact ⟨g,off,ea,by rw [qa6 hb _ _ hg];exact d0,by rw [qa6 hb _ _ hg];exact d1,by rw [qa6 hb _ _ hg];exact d2,by rw [qa6 hb _ _ hg];exact d3,by rw [qa6 hb _ _ hg];exact d4,by rw [qa6 hb _ _ hg];exact d5,by rw [qa6 hb _ _ hg];exact d6⟩
theorem eqAl (w:World) (s1 s2:Sl) (l:List AlR) (h1:RowsAt w 7 alrP s1 l) (h2:RowsAt w 7 alrP s2 l):Calls Tryz.prog 45 #[slT s1,slT s2] w fun e w'=>e=.returned (.bool true)∧qB w w':=by
 obtain ⟨a1,n1,c1⟩:=s1
 obtain ⟨a2,n2,c2⟩:=s2
 obtain rfl:n1=n2:=h1.n.trans h2.n.symm
 have hm1:n1≤maxLen:=Nat.le_trans h1.c h1.m
 unfold maxLen at hm1
 have H:Hid (RowsAt w 7 alrP ⟨a1,n1,c1⟩ l∧RowsAt w 7 alrP ⟨a2,n1,c2⟩ l):=⟨h1,h2⟩
 clear h1 h2
 show Calls _ _ #[.slice a1 n1 c1,.slice a2 n1 c2] _ _
 go_enter Tryz.func45,Tryz.ntmps45
 go_wp2
 go_loopw [5,13] (fun _ v13 wr=>∃k:Nat,k≤n1∧v13=I k∧Hid (qB w wr)) (fun _ v13 _=>n1 - (intOf v13).toNat)
 case atStart=>exact ⟨0,by omega,rfl,Below.refl _ _⟩
 case round=>
  obtain ⟨k,hk,rfl,HJ⟩:=hrel
  by_cases hlt:k < n1
  ·have hltI:(k:Int) < n1:=by omega
   have hk1:k < l.length:=by have:n1=l.length:=H.out.1.n;omega
   obtain ⟨g1,o1,e1,q0,q1,q2,q3,q4,q5,q6⟩:=atAl H.out.1 hk1 HJ.out
   obtain ⟨g2,o2,e2,r0,r1,r2,r3,r4,r5,r6⟩:=atAl H.out.2 hk1 HJ.out
   obtain rfl:a1=some ⟨g1,o1,none⟩:=e1
   obtain rfl:a2=some ⟨g2,o2,none⟩:=e2
   have hN:=fun W=>qov W l[k]
   generalize l[k]=x at *
   clear hk1
   go_upto_region 6 with fail
   go_region_held_law (fun W=>W.cell? ⟨g1,o1+k * 7,none⟩=some (I x.ctr)∧W.cell? ⟨g1,o1+k * 7+1,none⟩=some (I x.ac.kind)∧W.cell? ⟨g1,o1+k * 7+2,none⟩=some (I x.ac.task)∧W.cell? ⟨g1,o1+k * 7+3,none⟩=some (qU x.ac.mask)∧W.cell? ⟨g1,o1+k * 7+4,none⟩=some (qU x.auto)∧W.cell? ⟨g1,o1+k * 7+5,none⟩=some (qU x.time)∧W.cell? ⟨g1,o1+k * 7+6,none⟩=some (qU x.cycle)∧W.cell? ⟨g2,o2+k * 7,none⟩=some (I x.ctr)∧W.cell? ⟨g2,o2+k * 7+1,none⟩=some (I x.ac.kind)∧W.cell? ⟨g2,o2+k * 7+2,none⟩=some (I x.ac.task)∧W.cell? ⟨g2,o2+k * 7+3,none⟩=some (qU x.ac.mask)∧W.cell? ⟨g2,o2+k * 7+4,none⟩=some (qU x.auto)∧W.cell? ⟨g2,o2+k * 7+5,none⟩=some (qU x.time)∧W.cell? ⟨g2,o2+k * 7+6,none⟩=some (qU x.cycle)) (first | exact ⟨q0,q1,q2,q3,q4,q5,q6,r0,r1,r2,r3,r4,r5,r6⟩ | (go_keep;done)) (fail)
   go_wp2
   go_roundw
   case rel=>exact ⟨k+1,by omega,by go_num,HJ.out.drew⟩
   case measure=>simp [intOf];omega
  ·obtain rfl:k=n1:=by omega
   have hge:¬((k:Int) < k):=by omega
   go_wp2
   go_ret
   exact ⟨rfl,HJ.out⟩
theorem qow (w:World) (x:MsR):(binOp .neq 91 (.agg #[I x.kind,I x.len,I x.frm,.int .u64 (x.init:Int),I x.queue,I x.ac.kind,I x.ac.task,(qU x.ac.mask)]) (.agg #[I x.kind,I x.len,I x.frm,.int .u64 (x.init:Int),I x.queue,I x.ac.kind,I x.ac.task,(qU x.ac.mask)])).run Tryz.prog w=.ok (.bool false) w:=by simp [go_sem]
theorem atMs {w:World} {s:Sl} {l:List MsR} (h:RowsAt w 8 msrP s l) {k:Nat} (hk:k < l.length) {W:World} (hb:qB w W):∃g off,s.a=some ⟨g,off,none⟩∧W.cell? ⟨g,off+k * 8,none⟩=some (I l[k].kind)∧W.cell? ⟨g,off+k * 8+1,none⟩=some (I l[k].len)∧W.cell? ⟨g,off+k * 8+2,none⟩=some (I l[k].frm)∧W.cell? ⟨g,off+k * 8+3,none⟩=some (.int .u64 (l[k].init:Int))∧W.cell? ⟨g,off+k * 8+4,none⟩=some (I l[k].queue)∧W.cell? ⟨g,off+k * 8+5,none⟩=some (I l[k].ac.kind)∧W.cell? ⟨g,off+k * 8+6,none⟩=some (I l[k].ac.task)∧W.cell? ⟨g,off+k * 8+7,none⟩=some (.int .u32 (l[k].ac.mask:Int)):=by
 obtain ⟨g,off,ea,hg,hr⟩:=h.row k _ (List.getElem?_eq_getElem hk)
 obtain ⟨u0,d0,p0⟩:=hr 0 (by omega)
 obtain rfl:u0=I l[k].kind:=by first | exact p0 | exact p0.1
 obtain ⟨u1,d1,p1⟩:=hr 1 (by omega)
 obtain rfl:u1=I l[k].len:=by first | exact p1 | exact p1.1
 obtain ⟨u2,d2,p2⟩:=hr 2 (by omega)
 obtain rfl:u2=I l[k].frm:=by first | exact p2 | exact p2.1
 obtain ⟨u3,d3,p3⟩:=hr 3 (by omega)
 obtain rfl:u3=.int .u64 (l[k].init:Int):=by first | exact p3 | exact p3.1
 obtain ⟨u4,d4,p4⟩:=hr 4 (by omega)
 obtain rfl:u4=I l[k].queue:=by first | exact p4 | exact p4.1
 obtain ⟨u5,d5,p5⟩:=hr 5 (by omega)
 obtain rfl:u5=I l[k].ac.kind:=by first | exact p5 | exact p5.1
 obtain ⟨u6,d6,p6⟩:=hr 6 (by omega)
 obtain rfl:u6=I l[k].ac.task:=by first | exact p6 | exact p6.1
 obtain ⟨u7,d7,p7⟩:=hr 7 (by omega)
 obtain rfl:u7=.int .u32 (l[k].ac.mask:Int):=by first | exact p7 | exact p7.1
 exact ⟨g,off,ea,by rw [qa6 hb _ _ hg];exact d0,by rw [qa6 hb _ _ hg];exact d1,by rw [qa6 hb _ _ hg];exact d2,by rw [qa6 hb _ _ hg];exact d3,by rw [qa6 hb _ _ hg];exact d4,by rw [qa6 hb _ _ hg];exact d5,by rw [qa6 hb _ _ hg];exact d6,by rw [qa6 hb _ _ hg];exact d7⟩
theorem eqMs (w:World) (s1 s2:Sl) (l:List MsR) (h1:RowsAt w 8 msrP s1 l) (h2:RowsAt w 8 msrP s2 l):Calls Tryz.prog 48 #[slT s1,slT s2] w fun e w'=>e=.returned (.bool true)∧qB w w':=by
 obtain ⟨a1,n1,c1⟩:=s1
 obtain ⟨a2,n2,c2⟩:=s2
 obtain rfl:n1=n2:=h1.n.trans h2.n.symm
 have hm1:n1≤maxLen:=Nat.le_trans h1.c h1.m
 unfold maxLen at hm1
 have H:Hid (RowsAt w 8 msrP ⟨a1,n1,c1⟩ l∧RowsAt w 8 msrP ⟨a2,n1,c2⟩ l):=⟨h1,h2⟩
 clear h1 h2
 show Calls _ _ #[.slice a1 n1 c1,.slice a2 n1 c2] _ _
 go_enter Tryz.func48,Tryz.ntmps48
 go_wp2
 go_loopw [5,13] (fun _ v13 wr=>∃k:Nat,k≤n1∧v13=I k∧Hid (qB w wr)) (fun _ v13 _=>n1 - (intOf v13).toNat)
 case atStart=>exact ⟨0,by omega,rfl,Below.refl _ _⟩
 case round=>
  obtain ⟨k,hk,rfl,HJ⟩:=hrel
  by_cases hlt:k < n1
  ·have hltI:(k:Int) < n1:=by omega
   have hk1:k < l.length:=by have:n1=l.length:=H.out.1.n;omega
   obtain ⟨g1,o1,e1,q0,q1,q2,q3,q4,q5,q6,q7⟩:=atMs H.out.1 hk1 HJ.out
   obtain ⟨g2,o2,e2,r0,r1,r2,r3,r4,r5,r6,r7⟩:=atMs H.out.2 hk1 HJ.out
   obtain rfl:a1=some ⟨g1,o1,none⟩:=e1
   obtain rfl:a2=some ⟨g2,o2,none⟩:=e2
   have hN:=fun W=>qow W l[k]
   generalize l[k]=x at *
   clear hk1
   go_upto_region 6 with fail
   go_region_held_law (fun W=>W.cell? ⟨g1,o1+k * 8,none⟩=some (I x.kind)∧W.cell? ⟨g1,o1+k * 8+1,none⟩=some (I x.len)∧W.cell? ⟨g1,o1+k * 8+2,none⟩=some (I x.frm)∧W.cell? ⟨g1,o1+k * 8+3,none⟩=some (.int .u64 (x.init:Int))∧W.cell? ⟨g1,o1+k * 8+4,none⟩=some (I x.queue)∧W.cell? ⟨g1,o1+k * 8+5,none⟩=some (I x.ac.kind)∧W.cell? ⟨g1,o1+k * 8+6,none⟩=some (I x.ac.task)∧W.cell? ⟨g1,o1+k * 8+7,none⟩=some (qU x.ac.mask)∧W.cell? ⟨g2,o2+k * 8,none⟩=some (I x.kind)∧W.cell? ⟨g2,o2+k * 8+1,none⟩=some (I x.len)∧W.cell? ⟨g2,o2+k * 8+2,none⟩=some (I x.frm)∧W.cell? ⟨g2,o2+k * 8+3,none⟩=some (.int .u64 (x.init:Int))∧W.cell? ⟨g2,o2+k * 8+4,none⟩=some (I x.queue)∧W.cell? ⟨g2,o2+k * 8+5,none⟩=some (I x.ac.kind)∧W.cell? ⟨g2,o2+k * 8+6,none⟩=some (I x.ac.task)∧W.cell? ⟨g2,o2+k * 8+7,none⟩=some (qU x.ac.mask)) (first | exact ⟨q0,q1,q2,q3,q4,q5,q6,q7,r0,r1,r2,r3,r4,r5,r6,r7⟩ | (go_keep;done)) (fail)
   go_wp2
   go_roundw
   case rel=>exact ⟨k+1,by omega,by go_num,HJ.out.drew⟩
   case measure=>simp [intOf];omega
  ·obtain rfl:k=n1:=by omega
   have hge:¬((k:Int) < k):=by omega
   go_wp2
   go_ret
   exact ⟨rfl,HJ.out⟩
theorem qox (w:World) (x:CtR):(binOp .neq 80 (.agg #[(qU x.max),(qU x.base),(qU x.min)]) (.agg #[(qU x.max),(qU x.base),(qU x.min)])).run Tryz.prog w=.ok (.bool false) w:=by simp [go_sem]
theorem atCt {w:World} {s:Sl} {l:List CtR} (h:RowsAt w 3 ctrP s l) {k:Nat} (hk:k < l.length) {W:World} (hb:qB w W):∃g off,s.a=some ⟨g,off,none⟩∧W.cell? ⟨g,off+k * 3,none⟩=some (.int .u32 (l[k].max:Int))∧W.cell? ⟨g,off+k * 3+1,none⟩=some (.int .u32 (l[k].base:Int))∧W.cell? ⟨g,off+k * 3+2,none⟩=some (.int .u32 (l[k].min:Int)):=by
 obtain ⟨g,off,ea,hg,hr⟩:=h.row k _ (List.getElem?_eq_getElem hk)
 obtain ⟨u0,d0,p0⟩:=hr 0 (by omega)
 obtain rfl:u0=.int .u32 (l[k].max:Int):=by first | exact p0 | exact p0.1
 obtain ⟨u1,d1,p1⟩:=hr 1 (by omega)
 obtain rfl:u1=.int .u32 (l[k].base:Int):=by first | exact p1 | exact p1.1
 obtain ⟨u2,d2,p2⟩:=hr 2 (by omega)
 obtain rfl:u2=.int .u32 (l[k].min:Int):=by first | exact p2 | exact p2.1
 exact ⟨g,off,ea,by rw [qa6 hb _ _ hg];exact d0,by rw [qa6 hb _ _ hg];exact d1,by rw [qa6 hb _ _ hg];exact d2⟩
theorem eqCt (w:World) (s1 s2:Sl) (l:List CtR) (h1:RowsAt w 3 ctrP s1 l) (h2:RowsAt w 3 ctrP s2 l):Calls Tryz.prog 44 #[slT s1,slT s2] w fun e w'=>e=.returned (.bool true)∧qB w w':=by
 obtain ⟨a1,n1,c1⟩:=s1
 obtain ⟨a2,n2,c2⟩:=s2
 obtain rfl:n1=n2:=h1.n.trans h2.n.symm
 have hm1:n1≤maxLen:=Nat.le_trans h1.c h1.m
 unfold maxLen at hm1
 have H:Hid (RowsAt w 3 ctrP ⟨a1,n1,c1⟩ l∧RowsAt w 3 ctrP ⟨a2,n1,c2⟩ l):=⟨h1,h2⟩
 clear h1 h2
 show Calls _ _ #[.slice a1 n1 c1,.slice a2 n1 c2] _ _
 go_enter Tryz.func44,Tryz.ntmps44
 go_wp2
 go_loopw [5,13] (fun _ v13 wr=>∃k:Nat,k≤n1∧v13=I k∧Hid (qB w wr)) (fun _ v13 _=>n1 - (intOf v13).toNat)
 case atStart=>exact ⟨0,by omega,rfl,Below.refl _ _⟩
 case round=>
  obtain ⟨k,hk,rfl,HJ⟩:=hrel
  by_cases hlt:k < n1
  ·have hltI:(k:Int) < n1:=by omega
   have hk1:k < l.length:=by have:n1=l.length:=H.out.1.n;omega
   obtain ⟨g1,o1,e1,q0,q1,q2⟩:=atCt H.out.1 hk1 HJ.out
   obtain ⟨g2,o2,e2,r0,r1,r2⟩:=atCt H.out.2 hk1 HJ.out
   obtain rfl:a1=some ⟨g1,o1,none⟩:=e1
   obtain rfl:a2=some ⟨g2,o2,none⟩:=e2
   have hN:=fun W=>qox W l[k]
   generalize l[k]=x at *
   clear hk1
   go_upto_region 6 with fail
   go_region_held_law (fun W=>W.cell? ⟨g1,o1+k * 3,none⟩=some (qU x.max)∧W.cell? ⟨g1,o1+k * 3+1,none⟩=some (qU x.base)∧W.cell? ⟨g1,o1+k * 3+2,none⟩=some (qU x.min)∧W.cell? ⟨g2,o2+k * 3,none⟩=some (qU x.max)∧W.cell? ⟨g2,o2+k * 3+1,none⟩=some (qU x.base)∧W.cell? ⟨g2,o2+k * 3+2,none⟩=some (qU x.min)) (first | exact ⟨q0,q1,q2,r0,r1,r2⟩ | (go_keep;done)) (fail)
   go_wp2
   go_roundw
   case rel=>exact ⟨k+1,by omega,by go_num,HJ.out.drew⟩
   case measure=>simp [intOf];omega
  ·obtain rfl:k=n1:=by omega
   have hge:¬((k:Int) < k):=by omega
   go_wp2
   go_ret
   exact ⟨rfl,HJ.out⟩
theorem qs5 {x y:IsR} (h:x.cat=y.cat∧x.prio=y.prio∧x.own=y.own):x=y:=by
 obtain ⟨a0,a1,a2⟩:=x
 obtain ⟨b0,b1,b2⟩:=y
 simpa [and_assoc] using h
theorem eqIs (w:World) (ta tb:Tb) (va vb:Ts) (hA:TbAt w ta va) (hB:TbAt w tb vb):Calls Tryz.prog 46 #[slT va.i,slT vb.i,.func (.func 47) #[] #[]] w fun e w'=>Says e (ta.isrs=tb.isrs)∧qB w w':=by
 have hn1:Hid (va.i.n=ta.isrs.length):=hA.i.n
 have hn2:Hid (vb.i.n=tb.isrs.length):=hB.i.n
 have hm1:va.i.n≤maxLen:=Nat.le_trans hA.i.c hA.i.m
 unfold maxLen at hm1
 have HA:Hid (TbAt w ta va):=hA
 have HB:Hid (TbAt w tb vb):=hB
 clear hA hB
 generalize hva:va.i=v1 at *
 generalize hvb:vb.i=v2 at *
 obtain ⟨a1,n1,c1⟩:=v1
 obtain ⟨a2,n2,c2⟩:=v2
 have HVA:Hid (va.i=⟨a1,n1,c1⟩):=hva
 have HVB:Hid (vb.i=⟨a2,n2,c2⟩):=hvb
 clear hva hvb
 dsimp only at *
 show Calls _ _ #[.slice a1 n1 c1,.slice a2 n2 c2,_] _ _
 by_cases hl:n1=n2
 ·subst hl
  go_enter Tryz.func46,Tryz.ntmps46
  go_wp2
  go_loopw [7,8,9,17] (fun _ _ _ v17 wr=>∃k:Nat,k≤n1∧v17=I k∧Hid (ta.isrs.take k=tb.isrs.take k∧qB w wr)) (fun _ _ _ v17 _=>n1 - (intOf v17).toNat)
  case atStart=>exact ⟨0,by omega,rfl,by simp,Below.refl _ _⟩
  case round=>
   obtain ⟨k,hk,rfl,HJ⟩:=hrel
   by_cases hlt:k < n1
   ·have hltI:(k:Int) < n1:=by omega
    have hk1:k < ta.isrs.length:=by rw [←hn1.out];exact hlt
    have hk2:k < tb.isrs.length:=by rw [←hn2.out];exact hlt
    obtain ⟨x,hx⟩:∃x,x=ta.isrs[k]:=⟨_,rfl⟩
    obtain ⟨y,hy⟩:∃y,y=tb.isrs[k]:=⟨_,rfl⟩
    have hxj:ta.isrs[k]?=some x:=by rw [hx];exact List.getElem?_eq_getElem hk1
    have hyj:tb.isrs[k]?=some y:=by rw [hy];exact List.getElem?_eq_getElem hk2
    obtain ⟨g1,o1,s1,e1,-,x0,x1,x2,r1⟩:=qcs (HA.out.below HJ.out.2) hxj
    have hb1:=qa0 wr (.cells #[I x.cat,I x.prio,.slice s1.a s1.n s1.c] 87)
    obtain ⟨g2,o2,s2,e2,-,y0,y1,y2,r2⟩:=qcs (HB.out.below (belT HJ.out.2 hb1)) hyj
    have hb2:=qa0 (wr.alloc (.cells #[I x.cat,I x.prio,.slice s1.a s1.n s1.c] 87)) (.cells #[I y.cat,I y.prio,.slice s2.a s2.n s2.c] 87)
    have hS:=qjt _ x y s1 s2 (r1.below (belT hb1 hb2) (fun _ _ _ _ h=>h)) (r2.below hb2 (fun _ _ _ _ h=>h))
    have HB2:Hid (qB w ((wr.alloc (.cells #[I x.cat,I x.prio,.slice s1.a s1.n s1.c] 87)).alloc (.cells #[I y.cat,I y.prio,.slice s2.a s2.n s2.c] 87))):=belT HJ.out.2 (belT hb1 hb2)
    have e1':a1=some ⟨g1,o1,none⟩:=by have:=e1;rw [HVA.out] at this;exact this
    have e2':a2=some ⟨g2,o2,none⟩:=by have:=e2;rw [HVB.out] at this;exact this
    have HX:Hid (x=y→ta.isrs.take (k+1)=tb.isrs.take (k+1)):=fun e=>qkn hk1 hk2 HJ.out.1 (by rw [←hx,←hy,e])
    have HY:Hid (¬x=y→¬ta.isrs=tb.isrs):=fun hne e=>hne (by rw [e] at hxj;exact Option.some.inj (hxj.symm.trans hyj))
    clear e1 e2 hx hy hxj hyj hk1 hk2 HJ r1 r2 hb1 hb2
    subst e1' e2'
    by_cases hx:x.cat=y.cat∧x.prio=y.prio∧x.own=y.own
    ·have HT:=HX.out (qs5 hx)
     have HT':Hid (ta.isrs.take (k+1)=tb.isrs.take (k+1)):=HT
     rw [decide_eq_true hx] at hS
     clear HT hx HX HY
     go_wp2_with (first | (go_at_call 47;refine hS.mono ?_;clear hS;rintro e w2 ⟨rfl,b2⟩;have B2:Hid (qB w w2):=belT HB2.out b2;clear b2 HB2))
     go_roundw
     case rel=>exact ⟨k+1,by omega,by go_num,HT'.out,B2.out⟩
     case measure=>simp [intOf];omega
    ·have HN:Hid (¬ta.isrs=tb.isrs):=HY.out (fun e=>hx (by subst e;simp))
     rw [decide_eq_false hx] at hS
     clear hx HX HY
     go_wp2_with (first | (go_at_call 47;refine hS.mono ?_;clear hS;rintro e w2 ⟨rfl,b2⟩;have B2:Hid (qB w w2):=belT HB2.out b2;clear b2 HB2))
     go_ret
     exact ⟨⟨false,rfl,by simp [HN.out]⟩,B2.out⟩
   ·obtain rfl:k=n1:=by omega
    have hge:¬((k:Int) < k):=by omega
    have HE:Hid (ta.isrs=tb.isrs∧qB w wr):=⟨by have:=HJ.out.1;rwa [show ta.isrs.take k=ta.isrs by rw [hn1.out];exact List.take_length,show tb.isrs.take k=tb.isrs by rw [hn2.out];exact List.take_length] at this,HJ.out.2⟩
    clear HJ
    go_wp2
    go_ret
    exact ⟨⟨true,rfl,by simp [HE.out.1]⟩,HE.out.2⟩
 ·have hlI:¬((n1:Int)=n2):=by omega
  have HN:Hid (¬ta.isrs=tb.isrs):=fun e=>hl (by rw [hn1.out,hn2.out,e])
  go_enter Tryz.func46,Tryz.ntmps46
  go_wp2
  go_ret
  exact ⟨⟨false,rfl,by simp [HN.out]⟩,Below.refl _ _⟩
theorem qs6 {x y:TkR} (h:x.prio=y.prio∧x.ring=y.ring∧x.full=y.full∧x.limit=y.limit∧x.mask=y.mask∧x.inner=y.inner∧x.own=y.own∧x.auto=y.auto):x=y:=by
 obtain ⟨a0,a1,a2,a3,a4,a5,a6,a7⟩:=x
 obtain ⟨b0,b1,b2,b3,b4,b5,b6,b7⟩:=y
 simpa [and_assoc] using h
theorem eqTk (w:World) (ta tb:Tb) (va vb:Ts) (hA:TbAt w ta va) (hB:TbAt w tb vb):Calls Tryz.prog 40 #[slT va.t,slT vb.t,.func (.func 41) #[] #[]] w fun e w'=>Says e (ta.tasks=tb.tasks)∧qB w w':=by
 have hn1:Hid (va.t.n=ta.tasks.length):=hA.t.n
 have hn2:Hid (vb.t.n=tb.tasks.length):=hB.t.n
 have hm1:va.t.n≤maxLen:=Nat.le_trans hA.t.c hA.t.m
 unfold maxLen at hm1
 have HA:Hid (TbAt w ta va):=hA
 have HB:Hid (TbAt w tb vb):=hB
 clear hA hB
 generalize hva:va.t=v1 at *
 generalize hvb:vb.t=v2 at *
 obtain ⟨a1,n1,c1⟩:=v1
 obtain ⟨a2,n2,c2⟩:=v2
 have HVA:Hid (va.t=⟨a1,n1,c1⟩):=hva
 have HVB:Hid (vb.t=⟨a2,n2,c2⟩):=hvb
 clear hva hvb
 dsimp only at *
 show Calls _ _ #[.slice a1 n1 c1,.slice a2 n2 c2,_] _ _
 by_cases hl:n1=n2
 ·subst hl
  go_enter Tryz.func40,Tryz.ntmps40
  go_wp2
  go_loopw [7,8,9,17] (fun _ _ _ v17 wr=>∃k:Nat,k≤n1∧v17=I k∧Hid (ta.tasks.take k=tb.tasks.take k∧qB w wr)) (fun _ _ _ v17 _=>n1 - (intOf v17).toNat)
  case atStart=>exact ⟨0,by omega,rfl,by simp,Below.refl _ _⟩
  case round=>
   obtain ⟨k,hk,rfl,HJ⟩:=hrel
   by_cases hlt:k < n1
   ·have hltI:(k:Int) < n1:=by omega
    have hk1:k < ta.tasks.length:=by rw [←hn1.out];exact hlt
    have hk2:k < tb.tasks.length:=by rw [←hn2.out];exact hlt
    obtain ⟨x,hx⟩:∃x,x=ta.tasks[k]:=⟨_,rfl⟩
    obtain ⟨y,hy⟩:∃y,y=tb.tasks[k]:=⟨_,rfl⟩
    have hxj:ta.tasks[k]?=some x:=by rw [hx];exact List.getElem?_eq_getElem hk1
    have hyj:tb.tasks[k]?=some y:=by rw [hy];exact List.getElem?_eq_getElem hk2
    obtain ⟨g1,o1,s1,e1,-,x0,x1,x2,x3,x4,x5,x6,x7,r1⟩:=qcq (HA.out.below HJ.out.2) hxj
    have hb1:=qa0 wr (.cells #[I x.prio,I x.ring,.bool x.full,I x.limit,(qU x.mask),I x.inner,.slice s1.a s1.n s1.c,(qU x.auto)] 61)
    obtain ⟨g2,o2,s2,e2,-,y0,y1,y2,y3,y4,y5,y6,y7,r2⟩:=qcq (HB.out.below (belT HJ.out.2 hb1)) hyj
    have hb2:=qa0 (wr.alloc (.cells #[I x.prio,I x.ring,.bool x.full,I x.limit,(qU x.mask),I x.inner,.slice s1.a s1.n s1.c,(qU x.auto)] 61)) (.cells #[I y.prio,I y.ring,.bool y.full,I y.limit,(qU y.mask),I y.inner,.slice s2.a s2.n s2.c,(qU y.auto)] 61)
    have hS:=qj3 _ x y s1 s2 (r1.below (belT hb1 hb2) (fun _ _ _ _ h=>h)) (r2.below hb2 (fun _ _ _ _ h=>h))
    have HB2:Hid (qB w ((wr.alloc (.cells #[I x.prio,I x.ring,.bool x.full,I x.limit,(qU x.mask),I x.inner,.slice s1.a s1.n s1.c,(qU x.auto)] 61)).alloc (.cells #[I y.prio,I y.ring,.bool y.full,I y.limit,(qU y.mask),I y.inner,.slice s2.a s2.n s2.c,(qU y.auto)] 61))):=belT HJ.out.2 (belT hb1 hb2)
    have e1':a1=some ⟨g1,o1,none⟩:=by have:=e1;rw [HVA.out] at this;exact this
    have e2':a2=some ⟨g2,o2,none⟩:=by have:=e2;rw [HVB.out] at this;exact this
    have HX:Hid (x=y→ta.tasks.take (k+1)=tb.tasks.take (k+1)):=fun e=>qkn hk1 hk2 HJ.out.1 (by rw [←hx,←hy,e])
    have HY:Hid (¬x=y→¬ta.tasks=tb.tasks):=fun hne e=>hne (by rw [e] at hxj;exact Option.some.inj (hxj.symm.trans hyj))
    clear e1 e2 hx hy hxj hyj hk1 hk2 HJ r1 r2 hb1 hb2
    subst e1' e2'
    by_cases hx:x.prio=y.prio∧x.ring=y.ring∧x.full=y.full∧x.limit=y.limit∧x.mask=y.mask∧x.inner=y.inner∧x.own=y.own∧x.auto=y.auto
    ·have HT:=HX.out (qs6 hx)
     have HT':Hid (ta.tasks.take (k+1)=tb.tasks.take (k+1)):=HT
     rw [decide_eq_true hx] at hS
     clear HT hx HX HY
     go_wp2_with (first | (go_at_call 41;refine hS.mono ?_;clear hS;rintro e w2 ⟨rfl,b2⟩;have B2:Hid (qB w w2):=belT HB2.out b2;clear b2 HB2))
     go_roundw
     case rel=>exact ⟨k+1,by omega,by go_num,HT'.out,B2.out⟩
     case measure=>simp [intOf];omega
    ·have HN:Hid (¬ta.tasks=tb.tasks):=HY.out (fun e=>hx (by subst e;simp))
     rw [decide_eq_false hx] at hS
     clear hx HX HY
     go_wp2_with (first | (go_at_call 41;refine hS.mono ?_;clear hS;rintro e w2 ⟨rfl,b2⟩;have B2:Hid (qB w w2):=belT HB2.out b2;clear b2 HB2))
     go_ret
     exact ⟨⟨false,rfl,by simp [HN.out]⟩,B2.out⟩
   ·obtain rfl:k=n1:=by omega
    have hge:¬((k:Int) < k):=by omega
    have HE:Hid (ta.tasks=tb.tasks∧qB w wr):=⟨by have:=HJ.out.1;rwa [show ta.tasks.take k=ta.tasks by rw [hn1.out];exact List.take_length,show tb.tasks.take k=tb.tasks by rw [hn2.out];exact List.take_length] at this,HJ.out.2⟩
    clear HJ
    go_wp2
    go_ret
    exact ⟨⟨true,rfl,by simp [HE.out.1]⟩,HE.out.2⟩
 ·have hlI:¬((n1:Int)=n2):=by omega
  have HN:Hid (¬ta.tasks=tb.tasks):=fun e=>hl (by rw [hn1.out,hn2.out,e])
  go_enter Tryz.func40,Tryz.ntmps40
  go_wp2
  go_ret
  exact ⟨⟨false,rfl,by simp [HN.out]⟩,Below.refl _ _⟩
end Go.Proofs.YtijgopkhdjaolaaGreat
