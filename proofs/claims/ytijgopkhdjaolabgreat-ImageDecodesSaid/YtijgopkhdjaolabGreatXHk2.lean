import Derived.Test.YtijgopkhdjaolabGreatXHo
import Derived.Test.YtijgopkhdjaolabGreatXHs3
import Derived.Test.YtijgopkhdjaolabGreatXTcz
set_option linter.unusedSimpArgs false
set_option linter.unusedVariables false
set_option maxHeartbeats 16000000
set_option maxRecDepth 100000
namespace Go.Proofs.YtijgopkhdjaolabGreat
open Go.RowKit Go.Shelf Go.Sort
theorem qt4 {x y:IsR} (h:x.cat=y.cat∧x.prio=y.prio∧x.own=y.own):x=y:=by
 obtain ⟨a0,a1,a2⟩:=x;obtain ⟨b0,b1,b2⟩:=y;simpa [and_assoc] using h
theorem eqIs (w:World) (ta tb:Tb) (va vb:Ts) (hA:TbAt w ta va) (hB:TbAt w tb vb):Calls Tryz.prog 104 #[slT va.i,slT vb.i,.func (.func 105) #[] #[]] w fun e w'=>Says e (ta.isrs=tb.isrs)∧qB w w':=by
 have hn1:Hid (va.i.n=ta.isrs.length):=hA.i.n;have hn2:Hid (vb.i.n=tb.isrs.length):=hB.i.n;have hm1:va.i.n≤maxLen:=Nat.le_trans hA.i.c hA.i.m;unfold maxLen at hm1;have HA:Hid (TbAt w ta va):=hA;have HB:Hid (TbAt w tb vb):=hB;clear hA hB;generalize hva:va.i=v1 at *;generalize hvb:vb.i=v2 at *;obtain ⟨a1,n1,c1⟩:=v1;obtain ⟨a2,n2,c2⟩:=v2;have HVA:Hid (va.i=⟨a1,n1,c1⟩):=hva;have HVB:Hid (vb.i=⟨a2,n2,c2⟩):=hvb;clear hva hvb;dsimp only at *;show Calls _ _ #[.slice a1 n1 c1,.slice a2 n2 c2,_] _ _;by_cases hl:n1=n2
 ·subst hl
  go_enter Tryz.func104,Tryz.ntmps104
  go_wp2;go_loopw [7,8,9,17] (fun _ _ _ v17 wr=>∃k:Nat,k≤n1∧v17=I k∧Hid (ta.isrs.take k=tb.isrs.take k∧qB w wr)) (fun _ _ _ v17 _=>n1 - (intOf v17).toNat)
  case atStart=>exact ⟨0,by omega,rfl,by simp,Below.refl _ _⟩
  case round=>
   obtain ⟨k,hk,rfl,HJ⟩:=hrel;by_cases hlt:k < n1
   ·have hltI:(k:Int) < n1:=by omega
    have hk1:k < ta.isrs.length:=by rw [←hn1.out];exact hlt
    have hk2:k < tb.isrs.length:=by rw [←hn2.out];exact hlt
    obtain ⟨x,hx⟩:∃x,x=ta.isrs[k]:=⟨_,rfl⟩
    obtain ⟨y,hy⟩:∃y,y=tb.isrs[k]:=⟨_,rfl⟩
    have hxj:ta.isrs[k]?=some x:=by rw [hx];exact List.getElem?_eq_getElem hk1
    have hyj:tb.isrs[k]?=some y:=by rw [hy];exact List.getElem?_eq_getElem hk2
    obtain ⟨g1,o1,s1,e1,-,x0,x1,x2,r1⟩:=qdj (HA.out.below HJ.out.2) hxj;have hb1:=qa0 wr (.cells #[I x.cat,I x.prio,.slice s1.a s1.n s1.c] 84);obtain ⟨g2,o2,s2,e2,-,y0,y1,y2,r2⟩:=qdj (HB.out.below (belT HJ.out.2 hb1)) hyj;have hb2:=qa0 (wr.alloc (.cells #[I x.cat,I x.prio,.slice s1.a s1.n s1.c] 84)) (.cells #[I y.cat,I y.prio,.slice s2.a s2.n s2.c] 84);have hS:=qkf _ x y s1 s2 (r1.below (belT hb1 hb2) (fun _ _ _ _ h=>h)) (r2.below hb2 (fun _ _ _ _ h=>h));have HB2:Hid (qB w ((wr.alloc (.cells #[I x.cat,I x.prio,.slice s1.a s1.n s1.c] 84)).alloc (.cells #[I y.cat,I y.prio,.slice s2.a s2.n s2.c] 84))):=belT HJ.out.2 (belT hb1 hb2);have e1':a1=some ⟨g1,o1,none⟩:=by have:=e1;rw [HVA.out] at this;exact this
    have e2':a2=some ⟨g2,o2,none⟩:=by have:=e2;rw [HVB.out] at this;exact this
    have HX:Hid (x=y→ta.isrs.take (k+1)=tb.isrs.take (k+1)):=fun e=>ql6 hk1 hk2 HJ.out.1 (by rw [←hx,←hy,e])
    have HY:Hid (¬x=y→¬ta.isrs=tb.isrs):=fun hne e=>hne (by rw [e] at hxj;exact Option.some.inj (hxj.symm.trans hyj))
    clear e1 e2 hx hy hxj hyj hk1 hk2 HJ r1 r2 hb1 hb2;subst e1' e2';by_cases hx:x.cat=y.cat∧x.prio=y.prio∧x.own=y.own
    ·have HT:=HX.out (qt4 hx)
     have HT':Hid (ta.isrs.take (k+1)=tb.isrs.take (k+1)):=HT;rw [decide_eq_true hx] at hS;clear HT hx HX HY;go_wp2_with (first | (go_at_call 105;refine hS.mono ?_;clear hS;rintro e w2 ⟨rfl,b2⟩;have B2:Hid (qB w w2):=belT HB2.out b2;clear b2 HB2));go_roundw
     case rel=>exact ⟨k+1,by omega,by go_num,HT'.out,B2.out⟩
     case measure=>simp [intOf];omega
    ·have HN:Hid (¬ta.isrs=tb.isrs):=HY.out (fun e=>hx (by subst e;simp))
     rw [decide_eq_false hx] at hS;clear hx HX HY;go_wp2_with (first | (go_at_call 105;refine hS.mono ?_;clear hS;rintro e w2 ⟨rfl,b2⟩;have B2:Hid (qB w w2):=belT HB2.out b2;clear b2 HB2));go_ret;exact ⟨⟨false,rfl,by simp [HN.out]⟩,B2.out⟩
   ·obtain rfl:k=n1:=by omega
    have hge:¬((k:Int) < k):=by omega
    have HE:Hid (ta.isrs=tb.isrs∧qB w wr):=⟨by have:=HJ.out.1;rwa [show ta.isrs.take k=ta.isrs by rw [hn1.out];exact List.take_length,show tb.isrs.take k=tb.isrs by rw [hn2.out];exact List.take_length] at this,HJ.out.2⟩;clear HJ;go_wp2;go_ret;exact ⟨⟨true,rfl,by simp [HE.out.1]⟩,HE.out.2⟩
 ·have hlI:¬((n1:Int)=n2):=by omega
  have HN:Hid (¬ta.isrs=tb.isrs):=fun e=>hl (by rw [hn1.out,hn2.out,e])
  go_enter Tryz.func104,Tryz.ntmps104
  go_wp2;go_ret;exact ⟨⟨false,rfl,by simp [HN.out]⟩,Below.refl _ _⟩
theorem qt5 {x y:TkR} (h:x.prio=y.prio∧x.ring=y.ring∧x.full=y.full∧x.limit=y.limit∧x.mask=y.mask∧x.inner=y.inner∧x.own=y.own∧x.auto=y.auto):x=y:=by
 obtain ⟨a0,a1,a2,a3,a4,a5,a6,a7⟩:=x;obtain ⟨b0,b1,b2,b3,b4,b5,b6,b7⟩:=y;simpa [and_assoc] using h
theorem eqTk (w:World) (ta tb:Tb) (va vb:Ts) (hA:TbAt w ta va) (hB:TbAt w tb vb):Calls Tryz.prog 98 #[slT va.t,slT vb.t,.func (.func 99) #[] #[]] w fun e w'=>Says e (ta.tasks=tb.tasks)∧qB w w':=by
 have hn1:Hid (va.t.n=ta.tasks.length):=hA.t.n;have hn2:Hid (vb.t.n=tb.tasks.length):=hB.t.n;have hm1:va.t.n≤maxLen:=Nat.le_trans hA.t.c hA.t.m;unfold maxLen at hm1;have HA:Hid (TbAt w ta va):=hA;have HB:Hid (TbAt w tb vb):=hB;clear hA hB;generalize hva:va.t=v1 at *;generalize hvb:vb.t=v2 at *;obtain ⟨a1,n1,c1⟩:=v1;obtain ⟨a2,n2,c2⟩:=v2;have HVA:Hid (va.t=⟨a1,n1,c1⟩):=hva;have HVB:Hid (vb.t=⟨a2,n2,c2⟩):=hvb;clear hva hvb;dsimp only at *;show Calls _ _ #[.slice a1 n1 c1,.slice a2 n2 c2,_] _ _;by_cases hl:n1=n2
 ·subst hl
  go_enter Tryz.func98,Tryz.ntmps98
  go_wp2;go_loopw [7,8,9,17] (fun _ _ _ v17 wr=>∃k:Nat,k≤n1∧v17=I k∧Hid (ta.tasks.take k=tb.tasks.take k∧qB w wr)) (fun _ _ _ v17 _=>n1 - (intOf v17).toNat)
  case atStart=>exact ⟨0,by omega,rfl,by simp,Below.refl _ _⟩
  case round=>
   obtain ⟨k,hk,rfl,HJ⟩:=hrel;by_cases hlt:k < n1
   ·have hltI:(k:Int) < n1:=by omega
    have hk1:k < ta.tasks.length:=by rw [←hn1.out];exact hlt
    have hk2:k < tb.tasks.length:=by rw [←hn2.out];exact hlt
    obtain ⟨x,hx⟩:∃x,x=ta.tasks[k]:=⟨_,rfl⟩
    obtain ⟨y,hy⟩:∃y,y=tb.tasks[k]:=⟨_,rfl⟩
    have hxj:ta.tasks[k]?=some x:=by rw [hx];exact List.getElem?_eq_getElem hk1
    have hyj:tb.tasks[k]?=some y:=by rw [hy];exact List.getElem?_eq_getElem hk2
    obtain ⟨g1,o1,s1,e1,-,x0,x1,x2,x3,x4,x5,x6,x7,r1⟩:=qdi (HA.out.below HJ.out.2) hxj;have hb1:=qa0 wr (.cells #[I x.prio,I x.ring,.bool x.full,I x.limit,(qU x.mask),I x.inner,.slice s1.a s1.n s1.c,(qU x.auto)] 71);obtain ⟨g2,o2,s2,e2,-,y0,y1,y2,y3,y4,y5,y6,y7,r2⟩:=qdi (HB.out.below (belT HJ.out.2 hb1)) hyj;have hb2:=qa0 (wr.alloc (.cells #[I x.prio,I x.ring,.bool x.full,I x.limit,(qU x.mask),I x.inner,.slice s1.a s1.n s1.c,(qU x.auto)] 71)) (.cells #[I y.prio,I y.ring,.bool y.full,I y.limit,(qU y.mask),I y.inner,.slice s2.a s2.n s2.c,(qU y.auto)] 71);have hS:=qjv _ x y s1 s2 (r1.below (belT hb1 hb2) (fun _ _ _ _ h=>h)) (r2.below hb2 (fun _ _ _ _ h=>h));have HB2:Hid (qB w ((wr.alloc (.cells #[I x.prio,I x.ring,.bool x.full,I x.limit,(qU x.mask),I x.inner,.slice s1.a s1.n s1.c,(qU x.auto)] 71)).alloc (.cells #[I y.prio,I y.ring,.bool y.full,I y.limit,(qU y.mask),I y.inner,.slice s2.a s2.n s2.c,(qU y.auto)] 71))):=belT HJ.out.2 (belT hb1 hb2);have e1':a1=some ⟨g1,o1,none⟩:=by have:=e1;rw [HVA.out] at this;exact this
    have e2':a2=some ⟨g2,o2,none⟩:=by have:=e2;rw [HVB.out] at this;exact this
    have HX:Hid (x=y→ta.tasks.take (k+1)=tb.tasks.take (k+1)):=fun e=>ql6 hk1 hk2 HJ.out.1 (by rw [←hx,←hy,e])
    have HY:Hid (¬x=y→¬ta.tasks=tb.tasks):=fun hne e=>hne (by rw [e] at hxj;exact Option.some.inj (hxj.symm.trans hyj))
    clear e1 e2 hx hy hxj hyj hk1 hk2 HJ r1 r2 hb1 hb2;subst e1' e2';by_cases hx:x.prio=y.prio∧x.ring=y.ring∧x.full=y.full∧x.limit=y.limit∧x.mask=y.mask∧x.inner=y.inner∧x.own=y.own∧x.auto=y.auto
    ·have HT:=HX.out (qt5 hx)
     have HT':Hid (ta.tasks.take (k+1)=tb.tasks.take (k+1)):=HT;rw [decide_eq_true hx] at hS;clear HT hx HX HY;go_wp2_with (first | (go_at_call 99;refine hS.mono ?_;clear hS;rintro e w2 ⟨rfl,b2⟩;have B2:Hid (qB w w2):=belT HB2.out b2;clear b2 HB2));go_roundw
     case rel=>exact ⟨k+1,by omega,by go_num,HT'.out,B2.out⟩
     case measure=>simp [intOf];omega
    ·have HN:Hid (¬ta.tasks=tb.tasks):=HY.out (fun e=>hx (by subst e;simp))
     rw [decide_eq_false hx] at hS;clear hx HX HY;go_wp2_with (first | (go_at_call 99;refine hS.mono ?_;clear hS;rintro e w2 ⟨rfl,b2⟩;have B2:Hid (qB w w2):=belT HB2.out b2;clear b2 HB2));go_ret;exact ⟨⟨false,rfl,by simp [HN.out]⟩,B2.out⟩
   ·obtain rfl:k=n1:=by omega
    have hge:¬((k:Int) < k):=by omega
    have HE:Hid (ta.tasks=tb.tasks∧qB w wr):=⟨by have:=HJ.out.1;rwa [show ta.tasks.take k=ta.tasks by rw [hn1.out];exact List.take_length,show tb.tasks.take k=tb.tasks by rw [hn2.out];exact List.take_length] at this,HJ.out.2⟩;clear HJ;go_wp2;go_ret;exact ⟨⟨true,rfl,by simp [HE.out.1]⟩,HE.out.2⟩
 ·have hlI:¬((n1:Int)=n2):=by omega
  have HN:Hid (¬ta.tasks=tb.tasks):=fun e=>hl (by rw [hn1.out,hn2.out,e])
  go_enter Tryz.func98,Tryz.ntmps98
  go_wp2;go_ret;exact ⟨⟨false,rfl,by simp [HN.out]⟩,Below.refl _ _⟩
end Go.Proofs.YtijgopkhdjaolabGreat
namespace Go.Proofs.YtijgopkhdjaolabGreat
open Go.RowKit Go.Shelf Go.Sort
set_option maxHeartbeats 40000000
theorem qnu {e:Ending} {p:Prop} (h:Says e p) (hp:p):e=.returned (.bool true):=by
 obtain ⟨b,rfl,hb⟩:=h;rw [hb.2 hp]
theorem qpv (w:World) (o:Obj):(w.alloc o).heap.size=w.heap.size+1:=by first | simp | (unfold World.alloc;simp)
abbrev tO8 (tb:Tb) (v:Ts):Obj:=.cells (qC tb v) 32
theorem same_any (w:World) (tb:Tb) (va vb:Ts) (hA:TbAt w tb va) (hB:TbAt w tb vb):Calls Tryz.prog 30 #[.agg (tbC tb va),.agg (tbC tb vb)] w fun e w'=>e=.returned (.bool true)∧qB w w':=by
 have hb1:=qa0 w (tO8 tb va);have hb2:=qa0 (w.alloc (tO8 tb va)) (tO8 tb vb);have hv1:=heap_alloc_new w (tO8 tb va);have hv2:=heap_alloc_new (w.alloc (tO8 tb va)) (tO8 tb vb);have hb:=belT hb1 hb2;have HB:Hid (qB w ((w.alloc (tO8 tb va)).alloc (tO8 tb vb))):=hb;have HS0:Hid (∀W,qB ((w.alloc (tO8 tb va)).alloc (tO8 tb vb)) W→(fun X0 X1=>W.cell? ⟨X0,0,none⟩=some (I tb.uses)∧W.cell? ⟨X0,1,none⟩=some (I tb.modes)∧W.cell? ⟨X0,2,none⟩=some (.slice va.t.a va.t.n va.t.c)∧W.cell? ⟨X0,3,none⟩=some (.slice va.g.a va.g.n va.g.c)∧W.cell? ⟨X0,4,none⟩=some (.slice va.r.a va.r.n va.r.c)∧W.cell? ⟨X0,5,none⟩=some (.slice va.k.a va.k.n va.k.c)∧W.cell? ⟨X0,6,none⟩=some (.slice va.a.a va.a.n va.a.c)∧W.cell? ⟨X0,7,none⟩=some (.slice va.i.a va.i.n va.i.c)∧W.cell? ⟨X0,8,none⟩=some (.slice va.s.a va.s.n va.s.c)∧W.cell? ⟨X0,9,none⟩=some (I tb.depth)∧W.cell? ⟨X0,10,none⟩=some (I tb.frames)∧W.cell? ⟨X0,11,none⟩=some (I tb.errors)∧W.cell? ⟨X0,12,none⟩=some (I tb.calls)∧W.cell? ⟨X1,0,none⟩=some (I tb.uses)∧W.cell? ⟨X1,1,none⟩=some (I tb.modes)∧W.cell? ⟨X1,2,none⟩=some (.slice vb.t.a vb.t.n vb.t.c)∧W.cell? ⟨X1,3,none⟩=some (.slice vb.g.a vb.g.n vb.g.c)∧W.cell? ⟨X1,4,none⟩=some (.slice vb.r.a vb.r.n vb.r.c)∧W.cell? ⟨X1,5,none⟩=some (.slice vb.k.a vb.k.n vb.k.c)∧W.cell? ⟨X1,6,none⟩=some (.slice vb.a.a vb.a.n vb.a.c)∧W.cell? ⟨X1,7,none⟩=some (.slice vb.i.a vb.i.n vb.i.c)∧W.cell? ⟨X1,8,none⟩=some (.slice vb.s.a vb.s.n vb.s.c)∧W.cell? ⟨X1,9,none⟩=some (I tb.depth)∧W.cell? ⟨X1,10,none⟩=some (I tb.frames)∧W.cell? ⟨X1,11,none⟩=some (I tb.errors)∧W.cell? ⟨X1,12,none⟩=some (I tb.calls)) w.heap.size (w.heap.size+1)):=fun W hW=>by
  have q0:=(hb2.block _ (qa6 hv1)).trans hv1;have q:=(hW.block _ (qa6 q0)).trans q0;have p:=(hW.block _ (qa6 hv2)).trans hv2;rw [qpv] at p;refine ⟨?_,?_,?_,?_,?_,?_,?_,?_,?_,?_,?_,?_,?_,?_,?_,?_,?_,?_,?_,?_,?_,?_,?_,?_,?_,?_⟩ <;> first | (rw [qcr q];rfl) | (rw [qcr p];rfl)
 have hC2:=fun (W:World) (hW:qB ((w.alloc (tO8 tb va)).alloc (tO8 tb vb)) W)=>eqTk W tb tb va vb (hA.below (belT hb hW)) (hB.below (belT hb hW))
 have hC3:=fun (W:World) (hW:qB ((w.alloc (tO8 tb va)).alloc (tO8 tb vb)) W)=>eqRg W va.g vb.g tb.rings (hA.below (belT hb hW)).g (hB.below (belT hb hW)).g
 have hC4:=fun (W:World) (hW:qB ((w.alloc (tO8 tb va)).alloc (tO8 tb vb)) W)=>eqRs W va.r vb.r tb.ress (hA.below (belT hb hW)).r (hB.below (belT hb hW)).r
 have hC5:=fun (W:World) (hW:qB ((w.alloc (tO8 tb va)).alloc (tO8 tb vb)) W)=>eqCt W va.k vb.k tb.ctrs (hA.below (belT hb hW)).k (hB.below (belT hb hW)).k
 have hC6:=fun (W:World) (hW:qB ((w.alloc (tO8 tb va)).alloc (tO8 tb vb)) W)=>eqAl W va.a vb.a tb.als (hA.below (belT hb hW)).a (hB.below (belT hb hW)).a
 have hC7:=fun (W:World) (hW:qB ((w.alloc (tO8 tb va)).alloc (tO8 tb vb)) W)=>eqIs W tb tb va vb (hA.below (belT hb hW)) (hB.below (belT hb hW))
 have hC8:=fun (W:World) (hW:qB ((w.alloc (tO8 tb va)).alloc (tO8 tb vb)) W)=>eqMs W va.s vb.s tb.msgs (hA.below (belT hb hW)).s (hB.below (belT hb hW)).s
 unfold tbC;have hbz:qB ((w.alloc (tO8 tb va)).alloc (tO8 tb vb)) ((w.alloc (tO8 tb va)).alloc (tO8 tb vb)):=Below.refl _ _;clear hb1 hb2 hv1 hv2 hb hA hB;go_enter Tryz.func30,Tryz.ntmps30
 go_wp2_with (first
  | (go_at_call 98;refine (hC2 _ (by repeat' (first | exact hbz | apply Below.drew | apply belA))).mono ?_;clear hC2;(try clear c0 c1 c2 c3 c4 c5 c6 c7 c8 c9 c10 c11 c12 c13 c14 c15 c16 c17 c18 c19 c20 c21 c22 c23 c24 c25);rintro e u2 ⟨q,b⟩;obtain rfl:=qnu q (by first | trivial | rfl);have hbz:=belT (by repeat' (first | exact hbz | apply Below.drew | apply belA)) b;obtain ⟨c0,c1,c2,c3,c4,c5,c6,c7,c8,c9,c10,c11,c12,c13,c14,c15,c16,c17,c18,c19,c20,c21,c22,c23,c24,c25⟩:=HS0.out _ hbz;clear b)
  | (go_at_call 100;refine (hC3 _ (by repeat' (first | exact hbz | apply Below.drew | apply belA))).mono ?_;clear hC3;(try clear c0 c1 c2 c3 c4 c5 c6 c7 c8 c9 c10 c11 c12 c13 c14 c15 c16 c17 c18 c19 c20 c21 c22 c23 c24 c25);rintro e u3 ⟨rfl,b⟩;have hbz:=belT (by repeat' (first | exact hbz | apply Below.drew | apply belA)) b;obtain ⟨c0,c1,c2,c3,c4,c5,c6,c7,c8,c9,c10,c11,c12,c13,c14,c15,c16,c17,c18,c19,c20,c21,c22,c23,c24,c25⟩:=HS0.out _ hbz;clear b)
  | (go_at_call 101;refine (hC4 _ (by repeat' (first | exact hbz | apply Below.drew | apply belA))).mono ?_;clear hC4;(try clear c0 c1 c2 c3 c4 c5 c6 c7 c8 c9 c10 c11 c12 c13 c14 c15 c16 c17 c18 c19 c20 c21 c22 c23 c24 c25);rintro e u4 ⟨rfl,b⟩;have hbz:=belT (by repeat' (first | exact hbz | apply Below.drew | apply belA)) b;obtain ⟨c0,c1,c2,c3,c4,c5,c6,c7,c8,c9,c10,c11,c12,c13,c14,c15,c16,c17,c18,c19,c20,c21,c22,c23,c24,c25⟩:=HS0.out _ hbz;clear b)
  | (go_at_call 102;refine (hC5 _ (by repeat' (first | exact hbz | apply Below.drew | apply belA))).mono ?_;clear hC5;(try clear c0 c1 c2 c3 c4 c5 c6 c7 c8 c9 c10 c11 c12 c13 c14 c15 c16 c17 c18 c19 c20 c21 c22 c23 c24 c25);rintro e u5 ⟨rfl,b⟩;have hbz:=belT (by repeat' (first | exact hbz | apply Below.drew | apply belA)) b;obtain ⟨c0,c1,c2,c3,c4,c5,c6,c7,c8,c9,c10,c11,c12,c13,c14,c15,c16,c17,c18,c19,c20,c21,c22,c23,c24,c25⟩:=HS0.out _ hbz;clear b)
  | (go_at_call 103;refine (hC6 _ (by repeat' (first | exact hbz | apply Below.drew | apply belA))).mono ?_;clear hC6;(try clear c0 c1 c2 c3 c4 c5 c6 c7 c8 c9 c10 c11 c12 c13 c14 c15 c16 c17 c18 c19 c20 c21 c22 c23 c24 c25);rintro e u6 ⟨rfl,b⟩;have hbz:=belT (by repeat' (first | exact hbz | apply Below.drew | apply belA)) b;obtain ⟨c0,c1,c2,c3,c4,c5,c6,c7,c8,c9,c10,c11,c12,c13,c14,c15,c16,c17,c18,c19,c20,c21,c22,c23,c24,c25⟩:=HS0.out _ hbz;clear b)
  | (go_at_call 104;refine (hC7 _ (by repeat' (first | exact hbz | apply Below.drew | apply belA))).mono ?_;clear hC7;(try clear c0 c1 c2 c3 c4 c5 c6 c7 c8 c9 c10 c11 c12 c13 c14 c15 c16 c17 c18 c19 c20 c21 c22 c23 c24 c25);rintro e u7 ⟨q,b⟩;obtain rfl:=qnu q (by first | trivial | rfl);have hbz:=belT (by repeat' (first | exact hbz | apply Below.drew | apply belA)) b;obtain ⟨c0,c1,c2,c3,c4,c5,c6,c7,c8,c9,c10,c11,c12,c13,c14,c15,c16,c17,c18,c19,c20,c21,c22,c23,c24,c25⟩:=HS0.out _ hbz;clear b)
  | (go_at_call 106;refine (hC8 _ (by repeat' (first | exact hbz | apply Below.drew | apply belA))).mono ?_;clear hC8;(try clear c0 c1 c2 c3 c4 c5 c6 c7 c8 c9 c10 c11 c12 c13 c14 c15 c16 c17 c18 c19 c20 c21 c22 c23 c24 c25);rintro e u8 ⟨rfl,b⟩;have hbz:=belT (by repeat' (first | exact hbz | apply Below.drew | apply belA)) b;obtain ⟨c0,c1,c2,c3,c4,c5,c6,c7,c8,c9,c10,c11,c12,c13,c14,c15,c16,c17,c18,c19,c20,c21,c22,c23,c24,c25⟩:=HS0.out _ hbz;clear b))
 go_ret;exact ⟨by simp,belT HB.out hbz⟩
end Go.Proofs.YtijgopkhdjaolabGreat
namespace Go.Proofs.YtijgopkhdjaolabGreat
open Go.RowKit Go.Shelf Go.Sort
open Go.Proofs.YtijgopkhdjaolabGreat.Ob (leB leV qa8 qag crc Rd RdAll qa7)
abbrev Pce := Int×Nat×List UInt8
def pceP (w:World) (x:Pce) (i:Nat) (u:Value):Prop:=match i with | 0=>u=I x.1 | 1=>u=I x.2.1 | _=>rdV w 1 u x.2.2.length (Bs8 x.2.2)
def flP (ps:List Pce):List UInt8:=ps.flatMap (·.2.2)
theorem qgq {ps:List Pce} {k:Nat} {x:Pce} (h:ps[k]?=some x):flP (ps.take (k+1))=flP (ps.take k)++x.2.2:=by
 unfold flP;rw [List.take_add_one,h,Option.toList_some,List.flatMap_append];simp
theorem qjw (ps:List Pce) (k:Nat):(flP (ps.take k)).length≤(flP ps).length:=by
 have h:flP ps=flP (ps.take k)++flP (ps.drop k):=by unfold flP;rw [←List.flatMap_append,List.take_append_drop]
 rw [h,List.length_append];omega
theorem qma (w:World) (tb:Tb) (v:Ts) (h:TbAt w tb v) (hw:WfT tb) (hc:chkP tb=true) (ps:List Pce) (hl:(flP ps).length≤1000000) (hps:ps.length≤1000)
  (hP:∀W,Below w.heap.size w W→Calls Tryz.prog 26 #[.agg (tbC tb v)] W fun e w'=>∃s,e=.returned (slT s)∧RowsAt w' 3 (pceP w') s ps∧qB W w'):Calls Tryz.prog 28 #[.agg (tbC tb v)] w fun e w'=>∃u,e=.returned (.tuple #[u,I 0])∧OwB w w' u (flP ps):=by
 obtain ⟨i0,hi0,hz0,hz1,hz2⟩:=info_parts qh3;have hb0:=qa0 w (.cells (qC tb v) 32);have hV0:=heap_alloc_new w (.cells (qC tb v) 32);have HB:Hid (Below w.heap.size w (w.alloc (.cells (qC tb v) 32))):=hb0;have HS0:Hid (∀W,qB (w.alloc (.cells (qC tb v) 32)) W→(fun X=>qP W X tb v) w.heap.size):=fun W hW=>by
  have q:=(hW.block _ (qa6 hV0)).trans hV0;refine ⟨?_,?_,?_,?_,?_,?_,?_,?_,?_,?_,?_,?_,?_⟩ <;> (rw [qcr q];rfl)
 have hK:=qi9 tb v (w.alloc (.cells (qC tb v) 32)) (h.below hb0) hw;rw [hc,if_pos rfl] at hK;have hQ:∀W,qB (w.alloc (.cells (qC tb v) 32)) W→Calls Tryz.prog 26 #[.agg (tbC tb v)] W fun e w'=>∃s,e=.returned (slT s)∧RowsAt w' 3 (pceP w') s ps∧qB W w':=fun W hW=>hP W (belT hb0 hW)
 have HL:Hid ((flP ps).length≤1000000):=hl;unfold tbC at *;clear hb0 hV0 hP hl h hw hc;go_enter Tryz.func28,Tryz.ntmps28
 go_upto_region 1 with fail;generalize w.alloc (.cells (qC tb v) 32)=w1 at *;generalize hX:w.heap.size=X at *;have HX:Hid (w.heap.size=X):=hX;clear hX;have HS:Hid (∀W,qB w1 W→qP W X tb v):=HS0.out;obtain ⟨c0,c1,c2,c3,c4,c5,c6,c7,c8,c9,c10,c11,c12⟩:=HS.out w1 (Below.refl _ _);go_wp2_with (first
  | (go_at_call 17;refine hK.mono ?_;clear hK c0 c1 c2 c3 c4 c5 c6 c7 c8 c9 c10 c11 c12;rintro e w2 ⟨rfl,b2⟩;obtain ⟨d0,d1,d2,d3,d4,d5,d6,d7,d8,d9,d10,d11,d12⟩:=HS.out w2 b2)
  | (go_at_call 26;refine (hQ _ b2).mono ?_;clear hQ d0 d1 d2 d3 d4 d5 d6 d7 d8 d9 d10 d11 d12;rintro e w3 ⟨⟨sa,sn,sc⟩,rfl,r3,b3⟩;dsimp only [slT];have hsn:Hid (sn=ps.length):=r3.n;have hsn1:sn≤1000:=by have:=hsn.out;omega))
 have H3:Hid (RowsAt w3 3 (pceP w3) ⟨sa,sn,sc⟩ ps∧sn=ps.length∧qB w1 w3):=⟨r3,hsn.out,belT b2 b3⟩;clear r3 b2 b3 hsn hps;have HI:Hid (OwB w3 w3 qZ (flP (ps.take 0))):=⟨by simpa [flP] using World.ownsRow_nil w3 _ _ _,Below.refl _ _⟩;go_loopw [4,6,13] (fun v4 _ v13 wr=>∃k:Nat,k≤sn∧v13=I k∧Hid (OwB w3 wr v4 (flP (ps.take k)))) (fun _ _ v13 _=>sn - (intOf v13).toNat)
 case atStart=>exact ⟨0,by omega,rfl,HI.out⟩
 case round=>
  clear HI;obtain ⟨k,hk,rfl,HJ⟩:=hrel;by_cases hlt:k < sn
  ·have hltI:(k:Int) < sn:=by omega
   obtain ⟨x,hx⟩:∃x,ps[k]?=some x:=⟨_,List.getElem?_eq_getElem (by rw [←H3.out.2.1];exact hlt)⟩
   obtain ⟨g,off,ea,hg,hr⟩:=(H3.out.1).row k _ hx;obtain ⟨y0,z0,e0⟩:=hr 0 (by omega);obtain ⟨y1,z1,e1⟩:=hr 1 (by omega);obtain ⟨y2,z2,e2⟩:=hr 2 (by omega);have e0':y0=I x.1:=e0;have e1':y1=I x.2.1:=e1;have e2':rdV w3 1 y2 x.2.2.length (Bs8 x.2.2):=e2;obtain ⟨xa,xc,rfl⟩:=qh4 e2';subst e0' e1';have q0:wr.cell? ⟨g,off+k * 3,none⟩=some (I x.1):=by rw [qa5 HJ.out.2 _ _ hg];exact z0
   have q1:wr.cell? ⟨g,off+k * 3+1,none⟩=some (I x.2.1):=by rw [qa5 HJ.out.2 _ _ hg];exact z1
   have q2:wr.cell? ⟨g,off+k * 3+2,none⟩=some (.slice xa x.2.2.length xc):=by rw [qa5 HJ.out.2 _ _ hg];exact z2
   have hf:=qgq hx;have hle:=Nat.le_trans (qjw ps (k+1)) HL.out;have hq1:(flP (ps.take k)).length+x.2.2.length≤1000000:=by rw [hf,List.length_append] at hle;exact hle
   have ha:sa=some ⟨g,off,none⟩:=ea;have hb4:=qa0 wr (pcO x.1 x.2.1 (.slice xa x.2.2.length xc));have hv4:=heap_alloc_new wr (pcO x.1 x.2.1 (.slice xa x.2.2.length xc));have J1:Hid (OwB w3 (wr.alloc (pcO x.1 x.2.1 (.slice xa x.2.2.length xc))) u4 (flP (ps.take k))):=⟨qad HJ.out.1 hb4,belT HJ.out.2 hb4⟩;have hx0:rdV (wr.alloc (pcO x.1 x.2.1 (.slice xa x.2.2.length xc))) 1 (.slice xa x.2.2.length xc) x.2.2.length (Bs8 x.2.2):=qc0 e2' J1.out.2;have y0:(wr.alloc (pcO x.1 x.2.1 (.slice xa x.2.2.length xc))).cell? ⟨wr.heap.size,2,none⟩=some (.slice xa x.2.2.length xc):=by rw [qcr hv4];rfl
   have HF:Hid (flP (ps.take (k+1))=flP (ps.take k)++x.2.2):=hf;clear hr z0 z1 z2 hx ea hg e0 e1 e2 e2' hf hle hb4 hv4 HJ;subst ha;obtain ⟨xk,xn,xb⟩:=x;dsimp only at *;go_upto_region 7 with fail;clear q0 q1 q2;generalize wr.alloc (pcO xk xn (.slice xa xb.length xc))=w5 at *;generalize wr.heap.size=X5 at *;have hown:=J1.out.1;have hbs:=J1.out.2.size;have HK:Hid (∀v' w',w'.ownsRow w3.heap.size 5 1 v' ((flP (ps.take k)).length+xb.length) (Bs8 (flP (ps.take k))++Bs8 xb)→w5.grownBy w' u4.ownBlock→OwB w3 w' v' (flP (ps.take (k+1)))):=fun v' w' ho hg'=>by
    refine ⟨?_,Below.grown J1.out.1 J1.out.2 hg'⟩;rw [HF.out,List.length_append,←qd8,List.flatMap_append,qd8,qd8];exact ho
   clear J1 HF;go_wp2_with (at_builtin;refine qd7 rfl (.tmp 17) (.tmp 19) 22 rfl w3.heap.size 0 5 i0 (.int .u8 0:Value) 1 1 Tryz.underlying22 hi0 hz0 hz1 hz2 rfl (by decide) u4 (.slice xa xb.length xc) _ _ _ _ rfl rfl hown hx0 (qlg _) (by unfold maxLen;omega) (by omega) hbs ?_;intro v' w' ho hg';have K2:Hid _:=HK.out v' w' ho hg';clear ho hg');go_roundw
   case rel=>exact ⟨k+1,by omega,by go_num,K2.out⟩
   case measure=>simp [intOf];omega
  ·obtain rfl:k=sn:=by omega
   have hge:¬((k:Int) < k):=by omega
   go_wp2;refine bodyPost_ret (results_tmp2 Tryz.results28 _ _ _) rfl ?_;have e:=HJ.out;rw [show ps.take k=ps by rw [H3.out.2.1];exact List.take_length] at e;have hb:=HB.out;exact ⟨_,rfl,qc9 (belT (by have:=HB.out;rw [←HX.out] at this;exact this) H3.out.2.2) e⟩
theorem qnv {W:World} {X n:Nat} (us:List Value) (ls:List (List Pc)) (h:W.heap[X]?=some (.cells us.toArray 88)) (hn:n=ls.length) (hu:us.length=ls.length) (hl:ls.length≤1000) (hs:∀(j:Nat) (l:List Pc) (v:Value),ls[j]?=some l→us[j]?=some v→rdV W 3 v l.length (l.flatMap pcC)):RowsAt W 1 (segP W) ⟨some ⟨X,0,none⟩,n,n⟩ ls:=by
 subst hn;refine ⟨rfl,Nat.le_refl _,by show ls.length≤maxLen;unfold maxLen;omega,fun j x hj=>⟨X,0,rfl,(Array.getElem?_eq_some_iff.1 h).1,fun i hi=>?_⟩⟩;obtain rfl:i=0:=by omega
 have hlt:j < us.length:=by rw [hu];exact (List.getElem?_eq_some_iff.1 hj).1
 refine ⟨us[j],?_,hs j x _ hj (List.getElem?_eq_getElem hlt)⟩;rw [qcr h];simp [List.getElem?_eq_getElem hlt]
theorem qgr {W:World} {g T n c:Nat} (xs:List Value) (h:W.heap[g]?=some (.cells xs.toArray T)) (hn:xs.length=n * 3):rdV W 3 (.slice (some ⟨g,0,none⟩) n c) n xs:=by
 refine ⟨hn,.inr ⟨g,c,rfl,qa6 h,fun j v hj=>?_⟩⟩;rw [qcr h,Nat.zero_add];simpa using hj
theorem qs3 (l:List Pc) {k:Nat} {x:Pc} (h:l[k]?=some x):(l.flatMap pcC)[k * 3]?=some (I x.kind)∧(l.flatMap pcC)[k * 3+1]?=some (I x.rows)∧(l.flatMap pcC)[k * 3+2]?=some x.u:=by
 induction l generalizing k with
 | nil=>cases h
 | cons y l ih=>
  cases k with
  | zero=>simp at h;subst h;exact ⟨rfl,rfl,rfl⟩
  | succ k=>
   have:=ih (k:=k) (by simpa using h);rw [List.flatMap_cons,show (k+1) * 3=k * 3+3 by omega];exact this
theorem qp4 {w:World} {b:Nat} {u:Value} (pcs:List Pc) (ps:List Pce) (h:w.ownsRow b 91 3 u pcs.length (pcs.flatMap pcC)) (hl:pcs.length=ps.length) (hp:∀(j:Nat) (p:Pc) (x:Pce),pcs[j]?=some p→ps[j]?=some x→p.kind=x.1∧p.rows=x.2.1∧rdV w 1 p.u x.2.2.length (Bs8 x.2.2)):∃s,u=slT s∧RowsAt w 3 (pceP w) s ps:=by
 obtain ⟨a,c,rfl⟩:=qam h;have hcm:ps.length≤c∧c≤maxLen:=by
  rcases h.2 with ⟨q,q2⟩ | ⟨g,cap,cur,q,_,_,hle,hm,_⟩
  ·obtain ⟨_,q3,q4⟩:=Value.slice.inj q
   exact ⟨by omega,by unfold maxLen;omega⟩
  ·cases q
   exact ⟨by omega,hm⟩
 refine ⟨⟨a,pcs.length,c⟩,rfl,⟨hl,by rw [hl];exact hcm.1,hcm.2,fun j x hj=>?_⟩⟩;have hlt:j < pcs.length:=by rw [hl];exact (List.getElem?_eq_some_iff.1 hj).1
 obtain ⟨p,hpj⟩:∃p,pcs[j]?=some p:=⟨_,List.getElem?_eq_getElem hlt⟩
 obtain ⟨e1,e2,e3⟩:=hp j p x hpj hj;obtain ⟨f0,f1,f2⟩:=qs3 pcs hpj;rcases h.2 with ⟨q,q2⟩ | ⟨g,cap,cur,q,_,hh,_⟩
 ·omega
 ·cases q
  refine ⟨g,0,rfl,qa6 hh,fun i hi=>?_⟩;have cc:=fun k v hv=>h.cells rfl k v hv
  simp only [qd6] at cc;match i,hi with
  | 0,_=>exact ⟨_,by simpa using cc _ _ f0,by show I p.kind=I x.1;rw [e1]⟩
  | 1,_=>exact ⟨_,by simpa using cc _ _ f1,by show I (p.rows:Nat)=I (x.2.1:Nat);rw [e2]⟩
  | 2,_=>exact ⟨_,by simpa using cc _ _ f2,e3⟩
theorem qs4 {l:List Pc} (h:∀p∈l,∃a n c,p.u=.slice a n c):∀y∈l.flatMap pcC,y.oneCell'=true:=by
 intro y hy;obtain ⟨p,hp,hy⟩:=List.mem_flatMap.1 hy;obtain ⟨a,n,c,e⟩:=h p hp;unfold pcC at hy;simp only [List.mem_cons,List.not_mem_nil,or_false] at hy;rcases hy with rfl | rfl | rfl
 ·rfl
 ·rfl
 ·rw [e];rfl
theorem qd4 {w:World} {b e k n:Nat} {v:Value} {xs:List Value} (h:w.ownsRow b e k v n xs):∃a n c,v=.slice a n c:=by
 obtain ⟨a,c,e⟩:=qam h;exact ⟨a,n,c,e⟩
theorem seg1 {W:World} {X:Nat} {u:Value} {l:List UInt8} (h:W.heap[X]?=some (.cells #[u] 22)) (h1:W.ownsRow 0 5 1 u l.length (Bs8 l)):RowsAt W 1 (segB W) ⟨some ⟨X,0,none⟩,1,1⟩ [l]:=
 qfk [u] [l] h rfl rfl (by simp) (fun j x v e1 e2=>by
  match j,e1,e2 with
  | 0,e1,e2=>simp at e1 e2;subst e1 e2;exact qc7 h1)
end Go.Proofs.YtijgopkhdjaolabGreat
