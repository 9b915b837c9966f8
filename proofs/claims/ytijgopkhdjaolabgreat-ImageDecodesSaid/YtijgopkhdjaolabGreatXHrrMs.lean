import Derived.Test.YtijgopkhdjaolabGreatXHrrTk
import Derived.Deep.RegionHeldLaw
import Derived.Test.YtijgopkhdjaolabGreatXHy5
set_option linter.unusedSimpArgs false
set_option linter.unusedVariables false
set_option maxHeartbeats 16000000
set_option maxRecDepth 100000
namespace Go.Proofs.YtijgopkhdjaolabGreat
open Go.RowKit Go.Shelf Go.Sort
open Go.Proofs.YtijgopkhdjaolabGreat.Ob (leB leV qa8 qag crc Rd RdAll qa7 Rdr)
def VAl (_:World) (x:AlR) (u:Value):Prop:=u=.agg #[I x.ctr,I x.ac.kind,I x.ac.task,(qU x.ac.mask),(qU x.auto),(qU x.time),(qU x.cycle)]
def VRAl (lo:Nat) (W:World) (xs:List AlR) (u:Value):Prop:=∃(sa:Option Addr) (sc:Nat) (cs:List Value),u=.slice sa xs.length sc∧W.ownsRow lo 82 7 (.slice sa xs.length sc) xs.length cs∧RwX 7 alrP xs cs
theorem qnc : (Tryz.prog.info? 82).map (fun i=>(i.zero,i.size,i.bytes))=some (some (.agg #[I 0,I 0,I 0,.int .u32 0,.int .u32 0,.int .u32 0,.int .u32 0]:Value),7,48):=by kernel_rfl
theorem qlo {w:World} {lo r:Nat} {l:List UInt8} (n:Nat) (hn:n≤65535) (h:Rst w lo r l) (f:Nat) (bnd caps:Array Value) (eg:∀args W,(callFunc f args).run Tryz.prog W=.ok (.enter f args) W)
  (hf:∀(W:World) (l':List UInt8) (j:Nat),w.grownBy W (some r)→Rst W lo r l'→j < n→Calls Tryz.prog f (bnd++#[I j]++caps) W fun e w'=>RP W lo r VAl (pAl l') e w') :
  Calls Tryz.prog 45 #[I n,.func (.func f) bnd caps] w fun e w'=>RP w lo r (VRAl lo) (qa4 pAl n l) e w':=by
 obtain ⟨im,him,hm0,hm1,hm2⟩:=info_parts qnc;have HF:Hid (∀(W:World) (l':List UInt8) (j:Nat),w.grownBy W (some r)→Rst W lo r l'→j < n→Calls Tryz.prog f (bnd++#[I j]++caps) W fun e w'=>RP W lo r VAl (pAl l') e w'):=hf;have hlo:lo≤w.heap.size:=h.le;have hrl:r < lo:=h.lt;have HI:Hid (∃(xs:List AlR) (l':List UInt8) (cs:List Value),xs.length=0∧qa4 pAl n l=conP xs (qa4 pAl (n - 0) l')∧Rst w lo r l'∧w.grownBy w (some r)∧w.ownsRow w.heap.size 82 7 qZ 0 cs∧RwX 7 alrP xs cs):=⟨[],l,[],rfl,(qda _).symm,h,qcf _ _,World.ownsRow_nil _ _ _ _,RwX.nil _ _⟩;clear hf h;go_enter Tryz.func45,Tryz.ntmps45
 go_wp2;go_loopw [5,6,8] (fun v5 _ v8 wr=>∃(j:Nat) (va:Option Addr) (vc:Nat),j≤n∧v8=I j∧v5=.slice va j vc∧Hid (∃(xs:List AlR) (l':List UInt8) (cs:List Value),xs.length=j∧qa4 pAl n l=conP xs (qa4 pAl (n - j) l')∧Rst wr lo r l'∧w.grownBy wr (some r)∧wr.ownsRow w.heap.size 82 7 v5 j cs∧RwX 7 alrP xs cs)) (fun _ _ v8 _=>n - (intOf v8).toNat)
 case atStart=>exact ⟨0,none,0,by omega,rfl,rfl,HI.out⟩
 case round=>
  clear HI;obtain ⟨j,va,vc,hj,rfl,rfl,HJ⟩:=hrel;obtain ⟨xs,l1,cs,g1,g2,g3,g4,g5,g6⟩:=HJ.out;by_cases hlt:j < n
  ·have hlt':(j:Int) < n:=by omega
   have cx:=HF.out wr l1 j g4 g3 hlt;have H1:Hid (xs.length=j∧qa4 pAl n l=conP xs (qa4 pAl (n - (j+1)+1) l1)∧w.grownBy wr (some r)∧wr.ownsRow w.heap.size 82 7 (.slice va j vc) j cs∧RwX 7 alrP xs cs):=⟨g1,by rw [g2,show n - j=n - (j+1)+1 by omega],g4,g5,g6⟩;clear HJ g1 g2 g3 g4 g5 g6;go_wp2;refine cx.mono ?_;clear cx;intro e7 w7 h7;cases hp:pAl l1 with
   | error c=>
    rw [hp] at h7;obtain ⟨rfl,hg7⟩:=qar h7;have e1:qa4 pAl n l=.error c:=H1.out.2.1.trans (qds xs hp);have e2:=qa1 H1.out.2.2.1 hg7;have e9:RP w lo r (VRAl lo) (qa4 pAl n l) (gup c) w7:=by rw [e1];exact ⟨rfl,e2⟩
    exact ⟨rfl,e9⟩
   | ok q=>
    obtain ⟨x,l2⟩:=q;rw [hp] at h7;obtain ⟨u,rfl,hv,hr7,hg7⟩:=qaq h7;have hv1:u=.agg #[I x.ctr,I x.ac.kind,I x.ac.task,(qU x.ac.mask),(qU x.auto),(qU x.time),(qU x.cycle)]:=hv;subst hv1;have e1:=H1.out.2.1.trans (qdt xs hp);have o7:=qaw H1.out.2.2.2.1 (by omega) hg7;have hO:=o7.alloc (.cells #[I x.ctr,I x.ac.kind,I x.ac.task,(qU x.ac.mask),(qU x.auto),(qU x.time),(qU x.cycle)] 82);have hw7:w.heap.size≤w7.heap.size:=Nat.le_trans H1.out.2.2.1.size hg7.size;have hsz:w.heap.size≤(w7.alloc (.cells #[I x.ctr,I x.ac.kind,I x.ac.task,(qU x.ac.mask),(qU x.auto),(qU x.time),(qU x.cycle)] 82)).heap.size:=Nat.le_trans hw7 (qa0 w7 _).size;have hnew:=qaz w7 #[I x.ctr,I x.ac.kind,I x.ac.task,(qU x.ac.mask),(qU x.auto),(qU x.time),(qU x.cycle)] 82;have hone:∀u∈(#[I x.ctr,I x.ac.kind,I x.ac.task,(qU x.ac.mask),(qU x.auto),(qU x.time),(qU x.cycle)]:Array Value).toList,u.oneCell'=true:=by
     intro u hu;simp only [List.mem_cons,List.not_mem_nil,or_false] at hu;rcases hu with rfl | rfl | rfl | rfl | rfl | rfl | rfl <;> rfl
    have HE:Hid (xs.length=j∧qa4 pAl n l=conP (xs++[x]) (qa4 pAl (n - (j+1)) l2)∧Rst w7 lo r l2∧w.grownBy w7 (some r)∧RwX 7 alrP xs cs∧w7.ownsRow w.heap.size 82 7 (.slice va j vc) j cs):=⟨H1.out.1,e1,hr7,qa1 H1.out.2.2.1 hg7,H1.out.2.2.2.2,o7⟩;clear H1 h7 hp hr7 hg7 e1 o7 HF;go_wp2_with (first
     | (at_builtin;refine wpList_append_own _ rfl (.tmp 11) (.tmp 15) 28 rfl w.heap.size 82 im _ 7 48 Tryz.underlying28 him hm0 hm1 hm2 rfl (by decide) _ _ _ rfl hO ⟨w7.heap.size,0,none⟩ 1 1 (#[I x.ctr,I x.ac.kind,I x.ac.task,(qU x.ac.mask),(qU x.auto),(qU x.time),(qU x.cycle)]:Array Value).toList rfl rfl hnew hone (by unfold maxLen;omega) (by omega) hsz ?_;intro v6 w6 ho6 hg6 _;obtain ⟨a6,c6,rfl⟩:=qam ho6))
    have H9:Hid (∃(xs:List AlR) (l':List UInt8) (cs:List Value),xs.length=j+1∧qa4 pAl n l=conP xs (qa4 pAl (n - (j+1)) l')∧Rst w6 lo r l'∧w.grownBy w6 (some r)∧w6.ownsRow w.heap.size 82 7 (.slice a6 (j+1) c6) (j+1) cs∧RwX 7 alrP xs cs):=by
     obtain ⟨f1,f2,f3,f4,f5,f6⟩:=HE.out;have hoth:∀b,b < w.heap.size→w6.heap[b]?=w7.heap[b]?:=fun b hb=>by
      rw [hg6.block b (by omega) (fun e=>by have:=(hO.lt b e.symm).1;omega)];exact heap_alloc_old w7 _ (by omega)
     have hs67:w7.heap.size≤w6.heap.size:=Nat.le_trans (qa0 w7 _).size hg6.size;refine ⟨xs++[x],l2,cs++(#[I x.ctr,I x.ac.kind,I x.ac.task,(qU x.ac.mask),(qU x.auto),(qU x.time),(qU x.cycle)]:Array Value).toList,by simp [f1],f2,f3.keep (fun b hb=>hoth b (by omega)) hs67,⟨?_,?_,?_,by omega,fun b hb hne=>(hoth b hb).trans (f4.block b hb hne)⟩,ho6,?_⟩
     ·exact (hg6.os.trans (show _=w7.os from rfl)).trans f4.os
     ·exact (hg6.tape.trans (show _=w7.tape from rfl)).trans f4.tape
     ·exact (hg6.output.trans (show _=w7.output from rfl)).trans f4.output
     ·refine RwX.snoc f5 x _ rfl (fun i hi=>?_)
      match i,hi with
      | 0,_=>exact ⟨_,rfl,rfl⟩
      | 1,_=>exact ⟨_,rfl,rfl⟩
      | 2,_=>exact ⟨_,rfl,rfl⟩
      | 3,_=>exact ⟨_,rfl,rfl⟩
      | 4,_=>exact ⟨_,rfl,rfl⟩
      | 5,_=>exact ⟨_,rfl,rfl⟩
      | 6,_=>exact ⟨_,rfl,rfl⟩
    clear HE ho6 hg6 hO hnew hone hsz hw7;go_wp2;go_roundw
    case rel=>exact ⟨j+1,a6,c6,by omega,by go_num,rfl,H9.out⟩
    case measure=>simp [intOf];omega
  ·obtain rfl:j=n:=by omega
   have hge:¬((j:Int) < j):=by omega
   have HE:Hid (RP w lo r (VRAl lo) (qa4 pAl j l) (.returned (.slice va j vc)) wr):=by
    have e1:qa4 pAl j l=.ok (xs,l1):=by rw [g2,Nat.sub_self];simp [qa4,conP,retP]
    rw [e1];refine ⟨_,rfl,⟨va,vc,cs,by rw [g1],?_,g6⟩,g3,g4⟩;rw [g1];exact qbk g5 hlo
   clear HJ HF g1 g2 g3 g4 g5 g6;go_wp2;go_ret;exact HE.out
theorem qnd {fn:Func} {m:Nat} (hf:fn.results=#[.cell m 82]) (tmps:Array Value) (b:Nat) (w:World) (z0 z1 z2 z3 z4 z5 z6:Value) (h2:tmps[m]?=some (.pointer (some ⟨b,0,none⟩))) (hk:w.heap[b]?=some (.cells #[z0,z1,z2,z3,z4,z5,z6] 82 (0,0))) (h1:z0.oneCell'=true∧z1.oneCell'=true∧z2.oneCell'=true∧z3.oneCell'=true∧z4.oneCell'=true∧z5.oneCell'=true∧z6.oneCell'=true):(results fn tmps).run Tryz.prog w=.ok (.agg #[z0,z1,z2,z3,z4,z5,z6]) w:=by
 have a1:=fun i=>cell_of_row w b i _ _ (0,0) hk
 have y0:=a1 0;have y1:=a1 1;have y2:=a1 2;have y3:=a1 3;have y4:=a1 4;have y5:=a1 5;have y6:=a1 6;simp at y0 y1 y2 y3 y4 y5 y6;simp [results,hf,go_sem,h2,y0,y1,y2,y3,y4,y5,y6]
theorem qst {w:World} {lo r:Nat} {l0:List UInt8} (t0:Rst w lo r l0) (j:Nat):Calls Tryz.prog 46 #[rdP r,I j] w fun e w'=>RP w lo r VAl (pAl l0) e w':=by
 have hlo:=t0.le;have hrl:=t0.lt;have hc0:=qcq w r;have hb1:=qa0 (w.alloc (rdO r)) (.cells #[I 0,I 0,I 0,.int .u32 0,.int .u32 0,.int .u32 0,.int .u32 0] 82);have hY0:=heap_alloc_new (w.alloc (rdO r)) (.cells #[I 0,I 0,I 0,.int .u32 0,.int .u32 0,.int .u32 0,.int .u32 0] 82);have HX:Hid (∀W,((w.alloc (rdO r)).alloc (.cells #[I 0,I 0,I 0,.int .u32 0,.int .u32 0,.int .u32 0,.int .u32 0] 82)).grownBy W (some r)→W.cell? ⟨w.heap.size,0,none⟩=some (.pointer (some ⟨r,0,none⟩))):=fun W hW=>hW.cell (by rw [qa5 hb1 _ _ (by simp)];exact hc0) (by show some w.heap.size≠some r;intro e;cases e;omega)
 have HY:Hid (∀W,((w.alloc (rdO r)).alloc (.cells #[I 0,I 0,I 0,.int .u32 0,.int .u32 0,.int .u32 0,.int .u32 0] 82)).grownBy W (some r)→W.heap[w.heap.size+1]?=some (.cells #[I 0,I 0,I 0,.int .u32 0,.int .u32 0,.int .u32 0,.int .u32 0] 82)):=fun W hW=>qb8 hW (by have:=hY0;rwa [show (w.alloc (rdO r)).heap.size=w.heap.size+1 by simp] at this) (by omega)
 have s0:=(t0.al (rdO r)).al (.cells #[I 0,I 0,I 0,.int .u32 0,.int .u32 0,.int .u32 0,.int .u32 0] 82);have HB:Hid (w.grownBy ((w.alloc (rdO r)).alloc (.cells #[I 0,I 0,I 0,.int .u32 0,.int .u32 0,.int .u32 0,.int .u32 0] 82)) (some r)):=qah ((qa0 w _).trans (hb1.mono (qa0 w _).size));have E0:Hid (pAl l0=pAl l0):=rfl;clear hc0 hb1 hY0 t0;go_enter Tryz.func46,Tryz.ntmps46
 go_upto_region 1 with fail;generalize (w.alloc (rdO r)).alloc (.cells #[I 0,I 0,I 0,.int .u32 0,.int .u32 0,.int .u32 0,.int .u32 0] 82)=w1 at *;have G0:=qah (r:=some r) (Below.refl w1.heap.size w1).drew;have HC:=HX.out w1.drew G0;refine wp_region_held_drew (S:=fun W=>W.cell? ⟨w.heap.size,0,none⟩=some (.pointer (some ⟨r,0,none⟩))) (by kernel_rfl) HC (fun hHeld=>?_);clear HC;change wpAnyH _ _ _ _ _ _ #[false,false,false,false,false,false,false,false,false,false,false,false,false] _ _;try simp only [qN]
 refine qTH 0 (rdP r) rfl hHeld ?_;try simp only [qN]
 refine qTH 2 (rdP r) rfl hHeld ?_;try simp only [qN]
 refine qTH 4 (rdP r) rfl hHeld ?_;try simp only [qN]
 refine qTH 7 (rdP r) rfl hHeld ?_;try simp only [qN]
 refine qTH 9 (rdP r) rfl hHeld ?_;try simp only [qN]
 clear hHeld;have t0:=s0.below (Below.refl w1.heap.size w1).drew;clear s0;generalize w1.drew=W0 at *;refine qR1 (i:=1) rfl (fun K hK=>?_);go_simp;refine (qbd t0).mono ?_;intro e W1 hR;rcases hp:p1 l0 with c | ⟨c,l1⟩
 ·rw [hp] at hR
  obtain ⟨rfl,hg⟩:=qar hR;have e9:RP w lo r VAl (pAl l0) (gup c) W1:=by
   rw [E0.out];unfold pAl;rw [qaj hp];exact ⟨rfl,qa1 HB.out (qa1 G0 hg)⟩
  exact ⟨rfl,e9⟩
 rw [hp] at hR;obtain ⟨u1,rfl,hv,t1,g1⟩:=qaq hR;have q:u1=I c:=hv;subst q;have GG:=qa1 G0 g1;have EE:Hid (pAl l0=(andP pAc fun a=>andP (pn 1) fun u=>andP (pn 4) fun t=>andP (pn 4) fun y=>retP ⟨c,a,u,t,y⟩) l1):=by
  show _=_;rw [E0.out];unfold pAl;rw [qa9 hp]
 skip;refine hK.out _ _ (HX.out W1 GG) (fun hSS=>?_);clear hSS hK K hR hp E0 G0 t0;have G0:=GG;have E0:=EE;clear GG EE g1;try simp only [qN]
 refine qR1 (i:=3) rfl (fun K hK=>?_);go_simp;refine (qpm t1).mono ?_;intro e W2 hR;rcases hp:pAc l1 with c | ⟨a,l2⟩
 ·rw [hp] at hR
  obtain ⟨rfl,hg⟩:=qar hR;have e9:RP w lo r VAl (pAl l0) (gup c) W2:=by
   rw [E0.out];skip;rw [qaj hp];exact ⟨rfl,qa1 HB.out (qa1 G0 hg)⟩
  exact ⟨rfl,e9⟩
 rw [hp] at hR;obtain ⟨u2,rfl,hv,t2,g2⟩:=qaq hR;have q:u2=.agg #[I a.kind,I a.task,.int .u32 (a.mask:Int)]:=hv;subst q;have GG:=qa1 G0 g2;have EE:Hid (pAl l0=(andP (pn 1) fun u=>andP (pn 4) fun t=>andP (pn 4) fun y=>retP ⟨c,a,u,t,y⟩) l2):=by
  show _=_;rw [E0.out];skip;rw [qa9 hp]
 skip;refine hK.out _ _ (HX.out W2 GG) (fun hSS=>?_);clear hSS hK K hR hp E0 G0 t1;have G0:=GG;have E0:=EE;clear GG EE g2;try simp only [qN]
 refine qR1 (i:=5) rfl (fun K hK=>?_);go_simp;refine (qbd t2).mono ?_;intro e W3 hR;rcases hp:pn 1 l2 with c | ⟨u,l3⟩
 ·rw [show p1 l2=.error c from qaj hp] at hR
  obtain ⟨rfl,hg⟩:=qar hR;have e9:RP w lo r VAl (pAl l0) (gup c) W3:=by
   rw [E0.out];skip;rw [qaj hp];exact ⟨rfl,qa1 HB.out (qa1 G0 hg)⟩
  exact ⟨rfl,e9⟩
 rw [show p1 l2=.ok ((u:Int),l3) from qa9 hp] at hR;obtain ⟨u3,rfl,hv,t3,g3⟩:=qaq hR;have q:u3=I u:=hv;subst q;have GG:=qa1 G0 g3;have EE:Hid (pAl l0=(andP (pn 4) fun t=>andP (pn 4) fun y=>retP ⟨c,a,u,t,y⟩) l3):=by
  show _=_;rw [E0.out];skip;rw [qa9 hp]
 have hw3:IntKind.u32.wrap (u:Int)=u:=by have:=qcw hp;rw [IntKind.wrap_u32];omega
 refine hK.out _ _ (HX.out W3 GG) (fun hSS=>?_);clear hSS hK K hR hp E0 G0 t2;have G0:=GG;have E0:=EE;clear GG EE g3;try simp only [qN]
 refine wpAnyH_take (i:=6) (v:=.int .u32 (u:Int)) rfl (by kernel_rfl) (by kernel_rfl) (by kernel_rfl) (fun _ _ _ h=>h) (Or.inl ⟨by rfl,?_⟩) (HX.out W3 G0) ?_
 ·intro w' hSw
  try dsimp only at hSw
  go_simp
 try simp only [qN]
 refine qR1 (i:=8) rfl (fun K hK=>?_);go_simp;refine (qe4 t3).mono ?_;intro e W4 hR;rcases hp:pn 4 l3 with c | ⟨t,l4⟩
 ·rw [hp] at hR
  obtain ⟨rfl,hg⟩:=qar hR;have e9:RP w lo r VAl (pAl l0) (gup c) W4:=by
   rw [E0.out];skip;rw [qaj hp];exact ⟨rfl,qa1 HB.out (qa1 G0 hg)⟩
  exact ⟨rfl,e9⟩
 rw [hp] at hR;obtain ⟨u4,rfl,hv,t4,g4⟩:=qaq hR;have q:u4=.int .u32 (t:Int):=hv;subst q;have GG:=qa1 G0 g4;have EE:Hid (pAl l0=(andP (pn 4) fun y=>retP ⟨c,a,u,t,y⟩) l4):=by
  show _=_;rw [E0.out];skip;rw [qa9 hp]
 skip;refine hK.out _ _ (HX.out W4 GG) (fun hSS=>?_);clear hSS hK K hR hp E0 G0 t3;have G0:=GG;have E0:=EE;clear GG EE g4;try simp only [qN]
 refine qR1 (i:=10) rfl (fun K hK=>?_);go_simp;refine (qe4 t4).mono ?_;intro e W5 hR;rcases hp:pn 4 l4 with c | ⟨y,l5⟩
 ·rw [hp] at hR
  obtain ⟨rfl,hg⟩:=qar hR;have e9:RP w lo r VAl (pAl l0) (gup c) W5:=by
   rw [E0.out];skip;rw [qaj hp];exact ⟨rfl,qa1 HB.out (qa1 G0 hg)⟩
  exact ⟨rfl,e9⟩
 rw [hp] at hR;obtain ⟨u5,rfl,hv,t5,g5⟩:=qaq hR;have q:u5=.int .u32 (y:Int):=hv;subst q;have GG:=qa1 G0 g5;have EE:Hid (pAl l0=(retP ⟨c,a,u,t,y⟩) l5):=by
  show _=_;rw [E0.out];skip;rw [qa9 hp]
 skip;refine hK.out _ _ (HX.out W5 GG) (fun hSS=>?_);clear hSS hK K hR hp E0 G0 t4;have G0:=GG;have E0:=EE;clear GG EE g5;try simp only [qN]
 refine wpAnyH_take (i:=11) (v:=.agg #[I c,I a.kind,I a.task,.int .u32 (a.mask:Int),.int .u32 (u:Int),.int .u32 (t:Int),.int .u32 (y:Int)]) rfl (by kernel_rfl) (by kernel_rfl) (by kernel_rfl) (fun _ _ _ h=>h) (Or.inl ⟨by rfl,?_⟩) (HX.out W5 G0) ?_
 ·intro w' hSw
  try dsimp only at hSw
  go_simp
 try simp only [qN]
 have hY:=HY.out W5 G0;have cY0:(W5).cell? ⟨w.heap.size+1,0,none⟩=some (I 0):=by rw [qcr hY];rfl
 have fY0:(W5).frozen? ⟨w.heap.size+1,0,none⟩=false:=frozen_of_row _ _ _ _ _ hY;have hY0:=heap_setCell_same (W5) (w.heap.size+1) 0 _ _ (I c) hY;have cY1:((W5).setCell ⟨w.heap.size+1,0,none⟩ (I c)).cell? ⟨w.heap.size+1,1,none⟩=some (I 0):=by rw [qcr hY0];rfl
 have fY1:((W5).setCell ⟨w.heap.size+1,0,none⟩ (I c)).frozen? ⟨w.heap.size+1,1,none⟩=false:=frozen_of_row _ _ _ _ _ hY0;have hY1:=heap_setCell_same ((W5).setCell ⟨w.heap.size+1,0,none⟩ (I c)) (w.heap.size+1) 1 _ _ (I a.kind) hY0;have cY2:(qS2 W5 (w.heap.size+1) (I c) (I a.kind)).cell? ⟨w.heap.size+1,2,none⟩=some (I 0):=by rw [qcr hY1];rfl
 have fY2:(qS2 W5 (w.heap.size+1) (I c) (I a.kind)).frozen? ⟨w.heap.size+1,2,none⟩=false:=frozen_of_row _ _ _ _ _ hY1;have hY2:=heap_setCell_same (qS2 W5 (w.heap.size+1) (I c) (I a.kind)) (w.heap.size+1) 2 _ _ (I a.task) hY1;have cY3:(qS3 W5 (w.heap.size+1) (I c) (I a.kind) (I a.task)).cell? ⟨w.heap.size+1,3,none⟩=some (.int .u32 0):=by rw [qcr hY2];rfl
 have fY3:(qS3 W5 (w.heap.size+1) (I c) (I a.kind) (I a.task)).frozen? ⟨w.heap.size+1,3,none⟩=false:=frozen_of_row _ _ _ _ _ hY2;have hY3:=heap_setCell_same (qS3 W5 (w.heap.size+1) (I c) (I a.kind) (I a.task)) (w.heap.size+1) 3 _ _ (.int .u32 (a.mask:Int)) hY2;have cY4:(qS4 W5 (w.heap.size+1) (I c) (I a.kind) (I a.task) (.int .u32 (a.mask:Int))).cell? ⟨w.heap.size+1,4,none⟩=some (.int .u32 0):=by rw [qcr hY3];rfl
 have fY4:(qS4 W5 (w.heap.size+1) (I c) (I a.kind) (I a.task) (.int .u32 (a.mask:Int))).frozen? ⟨w.heap.size+1,4,none⟩=false:=frozen_of_row _ _ _ _ _ hY3;have hY4:=heap_setCell_same (qS4 W5 (w.heap.size+1) (I c) (I a.kind) (I a.task) (.int .u32 (a.mask:Int))) (w.heap.size+1) 4 _ _ (.int .u32 (u:Int)) hY3;have cY5:(qS5 W5 (w.heap.size+1) (I c) (I a.kind) (I a.task) (.int .u32 (a.mask:Int)) (.int .u32 (u:Int))).cell? ⟨w.heap.size+1,5,none⟩=some (.int .u32 0):=by rw [qcr hY4];rfl
 have fY5:(qS5 W5 (w.heap.size+1) (I c) (I a.kind) (I a.task) (.int .u32 (a.mask:Int)) (.int .u32 (u:Int))).frozen? ⟨w.heap.size+1,5,none⟩=false:=frozen_of_row _ _ _ _ _ hY4;have hY5:=heap_setCell_same (qS5 W5 (w.heap.size+1) (I c) (I a.kind) (I a.task) (.int .u32 (a.mask:Int)) (.int .u32 (u:Int))) (w.heap.size+1) 5 _ _ (.int .u32 (t:Int)) hY4;have cY6:(qS6 W5 (w.heap.size+1) (I c) (I a.kind) (I a.task) (.int .u32 (a.mask:Int)) (.int .u32 (u:Int)) (.int .u32 (t:Int))).cell? ⟨w.heap.size+1,6,none⟩=some (.int .u32 0):=by rw [qcr hY5];rfl
 have fY6:(qS6 W5 (w.heap.size+1) (I c) (I a.kind) (I a.task) (.int .u32 (a.mask:Int)) (.int .u32 (u:Int)) (.int .u32 (t:Int))).frozen? ⟨w.heap.size+1,6,none⟩=false:=frozen_of_row _ _ _ _ _ hY5;have hY6:=heap_setCell_same (qS6 W5 (w.heap.size+1) (I c) (I a.kind) (I a.task) (.int .u32 (a.mask:Int)) (.int .u32 (u:Int)) (.int .u32 (t:Int))) (w.heap.size+1) 6 _ _ (.int .u32 (y:Int)) hY5;refine qR1 (i:=12) rfl (fun K hK=>?_);go_simp;have hSf:(qS7 W5 (w.heap.size+1) (I c) (I a.kind) (I a.task) (.int .u32 (a.mask:Int)) (.int .u32 (u:Int)) (.int .u32 (t:Int)) (.int .u32 (y:Int))).cell? ⟨w.heap.size,0,none⟩=some (.pointer (some ⟨r,0,none⟩)):=by
  have hz:=HX.out W5 G0;repeat rw [World.cell?_setCell_far _ _ _ _ (by show w.heap.size+1≠w.heap.size;omega)]
  exact hz
 refine hK.out _ _ hSf (fun hSS=>?_);clear hSS hK K;try simp only [qN]
 refine wpAnyH_done (by kernel_rfl) ?_ _;have hYL:(qS7 W5 (w.heap.size+1) (I c) (I a.kind) (I a.task) (.int .u32 (a.mask:Int)) (.int .u32 (u:Int)) (.int .u32 (t:Int)) (.int .u32 (y:Int))).heap[w.heap.size+1]?=some (.cells #[I c,I a.kind,I a.task,.int .u32 (a.mask:Int),.int .u32 (u:Int),.int .u32 (t:Int),.int .u32 (y:Int)] 82):=hY6;have hEnd:RP w lo r VAl (pAl l0) (.returned (.agg #[I c,I a.kind,I a.task,.int .u32 (a.mask:Int),.int .u32 (u:Int),.int .u32 (t:Int),.int .u32 (y:Int)])) (qS7 W5 (w.heap.size+1) (I c) (I a.kind) (I a.task) (.int .u32 (a.mask:Int)) (.int .u32 (u:Int)) (.int .u32 (t:Int)) (.int .u32 (y:Int))):=by
  rw [E0.out];skip;refine ⟨_,rfl,rfl,(((((((t5.setY (by omega)).setY (by omega)).setY (by omega)).setY (by omega)).setY (by omega)).setY (by omega)).setY (by omega)),(qae (qae (qae (qae (qae (qae (qae (qa1 HB.out G0) (by omega)) (by omega)) (by omega)) (by omega)) (by omega)) (by omega)) (by omega))⟩
 clear E0;go_wp2;refine bodyPost_ret (qnd Tryz.results46 _ (w.heap.size+1) _ _ _ _ _ _ _ _ rfl hYL ⟨rfl,rfl,rfl,rfl,rfl,rfl,rfl⟩) rfl ?_;exact hEnd
end Go.Proofs.YtijgopkhdjaolabGreat
namespace Go.Proofs.YtijgopkhdjaolabGreat
open Go.RowKit Go.Shelf Go.Sort
open Go.Proofs.YtijgopkhdjaolabGreat.Ob (leB leV qa8 qag crc Rd RdAll qa7 rd_drop)
def dAl : DS→AlR×DS:=dB qb0 fun c=>dB dAc fun a=>dB dOne fun u=>dB qax fun t=>dB qax fun y=>dR ⟨c,a,u,t,y⟩
theorem qlp (w:World) (r:Nat) (s:DS) (h:dSt w r s):Calls Tryz.prog 66 #[.pointer (some ⟨r,0,none⟩)] w fun e w'=>e=.returned (.agg #[I (dAl s).1.ctr,I (dAl s).1.ac.kind,I (dAl s).1.ac.task,.int .u32 ((dAl s).1.ac.mask:Int),.int .u32 ((dAl s).1.auto:Int),.int .u32 ((dAl s).1.time:Int),.int .u32 ((dAl s).1.cycle:Int)])∧dSt w' r (dAl s).2∧w.grownBy w' (some r):=by
 have hE:Hid (dAl s=(⟨(dOne s).1,(dAc ((dOne s).2)).1,(dOne ((dAc ((dOne s).2)).2)).1,(qax ((dOne ((dAc ((dOne s).2)).2)).2)).1,(qax ((qax ((dOne ((dAc ((dOne s).2)).2)).2)).2)).1⟩,(qax ((qax ((dOne ((dAc ((dOne s).2)).2)).2)).2)).2)):=by show _=_;simp only [dAl,dB,dR,qb0,dM]
 rw [hE.out];clear hE;have HJ0:Hid (DF w (w.alloc (.cells #[I 0,I 0,I 0,.int .u32 0,.int .u32 0,.int .u32 0,.int .u32 0] 82)) r s∧HC w (w.alloc (.cells #[I 0,I 0,I 0,.int .u32 0,.int .u32 0,.int .u32 0,.int .u32 0] 82)) r w.heap.size 82 #[I 0,I 0,I 0,.int .u32 0,.int .u32 0,.int .u32 0,.int .u32 0]):=⟨(DF.start h).below (qa0 w _),HC.new (DF.start h) #[I 0,I 0,I 0,.int .u32 0,.int .u32 0,.int .u32 0,.int .u32 0] 82⟩;have hlr:=h.lt;clear h;go_enter Tryz.func66,Tryz.ntmps66
 go_upto_region 1 with fail;generalize w.alloc (.cells #[I 0,I 0,I 0,.int .u32 0,.int .u32 0,.int .u32 0,.int .u32 0] 82)=w1 at *;generalize hX:w.heap.size=X at *;have HX:Hid (w.heap.size=X):=hX;have HLR:Hid (r < X):=hlr;clear hX hlr;have hT:=qbh w1 r s HJ0.out.1.d;go_upto_region 2 with (first | (go_at_call 21;refine hT.mono ?_;clear hT;have hb0:=qbj 1 s (by omega);change (dOne s).1 < 256 ^ 1 at hb0;rintro e w2 ⟨rfl,hd,hg⟩;have HJ1:Hid (DF w w2 r ((dOne s).2)∧HC w w2 r X 82 #[I 0,I 0,I 0,.int .u32 0,.int .u32 0,.int .u32 0,.int .u32 0]):=⟨HJ0.out.1.call hd hg,HJ0.out.2.call (by have:=HX.out;have:=HLR.out;omega) hg⟩;clear hd hg HJ0));generalize hq1:dOne s=q1 at *;have Hq1:Hid (dOne s=q1):=hq1;clear hq1;have hsz:=HJ1.out.1.g.size;have hXX:=HX.out;have HJ2:Hid (DF w (w2.alloc (.cells #[I q1.1,I 0,I 0,.int .u32 0,.int .u32 0,.int .u32 0,.int .u32 0] 82)) r q1.2∧HC w (w2.alloc (.cells #[I q1.1,I 0,I 0,.int .u32 0,.int .u32 0,.int .u32 0,.int .u32 0] 82)) r X 82 #[I 0,I 0,I 0,.int .u32 0,.int .u32 0,.int .u32 0,.int .u32 0]∧HC w (w2.alloc (.cells #[I q1.1,I 0,I 0,.int .u32 0,.int .u32 0,.int .u32 0,.int .u32 0] 82)) r w2.heap.size 82 #[I q1.1,I 0,I 0,.int .u32 0,.int .u32 0,.int .u32 0,.int .u32 0]∧X≠w2.heap.size):=⟨HJ1.out.1.below (qa0 _ _),HJ1.out.2.below (qa0 _ _),HC.new HJ1.out.1 _ _,by have:=qa6 HJ1.out.2.2;omega⟩;clear hsz hXX HJ1;generalize w2.alloc (.cells #[I q1.1,I 0,I 0,.int .u32 0,.int .u32 0,.int .u32 0,.int .u32 0] 82)=w3 at *;generalize w2.heap.size=Y at *;have hT:=qgf w3 r q1.2 HJ2.out.1.d;go_upto_region 3 with (first | (go_at_call 146;refine hT.mono ?_;clear hT;rintro e w4 ⟨rfl,hd,hg⟩;have HJ3:Hid (DF w w4 r ((dAc q1.2).2)∧HC w w4 r X 82 #[I 0,I 0,I 0,.int .u32 0,.int .u32 0,.int .u32 0,.int .u32 0]∧HC w w4 r Y 82 #[I q1.1,I 0,I 0,.int .u32 0,.int .u32 0,.int .u32 0,.int .u32 0]∧X≠Y):=⟨HJ2.out.1.call hd hg,HJ2.out.2.1.call (by have:=HX.out;have:=HLR.out;omega) hg,HJ2.out.2.2.1.call (by have:=HX.out;have:=HLR.out;omega) hg,HJ2.out.2.2.2⟩;clear hd hg HJ2;have k0:=HJ3.out.2.2.1;have a0:w4.cell? ⟨Y,1,none⟩=some (I 0):=(by rw [qcr k0.2];rfl);have f0:=frozen_of_row w4 Y 1 _ _ k0.2;have k1:HC w (w4.setCell ⟨Y,1,none⟩ (I (dAc q1.2).1.kind)) r Y 82 #[I q1.1,I (dAc q1.2).1.kind,I 0,.int .u32 0,.int .u32 0,.int .u32 0,.int .u32 0]:=k0.set;have a1:(w4.setCell ⟨Y,1,none⟩ (I (dAc q1.2).1.kind)).cell? ⟨Y,2,none⟩=some (I 0):=(by rw [qcr k1.2];rfl);have f1:=frozen_of_row (w4.setCell ⟨Y,1,none⟩ (I (dAc q1.2).1.kind)) Y 2 _ _ k1.2;have k2:HC w ((w4.setCell ⟨Y,1,none⟩ (I (dAc q1.2).1.kind)).setCell ⟨Y,2,none⟩ (I (dAc q1.2).1.task)) r Y 82 #[I q1.1,I (dAc q1.2).1.kind,I (dAc q1.2).1.task,.int .u32 0,.int .u32 0,.int .u32 0,.int .u32 0]:=k1.set;have a2:((w4.setCell ⟨Y,1,none⟩ (I (dAc q1.2).1.kind)).setCell ⟨Y,2,none⟩ (I (dAc q1.2).1.task)).cell? ⟨Y,3,none⟩=some (.int .u32 0):=(by rw [qcr k2.2];rfl);have f2:=frozen_of_row ((w4.setCell ⟨Y,1,none⟩ (I (dAc q1.2).1.kind)).setCell ⟨Y,2,none⟩ (I (dAc q1.2).1.task)) Y 3 _ _ k2.2));generalize hq2:dAc q1.2=q2 at *;have Hq2:Hid (dAc q1.2=q2):=hq2;clear hq2;have HJ4:Hid (DF w (((w4.setCell ⟨Y,1,none⟩ (I q2.1.kind)).setCell ⟨Y,2,none⟩ (I q2.1.task)).setCell ⟨Y,3,none⟩ (.int .u32 (q2.1.mask:Int))) r q2.2∧HC w (((w4.setCell ⟨Y,1,none⟩ (I q2.1.kind)).setCell ⟨Y,2,none⟩ (I q2.1.task)).setCell ⟨Y,3,none⟩ (.int .u32 (q2.1.mask:Int))) r X 82 #[I 0,I 0,I 0,.int .u32 0,.int .u32 0,.int .u32 0,.int .u32 0]∧HC w (((w4.setCell ⟨Y,1,none⟩ (I q2.1.kind)).setCell ⟨Y,2,none⟩ (I q2.1.task)).setCell ⟨Y,3,none⟩ (.int .u32 (q2.1.mask:Int))) r Y 82 #[I q1.1,I q2.1.kind,I q2.1.task,.int .u32 (q2.1.mask:Int),.int .u32 0,.int .u32 0,.int .u32 0]∧X≠Y):=⟨(((HJ3.out.1.set (X:=Y) (i:=1) (v:=I q2.1.kind) HJ3.out.2.2.1.1).set (X:=Y) (i:=2) (v:=I q2.1.task) HJ3.out.2.2.1.1).set (X:=Y) (i:=3) (v:=.int .u32 (q2.1.mask:Int)) HJ3.out.2.2.1.1),(((HJ3.out.2.1.other (Y:=Y) (i:=1) (v:=I q2.1.kind) HJ3.out.2.2.2).other (Y:=Y) (i:=2) (v:=I q2.1.task) HJ3.out.2.2.2).other (Y:=Y) (i:=3) (v:=.int .u32 (q2.1.mask:Int)) HJ3.out.2.2.2),(((HJ3.out.2.2.1.set (i:=1) (v:=I q2.1.kind)).set (i:=2) (v:=I q2.1.task)).set (i:=3) (v:=.int .u32 (q2.1.mask:Int))),HJ3.out.2.2.2⟩;clear HJ3 k0 a0 f0 k1 a1 f1 k2 a2 f2;generalize (((w4.setCell ⟨Y,1,none⟩ (I q2.1.kind)).setCell ⟨Y,2,none⟩ (I q2.1.task)).setCell ⟨Y,3,none⟩ (.int .u32 (q2.1.mask:Int)))=w5 at *;have hT:=qbh w5 r q2.2 HJ4.out.1.d;go_upto_region 4 with (first | (go_at_call 21;refine hT.mono ?_;clear hT;have hb2:=qbj 1 q2.2 (by omega);change (dOne q2.2).1 < 256 ^ 1 at hb2;rintro e w6 ⟨rfl,hd,hg⟩;have HJ5:Hid (DF w w6 r ((dOne q2.2).2)∧HC w w6 r X 82 #[I 0,I 0,I 0,.int .u32 0,.int .u32 0,.int .u32 0,.int .u32 0]∧HC w w6 r Y 82 #[I q1.1,I q2.1.kind,I q2.1.task,.int .u32 (q2.1.mask:Int),.int .u32 0,.int .u32 0,.int .u32 0]∧X≠Y):=⟨HJ4.out.1.call hd hg,HJ4.out.2.1.call (by have:=HX.out;have:=HLR.out;omega) hg,HJ4.out.2.2.1.call (by have:=HX.out;have:=HLR.out;omega) hg,HJ4.out.2.2.2⟩;clear hd hg HJ4;have k0:=HJ5.out.2.2.1;have a0:w6.cell? ⟨Y,4,none⟩=some (.int .u32 0):=(by rw [qcr k0.2];rfl);have f0:=frozen_of_row w6 Y 4 _ _ k0.2));generalize hq3:dOne q2.2=q3 at *;have Hq3:Hid (dOne q2.2=q3):=hq3;clear hq3;have HJ6:Hid (DF w (w6.setCell ⟨Y,4,none⟩ (.int .u32 (q3.1:Int))) r q3.2∧HC w (w6.setCell ⟨Y,4,none⟩ (.int .u32 (q3.1:Int))) r X 82 #[I 0,I 0,I 0,.int .u32 0,.int .u32 0,.int .u32 0,.int .u32 0]∧HC w (w6.setCell ⟨Y,4,none⟩ (.int .u32 (q3.1:Int))) r Y 82 #[I q1.1,I q2.1.kind,I q2.1.task,.int .u32 (q2.1.mask:Int),.int .u32 (q3.1:Int),.int .u32 0,.int .u32 0]∧X≠Y):=⟨(HJ5.out.1.set (X:=Y) (i:=4) (v:=.int .u32 (q3.1:Int)) HJ5.out.2.2.1.1),(HJ5.out.2.1.other (Y:=Y) (i:=4) (v:=.int .u32 (q3.1:Int)) HJ5.out.2.2.2),(HJ5.out.2.2.1.set (i:=4) (v:=.int .u32 (q3.1:Int))),HJ5.out.2.2.2⟩;clear HJ5 k0 a0 f0;generalize (w6.setCell ⟨Y,4,none⟩ (.int .u32 (q3.1:Int)))=w7 at *;have hT:=qd9 w7 r q3.2 HJ6.out.1.d;go_upto_region 5 with (first | (go_at_call 65;refine hT.mono ?_;clear hT;have hb3:=qbj 4 q3.2 (by omega);change (qax q3.2).1 < 256 ^ 4 at hb3;rintro e w8 ⟨rfl,hd,hg⟩;have HJ7:Hid (DF w w8 r ((qax q3.2).2)∧HC w w8 r X 82 #[I 0,I 0,I 0,.int .u32 0,.int .u32 0,.int .u32 0,.int .u32 0]∧HC w w8 r Y 82 #[I q1.1,I q2.1.kind,I q2.1.task,.int .u32 (q2.1.mask:Int),.int .u32 (q3.1:Int),.int .u32 0,.int .u32 0]∧X≠Y):=⟨HJ6.out.1.call hd hg,HJ6.out.2.1.call (by have:=HX.out;have:=HLR.out;omega) hg,HJ6.out.2.2.1.call (by have:=HX.out;have:=HLR.out;omega) hg,HJ6.out.2.2.2⟩;clear hd hg HJ6;have k0:=HJ7.out.2.2.1;have a0:w8.cell? ⟨Y,5,none⟩=some (.int .u32 0):=(by rw [qcr k0.2];rfl);have f0:=frozen_of_row w8 Y 5 _ _ k0.2));generalize hq4:qax q3.2=q4 at *;have Hq4:Hid (qax q3.2=q4):=hq4;clear hq4;have HJ8:Hid (DF w (w8.setCell ⟨Y,5,none⟩ (.int .u32 (q4.1:Int))) r q4.2∧HC w (w8.setCell ⟨Y,5,none⟩ (.int .u32 (q4.1:Int))) r X 82 #[I 0,I 0,I 0,.int .u32 0,.int .u32 0,.int .u32 0,.int .u32 0]∧HC w (w8.setCell ⟨Y,5,none⟩ (.int .u32 (q4.1:Int))) r Y 82 #[I q1.1,I q2.1.kind,I q2.1.task,.int .u32 (q2.1.mask:Int),.int .u32 (q3.1:Int),.int .u32 (q4.1:Int),.int .u32 0]∧X≠Y):=⟨(HJ7.out.1.set (X:=Y) (i:=5) (v:=.int .u32 (q4.1:Int)) HJ7.out.2.2.1.1),(HJ7.out.2.1.other (Y:=Y) (i:=5) (v:=.int .u32 (q4.1:Int)) HJ7.out.2.2.2),(HJ7.out.2.2.1.set (i:=5) (v:=.int .u32 (q4.1:Int))),HJ7.out.2.2.2⟩;clear HJ7 k0 a0 f0;generalize (w8.setCell ⟨Y,5,none⟩ (.int .u32 (q4.1:Int)))=w9 at *;have hT:=qd9 w9 r q4.2 HJ8.out.1.d;go_upto_region 6 with (first | (go_at_call 65;refine hT.mono ?_;clear hT;have hb4:=qbj 4 q4.2 (by omega);change (qax q4.2).1 < 256 ^ 4 at hb4;rintro e w10 ⟨rfl,hd,hg⟩;have HJ9:Hid (DF w w10 r ((qax q4.2).2)∧HC w w10 r X 82 #[I 0,I 0,I 0,.int .u32 0,.int .u32 0,.int .u32 0,.int .u32 0]∧HC w w10 r Y 82 #[I q1.1,I q2.1.kind,I q2.1.task,.int .u32 (q2.1.mask:Int),.int .u32 (q3.1:Int),.int .u32 (q4.1:Int),.int .u32 0]∧X≠Y):=⟨HJ8.out.1.call hd hg,HJ8.out.2.1.call (by have:=HX.out;have:=HLR.out;omega) hg,HJ8.out.2.2.1.call (by have:=HX.out;have:=HLR.out;omega) hg,HJ8.out.2.2.2⟩;clear hd hg HJ8;have k0:=HJ9.out.2.2.1;have a0:w10.cell? ⟨Y,6,none⟩=some (.int .u32 0):=(by rw [qcr k0.2];rfl);have f0:=frozen_of_row w10 Y 6 _ _ k0.2));generalize hq5:qax q4.2=q5 at *;have Hq5:Hid (qax q4.2=q5):=hq5;clear hq5;have HJ10:Hid (DF w (w10.setCell ⟨Y,6,none⟩ (.int .u32 (q5.1:Int))) r q5.2∧HC w (w10.setCell ⟨Y,6,none⟩ (.int .u32 (q5.1:Int))) r X 82 #[I 0,I 0,I 0,.int .u32 0,.int .u32 0,.int .u32 0,.int .u32 0]∧HC w (w10.setCell ⟨Y,6,none⟩ (.int .u32 (q5.1:Int))) r Y 82 #[I q1.1,I q2.1.kind,I q2.1.task,.int .u32 (q2.1.mask:Int),.int .u32 (q3.1:Int),.int .u32 (q4.1:Int),.int .u32 (q5.1:Int)]∧X≠Y):=⟨(HJ9.out.1.set (X:=Y) (i:=6) (v:=.int .u32 (q5.1:Int)) HJ9.out.2.2.1.1),(HJ9.out.2.1.other (Y:=Y) (i:=6) (v:=.int .u32 (q5.1:Int)) HJ9.out.2.2.2),(HJ9.out.2.2.1.set (i:=6) (v:=.int .u32 (q5.1:Int))),HJ9.out.2.2.2⟩;clear HJ9 k0 a0 f0;generalize (w10.setCell ⟨Y,6,none⟩ (.int .u32 (q5.1:Int)))=w11 at *;have ky:=HJ10.out.2.2.1.2;have hz:=HJ10.out.2.1.2;have y0:w11.cell? ⟨Y,0,none⟩=some (I q1.1):=by rw [qcr ky];rfl
 have y1:w11.cell? ⟨Y,1,none⟩=some (I q2.1.kind):=by rw [qcr ky];rfl
 have y2:w11.cell? ⟨Y,2,none⟩=some (I q2.1.task):=by rw [qcr ky];rfl
 have y3:w11.cell? ⟨Y,3,none⟩=some (.int .u32 (q2.1.mask:Int)):=by rw [qcr ky];rfl
 have y4:w11.cell? ⟨Y,4,none⟩=some (.int .u32 (q3.1:Int)):=by rw [qcr ky];rfl
 have y5:w11.cell? ⟨Y,5,none⟩=some (.int .u32 (q4.1:Int)):=by rw [qcr ky];rfl
 have y6:w11.cell? ⟨Y,6,none⟩=some (.int .u32 (q5.1:Int)):=by rw [qcr ky];rfl
 have hi9:(Tryz.prog.info? 82).map (·.size)=some (#[I q1.1,I q2.1.kind,I q2.1.task,.int .u32 (q2.1.mask:Int),.int .u32 (q3.1:Int),.int .u32 (q4.1:Int),.int .u32 (q5.1:Int)]:Array Value).size:=by kernel_rfl
 clear ky;go_wp2_with (first | (refine wpList_store_row rfl 82 _ _ rfl X _ rfl rfl 82 _ hz hi9 rfl (by simp [Value.oneCell']) ?_));have hX:=HX.out;have hD:=HJ10.out.1.row (X:=X) (c:=#[I q1.1,I q2.1.kind,I q2.1.task,.int .u32 (q2.1.mask:Int),.int .u32 (q3.1:Int),.int .u32 (q4.1:Int),.int .u32 (q5.1:Int)]) (by omega);have hC:=HJ10.out.2.1.row (c2:=#[I q1.1,I q2.1.kind,I q2.1.task,.int .u32 (q2.1.mask:Int),.int .u32 (q3.1:Int),.int .u32 (q4.1:Int),.int .u32 (q5.1:Int)]);rw [Hq1.out];rw [Hq2.out];rw [Hq3.out];rw [Hq4.out];rw [Hq5.out];refine ⟨rfl,_,qnd rfl _ X _ _ _ _ _ _ _ _ ?_ hC.2 ⟨rfl,rfl,rfl,rfl,rfl,rfl,rfl⟩,rfl,hD.d,hD.g⟩;rfl
end Go.Proofs.YtijgopkhdjaolabGreat
namespace Go.Proofs.YtijgopkhdjaolabGreat
open Go.RowKit Go.Shelf Go.Sort
open Go.Proofs.YtijgopkhdjaolabGreat.Ob (leB leV qa8 qag crc Rd RdAll qa7 Rdr)
def VMs (_:World) (x:MsR) (u:Value):Prop:=u=.agg #[I x.kind,I x.len,I x.frm,.int .u64 (x.init:Int),I x.queue,I x.ac.kind,I x.ac.task,(qU x.ac.mask)]
def VRMs (lo:Nat) (W:World) (xs:List MsR) (u:Value):Prop:=∃(sa:Option Addr) (sc:Nat) (cs:List Value),u=.slice sa xs.length sc∧W.ownsRow lo 87 8 (.slice sa xs.length sc) xs.length cs∧RwX 8 msrP xs cs
theorem qne : (Tryz.prog.info? 87).map (fun i=>(i.zero,i.size,i.bytes))=some (some (.agg #[I 0,I 0,I 0,.int .u64 0,I 0,I 0,I 0,.int .u32 0]:Value),8,64):=by kernel_rfl
theorem qlq {w:World} {lo r:Nat} {l:List UInt8} (n:Nat) (hn:n≤65535) (h:Rst w lo r l) (f:Nat) (bnd caps:Array Value) (eg:∀args W,(callFunc f args).run Tryz.prog W=.ok (.enter f args) W)
  (hf:∀(W:World) (l':List UInt8) (j:Nat),w.grownBy W (some r)→Rst W lo r l'→j < n→Calls Tryz.prog f (bnd++#[I j]++caps) W fun e w'=>RP W lo r VMs (pMs l') e w') :
  Calls Tryz.prog 49 #[I n,.func (.func f) bnd caps] w fun e w'=>RP w lo r (VRMs lo) (qa4 pMs n l) e w':=by
 obtain ⟨im,him,hm0,hm1,hm2⟩:=info_parts qne;have HF:Hid (∀(W:World) (l':List UInt8) (j:Nat),w.grownBy W (some r)→Rst W lo r l'→j < n→Calls Tryz.prog f (bnd++#[I j]++caps) W fun e w'=>RP W lo r VMs (pMs l') e w'):=hf;have hlo:lo≤w.heap.size:=h.le;have hrl:r < lo:=h.lt;have HI:Hid (∃(xs:List MsR) (l':List UInt8) (cs:List Value),xs.length=0∧qa4 pMs n l=conP xs (qa4 pMs (n - 0) l')∧Rst w lo r l'∧w.grownBy w (some r)∧w.ownsRow w.heap.size 87 8 qZ 0 cs∧RwX 8 msrP xs cs):=⟨[],l,[],rfl,(qda _).symm,h,qcf _ _,World.ownsRow_nil _ _ _ _,RwX.nil _ _⟩;clear hf h;go_enter Tryz.func49,Tryz.ntmps49
 go_wp2;go_loopw [5,6,8] (fun v5 _ v8 wr=>∃(j:Nat) (va:Option Addr) (vc:Nat),j≤n∧v8=I j∧v5=.slice va j vc∧Hid (∃(xs:List MsR) (l':List UInt8) (cs:List Value),xs.length=j∧qa4 pMs n l=conP xs (qa4 pMs (n - j) l')∧Rst wr lo r l'∧w.grownBy wr (some r)∧wr.ownsRow w.heap.size 87 8 v5 j cs∧RwX 8 msrP xs cs)) (fun _ _ v8 _=>n - (intOf v8).toNat)
 case atStart=>exact ⟨0,none,0,by omega,rfl,rfl,HI.out⟩
 case round=>
  clear HI;obtain ⟨j,va,vc,hj,rfl,rfl,HJ⟩:=hrel;obtain ⟨xs,l1,cs,g1,g2,g3,g4,g5,g6⟩:=HJ.out;by_cases hlt:j < n
  ·have hlt':(j:Int) < n:=by omega
   have cx:=HF.out wr l1 j g4 g3 hlt;have H1:Hid (xs.length=j∧qa4 pMs n l=conP xs (qa4 pMs (n - (j+1)+1) l1)∧w.grownBy wr (some r)∧wr.ownsRow w.heap.size 87 8 (.slice va j vc) j cs∧RwX 8 msrP xs cs):=⟨g1,by rw [g2,show n - j=n - (j+1)+1 by omega],g4,g5,g6⟩;clear HJ g1 g2 g3 g4 g5 g6;go_wp2;refine cx.mono ?_;clear cx;intro e7 w7 h7;cases hp:pMs l1 with
   | error c=>
    rw [hp] at h7;obtain ⟨rfl,hg7⟩:=qar h7;have e1:qa4 pMs n l=.error c:=H1.out.2.1.trans (qds xs hp);have e2:=qa1 H1.out.2.2.1 hg7;have e9:RP w lo r (VRMs lo) (qa4 pMs n l) (gup c) w7:=by rw [e1];exact ⟨rfl,e2⟩
    exact ⟨rfl,e9⟩
   | ok q=>
    obtain ⟨x,l2⟩:=q;rw [hp] at h7;obtain ⟨u,rfl,hv,hr7,hg7⟩:=qaq h7;have hv1:u=.agg #[I x.kind,I x.len,I x.frm,.int .u64 (x.init:Int),I x.queue,I x.ac.kind,I x.ac.task,(qU x.ac.mask)]:=hv;subst hv1;have e1:=H1.out.2.1.trans (qdt xs hp);have o7:=qaw H1.out.2.2.2.1 (by omega) hg7;have hO:=o7.alloc (.cells #[I x.kind,I x.len,I x.frm,.int .u64 (x.init:Int),I x.queue,I x.ac.kind,I x.ac.task,(qU x.ac.mask)] 87);have hw7:w.heap.size≤w7.heap.size:=Nat.le_trans H1.out.2.2.1.size hg7.size;have hsz:w.heap.size≤(w7.alloc (.cells #[I x.kind,I x.len,I x.frm,.int .u64 (x.init:Int),I x.queue,I x.ac.kind,I x.ac.task,(qU x.ac.mask)] 87)).heap.size:=Nat.le_trans hw7 (qa0 w7 _).size;have hnew:=qaz w7 #[I x.kind,I x.len,I x.frm,.int .u64 (x.init:Int),I x.queue,I x.ac.kind,I x.ac.task,(qU x.ac.mask)] 87;have hone:∀u∈(#[I x.kind,I x.len,I x.frm,.int .u64 (x.init:Int),I x.queue,I x.ac.kind,I x.ac.task,(qU x.ac.mask)]:Array Value).toList,u.oneCell'=true:=by
     intro u hu;simp only [List.mem_cons,List.not_mem_nil,or_false] at hu;rcases hu with rfl | rfl | rfl | rfl | rfl | rfl | rfl | rfl <;> rfl
    have HE:Hid (xs.length=j∧qa4 pMs n l=conP (xs++[x]) (qa4 pMs (n - (j+1)) l2)∧Rst w7 lo r l2∧w.grownBy w7 (some r)∧RwX 8 msrP xs cs∧w7.ownsRow w.heap.size 87 8 (.slice va j vc) j cs):=⟨H1.out.1,e1,hr7,qa1 H1.out.2.2.1 hg7,H1.out.2.2.2.2,o7⟩;clear H1 h7 hp hr7 hg7 e1 o7 HF;go_wp2_with (first
     | (at_builtin;refine wpList_append_own _ rfl (.tmp 11) (.tmp 15) 30 rfl w.heap.size 87 im _ 8 64 Tryz.underlying30 him hm0 hm1 hm2 rfl (by decide) _ _ _ rfl hO ⟨w7.heap.size,0,none⟩ 1 1 (#[I x.kind,I x.len,I x.frm,.int .u64 (x.init:Int),I x.queue,I x.ac.kind,I x.ac.task,(qU x.ac.mask)]:Array Value).toList rfl rfl hnew hone (by unfold maxLen;omega) (by omega) hsz ?_;intro v6 w6 ho6 hg6 _;obtain ⟨a6,c6,rfl⟩:=qam ho6))
    have H9:Hid (∃(xs:List MsR) (l':List UInt8) (cs:List Value),xs.length=j+1∧qa4 pMs n l=conP xs (qa4 pMs (n - (j+1)) l')∧Rst w6 lo r l'∧w.grownBy w6 (some r)∧w6.ownsRow w.heap.size 87 8 (.slice a6 (j+1) c6) (j+1) cs∧RwX 8 msrP xs cs):=by
     obtain ⟨f1,f2,f3,f4,f5,f6⟩:=HE.out;have hoth:∀b,b < w.heap.size→w6.heap[b]?=w7.heap[b]?:=fun b hb=>by
      rw [hg6.block b (by omega) (fun e=>by have:=(hO.lt b e.symm).1;omega)];exact heap_alloc_old w7 _ (by omega)
     have hs67:w7.heap.size≤w6.heap.size:=Nat.le_trans (qa0 w7 _).size hg6.size;refine ⟨xs++[x],l2,cs++(#[I x.kind,I x.len,I x.frm,.int .u64 (x.init:Int),I x.queue,I x.ac.kind,I x.ac.task,(qU x.ac.mask)]:Array Value).toList,by simp [f1],f2,f3.keep (fun b hb=>hoth b (by omega)) hs67,⟨?_,?_,?_,by omega,fun b hb hne=>(hoth b hb).trans (f4.block b hb hne)⟩,ho6,?_⟩
     ·exact (hg6.os.trans (show _=w7.os from rfl)).trans f4.os
     ·exact (hg6.tape.trans (show _=w7.tape from rfl)).trans f4.tape
     ·exact (hg6.output.trans (show _=w7.output from rfl)).trans f4.output
     ·refine RwX.snoc f5 x _ rfl (fun i hi=>?_)
      match i,hi with
      | 0,_=>exact ⟨_,rfl,rfl⟩
      | 1,_=>exact ⟨_,rfl,rfl⟩
      | 2,_=>exact ⟨_,rfl,rfl⟩
      | 3,_=>exact ⟨_,rfl,rfl⟩
      | 4,_=>exact ⟨_,rfl,rfl⟩
      | 5,_=>exact ⟨_,rfl,rfl⟩
      | 6,_=>exact ⟨_,rfl,rfl⟩
      | 7,_=>exact ⟨_,rfl,rfl⟩
    clear HE ho6 hg6 hO hnew hone hsz hw7;go_wp2;go_roundw
    case rel=>exact ⟨j+1,a6,c6,by omega,by go_num,rfl,H9.out⟩
    case measure=>simp [intOf];omega
  ·obtain rfl:j=n:=by omega
   have hge:¬((j:Int) < j):=by omega
   have HE:Hid (RP w lo r (VRMs lo) (qa4 pMs j l) (.returned (.slice va j vc)) wr):=by
    have e1:qa4 pMs j l=.ok (xs,l1):=by rw [g2,Nat.sub_self];simp [qa4,conP,retP]
    rw [e1];refine ⟨_,rfl,⟨va,vc,cs,by rw [g1],?_,g6⟩,g3,g4⟩;rw [g1];exact qbk g5 hlo
   clear HJ HF g1 g2 g3 g4 g5 g6;go_wp2;go_ret;exact HE.out
end Go.Proofs.YtijgopkhdjaolabGreat
