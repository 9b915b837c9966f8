import Derived.Test.YtijgopkhdjaolabGreatXTch
import Derived.Lib.QuietBelow
import Derived.Deep.Cut
set_option linter.unusedSimpArgs false
set_option linter.unusedVariables false
set_option maxHeartbeats 16000000
set_option maxRecDepth 100000
namespace Go.Proofs.YtijgopkhdjaolabGreat
open Go.RowKit Go.Shelf
theorem qik (x:TkR) (s6:Sl) (p:Int) (B:Nat) (w:World) (hp:w.cell? ⟨B,0,none⟩=some (I p)):Calls Tryz.prog 172 #[.agg (tkrC x s6),.pointer (some ⟨B,0,none⟩)] w fun e w'=>e=.returned (I (if x.prio=p then x.limit else 0))∧qB w w':=by
 have hb:∀o,qB w (w.alloc o):=fun o=>qa0 w o
 have hp2:∀o,(w.alloc o).cell? ⟨B,0,none⟩=some (I p):=fun o=>((hb o).cell (p:=⟨B,0,none⟩) (World.block_lt_of_cell? _ _ hp)).trans hp
 clear hp;by_cases h:x.prio=p
 ·rw [if_pos h]
  have h1:(x.prio==p)=true:=by simpa using h
  clear h;unfold tkrC;go_enter Tryz.func172,Tryz.ntmps172
  go_wp2;go_ret;exact ⟨rfl,hb _⟩
 ·rw [if_neg h]
  have h1:(x.prio==p)=false:=by simpa using h
  clear h;unfold tkrC;go_enter Tryz.func172,Tryz.ntmps172
  go_wp2;go_ret;exact ⟨rfl,hb _⟩
theorem qj7 (w:World) (s:Sl) (l:List TkR) (hl:∀W,qB w W→RowsAt W 8 (tkrP W) s l) (p:Int):Calls Tryz.prog 121 #[.slice s.a s.n s.c,I p] w fun e w'=>e=.returned (I (IntKind.i64.wrap (capN l p)))∧qB w w':=by
 have hb:=qa0 w (.cells #[I p] 3);have hc:(w.alloc (.cells #[I p] 3)).cell? ⟨w.heap.size,0,none⟩=some (I p):=by rw [qcr (heap_alloc_new w _)];rfl
 have hsz:w.heap.size < (w.alloc (.cells #[I p] 3)).heap.size:=by simp
 have ks:=qq8 (w.alloc (.cells #[I p] 3)) s l (fun W hW=>hl W (hb.trans (hW.mono hb.size))) 172 #[.pointer (some ⟨w.heap.size,0,none⟩)] (enters_of Tryz.func172 (by kernel_rfl) rfl) (fun x=>if x.prio=p then x.limit else 0) (fun W hW x hx s6 _=>qik x s6 p w.heap.size W ((hW.cell (p:=⟨w.heap.size,0,none⟩) hsz).trans hc));rw [qj6] at ks;clear hc hl hsz;go_enter Tryz.func121,Tryz.ntmps121
 go_wp2_with (go_at_call 171;refine ks.mono ?_;clear ks;rintro e w' ⟨rfl,hb2⟩);go_ret;exact ⟨rfl,hb.trans (hb2.mono hb.size)⟩
theorem qj8 (x:TkR) (s6:Sl) (p:Int) (B:Nat) (w:World) (hp:w.cell? ⟨B,0,none⟩=some (I p)):Calls Tryz.prog 170 #[.agg (tkrC x s6),.pointer (some ⟨B,0,none⟩)] w fun e w'=>e=.returned (.bool (x.prio==p))∧qB w w':=by
 have hb:∀o,qB w (w.alloc o):=fun o=>qa0 w o
 have hp2:∀o,(w.alloc o).cell? ⟨B,0,none⟩=some (I p):=fun o=>((hb o).cell (p:=⟨B,0,none⟩) (World.block_lt_of_cell? _ _ hp)).trans hp
 clear hp;unfold tkrC;go_enter Tryz.func170,Tryz.ntmps170
 go_wp2;go_ret;exact ⟨rfl,hb _⟩
theorem qoo (w:World) (s:Sl) (l:List TkR) (hl:∀W,qB w W→RowsAt W 8 (tkrP W) s l) (f:Nat) (caps:Array Value) (eg:∀args W,(callFunc f args).run Tryz.prog W=.ok (.enter f args) W) (p:TkR→Bool)
  (hf:∀W,qB w W→∀x∈l,∀(s6:Sl),RowsAt W 1 intP s6 x.own→Calls Tryz.prog f (#[.agg (tkrC x s6)]++caps) W fun e w'=>e=.returned (.bool (p x))∧qB W w') :
  Calls Tryz.prog 192 #[.slice s.a s.n s.c,.func (.func f) #[] caps] w fun e w'=>(∃i:Int,e=.returned (I i)∧decide (0≤i)=l.any p)∧qB w w':=by
 have h0:=hl w (Below.refl _ _);have HS:Hid (s.n=l.length):=h0.n;have hsc:s.n≤s.c:=h0.c;have hsm:s.c≤maxLen:=h0.m;unfold maxLen at hsm;have HH:Hid (∀W,qB w W→RowsAt W 8 (tkrP W) s l):=hl;have HFF:Hid (∀W,qB w W→∀x∈l,∀(s6:Sl),RowsAt W 1 intP s6 x.own→Calls Tryz.prog f (#[.agg (tkrC x s6)]++caps) W fun e w'=>e=.returned (.bool (p x))∧qB W w'):=hf;obtain ⟨R,hR⟩:∃R,R=l.any p:=⟨_,rfl⟩
 rw [←hR];have HR:Hid (R=l.any p):=hR;clear hl hR hf h0;go_enter Tryz.func192,Tryz.ntmps192
 go_wp2;go_loopw [5,8] (fun _ iv wr=>∃j:Nat,j≤s.n∧iv=.int .i64 j∧Hid ((l.take j).any p=false∧qB w wr)) (fun _ iv _=>s.n - (intOf iv).toNat)
 case atStart=>exact ⟨0,by omega,rfl,by simp,Below.refl _ _⟩
 case round=>
  obtain ⟨j,hj,rfl,HJ⟩:=hrel;by_cases hlt:j < s.n
  ·have hlt':(j:Int) < s.n:=by omega
   obtain ⟨x,hx⟩:∃x,l[j]?=some x:=⟨_,List.getElem?_eq_getElem (by rw [←HS.out];exact hlt)⟩
   obtain ⟨g5,o5,e5,hg5,hr5⟩:=(HH.out _ HJ.out.2).row j x hx;obtain ⟨u0,a0,q0⟩:=hr5 0 (by omega);obtain ⟨u1,a1,q1⟩:=hr5 1 (by omega);obtain ⟨u2,a2,q2⟩:=hr5 2 (by omega);obtain ⟨u3,a3,q3⟩:=hr5 3 (by omega);obtain ⟨u4,a4,q4⟩:=hr5 4 (by omega);obtain ⟨u5,a5,q5⟩:=hr5 5 (by omega);obtain ⟨u6,a6,q6⟩:=hr5 6 (by omega);obtain ⟨u7,a7,q7⟩:=hr5 7 (by omega);have e0:u0=I x.prio:=q0;have e1:u1=I x.ring:=q1;have e2:u2=.bool x.full:=q2;have e3:u3=I x.limit:=q3;have e4:u4=.int .u32 (x.mask:Int):=q4;have e6:u5=I x.inner:=q5;obtain ⟨s6,e7,r6⟩:=(show IntsV wr x.own u6 from q6);have e8:u7=.int .u32 (x.auto:Int):=q7;subst e0 e1 e2 e3 e4 e6 e7 e8;rw [Nat.add_zero] at a0;have HB:Hid (qB w wr):=HJ.out.2;have cx:=HFF.out _ HB.out x (List.mem_of_getElem? hx) s6 r6;have HT:Hid (p x=true→R=true):=fun ht=>by
    rw [HR.out,List.any_eq_true];exact ⟨x,List.mem_of_getElem? hx,ht⟩
   have HA:Hid (p x=false→(l.take (j+1)).any p=false):=fun ht=>by
    rw [List.take_add_one,hx,Option.toList_some,List.any_append,HJ.out.1];simp [ht]
   rw [e5];unfold tkrC at cx;clear hx e5 HJ hr5 q0 q1 q2 q3 q4 q5 q6 q7 r6;cases he:p x with
   | true=>
    rw [he] at cx;have HE:Hid (R=true):=HT.out he;clear HT HA he;go_wp2;refine cx.mono ?_;clear cx;rintro e7 w7 ⟨rfl,hb7⟩;have HB7:Hid (qB w w7):=HB.out.trans (hb7.mono HB.out.size);clear hb7;go_wp2;go_ret;exact ⟨⟨j,rfl,by rw [HE.out];simp⟩,HB7.out⟩
   | false=>
    rw [he] at cx;have HA2:Hid ((l.take (j+1)).any p=false):=HA.out he;clear HT HA he;go_wp2;refine cx.mono ?_;clear cx;rintro e7 w7 ⟨rfl,hb7⟩;have HB7:Hid (qB w w7):=HB.out.trans (hb7.mono HB.out.size);clear hb7;go_wp2;go_roundw
    case rel=>exact ⟨j+1,by omega,by go_num,HA2.out,HB7.out⟩
    case measure=>simp [intOf];omega
  ·obtain rfl:j=s.n:=by omega
   have hlt':¬((s.n:Nat):Int) < (s.n:Nat):=by omega
   have HE:Hid (R=false):=by
    show _=_;rw [HR.out];have:=HJ.out.1;rwa [List.take_of_length_le (by rw [HS.out];exact Nat.le_refl _)] at this
   have HB:Hid (qB w wr):=HJ.out.2;clear HR HJ;go_wp2;go_ret;exact ⟨⟨-1,rfl,by rw [HE.out];rfl⟩,HB.out⟩
theorem qmu (w:World) (s:Sl) (l:List TkR) (hl:∀W,qB w W→RowsAt W 8 (tkrP W) s l) (f:Nat) (caps:Array Value) (eg:∀args W,(callFunc f args).run Tryz.prog W=.ok (.enter f args) W) (p:TkR→Bool)
  (hf:∀W,qB w W→∀x∈l,∀(s6:Sl),RowsAt W 1 intP s6 x.own→Calls Tryz.prog f (#[.agg (tkrC x s6)]++caps) W fun e w'=>e=.returned (.bool (p x))∧qB W w') :
  Calls Tryz.prog 169 #[.slice s.a s.n s.c,.func (.func f) #[] caps] w fun e w'=>e=.returned (.bool (l.any p))∧qB w w':=by
 have k:=qoo w s l hl f caps eg p hf;obtain ⟨R,hR⟩:∃R,R=l.any p:=⟨_,rfl⟩
 rw [←hR] at k ⊢;clear hl hf eg hR;go_enter Tryz.func169,Tryz.ntmps169
 go_wp2_with (go_at_call 192;refine k.mono ?_;clear k;rintro e w' ⟨⟨i,rfl,hi⟩,hb2⟩);go_ret;exact ⟨rfl,hb2⟩
theorem qk3 (tb:Tb) (v:Ts) (w:World) (h:TbAt w tb v) (p:Int):Calls Tryz.prog 120 #[.agg (tbC tb v),I p] w fun e w'=>e=.returned (.bool (tb.tasks.any (fun x=>x.prio==p)))∧qB w w':=by
 have hb:∀o q,qB w ((w.alloc o).alloc q):=fun o q=>((Below.refl w.heap.size w).alloc (Nat.le_refl _) o).alloc (by simp) q
 have ks:∀o,Calls Tryz.prog 169 #[.slice v.t.a v.t.n v.t.c,.func (.func 170) #[] #[.pointer (some ⟨w.heap.size+1,0,none⟩)]] ((w.alloc o).alloc (.cells #[I p] 3)) fun e w'=>e=.returned (.bool (tb.tasks.any (fun x=>x.prio==p)))∧qB ((w.alloc o).alloc (.cells #[I p] 3)) w':=fun o=>by
  have hc:((w.alloc o).alloc (.cells #[I p] 3)).cell? ⟨w.heap.size+1,0,none⟩=some (I p):=by
   have:=heap_alloc_new (w.alloc o) (.cells #[I p] 3);rw [World.size_alloc] at this;rw [qcr this];rfl
  have hsz:w.heap.size+1 < ((w.alloc o).alloc (.cells #[I p] 3)).heap.size:=by simp
  exact qmu ((w.alloc o).alloc (.cells #[I p] 3)) v.t tb.tasks (fun W hW=>(h.below ((hb _ _).trans (hW.mono (hb _ _).size))).t) 170 #[.pointer (some ⟨w.heap.size+1,0,none⟩)] (enters_of Tryz.func170 (by kernel_rfl) rfl) (fun x=>x.prio==p) (fun W hW x hx s6 _=>qj8 x s6 p (w.heap.size+1) W ((hW.cell (p:=⟨w.heap.size+1,0,none⟩) hsz).trans hc))
 clear h;unfold tbC;go_enter Tryz.func120,Tryz.ntmps120
 go_wp2_with (go_at_call 169;refine (ks _).mono ?_;clear ks;rintro e w' ⟨rfl,hb2⟩);go_ret;exact ⟨rfl,(hb _ _).trans (hb2.mono (hb _ _).size)⟩
end Go.Proofs.YtijgopkhdjaolabGreat
namespace Go.Proofs.YtijgopkhdjaolabGreat
open Go.RowKit Go.Shelf Go.Sort
theorem qai {P:Program} {ops:Array Oper} {C:World→Prop} {Q:Act→Prop} {a:Act} {o:Oper} {rest:List Oper} (hgd:Region.wanted o (yielded ops a.tmps)=true) (ty:TypeId) (x:Operand) (ho:o.op=.load ty x)
  (g:Nat) (hx:a.eval x=.pointer (some ⟨g,0,none⟩)) (t:TypeId) (cs:Array Value) (fr:Nat×Nat) (d:TypeDesc) (hg:∀w,C w→w.heap[g]?=some (.cells cs t fr))
  (hu:P.underlying ty=some d) (hd:(match d with | .struct _ | .array _ _=>true | _=>false)=true) (hi:(P.info? ty).map (·.size)=some cs.size)
  (h:wpQuiet P ops C Q rest (a.put o.dst (.agg cs))):wpQuiet P ops C Q (o :: rest) a:=by
 unfold wpQuiet;rw [if_pos hgd];refine ⟨.agg cs,fun w hw=>?_,h⟩;unfold Oper.quietAt execOp;simp only [ho,hx,Instr.loadAt,Instr.sureAddr,Sem.run_bind,Sem.run_pure,Result.andThen_ok,run_loadVar_row w g t ty cs fr d (hg w hw) hu hd hi];exact ⟨rfl,rfl⟩
theorem qcn {w:World} {g:Nat} {o:Obj} (h:w.heap[g]?=some o):∀w',(∃p:Regrown,w'=grow (redrawn w p.d) p.os)→w'.heap[g]?=some o:=by
 rintro w' ⟨p,rfl⟩;exact ((below_regrown w p.d p.os).block g (qan h)).trans h
theorem qbl {P:Program} {f:Nat} {args:Array Value} {W0:World} {r:Value} (h:∀W,qB W0 W→Calls P f args W fun e w'=>e=.returned r∧qB W w') (d:Nat) (os:Array Obj):Calls P f args (grow (redrawn W0 d) os) fun e w''=>e=.returned r∧∃p:Regrown,w''=grow (redrawn W0 p.d) p.os:=
 Calls.regrown_of (h _ (below_regrown W0 d os))
theorem qj9 (tb:Tb) (v:Ts) (w:World) (h:TbAt w tb v):Calls Tryz.prog 55 #[.agg (tbC tb v)] w fun e w'=>e=.returned (.bool (qch tb.tasks 64 tb.rings))∧qB w w':=by
 have hV:=heap_alloc_new w (.cells (tbC tb v) 32);have HB:Hid (qB w (w.alloc (.cells (tbC tb v) 32))):=qa0 w _;have HT:Hid (TbAt (w.alloc (.cells (tbC tb v) 32)) tb v):=h.below HB.out;have HVV:Hid ((w.alloc (.cells (tbC tb v) 32)).heap[w.heap.size]?=some (.cells (tbC tb v) 32)):=hV;obtain ⟨c0,c1,c2,c3,c4,c5,c6,c7,c8,c9,c10,c11,c12⟩:=qbo hV;have HS:Hid (v.g.n=tb.rings.length):=h.g.n;have hsc:v.g.n≤v.g.c:=h.g.c;have hsm:v.g.c≤maxLen:=h.g.m;unfold maxLen at hsm;have hi30:(Tryz.prog.info? 32).map (·.size)=some (tbC tb v).size:=by kernel_rfl
 obtain ⟨R,hR⟩:∃R,R=qch tb.tasks 64 tb.rings:=⟨_,rfl⟩
 rw [←hR];have HR:Hid (R=qch tb.tasks 64 (tb.rings.drop 0)):=hR;clear hR h hV c0 c1 c2 c4 c5 c6 c7 c8 c9 c10 c11 c12;go_enter Tryz.func55,Tryz.ntmps55
 unfold tbC at *;generalize hW:w.alloc (.cells (qC tb v) 32)=W1 at *;go_upto_region 1 with fail;clear hW;go_wp2;go_loopw [3,5,9] (fun av _ iv wr=>∃(j:Nat) (a:Int),j≤v.g.n∧iv=.int .i64 j∧av=I a∧Hid (R=qch tb.tasks a (tb.rings.drop j)∧(0≤a∧a≤64)∧qB W1 wr)) (fun _ _ iv _=>v.g.n - (intOf iv).toNat)
 case atStart=>exact ⟨0,64,by omega,rfl,rfl,HR.out,by omega,Below.refl _ _⟩
 case round=>
  clear HR;obtain ⟨j,a,hj,rfl,rfl,HJ⟩:=hrel;by_cases hlt:j < v.g.n
  ·have hlt':(j:Int) < v.g.n:=by omega
   obtain ⟨x,hx⟩:∃x,tb.rings[j]?=some x:=⟨_,List.getElem?_eq_getElem (by rw [←HS.out];exact hlt)⟩
   obtain ⟨g5,o5,e5,hg5,x0,x1⟩:=qgu (HT.out.below HJ.out.2.2) hx;have ha:=HJ.out.2.1;have HX:Hid (R=(inI x.prio 0 (a - 1)&&tb.tasks.any (fun y=>y.prio==x.prio)&&(x.cap==IntKind.i64.wrap (capN tb.tasks x.prio))&&qch tb.tasks x.prio (tb.rings.drop (j+1)))):=by
    have h9:=HJ.out.1;rw [qcu hx,qch] at h9;exact h9
   rw [e5];clear hx e5;have b0:=HJ.out.2.2;clear HJ;go_upto_region 5 with fail;have bX:qB W1 (wr.alloc (.cells #[I x.prio,I x.cap] 73)):=b0.trans ((qa0 wr _).mono b0.size);have y0:(wr.alloc (.cells #[I x.prio,I x.cap] 73)).cell? ⟨wr.heap.size,0,none⟩=some (I x.prio):=by rw [qcr (heap_alloc_new wr _)];rfl
   have y1:(wr.alloc (.cells #[I x.prio,I x.cap] 73)).cell? ⟨wr.heap.size,1,none⟩=some (I x.cap):=by rw [qcr (heap_alloc_new wr _)];rfl
   have hV0:(wr.alloc (.cells #[I x.prio,I x.cap] 73)).heap[w.heap.size]?=some (.cells (qC tb v) 32):=(bX.block w.heap.size (qan HVV.out)).trans HVV.out;have hT0:=HT.out.below bX;clear b0 x0 x1;generalize wr.heap.size=X at *;generalize (wr.alloc (.cells #[I x.prio,I x.cap] 73))=W0 at *;have cW:∀d os,Calls Tryz.prog 117 #[I x.prio,I 0,I (a - 1)] (grow (redrawn W0 d) os) fun e w''=>e=.returned (.bool (inI x.prio 0 (a - 1)))∧∃p:Regrown,w''=grow (redrawn W0 p.d) p.os:=fun d os=>qbl (fun W hW=>(qca x.prio 0 (a - 1) W).mono (fun e w' h=>⟨h.1,by rw [h.2];exact Below.refl _ _⟩)) d os
   have cH:∀d os,Calls Tryz.prog 120 #[.agg (qC tb v),I x.prio] (grow (redrawn W0 d) os) fun e w''=>e=.returned (.bool (tb.tasks.any (fun y=>y.prio==x.prio)))∧∃p:Regrown,w''=grow (redrawn W0 p.d) p.os:=fun d os=>qbl (fun W hW=>qk3 tb v W (hT0.below hW) x.prio) d os
   have cC:∀d os,Calls Tryz.prog 121 #[.slice v.t.a v.t.n v.t.c,I x.prio] (grow (redrawn W0 d) os) fun e w''=>e=.returned (I (IntKind.i64.wrap (capN tb.tasks x.prio)))∧∃p:Regrown,w''=grow (redrawn W0 p.d) p.os:=fun d os=>qbl (fun W hW=>qj7 W v.t tb.tasks (fun W2 hW2=>((hT0.below hW).below hW2).t) x.prio) d os
   have z0:=cell_regrown y0;have z1:=cell_regrown y1;have z2:=cell_regrown (qbo hV0).2.2.1;have hR0:=qcn hV0;have HB0:Hid (qB w W0):=HB.out.trans (bX.mono HB.out.size);have HBX:Hid (qB W1 W0):=bX;clear hT0 bX;cases b1:inI x.prio 0 (a - 1) with
   | false=>
    rw [b1] at cW HX;refine wp_region_quiet_below (by kernel_rfl) (by kernel_rfl) ?_;repeat (go_big_quiet_step (first | exact cW _ _))
    refine wpQuiet_nil ?_;rintro _ ⟨⟨dq,osq⟩,rfl⟩;dsimp only;have HB9:Hid (qB w (grow (redrawn W0 dq) osq)):=HB0.out.trans ((below_regrown W0 dq osq).mono HB0.out.size);have HB8:Hid (qB W1 (grow (redrawn W0 dq) osq)):=HBX.out.trans ((below_regrown W0 dq osq).mono HBX.out.size);have r0:=z0 dq osq;clear cW cH cC hR0 z0 z1 z2 y0 y1 hV0;generalize grow (redrawn W0 dq) osq=w9 at *;go_wp2;go_ret;exact ⟨qa2 (by rw [HX.out];simp),HB9.out⟩
   | true=>
    rw [b1] at cW HX;have hp:0≤x.prio∧x.prio≤63:=by unfold inI at b1;simp at b1;omega
    cases b2:tb.tasks.any (fun y=>y.prio==x.prio) with
    | false=>
     rw [b2] at cH HX;refine wp_region_quiet_below (by kernel_rfl) (by kernel_rfl) ?_;repeat (first | (go_big_quiet_step (first | exact cW _ _ | exact cH _ _)) | (refine qai (by kernel_rfl) 32 _ rfl w.heap.size rfl 32 _ (0,0) _ hR0 Tryz.underlying32 rfl hi30 ?_;simp only [qN]))
     refine wpQuiet_nil ?_;rintro _ ⟨⟨dq,osq⟩,rfl⟩;dsimp only;have HB9:Hid (qB w (grow (redrawn W0 dq) osq)):=HB0.out.trans ((below_regrown W0 dq osq).mono HB0.out.size);have HB8:Hid (qB W1 (grow (redrawn W0 dq) osq)):=HBX.out.trans ((below_regrown W0 dq osq).mono HBX.out.size);have r0:=z0 dq osq;clear cW cH cC hR0 z0 z1 z2 y0 y1 hV0;generalize grow (redrawn W0 dq) osq=w9 at *;go_wp2;go_ret;exact ⟨qa2 (by rw [HX.out];simp),HB9.out⟩
    | true=>
     rw [b2] at cH HX;cases b3:(x.cap==IntKind.i64.wrap (capN tb.tasks x.prio)) with
     | false=>
      rw [b3] at HX;generalize IntKind.i64.wrap (capN tb.tasks x.prio)=cc at *;refine wp_region_quiet_below (by kernel_rfl) (by kernel_rfl) ?_;repeat (first | (go_big_quiet_step (first | exact cW _ _ | exact cH _ _ | exact cC _ _)) | (refine qai (by kernel_rfl) 32 _ rfl w.heap.size rfl 32 _ (0,0) _ hR0 Tryz.underlying32 rfl hi30 ?_;simp only [qN]))
      refine wpQuiet_nil ?_;rintro _ ⟨⟨dq,osq⟩,rfl⟩;dsimp only;have HB9:Hid (qB w (grow (redrawn W0 dq) osq)):=HB0.out.trans ((below_regrown W0 dq osq).mono HB0.out.size);have HB8:Hid (qB W1 (grow (redrawn W0 dq) osq)):=HBX.out.trans ((below_regrown W0 dq osq).mono HBX.out.size);have r0:=z0 dq osq;clear cW cH cC hR0 z0 z1 z2 y0 y1 hV0;generalize grow (redrawn W0 dq) osq=w9 at *;go_wp2;go_ret;exact ⟨qa2 (by rw [HX.out];simp),HB9.out⟩
     | true=>
      rw [b3] at HX;generalize IntKind.i64.wrap (capN tb.tasks x.prio)=cc at *;refine wp_region_quiet_below (by kernel_rfl) (by kernel_rfl) ?_;repeat (first | (go_big_quiet_step (first | exact cW _ _ | exact cH _ _ | exact cC _ _)) | (refine qai (by kernel_rfl) 32 _ rfl w.heap.size rfl 32 _ (0,0) _ hR0 Tryz.underlying32 rfl hi30 ?_;simp only [qN]))
      refine wpQuiet_nil ?_;rintro _ ⟨⟨dq,osq⟩,rfl⟩;dsimp only;have HB9:Hid (qB w (grow (redrawn W0 dq) osq)):=HB0.out.trans ((below_regrown W0 dq osq).mono HB0.out.size);have HB8:Hid (qB W1 (grow (redrawn W0 dq) osq)):=HBX.out.trans ((below_regrown W0 dq osq).mono HBX.out.size);have r0:=z0 dq osq;clear cW cH cC hR0 z0 z1 z2 y0 y1 hV0;generalize grow (redrawn W0 dq) osq=w9 at *;go_wp2;go_roundw
      case rel=>exact ⟨j+1,x.prio,by omega,by go_num,rfl,by rw [HX.out];simp,by omega,HB8.out⟩
      case measure=>simp [intOf];omega
  ·obtain rfl:j=v.g.n:=by omega
   have hlt':¬((v.g.n:Nat):Int) < (v.g.n:Nat):=by omega
   have HE:Hid (R=true):=by
    have:=HJ.out.1;rw [List.drop_eq_nil_of_le (by rw [HS.out];exact Nat.le_refl _),qch] at this;exact this
   have HB9:Hid (qB w wr):=HB.out.trans (HJ.out.2.2.mono HB.out.size);clear HJ;go_wp2;go_ret;exact ⟨qa2 HE.out.symm,HB9.out⟩
structure WfT (tb:Tb):Prop where
 t:∀x∈tb.tasks,x.mask < 4294967296∧x.auto < 4294967296
 k:∀x∈tb.ctrs,x.max < 4294967296∧x.base < 4294967296∧x.min < 4294967296
 a:∀x∈tb.als,x.ac.mask < 4294967296∧x.auto < 4294967296∧x.time < 4294967296∧x.cycle < 4294967296
 s:∀x∈tb.msgs,x.init < 18446744073709551616∧x.ac.mask < 4294967296
theorem qff {P:Program} {f:Nat} {args:Array Value} {r:Value} {W:World} (h:Calls P f args W fun e w'=>e=.returned r∧w'=W):Calls P f args W fun e w'=>e=.returned r∧qB W w':=h.mono (fun e w' h=>⟨h.1,by rw [h.2];exact Below.refl _ _⟩)
end Go.Proofs.YtijgopkhdjaolabGreat
