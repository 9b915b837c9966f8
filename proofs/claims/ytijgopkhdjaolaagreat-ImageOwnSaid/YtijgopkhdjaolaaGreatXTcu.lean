import Derived.Test.YtijgopkhdjaolaaGreatXTch
import Derived.Lib.QuietBelow
import Derived.Deep.Cut
namespace Go.Proofs.YtijgopkhdjaolaaGreat
open Go.RowKit Go.Shelf
set_option linter.unusedSimpArgs false
set_option linter.unusedVariables false
set_option maxHeartbeats 16000000
set_option maxRecDepth 100000
theorem qhw (x:TkR) (s6:Sl) (p:Int) (B:Nat) (w:World) (hp:w.cell? ⟨B,0,none⟩=some (I p)):Calls Tryz.prog 149 #[.agg (tkrC x s6),.pointer (some ⟨B,0,none⟩)] w fun e w'=>e=.returned (I (if x.prio=p then x.limit else 0))∧qB w w':=by
 have hb:∀o,qB w (w.alloc o):=fun o=>qa0 w o
 have hp2:∀o,(w.alloc o).cell? ⟨B,0,none⟩=some (I p):=fun o=>((hb o).cell (p:=⟨B,0,none⟩) (World.block_lt_of_cell? _ _ hp)).trans hp
 clear hp
 by_cases h:x.prio=p
 ·rw [if_pos h]
  have h1:(x.prio==p)=true:=by simpa using h
  clear h
  unfold tkrC
  go_enter Tryz.func149,Tryz.ntmps149
  go_wp2
  go_ret
  exact ⟨rfl,hb _⟩
 ·rw [if_neg h]
  have h1:(x.prio==p)=false:=by simpa using h
  clear h
  unfold tkrC
  go_enter Tryz.func149,Tryz.ntmps149
  go_wp2
  go_ret
  exact ⟨rfl,hb _⟩
theorem qif (w:World) (s:Sl) (l:List TkR) (hl:∀W,qB w W→RowsAt W 8 (tkrP W) s l) (p:Int):Calls Tryz.prog 76 #[.slice s.a s.n s.c,I p] w fun e w'=>e=.returned (I (IntKind.i64.wrap (capN l p)))∧qB w w':=by
 have hb:=qa0 w (.cells #[I p] 3)
 have hc:(w.alloc (.cells #[I p] 3)).cell? ⟨w.heap.size,0,none⟩=some (I p):=by rw [qcr (heap_alloc_new w _)];rfl
 have hsz:w.heap.size < (w.alloc (.cells #[I p] 3)).heap.size:=by simp
 have ks:=qp6 (w.alloc (.cells #[I p] 3)) s l (fun W hW=>hl W (hb.trans (hW.mono hb.size))) 149 #[.pointer (some ⟨w.heap.size,0,none⟩)] (enters_of Tryz.func149 (by kernel_rfl) rfl) (fun x=>if x.prio=p then x.limit else 0) (fun W hW x hx s6 _=>qhw x s6 p w.heap.size W ((hW.cell (p:=⟨w.heap.size,0,none⟩) hsz).trans hc))
 rw [qie] at ks
 clear hc hl hsz
 go_enter Tryz.func76,Tryz.ntmps76
 go_wp2_with (go_at_call 148;refine ks.mono ?_;clear ks;rintro e w' ⟨rfl,hb2⟩)
 go_ret
 exact ⟨rfl,hb.trans (hb2.mono hb.size)⟩
theorem qig (x:TkR) (s6:Sl) (p:Int) (B:Nat) (w:World) (hp:w.cell? ⟨B,0,none⟩=some (I p)):Calls Tryz.prog 147 #[.agg (tkrC x s6),.pointer (some ⟨B,0,none⟩)] w fun e w'=>e=.returned (.bool (x.prio==p))∧qB w w':=by
 have hb:∀o,qB w (w.alloc o):=fun o=>qa0 w o
 have hp2:∀o,(w.alloc o).cell? ⟨B,0,none⟩=some (I p):=fun o=>((hb o).cell (p:=⟨B,0,none⟩) (World.block_lt_of_cell? _ _ hp)).trans hp
 clear hp
 unfold tkrC
 go_enter Tryz.func147,Tryz.ntmps147
 go_wp2
 go_ret
 exact ⟨rfl,hb _⟩
theorem qnj (w:World) (s:Sl) (l:List TkR) (hl:∀W,qB w W→RowsAt W 8 (tkrP W) s l) (f:Nat) (caps:Array Value) (eg:∀args W,(callFunc f args).run Tryz.prog W=.ok (.enter f args) W) (p:TkR→Bool)
  (hf:∀W,qB w W→∀x∈l,∀(s6:Sl),RowsAt W 1 intP s6 x.own→Calls Tryz.prog f (#[.agg (tkrC x s6)]++caps) W fun e w'=>e=.returned (.bool (p x))∧qB W w') :
  Calls Tryz.prog 182 #[.slice s.a s.n s.c,.func (.func f) #[] caps] w fun e w'=>(∃i:Int,e=.returned (I i)∧decide (0≤i)=l.any p)∧qB w w':=by
 have h0:=hl w (Below.refl _ _)
 have HS:Hid (s.n=l.length):=h0.n
 have hsc:s.n≤s.c:=h0.c
 have hsm:s.c≤maxLen:=h0.m
 unfold maxLen at hsm
 have HH:Hid (∀W,qB w W→RowsAt W 8 (tkrP W) s l):=hl
 have HFF:Hid (∀W,qB w W→∀x∈l,∀(s6:Sl),RowsAt W 1 intP s6 x.own→Calls Tryz.prog f (#[.agg (tkrC x s6)]++caps) W fun e w'=>e=.returned (.bool (p x))∧qB W w'):=hf
 obtain ⟨R,hR⟩:∃R,R=l.any p:=⟨_,rfl⟩
 rw [←hR]
 have HR:Hid (R=l.any p):=hR
 clear hl hR hf h0
 go_enter Tryz.func182,Tryz.ntmps182
 go_wp2
 go_loopw [5,8] (fun _ iv wr=>∃j:Nat,j≤s.n∧iv=.int .i64 j∧Hid ((l.take j).any p=false∧qB w wr)) (fun _ iv _=>s.n - (intOf iv).toNat)
 case atStart=>exact ⟨0,by omega,rfl,by simp,Below.refl _ _⟩
 case round=>
  obtain ⟨j,hj,rfl,HJ⟩:=hrel
  by_cases hlt:j < s.n
  ·have hlt':(j:Int) < s.n:=by omega
   obtain ⟨x,hx⟩:∃x,l[j]?=some x:=⟨_,List.getElem?_eq_getElem (by rw [←HS.out];exact hlt)⟩
   obtain ⟨g5,o5,e5,hg5,hr5⟩:=(HH.out _ HJ.out.2).row j x hx
   obtain ⟨u0,a0,q0⟩:=hr5 0 (by omega)
   obtain ⟨u1,a1,q1⟩:=hr5 1 (by omega)
   obtain ⟨u2,a2,q2⟩:=hr5 2 (by omega)
   obtain ⟨u3,a3,q3⟩:=hr5 3 (by omega)
   obtain ⟨u4,a4,q4⟩:=hr5 4 (by omega)
   obtain ⟨u5,a5,q5⟩:=hr5 5 (by omega)
   obtain ⟨u6,a6,q6⟩:=hr5 6 (by omega)
   obtain ⟨u7,a7,q7⟩:=hr5 7 (by omega)
   have e0:u0=I x.prio:=q0
   have e1:u1=I x.ring:=q1
   have e2:u2=.bool x.full:=q2
   have e3:u3=I x.limit:=q3
   have e4:u4=.int .u32 (x.mask:Int):=q4
   have e6:u5=I x.inner:=q5
   obtain ⟨s6,e7,r6⟩:=(show IntsV wr x.own u6 from q6)
   have e8:u7=.int .u32 (x.auto:Int):=q7
   subst e0 e1 e2 e3 e4 e6 e7 e8
   rw [Nat.add_zero] at a0
   have HB:Hid (qB w wr):=HJ.out.2
   have cx:=HFF.out _ HB.out x (List.mem_of_getElem? hx) s6 r6
   have HT:Hid (p x=true→R=true):=fun ht=>by
    rw [HR.out,List.any_eq_true]
    exact ⟨x,List.mem_of_getElem? hx,ht⟩
   have HA:Hid (p x=false→(l.take (j+1)).any p=false):=fun ht=>by
    rw [List.take_add_one,hx,Option.toList_some,List.any_append,HJ.out.1]
    simp [ht]
   rw [e5]
   unfold tkrC at cx
   clear hx e5 HJ hr5 q0 q1 q2 q3 q4 q5 q6 q7 r6
   cases he:p x with
   | true=>
    rw [he] at cx
    have HE:Hid (R=true):=HT.out he
    clear HT HA he
    go_wp2
    refine cx.mono ?_
    clear cx
    rintro e7 w7 ⟨rfl,hb7⟩
    have HB7:Hid (qB w w7):=HB.out.trans (hb7.mono HB.out.size)
    clear hb7
    go_wp2
    go_ret
    exact ⟨⟨j,rfl,by rw [HE.out];simp⟩,HB7.out⟩
   | false=>
    rw [he] at cx
    have HA2:Hid ((l.take (j+1)).any p=false):=HA.out he
    clear HT HA he
    go_wp2
    refine cx.mono ?_
    clear cx
    rintro e7 w7 ⟨rfl,hb7⟩
    have HB7:Hid (qB w w7):=HB.out.trans (hb7.mono HB.out.size)
    clear hb7
    go_wp2
    go_roundw
    case rel=>exact ⟨j+1,by omega,by go_num,HA2.out,HB7.out⟩
    case measure=>simp [intOf];omega
  ·obtain rfl:j=s.n:=by omega
   have hlt':¬((s.n:Nat):Int) < (s.n:Nat):=by omega
   have HE:Hid (R=false):=by
    show _=_
    rw [HR.out]
    have:=HJ.out.1
    rwa [List.take_of_length_le (by rw [HS.out];exact Nat.le_refl _)] at this
   have HB:Hid (qB w wr):=HJ.out.2
   clear HR HJ
   go_wp2
   go_ret
   exact ⟨⟨-1,rfl,by rw [HE.out];rfl⟩,HB.out⟩
theorem qlx (w:World) (s:Sl) (l:List TkR) (hl:∀W,qB w W→RowsAt W 8 (tkrP W) s l) (f:Nat) (caps:Array Value) (eg:∀args W,(callFunc f args).run Tryz.prog W=.ok (.enter f args) W) (p:TkR→Bool)
  (hf:∀W,qB w W→∀x∈l,∀(s6:Sl),RowsAt W 1 intP s6 x.own→Calls Tryz.prog f (#[.agg (tkrC x s6)]++caps) W fun e w'=>e=.returned (.bool (p x))∧qB W w') :
  Calls Tryz.prog 146 #[.slice s.a s.n s.c,.func (.func f) #[] caps] w fun e w'=>e=.returned (.bool (l.any p))∧qB w w':=by
 have k:=qnj w s l hl f caps eg p hf
 obtain ⟨R,hR⟩:∃R,R=l.any p:=⟨_,rfl⟩
 rw [←hR] at k ⊢
 clear hl hf eg hR
 go_enter Tryz.func146,Tryz.ntmps146
 go_wp2_with (go_at_call 182;refine k.mono ?_;clear k;rintro e w' ⟨⟨i,rfl,hi⟩,hb2⟩)
 go_ret
 exact ⟨rfl,hb2⟩
theorem qjh (tb:Tb) (v:Ts) (w:World) (h:TbAt w tb v) (p:Int):Calls Tryz.prog 75 #[.agg (tbC tb v),I p] w fun e w'=>e=.returned (.bool (tb.tasks.any (fun x=>x.prio==p)))∧qB w w':=by
 have hb:∀o q,qB w ((w.alloc o).alloc q):=fun o q=>((Below.refl w.heap.size w).alloc (Nat.le_refl _) o).alloc (by simp) q
 have ks:∀o,Calls Tryz.prog 146 #[.slice v.t.a v.t.n v.t.c,.func (.func 147) #[] #[.pointer (some ⟨w.heap.size+1,0,none⟩)]] ((w.alloc o).alloc (.cells #[I p] 3)) fun e w'=>e=.returned (.bool (tb.tasks.any (fun x=>x.prio==p)))∧qB ((w.alloc o).alloc (.cells #[I p] 3)) w':=fun o=>by
  have hc:((w.alloc o).alloc (.cells #[I p] 3)).cell? ⟨w.heap.size+1,0,none⟩=some (I p):=by
   have:=heap_alloc_new (w.alloc o) (.cells #[I p] 3)
   rw [World.size_alloc] at this
   rw [qcr this];rfl
  have hsz:w.heap.size+1 < ((w.alloc o).alloc (.cells #[I p] 3)).heap.size:=by simp
  exact qlx ((w.alloc o).alloc (.cells #[I p] 3)) v.t tb.tasks (fun W hW=>(h.below ((hb _ _).trans (hW.mono (hb _ _).size))).t) 147 #[.pointer (some ⟨w.heap.size+1,0,none⟩)] (enters_of Tryz.func147 (by kernel_rfl) rfl) (fun x=>x.prio==p) (fun W hW x hx s6 _=>qig x s6 p (w.heap.size+1) W ((hW.cell (p:=⟨w.heap.size+1,0,none⟩) hsz).trans hc))
 clear h
 unfold tbC
 go_enter Tryz.func75,Tryz.ntmps75
 go_wp2_with (go_at_call 146;refine (ks _).mono ?_;clear ks;rintro e w' ⟨rfl,hb2⟩)
 go_ret
 exact ⟨rfl,(hb _ _).trans (hb2.mono (hb _ _).size)⟩
end Go.Proofs.YtijgopkhdjaolaaGreat
namespace Go.Proofs.YtijgopkhdjaolaaGreat
open Go.RowKit Go.Shelf Go.Sort
set_option linter.unusedSimpArgs false
set_option linter.unusedVariables false
set_option maxHeartbeats 16000000
set_option maxRecDepth 100000
theorem qae {P:Program} {ops:Array Oper} {C:World→Prop} {Q:Act→Prop} {a:Act} {o:Oper} {rest:List Oper} (hgd:Region.wanted o (yielded ops a.tmps)=true) (ty:TypeId) (x:Operand) (ho:o.op=.load ty x)
  (g:Nat) (hx:a.eval x=.pointer (some ⟨g,0,none⟩)) (t:TypeId) (cs:Array Value) (fr:Nat×Nat) (d:TypeDesc) (hg:∀w,C w→w.heap[g]?=some (.cells cs t fr))
  (hu:P.underlying ty=some d) (hd:(match d with | .struct _ | .array _ _=>true | _=>false)=true) (hi:(P.info? ty).map (·.size)=some cs.size)
  (h:wpQuiet P ops C Q rest (a.put o.dst (.agg cs))):wpQuiet P ops C Q (o :: rest) a:=by
 unfold wpQuiet
 rw [if_pos hgd]
 refine ⟨.agg cs,fun w hw=>?_,h⟩
 unfold Oper.quietAt execOp
 simp only [ho,hx,Instr.loadAt,Instr.sureAddr,Sem.run_bind,Sem.run_pure,Result.andThen_ok,run_loadVar_row w g t ty cs fr d (hg w hw) hu hd hi]
 exact ⟨rfl,rfl⟩
theorem qc4 {w:World} {g:Nat} {o:Obj} (h:w.heap[g]?=some o):∀w',(∃p:Regrown,w'=grow (redrawn w p.d) p.os)→w'.heap[g]?=some o:=by
 rintro w' ⟨p,rfl⟩
 exact ((below_regrown w p.d p.os).block g (qal h)).trans h
theorem qbb {P:Program} {f:Nat} {args:Array Value} {W0:World} {r:Value} (h:∀W,qB W0 W→Calls P f args W fun e w'=>e=.returned r∧qB W w') (d:Nat) (os:Array Obj):Calls P f args (grow (redrawn W0 d) os) fun e w''=>e=.returned r∧∃p:Regrown,w''=grow (redrawn W0 p.d) p.os:=
 Calls.regrown_of (h _ (below_regrown W0 d os))
theorem qih (tb:Tb) (v:Ts) (w:World) (h:TbAt w tb v):Calls Tryz.prog 27 #[.agg (tbC tb v)] w fun e w'=>e=.returned (.bool (qc0 tb.tasks 64 tb.rings))∧qB w w':=by
 have hV:=heap_alloc_new w (.cells (tbC tb v) 30)
 have HB:Hid (qB w (w.alloc (.cells (tbC tb v) 30))):=qa0 w _
 have HT:Hid (TbAt (w.alloc (.cells (tbC tb v) 30)) tb v):=h.below HB.out
 have HVV:Hid ((w.alloc (.cells (tbC tb v) 30)).heap[w.heap.size]?=some (.cells (tbC tb v) 30)):=hV
 obtain ⟨c0,c1,c2,c3,c4,c5,c6,c7,c8,c9,c10,c11,c12⟩:=qbc hV
 have HS:Hid (v.g.n=tb.rings.length):=h.g.n
 have hsc:v.g.n≤v.g.c:=h.g.c
 have hsm:v.g.c≤maxLen:=h.g.m
 unfold maxLen at hsm
 have hi30:(Tryz.prog.info? 30).map (·.size)=some (tbC tb v).size:=by kernel_rfl
 obtain ⟨R,hR⟩:∃R,R=qc0 tb.tasks 64 tb.rings:=⟨_,rfl⟩
 rw [←hR]
 have HR:Hid (R=qc0 tb.tasks 64 (tb.rings.drop 0)):=hR
 clear hR h hV c0 c1 c2 c4 c5 c6 c7 c8 c9 c10 c11 c12
 go_enter Tryz.func27,Tryz.ntmps27
 unfold tbC at *
 generalize hW:w.alloc (.cells (qC tb v) 30)=W1 at *
 go_upto_region 1 with fail
 clear hW
 go_wp2
 go_loopw [3,5,9] (fun av _ iv wr=>∃(j:Nat) (a:Int),j≤v.g.n∧iv=.int .i64 j∧av=I a∧Hid (R=qc0 tb.tasks a (tb.rings.drop j)∧(0≤a∧a≤64)∧qB W1 wr)) (fun _ _ iv _=>v.g.n - (intOf iv).toNat)
 case atStart=>exact ⟨0,64,by omega,rfl,rfl,HR.out,by omega,Below.refl _ _⟩
 case round=>
  clear HR
  obtain ⟨j,a,hj,rfl,rfl,HJ⟩:=hrel
  by_cases hlt:j < v.g.n
  ·have hlt':(j:Int) < v.g.n:=by omega
   obtain ⟨x,hx⟩:∃x,tb.rings[j]?=some x:=⟨_,List.getElem?_eq_getElem (by rw [←HS.out];exact hlt)⟩
   obtain ⟨g5,o5,e5,hg5,x0,x1⟩:=qg6 (HT.out.below HJ.out.2.2) hx
   have ha:=HJ.out.2.1
   have HX:Hid (R=(inI x.prio 0 (a - 1)&&tb.tasks.any (fun y=>y.prio==x.prio)&&(x.cap==IntKind.i64.wrap (capN tb.tasks x.prio))&&qc0 tb.tasks x.prio (tb.rings.drop (j+1)))):=by
    have h9:=HJ.out.1
    rw [qcf hx,qc0] at h9
    exact h9
   rw [e5]
   clear hx e5
   have b0:=HJ.out.2.2
   clear HJ
   go_upto_region 5 with fail
   have bX:qB W1 (wr.alloc (.cells #[I x.prio,I x.cap] 63)):=b0.trans ((qa0 wr _).mono b0.size)
   have y0:(wr.alloc (.cells #[I x.prio,I x.cap] 63)).cell? ⟨wr.heap.size,0,none⟩=some (I x.prio):=by rw [qcr (heap_alloc_new wr _)];rfl
   have y1:(wr.alloc (.cells #[I x.prio,I x.cap] 63)).cell? ⟨wr.heap.size,1,none⟩=some (I x.cap):=by rw [qcr (heap_alloc_new wr _)];rfl
   have hV0:(wr.alloc (.cells #[I x.prio,I x.cap] 63)).heap[w.heap.size]?=some (.cells (qC tb v) 30):=(bX.block w.heap.size (qal HVV.out)).trans HVV.out
   have hT0:=HT.out.below bX
   clear b0 x0 x1
   generalize wr.heap.size=X at *
   generalize (wr.alloc (.cells #[I x.prio,I x.cap] 63))=W0 at *
   have cW:∀d os,Calls Tryz.prog 72 #[I x.prio,I 0,I (a - 1)] (grow (redrawn W0 d) os) fun e w''=>e=.returned (.bool (inI x.prio 0 (a - 1)))∧∃p:Regrown,w''=grow (redrawn W0 p.d) p.os:=fun d os=>qbb (fun W hW=>(qbr x.prio 0 (a - 1) W).mono (fun e w' h=>⟨h.1,by rw [h.2];exact Below.refl _ _⟩)) d os
   have cH:∀d os,Calls Tryz.prog 75 #[.agg (qC tb v),I x.prio] (grow (redrawn W0 d) os) fun e w''=>e=.returned (.bool (tb.tasks.any (fun y=>y.prio==x.prio)))∧∃p:Regrown,w''=grow (redrawn W0 p.d) p.os:=fun d os=>qbb (fun W hW=>qjh tb v W (hT0.below hW) x.prio) d os
   have cC:∀d os,Calls Tryz.prog 76 #[.slice v.t.a v.t.n v.t.c,I x.prio] (grow (redrawn W0 d) os) fun e w''=>e=.returned (I (IntKind.i64.wrap (capN tb.tasks x.prio)))∧∃p:Regrown,w''=grow (redrawn W0 p.d) p.os:=fun d os=>qbb (fun W hW=>qif W v.t tb.tasks (fun W2 hW2=>((hT0.below hW).below hW2).t) x.prio) d os
   have z0:=cell_regrown y0
   have z1:=cell_regrown y1
   have z2:=cell_regrown (qbc hV0).2.2.1
   have hR0:=qc4 hV0
   have HB0:Hid (qB w W0):=HB.out.trans (bX.mono HB.out.size)
   have HBX:Hid (qB W1 W0):=bX
   clear hT0 bX
   cases b1:inI x.prio 0 (a - 1) with
   | false=>
    rw [b1] at cW HX
    refine wp_region_quiet_below (by kernel_rfl) (by kernel_rfl) ?_
    repeat (go_big_quiet_step (first | exact cW _ _))
    refine wpQuiet_nil ?_
    rintro _ ⟨⟨dq,osq⟩,rfl⟩
    dsimp only
    have HB9:Hid (qB w (grow (redrawn W0 dq) osq)):=HB0.out.trans ((below_regrown W0 dq osq).mono HB0.out.size)
    have HB8:Hid (qB W1 (grow (redrawn W0 dq) osq)):=HBX.out.trans ((below_regrown W0 dq osq).mono HBX.out.size)
    have r0:=z0 dq osq
    clear cW cH cC hR0 z0 z1 z2 y0 y1 hV0
    generalize grow (redrawn W0 dq) osq=w9 at *
    go_wp2
    go_ret
    exact ⟨qa3 (by rw [HX.out];simp),HB9.out⟩
   | true=>
    rw [b1] at cW HX
    have hp:0≤x.prio∧x.prio≤63:=by unfold inI at b1;simp at b1;omega
    cases b2:tb.tasks.any (fun y=>y.prio==x.prio) with
    | false=>
     rw [b2] at cH HX
     refine wp_region_quiet_below (by kernel_rfl) (by kernel_rfl) ?_
     repeat (first | (go_big_quiet_step (first | exact cW _ _ | exact cH _ _)) | (refine qae (by kernel_rfl) 30 _ rfl w.heap.size rfl 30 _ (0,0) _ hR0 Tryz.underlying30 rfl hi30 ?_;simp only [qN]))
     refine wpQuiet_nil ?_
     rintro _ ⟨⟨dq,osq⟩,rfl⟩
     dsimp only
     have HB9:Hid (qB w (grow (redrawn W0 dq) osq)):=HB0.out.trans ((below_regrown W0 dq osq).mono HB0.out.size)
     have HB8:Hid (qB W1 (grow (redrawn W0 dq) osq)):=HBX.out.trans ((below_regrown W0 dq osq).mono HBX.out.size)
     have r0:=z0 dq osq
     clear cW cH cC hR0 z0 z1 z2 y0 y1 hV0
     generalize grow (redrawn W0 dq) osq=w9 at *
     go_wp2
     go_ret
     exact ⟨qa3 (by rw [HX.out];simp),HB9.out⟩
    | true=>
     rw [b2] at cH HX
     cases b3:(x.cap==IntKind.i64.wrap (capN tb.tasks x.prio)) with
     | false=>
      rw [b3] at HX
      generalize IntKind.i64.wrap (capN tb.tasks x.prio)=cc at *
      refine wp_region_quiet_below (by kernel_rfl) (by kernel_rfl) ?_
      repeat (first | (go_big_quiet_step (first | exact cW _ _ | exact cH _ _ | exact cC _ _)) | (refine qae (by kernel_rfl) 30 _ rfl w.heap.size rfl 30 _ (0,0) _ hR0 Tryz.underlying30 rfl hi30 ?_;simp only [qN]))
      refine wpQuiet_nil ?_
      rintro _ ⟨⟨dq,osq⟩,rfl⟩
      dsimp only
      have HB9:Hid (qB w (grow (redrawn W0 dq) osq)):=HB0.out.trans ((below_regrown W0 dq osq).mono HB0.out.size)
      have HB8:Hid (qB W1 (grow (redrawn W0 dq) osq)):=HBX.out.trans ((below_regrown W0 dq osq).mono HBX.out.size)
      have r0:=z0 dq osq
      clear cW cH cC hR0 z0 z1 z2 y0 y1 hV0
      generalize grow (redrawn W0 dq) osq=w9 at *
      go_wp2
      go_ret
      exact ⟨qa3 (by rw [HX.out];simp),HB9.out⟩
     | true=>
      rw [b3] at HX
      generalize IntKind.i64.wrap (capN tb.tasks x.prio)=cc at *
      refine wp_region_quiet_below (by kernel_rfl) (by kernel_rfl) ?_
      repeat (first | (go_big_quiet_step (first | exact cW _ _ | exact cH _ _ | exact cC _ _)) | (refine qae (by kernel_rfl) 30 _ rfl w.heap.size rfl 30 _ (0,0) _ hR0 Tryz.underlying30 rfl hi30 ?_;simp only [qN]))
      refine wpQuiet_nil ?_
      rintro _ ⟨⟨dq,osq⟩,rfl⟩
      dsimp only
      have HB9:Hid (qB w (grow (redrawn W0 dq) osq)):=HB0.out.trans ((below_regrown W0 dq osq).mono HB0.out.size)
      have HB8:Hid (qB W1 (grow (redrawn W0 dq) osq)):=HBX.out.trans ((below_regrown W0 dq osq).mono HBX.out.size)
      have r0:=z0 dq osq
      clear cW cH cC hR0 z0 z1 z2 y0 y1 hV0
      generalize grow (redrawn W0 dq) osq=w9 at *
      go_wp2
      go_roundw
      case rel=>exact ⟨j+1,x.prio,by omega,by go_num,rfl,by rw [HX.out];simp,by omega,HB8.out⟩
      case measure=>simp [intOf];omega
  ·obtain rfl:j=v.g.n:=by omega
   have hlt':¬((v.g.n:Nat):Int) < (v.g.n:Nat):=by omega
   have HE:Hid (R=true):=by
    have:=HJ.out.1
    rw [List.drop_eq_nil_of_le (by rw [HS.out];exact Nat.le_refl _),qc0] at this
    exact this
   have HB9:Hid (qB w wr):=HB.out.trans (HJ.out.2.2.mono HB.out.size)
   clear HJ
   go_wp2
   go_ret
   exact ⟨qa3 HE.out.symm,HB9.out⟩
structure WfT (tb:Tb):Prop where
 t:∀x∈tb.tasks,x.mask < 4294967296∧x.auto < 4294967296
 k:∀x∈tb.ctrs,x.max < 4294967296∧x.base < 4294967296∧x.min < 4294967296
 a:∀x∈tb.als,x.ac.mask < 4294967296∧x.auto < 4294967296∧x.time < 4294967296∧x.cycle < 4294967296
 s:∀x∈tb.msgs,x.init < 18446744073709551616∧x.ac.mask < 4294967296
theorem qen {P:Program} {f:Nat} {args:Array Value} {r:Value} {W:World} (h:Calls P f args W fun e w'=>e=.returned r∧w'=W):Calls P f args W fun e w'=>e=.returned r∧qB W w':=h.mono (fun e w' h=>⟨h.1,by rw [h.2];exact Below.refl _ _⟩)
theorem qp7 (w:World) (s:Sl) (l:List AlR) (hl:∀W,qB w W→RowsAt W 7 alrP s l) (f:Nat) (caps:Array Value) (eg:∀args W,(callFunc f args).run Tryz.prog W=.ok (.enter f args) W) (p:AlR→Int)
  (hf:∀W,qB w W→∀x∈l,Calls Tryz.prog f (#[.agg #[I x.ctr,I x.ac.kind,I x.ac.task,.int .u32 (x.ac.mask:Int),.int .u32 (x.auto:Int),.int .u32 (x.time:Int),.int .u32 (x.cycle:Int)]]++caps) W fun e w'=>e=.returned (I (p x))∧qB W w') :
  Calls Tryz.prog 161 #[.slice s.a s.n s.c,.func (.func f) #[] caps] w fun e w'=>e=.returned (I (IntKind.i64.wrap (sumZ p l)))∧qB w w':=by
 have h0:=hl w (Below.refl _ _)
 have HS:Hid (s.n=l.length):=h0.n
 have hsc:s.n≤s.c:=h0.c
 have hsm:s.c≤maxLen:=h0.m
 unfold maxLen at hsm
 have HH:Hid (∀W,qB w W→RowsAt W 7 alrP s l):=hl
 have HFF:Hid (∀W,qB w W→∀x∈l,Calls Tryz.prog f (#[.agg #[I x.ctr,I x.ac.kind,I x.ac.task,.int .u32 (x.ac.mask:Int),.int .u32 (x.auto:Int),.int .u32 (x.time:Int),.int .u32 (x.cycle:Int)]]++caps) W fun e w'=>e=.returned (I (p x))∧qB W w'):=hf
 obtain ⟨R,hR⟩:∃R,R=IntKind.i64.wrap (sumZ p l):=⟨_,rfl⟩
 rw [←hR]
 have HR:Hid (R=IntKind.i64.wrap (sumZ p l)):=hR
 clear hl hR hf h0
 go_enter Tryz.func161,Tryz.ntmps161
 go_wp2
 go_loopw [5,7,10] (fun tv _ iv wr=>∃(j:Nat) (t:Int),j≤s.n∧iv=.int .i64 j∧tv=.int .i64 t∧Hid (t=IntKind.i64.wrap (sumZ p (l.take j))∧qB w wr)) (fun _ _ iv _=>s.n - (intOf iv).toNat)
 case atStart=>exact ⟨0,0,by omega,rfl,rfl,by simp [sumZ,IntKind.wrap_i64],Below.refl _ _⟩
 case round=>
  obtain ⟨j,t,hj,rfl,rfl,HJ⟩:=hrel
  by_cases hlt:j < s.n
  ·have hlt':(j:Int) < s.n:=by omega
   obtain ⟨x,hx⟩:∃x,l[j]?=some x:=⟨_,List.getElem?_eq_getElem (by rw [←HS.out];exact hlt)⟩
   obtain ⟨g5,o5,e5,hg5,hr5⟩:=(HH.out _ HJ.out.2).row j x hx
   obtain ⟨u0,a0,q0⟩:=hr5 0 (by omega)
   obtain ⟨u1,a1,q1⟩:=hr5 1 (by omega)
   obtain ⟨u2,a2,q2⟩:=hr5 2 (by omega)
   obtain ⟨u3,a3,q3⟩:=hr5 3 (by omega)
   obtain ⟨u4,a4,q4⟩:=hr5 4 (by omega)
   obtain ⟨u5,a5,q5⟩:=hr5 5 (by omega)
   obtain ⟨u6,a6,q6⟩:=hr5 6 (by omega)
   have f0:u0=I x.ctr:=q0
   have f1:u1=I x.ac.kind:=q1
   have f2:u2=I x.ac.task:=q2
   have f3:u3=.int .u32 (x.ac.mask:Int):=q3
   have f4:u4=.int .u32 (x.auto:Int):=q4
   have f5:u5=.int .u32 (x.time:Int):=q5
   have f6:u6=.int .u32 (x.cycle:Int):=q6
   subst f0 f1 f2 f3 f4 f5 f6
   rw [Nat.add_zero] at a0
   have HB:Hid (qB w (wr.alloc (.cells #[I x.ctr,I x.ac.kind,I x.ac.task,.int .u32 (x.ac.mask:Int),.int .u32 (x.auto:Int),.int .u32 (x.time:Int),.int .u32 (x.cycle:Int)] 85))):=HJ.out.2.trans ((qa0 wr _).mono HJ.out.2.size)
   have cx:=HFF.out _ HB.out x (List.mem_of_getElem? hx)
   have HA:Hid (IntKind.i64.wrap (t+p x)=IntKind.i64.wrap (sumZ p (l.take (j+1)))):=by
    show _=_
    rw [List.take_add_one,hx,Option.toList_some,qf5,HJ.out.1]
    simp only [IntKind.wrap_i64]
    omega
   rw [e5]
   clear hx e5 HJ hr5 q0 q1 q2 q3 q4 q5 q6
   generalize p x=px at *
   go_wp2
   refine cx.mono ?_
   clear cx
   rintro e7 w7 ⟨rfl,hb7⟩
   have HB7:Hid (qB w w7):=HB.out.trans (hb7.mono HB.out.size)
   clear hb7
   go_wp2
   go_roundw
   case rel=>exact ⟨j+1,IntKind.i64.wrap (t+px),by omega,by go_num,by simp [IntKind.wrap_i64,wrap64],HA.out,HB7.out⟩
   case measure=>simp [intOf];omega
  ·obtain rfl:j=s.n:=by omega
   have hlt':¬((s.n:Nat):Int) < (s.n:Nat):=by omega
   have HE:Hid (t=R):=by
    show _=_
    rw [HR.out,HJ.out.1,List.take_of_length_le (by rw [HS.out];exact Nat.le_refl _)]
   have HB:Hid (qB w wr):=HJ.out.2
   clear HR HJ
   go_wp2
   go_ret
   exact ⟨qgd HE.out,HB.out⟩
theorem qp8 (w:World) (s:Sl) (l:List MsR) (hl:∀W,qB w W→RowsAt W 8 msrP s l) (f:Nat) (caps:Array Value) (eg:∀args W,(callFunc f args).run Tryz.prog W=.ok (.enter f args) W) (p:MsR→Int)
  (hf:∀W,qB w W→∀x∈l,Calls Tryz.prog f (#[.agg #[I x.kind,I x.len,I x.frm,.int .u64 (x.init:Int),I x.queue,I x.ac.kind,I x.ac.task,.int .u32 (x.ac.mask:Int)]]++caps) W fun e w'=>e=.returned (I (p x))∧qB W w') :
  Calls Tryz.prog 163 #[.slice s.a s.n s.c,.func (.func f) #[] caps] w fun e w'=>e=.returned (I (IntKind.i64.wrap (sumZ p l)))∧qB w w':=by
 have h0:=hl w (Below.refl _ _)
 have HS:Hid (s.n=l.length):=h0.n
 have hsc:s.n≤s.c:=h0.c
 have hsm:s.c≤maxLen:=h0.m
 unfold maxLen at hsm
 have HH:Hid (∀W,qB w W→RowsAt W 8 msrP s l):=hl
 have HFF:Hid (∀W,qB w W→∀x∈l,Calls Tryz.prog f (#[.agg #[I x.kind,I x.len,I x.frm,.int .u64 (x.init:Int),I x.queue,I x.ac.kind,I x.ac.task,.int .u32 (x.ac.mask:Int)]]++caps) W fun e w'=>e=.returned (I (p x))∧qB W w'):=hf
 obtain ⟨R,hR⟩:∃R,R=IntKind.i64.wrap (sumZ p l):=⟨_,rfl⟩
 rw [←hR]
 have HR:Hid (R=IntKind.i64.wrap (sumZ p l)):=hR
 clear hl hR hf h0
 go_enter Tryz.func163,Tryz.ntmps163
 go_wp2
 go_loopw [5,7,10] (fun tv _ iv wr=>∃(j:Nat) (t:Int),j≤s.n∧iv=.int .i64 j∧tv=.int .i64 t∧Hid (t=IntKind.i64.wrap (sumZ p (l.take j))∧qB w wr)) (fun _ _ iv _=>s.n - (intOf iv).toNat)
 case atStart=>exact ⟨0,0,by omega,rfl,rfl,by simp [sumZ,IntKind.wrap_i64],Below.refl _ _⟩
 case round=>
  obtain ⟨j,t,hj,rfl,rfl,HJ⟩:=hrel
  by_cases hlt:j < s.n
  ·have hlt':(j:Int) < s.n:=by omega
   obtain ⟨x,hx⟩:∃x,l[j]?=some x:=⟨_,List.getElem?_eq_getElem (by rw [←HS.out];exact hlt)⟩
   obtain ⟨g5,o5,e5,hg5,hr5⟩:=(HH.out _ HJ.out.2).row j x hx
   obtain ⟨u0,a0,q0⟩:=hr5 0 (by omega)
   obtain ⟨u1,a1,q1⟩:=hr5 1 (by omega)
   obtain ⟨u2,a2,q2⟩:=hr5 2 (by omega)
   obtain ⟨u3,a3,q3⟩:=hr5 3 (by omega)
   obtain ⟨u4,a4,q4⟩:=hr5 4 (by omega)
   obtain ⟨u5,a5,q5⟩:=hr5 5 (by omega)
   obtain ⟨u6,a6,q6⟩:=hr5 6 (by omega)
   obtain ⟨u7,a7,q7⟩:=hr5 7 (by omega)
   have f0:u0=I x.kind:=q0
   have f1:u1=I x.len:=q1
   have f2:u2=I x.frm:=q2
   have f3:u3=.int .u64 (x.init:Int):=q3
   have f4:u4=I x.queue:=q4
   have f5:u5=I x.ac.kind:=q5
   have f6:u6=I x.ac.task:=q6
   have f7:u7=.int .u32 (x.ac.mask:Int):=q7
   subst f0 f1 f2 f3 f4 f5 f6 f7
   rw [Nat.add_zero] at a0
   have HB:Hid (qB w (wr.alloc (.cells #[I x.kind,I x.len,I x.frm,.int .u64 (x.init:Int),I x.queue,I x.ac.kind,I x.ac.task,.int .u32 (x.ac.mask:Int)] 91))):=HJ.out.2.trans ((qa0 wr _).mono HJ.out.2.size)
   have cx:=HFF.out _ HB.out x (List.mem_of_getElem? hx)
   have HA:Hid (IntKind.i64.wrap (t+p x)=IntKind.i64.wrap (sumZ p (l.take (j+1)))):=by
    show _=_
    rw [List.take_add_one,hx,Option.toList_some,qf5,HJ.out.1]
    simp only [IntKind.wrap_i64]
    omega
   rw [e5]
   clear hx e5 HJ hr5 q0 q1 q2 q3 q4 q5 q6 q7
   generalize p x=px at *
   go_wp2
   refine cx.mono ?_
   clear cx
   rintro e7 w7 ⟨rfl,hb7⟩
   have HB7:Hid (qB w w7):=HB.out.trans (hb7.mono HB.out.size)
   clear hb7
   go_wp2
   go_roundw
   case rel=>exact ⟨j+1,IntKind.i64.wrap (t+px),by omega,by go_num,by simp [IntKind.wrap_i64,wrap64],HA.out,HB7.out⟩
   case measure=>simp [intOf];omega
  ·obtain rfl:j=s.n:=by omega
   have hlt':¬((s.n:Nat):Int) < (s.n:Nat):=by omega
   have HE:Hid (t=R):=by
    show _=_
    rw [HR.out,HJ.out.1,List.take_of_length_le (by rw [HS.out];exact Nat.le_refl _)]
   have HB:Hid (qB w wr):=HJ.out.2
   clear HR HJ
   go_wp2
   go_ret
   exact ⟨qgd HE.out,HB.out⟩
theorem qhg (a:AcR) (w:World):Calls Tryz.prog 184 #[.agg #[I a.kind,I a.task,.int .u32 (a.mask:Int)]] w fun e w'=>e=.returned (I (if a.kind=3 then 1 else 0))∧qB w w':=by
 have hb:∀o,qB w (w.alloc o):=fun o=>qa0 w o
 by_cases h:a.kind=3
 ·rw [if_pos h]
  have h1:(a.kind==3)=true:=by simpa using h
  clear h
  go_enter Tryz.func184,Tryz.ntmps184
  go_wp2
  go_ret
  exact ⟨rfl,hb _⟩
 ·rw [if_neg h]
  have h1:(a.kind==3)=false:=by simpa using h
  clear h
  go_enter Tryz.func184,Tryz.ntmps184
  go_wp2
  go_ret
  exact ⟨rfl,hb _⟩
theorem qji (x:AlR) (w:World):Calls Tryz.prog 162 #[.agg (alrC x)] w fun e w'=>e=.returned (I (if x.ac.kind=3 then 1 else 0))∧qB w w':=by
 have hb:∀o,qB w (w.alloc o):=fun o=>qa0 w o
 have kc:=fun W=>qhg x.ac W
 unfold alrC
 generalize (if x.ac.kind=3 then (1:Int) else 0)=rr at *
 go_enter Tryz.func162,Tryz.ntmps162
 go_wp2_with (go_at_call 184;refine (kc _).mono ?_;clear kc;rintro e w' ⟨rfl,hb2⟩)
 go_ret
 exact ⟨rfl,(hb _).trans (hb2.mono (hb _).size)⟩
theorem qjj (x:MsR) (w:World):Calls Tryz.prog 164 #[.agg (msrC x)] w fun e w'=>e=.returned (I (if x.ac.kind=3 then 1 else 0))∧qB w w':=by
 have hb:∀o,qB w (w.alloc o):=fun o=>qa0 w o
 have kc:=fun W=>qhg x.ac W
 unfold msrC
 generalize (if x.ac.kind=3 then (1:Int) else 0)=rr at *
 go_enter Tryz.func164,Tryz.ntmps164
 go_wp2_with (go_at_call 184;refine (kc _).mono ?_;clear kc;rintro e w' ⟨rfl,hb2⟩)
 go_ret
 exact ⟨rfl,(hb _).trans (hb2.mono (hb _).size)⟩
theorem qhx (x:AlR) (w:World):Calls Tryz.prog 156 #[.agg (alrC x)] w fun e w'=>e=.returned (I x.ctr)∧qB w w':=by
 have hb:∀o,qB w (w.alloc o):=fun o=>qa0 w o
 unfold alrC
 go_enter Tryz.func156,Tryz.ntmps156
 go_wp2
 go_ret
 exact ⟨rfl,hb _⟩
theorem qii (x:MsR) (w:World):Calls Tryz.prog 160 #[.agg (msrC x)] w fun e w'=>e=.returned (I x.frm)∧qB w w':=by
 have hb:∀o,qB w (w.alloc o):=fun o=>qa0 w o
 unfold msrC
 go_enter Tryz.func160,Tryz.ntmps160
 go_wp2
 go_ret
 exact ⟨rfl,hb _⟩
theorem qgw (x:MsR) (w:World):Calls Tryz.prog 159 #[.agg (msrC x)] w fun e w'=>e=.returned (.bool (x.kind != 1))∧qB w w':=by
 have hb:∀o,qB w (w.alloc o):=fun o=>qa0 w o
 unfold msrC
 go_enter Tryz.func159,Tryz.ntmps159
 go_wp2
 go_ret
 exact ⟨rfl,hb _⟩
theorem qrf : (Tryz.prog.info? 91).map (fun i=>(i.zero,i.size,i.bytes))=some (some (.agg #[I 0,I 0,I 0,.int .u64 0,I 0,I 0,I 0,.int .u32 0]),8,64):=by kernel_rfl
def qd1 (l:List MsR):List Value:=l.flatMap (fun x=>(msrC x).toList)
theorem qku (l:List MsR) (x:MsR):qd1 (l++[x])=qd1 l++(msrC x).toList:=by simp [qd1]
theorem qij : ∀(l:List MsR) (j:Nat) (x:MsR) (i:Nat) (u:Value),l[j]?=some x→(msrC x)[i]?=some u→i < 8→(qd1 l)[j * 8+i]?=some u
 | [],j,x,i,u,h,_,_=>by simp at h
 | y :: r,0,x,i,u,h,hu,hi=>by
  cases h
  have h8:((msrC y).toList).length=8:=rfl
  rw [qd1,List.flatMap_cons,Nat.zero_mul,Nat.zero_add,List.getElem?_append_left (by omega)]
  rw [Array.getElem?_toList]
  exact hu
 | y :: r,j+1,x,i,u,h,hu,hi=>by
  have ih:=qij r j x i u (by simpa using h) hu hi
  have h8:((msrC y).toList).length=8:=rfl
  rw [qd1,List.flatMap_cons,List.getElem?_append_right (by omega),show (j+1) * 8+i - ((msrC y).toList).length=j * 8+i by omega]
  exact ih
theorem qjk {w:World} {b:Nat} {a:Option Addr} {c:Nat} {l:List MsR} (hl:l.length≤1048576) (h:w.ownsRow b 91 8 (.slice a l.length c) l.length (qd1 l)):RowsAt w 8 msrP ⟨a,l.length,c⟩ l:=by
 rcases h.2 with ⟨h1,h0⟩ | ⟨g,cap,cur,h1,hb,hg,hnc,hcm,hcs,ht⟩
 ·have hn:l=[]:=List.eq_nil_of_length_eq_zero h0
  subst hn
  injection h1 with e1 e2 e3
  subst e1 e3
  exact ⟨rfl,Nat.le_refl _,Nat.zero_le _,fun j x hj=>by simp at hj⟩
 ·injection h1 with e1 e2 e3
  subst e1 e3
  refine ⟨rfl,hnc,hcm,fun j x hj=>⟨g,0,rfl,qal hg,fun i hi=>?_⟩⟩
  have hjl:=(List.getElem?_eq_some_iff.1 hj).1
  have h8:(msrC x).size=8:=rfl
  obtain ⟨u,hu⟩:∃u,(msrC x)[i]?=some u:=⟨_,Array.getElem?_eq_getElem (by omega)⟩
  refine ⟨u,?_,?_⟩
  ·rw [Nat.zero_add,h.cellAt (j * 8+i) (by omega)]
   exact qij l j x i u hj hu hi
  ·rcases (by omega:i=0∨i=1∨i=2∨i=3∨i=4∨i=5∨i=6∨i=7) with e | e | e | e | e | e | e | e <;> (subst e;cases hu;rfl)
theorem Addr.add_mid9 (b o j:Nat):(⟨b,o,none⟩:Addr).add j=⟨b,o+j,none⟩:=by unfold Addr.add;split <;> simp_all
theorem qp9 {w:World} {b E n:Nat} {v:Value} {xs:List Value} (h:w.ownsRow b E 8 v n xs):∃a cc,v=.slice a n cc:=by
 rcases h.2 with ⟨h1,h0⟩ | ⟨g,cap,cur,h1,_⟩
 ·exact ⟨none,0,by rw [h0];exact h1⟩
 ·exact ⟨_,_,h1⟩
theorem qly (w:World) (s:Sl) (l:List MsR) (hl:∀W,qB w W→RowsAt W 8 msrP s l) (hll:l.length≤1048576) (f:Nat) (caps:Array Value) (eg:∀args W,(callFunc f args).run Tryz.prog W=.ok (.enter f args) W) (p:MsR→Bool)
  (hf:∀W,qB w W→∀x∈l,Calls Tryz.prog f (#[.agg #[I x.kind,I x.len,I x.frm,.int .u64 (x.init:Int),I x.queue,I x.ac.kind,I x.ac.task,.int .u32 (x.ac.mask:Int)]]++caps) W fun e w'=>e=.returned (.bool (p x))∧qB W w') :
  Calls Tryz.prog 158 #[.slice s.a s.n s.c,.func (.func f) #[] caps] w fun e w'=>(∃a c,e=.returned (.slice a (l.filter p).length c)∧RowsAt w' 8 msrP ⟨a,(l.filter p).length,c⟩ (l.filter p))∧qB w w':=by
 obtain ⟨im,him,hm0,hm1,hm2⟩:=info_parts qrf
 have h0:=hl w (Below.refl _ _)
 have HS:Hid (s.n=l.length):=h0.n
 have hsc:s.n≤s.c:=h0.c
 have hsm:s.c≤maxLen:=h0.m
 unfold maxLen at hsm
 have HH:Hid (∀W,qB w W→RowsAt W 8 msrP s l):=hl
 have HFF:Hid (∀W,qB w W→∀x∈l,Calls Tryz.prog f (#[.agg #[I x.kind,I x.len,I x.frm,.int .u64 (x.init:Int),I x.queue,I x.ac.kind,I x.ac.task,.int .u32 (x.ac.mask:Int)]]++caps) W fun e w'=>e=.returned (.bool (p x))∧qB W w'):=hf
 have HLL:Hid (l.length≤1048576):=hll
 clear hl hf h0 hll
 go_enter Tryz.func158,Tryz.ntmps158
 go_wp2
 go_loopw [5,7,10] (fun ov _ iv wr=>∃(j q:Nat) (a:Option Addr) (c:Nat),j≤s.n∧iv=.int .i64 j∧ov=.slice a q c∧Hid (q=((l.take j).filter p).length∧wr.ownsRow w.heap.size 91 8 (.slice a q c) q (qd1 ((l.take j).filter p))∧qB w wr)) (fun _ _ iv _=>s.n - (intOf iv).toNat)
 case atStart=>exact ⟨0,0,none,0,by omega,rfl,rfl,by simp,World.ownsRow_nil _ _ _ _,Below.refl _ _⟩
 case round=>
  obtain ⟨j,q,a,c,hj,rfl,rfl,HJ⟩:=hrel
  by_cases hlt:j < s.n
  ·have hlt':(j:Int) < s.n:=by omega
   obtain ⟨x,hx⟩:∃x,l[j]?=some x:=⟨_,List.getElem?_eq_getElem (by rw [←HS.out];exact hlt)⟩
   obtain ⟨g5,o5,e5,hg5,hr5⟩:=(HH.out _ HJ.out.2.2).row j x hx
   obtain ⟨u0,a0,q0⟩:=hr5 0 (by omega)
   obtain ⟨u1,a1,q1⟩:=hr5 1 (by omega)
   obtain ⟨u2,a2,q2⟩:=hr5 2 (by omega)
   obtain ⟨u3,a3,q3⟩:=hr5 3 (by omega)
   obtain ⟨u4,a4,q4⟩:=hr5 4 (by omega)
   obtain ⟨u5,a5,q5⟩:=hr5 5 (by omega)
   obtain ⟨u6,a6,q6⟩:=hr5 6 (by omega)
   obtain ⟨u7,a7,q7⟩:=hr5 7 (by omega)
   have f0:u0=I x.kind:=q0
   have f1:u1=I x.len:=q1
   have f2:u2=I x.frm:=q2
   have f3:u3=.int .u64 (x.init:Int):=q3
   have f4:u4=I x.queue:=q4
   have f5:u5=I x.ac.kind:=q5
   have f6:u6=I x.ac.task:=q6
   have f7:u7=.int .u32 (x.ac.mask:Int):=q7
   subst f0 f1 f2 f3 f4 f5 f6 f7
   rw [Nat.add_zero] at a0
   have bX:qB wr (wr.alloc (.cells #[I x.kind,I x.len,I x.frm,.int .u64 (x.init:Int),I x.queue,I x.ac.kind,I x.ac.task,.int .u32 (x.ac.mask:Int)] 91)):=qa0 wr _
   have bW:qB w (wr.alloc (.cells #[I x.kind,I x.len,I x.frm,.int .u64 (x.init:Int),I x.queue,I x.ac.kind,I x.ac.task,.int .u32 (x.ac.mask:Int)] 91)):=HJ.out.2.2.trans (bX.mono HJ.out.2.2.size)
   have hXX:=heap_alloc_new wr (.cells #[I x.kind,I x.len,I x.frm,.int .u64 (x.init:Int),I x.queue,I x.ac.kind,I x.ac.task,.int .u32 (x.ac.mask:Int)] 91)
   have cx:=HFF.out _ bW x (List.mem_of_getElem? hx)
   have oX:=qa2 HJ.out.2.1 bX
   have HTk:Hid (l.take (j+1)=l.take j++[x]):=by show _=_;rw [List.take_add_one,hx];rfl
   have HQ:Hid (q=((l.take j).filter p).length∧q≤1048576):=⟨HJ.out.1,by
    have h1:=HJ.out.1
    have h2:=List.length_filter_le p (l.take j)
    have h3:=HLL.out
    rw [List.length_take] at h2
    omega⟩
   rw [e5]
   clear hx e5 hr5 q0 q1 q2 q3 q4 q5 q6 q7 HJ
   go_upto_region 5 with fail
   generalize wr.heap.size=X at *
   generalize (wr.alloc (.cells #[I x.kind,I x.len,I x.frm,.int .u64 (x.init:Int),I x.queue,I x.ac.kind,I x.ac.task,.int .u32 (x.ac.mask:Int)] 91))=W0 at *
   have HXX:Hid (∀W,qB W0 W→W.heap[X]?=some (.cells #[I x.kind,I x.len,I x.frm,.int .u64 (x.init:Int),I x.queue,I x.ac.kind,I x.ac.task,.int .u32 (x.ac.mask:Int)] 91)):=fun W hW=>(hW.block X (qal hXX)).trans hXX
   have hi97:(Tryz.prog.info? 91).map (·.size)=some (#[I x.kind,I x.len,I x.frm,.int .u64 (x.init:Int),I x.queue,I x.ac.kind,I x.ac.task,.int .u32 (x.ac.mask:Int)]:Array Value).size:=by kernel_rfl
   have HO:Hid (∀W,qB W0 W→W.ownsRow w.heap.size 91 8 (.slice a q c) q (qd1 ((l.take j).filter p))):=fun W hW=>qa2 oX hW
   have HBW:Hid (qB w W0):=bW
   clear oX bW bX
   cases hpx:p x with
   | false=>
    rw [hpx] at cx
    go_wp2_with (first
     | (refine wpList_load_row rfl 91 _ rfl X rfl 91 _ (0,0) _ hXX Tryz.underlying91 rfl hi97 ?_))
    refine cx.mono ?_
    clear cx
    rintro e7 w7 ⟨rfl,hb7⟩
    have H9:Hid (q=((l.take (j+1)).filter p).length∧w7.ownsRow w.heap.size 91 8 (.slice a q c) q (qd1 ((l.take (j+1)).filter p))∧qB w w7):=by
     have e9:(l.take (j+1)).filter p=(l.take j).filter p:=by rw [HTk.out,List.filter_append];simp [hpx]
     rw [e9]
     exact ⟨HQ.out.1,HO.out w7 hb7,HBW.out.trans (hb7.mono HBW.out.size)⟩
    clear hb7
    go_wp2
    go_roundw
    case rel=>exact ⟨j+1,q,a,c,by omega,by go_num,rfl,H9.out⟩
    case measure=>simp [intOf];omega
   | true=>
    rw [hpx] at cx
    go_wp2_with (first
     | (refine wpList_load_row rfl 91 _ rfl X rfl 91 _ (0,0) _ hXX Tryz.underlying91 rfl hi97 ?_))
    refine cx.mono ?_
    clear cx
    rintro e7 w7 ⟨rfl,hb7⟩
    have hX7:=HXX.out w7 hb7
    have o7:=HO.out w7 hb7
    have b7:qB w w7:=HBW.out.trans (hb7.mono HBW.out.size)
    clear hb7
    have hqq:=HQ.out.2
    have s7:=b7.size
    go_wp2_with (first
     | (refine wpList_load_row rfl 91 _ rfl X rfl 91 _ (0,0) _ hX7 Tryz.underlying91 rfl hi97 ?_)
     | (at_builtin;refine wpList_append_own _ rfl (.tmp 17) (.tmp 19) 28 rfl w.heap.size 91 im _ 8 64 Tryz.underlying28 him hm0 hm1 hm2 rfl (by decide) _ _ _ rfl (o7.alloc _) ⟨w7.heap.size,0,none⟩ 1 1 (msrC x).toList rfl rfl (fun jj uu hu=>by rw [Addr.add_mid9,qcr (heap_alloc_new w7 _)];rw [Nat.zero_add];rw [Array.getElem?_toList] at hu;exact hu) (fun uu hu=>(by unfold msrC at hu;simp at hu;rcases hu with e | e | e | e | e | e | e | e <;> (subst e;rfl))) (by unfold maxLen;omega) (by omega) (by simp;omega) ?_))
    intro v8 w8 o8 g8 _
    obtain ⟨a8,k8,rfl⟩:=qp9 o8
    have H9:Hid (q+1=((l.take (j+1)).filter p).length∧w8.ownsRow w.heap.size 91 8 (.slice a8 (q+1) k8) (q+1) (qd1 ((l.take (j+1)).filter p))∧qB w w8):=by
     have e9:(l.take (j+1)).filter p=(l.take j).filter p++[x]:=by rw [HTk.out,List.filter_append];simp [hpx]
     rw [e9,qku]
     refine ⟨by rw [List.length_append,←HQ.out.1];rfl,o8,(b7.alloc b7.size _).grown g8 (by simp;omega) (fun k e=>(o7.lt k e).1)⟩
    clear o8 g8 o7 b7 hX7
    go_wp2
    go_roundw
    case rel=>exact ⟨j+1,q+1,a8,k8,by omega,by go_num,rfl,H9.out⟩
    case measure=>simp [intOf];omega
  ·obtain rfl:j=s.n:=by omega
   have hlt':¬((s.n:Nat):Int) < (s.n:Nat):=by omega
   have HE:Hid (q=(l.filter p).length∧wr.ownsRow w.heap.size 91 8 (.slice a q c) q (qd1 (l.filter p))∧qB w wr):=by
    have:=HJ.out
    rwa [List.take_of_length_le (by rw [HS.out];exact Nat.le_refl _)] at this
   have Hll:Hid ((l.filter p).length≤1048576):=Nat.le_trans (List.length_filter_le p l) HLL.out
   clear HJ
   go_wp2
   go_ret
   obtain ⟨h1,h2,h3⟩:=HE.out
   subst h1
   exact ⟨⟨a,c,rfl,qjk Hll.out h2⟩,h3⟩
end Go.Proofs.YtijgopkhdjaolaaGreat
