import Derived.Test.YtijgopkhdjaolabGreatXTcn
import Derived.Test.YtijgopkhdjaolabGreatXTcw
import Derived.Test.YtijgopkhdjaolabGreatXTch
import Derived.Test.YtijgopkhdjaolabGreatXTcd
set_option linter.unusedSimpArgs false
set_option linter.unusedVariables false
set_option maxHeartbeats 16000000
set_option maxRecDepth 100000
namespace Go.Proofs.YtijgopkhdjaolabGreat
open Go.RowKit Go.Shelf Go.Sort
theorem qhs (tb:Tb) (v:Ts) (x:MsR) (w:World) (h:TbAt w tb v) (hx:x.init < 18446744073709551616) (hf:tb.msgs.all fldB=true) :
  Calls Tryz.prog 143 #[.agg (tbC tb v),.agg (msrC x)] w fun e w'=>e=.returned (.bool (sndB tb x))∧qB w w':=by
 have hb:qB w ((w.alloc (.cells (tbC tb v) 32)).alloc (.cells (msrC x) 87)):=(qa0 w _).trans ((qa0 _ _).mono (by simp));have hV0:((w.alloc (.cells (tbC tb v) 32)).alloc (.cells (msrC x) 87)).heap[w.heap.size]?=some (.cells (tbC tb v) 32):=by
  rw [heap_alloc_old _ _ (by simp)];exact heap_alloc_new w _
 have hX:((w.alloc (.cells (tbC tb v) 32)).alloc (.cells (msrC x) 87)).heap[w.heap.size+1]?=some (.cells (msrC x) 87):=by
  have:=heap_alloc_new (w.alloc (.cells (tbC tb v) 32)) (.cells (msrC x) 87);rw [World.size_alloc] at this;exact this
 have hT0:=h.below hb;have HB0:Hid (qB w ((w.alloc (.cells (tbC tb v) 32)).alloc (.cells (msrC x) 87))):=hb;have HN:Hid (v.s.n=tb.msgs.length):=h.s.n;have hgc:v.s.n≤v.s.c:=h.s.c;have hgm:v.s.c≤maxLen:=h.s.m;unfold maxLen at hgm;obtain ⟨R,hR⟩:∃R,R=sndB tb x:=⟨_,rfl⟩
 rw [←hR];have HX:Hid (R=(idB x.frm v.s.n&&((msOf tb x.frm).kind==1)&&decide (x.init < 2 ^ (8 * (msOf tb x.frm).len.toNat)))):=by
  show _=_;rw [hR,HN.out];rfl
 have kI:=fun W=>qmo x.frm v.s W
 clear hR h hb;go_enter Tryz.func143,Tryz.ntmps143
 unfold tbC msrC at *;go_upto_region 1 with fail;generalize ((w.alloc (.cells (qC tb v) 32)).alloc (.cells #[I x.kind,I x.len,I x.frm,.int .u64 (x.init:Int),I x.queue,I x.ac.kind,I x.ac.task,.int .u32 (x.ac.mask:Int)] 87))=W0 at *;have z8:=(qbo hV0).2.2.2.2.2.2.2.2.1;have x2:=cell_of_row _ (w.heap.size+1) 2 _ _ (0,0) hX;have x3:=cell_of_row _ (w.heap.size+1) 3 _ _ (0,0) hX;simp at x2 x3;clear hX hV0;cases b1:idB x.frm v.s.n with
 | false=>
  rw [b1] at HX;go_wp2_with (first | (go_at_call 177;refine (kI _).mono ?_;clear kI;rw [b1];rintro e w' ⟨rfl,rfl⟩));go_ret;exact ⟨qa2 (by rw [HX.out];simp),HB0.out⟩
 | true=>
  rw [b1] at HX;have hid2:0≤x.frm∧x.frm < (v.s.n:Int):=by unfold idB at b1;simpa using b1
  obtain ⟨k,hk⟩:=Int.eq_ofNat_of_zero_le hid2.1;obtain ⟨r,hr⟩:∃r,tb.msgs[k]?=some r:=⟨_,List.getElem?_eq_getElem (by rw [←HN.out];omega)⟩
  obtain ⟨gr,orr,er,hgr,t0,t1,t2,t3,t4,t5,t6,t7⟩:=qf7 hT0 hr;have HP:Hid (msOf tb x.frm=r):=by
   show _=_;unfold msOf;rw [hk,Int.toNat_natCast,hr]
  have hfr:=List.all_eq_true.1 hf r (List.mem_of_getElem? hr);have hk1:(k:Int) < v.s.n:=by omega
  have kJ:∀W,Calls Tryz.prog 177 #[I k,.slice (some ⟨gr,orr,none⟩) v.s.n v.s.c] W fun e w'=>e=.returned (.bool true)∧w'=W:=fun W=>by
   have:=kI W;rw [b1,hk,er] at this;exact this
  rw [HP.out] at HX;rw [hk] at x2;rw [er] at z8;clear kI hr er b1 hid2 t2 t3 t4 t5 t6 t7 hT0 hf hk;cases b2:(r.kind==1) with
  | false=>
   rw [b2] at HX;go_wp2_with (first | (go_at_call 177;refine (kJ _).mono ?_;clear kJ;rintro e w' ⟨rfl,rfl⟩));go_ret;exact ⟨qa2 (by rw [HX.out];simp),HB0.out⟩
  | true=>
   rw [b2] at HX;have hlen:r.len=1∨r.len=2∨r.len=4∨r.len=8:=by
    unfold fldB at hfr;rw [if_pos (by simpa using b2)] at hfr;simp at hfr;omega
   clear hfr;rcases hlen with e | e | e | e
   all_goals
    rw [e] at t1 HX;go_wp2_with (first | (go_at_call 177;refine (kJ _).mono ?_;clear kJ;rintro e w' ⟨rfl,rfl⟩));go_region
    all_goals
     go_wp2;go_ret;exact ⟨qa2 (by rw [HX.out,Bool.eq_iff_iff];simp;omega),HB0.out.drew⟩
theorem qgp (tb:Tb) (v:Ts) (x:MsR) (V:Nat) (w:World) (h:TbAt w tb v) (hV:w.heap[V]?=some (.cells (tbC tb v) 32)) (hx:x.init < 18446744073709551616) (hf:tb.msgs.all fldB=true) :
  Calls Tryz.prog 142 #[.agg (msrC x),.pointer (some ⟨V,0,none⟩)] w fun e w'=>e=.returned (.bool (msB tb x))∧qB w w':=by
 have hb:=qa0 w (.cells (msrC x) 87);have hX:=heap_alloc_new w (.cells (msrC x) 87);have hV0:(w.alloc (.cells (msrC x) 87)).heap[V]?=some (.cells (tbC tb v) 32):=(hb.block V (qan hV)).trans hV;have hT0:=h.below hb;have HB0:Hid (qB w (w.alloc (.cells (msrC x) 87))):=hb;have hi30:(Tryz.prog.info? 32).map (·.size)=some (tbC tb v).size:=by kernel_rfl
 have hi97:(Tryz.prog.info? 87).map (·.size)=some (msrC x).size:=by kernel_rfl
 have k0:=fun W hW=>qe3 tb v x.ac 0 0 W (hT0.below hW)
 have k4:=fun W hW=>qe3 tb v x.ac 0 4 W (hT0.below hW)
 have kS:=qhs tb v x (w.alloc (.cells (msrC x) 87)) hT0 hx hf;obtain ⟨R,hR⟩:∃R,R=msB tb x:=⟨_,rfl⟩
 rw [←hR];unfold msB at hR;clear h hV hb hx hf hT0;go_enter Tryz.func142,Tryz.ntmps142
 unfold tbC msrC acrC at *;go_upto_region 1 with fail;generalize (w.alloc (.cells #[I x.kind,I x.len,I x.frm,.int .u64 (x.init:Int),I x.queue,I x.ac.kind,I x.ac.task,.int .u32 (x.ac.mask:Int)] 87))=W0 at *;have HV:Hid (∀W,qB W0 W→W.heap[V]?=some (.cells (qC tb v) 32)):=fun W hW=>(hW.block V (qan hV0)).trans hV0
 have HXX:Hid (∀W,qB W0 W→W.heap[w.heap.size]?=some (.cells #[I x.kind,I x.len,I x.frm,.int .u64 (x.init:Int),I x.queue,I x.ac.kind,I x.ac.task,.int .u32 (x.ac.mask:Int)] 87)):=fun W hW=>(hW.block w.heap.size (qan hX)).trans hX
 have y0:=cell_of_row _ w.heap.size 0 _ _ (0,0) hX;have y5:=cell_of_row _ w.heap.size 5 _ _ (0,0) hX;have y6:=cell_of_row _ w.heap.size 6 _ _ (0,0) hX;have y7:=cell_of_row _ w.heap.size 7 _ _ (0,0) hX;simp at y0 y5 y6 y7;have kA0:=k0 W0 (Below.refl _ _);clear k0;by_cases b1:x.kind=1
 ·have b1':(x.kind==1)=true:=by simpa using b1
  rw [if_pos b1] at hR;have HX:Hid (R=acB tb x.ac 0 0):=hR;clear hR b1 kS k4;go_wp2_with (first
   | (refine wpList_load_row rfl 32 _ rfl V rfl 32 _ (0,0) _ hV0 Tryz.underlying32 rfl hi30 ?_)
   | (go_at_call 134;refine kA0.mono ?_;clear kA0;rintro e w' ⟨rfl,hb2⟩))
  go_ret;exact ⟨qa2 HX.out.symm,HB0.out.trans (hb2.mono HB0.out.size)⟩
 ·have b1':(x.kind==1)=false:=by simpa using b1
  rw [if_neg b1] at hR;have HX:Hid (R=(sndB tb x&&acB tb x.ac 0 4)):=hR;clear hR b1 kA0;cases b2:sndB tb x with
  | false=>
   rw [b2] at kS HX;go_wp2_with (first
   | (refine wpList_load_row rfl 32 _ rfl V rfl 32 _ (0,0) _ hV0 Tryz.underlying32 rfl hi30 ?_)
   | (refine wpList_load_row rfl 87 _ rfl w.heap.size rfl 87 _ (0,0) _ hX Tryz.underlying87 rfl hi97 ?_)
   | (go_at_call 143;refine kS.mono ?_;clear kS;rintro e w2 ⟨rfl,hb2⟩))
   go_ret;exact ⟨qa2 (by rw [HX.out];simp),HB0.out.trans (hb2.mono HB0.out.size)⟩
  | true=>
   rw [b2] at kS HX;go_wp2_with (first
   | (refine wpList_load_row rfl 32 _ rfl V rfl 32 _ (0,0) _ hV0 Tryz.underlying32 rfl hi30 ?_)
   | (refine wpList_load_row rfl 87 _ rfl w.heap.size rfl 87 _ (0,0) _ hX Tryz.underlying87 rfl hi97 ?_)
   | (go_at_call 143;refine kS.mono ?_;clear kS y0 y5 y6 y7;rintro e w2 ⟨rfl,hb2⟩;obtain ⟨d0,d1,d2,d3,d4,d5,d6,d7,d8,d9,d10,d11,d12⟩:=qbo (HV.out w2 hb2);have hX2:=HXX.out w2 hb2;have f5:=cell_of_row _ w.heap.size 5 _ _ (0,0) hX2;have f6:=cell_of_row _ w.heap.size 6 _ _ (0,0) hX2;have f7:=cell_of_row _ w.heap.size 7 _ _ (0,0) hX2;simp at f5 f6 f7;have kA:=k4 w2 hb2;clear hX2 k4)
   | (go_at_call 134;refine kA.mono ?_;clear kA;rintro e w3 ⟨rfl,hb3⟩))
   go_ret;exact ⟨qa2 (by rw [HX.out];simp),HB0.out.trans ((hb2.trans (hb3.mono hb2.size)).mono HB0.out.size)⟩
theorem qhd (tb:Tb) (v:Ts) (w:World) (h:TbAt w tb v) (hw:WfT tb):Calls Tryz.prog 60 #[.agg (tbC tb v)] w fun e w'=>e=.returned (.bool (tb.msgs.all fldB&&tb.msgs.all (msB tb)))∧qB w w':=by
 have hb:=qa0 w (.cells (tbC tb v) 32);have hV:=heap_alloc_new w (.cells (tbC tb v) 32);have k1:=qi3 (w.alloc (.cells (tbC tb v) 32)) v.s tb.msgs (fun W hW=>(h.below (hb.trans (hW.mono hb.size))).s) 141 #[] (enters_of Tryz.func141 (by kernel_rfl) rfl) fldB (fun W hW x hx=>qin x W);have k2:tb.msgs.all fldB=true→∀W2,qB (w.alloc (.cells (tbC tb v) 32)) W2→Calls Tryz.prog 140 #[.slice v.s.a v.s.n v.s.c,.func (.func 142) #[] #[.pointer (some ⟨w.heap.size,0,none⟩)]] W2 fun e w'=>e=.returned (.bool (tb.msgs.all (msB tb)))∧qB W2 w':=fun hf W2 hW2=>
  qi3 W2 v.s tb.msgs (fun W hW=>(h.below (hb.trans ((hW2.trans (hW.mono hW2.size)).mono hb.size))).s) 142 #[.pointer (some ⟨w.heap.size,0,none⟩)] (enters_of Tryz.func142 (by kernel_rfl) rfl) (msB tb) (fun W hW x hx=>qgp tb v x w.heap.size W (h.below (hb.trans ((hW2.trans (hW.mono hW2.size)).mono hb.size))) (((hW2.trans (hW.mono hW2.size)).block w.heap.size (qan hV)).trans hV) (hw.s x hx).1 hf)
 have c8:=(qbo hV).2.2.2.2.2.2.2.2.1;have HV8:Hid (∀W,qB (w.alloc (.cells (tbC tb v) 32)) W→W.cell? ⟨w.heap.size,8,none⟩=some (.slice v.s.a v.s.n v.s.c)):=fun W hW=>(qbo ((hW.block w.heap.size (qan hV)).trans hV)).2.2.2.2.2.2.2.2.1
 unfold tbC at *;clear h hV hw;generalize hR1:tb.msgs.all fldB=R1 at *;generalize hR2:tb.msgs.all (msB tb)=R2 at *;go_enter Tryz.func60,Tryz.ntmps60
 go_upto_region 1 with fail;generalize (w.alloc (.cells (qC tb v) 32))=W0 at *;cases R1
 ·go_wp2_with (first | (go_at_call 140;refine k1.mono ?_;clear k1;rintro e w2 ⟨rfl,hb2⟩))
  go_ret;exact ⟨rfl,hb.trans (hb2.mono hb.size)⟩
 ·go_wp2_with (first
   | (go_at_call 140;refine k1.mono ?_;clear k1;rintro e w2 ⟨rfl,hb2⟩;have q8:=HV8.out w2 hb2;have kg:=k2 rfl w2 hb2;clear k2)
   | (go_at_call 140;refine kg.mono ?_;clear kg;rintro e w3 ⟨rfl,hb3⟩))
  go_ret;exact ⟨qa2 (by simp),hb.trans ((hb2.trans (hb3.mono hb2.size)).mono hb.size)⟩
theorem qio (tb:Tb) (v:Ts) (x:TkR) (s6:Sl) (V:Nat) (w:World) (h:TbAt w tb v) (hs:RowsAt w 1 intP s6 x.own) (hV:w.heap[V]?=some (.cells (tbC tb v) 32)) (ha:x.auto < 4294967296) (hm:1≤tb.modes∧tb.modes≤8) :
  Calls Tryz.prog 123 #[.agg (tkrC x s6),.pointer (some ⟨V,0,none⟩)] w fun e w'=>e=.returned (.bool (tkB tb x))∧qB w w':=by
 have hb:=qa0 w (.cells (tkrC x s6) 71);have hX:=heap_alloc_new w (.cells (tkrC x s6) 71);have hV0:(w.alloc (.cells (tkrC x s6) 71)).heap[V]?=some (.cells (tbC tb v) 32):=(hb.block V (qan hV)).trans hV;have hT0:=h.below hb;have hs0:=hs.below hb (fun _ _ _ _ h=>h);have HB0:Hid (qB w (w.alloc (.cells (tkrC x s6) 71))):=hb;have HN:Hid (v.g.n=tb.rings.length):=h.g.n;have hgc:v.g.n≤v.g.c:=h.g.c;have hgm:v.g.c≤maxLen:=h.g.m;unfold maxLen at hgm;have hi30:(Tryz.prog.info? 32).map (·.size)=some (tbC tb v).size:=by kernel_rfl
 have hi67:(Tryz.prog.info? 71).map (·.size)=some (tkrC x s6).size:=by kernel_rfl
 obtain ⟨R,hR⟩:∃R,R=tkB tb x:=⟨_,rfl⟩
 rw [←hR];have HX:Hid (R=(idB x.ring v.g.n&&(qct tb.rings x.ring==x.prio)&&qea x&&((x.inner==-1 || inI x.inner x.prio 127)&&ownG tb x.prio (-1) x.own&&qcv tb x.auto))):=by
  show _=_;rw [hR,HN.out];rfl
 clear hR h hs hV hb;go_enter Tryz.func123,Tryz.ntmps123
 unfold tkrC tbC at *;go_upto_region 1 with fail;generalize (w.alloc (.cells #[I x.prio,I x.ring,.bool x.full,I x.limit,.int .u32 (x.mask:Int),I x.inner,.slice s6.a s6.n s6.c,.int .u32 (x.auto:Int)] 71))=W0 at *;have cI:∀d os,Calls Tryz.prog 124 #[I x.ring,.slice v.g.a v.g.n v.g.c] (grow (redrawn W0 d) os) fun e w''=>e=.returned (.bool (idB x.ring v.g.n))∧∃p:Regrown,w''=grow (redrawn W0 p.d) p.os:=qbl (fun W hW=>qff (qld x.ring v.g W))
 have cL:∀d os,Calls Tryz.prog 125 #[.agg #[I x.prio,I x.ring,.bool x.full,I x.limit,.int .u32 (x.mask:Int),I x.inner,.slice s6.a s6.n s6.c,.int .u32 (x.auto:Int)]] (grow (redrawn W0 d) os) fun e w''=>e=.returned (.bool (qea x))∧∃p:Regrown,w''=grow (redrawn W0 p.d) p.os:=qbl (fun W hW=>qii x s6 W)
 have cW:∀d os,Calls Tryz.prog 117 #[I x.inner,I x.prio,I 127] (grow (redrawn W0 d) os) fun e w''=>e=.returned (.bool (inI x.inner x.prio 127))∧∃p:Regrown,w''=grow (redrawn W0 p.d) p.os:=qbl (fun W hW=>qff (qca x.inner x.prio 127 W))
 have cO:∀d os,Calls Tryz.prog 126 #[.agg (qC tb v),.slice s6.a s6.n s6.c,I x.prio] (grow (redrawn W0 d) os) fun e w''=>e=.returned (.bool (ownG tb x.prio (-1) x.own))∧∃p:Regrown,w''=grow (redrawn W0 p.d) p.os:=qbl (fun W hW=>qge tb v W (hT0.below hW) s6 x.own (hs0.below hW (fun _ _ _ _ h=>h)) x.prio)
 have cA:∀d os,Calls Tryz.prog 127 #[.agg (qC tb v),.int .u32 (x.auto:Int)] (grow (redrawn W0 d) os) fun e w''=>e=.returned (.bool (qcv tb x.auto))∧∃p:Regrown,w''=grow (redrawn W0 p.d) p.os:=qbl (fun W hW=>qfw tb v x.auto ha hm W)
 have z3:=cell_regrown (qbo hV0).2.2.2.1;have xc:=cell_of_row _ w.heap.size 0 _ _ (0,0) hX;have xr:=cell_of_row _ w.heap.size 1 _ _ (0,0) hX;have xi:=cell_of_row _ w.heap.size 5 _ _ (0,0) hX;have xo:=cell_of_row _ w.heap.size 6 _ _ (0,0) hX;have xa:=cell_of_row _ w.heap.size 7 _ _ (0,0) hX;simp at xc xr xi xo xa;have y0:=cell_regrown xc;have y1:=cell_regrown xr;have y5:=cell_regrown xi;have y6:=cell_regrown xo;have y7:=cell_regrown xa;have hRX:=qcn hX;have hRV:=qcn hV0;clear hs0 hX hV0 xc xr xi xo xa ha hm;cases b1:idB x.ring v.g.n with
 | false=>
  rw [b1] at cI HX;refine wp_region_quiet_below (by kernel_rfl) (by kernel_rfl) ?_;repeat (first | (go_big_quiet_step (first | exact cI _ _)) | (refine qai (by kernel_rfl) 71 _ rfl w.heap.size rfl 71 _ (0,0) _ hRX Tryz.underlying71 rfl hi67 ?_;simp only [qN]) | (refine qai (by kernel_rfl) 32 _ rfl V rfl 32 _ (0,0) _ hRV Tryz.underlying32 rfl hi30 ?_;simp only [qN]))
  refine wpQuiet_nil ?_;rintro _ ⟨⟨dq,osq⟩,rfl⟩;dsimp only;have HB9:Hid (qB w (grow (redrawn W0 dq) osq)):=HB0.out.trans ((below_regrown W0 dq osq).mono HB0.out.size);clear cI cL cW cO cA z3 y0 y1 y5 y6 y7 hRX hRV;generalize grow (redrawn W0 dq) osq=w9 at *;go_wp2;go_ret;exact ⟨qa2 (by rw [HX.out];simp),HB9.out⟩
 | true=>
  rw [b1] at cI HX;have hid2:0≤x.ring∧x.ring < (v.g.n:Int):=by unfold idB at b1;simpa using b1
  obtain ⟨k,hk⟩:=Int.eq_ofNat_of_zero_le hid2.1;obtain ⟨r,hr⟩:∃r,tb.rings[k]?=some r:=⟨_,List.getElem?_eq_getElem (by rw [←HN.out];omega)⟩
  obtain ⟨gr,orr,er,hgr,t0,t1⟩:=qgu hT0 hr;have HP:Hid (qct tb.rings x.ring=r.prio):=by
   show _=_;unfold qct;rw [hk,Int.toNat_natCast,hr]
  have hk1:(k:Int) < v.g.n:=by omega
  have x5:=cell_regrown t0;rw [HP.out] at HX;rw [er] at z3 cI;clear hr er b1 hid2 t0 t1 hT0 HP;generalize x.ring=xr at *;subst hk;cases b2:(r.prio==x.prio) with
  | false=>
   rw [b2] at HX;refine wp_region_quiet_below (by kernel_rfl) (by kernel_rfl) ?_;repeat (first | (go_big_quiet_step (first | exact cI _ _)) | (refine qai (by kernel_rfl) 71 _ rfl w.heap.size rfl 71 _ (0,0) _ hRX Tryz.underlying71 rfl hi67 ?_;simp only [qN]) | (refine qai (by kernel_rfl) 32 _ rfl V rfl 32 _ (0,0) _ hRV Tryz.underlying32 rfl hi30 ?_;simp only [qN]))
   refine wpQuiet_nil ?_;rintro _ ⟨⟨dq,osq⟩,rfl⟩;dsimp only;have HB9:Hid (qB w (grow (redrawn W0 dq) osq)):=HB0.out.trans ((below_regrown W0 dq osq).mono HB0.out.size);clear cI cL cW cO cA z3 y0 y1 y5 y6 y7 hRX hRV x5;generalize grow (redrawn W0 dq) osq=w9 at *;go_wp2;go_ret;exact ⟨qa2 (by rw [HX.out];simp),HB9.out⟩
  | true=>
   rw [b2] at HX;cases b3:qea x with
   | false=>
    rw [b3] at cL HX;refine wp_region_quiet_below (by kernel_rfl) (by kernel_rfl) ?_;repeat (first | (go_big_quiet_step (first | exact cI _ _ | exact cL _ _)) | (refine qai (by kernel_rfl) 71 _ rfl w.heap.size rfl 71 _ (0,0) _ hRX Tryz.underlying71 rfl hi67 ?_;simp only [qN]) | (refine qai (by kernel_rfl) 32 _ rfl V rfl 32 _ (0,0) _ hRV Tryz.underlying32 rfl hi30 ?_;simp only [qN]))
    refine wpQuiet_nil ?_;rintro _ ⟨⟨dq,osq⟩,rfl⟩;dsimp only;have HB9:Hid (qB w (grow (redrawn W0 dq) osq)):=HB0.out.trans ((below_regrown W0 dq osq).mono HB0.out.size);clear cI cL cW cO cA z3 y0 y1 y5 y6 y7 hRX hRV x5;generalize grow (redrawn W0 dq) osq=w9 at *;go_wp2;go_ret;exact ⟨qa2 (by rw [HX.out];simp),HB9.out⟩
   | true=>
    rw [b3] at cL HX;cases b4:(x.inner==-1) with
    | true=>
     rw [b4] at HX;cases b5:ownG tb x.prio (-1) x.own with
     | false=>
      rw [b5] at cO HX;refine wp_region_quiet_below (by kernel_rfl) (by kernel_rfl) ?_;repeat (first | (go_big_quiet_step (first | exact cI _ _ | exact cL _ _ | exact cO _ _)) | (refine qai (by kernel_rfl) 71 _ rfl w.heap.size rfl 71 _ (0,0) _ hRX Tryz.underlying71 rfl hi67 ?_;simp only [qN]) | (refine qai (by kernel_rfl) 32 _ rfl V rfl 32 _ (0,0) _ hRV Tryz.underlying32 rfl hi30 ?_;simp only [qN]))
      refine wpQuiet_nil ?_;rintro _ ⟨⟨dq,osq⟩,rfl⟩;dsimp only;have HB9:Hid (qB w (grow (redrawn W0 dq) osq)):=HB0.out.trans ((below_regrown W0 dq osq).mono HB0.out.size);clear cI cL cW cO cA z3 y0 y1 y5 y6 y7 hRX hRV x5;generalize grow (redrawn W0 dq) osq=w9 at *;go_wp2;go_ret;exact ⟨qa2 (by rw [HX.out];simp),HB9.out⟩
     | true=>
      rw [b5] at cO HX;generalize qcv tb x.auto=bb at *;refine wp_region_quiet_below (by kernel_rfl) (by kernel_rfl) ?_;repeat (first | (go_big_quiet_step (first | exact cI _ _ | exact cL _ _ | exact cO _ _ | exact cA _ _)) | (refine qai (by kernel_rfl) 71 _ rfl w.heap.size rfl 71 _ (0,0) _ hRX Tryz.underlying71 rfl hi67 ?_;simp only [qN]) | (refine qai (by kernel_rfl) 32 _ rfl V rfl 32 _ (0,0) _ hRV Tryz.underlying32 rfl hi30 ?_;simp only [qN]))
      refine wpQuiet_nil ?_;rintro _ ⟨⟨dq,osq⟩,rfl⟩;dsimp only;have HB9:Hid (qB w (grow (redrawn W0 dq) osq)):=HB0.out.trans ((below_regrown W0 dq osq).mono HB0.out.size);clear cI cL cW cO cA z3 y0 y1 y5 y6 y7 hRX hRV x5;generalize grow (redrawn W0 dq) osq=w9 at *;go_wp2;go_ret;exact ⟨qa2 (by rw [HX.out];simp),HB9.out⟩
    | false=>
     rw [b4] at HX;cases b6:inI x.inner x.prio 127 with
     | false=>
      rw [b6] at cW HX;refine wp_region_quiet_below (by kernel_rfl) (by kernel_rfl) ?_;repeat (first | (go_big_quiet_step (first | exact cI _ _ | exact cL _ _ | exact cW _ _)) | (refine qai (by kernel_rfl) 71 _ rfl w.heap.size rfl 71 _ (0,0) _ hRX Tryz.underlying71 rfl hi67 ?_;simp only [qN]) | (refine qai (by kernel_rfl) 32 _ rfl V rfl 32 _ (0,0) _ hRV Tryz.underlying32 rfl hi30 ?_;simp only [qN]))
      refine wpQuiet_nil ?_;rintro _ ⟨⟨dq,osq⟩,rfl⟩;dsimp only;have HB9:Hid (qB w (grow (redrawn W0 dq) osq)):=HB0.out.trans ((below_regrown W0 dq osq).mono HB0.out.size);clear cI cL cW cO cA z3 y0 y1 y5 y6 y7 hRX hRV x5;generalize grow (redrawn W0 dq) osq=w9 at *;go_wp2;go_ret;exact ⟨qa2 (by rw [HX.out];simp),HB9.out⟩
     | true=>
      rw [b6] at cW HX;cases b5:ownG tb x.prio (-1) x.own with
      | false=>
       rw [b5] at cO HX;refine wp_region_quiet_below (by kernel_rfl) (by kernel_rfl) ?_;repeat (first | (go_big_quiet_step (first | exact cI _ _ | exact cL _ _ | exact cW _ _ | exact cO _ _)) | (refine qai (by kernel_rfl) 71 _ rfl w.heap.size rfl 71 _ (0,0) _ hRX Tryz.underlying71 rfl hi67 ?_;simp only [qN]) | (refine qai (by kernel_rfl) 32 _ rfl V rfl 32 _ (0,0) _ hRV Tryz.underlying32 rfl hi30 ?_;simp only [qN]))
       refine wpQuiet_nil ?_;rintro _ ⟨⟨dq,osq⟩,rfl⟩;dsimp only;have HB9:Hid (qB w (grow (redrawn W0 dq) osq)):=HB0.out.trans ((below_regrown W0 dq osq).mono HB0.out.size);clear cI cL cW cO cA z3 y0 y1 y5 y6 y7 hRX hRV x5;generalize grow (redrawn W0 dq) osq=w9 at *;go_wp2;go_ret;exact ⟨qa2 (by rw [HX.out];simp),HB9.out⟩
      | true=>
       rw [b5] at cO HX;generalize qcv tb x.auto=bb at *;refine wp_region_quiet_below (by kernel_rfl) (by kernel_rfl) ?_;repeat (first | (go_big_quiet_step (first | exact cI _ _ | exact cL _ _ | exact cW _ _ | exact cO _ _ | exact cA _ _)) | (refine qai (by kernel_rfl) 71 _ rfl w.heap.size rfl 71 _ (0,0) _ hRX Tryz.underlying71 rfl hi67 ?_;simp only [qN]) | (refine qai (by kernel_rfl) 32 _ rfl V rfl 32 _ (0,0) _ hRV Tryz.underlying32 rfl hi30 ?_;simp only [qN]))
       refine wpQuiet_nil ?_;rintro _ ⟨⟨dq,osq⟩,rfl⟩;dsimp only;have HB9:Hid (qB w (grow (redrawn W0 dq) osq)):=HB0.out.trans ((below_regrown W0 dq osq).mono HB0.out.size);clear cI cL cW cO cA z3 y0 y1 y5 y6 y7 hRX hRV x5;generalize grow (redrawn W0 dq) osq=w9 at *;go_wp2;go_ret;exact ⟨qa2 (by rw [HX.out];simp),HB9.out⟩
theorem qjr (tb:Tb) (v:Ts) (w:World) (h:TbAt w tb v) (hw:WfT tb) (hm:1≤tb.modes∧tb.modes≤8):Calls Tryz.prog 56 #[.agg (tbC tb v)] w fun e w'=>e=.returned (.bool (tb.tasks.all (tkB tb)))∧qB w w':=by
 have hb:=qa0 w (.cells (tbC tb v) 32);have hV:=heap_alloc_new w (.cells (tbC tb v) 32);have ke:=qmp (w.alloc (.cells (tbC tb v) 32)) v.t tb.tasks (fun W hW=>(h.below (hb.trans (hW.mono hb.size))).t) 123 #[.pointer (some ⟨w.heap.size,0,none⟩)] (enters_of Tryz.func123 (by kernel_rfl) rfl) (tkB tb) (fun W hW x hx s6 hs=>qio tb v x s6 w.heap.size W (h.below (hb.trans (hW.mono hb.size))) hs ((hW.block w.heap.size (qan hV)).trans hV) (hw.t x hx).2 hm);have c2:=(qbo hV).2.2.1;unfold tbC at *;clear h hV hw hm;generalize hR:tb.tasks.all (tkB tb)=R at *;go_enter Tryz.func56,Tryz.ntmps56
 go_wp2_with (go_at_call 122;refine ke.mono ?_;clear ke;rintro e w' ⟨rfl,hb2⟩);go_ret;exact ⟨rfl,hb.trans (hb2.mono hb.size)⟩
theorem qht (tb:Tb) (v:Ts) (x:AlR) (V:Nat) (w:World) (h:TbAt w tb v) (hV:w.heap[V]?=some (.cells (tbC tb v) 32)) (ha:x.auto < 4294967296) (hm:1≤tb.modes∧tb.modes≤8) :
  Calls Tryz.prog 132 #[.agg (alrC x),.pointer (some ⟨V,0,none⟩)] w fun e w'=>e=.returned (.bool (alB tb x))∧qB w w':=by
 have hb:=qa0 w (.cells (alrC x) 82);have hX:=heap_alloc_new w (.cells (alrC x) 82);have hV0:(w.alloc (.cells (alrC x) 82)).heap[V]?=some (.cells (tbC tb v) 32):=(hb.block V (qan hV)).trans hV;have hT0:=h.below hb;have HB0:Hid (qB w (w.alloc (.cells (alrC x) 82))):=hb;have HN:Hid (v.k.n=tb.ctrs.length):=h.k.n;have hgc:v.k.n≤v.k.c:=h.k.c;have hgm:v.k.c≤maxLen:=h.k.m;unfold maxLen at hgm;have hi30:(Tryz.prog.info? 32).map (·.size)=some (tbC tb v).size:=by kernel_rfl
 have hi82:(Tryz.prog.info? 82).map (·.size)=some (alrC x).size:=by kernel_rfl
 obtain ⟨R,hR⟩:∃R,R=alB tb x:=⟨_,rfl⟩
 rw [←hR];have HX:Hid (R=(idB x.ctr v.k.n&&acB tb x.ac 1 3&&qcv tb x.auto&&qep x (ctOf tb x.ctr))):=by
  show _=_;rw [hR,HN.out];rfl
 clear hR h hV hb;go_enter Tryz.func132,Tryz.ntmps132
 unfold alrC tbC at *;go_upto_region 1 with fail;generalize (w.alloc (.cells #[I x.ctr,I x.ac.kind,I x.ac.task,.int .u32 (x.ac.mask:Int),.int .u32 (x.auto:Int),.int .u32 (x.time:Int),.int .u32 (x.cycle:Int)] 82))=W0 at *;have cI:∀d os,Calls Tryz.prog 133 #[I x.ctr,.slice v.k.a v.k.n v.k.c] (grow (redrawn W0 d) os) fun e w''=>e=.returned (.bool (idB x.ctr v.k.n))∧∃p:Regrown,w''=grow (redrawn W0 p.d) p.os:=qbl (fun W hW=>qff (qmm x.ctr v.k W))
 have cF:∀d os,Calls Tryz.prog 134 #[.agg (qC tb v),.agg #[I x.ac.kind,I x.ac.task,.int .u32 (x.ac.mask:Int)],I 1,I 3] (grow (redrawn W0 d) os) fun e w''=>e=.returned (.bool (acB tb x.ac 1 3))∧∃p:Regrown,w''=grow (redrawn W0 p.d) p.os:=qbl (fun W hW=>qe3 tb v x.ac 1 3 W (hT0.below hW))
 have cA:∀d os,Calls Tryz.prog 127 #[.agg (qC tb v),.int .u32 (x.auto:Int)] (grow (redrawn W0 d) os) fun e w''=>e=.returned (.bool (qcv tb x.auto))∧∃p:Regrown,w''=grow (redrawn W0 p.d) p.os:=qbl (fun W hW=>qfw tb v x.auto ha hm W)
 have z5:=cell_regrown (qbo hV0).2.2.2.2.2.1;have x0:=cell_of_row _ w.heap.size 0 _ _ (0,0) hX;have x1:=cell_of_row _ w.heap.size 1 _ _ (0,0) hX;have x2:=cell_of_row _ w.heap.size 2 _ _ (0,0) hX;have x3:=cell_of_row _ w.heap.size 3 _ _ (0,0) hX;have x4:=cell_of_row _ w.heap.size 4 _ _ (0,0) hX;simp at x0 x1 x2 x3 x4;have y0:=cell_regrown x0;have y1:=cell_regrown x1;have y2:=cell_regrown x2;have y3:=cell_regrown x3;have y4:=cell_regrown x4;have hRX:=qcn hX;have hRV:=qcn hV0;clear hX hV0 x0 x1 x2 x3 x4 ha hm;cases b1:idB x.ctr v.k.n with
 | false=>
  rw [b1] at cI HX;refine wp_region_quiet_below (by kernel_rfl) (by kernel_rfl) ?_;repeat (first | (go_big_quiet_step (first | exact cI _ _)) | (refine qai (by kernel_rfl) 82 _ rfl w.heap.size rfl 82 _ (0,0) _ hRX Tryz.underlying82 rfl hi82 ?_;simp only [qN]) | (refine qai (by kernel_rfl) 32 _ rfl V rfl 32 _ (0,0) _ hRV Tryz.underlying32 rfl hi30 ?_;simp only [qN]))
  refine wpQuiet_nil ?_;rintro _ ⟨⟨dq,osq⟩,rfl⟩;dsimp only;have HB9:Hid (qB w (grow (redrawn W0 dq) osq)):=HB0.out.trans ((below_regrown W0 dq osq).mono HB0.out.size);clear cI cF cA z5 y0 y1 y2 y3 y4 hRX hRV;generalize grow (redrawn W0 dq) osq=w9 at *;go_wp2;go_ret;exact ⟨qa2 (by rw [HX.out];simp),HB9.out⟩
 | true=>
  rw [b1] at cI HX;cases b2:acB tb x.ac 1 3 with
  | false=>
   rw [b2] at cF HX;refine wp_region_quiet_below (by kernel_rfl) (by kernel_rfl) ?_;repeat (first | (go_big_quiet_step (first | exact cI _ _ | exact cF _ _)) | (refine qai (by kernel_rfl) 82 _ rfl w.heap.size rfl 82 _ (0,0) _ hRX Tryz.underlying82 rfl hi82 ?_;simp only [qN]) | (refine qai (by kernel_rfl) 32 _ rfl V rfl 32 _ (0,0) _ hRV Tryz.underlying32 rfl hi30 ?_;simp only [qN]))
   refine wpQuiet_nil ?_;rintro _ ⟨⟨dq,osq⟩,rfl⟩;dsimp only;have HB9:Hid (qB w (grow (redrawn W0 dq) osq)):=HB0.out.trans ((below_regrown W0 dq osq).mono HB0.out.size);clear cI cF cA z5 y0 y1 y2 y3 y4 hRX hRV;generalize grow (redrawn W0 dq) osq=w9 at *;go_wp2;go_ret;exact ⟨qa2 (by rw [HX.out];simp),HB9.out⟩
  | true=>
   rw [b2] at cF HX;cases b3:qcv tb x.auto with
   | false=>
    rw [b3] at cA HX;refine wp_region_quiet_below (by kernel_rfl) (by kernel_rfl) ?_;repeat (first | (go_big_quiet_step (first | exact cI _ _ | exact cF _ _ | exact cA _ _)) | (refine qai (by kernel_rfl) 82 _ rfl w.heap.size rfl 82 _ (0,0) _ hRX Tryz.underlying82 rfl hi82 ?_;simp only [qN]) | (refine qai (by kernel_rfl) 32 _ rfl V rfl 32 _ (0,0) _ hRV Tryz.underlying32 rfl hi30 ?_;simp only [qN]))
    refine wpQuiet_nil ?_;rintro _ ⟨⟨dq,osq⟩,rfl⟩;dsimp only;have HB9:Hid (qB w (grow (redrawn W0 dq) osq)):=HB0.out.trans ((below_regrown W0 dq osq).mono HB0.out.size);clear cI cF cA z5 y0 y1 y2 y3 y4 hRX hRV;generalize grow (redrawn W0 dq) osq=w9 at *;go_wp2;go_ret;exact ⟨qa2 (by rw [HX.out];simp),HB9.out⟩
   | true=>
    rw [b3] at cA HX;have hid2:0≤x.ctr∧x.ctr < (v.k.n:Int):=by unfold idB at b1;simpa using b1
    obtain ⟨k,hk⟩:=Int.eq_ofNat_of_zero_le hid2.1;obtain ⟨r,hr⟩:∃r,tb.ctrs[k]?=some r:=⟨_,List.getElem?_eq_getElem (by rw [←HN.out];omega)⟩
    obtain ⟨gr,orr,er,hgr,t0,t1,t2⟩:=qgw hT0 hr;have HP:Hid (ctOf tb x.ctr=r):=by
     show _=_;unfold ctOf;rw [hk,Int.toNat_natCast,hr]
    have hk1:(k:Int) < v.k.n:=by omega
    have u0:=cell_regrown t0;have u1:=cell_regrown t1;have u2:=cell_regrown t2;have cT:∀d os,Calls Tryz.prog 135 #[.agg #[I x.ctr,I x.ac.kind,I x.ac.task,.int .u32 (x.ac.mask:Int),.int .u32 (x.auto:Int),.int .u32 (x.time:Int),.int .u32 (x.cycle:Int)],.agg #[.int .u32 (r.max:Int),.int .u32 (r.base:Int),.int .u32 (r.min:Int)]] (grow (redrawn W0 d) os) fun e w''=>e=.returned (.bool (qep x r))∧∃p:Regrown,w''=grow (redrawn W0 p.d) p.os:=qbl (fun W hW=>qj5 x r W)
    rw [HP.out] at HX;generalize qep x r=bb at *;rw [er] at z5 cI;clear hr er b1 hid2 t0 t1 t2 hT0 HP;generalize x.ctr=xc at *;subst hk;refine wp_region_quiet_below (by kernel_rfl) (by kernel_rfl) ?_;repeat (first | (go_big_quiet_step (first | exact cI _ _ | exact cF _ _ | exact cA _ _ | exact cT _ _)) | (refine qai (by kernel_rfl) 82 _ rfl w.heap.size rfl 82 _ (0,0) _ hRX Tryz.underlying82 rfl hi82 ?_;simp only [qN]) | (refine qai (by kernel_rfl) 32 _ rfl V rfl 32 _ (0,0) _ hRV Tryz.underlying32 rfl hi30 ?_;simp only [qN]))
    refine wpQuiet_nil ?_;rintro _ ⟨⟨dq,osq⟩,rfl⟩;dsimp only;have HB9:Hid (qB w (grow (redrawn W0 dq) osq)):=HB0.out.trans ((below_regrown W0 dq osq).mono HB0.out.size);clear cI cF cA z5 y0 y1 y2 y3 y4 hRX hRV u0 u1 u2 cT;generalize grow (redrawn W0 dq) osq=w9 at *;go_wp2;go_ret;exact ⟨qa2 (by rw [HX.out];simp),HB9.out⟩
theorem qip (tb:Tb) (v:Ts) (w:World) (h:TbAt w tb v) (hw:WfT tb) (hm:1≤tb.modes∧tb.modes≤8):Calls Tryz.prog 58 #[.agg (tbC tb v)] w fun e w'=>e=.returned (.bool (tb.als.all (alB tb)))∧qB w w':=by
 have hb:=qa0 w (.cells (tbC tb v) 32);have hV:=heap_alloc_new w (.cells (tbC tb v) 32);have ke:=qms (w.alloc (.cells (tbC tb v) 32)) v.a tb.als (fun W hW=>(h.below (hb.trans (hW.mono hb.size))).a) 132 #[.pointer (some ⟨w.heap.size,0,none⟩)] (enters_of Tryz.func132 (by kernel_rfl) rfl) (alB tb) (fun W hW x hx=>qht tb v x w.heap.size W (h.below (hb.trans (hW.mono hb.size))) ((hW.block w.heap.size (qan hV)).trans hV) (hw.a x hx).2.1 hm);have c2:=(qbo hV).2.2.2.2.2.2.1;unfold tbC at *;clear h hV hw hm;generalize hR:tb.als.all (alB tb)=R at *;go_enter Tryz.func58,Tryz.ntmps58
 go_wp2_with (go_at_call 131;refine ke.mono ?_;clear ke;rintro e w' ⟨rfl,hb2⟩);go_ret;exact ⟨rfl,hb.trans (hb2.mono hb.size)⟩
def chL (tb:Tb):List Bool:=[qby tb,tb.ress.all (fun r=>inI r.ceil (-1) 127),qch tb.tasks 64 tb.rings,tb.tasks.all (tkB tb),tb.ctrs.all ctB,tb.als.all (alB tb),qbs tb [] tb.isrs,(tb.msgs.all fldB&&tb.msgs.all (msB tb)),rmB tb]
theorem ql4 (tb:Tb):(chL tb).all id=chkP tb:=by
 unfold chL chkP rmB;simp only [List.all_cons,List.all_nil,id,Bool.and_true,Bool.and_assoc]
def fnL : List Nat:=[53,54,55,56,57,58,59,60,61]
theorem qnr {tb:Tb} (h0:qby tb=true) (h5:tb.als.all (alB tb)=true) (h7:(tb.msgs.all fldB&&tb.msgs.all (msB tb))=true):RoomOK tb:=by
 refine ⟨fun x hx=>?_,fun x hx hk=>?_,?_⟩
 ·have:=List.all_eq_true.1 h5 x hx
  unfold alB idB at this;simp at this;omega
 ·rw [Bool.and_eq_true] at h7
  have:=List.all_eq_true.1 h7.2 x hx;unfold msB at this;rw [if_neg hk] at this;unfold sndB idB at this;simp at this;omega
 ·unfold qby at h0
  simp at h0;omega
theorem qjs {tb:Tb} (h0:qby tb=true):1≤tb.modes∧tb.modes≤8:=by
 unfold qby inI at h0;simp at h0;omega
theorem qqr (tb:Tb) (v:Ts) (W:World) (h:TbAt W tb v) (hw:WfT tb) (k f:Nat) (b:Bool) (hf:fnL[k]?=some f) (hb:(chL tb)[k]?=some b) (hp:((chL tb).take k).all id=true) :
  Calls Tryz.prog f #[.agg (tbC tb v)] W fun e w'=>e=.returned (.bool b)∧qB W w':=by
 unfold fnL at hf;unfold chL at hb hp;match k,hf,hb,hp with
 | 0,hf,hb,hp=>cases hf;cases hb;exact qij tb v W h
 | 1,hf,hb,hp=>cases hf;cases hb;exact qgj tb v W h
 | 2,hf,hb,hp=>cases hf;cases hb;exact qj9 tb v W h
 | 3,hf,hb,hp=>cases hf;cases hb;simp at hp;exact qjr tb v W h hw (qjs hp.1)
 | 4,hf,hb,hp=>cases hf;cases hb;exact qh0 tb v W h
 | 5,hf,hb,hp=>cases hf;cases hb;simp only [List.take_succ_cons,List.all_cons,Bool.and_eq_true,id] at hp;exact qip tb v W h hw (qjs hp.1)
 | 6,hf,hb,hp=>cases hf;cases hb;exact qkc tb v W h
 | 7,hf,hb,hp=>cases hf;cases hb;exact qhd tb v W h hw
 | 8,hf,hb,hp=>cases hf;cases hb;simp only [List.take_succ_cons,List.all_cons,Bool.and_eq_true,id] at hp;exact qjp tb v W h (qnr hp.1 hp.2.2.2.2.2.1 (by rw [Bool.and_eq_true];exact hp.2.2.2.2.2.2.2.1))
 | n+9,hf,hb,hp=>simp at hf
theorem qm6 (k f:Nat) (hf:fnL[k]?=some f):∀args W,(callFunc f args).run Tryz.prog W=.ok (.enter f args) W:=by
 unfold fnL at hf;match k,hf with
 | 0,hf=>cases hf;exact enters_of Tryz.func53 (by kernel_rfl) rfl
 | 1,hf=>cases hf;exact enters_of Tryz.func54 (by kernel_rfl) rfl
 | 2,hf=>cases hf;exact enters_of Tryz.func55 (by kernel_rfl) rfl
 | 3,hf=>cases hf;exact enters_of Tryz.func56 (by kernel_rfl) rfl
 | 4,hf=>cases hf;exact enters_of Tryz.func57 (by kernel_rfl) rfl
 | 5,hf=>cases hf;exact enters_of Tryz.func58 (by kernel_rfl) rfl
 | 6,hf=>cases hf;exact enters_of Tryz.func59 (by kernel_rfl) rfl
 | 7,hf=>cases hf;exact enters_of Tryz.func60 (by kernel_rfl) rfl
 | 8,hf=>cases hf;exact enters_of Tryz.func61 (by kernel_rfl) rfl
 | n+9,hf=>simp at hf
def fvA : Array Value:=#[.func (.func 53) #[] #[],.func (.func 54) #[] #[],.func (.func 55) #[] #[],.func (.func 56) #[] #[],.func (.func 57) #[] #[],.func (.func 58) #[] #[],.func (.func 59) #[] #[],.func (.func 60) #[] #[],.func (.func 61) #[] #[]]
theorem qt1 (k f:Nat) (hf:fnL[k]?=some f):fvA[k]?=some (.func (.func f) #[] #[]):=by
 unfold fnL at hf;match k,hf with
 | 0,hf=>cases hf;rfl
 | 1,hf=>cases hf;rfl
 | 2,hf=>cases hf;rfl
 | 3,hf=>cases hf;rfl
 | 4,hf=>cases hf;rfl
 | 5,hf=>cases hf;rfl
 | 6,hf=>cases hf;rfl
 | 7,hf=>cases hf;rfl
 | 8,hf=>cases hf;rfl
 | n+9,hf=>simp at hf
theorem qi9 (tb:Tb) (v:Ts) (w:World) (h:TbAt w tb v) (hw:WfT tb):Calls Tryz.prog 17 #[.agg (tbC tb v)] w fun e w'=>e=.returned (I (if chkP tb then 0 else 90))∧qB w w':=by
 have hb1:qB w ((w.alloc (.cells (tbC tb v) 32)).alloc (.cells fvA 120)):=(qa0 w _).trans ((qa0 _ _).mono (by simp));have hV0:((w.alloc (.cells (tbC tb v) 32)).alloc (.cells fvA 120)).heap[w.heap.size]?=some (.cells (tbC tb v) 32):=by
  rw [heap_alloc_old _ _ (by simp)];exact heap_alloc_new w _
 have hG0:((w.alloc (.cells (tbC tb v) 32)).alloc (.cells fvA 120)).heap[w.heap.size+1]?=some (.cells fvA 120):=by
  have:=heap_alloc_new (w.alloc (.cells (tbC tb v) 32)) (.cells fvA 120);rw [World.size_alloc] at this;exact this
 have HT:Hid (TbAt ((w.alloc (.cells (tbC tb v) 32)).alloc (.cells fvA 120)) tb v):=h.below hb1;have HW:Hid (WfT tb):=hw;have hi30:(Tryz.prog.info? 32).map (·.size)=some (tbC tb v).size:=by kernel_rfl
 obtain ⟨Z,hZ⟩:∃Z:Int,Z=if chkP tb then 0 else 90:=⟨_,rfl⟩
 rw [←hZ];have HZ:Hid (Z=if chkP tb then 0 else 90):=hZ;have HC:Hid (∀(W:World) (k f:Nat) (b:Bool),TbAt W tb v→fnL[k]?=some f→(chL tb)[k]?=some b→((chL tb).take k).all id=true→Calls Tryz.prog f #[.agg (tbC tb v)] W fun e w'=>e=.returned (.bool b)∧qB W w'):=fun W k f b hT hf hb hp=>qqr tb v W hT hw k f b hf hb hp
 have HFV:Hid (∀W:World,W.heap[w.heap.size+1]?=some (.cells fvA 120)→∀k f:Nat,fnL[k]?=some f→W.cell? ⟨w.heap.size+1,k,none⟩=some (.func (.func f) #[] #[])):=fun W hW k f hf=>by
  rw [cell_of_row W _ k _ _ (0,0) hW];exact qt1 k f hf
 have HB0:Hid (qB w ((w.alloc (.cells (tbC tb v) 32)).alloc (.cells fvA 120))):=hb1;have HV0:Hid (((w.alloc (.cells (tbC tb v) 32)).alloc (.cells fvA 120)).heap[w.heap.size]?=some (.cells (tbC tb v) 32)∧((w.alloc (.cells (tbC tb v) 32)).alloc (.cells fvA 120)).heap[w.heap.size+1]?=some (.cells fvA 120)):=⟨hV0,hG0⟩;clear h hw hZ hb1 hV0 hG0;unfold tbC at *;unfold fvA at HT HV0 HB0;go_enter Tryz.func17,Tryz.ntmps17
 go_wp2;generalize ((w.alloc (.cells (qC tb v) 32)).alloc (.cells #[.func (.func 53) #[] #[],.func (.func 54) #[] #[],.func (.func 55) #[] #[],.func (.func 56) #[] #[],.func (.func 57) #[] #[],.func (.func 58) #[] #[],.func (.func 59) #[] #[],.func (.func 60) #[] #[],.func (.func 61) #[] #[]] 120))=W0 at *;go_loopw [4,7] (fun _ iv wr=>∃j:Nat,j≤9∧iv=.int .i64 j∧Hid (((chL tb).take j).all id=true∧qB W0 wr)) (fun _ iv _=>9 - (intOf iv).toNat)
 case atStart=>exact ⟨0,by omega,rfl,by simp,Below.refl _ _⟩
 case round=>
  obtain ⟨j,hj,rfl,HJ⟩:=hrel;by_cases hlt:j < 9
  ·have hlt':(j:Int) < 9:=by omega
   obtain ⟨f,hf⟩:∃f,fnL[j]?=some f:=⟨_,List.getElem?_eq_getElem (by exact hlt)⟩
   obtain ⟨b,hbx⟩:∃b,(chL tb)[j]?=some b:=⟨_,List.getElem?_eq_getElem (by exact hlt)⟩
   have eg:=qm6 j f hf;have hV:wr.heap[w.heap.size]?=some (.cells (qC tb v) 32):=(HJ.out.2.block _ (qan HV0.out.1)).trans HV0.out.1;have hG:=(HJ.out.2.block _ (qan HV0.out.2)).trans HV0.out.2;have hc:=HFV.out wr (by unfold fvA;exact hG) j f hf;have cx:=HC.out wr j f b (HT.out.below HJ.out.2) hf hbx HJ.out.1;have HTT:Hid (b=false→Z=90):=fun ht=>by rw [HZ.out,←ql4,qci (p:=id) hbx ht];rfl
   have HA:Hid (b=true→((chL tb).take (j+1)).all id=true):=fun ht=>by rw [qco _ _ j _ hbx,HJ.out.1,ht];rfl
   have HBW:Hid (qB W0 wr):=HJ.out.2;clear hbx HJ hf hG;cases b with
   | false=>
    have HE:Hid (Z=90):=HTT.out rfl;clear HTT HA;go_wp2_with (first | (refine wpList_load_row rfl 32 _ rfl w.heap.size rfl 32 _ (0,0) _ hV Tryz.underlying32 rfl hi30 ?_));refine cx.mono ?_;clear cx;rintro e7 w7 ⟨rfl,hb7⟩;have HB7:Hid (qB W0 w7):=HBW.out.trans (hb7.mono HBW.out.size);clear hb7 hV hc eg;go_wp2;go_ret;exact ⟨by rw [HE.out];rfl,HB0.out.trans (HB7.out.mono HB0.out.size)⟩
   | true=>
    have HA2:Hid (((chL tb).take (j+1)).all id=true):=HA.out rfl;clear HTT HA;go_wp2_with (first | (refine wpList_load_row rfl 32 _ rfl w.heap.size rfl 32 _ (0,0) _ hV Tryz.underlying32 rfl hi30 ?_));refine cx.mono ?_;clear cx;rintro e7 w7 ⟨rfl,hb7⟩;have HB7:Hid (qB W0 w7):=HBW.out.trans (hb7.mono HBW.out.size);clear hb7 hV hc eg;go_wp2;go_roundw
    case rel=>exact ⟨j+1,by omega,by go_num,HA2.out,HB7.out⟩
    case measure=>simp [intOf];omega
  ·obtain rfl:j=9:=by omega
   have HE:Hid (Z=0):=by
    show _=_;have:=HJ.out.1;rw [List.take_of_length_le (by exact Nat.le_refl 9),ql4] at this;rw [HZ.out,this];rfl
   have HB:Hid (qB w wr):=HB0.out.trans (HJ.out.2.mono HB0.out.size);clear HJ;go_wp2;go_ret;exact ⟨by rw [HE.out];rfl,HB.out⟩
end Go.Proofs.YtijgopkhdjaolabGreat
