import Derived.Test.YtijgopkhdjaolabGreatXTcz
import Derived.Deep.RegionHeldLaw
set_option linter.unusedSimpArgs false
set_option linter.unusedVariables false
set_option maxHeartbeats 16000000
set_option maxRecDepth 100000
namespace Go.Proofs.YtijgopkhdjaolabGreat
open Go.RowKit Go.Shelf Go.Sort
def qdn (l:List Int):Nat→Int
 | 0=>-1
 | j+1=>(l[j]?).getD 0
theorem qie (tb:Tb) (v:Ts) (w:World) (h:TbAt w tb v) (s:Sl) (l:List Int) (hl:RowsAt w 1 intP s l) (prio:Int):Calls Tryz.prog 148 #[.agg (tbC tb v),.slice s.a s.n s.c,I prio] w fun e w'=>e=.returned (.bool (ownG tb prio (-1) l))∧qB w w':=by
 have hV:=heap_alloc_new w (.cells (tbC tb v) 32);have HB:Hid (qB w (w.alloc (.cells (tbC tb v) 32))):=qa0 w _;have HT:Hid (TbAt (w.alloc (.cells (tbC tb v) 32)) tb v):=h.below HB.out;have HL:Hid (RowsAt (w.alloc (.cells (tbC tb v) 32)) 1 intP s l):=hl.below HB.out (fun _ _ _ _ h=>h);obtain ⟨c0,c1,c2,c3,c4,c5,c6,c7,c8,c9,c10,c11,c12⟩:=qbo hV;have HS:Hid (s.n=l.length):=hl.n;have hsc:s.n≤s.c:=hl.c;have hsm:s.c≤maxLen:=hl.m;have HRn:Hid (v.r.n=tb.ress.length):=h.r.n;have hrc:v.r.n≤v.r.c:=h.r.c;have hrm:v.r.c≤maxLen:=h.r.m;unfold maxLen at hsm hrm;obtain ⟨R,hR⟩:∃R,R=ownG tb prio (-1) l:=⟨_,rfl⟩
 rw [←hR];have HR:Hid (R=ownG tb prio (-1) (l.drop 0)):=hR;have HV:Hid ((w.alloc (.cells (tbC tb v) 32)).heap[w.heap.size]?=some (.cells (tbC tb v) 32)):=hV;clear hR h hl hV c0 c1 c2 c3 c4 c5 c6 c7 c8 c9 c10 c11 c12;unfold tbC at *;go_enter Tryz.func148,Tryz.ntmps148
 generalize hW:w.alloc (.cells (qC tb v) 32)=W1 at *;go_upto_region 1 with fail;clear hW;go_wp2;go_loopw [7] (fun iv wr=>∃j:Nat,j≤s.n∧iv=.int .i64 j∧Hid (R=ownG tb prio (qdn l j) (l.drop j)∧qB W1 wr)) (fun iv _=>s.n - (intOf iv).toNat)
 case atStart=>exact ⟨0,by omega,rfl,HR.out,Below.refl _ _⟩
 case round=>
  clear HR;obtain ⟨j,hj,rfl,HJ⟩:=hrel;have HBW:Hid (qB w wr):=HB.out.trans (HJ.out.2.mono HB.out.size);by_cases hlt:j < s.n
  ·have hlt':(j:Int) < s.n:=by omega
   obtain ⟨x,hx⟩:∃x,l[j]?=some x:=⟨_,List.getElem?_eq_getElem (by rw [←HS.out];exact hlt)⟩
   obtain ⟨g5,o5,e5,hg5,b5⟩:=qe2 (HL.out.below HJ.out.2 (fun _ _ _ _ h=>h)) hx;have HX:Hid (R=(decide (qdn l j < x)&&idB x tb.ress.length&&qfd tb prio x&&ownG tb prio x (l.drop (j+1)))):=by
    have h9:=HJ.out.1;rw [qcu hx,ownG] at h9;exact h9
   have HPx:Hid (qdn l (j+1)=x):=by show _=_;rw [qdn,hx];rfl
   have hV:=(HJ.out.2.block _ (qan HV.out)).trans HV.out;obtain ⟨c0,c1,c2,c3,c4,c5,c6,c7,c8,c9,c10,c11,c12⟩:=qbo hV;have y4:=cell_regrown c4;have y5:=cell_regrown b5;have HC4:Hid (wr.cell? ⟨w.heap.size,4,none⟩=some (.slice v.r.a v.r.n v.r.c)∧w.heap.size < wr.heap.size):=⟨c4,qan hV⟩;have HB5:Hid (wr.cell? ⟨g5,o5+j,none⟩=some (I x)∧g5 < wr.heap.size):=⟨b5,hg5⟩;have HTW:Hid (TbAt wr tb v):=HT.out.below HJ.out.2;have HB1:Hid (qB W1 wr):=HJ.out.2;have HPV:Hid (∀i,j=i+1→∃y,l[i]?=some y∧qdn l j=y∧wr.cell? ⟨g5,o5+i,none⟩=some (I y)):=fun i hi=>by
    obtain ⟨y,hy⟩:∃y,l[i]?=some y:=⟨_,List.getElem?_eq_getElem (by rw [←HS.out];omega)⟩
    obtain ⟨g6,o6,e6,hg6,b6⟩:=qe2 (HL.out.below HJ.out.2 (fun _ _ _ _ h=>h)) hy;rw [e5] at e6;cases e6;exact ⟨y,hy,by rw [hi,qdn,hy];rfl,b6⟩
   rw [e5];clear hx e5 HJ hV c0 c1 c2 c3 c4 c5 c6 c7 c8 c9 c10 c11 c12 b5 hg5;by_cases g0:x < 0
   ·have HE:Hid (R=false):=by
     show _=_;rw [HX.out];have:idB x tb.ress.length=false:=by unfold idB;simp;omega
     simp [this]
    clear HX;go_wp2;refine wp_region_quiet_below (by kernel_rfl) (by kernel_rfl) ?_;repeat (first | (go_big_quiet_step (first | fail)))
    refine wpQuiet_nil ?_;rintro _ ⟨⟨dq,osq⟩,rfl⟩;dsimp only;have HB9:Hid (qB wr (grow (redrawn wr dq) osq)):=below_regrown wr dq osq;generalize grow (redrawn wr dq) osq=w9 at *;clear y4 y5;have HB10:Hid (qB w w9):=HBW.out.trans (HB9.out.mono HBW.out.size);go_wp2;go_ret;exact ⟨qa2 (by rw [HE.out]),HB10.out⟩
   ·obtain ⟨k,rfl⟩:=Int.eq_ofNat_of_zero_le (show 0≤x by omega)
    clear g0;have d0:decide ((k:Int) < 0)=false:=by simp
    by_cases g1:(v.r.n:Int)≤(k:Int)
    ·have d1:decide ((v.r.n:Int)≤(k:Int))=true:=by simpa using g1
     have HE:Hid (R=false):=by
      show _=_;rw [HX.out];have:idB (k:Int) tb.ress.length=false:=by rw [←HRn.out];unfold idB;simp;omega
      simp [this]
     clear HX;go_wp2;refine wp_region_quiet_below (by kernel_rfl) (by kernel_rfl) ?_;repeat (first | (go_big_quiet_step (first | fail)))
     refine wpQuiet_nil ?_;rintro _ ⟨⟨dq,osq⟩,rfl⟩;dsimp only;have HB9:Hid (qB wr (grow (redrawn wr dq) osq)):=below_regrown wr dq osq;generalize grow (redrawn wr dq) osq=w9 at *;clear y4 y5;have HB10:Hid (qB w w9):=HBW.out.trans (HB9.out.mono HBW.out.size);go_wp2;go_ret;exact ⟨qa2 (by rw [HE.out]),HB10.out⟩
    ·have g1':(k:Int) < v.r.n:=by omega
     have d1:decide ((v.r.n:Int)≤(k:Int))=false:=by simpa using g1
     have d1n:decide (v.r.n≤k)=false:=by simp;omega
     have HI:Hid (idB (k:Int) tb.ress.length=true):=by show _=_;rw [←HRn.out];unfold idB;simp;omega
     obtain ⟨r,hr⟩:∃r,tb.ress[k]?=some r:=⟨_,List.getElem?_eq_getElem (by rw [←HRn.out];omega)⟩
     obtain ⟨gr,orr,er,hgr,z0,z1⟩:=qgv HTW.out hr;have HZ:Hid (gr < wr.heap.size∧wr.cell? ⟨gr,orr+k * 2,none⟩=some (.bool r.inner)∧wr.cell? ⟨gr,orr+k * 2+1,none⟩=some (I r.ceil)):=⟨hgr,z0,z1⟩;have HQ:Hid (qfd tb prio (k:Int)=(!r.inner&&decide (prio≤r.ceil))):=by
      show _=_;unfold qfd;rw [Int.toNat_natCast,hr]
     rw [er] at y4 HC4;clear hr er hgr z0 z1;generalize r.inner=ri at *;generalize r.ceil=rc at *;by_cases gj:j=0
     ·have gj1:¬(0:Int) < (j:Int):=by omega
      have dj:decide ((0:Int) < (j:Int))=false:=by simpa using gj1
      have djn:decide (0 < j)=false:=by simp;omega
      have HG:Hid (qdn l j < (k:Int)):=by show _ < _;rw [gj,qdn];omega
      clear HPV gj;cases ri with
      | true=>
       have HE:Hid (R=false):=by show _=_;rw [HX.out,HQ.out];simp
       clear HX HQ;go_wp2;refine wp_region_quiet_below (by kernel_rfl) (by kernel_rfl) ?_;repeat (first | (go_big_quiet_step (first | fail)))
       refine wpQuiet_nil ?_;rintro _ ⟨⟨dq,osq⟩,rfl⟩;dsimp only;have HB9:Hid (qB wr (grow (redrawn wr dq) osq)):=below_regrown wr dq osq;generalize grow (redrawn wr dq) osq=w9 at *;clear y4 y5;have q4:=(qa5 HB9.out _ _ HC4.out.2).trans HC4.out.1;have q5:=(qa5 HB9.out _ _ HB5.out.2).trans HB5.out.1;have qz0:=(qa5 HB9.out _ _ HZ.out.1).trans HZ.out.2.1;have qz1:=(qa5 HB9.out _ _ HZ.out.1).trans HZ.out.2.2;have HB10:Hid (∀o,qB w (w9.alloc o)):=fun o=>(HBW.out.trans (HB9.out.mono HBW.out.size)).trans ((qa0 w9 o).mono (HBW.out.trans (HB9.out.mono HBW.out.size)).size)
       have HB11:Hid (∀o,qB W1 (w9.alloc o)):=fun o=>(HB1.out.trans (HB9.out.mono HB1.out.size)).trans ((qa0 w9 o).mono (HB1.out.trans (HB9.out.mono HB1.out.size)).size)
       clear HB9;have n4:=World.new_ne w9 _ q4;have n5:=World.new_ne w9 _ q5;have nz0:=World.new_ne w9 _ qz0;go_wp2;go_region_held_law (fun w'=>w'.cell? ⟨w.heap.size,4,none⟩=some (.slice (some ⟨gr,orr,none⟩) v.r.n v.r.c)∧w'.cell? ⟨g5,o5+j,none⟩=some (I (k:Int))∧w'.cell? ⟨gr,orr+k * 2,none⟩=some (.bool true)∧w'.cell? ⟨gr,orr+k * 2+1,none⟩=some (I rc)) (first | (go_keep;done)) (fail)
       all_goals
        go_wp2;go_ret;exact ⟨qa2 (by rw [HE.out]),(HB10.out _).drew⟩
      | false=>
       by_cases g3:rc < prio
       ·have HE:Hid (R=false):=by
         show _=_;rw [HX.out,HQ.out];have:¬prio≤rc:=by omega
         simp [this]
        clear HX HQ;go_wp2;refine wp_region_quiet_below (by kernel_rfl) (by kernel_rfl) ?_;repeat (first | (go_big_quiet_step (first | fail)))
        refine wpQuiet_nil ?_;rintro _ ⟨⟨dq,osq⟩,rfl⟩;dsimp only;have HB9:Hid (qB wr (grow (redrawn wr dq) osq)):=below_regrown wr dq osq;generalize grow (redrawn wr dq) osq=w9 at *;clear y4 y5;have q4:=(qa5 HB9.out _ _ HC4.out.2).trans HC4.out.1;have q5:=(qa5 HB9.out _ _ HB5.out.2).trans HB5.out.1;have qz0:=(qa5 HB9.out _ _ HZ.out.1).trans HZ.out.2.1;have qz1:=(qa5 HB9.out _ _ HZ.out.1).trans HZ.out.2.2;have HB10:Hid (∀o,qB w (w9.alloc o)):=fun o=>(HBW.out.trans (HB9.out.mono HBW.out.size)).trans ((qa0 w9 o).mono (HBW.out.trans (HB9.out.mono HBW.out.size)).size)
        have HB11:Hid (∀o,qB W1 (w9.alloc o)):=fun o=>(HB1.out.trans (HB9.out.mono HB1.out.size)).trans ((qa0 w9 o).mono (HB1.out.trans (HB9.out.mono HB1.out.size)).size)
        clear HB9;have n4:=World.new_ne w9 _ q4;have n5:=World.new_ne w9 _ q5;have nz0:=World.new_ne w9 _ qz0;go_wp2;go_region_held_law (fun w'=>w'.cell? ⟨w.heap.size,4,none⟩=some (.slice (some ⟨gr,orr,none⟩) v.r.n v.r.c)∧w'.cell? ⟨g5,o5+j,none⟩=some (I (k:Int))∧w'.cell? ⟨gr,orr+k * 2,none⟩=some (.bool false)∧w'.cell? ⟨gr,orr+k * 2+1,none⟩=some (I rc)) (first | (go_keep;done)) (fail)
        all_goals
         go_wp2;go_ret;exact ⟨qa2 (by rw [HE.out]),(HB10.out _).drew⟩
       ·have HN:Hid (R=ownG tb prio (qdn l (j+1)) (l.drop (j+1))):=by
         show _=_;rw [HPx.out];have h9:=HX.out;rw [HQ.out,HI.out] at h9;have g3':prio≤rc:=by omega
         have g4:=HG.out;simpa [g3',g4] using h9
        clear HX HQ;go_wp2;refine wp_region_quiet_below (by kernel_rfl) (by kernel_rfl) ?_;repeat (first | (go_big_quiet_step (first | fail)))
        refine wpQuiet_nil ?_;rintro _ ⟨⟨dq,osq⟩,rfl⟩;dsimp only;have HB9:Hid (qB wr (grow (redrawn wr dq) osq)):=below_regrown wr dq osq;generalize grow (redrawn wr dq) osq=w9 at *;clear y4 y5;have q4:=(qa5 HB9.out _ _ HC4.out.2).trans HC4.out.1;have q5:=(qa5 HB9.out _ _ HB5.out.2).trans HB5.out.1;have qz0:=(qa5 HB9.out _ _ HZ.out.1).trans HZ.out.2.1;have qz1:=(qa5 HB9.out _ _ HZ.out.1).trans HZ.out.2.2;have HB10:Hid (∀o,qB w (w9.alloc o)):=fun o=>(HBW.out.trans (HB9.out.mono HBW.out.size)).trans ((qa0 w9 o).mono (HBW.out.trans (HB9.out.mono HBW.out.size)).size)
        have HB11:Hid (∀o,qB W1 (w9.alloc o)):=fun o=>(HB1.out.trans (HB9.out.mono HB1.out.size)).trans ((qa0 w9 o).mono (HB1.out.trans (HB9.out.mono HB1.out.size)).size)
        clear HB9;have n4:=World.new_ne w9 _ q4;have n5:=World.new_ne w9 _ q5;have nz0:=World.new_ne w9 _ qz0;go_wp2;go_region_held_law (fun w'=>w'.cell? ⟨w.heap.size,4,none⟩=some (.slice (some ⟨gr,orr,none⟩) v.r.n v.r.c)∧w'.cell? ⟨g5,o5+j,none⟩=some (I (k:Int))∧w'.cell? ⟨gr,orr+k * 2,none⟩=some (.bool false)∧w'.cell? ⟨gr,orr+k * 2+1,none⟩=some (I rc)) (first | (go_keep;done)) (fail)
        all_goals
         go_wp2;go_roundw
         case rel=>exact ⟨j+1,by omega,by go_num,HN.out,(HB11.out _).drew⟩
         case measure=>simp [intOf];omega
     ·obtain ⟨i,rfl⟩:∃i,j=i+1:=⟨j - 1,by omega⟩
      obtain ⟨y,hy,hpv,b6⟩:=HPV.out i rfl;have y6:=cell_regrown b6;have dj:decide ((0:Int) < ((i+1:Nat):Int))=true:=by simp
      have HPP:Hid (qdn l (i+1)=y):=hpv;clear HPV hy hpv b6 gj;by_cases g2:(k:Int)≤y
      ·have d2:decide ((k:Int)≤y)=true:=by simpa using g2
       have HE:Hid (R=false):=by
        show _=_;rw [HX.out,HPP.out];have:¬y < (k:Int):=by omega
        simp [this]
       clear HX HQ;go_wp2;refine wp_region_quiet_below (by kernel_rfl) (by kernel_rfl) ?_;repeat (first | (go_big_quiet_step (first | fail)))
       refine wpQuiet_nil ?_;rintro _ ⟨⟨dq,osq⟩,rfl⟩;dsimp only;have HB9:Hid (qB wr (grow (redrawn wr dq) osq)):=below_regrown wr dq osq;generalize grow (redrawn wr dq) osq=w9 at *;clear y4 y5 y6;have HB10:Hid (qB w w9):=HBW.out.trans (HB9.out.mono HBW.out.size);go_wp2;go_ret;exact ⟨qa2 (by rw [HE.out]),HB10.out⟩
      ·have d2:decide ((k:Int)≤y)=false:=by simpa using g2
       have HG:Hid (qdn l (i+1) < (k:Int)):=by show _ < _;rw [HPP.out];omega
       cases ri with
       | true=>
        have HE:Hid (R=false):=by show _=_;rw [HX.out,HQ.out];simp
        clear HX HQ;go_wp2;refine wp_region_quiet_below (by kernel_rfl) (by kernel_rfl) ?_;repeat (first | (go_big_quiet_step (first | fail)))
        refine wpQuiet_nil ?_;rintro _ ⟨⟨dq,osq⟩,rfl⟩;dsimp only;have HB9:Hid (qB wr (grow (redrawn wr dq) osq)):=below_regrown wr dq osq;generalize grow (redrawn wr dq) osq=w9 at *;clear y4 y5 y6;have q4:=(qa5 HB9.out _ _ HC4.out.2).trans HC4.out.1;have q5:=(qa5 HB9.out _ _ HB5.out.2).trans HB5.out.1;have qz0:=(qa5 HB9.out _ _ HZ.out.1).trans HZ.out.2.1;have qz1:=(qa5 HB9.out _ _ HZ.out.1).trans HZ.out.2.2;have HB10:Hid (∀o,qB w (w9.alloc o)):=fun o=>(HBW.out.trans (HB9.out.mono HBW.out.size)).trans ((qa0 w9 o).mono (HBW.out.trans (HB9.out.mono HBW.out.size)).size)
        have HB11:Hid (∀o,qB W1 (w9.alloc o)):=fun o=>(HB1.out.trans (HB9.out.mono HB1.out.size)).trans ((qa0 w9 o).mono (HB1.out.trans (HB9.out.mono HB1.out.size)).size)
        clear HB9;have n4:=World.new_ne w9 _ q4;have n5:=World.new_ne w9 _ q5;have nz0:=World.new_ne w9 _ qz0;go_wp2;go_region_held_law (fun w'=>w'.cell? ⟨w.heap.size,4,none⟩=some (.slice (some ⟨gr,orr,none⟩) v.r.n v.r.c)∧w'.cell? ⟨g5,o5+(i+1),none⟩=some (I (k:Int))∧w'.cell? ⟨gr,orr+k * 2,none⟩=some (.bool true)∧w'.cell? ⟨gr,orr+k * 2+1,none⟩=some (I rc)) (first | (go_keep;done)) (fail)
        all_goals
         go_wp2;go_ret;exact ⟨qa2 (by rw [HE.out]),(HB10.out _).drew⟩
       | false=>
        by_cases g3:rc < prio
        ·have HE:Hid (R=false):=by
          show _=_;rw [HX.out,HQ.out];have:¬prio≤rc:=by omega
          simp [this]
         clear HX HQ;go_wp2;refine wp_region_quiet_below (by kernel_rfl) (by kernel_rfl) ?_;repeat (first | (go_big_quiet_step (first | fail)))
         refine wpQuiet_nil ?_;rintro _ ⟨⟨dq,osq⟩,rfl⟩;dsimp only;have HB9:Hid (qB wr (grow (redrawn wr dq) osq)):=below_regrown wr dq osq;generalize grow (redrawn wr dq) osq=w9 at *;clear y4 y5 y6;have q4:=(qa5 HB9.out _ _ HC4.out.2).trans HC4.out.1;have q5:=(qa5 HB9.out _ _ HB5.out.2).trans HB5.out.1;have qz0:=(qa5 HB9.out _ _ HZ.out.1).trans HZ.out.2.1;have qz1:=(qa5 HB9.out _ _ HZ.out.1).trans HZ.out.2.2;have HB10:Hid (∀o,qB w (w9.alloc o)):=fun o=>(HBW.out.trans (HB9.out.mono HBW.out.size)).trans ((qa0 w9 o).mono (HBW.out.trans (HB9.out.mono HBW.out.size)).size)
         have HB11:Hid (∀o,qB W1 (w9.alloc o)):=fun o=>(HB1.out.trans (HB9.out.mono HB1.out.size)).trans ((qa0 w9 o).mono (HB1.out.trans (HB9.out.mono HB1.out.size)).size)
         clear HB9;have n4:=World.new_ne w9 _ q4;have n5:=World.new_ne w9 _ q5;have nz0:=World.new_ne w9 _ qz0;go_wp2;go_region_held_law (fun w'=>w'.cell? ⟨w.heap.size,4,none⟩=some (.slice (some ⟨gr,orr,none⟩) v.r.n v.r.c)∧w'.cell? ⟨g5,o5+(i+1),none⟩=some (I (k:Int))∧w'.cell? ⟨gr,orr+k * 2,none⟩=some (.bool false)∧w'.cell? ⟨gr,orr+k * 2+1,none⟩=some (I rc)) (first | (go_keep;done)) (fail)
         all_goals
          go_wp2;go_ret;exact ⟨qa2 (by rw [HE.out]),(HB10.out _).drew⟩
        ·have HN:Hid (R=ownG tb prio (qdn l ((i+1)+1)) (l.drop ((i+1)+1))):=by
          show _=_;rw [HPx.out];have h9:=HX.out;rw [HQ.out,HI.out] at h9;have g3':prio≤rc:=by omega
          have g4:=HG.out;simpa [g3',g4] using h9
         clear HX HQ;go_wp2;refine wp_region_quiet_below (by kernel_rfl) (by kernel_rfl) ?_;repeat (first | (go_big_quiet_step (first | fail)))
         refine wpQuiet_nil ?_;rintro _ ⟨⟨dq,osq⟩,rfl⟩;dsimp only;have HB9:Hid (qB wr (grow (redrawn wr dq) osq)):=below_regrown wr dq osq;generalize grow (redrawn wr dq) osq=w9 at *;clear y4 y5 y6;have q4:=(qa5 HB9.out _ _ HC4.out.2).trans HC4.out.1;have q5:=(qa5 HB9.out _ _ HB5.out.2).trans HB5.out.1;have qz0:=(qa5 HB9.out _ _ HZ.out.1).trans HZ.out.2.1;have qz1:=(qa5 HB9.out _ _ HZ.out.1).trans HZ.out.2.2;have HB10:Hid (∀o,qB w (w9.alloc o)):=fun o=>(HBW.out.trans (HB9.out.mono HBW.out.size)).trans ((qa0 w9 o).mono (HBW.out.trans (HB9.out.mono HBW.out.size)).size)
         have HB11:Hid (∀o,qB W1 (w9.alloc o)):=fun o=>(HB1.out.trans (HB9.out.mono HB1.out.size)).trans ((qa0 w9 o).mono (HB1.out.trans (HB9.out.mono HB1.out.size)).size)
         clear HB9;have n4:=World.new_ne w9 _ q4;have n5:=World.new_ne w9 _ q5;have nz0:=World.new_ne w9 _ qz0;go_wp2;go_region_held_law (fun w'=>w'.cell? ⟨w.heap.size,4,none⟩=some (.slice (some ⟨gr,orr,none⟩) v.r.n v.r.c)∧w'.cell? ⟨g5,o5+(i+1),none⟩=some (I (k:Int))∧w'.cell? ⟨gr,orr+k * 2,none⟩=some (.bool false)∧w'.cell? ⟨gr,orr+k * 2+1,none⟩=some (I rc)) (first | (go_keep;done)) (fail)
         all_goals
          go_wp2;go_roundw
          case rel=>exact ⟨(i+1)+1,by omega,by go_num,HN.out,(HB11.out _).drew⟩
          case measure=>simp [intOf];omega
  ·obtain rfl:j=s.n:=by omega
   have hlt':¬((s.n:Nat):Int) < (s.n:Nat):=by omega
   have HE:Hid (R=true):=by
    have h9:=HJ.out.1;rw [HS.out,List.drop_length,ownG] at h9;exact h9
   clear HJ;go_wp2;go_ret;exact ⟨qa2 (by rw [HE.out]),HBW.out⟩
theorem qaf {P:Program} {ops:Array Oper} {rest:List Oper} {o:Oper} {a:Act} {w:World} {Q:Exit→Act→World→Prop} (hgd:Region.wanted o (yielded ops a.tmps)=true) (ty:TypeId) (x:Operand) (ho:o.op=.load ty x)
  (g:Nat) (hx:a.eval x=.pointer (some ⟨g,0,none⟩)) (t:TypeId) (cs:Array Value) (fr:Nat×Nat) (d:TypeDesc) (hg:w.heap[g]?=some (.cells cs t fr))
  (hu:P.underlying ty=some d) (hd:(match d with | .struct _ | .array _ _=>true | _=>false)=true) (hi:(P.info? ty).map (·.size)=some cs.size)
  (h:wpList P ops Q rest (a.put o.dst (.agg cs)) w):wpList P ops Q (o :: rest) a w:=
 BigFrame.wpList_want hgd fun _ hK=>wp_load_row ty x ho g hx t cs fr d hg hu hd hi (hK _ _ h)
theorem qo8 (tb:Tb) (v:Ts) (w:World) (h:TbAt w tb v):Calls Tryz.prog 71 #[.agg (tbC tb v)] w fun e w'=>e=.returned (.bool (qbs tb [] tb.isrs))∧qB w w':=by
 have hb:=qa0 w (.cells (tbC tb v) 32);have hV0:=heap_alloc_new w (.cells (tbC tb v) 32);have HT:Hid (TbAt (w.alloc (.cells (tbC tb v) 32)) tb v):=h.below hb;have HB0:Hid (qB w (w.alloc (.cells (tbC tb v) 32))):=hb;have HV0:Hid ((w.alloc (.cells (tbC tb v) 32)).heap[w.heap.size]?=some (.cells (tbC tb v) 32)):=hV0;have HIn:Hid (v.i.n=tb.isrs.length):=h.i.n;have hic:v.i.n≤v.i.c:=h.i.c;have him:v.i.c≤maxLen:=h.i.m;unfold maxLen at him;obtain ⟨R,hR⟩:∃R,R=qbs tb [] tb.isrs:=⟨_,rfl⟩
 rw [←hR];have HR:Hid (R=qbs tb (tb.isrs.take 0) (tb.isrs.drop 0)):=hR;have HO:Hid (∀(W:World) (x:IsR) (s:Sl),TbAt W tb v→RowsAt W 1 intP s x.own→Calls Tryz.prog 148 #[.agg (tbC tb v),.slice s.a s.n s.c,I x.prio] W fun e w'=>e=.returned (.bool (ownG tb x.prio (-1) x.own))∧qB W w'):=fun W x s hT hs=>qie tb v W hT s x.own hs x.prio
 have hi30:(Tryz.prog.info? 32).map (·.size)=some (tbC tb v).size:=by kernel_rfl
 clear h hR hb hV0;unfold tbC at *;go_enter Tryz.func71,Tryz.ntmps71
 generalize hW:w.alloc (.cells (qC tb v) 32)=W1 at *;go_upto_region 1 with fail;clear hW;go_wp2;go_loopw [3] (fun iv wr=>∃j:Nat,j≤v.i.n∧iv=.int .i64 j∧Hid (R=qbs tb (tb.isrs.take j) (tb.isrs.drop j)∧qB W1 wr)) (fun iv _=>v.i.n - (intOf iv).toNat)
 case atStart=>exact ⟨0,by omega,rfl,HR.out,Below.refl _ _⟩
 case round=>
  clear HR;obtain ⟨j,hj,rfl,HJ⟩:=hrel;have HBW:Hid (qB w wr):=HB0.out.trans (HJ.out.2.mono HB0.out.size);have HTW:Hid (TbAt wr tb v):=HT.out.below HJ.out.2;have HVW:Hid (wr.heap[w.heap.size]?=some (.cells (qC tb v) 32)):=(HJ.out.2.block _ (qan HV0.out)).trans HV0.out;obtain ⟨_,_,_,_,_,_,_,c7,_⟩:=qbo HVW.out;by_cases hlt:j < v.i.n
  ·have hlt':(j:Int) < v.i.n:=by omega
   obtain ⟨x,hx⟩:∃x,tb.isrs[j]?=some x:=⟨_,List.getElem?_eq_getElem (by rw [←HIn.out];exact hlt)⟩
   obtain ⟨g5,o5,s2,e5,hg5,q0,q1,q2,r2⟩:=qdj HTW.out hx;have HX:Hid (R=(isB tb x&&(tb.isrs.take j).all (fun a=>qat a x)&&qbs tb (tb.isrs.take (j+1)) (tb.isrs.drop (j+1)))):=by
    have h9:=HJ.out.1;rw [qcu hx,qbs] at h9;show _=_;rw [h9,List.take_add_one,hx];rfl
   obtain ⟨xc,hxc⟩:∃xc,xc=x.cat:=⟨_,rfl⟩
   obtain ⟨xp,hxp⟩:∃xp,xp=x.prio:=⟨_,rfl⟩
   obtain ⟨ow,how⟩:∃ow,ow=ownG tb x.prio (-1) x.own:=⟨_,rfl⟩
   have kO:=HO.out (wr.alloc (.cells #[I xc,I xp,.slice s2.a s2.n s2.c] 84)) x s2 (HTW.out.below (qa0 wr _)) (r2.below (qa0 wr _) (fun _ _ _ _ h=>h));have HBI:Hid (isB tb x=(inI xc 1 2&&inI xp 64 127&&(xc==2 || (s2.n==0))&&ow)):=by
    show _=_;unfold isB;rw [hxc,hxp,how,r2.n];congr 2
    cases x.own <;> rfl
   rw [←how,←hxp] at kO;rw [←hxc] at q0;rw [←hxp] at q1;have HXC:Hid (x.cat=xc∧x.prio=xp):=⟨hxc.symm,hxp.symm⟩;have HBX:Hid (qB wr (wr.alloc (.cells #[I xc,I xp,.slice s2.a s2.n s2.c] 84))):=qa0 wr _;have hXN:(wr.alloc (.cells #[I xc,I xp,.slice s2.a s2.n s2.c] 84)).heap[wr.heap.size]?=some (.cells #[I xc,I xp,.slice s2.a s2.n s2.c] 84):=heap_alloc_new wr _;have hVX:(wr.alloc (.cells #[I xc,I xp,.slice s2.a s2.n s2.c] 84)).heap[w.heap.size]?=some (.cells (qC tb v) 32):=((qa0 wr _).block _ (qan HVW.out)).trans HVW.out;have HB1:Hid (qB W1 wr):=HJ.out.2;have HE5:Hid (v.i.a=some ⟨g5,o5,none⟩):=e5;rw [e5] at c7;rw [HBI.out] at HX;clear hx HJ r2 hg5 HVW hxc hxp how HBI e5;go_upto_region 5 with fail;generalize (wr.alloc (.cells #[I xc,I xp,.slice s2.a s2.n s2.c] 84))=W5 at *;have HXX:Hid (∀W,qB W5 W→W.cell? ⟨wr.heap.size,0,none⟩=some (I xc)∧W.cell? ⟨wr.heap.size,1,none⟩=some (I xp)∧W.cell? ⟨wr.heap.size,2,none⟩=some (.slice s2.a s2.n s2.c)∧W.cell? ⟨w.heap.size,7,none⟩=some (.slice (some ⟨g5,o5,none⟩) v.i.n v.i.c)):=fun W hW=>by
    have h1:=(hW.block _ (qan hXN)).trans hXN;have h2:=(hW.block _ (qan hVX)).trans hVX;obtain ⟨_,_,_,_,_,_,_,e7,_⟩:=qbo h2;rw [HE5.out] at e7;exact ⟨by rw [cell_of_row W _ 0 _ _ (0,0) h1];rfl,by rw [cell_of_row W _ 1 _ _ (0,0) h1];rfl,by rw [cell_of_row W _ 2 _ _ (0,0) h1];rfl,e7⟩
   obtain ⟨x0,x1,x2,_⟩:=HXX.out W5 (Below.refl _ _);have HB5:Hid (qB w W5):=HBW.out.trans (HBX.out.mono HBW.out.size);have HB15:Hid (qB W1 W5):=HB1.out.trans (HBX.out.mono HB1.out.size);clear hXN c7 q0 q1 q2;by_cases g1:xc < 1
   ·have HE:Hid (R=false):=by
     show _=_;rw [HX.out];have:inI xc 1 2=false:=by unfold inI;simp;omega
     rw [this];rfl
    clear HX;go_wp2;go_ret;exact ⟨qa2 (by rw [HE.out]),HB5.out⟩
   by_cases g2:2 < xc
   ·have HE:Hid (R=false):=by
     show _=_;rw [HX.out];have:inI xc 1 2=false:=by unfold inI;simp;omega
     rw [this];rfl
    clear HX;go_wp2;go_ret;exact ⟨qa2 (by rw [HE.out]),HB5.out⟩
   have HG:Hid (inI xc 1 2=true):=by show _=_;unfold inI;simp;omega
   by_cases g3:xp < 64
   ·have HE:Hid (R=false):=by
     show _=_;rw [HX.out];have:inI xp 64 127=false:=by unfold inI;simp;omega
     rw [this];simp
    clear HX;go_wp2;go_ret;exact ⟨qa2 (by rw [HE.out]),HB5.out⟩
   by_cases g4:127 < xp
   ·have HE:Hid (R=false):=by
     show _=_;rw [HX.out];have:inI xp 64 127=false:=by unfold inI;simp;omega
     rw [this];simp
    clear HX;go_wp2;go_ret;exact ⟨qa2 (by rw [HE.out]),HB5.out⟩
   have HG2:Hid (inI xp 64 127=true):=by show _=_;unfold inI;simp;omega
   rw [HG.out,HG2.out] at HX;cases ow with
   | false=>
    have HE:Hid (R=false):=by show _=_;rw [HX.out];simp
    clear HX;go_wp2_with (first | (refine qaf (by kernel_rfl) 32 _ rfl w.heap.size rfl 32 _ (0,0) _ hVX Tryz.underlying32 rfl hi30 ?_;simp only [qN]));refine kO.mono ?_;clear kO;rintro e w6 ⟨rfl,hb6⟩;obtain ⟨z0,z1,z2,z7⟩:=HXX.out w6 hb6;have HB6:Hid (qB W5 w6):=hb6;clear hb6 hVX x0 x1 x2;go_wp2;go_ret;exact ⟨qa2 (by rw [HE.out]),HB5.out.trans (HB6.out.mono HB5.out.size)⟩
   | true=>
    by_cases g5:xc=1∧0 < s2.n
    ·obtain ⟨e1,e2⟩:=g5
     have HE:Hid (R=false):=by
      show _=_;rw [HX.out,e1];have:(s2.n==0)=false:=by simp;omega
      rw [this];rfl
     have e3:(0:Int) < (s2.n:Int):=by omega
     clear HX HXC HG;subst e1;go_wp2_with (first | (refine qaf (by kernel_rfl) 32 _ rfl w.heap.size rfl 32 _ (0,0) _ hVX Tryz.underlying32 rfl hi30 ?_;simp only [qN]));refine kO.mono ?_;clear kO;rintro e w6 ⟨rfl,hb6⟩;obtain ⟨z0,z1,z2,z7⟩:=HXX.out w6 hb6;have HB6:Hid (qB W5 w6):=hb6;clear hb6 hVX x0 x1 x2;go_wp2;go_ret;exact ⟨qa2 (by rw [HE.out]),HB5.out.trans (HB6.out.mono HB5.out.size)⟩
    ·have hcase:xc=2∨(xc=1∧s2.n=0):=by omega
     clear g5;rcases hcase with e1 | ⟨e1,e2⟩
     ·subst e1
      have HXD:Hid (R=((tb.isrs.take j).all (fun a=>qat a x)&&qbs tb (tb.isrs.take (j+1)) (tb.isrs.drop (j+1)))):=by show _=_;rw [HX.out];simp
      clear HX;go_wp2_with (first | (refine qaf (by kernel_rfl) 32 _ rfl w.heap.size rfl 32 _ (0,0) _ hVX Tryz.underlying32 rfl hi30 ?_;simp only [qN]));refine kO.mono ?_;clear kO;rintro e w6 ⟨rfl,hb6⟩;obtain ⟨z0,z1,z2,z7⟩:=HXX.out w6 hb6;have HB6:Hid (qB W5 w6):=hb6;clear hb6 hVX x0 x1 x2;go_wp2;have HNX:Hid (R=((tb.isrs.take j).all (fun a=>qat a x)&&qbs tb (tb.isrs.take (j+1)) (tb.isrs.drop (j+1)))):=HXD.out;clear HXD z0 z1 z2 z7;go_loopw [5] (fun kv wr3=>∃k:Nat,k≤j∧kv=.int .i64 k∧Hid ((tb.isrs.take k).all (fun a=>qat a x)=true∧qB w6 wr3)) (fun kv _=>j - (intOf kv).toNat)
      case atStart=>exact ⟨0,by omega,rfl,rfl,Below.refl _ _⟩
      case round=>
       obtain ⟨k,hk,rfl,HK⟩:=hrel;rename World=>wr3
       have HB53:Hid (qB W5 wr3):=HB6.out.trans (HK.out.2.mono HB6.out.size);by_cases hlk:k < j
       ·have hlk':(k:Int) < j:=by omega
        have hlk2:(k:Int) < v.i.n:=by omega
        obtain ⟨y,hy⟩:∃y,tb.isrs[k]?=some y:=⟨_,List.getElem?_eq_getElem (by rw [←HIn.out];omega)⟩
        obtain ⟨g6,o6,s3,e6,hg6,y0,y1,y2,_⟩:=qdj ((HTW.out.below HBX.out).below HB53.out) hy;have e7:=HE5.out.symm.trans e6;cases e7;obtain ⟨z0,z1,z2,z7⟩:=HXX.out wr3 HB53.out;have HTT:Hid (qat y x=false→R=false):=fun ht=>by
         rw [HNX.out,qci (p:=fun a=>qat a x) (l:=tb.isrs.take j) (j:=k) (x:=y) (by rw [List.getElem?_take,if_pos hlk];exact hy) ht];rfl
        have HAA:Hid (qat y x=true→(tb.isrs.take (k+1)).all (fun a=>qat a x)=true):=fun ht=>by
         rw [qco _ _ k _ hy,HK.out.1];simpa using ht
        obtain ⟨yc,hyc⟩:∃yc,yc=y.cat:=⟨_,rfl⟩
        obtain ⟨yp,hyp⟩:∃yp,yp=y.prio:=⟨_,rfl⟩
        rw [←hyc] at y0;rw [←hyp] at y1;have HYC:Hid (y.cat=yc∧y.prio=yp):=⟨hyc.symm,hyp.symm⟩;have HBY:Hid (qB wr3 (wr3.alloc (.cells #[I yc,I yp,.slice s3.a s3.n s3.c] 84))):=qa0 wr3 _;have HYN:Hid ((wr3.alloc (.cells #[I yc,I yp,.slice s3.a s3.n s3.c] 84)).heap[wr3.heap.size]?=some (.cells #[I yc,I yp,.slice s3.a s3.n s3.c] 84)):=heap_alloc_new wr3 _;have HB67:Hid (qB w6 (wr3.alloc (.cells #[I yc,I yp,.slice s3.a s3.n s3.c] 84))):=HK.out.2.trans ((qa0 wr3 _).mono HK.out.2.size);have HB57:Hid (qB W5 (wr3.alloc (.cells #[I yc,I yp,.slice s3.a s3.n s3.c] 84))):=HB53.out.trans ((qa0 wr3 _).mono HB53.out.size);clear hy e6 hg6 hyc hyp HK;go_upto_region 11 with fail;generalize (wr3.alloc (.cells #[I yc,I yp,.slice s3.a s3.n s3.c] 84))=W7 at *;clear z0 z1 z2 z7 y0 y1 y2;obtain ⟨z0,z1,z2,z7⟩:=HXX.out W7 HB57.out;have y0:W7.cell? ⟨wr3.heap.size,0,none⟩=some (I yc):=by rw [cell_of_row W7 _ 0 _ _ (0,0) HYN.out];rfl
        have y1:W7.cell? ⟨wr3.heap.size,1,none⟩=some (I yp):=by rw [cell_of_row W7 _ 1 _ _ (0,0) HYN.out];rfl
        clear z7 z2;by_cases p0:yp=xp
        ·have p0':(yp==xp)=true:=by simpa using p0
         have HE:Hid (R=false):=HTT.out (by rw [Bool.eq_false_iff];intro h;unfold qat at h;rw [HYC.out.1,HYC.out.2,HXC.out.1,HXC.out.2] at h;simp at h;omega);clear HTT HAA;go_wp2;go_ret;exact ⟨qa2 (by rw [HE.out]),HB5.out.trans (HB57.out.mono HB5.out.size)⟩
        ·have p0':(yp==xp)=false:=by simpa using p0
         by_cases p1:xp < yp
         ·have p2:¬yp < xp:=by omega
          by_cases c1:2 < yc
          ·have c2:¬yc < 2:=by omega
           ·have HE:Hid (R=false):=HTT.out (by rw [Bool.eq_false_iff];intro h;unfold qat at h;rw [HYC.out.1,HYC.out.2,HXC.out.1,HXC.out.2] at h;simp at h;omega)
            clear HTT HAA;go_wp2;go_ret;exact ⟨qa2 (by rw [HE.out]),HB5.out.trans (HB57.out.mono HB5.out.size)⟩
          ·by_cases c2:yc < 2
           ·have HA2:Hid ((tb.isrs.take (k+1)).all (fun a=>qat a x)=true):=HAA.out (by unfold qat;rw [HYC.out.1,HYC.out.2,HXC.out.1,HXC.out.2];simp;omega)
            clear HTT HAA;go_wp2;go_roundw
            case rel=>exact ⟨k+1,by omega,by go_num,HA2.out,HB67.out⟩
            case measure=>simp [intOf];omega
           ·have HA2:Hid ((tb.isrs.take (k+1)).all (fun a=>qat a x)=true):=HAA.out (by unfold qat;rw [HYC.out.1,HYC.out.2,HXC.out.1,HXC.out.2];simp;omega)
            clear HTT HAA;go_wp2;go_roundw
            case rel=>exact ⟨k+1,by omega,by go_num,HA2.out,HB67.out⟩
            case measure=>simp [intOf];omega
         ·have p2:yp < xp:=by omega
          by_cases c1:2 < yc
          ·have c2:¬yc < 2:=by omega
           ·have HA2:Hid ((tb.isrs.take (k+1)).all (fun a=>qat a x)=true):=HAA.out (by unfold qat;rw [HYC.out.1,HYC.out.2,HXC.out.1,HXC.out.2];simp;omega)
            clear HTT HAA;go_wp2;go_roundw
            case rel=>exact ⟨k+1,by omega,by go_num,HA2.out,HB67.out⟩
            case measure=>simp [intOf];omega
          ·by_cases c2:yc < 2
           ·have HE:Hid (R=false):=HTT.out (by rw [Bool.eq_false_iff];intro h;unfold qat at h;rw [HYC.out.1,HYC.out.2,HXC.out.1,HXC.out.2] at h;simp at h;omega)
            clear HTT HAA;go_wp2;go_ret;exact ⟨qa2 (by rw [HE.out]),HB5.out.trans (HB57.out.mono HB5.out.size)⟩
           ·have HA2:Hid ((tb.isrs.take (k+1)).all (fun a=>qat a x)=true):=HAA.out (by unfold qat;rw [HYC.out.1,HYC.out.2,HXC.out.1,HXC.out.2];simp;omega)
            clear HTT HAA;go_wp2;go_roundw
            case rel=>exact ⟨k+1,by omega,by go_num,HA2.out,HB67.out⟩
            case measure=>simp [intOf];omega
       ·obtain rfl:k=j:=by omega
        have hlk':¬((k:Nat):Int) < (k:Nat):=by omega
        have HN:Hid (R=qbs tb (tb.isrs.take (k+1)) (tb.isrs.drop (k+1))):=by show _=_;rw [HNX.out,HK.out.1];rfl
        have HB13:Hid (qB W1 wr3):=HB15.out.trans (HB53.out.mono HB15.out.size);clear HK HNX;go_wp2;go_roundw
        case rel=>exact ⟨k+1,by omega,by go_num,HN.out,HB13.out⟩
        case measure=>simp [intOf];omega
     ·subst e1
      have HXD:Hid (R=((tb.isrs.take j).all (fun a=>qat a x)&&qbs tb (tb.isrs.take (j+1)) (tb.isrs.drop (j+1)))):=by show _=_;rw [HX.out,e2];simp
      have e3:¬(0:Int) < (s2.n:Int):=by omega
      have e4:¬0 < s2.n:=by omega
      clear HX e2;go_wp2_with (first | (refine qaf (by kernel_rfl) 32 _ rfl w.heap.size rfl 32 _ (0,0) _ hVX Tryz.underlying32 rfl hi30 ?_;simp only [qN]));refine kO.mono ?_;clear kO;rintro e w6 ⟨rfl,hb6⟩;obtain ⟨z0,z1,z2,z7⟩:=HXX.out w6 hb6;have HB6:Hid (qB W5 w6):=hb6;clear hb6 hVX x0 x1 x2;go_wp2;have HNX:Hid (R=((tb.isrs.take j).all (fun a=>qat a x)&&qbs tb (tb.isrs.take (j+1)) (tb.isrs.drop (j+1)))):=HXD.out;clear HXD z0 z1 z2 z7;go_loopw [5] (fun kv wr3=>∃k:Nat,k≤j∧kv=.int .i64 k∧Hid ((tb.isrs.take k).all (fun a=>qat a x)=true∧qB w6 wr3)) (fun kv _=>j - (intOf kv).toNat)
      case atStart=>exact ⟨0,by omega,rfl,rfl,Below.refl _ _⟩
      case round=>
       obtain ⟨k,hk,rfl,HK⟩:=hrel;rename World=>wr3
       have HB53:Hid (qB W5 wr3):=HB6.out.trans (HK.out.2.mono HB6.out.size);by_cases hlk:k < j
       ·have hlk':(k:Int) < j:=by omega
        have hlk2:(k:Int) < v.i.n:=by omega
        obtain ⟨y,hy⟩:∃y,tb.isrs[k]?=some y:=⟨_,List.getElem?_eq_getElem (by rw [←HIn.out];omega)⟩
        obtain ⟨g6,o6,s3,e6,hg6,y0,y1,y2,_⟩:=qdj ((HTW.out.below HBX.out).below HB53.out) hy;have e7:=HE5.out.symm.trans e6;cases e7;obtain ⟨z0,z1,z2,z7⟩:=HXX.out wr3 HB53.out;have HTT:Hid (qat y x=false→R=false):=fun ht=>by
         rw [HNX.out,qci (p:=fun a=>qat a x) (l:=tb.isrs.take j) (j:=k) (x:=y) (by rw [List.getElem?_take,if_pos hlk];exact hy) ht];rfl
        have HAA:Hid (qat y x=true→(tb.isrs.take (k+1)).all (fun a=>qat a x)=true):=fun ht=>by
         rw [qco _ _ k _ hy,HK.out.1];simpa using ht
        obtain ⟨yc,hyc⟩:∃yc,yc=y.cat:=⟨_,rfl⟩
        obtain ⟨yp,hyp⟩:∃yp,yp=y.prio:=⟨_,rfl⟩
        rw [←hyc] at y0;rw [←hyp] at y1;have HYC:Hid (y.cat=yc∧y.prio=yp):=⟨hyc.symm,hyp.symm⟩;have HBY:Hid (qB wr3 (wr3.alloc (.cells #[I yc,I yp,.slice s3.a s3.n s3.c] 84))):=qa0 wr3 _;have HYN:Hid ((wr3.alloc (.cells #[I yc,I yp,.slice s3.a s3.n s3.c] 84)).heap[wr3.heap.size]?=some (.cells #[I yc,I yp,.slice s3.a s3.n s3.c] 84)):=heap_alloc_new wr3 _;have HB67:Hid (qB w6 (wr3.alloc (.cells #[I yc,I yp,.slice s3.a s3.n s3.c] 84))):=HK.out.2.trans ((qa0 wr3 _).mono HK.out.2.size);have HB57:Hid (qB W5 (wr3.alloc (.cells #[I yc,I yp,.slice s3.a s3.n s3.c] 84))):=HB53.out.trans ((qa0 wr3 _).mono HB53.out.size);clear hy e6 hg6 hyc hyp HK;go_upto_region 11 with fail;generalize (wr3.alloc (.cells #[I yc,I yp,.slice s3.a s3.n s3.c] 84))=W7 at *;clear z0 z1 z2 z7 y0 y1 y2;obtain ⟨z0,z1,z2,z7⟩:=HXX.out W7 HB57.out;have y0:W7.cell? ⟨wr3.heap.size,0,none⟩=some (I yc):=by rw [cell_of_row W7 _ 0 _ _ (0,0) HYN.out];rfl
        have y1:W7.cell? ⟨wr3.heap.size,1,none⟩=some (I yp):=by rw [cell_of_row W7 _ 1 _ _ (0,0) HYN.out];rfl
        clear z7 z2;by_cases p0:yp=xp
        ·have p0':(yp==xp)=true:=by simpa using p0
         have HE:Hid (R=false):=HTT.out (by rw [Bool.eq_false_iff];intro h;unfold qat at h;rw [HYC.out.1,HYC.out.2,HXC.out.1,HXC.out.2] at h;simp at h;omega);clear HTT HAA;go_wp2;go_ret;exact ⟨qa2 (by rw [HE.out]),HB5.out.trans (HB57.out.mono HB5.out.size)⟩
        ·have p0':(yp==xp)=false:=by simpa using p0
         by_cases p1:xp < yp
         ·have p2:¬yp < xp:=by omega
          by_cases c1:1 < yc
          ·have c2:¬yc < 1:=by omega
           ·have HE:Hid (R=false):=HTT.out (by rw [Bool.eq_false_iff];intro h;unfold qat at h;rw [HYC.out.1,HYC.out.2,HXC.out.1,HXC.out.2] at h;simp at h;omega)
            clear HTT HAA;go_wp2;go_ret;exact ⟨qa2 (by rw [HE.out]),HB5.out.trans (HB57.out.mono HB5.out.size)⟩
          ·by_cases c2:yc < 1
           ·have HA2:Hid ((tb.isrs.take (k+1)).all (fun a=>qat a x)=true):=HAA.out (by unfold qat;rw [HYC.out.1,HYC.out.2,HXC.out.1,HXC.out.2];simp;omega)
            clear HTT HAA;go_wp2;go_roundw
            case rel=>exact ⟨k+1,by omega,by go_num,HA2.out,HB67.out⟩
            case measure=>simp [intOf];omega
           ·have HA2:Hid ((tb.isrs.take (k+1)).all (fun a=>qat a x)=true):=HAA.out (by unfold qat;rw [HYC.out.1,HYC.out.2,HXC.out.1,HXC.out.2];simp;omega)
            clear HTT HAA;go_wp2;go_roundw
            case rel=>exact ⟨k+1,by omega,by go_num,HA2.out,HB67.out⟩
            case measure=>simp [intOf];omega
         ·have p2:yp < xp:=by omega
          by_cases c1:1 < yc
          ·have c2:¬yc < 1:=by omega
           ·have HA2:Hid ((tb.isrs.take (k+1)).all (fun a=>qat a x)=true):=HAA.out (by unfold qat;rw [HYC.out.1,HYC.out.2,HXC.out.1,HXC.out.2];simp;omega)
            clear HTT HAA;go_wp2;go_roundw
            case rel=>exact ⟨k+1,by omega,by go_num,HA2.out,HB67.out⟩
            case measure=>simp [intOf];omega
          ·by_cases c2:yc < 1
           ·have HE:Hid (R=false):=HTT.out (by rw [Bool.eq_false_iff];intro h;unfold qat at h;rw [HYC.out.1,HYC.out.2,HXC.out.1,HXC.out.2] at h;simp at h;omega)
            clear HTT HAA;go_wp2;go_ret;exact ⟨qa2 (by rw [HE.out]),HB5.out.trans (HB57.out.mono HB5.out.size)⟩
           ·have HA2:Hid ((tb.isrs.take (k+1)).all (fun a=>qat a x)=true):=HAA.out (by unfold qat;rw [HYC.out.1,HYC.out.2,HXC.out.1,HXC.out.2];simp;omega)
            clear HTT HAA;go_wp2;go_roundw
            case rel=>exact ⟨k+1,by omega,by go_num,HA2.out,HB67.out⟩
            case measure=>simp [intOf];omega
       ·obtain rfl:k=j:=by omega
        have hlk':¬((k:Nat):Int) < (k:Nat):=by omega
        have HN:Hid (R=qbs tb (tb.isrs.take (k+1)) (tb.isrs.drop (k+1))):=by show _=_;rw [HNX.out,HK.out.1];rfl
        have HB13:Hid (qB W1 wr3):=HB15.out.trans (HB53.out.mono HB15.out.size);clear HK HNX;go_wp2;go_roundw
        case rel=>exact ⟨k+1,by omega,by go_num,HN.out,HB13.out⟩
        case measure=>simp [intOf];omega
  ·obtain rfl:j=v.i.n:=by omega
   have hlt':¬((v.i.n:Nat):Int) < (v.i.n:Nat):=by omega
   have HE:Hid (R=true):=by
    have h9:=HJ.out.1;rw [HIn.out,List.drop_length,qbs] at h9;exact h9
   clear HJ HVW HTW;go_wp2;go_ret;exact ⟨qa2 (by rw [HE.out]),HBW.out⟩
end Go.Proofs.YtijgopkhdjaolabGreat
