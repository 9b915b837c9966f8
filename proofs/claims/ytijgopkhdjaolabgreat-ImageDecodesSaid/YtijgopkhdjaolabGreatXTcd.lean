import Derived.Test.YtijgopkhdjaolabGreatXTbm
import Derived.Deep.Cut
set_option linter.unusedSimpArgs false
set_option linter.unusedVariables false
set_option maxHeartbeats 16000000
set_option maxRecDepth 100000
namespace Go.Proofs.YtijgopkhdjaolabGreat
open Go.RowKit
theorem qa2 {a b:Bool} (h:a=b):Ending.returned (.bool a)=Ending.returned (.bool b):=by rw [h]
theorem qca (v lo hi:Int) (w:World):Calls Tryz.prog 117 #[I v,I lo,I hi] w fun e w'=>e=.returned (.bool (inI v lo hi))∧w'=w:=by
 unfold inI;go_enter Tryz.func117,Tryz.ntmps117
 by_cases h1:lo≤v
 ·by_cases h2:v≤hi
  ·go_wp2
   go_ret;exact ⟨qa2 (by first | (rw [Bool.eq_iff_iff];simp;omega) | (simp;omega) | (simp_all;done)),rfl⟩
  ·have h2':hi < v:=by omega
   go_wp2;go_ret;exact ⟨qa2 (by first | (rw [Bool.eq_iff_iff];simp;omega) | (simp;omega) | (simp_all;done)),rfl⟩
 ·have h1':v < lo:=by omega
  go_wp2;go_ret;exact ⟨qa2 (by first | (rw [Bool.eq_iff_iff];simp;omega) | (simp;omega) | (simp_all;done)),rfl⟩
theorem qk1 (v lo hi:Int) (w:World):Calls Tryz.prog 174 #[I v,I lo,I hi] w fun e w'=>e=.returned (.bool (inI v lo hi))∧w'=w:=by
 unfold inI;go_enter Tryz.func174,Tryz.ntmps174
 by_cases h1:lo≤v
 ·by_cases h2:v≤hi
  ·go_wp2
   go_ret;exact ⟨qa2 (by first | (rw [Bool.eq_iff_iff];simp;omega) | (simp;omega) | (simp_all;done)),rfl⟩
  ·have h2':hi < v:=by omega
   go_wp2;go_ret;exact ⟨qa2 (by first | (rw [Bool.eq_iff_iff];simp;omega) | (simp;omega) | (simp_all;done)),rfl⟩
 ·have h1':v < lo:=by omega
  go_wp2;go_ret;exact ⟨qa2 (by first | (rw [Bool.eq_iff_iff];simp;omega) | (simp;omega) | (simp_all;done)),rfl⟩
theorem qdk (v lo hi:Nat) (w:World):Calls Tryz.prog 130 #[.int .u32 (v:Int),.int .u32 (lo:Int),.int .u32 (hi:Int)] w fun e w'=>e=.returned (.bool (decide (lo≤v)&&decide (v≤hi)))∧w'=w:=by
 go_enter Tryz.func130,Tryz.ntmps130
 by_cases h1:lo≤v
 ·have g1:(lo:Int)≤v:=by omega
  by_cases h2:v≤hi
  ·have g2:(v:Int)≤hi:=by omega
   go_wp2;go_ret;exact ⟨qa2 (by first | (rw [Bool.eq_iff_iff];simp;omega) | (simp;omega) | (simp_all;done)),rfl⟩
  ·have g2:¬(v:Int)≤hi:=by omega
   go_wp2;go_ret;exact ⟨qa2 (by first | (rw [Bool.eq_iff_iff];simp;omega) | (simp;omega) | (simp_all;done)),rfl⟩
 ·have g1:¬(lo:Int)≤v:=by omega
  go_wp2;go_ret;exact ⟨qa2 (by first | (rw [Bool.eq_iff_iff];simp;omega) | (simp;omega) | (simp_all;done)),rfl⟩
theorem qld (v:Int) (s:Sl) (w:World):Calls Tryz.prog 124 #[I v,.slice s.a s.n s.c] w fun e w'=>e=.returned (.bool (idB v s.n))∧w'=w:=by
 unfold idB;go_enter Tryz.func124,Tryz.ntmps124
 by_cases h1:0≤v
 ·by_cases h2:v < (s.n:Int)
  ·go_wp2
   go_ret;exact ⟨qa2 (by first | (rw [Bool.eq_iff_iff];simp;omega) | (simp;omega) | (simp_all;done)),rfl⟩
  ·go_wp2
   go_ret;exact ⟨qa2 (by first | (rw [Bool.eq_iff_iff];simp;omega) | (simp;omega) | (simp_all;done)),rfl⟩
 ·have h1':v < 0:=by omega
  go_wp2;go_ret;exact ⟨qa2 (by first | (rw [Bool.eq_iff_iff];simp;omega) | (simp;omega) | (simp_all;done)),rfl⟩
theorem qmm (v:Int) (s:Sl) (w:World):Calls Tryz.prog 133 #[I v,.slice s.a s.n s.c] w fun e w'=>e=.returned (.bool (idB v s.n))∧w'=w:=by
 unfold idB;go_enter Tryz.func133,Tryz.ntmps133
 by_cases h1:0≤v
 ·by_cases h2:v < (s.n:Int)
  ·go_wp2
   go_ret;exact ⟨qa2 (by first | (rw [Bool.eq_iff_iff];simp;omega) | (simp;omega) | (simp_all;done)),rfl⟩
  ·go_wp2
   go_ret;exact ⟨qa2 (by first | (rw [Bool.eq_iff_iff];simp;omega) | (simp;omega) | (simp_all;done)),rfl⟩
 ·have h1':v < 0:=by omega
  go_wp2;go_ret;exact ⟨qa2 (by first | (rw [Bool.eq_iff_iff];simp;omega) | (simp;omega) | (simp_all;done)),rfl⟩
theorem qmn (v:Int) (s:Sl) (w:World):Calls Tryz.prog 173 #[I v,.slice s.a s.n s.c] w fun e w'=>e=.returned (.bool (idB v s.n))∧w'=w:=by
 unfold idB;go_enter Tryz.func173,Tryz.ntmps173
 by_cases h1:0≤v
 ·by_cases h2:v < (s.n:Int)
  ·go_wp2
   go_ret;exact ⟨qa2 (by first | (rw [Bool.eq_iff_iff];simp;omega) | (simp;omega) | (simp_all;done)),rfl⟩
  ·go_wp2
   go_ret;exact ⟨qa2 (by first | (rw [Bool.eq_iff_iff];simp;omega) | (simp;omega) | (simp_all;done)),rfl⟩
 ·have h1':v < 0:=by omega
  go_wp2;go_ret;exact ⟨qa2 (by first | (rw [Bool.eq_iff_iff];simp;omega) | (simp;omega) | (simp_all;done)),rfl⟩
theorem qle (v:Int) (s:Sl) (w:World):Calls Tryz.prog 175 #[I v,.slice s.a s.n s.c] w fun e w'=>e=.returned (.bool (idB v s.n))∧w'=w:=by
 unfold idB;go_enter Tryz.func175,Tryz.ntmps175
 by_cases h1:0≤v
 ·by_cases h2:v < (s.n:Int)
  ·go_wp2
   go_ret;exact ⟨qa2 (by first | (rw [Bool.eq_iff_iff];simp;omega) | (simp;omega) | (simp_all;done)),rfl⟩
  ·go_wp2
   go_ret;exact ⟨qa2 (by first | (rw [Bool.eq_iff_iff];simp;omega) | (simp;omega) | (simp_all;done)),rfl⟩
 ·have h1':v < 0:=by omega
  go_wp2;go_ret;exact ⟨qa2 (by first | (rw [Bool.eq_iff_iff];simp;omega) | (simp;omega) | (simp_all;done)),rfl⟩
theorem qmo (v:Int) (s:Sl) (w:World):Calls Tryz.prog 177 #[I v,.slice s.a s.n s.c] w fun e w'=>e=.returned (.bool (idB v s.n))∧w'=w:=by
 unfold idB;go_enter Tryz.func177,Tryz.ntmps177
 by_cases h1:0≤v
 ·by_cases h2:v < (s.n:Int)
  ·go_wp2
   go_ret;exact ⟨qa2 (by first | (rw [Bool.eq_iff_iff];simp;omega) | (simp;omega) | (simp_all;done)),rfl⟩
  ·go_wp2
   go_ret;exact ⟨qa2 (by first | (rw [Bool.eq_iff_iff];simp;omega) | (simp;omega) | (simp_all;done)),rfl⟩
 ·have h1':v < 0:=by omega
  go_wp2;go_ret;exact ⟨qa2 (by first | (rw [Bool.eq_iff_iff];simp;omega) | (simp;omega) | (simp_all;done)),rfl⟩
def tkrC (x:TkR) (s:Sl):Array Value:=#[I x.prio,I x.ring,.bool x.full,I x.limit,.int .u32 (x.mask:Int),I x.inner,.slice s.a s.n s.c,.int .u32 (x.auto:Int)]
def ctrC (x:CtR):Array Value:=#[.int .u32 (x.max:Int),.int .u32 (x.base:Int),.int .u32 (x.min:Int)]
def acrC (x:AcR):Array Value:=#[I x.kind,I x.task,.int .u32 (x.mask:Int)]
def alrC (x:AlR):Array Value:=#[I x.ctr,I x.ac.kind,I x.ac.task,.int .u32 (x.ac.mask:Int),.int .u32 (x.auto:Int),.int .u32 (x.time:Int),.int .u32 (x.cycle:Int)]
def isrC (x:IsR) (s:Sl):Array Value:=#[I x.cat,I x.prio,.slice s.a s.n s.c]
def msrC (x:MsR):Array Value:=#[I x.kind,I x.len,I x.frm,.int .u64 (x.init:Int),I x.queue,I x.ac.kind,I x.ac.task,.int .u32 (x.ac.mask:Int)]
theorem qii (x:TkR) (s:Sl) (w:World):Calls Tryz.prog 125 #[.agg (tkrC x s)] w fun e w'=>e=.returned (.bool (qea x))∧qB w w':=by
 have hb:∀o,qB w (w.alloc o):=fun o=>qa0 w o
 unfold tkrC at *;have k1:=qca x.limit 1 255;unfold qea;go_enter Tryz.func125,Tryz.ntmps125
 by_cases h0:x.mask=0
 ·have h0':((x.mask:Int) != 0)=false:=by simp [h0]
  have H0:Hid (x.mask=0):=h0;clear h0;go_wp2_with (go_at_call 117;refine (k1 _).mono ?_;rintro e w' ⟨rfl,rfl⟩);go_ret;exact ⟨qa2 (by simp [H0.out]),hb _⟩
 ·have h0':((x.mask:Int) != 0)=true:=by simpa using h0
  have H0:Hid (¬x.mask=0):=h0;clear h0;go_wp2;go_ret;exact ⟨qa2 (by simp [H0.out]),hb _⟩
theorem qfw (tb:Tb) (v:Ts) (a:Nat) (ha:a < 4294967296) (hm:1≤tb.modes∧tb.modes≤8) (w:World):Calls Tryz.prog 127 #[.agg (tbC tb v),.int .u32 (a:Int)] w fun e w'=>e=.returned (.bool (qcv tb a))∧qB w w':=by
 have hb:∀o,qB w (w.alloc o):=fun o=>qa0 w o
 unfold tbC at *;unfold qcv;generalize tb.modes=m at *;have:m=1∨m=2∨m=3∨m=4∨m=5∨m=6∨m=7∨m=8:=by omega
 go_enter Tryz.func127,Tryz.ntmps127
 rcases this with rfl | rfl | rfl | rfl | rfl | rfl | rfl | rfl
 all_goals
  go_wp2;go_ret;exact ⟨qa2 (by rw [Bool.eq_iff_iff];simp;omega),hb _⟩
theorem qj4 (x y:IsR) (s t:Sl) (w:World):Calls Tryz.prog 139 #[.agg (isrC x s),.agg (isrC y t)] w fun e w'=>e=.returned (.bool (qat x y))∧qB w w':=by
 have hb:∀o p,qB w ((w.alloc o).alloc p):=fun o p=>((Below.refl w.heap.size w).alloc (Nat.le_refl _) o).alloc (by simp) p
 unfold isrC at *;unfold qat;generalize x.prio=a at *;generalize y.prio=b at *;generalize x.cat=c at *;generalize y.cat=d at *;obtain ⟨R,hR⟩:∃R,R=((a != b)&&(c==d || (decide (c < d)==decide (b < a)))):=⟨_,rfl⟩
 rw [←hR];have HR:Hid (R=((a != b)&&(c==d || (decide (c < d)==decide (b < a))))):=hR;clear hR;go_enter Tryz.func139,Tryz.ntmps139
 cases h1:(a != b)
 ·go_wp2
  go_ret;exact ⟨qa2 (by rw [HR.out,h1];rfl),hb _ _⟩
 ·cases h2:(c==d)
  ·go_wp2
   go_ret;exact ⟨qa2 (by rw [HR.out,h1,h2];simp),hb _ _⟩
  ·go_wp2
   go_ret;exact ⟨qa2 (by rw [HR.out,h1,h2];rfl),hb _ _⟩
theorem qj5 (x:AlR) (k:CtR) (w:World):Calls Tryz.prog 135 #[.agg (alrC x),.agg (ctrC k)] w fun e w'=>e=.returned (.bool (qep x k))∧qB w w':=by
 have hb:∀o p,qB w ((w.alloc o).alloc p):=fun o p=>((Below.refl w.heap.size w).alloc (Nat.le_refl _) o).alloc (by simp) p
 have k1:=qdk x.time 1 k.max;have k2:=qdk x.cycle k.min k.max;unfold alrC ctrC at *;unfold qep;go_enter Tryz.func135,Tryz.ntmps135
 by_cases h0:x.auto=0
 ·have h0':((x.auto:Int)==0)=true:=by simp [h0]
  rw [if_pos h0];clear h0;by_cases h1:x.time=0
  ·have h1':((x.time:Int)==0)=true:=by simp [h1]
   have H1:Hid (x.time=0):=h1;clear h1;go_wp2;go_ret;exact ⟨qa2 (by rw [Bool.eq_iff_iff];simp [H1.out]),hb _ _⟩
  ·have h1':((x.time:Int)==0)=false:=by simpa using h1
   have H1:Hid (¬x.time=0):=h1;clear h1;go_wp2;go_ret;exact ⟨qa2 (by rw [Bool.eq_iff_iff];simp [H1.out]),hb _ _⟩
 ·have h0':((x.auto:Int)==0)=false:=by simpa using h0
  rw [if_neg h0];clear h0;have e1:(decide (1≤x.time∧x.time≤k.max))=(decide (1≤x.time)&&decide (x.time≤k.max)):=by rw [Bool.eq_iff_iff];simp
  have e2:(decide (k.min≤x.cycle∧x.cycle≤k.max))=(decide (k.min≤x.cycle)&&decide (x.cycle≤k.max)):=by rw [Bool.eq_iff_iff];simp
  rw [e1,e2];clear e1 e2;generalize (decide (1≤x.time)&&decide (x.time≤k.max))=b1 at *;generalize (decide (k.min≤x.cycle)&&decide (x.cycle≤k.max))=b2 at *;by_cases h2:x.cycle=0
  ·have h2':((x.cycle:Int)==0)=true:=by simp [h2]
   have H2:Hid (x.cycle=0):=h2;clear h2;cases b1;all_goals
    go_wp2_with (first | (go_at_call 130;refine (k1 _).mono ?_;clear k1;rintro e w' ⟨rfl,rfl⟩) | (go_at_call 130;refine (k2 _).mono ?_;clear k2;rintro e w' ⟨rfl,rfl⟩));go_ret;exact ⟨qa2 (by simp [H2.out]),hb _ _⟩
  ·have h2':((x.cycle:Int)==0)=false:=by simpa using h2
   have H2:Hid (¬x.cycle=0):=h2;clear h2;cases b1;all_goals
    go_wp2_with (first | (go_at_call 130;refine (k1 _).mono ?_;clear k1;rintro e w' ⟨rfl,rfl⟩) | (go_at_call 130;refine (k2 _).mono ?_;clear k2;rintro e w' ⟨rfl,rfl⟩));go_ret;exact ⟨qa2 (by simp [H2.out]),hb _ _⟩
theorem qe2 {w:World} {s:Sl} {l:List Int} (h:RowsAt w 1 intP s l) {j:Nat} {x:Int} (hj:l[j]?=some x):∃g off,s.a=some ⟨g,off,none⟩∧g < w.heap.size∧w.cell? ⟨g,off+j,none⟩=some (I x):=by
 obtain ⟨g,off,e,hg,hr⟩:=h.row j x hj;obtain ⟨u,h1,h2⟩:=hr 0 (by omega);refine ⟨g,off,e,hg,?_⟩;rw [show off+j * 1+0=off+j by omega] at h1;rw [h1,h2]
theorem qij (tb:Tb) (v:Ts) (w:World) (h:TbAt w tb v):Calls Tryz.prog 53 #[.agg (tbC tb v)] w fun e w'=>e=.returned (.bool (qby tb))∧qB w w':=by
 have hb:∀o,qB w (w.alloc o):=fun o=>qa0 w o
 obtain ⟨R,hR⟩:∃R,R=qby tb:=⟨_,rfl⟩
 rw [←hR];have HR:Hid (R=(inI tb.uses 0 255&&inI tb.modes 1 8&&inI v.t.n 1 256&&decide (v.r.n≤65∧v.k.n≤16∧v.a.n≤64∧v.i.n≤32∧v.s.n≤64))):=by
  show R=_;rw [hR,h.t.n,h.r.n,h.k.n,h.a.n,h.i.n,h.s.n];rfl
 clear hR h;have k1:=qca tb.uses 0 255;have k2:=qca tb.modes 1 8;have k3:=qca v.t.n 1 256;unfold tbC;generalize inI tb.uses 0 255=b1 at *;generalize inI tb.modes 1 8=b2 at *;generalize inI (v.t.n:Int) 1 256=b3 at *;go_enter Tryz.func53,Tryz.ntmps53
 cases b1
 ·go_wp2_with (first | (go_at_call 117;refine (k1 _).mono ?_;clear k1;rintro e w' ⟨rfl,rfl⟩))
  go_ret;exact ⟨qa2 (by rw [HR.out];simp),hb _⟩
 ·cases b2
  ·go_wp2_with (first | (go_at_call 117;refine (k1 _).mono ?_;clear k1;rintro e w' ⟨rfl,rfl⟩) | (go_at_call 117;refine (k2 _).mono ?_;clear k2;rintro e w' ⟨rfl,rfl⟩))
   go_ret;exact ⟨qa2 (by rw [HR.out];simp),hb _⟩
  ·cases b3
   ·go_wp2_with (first | (go_at_call 117;refine (k1 _).mono ?_;clear k1;rintro e w' ⟨rfl,rfl⟩) | (go_at_call 117;refine (k2 _).mono ?_;clear k2;rintro e w' ⟨rfl,rfl⟩) | (go_at_call 117;refine (k3 _).mono ?_;clear k3;rintro e w' ⟨rfl,rfl⟩))
    go_ret;exact ⟨qa2 (by rw [HR.out];simp),hb _⟩
   ·by_cases g1:(v.r.n:Int)≤65
    ·by_cases g2:(v.k.n:Int)≤16
     ·by_cases g3:(v.a.n:Int)≤64
      ·by_cases g4:(v.i.n:Int)≤32
       ·go_wp2_with (first | (go_at_call 117;refine (k1 _).mono ?_;clear k1;rintro e w' ⟨rfl,rfl⟩) | (go_at_call 117;refine (k2 _).mono ?_;clear k2;rintro e w' ⟨rfl,rfl⟩) | (go_at_call 117;refine (k3 _).mono ?_;clear k3;rintro e w' ⟨rfl,rfl⟩))
        go_ret;exact ⟨qa2 (by rw [HR.out,Bool.eq_iff_iff];simp;omega),hb _⟩
       ·go_wp2_with (first | (go_at_call 117;refine (k1 _).mono ?_;clear k1;rintro e w' ⟨rfl,rfl⟩) | (go_at_call 117;refine (k2 _).mono ?_;clear k2;rintro e w' ⟨rfl,rfl⟩) | (go_at_call 117;refine (k3 _).mono ?_;clear k3;rintro e w' ⟨rfl,rfl⟩))
        go_ret;exact ⟨qa2 (by rw [HR.out,Bool.eq_iff_iff];simp;omega),hb _⟩
      ·go_wp2_with (first | (go_at_call 117;refine (k1 _).mono ?_;clear k1;rintro e w' ⟨rfl,rfl⟩) | (go_at_call 117;refine (k2 _).mono ?_;clear k2;rintro e w' ⟨rfl,rfl⟩) | (go_at_call 117;refine (k3 _).mono ?_;clear k3;rintro e w' ⟨rfl,rfl⟩))
       go_ret;exact ⟨qa2 (by rw [HR.out,Bool.eq_iff_iff];simp;omega),hb _⟩
     ·go_wp2_with (first | (go_at_call 117;refine (k1 _).mono ?_;clear k1;rintro e w' ⟨rfl,rfl⟩) | (go_at_call 117;refine (k2 _).mono ?_;clear k2;rintro e w' ⟨rfl,rfl⟩) | (go_at_call 117;refine (k3 _).mono ?_;clear k3;rintro e w' ⟨rfl,rfl⟩))
      go_ret;exact ⟨qa2 (by rw [HR.out,Bool.eq_iff_iff];simp;omega),hb _⟩
    ·go_wp2_with (first | (go_at_call 117;refine (k1 _).mono ?_;clear k1;rintro e w' ⟨rfl,rfl⟩) | (go_at_call 117;refine (k2 _).mono ?_;clear k2;rintro e w' ⟨rfl,rfl⟩) | (go_at_call 117;refine (k3 _).mono ?_;clear k3;rintro e w' ⟨rfl,rfl⟩))
     go_ret;exact ⟨qa2 (by rw [HR.out,Bool.eq_iff_iff];simp;omega),hb _⟩
theorem qcu {α:Type} {l:List α} {j:Nat} {x:α} (h:l[j]?=some x):l.drop j=x :: l.drop (j+1):=by
 obtain ⟨hj,rfl⟩:=List.getElem?_eq_some_iff.1 h;exact List.drop_eq_getElem_cons hj
theorem qge (tb:Tb) (v:Ts) (w:World) (h:TbAt w tb v) (s:Sl) (l:List Int) (hl:RowsAt w 1 intP s l) (prio:Int):Calls Tryz.prog 126 #[.agg (tbC tb v),.slice s.a s.n s.c,I prio] w fun e w'=>e=.returned (.bool (ownG tb prio (-1) l))∧qB w w':=by
 have hV:=heap_alloc_new w (.cells (tbC tb v) 32);have HB:Hid (qB w (w.alloc (.cells (tbC tb v) 32))):=qa0 w _;have HT:Hid (TbAt (w.alloc (.cells (tbC tb v) 32)) tb v):=h.below HB.out;have HL:Hid (RowsAt (w.alloc (.cells (tbC tb v) 32)) 1 intP s l):=hl.below HB.out (fun _ _ _ _ h=>h);obtain ⟨c0,c1,c2,c3,c4,c5,c6,c7,c8,c9,c10,c11,c12⟩:=qbo hV;have HS:Hid (s.n=l.length):=hl.n;have hsc:s.n≤s.c:=hl.c;have hsm:s.c≤maxLen:=hl.m;have HRn:Hid (v.r.n=tb.ress.length):=h.r.n;have hrc:v.r.n≤v.r.c:=h.r.c;have hrm:v.r.c≤maxLen:=h.r.m;unfold maxLen at hsm hrm;have kid:=fun x=>qmn x v.r
 obtain ⟨R,hR⟩:∃R,R=ownG tb prio (-1) l:=⟨_,rfl⟩
 rw [←hR];have HR:Hid (R=ownG tb prio (-1) (l.drop 0)):=hR;clear hR h hl hV c0 c1 c2 c3 c5 c6 c7 c8 c9 c10 c11 c12;unfold tbC at *;go_enter Tryz.func126,Tryz.ntmps126
 generalize hW:w.alloc (.cells (qC tb v) 32)=W1 at *;go_upto_region 1 with fail;clear hW;go_wp2;go_loopw [7,9,12] (fun av _ iv wr=>∃(j:Nat) (a:Int),j≤s.n∧iv=.int .i64 j∧av=I a∧wr=W1∧Hid (R=ownG tb prio a (l.drop j))) (fun _ _ iv _=>s.n - (intOf iv).toNat)
 case atStart=>exact ⟨0,-1,by omega,rfl,rfl,rfl,HR.out⟩
 case round=>
  clear HR;obtain ⟨j,a,hj,rfl,rfl,rfl,HJ⟩:=hrel;by_cases hlt:j < s.n
  ·have hlt':(j:Int) < s.n:=by omega
   obtain ⟨x,hx⟩:∃x,l[j]?=some x:=⟨_,List.getElem?_eq_getElem (by rw [←HS.out];exact hlt)⟩
   obtain ⟨g5,o5,e5,hg5,b5⟩:=qe2 HL.out hx;have HX:Hid (R=(decide (a < x)&&idB x tb.ress.length&&qfd tb prio x&&ownG tb prio x (l.drop (j+1)))):=by
    have h9:=HJ.out;rw [qcu hx,ownG] at h9;exact h9
   rw [e5];clear hx e5 HJ;by_cases g1:x≤a
   ·go_wp2
    go_ret;exact ⟨qa2 (by rw [HX.out];have:¬a < x:=(by omega);simp [this]),HB.out⟩
   ·have g1':a < x:=by omega
    have kx:=kid x wr;cases hid:idB x v.r.n with
    | false=>
     rw [hid] at kx;go_wp2_with (go_at_call 173;refine kx.mono ?_;clear kx;rintro e w' ⟨rfl,rfl⟩);go_ret;exact ⟨qa2 (by rw [HX.out,←HRn.out,hid];simp),HB.out⟩
    | true=>
     rw [hid] at kx;have hid2:0≤x∧x < (v.r.n:Int):=by unfold idB at hid;simpa using hid
     obtain ⟨k,rfl⟩:=Int.eq_ofNat_of_zero_le hid2.1;obtain ⟨r,hr⟩:∃r,tb.ress[k]?=some r:=⟨_,List.getElem?_eq_getElem (by rw [←HRn.out];omega)⟩
     obtain ⟨gr,orr,er,hgr,y0,y1⟩:=qgv HT.out hr;have HQ:Hid (qfd tb prio (k:Int)=(!r.inner&&decide (prio≤r.ceil))):=by
      show _=_;unfold qfd;rw [Int.toNat_natCast,hr]
     have hk1:(k:Int) < v.r.n:=hid2.2;have HI:Hid (idB (k:Int) tb.ress.length=true):=by rw [←HRn.out];exact hid
     rw [er] at c4;rw [er] at kx;clear hr er hid hid2;generalize r.inner=ri at *;generalize r.ceil=rc at *;cases ri with
     | true=>
      go_wp2_with (go_at_call 173;refine kx.mono ?_;clear kx;rintro e w' ⟨rfl,rfl⟩);go_ret;exact ⟨qa2 (by rw [HX.out,HQ.out];simp),HB.out⟩
     | false=>
      by_cases g2:rc < prio
      ·go_wp2_with (go_at_call 173;refine kx.mono ?_;clear kx;rintro e w' ⟨rfl,rfl⟩)
       go_ret;exact ⟨qa2 (by rw [HX.out,HQ.out];have:¬prio≤rc:=(by omega);simp [this]),HB.out⟩
      ·have g2':prio≤rc:=by omega
       have HN:Hid (R=ownG tb prio (k:Int) (l.drop (j+1))):=by
        have h9:=HX.out;rw [HQ.out,HI.out] at h9;show R=_;simpa [g1',g2'] using h9
       go_wp2_with (go_at_call 173;refine kx.mono ?_;clear kx;rintro e w' ⟨rfl,rfl⟩);go_roundw
       case rel=>exact ⟨j+1,(k:Int),by omega,by go_num,rfl,trivial,HN.out⟩
       case measure=>simp [intOf];omega
  ·obtain rfl:j=s.n:=by omega
   have hlt':¬((s.n:Nat):Int) < (s.n:Nat):=by omega
   have HE:Hid (R=true):=by
    have h9:=HJ.out;rw [HS.out,List.drop_length,ownG] at h9;exact h9
   clear HJ;go_wp2;go_ret;exact ⟨qa2 (by rw [HE.out]),HB.out⟩
end Go.Proofs.YtijgopkhdjaolabGreat
