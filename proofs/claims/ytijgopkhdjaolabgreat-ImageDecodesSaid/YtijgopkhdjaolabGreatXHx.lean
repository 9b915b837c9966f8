import Derived.Test.YtijgopkhdjaolabGreatXHy1
import Derived.Deep.RegionHeldLaw
import Derived.Deep.DrawnRows
import Derived.Lib.SlBytesConst
set_option linter.unusedSimpArgs false
set_option linter.unusedVariables false
set_option maxHeartbeats 16000000
set_option maxRecDepth 100000
namespace Go.Proofs.YtijgopkhdjaolabGreat
open Go.RowKit Go.Shelf Go.Sort
open Go.Proofs.YtijgopkhdjaolabGreat.Ob (leB leV qa8 qag crc Rd RdAll qa7)
theorem belA {a W:World} {o:Obj} (h:qB a W):qB a (W.alloc o):=h.alloc h.size o
theorem belT {a W w':World} (h:qB a W) (k:qB W w'):qB a w':=h.trans (k.mono h.size)
theorem qc9 {a W w':World} {u:Value} {l:List UInt8} (h:qB a W) (o:OwB W w' u l):OwB a w' u l:=⟨qbk o.1 h.size,belT h o.2⟩
theorem okC1 {v:Int} (h:b8 v):okC (v,1):=⟨Nat.le_refl _,by show 1≤8;omega,by show v.toNat < 256 ^ 1;have:=h.1;have:=h.2;omega,h.1,by show v < _;have:=h.2;omega⟩
theorem okC2 {v:Int} (h:b16 v):okC (v,2):=⟨by show 1≤2;omega,by show 2≤8;omega,by show v.toNat < 256 ^ 2;have:=h.1;have:=h.2;omega,h.1,by show v < _;have:=h.2;omega⟩
theorem qpn {v:Nat} (h:v < 256 ^ 1):okC ((v:Int),1):=⟨Nat.le_refl _,by show 1≤8;omega,by show (v:Int).toNat < 256 ^ 1;rw [Int.toNat_natCast];exact h,by show (0:Int)≤v;omega,by show (v:Int) < _;omega⟩
theorem okC4 {v:Nat} (h:v < 256 ^ 4):okC ((v:Int),4):=⟨by show 1≤4;omega,by show 4≤8;omega,by show (v:Int).toNat < 256 ^ 4;rw [Int.toNat_natCast];exact h,by show (0:Int)≤v;omega,by show (v:Int) < _;rw [show (256:Nat) ^ 4=4294967296 from rfl] at h;omega⟩
theorem okC8 {v:Nat} (h:v < 256 ^ 8):okC ((v:Int),8):=⟨by show 1≤8;omega,by show 8≤8;omega,by show (v:Int).toNat < 256 ^ 8;rw [Int.toNat_natCast];exact h,by show (0:Int)≤v;omega,by show (v:Int) < _;rw [show (256:Nat) ^ 8=18446744073709551616 from rfl] at h;omega⟩
theorem okCF (b:Bool):okC (flI b,1):=by cases b <;> exact okC1 ⟨by decide,by decide⟩
theorem n4 {v:Nat} (h:v < 256 ^ 4):(0:Int)≤v∧(v:Int) < 9223372036854775808:=by rw [show (256:Nat) ^ 4=4294967296 from rfl] at h;omega
theorem n1 {v:Nat} (h:v < 256 ^ 1):(0:Int)≤v∧(v:Int) < 9223372036854775808:=by rw [show (256:Nat) ^ 1=256 from rfl] at h;omega
theorem i1 {v:Int} (h:b8 v):(0:Int)≤v∧v < 9223372036854775808:=by have:=h.1;have:=h.2;omega
theorem i2 {v:Int} (h:b16 v):(0:Int)≤v∧v < 9223372036854775808:=by have:=h.1;have:=h.2;omega
theorem qh9 (w:World) (a:AcR) (h:okAc a):Calls Tryz.prog 157 #[.agg #[I a.kind,I a.task,.int .u32 (a.mask:Int)]] w fun e w'=>∃u,e=.returned u∧OwB w w' u (eAc a):=by
 have hO0:=fun W=>qrg W a.kind (i1 h.1).1 (i1 h.1).2
 have hO1:=fun W=>qbq W a.task (i1 h.2.1).1 (i1 h.2.1).2
 have hO2:=fun W=>qdo W (a.mask:Int) (n4 h.2.2).1 (n4 h.2.2).2
 have HE:Hid (putB [(a.kind,1),(a.task,1),((a.mask:Int),4)]=eAc a):=by show _=_;simp [putB,eAc,e1]
 have HO:Hid (∀y∈[(a.kind,1),(a.task,1),((a.mask:Int),4)],okC y):=by
  intro y hx;simp only [List.mem_cons,List.not_mem_nil,or_false] at hx;rcases hx with rfl | rfl | rfl
  ·exact okC1 h.1
  ·exact okC1 h.2.1
  ·exact okC4 h.2.2
 have hb:=qa0 w (.cells #[I a.kind,I a.task,.int .u32 (a.mask:Int)] 80);have hV:=heap_alloc_new w (.cells #[I a.kind,I a.task,.int .u32 (a.mask:Int)] 80);have HS0:Hid (∀W,qB (w.alloc (.cells #[I a.kind,I a.task,.int .u32 (a.mask:Int)] 80)) W→(fun X=>W.cell? ⟨X,0,none⟩=some (I a.kind)∧W.cell? ⟨X,1,none⟩=some (I a.task)∧W.cell? ⟨X,2,none⟩=some (.int .u32 (a.mask:Int))) w.heap.size):=fun W hW=>by
  have q:=(hW.block _ (qa6 hV)).trans hV;refine ⟨?_,?_,?_⟩ <;> (rw [qcr q];rfl)
 have HB:Hid (Below w.heap.size w (w.alloc (.cells #[I a.kind,I a.task,.int .u32 (a.mask:Int)] 80))):=hb;clear hb hV h;go_enter Tryz.func157,Tryz.ntmps157
 go_upto_region 1 with fail;generalize w.alloc (.cells #[I a.kind,I a.task,.int .u32 (a.mask:Int)] 80)=w1 at *;generalize hX:w.heap.size=X at *;have HX:Hid (w.heap.size=X):=hX;clear hX;have HS:Hid (∀W,qB w1 W→W.cell? ⟨X,0,none⟩=some (I a.kind)∧W.cell? ⟨X,1,none⟩=some (I a.task)∧W.cell? ⟨X,2,none⟩=some (.int .u32 (a.mask:Int))):=HS0.out;have hbz:qB w1 w1:=Below.refl _ _;have HY:=HS.out w1 hbz;go_region_held_law (fun W=>W.cell? ⟨X,0,none⟩=some (I a.kind)∧W.cell? ⟨X,1,none⟩=some (I a.task)∧W.cell? ⟨X,2,none⟩=some (.int .u32 (a.mask:Int))) (first | exact HY | exact HA _ | (go_keep;done)) (first
  | (go_at_call 190;refine (hO0 _).mono ?_;clear hO0;rintro e w10 ⟨rfl,b10⟩;have hbz:=belT (by repeat' (first | exact hbz | apply Below.drew | apply belA)) b10;have HY:=HS.out _ hbz;have HA:=fun o=>HS.out _ (belA hbz (o:=o));clear b10)
  | (go_at_call 150;refine (hO1 _).mono ?_;clear hO1;rintro e w11 ⟨rfl,b11⟩;have hbz:=belT (by repeat' (first | exact hbz | apply Below.drew | apply belA)) b11;have HY:=HS.out _ hbz;have HA:=fun o=>HS.out _ (belA hbz (o:=o));clear b11)
  | (go_at_call 152;refine (hO2 _).mono ?_;clear hO2;rintro e w12 ⟨rfl,b12⟩;have hbz:=belT (by repeat' (first | exact hbz | apply Below.drew | apply belA)) b12;have HY:=HS.out _ hbz;have HA:=fun o=>HS.out _ (belA hbz (o:=o));clear b12)
  | (go_at_call 86;refine (qcl [(a.kind,1),(a.task,1),((a.mask:Int),4)] (by first | exact heap_alloc_new _ _) rfl HO.out (by simp)).mono ?_;rintro e w9 ⟨u,rfl,o9⟩;have K9:Hid (OwB w1 w9 u (putB [(a.kind,1),(a.task,1),((a.mask:Int),4)])):=qc9 (by repeat' (first | exact hbz | apply Below.drew | apply belA)) o9;have HY:=HS.out w9 K9.out.2;clear o9))
 go_wp2;go_ret;have:=qc9 (by have:=HB.out;rw [←HX.out] at this;exact this) K9.out;rw [HE.out] at this;exact ⟨_,rfl,this⟩
theorem qqg (w:World) (tb:Tb) (v:Ts) (h:TbAt w tb v) {j:Nat} {x:RgR} (hx:tb.rings[j]?=some x) (ok:okRg x):Calls Tryz.prog 77 #[.agg (tbC tb v),I j] w fun e w'=>∃u,e=.returned u∧OwB w w' u (eRg x):=by
 have hO0:=fun W=>qbq W x.prio (i1 ok.1).1 (i1 ok.1).2
 have hO1:=fun W=>qdq W x.cap (i2 ok.2).1 (i2 ok.2).2
 have HE:Hid (putB [(x.prio,1),(x.cap,2)]=eRg x):=by show _=_;simp [putB,eRg,e1,e2]
 have HO:Hid (∀y∈[(x.prio,1),(x.cap,2)],okC y):=by
  intro y hx;simp only [List.mem_cons,List.not_mem_nil,or_false] at hx;rcases hx with rfl | rfl
  ·exact okC1 ok.1
  ·exact okC2 ok.2
 have hb0:=qa0 w (.cells (qC tb v) 133);have hV0:=heap_alloc_new w (.cells (qC tb v) 133);obtain ⟨g,off,ea,hg,d0,d1⟩:=qgu (h.below hb0) hx;have cF:(w.alloc (.cells (qC tb v) 133)).cell? ⟨w.heap.size,3,none⟩=some (.slice (some ⟨g,off,none⟩) v.g.n v.g.c):=by rw [←ea,qcr hV0];rfl
 have hjn:(j:Int) < v.g.n:=by have:=h.g.n;have:=(List.getElem?_eq_some_iff.1 hx).1;omega
 have hb1:=qa0 (w.alloc (.cells (qC tb v) 133)) (.cells #[I x.prio,I x.cap] 73);have hV1:=heap_alloc_new (w.alloc (.cells (qC tb v) 133)) (.cells #[I x.prio,I x.cap] 73);have HB:Hid (Below w.heap.size w ((w.alloc (.cells (qC tb v) 133)).alloc (.cells #[I x.prio,I x.cap] 73))):=belT hb0 hb1;have HS0:Hid (∀W,qB ((w.alloc (.cells (qC tb v) 133)).alloc (.cells #[I x.prio,I x.cap] 73)) W→(fun X=>W.cell? ⟨X,0,none⟩=some (I x.prio)∧W.cell? ⟨X,1,none⟩=some (I x.cap)) (w.alloc (.cells (qC tb v) 133)).heap.size):=fun W hW=>by
  have q:=(hW.block _ (qa6 hV1)).trans hV1;refine ⟨?_,?_⟩ <;> (rw [qcr q];rfl)
 unfold tbC;clear hb0 hV0 hb1 hV1 ea hg hx;go_enter Tryz.func77,Tryz.ntmps77
 go_upto_region 1 with fail;generalize w.alloc (.cells (qC tb v) 133)=w0 at *;go_upto_region 2 with fail;clear cF d0 d1;generalize w0.alloc (.cells #[I x.prio,I x.cap] 73)=w1 at *;generalize w0.heap.size=X at *;have HS:Hid (∀W,qB w1 W→W.cell? ⟨X,0,none⟩=some (I x.prio)∧W.cell? ⟨X,1,none⟩=some (I x.cap)):=HS0.out;have hbz:qB w1 w1:=Below.refl _ _;have HY:=HS.out w1 hbz;go_region_held_law (fun W=>W.cell? ⟨X,0,none⟩=some (I x.prio)∧W.cell? ⟨X,1,none⟩=some (I x.cap)) (first | exact HY | exact HA _ | (go_keep;done)) (first
  | (go_at_call 150;refine (hO0 _).mono ?_;clear hO0;rintro e w10 ⟨rfl,b10⟩;have hbz:=belT (by repeat' (first | exact hbz | apply Below.drew | apply belA)) b10;have HY:=HS.out _ hbz;have HA:=fun o=>HS.out _ (belA hbz (o:=o));clear b10)
  | (go_at_call 156;refine (hO1 _).mono ?_;clear hO1;rintro e w11 ⟨rfl,b11⟩;have hbz:=belT (by repeat' (first | exact hbz | apply Below.drew | apply belA)) b11;have HY:=HS.out _ hbz;have HA:=fun o=>HS.out _ (belA hbz (o:=o));clear b11)
  | (go_at_call 86;refine (qcl [(x.prio,1),(x.cap,2)] (by first | exact heap_alloc_new _ _) rfl HO.out (by simp)).mono ?_;rintro e w9 ⟨u,rfl,o9⟩;have K9:Hid (OwB w1 w9 u (putB [(x.prio,1),(x.cap,2)])):=qc9 (by repeat' (first | exact hbz | apply Below.drew | apply belA)) o9;have HY:=HS.out w9 K9.out.2;clear o9))
 go_wp2;go_ret;have:=qc9 HB.out K9.out;rw [HE.out] at this;exact ⟨_,rfl,this⟩
theorem qqh (w:World) (tb:Tb) (v:Ts) (h:TbAt w tb v) {j:Nat} {x:RsR} (hx:tb.ress[j]?=some x) (ok:okRs x):Calls Tryz.prog 78 #[.agg (tbC tb v),I j] w fun e w'=>∃u,e=.returned u∧OwB w w' u (eRs x):=by
 have hO0:=fun W=>qje W x.inner
 have hO1:=fun W=>qi5 W x.ceil ok.1 (by have:=ok.2;omega)
 have HE:Hid (putB [((flI x.inner),1),((x.ceil+1),1)]=eRs x):=by show _=_;simp [putB,eRs,eF,e1];cases x.inner <;> rfl
 have HO:Hid (∀y∈[((flI x.inner),1),((x.ceil+1),1)],okC y):=by
  intro y hx;simp only [List.mem_cons,List.not_mem_nil,or_false] at hx;rcases hx with rfl | rfl
  ·exact okCF _
  ·exact okC1 ok
 have hb0:=qa0 w (.cells (qC tb v) 133);have hV0:=heap_alloc_new w (.cells (qC tb v) 133);obtain ⟨g,off,ea,hg,d0,d1⟩:=qgv (h.below hb0) hx;have cF:(w.alloc (.cells (qC tb v) 133)).cell? ⟨w.heap.size,4,none⟩=some (.slice (some ⟨g,off,none⟩) v.r.n v.r.c):=by rw [←ea,qcr hV0];rfl
 have hjn:(j:Int) < v.r.n:=by have:=h.r.n;have:=(List.getElem?_eq_some_iff.1 hx).1;omega
 have hb1:=qa0 (w.alloc (.cells (qC tb v) 133)) (.cells #[.bool x.inner,I x.ceil] 75);have hV1:=heap_alloc_new (w.alloc (.cells (qC tb v) 133)) (.cells #[.bool x.inner,I x.ceil] 75);have HB:Hid (Below w.heap.size w ((w.alloc (.cells (qC tb v) 133)).alloc (.cells #[.bool x.inner,I x.ceil] 75))):=belT hb0 hb1;have HS0:Hid (∀W,qB ((w.alloc (.cells (qC tb v) 133)).alloc (.cells #[.bool x.inner,I x.ceil] 75)) W→(fun X=>W.cell? ⟨X,0,none⟩=some (.bool x.inner)∧W.cell? ⟨X,1,none⟩=some (I x.ceil)) (w.alloc (.cells (qC tb v) 133)).heap.size):=fun W hW=>by
  have q:=(hW.block _ (qa6 hV1)).trans hV1;refine ⟨?_,?_⟩ <;> (rw [qcr q];rfl)
 unfold tbC;clear hb0 hV0 hb1 hV1 ea hg hx;go_enter Tryz.func78,Tryz.ntmps78
 go_upto_region 1 with fail;generalize w.alloc (.cells (qC tb v) 133)=w0 at *;go_upto_region 2 with fail;clear cF d0 d1;generalize w0.alloc (.cells #[.bool x.inner,I x.ceil] 75)=w1 at *;generalize w0.heap.size=X at *;have HS:Hid (∀W,qB w1 W→W.cell? ⟨X,0,none⟩=some (.bool x.inner)∧W.cell? ⟨X,1,none⟩=some (I x.ceil)):=HS0.out;have hbz:qB w1 w1:=Below.refl _ _;have HY:=HS.out w1 hbz;go_region_held_law (fun W=>W.cell? ⟨X,0,none⟩=some (.bool x.inner)∧W.cell? ⟨X,1,none⟩=some (I x.ceil)) (first | exact HY | exact HA _ | (go_keep;done)) (first
  | (go_at_call 151;refine (hO0 _).mono ?_;clear hO0;rintro e w10 ⟨rfl,b10⟩;have hbz:=belT (by repeat' (first | exact hbz | apply Below.drew | apply belA)) b10;have HY:=HS.out _ hbz;have HA:=fun o=>HS.out _ (belA hbz (o:=o));clear b10)
  | (go_at_call 153;refine (hO1 _).mono ?_;clear hO1;rintro e w11 ⟨rfl,b11⟩;have hbz:=belT (by repeat' (first | exact hbz | apply Below.drew | apply belA)) b11;have HY:=HS.out _ hbz;have HA:=fun o=>HS.out _ (belA hbz (o:=o));clear b11)
  | (go_at_call 86;refine (qcl [((flI x.inner),1),((x.ceil+1),1)] (by first | exact heap_alloc_new _ _) rfl HO.out (by simp)).mono ?_;rintro e w9 ⟨u,rfl,o9⟩;have K9:Hid (OwB w1 w9 u (putB [((flI x.inner),1),((x.ceil+1),1)])):=qc9 (by repeat' (first | exact hbz | apply Below.drew | apply belA)) o9;have HY:=HS.out w9 K9.out.2;clear o9))
 go_wp2;go_ret;have:=qc9 HB.out K9.out;rw [HE.out] at this;exact ⟨_,rfl,this⟩
theorem qqi (w:World) (tb:Tb) (v:Ts) (h:TbAt w tb v) {j:Nat} {x:CtR} (hx:tb.ctrs[j]?=some x) (ok:okCt x):Calls Tryz.prog 79 #[.agg (tbC tb v),I j] w fun e w'=>∃u,e=.returned u∧OwB w w' u (eCt x):=by
 have hO0:=fun W=>qdo W (x.max:Int) (n4 ok.1).1 (n4 ok.1).2
 have hO1:=fun W=>qdo W (x.base:Int) (n4 ok.2.1).1 (n4 ok.2.1).2
 have hO2:=fun W=>qdo W (x.min:Int) (n4 ok.2.2).1 (n4 ok.2.2).2
 have HE:Hid (putB [((x.max:Int),4),((x.base:Int),4),((x.min:Int),4)]=eCt x):=by show _=_;simp [putB,eCt]
 have HO:Hid (∀y∈[((x.max:Int),4),((x.base:Int),4),((x.min:Int),4)],okC y):=by
  intro y hx;simp only [List.mem_cons,List.not_mem_nil,or_false] at hx;rcases hx with rfl | rfl | rfl
  ·exact okC4 ok.1
  ·exact okC4 ok.2.1
  ·exact okC4 ok.2.2
 have hb0:=qa0 w (.cells (qC tb v) 133);have hV0:=heap_alloc_new w (.cells (qC tb v) 133);obtain ⟨g,off,ea,hg,d0,d1,d2⟩:=qgw (h.below hb0) hx;have cF:(w.alloc (.cells (qC tb v) 133)).cell? ⟨w.heap.size,5,none⟩=some (.slice (some ⟨g,off,none⟩) v.k.n v.k.c):=by rw [←ea,qcr hV0];rfl
 have hjn:(j:Int) < v.k.n:=by have:=h.k.n;have:=(List.getElem?_eq_some_iff.1 hx).1;omega
 have hb1:=qa0 (w.alloc (.cells (qC tb v) 133)) (.cells #[.int .u32 (x.max:Int),.int .u32 (x.base:Int),.int .u32 (x.min:Int)] 77);have hV1:=heap_alloc_new (w.alloc (.cells (qC tb v) 133)) (.cells #[.int .u32 (x.max:Int),.int .u32 (x.base:Int),.int .u32 (x.min:Int)] 77);have HB:Hid (Below w.heap.size w ((w.alloc (.cells (qC tb v) 133)).alloc (.cells #[.int .u32 (x.max:Int),.int .u32 (x.base:Int),.int .u32 (x.min:Int)] 77))):=belT hb0 hb1;have HS0:Hid (∀W,qB ((w.alloc (.cells (qC tb v) 133)).alloc (.cells #[.int .u32 (x.max:Int),.int .u32 (x.base:Int),.int .u32 (x.min:Int)] 77)) W→(fun X=>W.cell? ⟨X,0,none⟩=some (.int .u32 (x.max:Int))∧W.cell? ⟨X,1,none⟩=some (.int .u32 (x.base:Int))∧W.cell? ⟨X,2,none⟩=some (.int .u32 (x.min:Int))) (w.alloc (.cells (qC tb v) 133)).heap.size):=fun W hW=>by
  have q:=(hW.block _ (qa6 hV1)).trans hV1;refine ⟨?_,?_,?_⟩ <;> (rw [qcr q];rfl)
 unfold tbC;clear hb0 hV0 hb1 hV1 ea hg hx;go_enter Tryz.func79,Tryz.ntmps79
 go_upto_region 1 with fail;generalize w.alloc (.cells (qC tb v) 133)=w0 at *;go_upto_region 2 with fail;clear cF d0 d1 d2;generalize w0.alloc (.cells #[.int .u32 (x.max:Int),.int .u32 (x.base:Int),.int .u32 (x.min:Int)] 77)=w1 at *;generalize w0.heap.size=X at *;have HS:Hid (∀W,qB w1 W→W.cell? ⟨X,0,none⟩=some (.int .u32 (x.max:Int))∧W.cell? ⟨X,1,none⟩=some (.int .u32 (x.base:Int))∧W.cell? ⟨X,2,none⟩=some (.int .u32 (x.min:Int))):=HS0.out;have hbz:qB w1 w1:=Below.refl _ _;have HY:=HS.out w1 hbz;go_region_held_law (fun W=>W.cell? ⟨X,0,none⟩=some (.int .u32 (x.max:Int))∧W.cell? ⟨X,1,none⟩=some (.int .u32 (x.base:Int))∧W.cell? ⟨X,2,none⟩=some (.int .u32 (x.min:Int))) (first | exact HY | exact HA _ | (go_keep;done)) (first
  | (go_at_call 152;refine (hO0 _).mono ?_;clear hO0;rintro e w10 ⟨rfl,b10⟩;have hbz:=belT (by repeat' (first | exact hbz | apply Below.drew | apply belA)) b10;have HY:=HS.out _ hbz;have HA:=fun o=>HS.out _ (belA hbz (o:=o));clear b10)
  | (go_at_call 152;refine (hO1 _).mono ?_;clear hO1;rintro e w11 ⟨rfl,b11⟩;have hbz:=belT (by repeat' (first | exact hbz | apply Below.drew | apply belA)) b11;have HY:=HS.out _ hbz;have HA:=fun o=>HS.out _ (belA hbz (o:=o));clear b11)
  | (go_at_call 152;refine (hO2 _).mono ?_;clear hO2;rintro e w12 ⟨rfl,b12⟩;have hbz:=belT (by repeat' (first | exact hbz | apply Below.drew | apply belA)) b12;have HY:=HS.out _ hbz;have HA:=fun o=>HS.out _ (belA hbz (o:=o));clear b12)
  | (go_at_call 86;refine (qcl [((x.max:Int),4),((x.base:Int),4),((x.min:Int),4)] (by first | exact heap_alloc_new _ _) rfl HO.out (by simp)).mono ?_;rintro e w9 ⟨u,rfl,o9⟩;have K9:Hid (OwB w1 w9 u (putB [((x.max:Int),4),((x.base:Int),4),((x.min:Int),4)])):=qc9 (by repeat' (first | exact hbz | apply Below.drew | apply belA)) o9;have HY:=HS.out w9 K9.out.2;clear o9))
 go_wp2;go_ret;have:=qc9 HB.out K9.out;rw [HE.out] at this;exact ⟨_,rfl,this⟩
theorem qow {W:World} {b e k n:Nat} {u:Value} {xs:List Value} {α:Type} {P:α→Nat→Value→Prop} {l:List α} (h:W.ownsRow b e k u n xs) (hn:n=l.length) (hp:∀j x,l[j]?=some x→∀i,i < k→∃y,xs[j * k+i]?=some y∧P x i y):∃s:Sl,u=slT s∧RowsAt W k P s l:=by
 subst hn;obtain ⟨a,c,rfl⟩:=qam h;refine ⟨⟨a,l.length,c⟩,rfl,⟨rfl,?_,?_,fun j x hj=>?_⟩⟩
 ·rcases h.2 with ⟨q,q2⟩ | ⟨g,cap,cur,q,_,_,hle,hm,_⟩
  ·show l.length≤c
   rw [q2];exact Nat.zero_le _
  ·cases q;exact hle
 ·rcases h.2 with ⟨q,q2⟩ | ⟨g,cap,cur,q,_,_,hle,hm,_⟩
  ·show c≤maxLen
   rw [(Value.slice.inj q).2.2];exact Nat.zero_le _
  ·cases q;exact hm
 ·have hlt:j < l.length:=(List.getElem?_eq_some_iff.1 hj).1
  rcases h.2 with ⟨q,q2⟩ | ⟨g,cap,cur,q,_,hh,hle,hm,_⟩
  ·omega
  ·cases q
   refine ⟨g,0,rfl,(Array.getElem?_eq_some_iff.1 hh).1,fun i hi=>?_⟩;obtain ⟨y,hy,hP⟩:=hp j x hj i hi;refine ⟨y,?_,hP⟩;have:=h.cells rfl (j * k+i) y hy;rw [qd6] at this;rw [show 0+j * k+i=0+(j * k+i) by omega];exact this
theorem qn4 (w:World) (xs:Array Value) (t:TypeId):∀j u,xs.toList[j]?=some u→(w.alloc (.cells xs t)).cell? ((⟨w.heap.size,0,none⟩:Addr).add j)=some u:=by
 intro j u hj;rw [qd6,qcr (heap_alloc_new w _),Nat.zero_add];simpa using hj
theorem qsp (w:World) (n:Nat) (hn:n≤1000) (f:Nat) (bnd caps:Array Value) (eg:∀args W,(callFunc f args).run Tryz.prog W=.ok (.enter f args) W) (mk:Nat→Int×Nat)
  (hf:∀W,qB w W→∀j,j < n→Calls Tryz.prog f (bnd++#[I j]++caps) W fun e w'=>e=.returned (cV (mk j).1 (mk j).2)∧qB W w') :
  Calls Tryz.prog 188 #[I n,.func (.func f) bnd caps] w fun e w'=>∃u,e=.returned u∧w'.ownsRow w.heap.size 140 2 u n (((List.range n).map mk).flatMap qdm)∧qB w w':=by
 obtain ⟨im,him,hm0,hm1,hm2⟩:=info_parts qrj;have HF:Hid (∀W,qB w W→∀j,j < n→Calls Tryz.prog f (bnd++#[I j]++caps) W fun e w'=>e=.returned (cV (mk j).1 (mk j).2)∧qB W w'):=hf;have HI:Hid (w.ownsRow w.heap.size 140 2 qZ 0 (((List.range 0).map mk).flatMap qdm)∧qB w w):=⟨World.ownsRow_nil _ _ _ _,Below.refl _ _⟩;clear hf;go_enter Tryz.func188,Tryz.ntmps188
 go_wp2;go_loopw [5,6,8] (fun v5 _ v8 wr=>∃j:Nat,j≤n∧v8=I j∧Hid (wr.ownsRow w.heap.size 140 2 v5 j (((List.range j).map mk).flatMap qdm)∧qB w wr)) (fun _ _ v8 _=>n - (intOf v8).toNat)
 case atStart=>exact ⟨0,by omega,rfl,HI.out⟩
 case round=>
  clear HI;obtain ⟨j,hj,rfl,HJ⟩:=hrel;by_cases hlt:j < n
  ·have hlt':(j:Int) < n:=by omega
   have cx:=HF.out wr HJ.out.2 j hlt;have HR:Hid (((List.range (j+1)).map mk).flatMap qdm=((List.range j).map mk).flatMap qdm++[Q8 (mk j).1,I (mk j).2]):=by
    show _=_;rw [qhm,List.flatMap_append];simp [qdm]
   generalize (mk j).1=m1 at *;generalize (mk j).2=m2 at *;go_wp2;refine cx.mono ?_;clear cx;rintro e7 w7 ⟨rfl,b7⟩;have H7:Hid (qB w w7):=HJ.out.2.trans (b7.mono HJ.out.2.size);have hw7:=H7.out.size;have hO:=(qad HJ.out.1 b7).alloc (.cells #[Q8 m1,I m2] 140);have hnw:=qn4 w7 #[Q8 m1,I m2] 140;clear b7 HJ;go_wp2_with (first
    | (at_builtin;refine wpList_append_own _ rfl (.tmp 11) (.tmp 15) 198 rfl w.heap.size 140 im (.agg #[.int .u64 0,I 0]) 2 16 Tryz.underlying198 him hm0 hm1 hm2 rfl (by decide) _ _ _ rfl hO ⟨w7.heap.size,0,none⟩ 1 1 [Q8 m1,I m2] rfl rfl hnw (by intro u hu;simp at hu;rcases hu with rfl | rfl <;> rfl) (by unfold maxLen;omega) (by omega) (by simp;omega) ?_;intro v6 w6 ho6 hg6 _;have H9:Hid (w6.ownsRow w.heap.size 140 2 v6 (j+1) (((List.range (j+1)).map mk).flatMap qdm)∧qB w w6):=⟨(by rw [HR.out];exact ho6),Below.grown hO (H7.out.trans ((qa0 w7 _).mono hw7)) hg6⟩;clear ho6 hg6 hO hnw))
   go_roundw
   case rel=>exact ⟨j+1,by omega,by go_num,H9.out⟩
   case measure=>simp [intOf];omega
  ·obtain rfl:j=n:=by omega
   have hge:¬((j:Int) < j):=by omega
   clear HF;go_wp2;go_ret;exact ⟨_,rfl,HJ.out⟩
theorem qn5 {W:World} {X:Nat} {s:Sl} {l:List Int} (h:RowsAt W 1 intP s l) (hX:W.heap[X]?=some (.cells #[slT s] 62)) (hb:∀y∈l,b8 y) {j:Nat} {x:Int} (hx:l[j]?=some x):Calls Tryz.prog 189 #[I j,.pointer (some ⟨X,0,none⟩)] W fun e w'=>e=.returned (cV x 1)∧qB W w':=by
 have hb0:=qa0 W (cO 0 0);have hv:=heap_alloc_new W (cO 0 0);have hbx:=hb x (List.mem_of_getElem? hx);obtain ⟨g,off,ea,hg,hr⟩:=h.row j x hx;obtain ⟨u,hu,e⟩:=hr 0 (by omega);have e':u=I x:=e;subst e';have hjn:(j:Int) < s.n:=by have:=h.n;have:=(List.getElem?_eq_some_iff.1 hx).1;omega
 obtain ⟨sa,sn,sc⟩:=s;have ea':sa=some ⟨g,off,none⟩:=ea;subst ea';have c0:(W.alloc (cO 0 0)).cell? ⟨X,0,none⟩=some (.slice (some ⟨g,off,none⟩) sn sc):=by
  rw [qa5 hb0 _ _ (qa6 hX),qcr hX];rfl
 have c1:(W.alloc (cO 0 0)).cell? ⟨g,off+j,none⟩=some (I x):=by
  rw [qa5 hb0 _ _ hg];simpa using hu
 have H1:=qbq (W.alloc (cO 0 0)) x (i1 hbx).1 (i1 hbx).2;have HS:Hid (∀w2 (y:Int),qB (W.alloc (cO 0 0)) w2→qB W (qS2 w2 (W.heap.size) (Q8 y) (I 1))∧(qS2 w2 (W.heap.size) (Q8 y) (I 1)).heap[W.heap.size]?=some (cO y 1)∧w2.cell? ⟨W.heap.size,0,none⟩=some (Q8 0)∧(w2.setCell ⟨W.heap.size,0,none⟩ (Q8 y)).cell? ⟨W.heap.size,1,none⟩=some (I 0)∧w2.frozen? ⟨W.heap.size,0,none⟩=false∧(w2.setCell ⟨W.heap.size,0,none⟩ (Q8 y)).frozen? ⟨W.heap.size,1,none⟩=false):=qgl hb0 hv;dsimp only at hjn;clear hb0 hv h hX hb hr hu ea hg hx hbx;generalize hw1:W.alloc (cO 0 0)=w1 at *;go_enter Tryz.func189,Tryz.ntmps189
 go_upto_region 1 with fail;clear hw1;go_wp2_with (first | (go_at_call 150;refine H1.mono ?_;clear H1;rintro e w2 ⟨rfl,b2⟩;obtain ⟨k1,k2,k3,k4,k5,k6⟩:=HS.out w2 x b2;have K:Hid (qB W (qS2 w2 (W.heap.size) (Q8 x) (I 1))∧(qS2 w2 (W.heap.size) (Q8 x) (I 1)).heap[W.heap.size]?=some (cO x 1)):=⟨k1,k2⟩;clear k1 k2 b2));refine bodyPost_ret (qce Tryz.results189 _ W.heap.size _ _ _ rfl K.out.2) rfl ?_;exact ⟨rfl,K.out.1⟩
theorem qfk {W:World} {X n:Nat} (us:List Value) (ls:List (List UInt8)) (h:W.heap[X]?=some (.cells us.toArray 22)) (hn:n=ls.length) (hu:us.length=ls.length) (hl:ls.length≤1000) (hs:∀(j:Nat) (l:List UInt8) (v:Value),ls[j]?=some l→us[j]?=some v→rdV W 1 v l.length (Bs8 l)):RowsAt W 1 (segB W) ⟨some ⟨X,0,none⟩,n,n⟩ ls:=by
 subst hn;refine ⟨rfl,Nat.le_refl _,by show ls.length≤maxLen;unfold maxLen;omega,fun j x hj=>⟨X,0,rfl,(Array.getElem?_eq_some_iff.1 h).1,fun i hi=>?_⟩⟩;obtain rfl:i=0:=by omega
 have hlt:j < us.length:=by rw [hu];exact (List.getElem?_eq_some_iff.1 hj).1
 refine ⟨us[j],?_,?_⟩
 ·rw [qcr h]
  simp
 ·unfold segB
  rw [qd8];exact hs j x _ hj (List.getElem?_eq_getElem hlt)
theorem cat2 {w W:World} {X:Nat} {u1 u2:Value} {l1 l2:List UInt8} (hb:Below w.heap.size w W) (h:W.heap[X]?=some (.cells #[u1,u2] 22)) (h1:W.ownsRow 0 5 1 u1 l1.length (Bs8 l1)) (h2:W.ownsRow 0 5 1 u2 l2.length (Bs8 l2)) (hl:l1.length+l2.length≤1000000):Calls Tryz.prog 83 #[.slice (some ⟨X,0,none⟩) 2 2] W fun e w'=>∃u,e=.returned u∧OwB w w' u (l1++l2):=by
 refine (catB W ⟨some ⟨X,0,none⟩,2,2⟩ [l1,l2] (qfk [u1,u2] [l1,l2] h rfl rfl (by simp) (fun j l v e1 e2=>?_)) (by simpa using hl)).mono ?_
 ·match j,e1,e2 with
  | 0,e1,e2=>simp at e1 e2;subst e1 e2;exact qc7 h1
  | 1,e1,e2=>simp at e1 e2;subst e1 e2;exact qc7 h2
 ·rintro e w' ⟨u,rfl,o,b⟩
  rw [qd8] at o;have e2:[l1,l2].flatten=l1++l2:=by simp
  rw [e2] at o;exact ⟨u,rfl,qc9 hb ⟨o,b⟩⟩
theorem cat3 {w W:World} {X:Nat} {u1 u2 u3:Value} {l1 l2 l3:List UInt8} (hb:Below w.heap.size w W) (h:W.heap[X]?=some (.cells #[u1,u2,u3] 22)) (h1:W.ownsRow 0 5 1 u1 l1.length (Bs8 l1)) (h2:W.ownsRow 0 5 1 u2 l2.length (Bs8 l2)) (h3:W.ownsRow 0 5 1 u3 l3.length (Bs8 l3)) (hl:l1.length+(l2.length+l3.length)≤1000000):Calls Tryz.prog 83 #[.slice (some ⟨X,0,none⟩) 3 3] W fun e w'=>∃u,e=.returned u∧OwB w w' u (l1++(l2++l3)):=by
 refine (catB W ⟨some ⟨X,0,none⟩,3,3⟩ [l1,l2,l3] (qfk [u1,u2,u3] [l1,l2,l3] h rfl rfl (by simp) (fun j l v e1 e2=>?_)) (by simpa using hl)).mono ?_
 ·match j,e1,e2 with
  | 0,e1,e2=>simp at e1 e2;subst e1 e2;exact qc7 h1
  | 1,e1,e2=>simp at e1 e2;subst e1 e2;exact qc7 h2
  | 2,e1,e2=>simp at e1 e2;subst e1 e2;exact qc7 h3
 ·rintro e w' ⟨u,rfl,o,b⟩
  rw [qd8] at o;have e2:[l1,l2,l3].flatten=l1++(l2++l3):=by simp
  rw [e2] at o;exact ⟨u,rfl,qc9 hb ⟨o,b⟩⟩
theorem qox {w W W':World} {u:Value} {l:List UInt8} (h:OwB w W u l) (hb:qB W W'):W'.ownsRow 0 5 1 u l.length (Bs8 l):=qad (qba h.1) hb
theorem qqj (l:List Int):(List.range l.length).map (fun j=>((l.getD j 0:Int),1))=l.map (fun x=>(x,1)):=by
 apply List.ext_getElem?;intro i;rw [List.getElem?_map,List.getElem?_map];by_cases hi:i < l.length
 ·rw [List.getElem?_range hi,List.getElem?_eq_getElem hi]
  simp [List.getD_eq_getElem?_getD,List.getElem?_eq_getElem hi]
 ·rw [List.getElem?_eq_none (by simpa using hi),List.getElem?_eq_none (by simpa using hi)]
  rfl
theorem qoy (l:List Int):putB (l.map (fun x=>(x,1)))=l.flatMap e1:=by
 unfold putB;rw [List.flatMap_map];rfl
theorem qjj (w:World) (s:Sl) (l:List Int) (h:RowsAt w 1 intP s l) (hl:l.length < 256) (hb:∀y∈l,b8 y):Calls Tryz.prog 154 #[slT s] w fun e w'=>∃u,e=.returned u∧OwB w w' u (eL l):=by
 have hb0:=qa0 w (.cells #[slT s] 62);have hV:=heap_alloc_new w (.cells #[slT s] 62);have hsn:s.n=l.length:=h.n;have HSN:Hid (s.n=l.length):=hsn;have hn:s.n≤255:=by omega
 have HS0:Hid (∀W,qB (w.alloc (.cells #[slT s] 62)) W→W.cell? ⟨w.heap.size,0,none⟩=some (.slice s.a s.n s.c)):=fun W hW=>by
  have q:=(hW.block _ (qa6 hV)).trans hV;rw [qcr q];rfl
 have hR:=qsp (w.alloc (.cells #[slT s] 62)) s.n (by omega) 189 #[] #[.pointer (some ⟨w.heap.size,0,none⟩)] (enters_of Tryz.func189 (by kernel_rfl) rfl) (fun j=>((l.getD j 0:Int),1)) (fun W hW j hj=>by
  have hx:l[j]?=some (l.getD j 0):=by rw [List.getD_eq_getElem?_getD,List.getElem?_eq_getElem (by omega)];rfl
  rw [show (#[]++#[I j]++#[.pointer (some ⟨w.heap.size,0,none⟩)]:Array Value)=#[I j,.pointer (some ⟨w.heap.size,0,none⟩)] from rfl];exact qn5 ((h.below hb0 (fun _ _ _ _ h=>h)).below hW (fun _ _ _ _ h=>h)) ((hW.block _ (qa6 hV)).trans hV) hb hx)
 rw [hsn,qqj,←hsn] at hR;have HO:Hid (∀y∈l.map (fun x=>(x,1)),okC y):=fun y hy=>by
  obtain ⟨x,hx,rfl⟩:=List.mem_map.1 hy;exact okC1 (hb x hx)
 have HLB:Hid (l.length < 256):=hl;have HB0:Hid (Below w.heap.size w (w.alloc (.cells #[slT s] 62))):=hb0;clear h hb hV hsn hl hb0;obtain ⟨sa,sn,sc⟩:=s;dsimp only at *;show Calls _ _ #[.slice sa sn sc] _ _;go_enter Tryz.func154,Tryz.ntmps154
 go_upto_region 1 with fail;generalize w.alloc (.cells #[.slice sa sn sc] 62)=w0 at *;generalize hX:w.heap.size=X at *;have HX:Hid (w.heap.size=X):=hX;clear hX;have c0:=HS0.out w0 (Below.refl _ _);have hO1:=fun W=>qbq W (sn:Int) (by omega) (by omega)
 have hP1:=fun (W:World) (X:Nat) h=>qcl (W:=W) (X:=X) (n:=1) [((sn:Int),1)] h rfl (by intro y hy;simp at hy;subst hy;exact okC1 ⟨by omega,by omega⟩) (by simp)
 have hE1:putB [((sn:Int),1)]=e1 (sn:Int):=by simp [putB,e1]
 simp only [hE1] at hP1;clear hE1;obtain ⟨F1,hF1⟩:∃F,F=l.flatMap e1:=⟨_,rfl⟩
 have HF1:Hid (F1=l.flatMap e1):=hF1;clear hF1;go_wp2_with (first
  | (go_at_call 188;refine hR.mono ?_;clear hR;rintro e w2 ⟨u2,rfl,o2,b2⟩;have K2:Hid (w2.ownsRow w0.heap.size 140 2 u2 sn ((l.map (fun x=>(x,1))).flatMap qdm)∧qB w0 w2):=⟨o2,b2⟩;have c2:=HS0.out w2 b2;clear o2 b2)
  | (go_at_call 150;refine (hO1 _).mono ?_;clear hO1;rintro e w3 ⟨rfl,b3⟩;have K3:Hid (qB w0 w3∧qB w2 w3):=⟨belT K2.out.2 b3,b3⟩;clear b3)
  | (go_at_call 86;refine (hP1 _ _ (heap_alloc_new _ _)).mono ?_;clear hP1;rintro e w4 ⟨u4,rfl,o4⟩;obtain ⟨a4,q4,rfl⟩:=qam o4.1;have K4:Hid (OwB w0 w4 (.slice a4 (e1 (sn:Int)).length q4) (e1 (sn:Int))∧qB w2 w4):=⟨qc9 (belA K3.out.1) o4,belT K3.out.2 ((qa0 w3 _).trans (o4.2.mono (by simp)))⟩;obtain ⟨s2,hs2,r2⟩:=qow (P:=qlh) (l:=l.map (fun x=>((x,1):Int×Nat))) (qad K2.out.1 K4.out.2) (by rw [List.length_map];exact HSN.out) (fun j x hj i hi=>by { obtain ⟨q0,q1⟩:=qjf _ hj;match i,hi with | 0,_=>exact ⟨_,q0,rfl⟩ | 1,_=>exact ⟨_,q1,rfl⟩ });subst hs2;have hP:=qkv r2 HO.out (by rw [List.length_map];have:=HLB.out;omega);rw [qoy,←HF1.out] at hP;clear o4 r2)
  | (go_at_call 86;refine hP.mono ?_;clear hP;rintro e w5 ⟨u5,rfl,o5⟩;obtain ⟨a5,q5,rfl⟩:=qam o5.1;have hcat:=cat2 (w:=w0) (W:=w5.alloc (.cells #[.slice a4 (e1 (sn:Int)).length q4,.slice a5 F1.length q5] 22)) (X:=w5.heap.size) (belA (belT K4.out.1.2 o5.2)) (heap_alloc_new _ _) ((qox K4.out.1 o5.2).alloc _) ((qba o5.1).alloc _) (by rw [HF1.out,qjb,e1,qa8];have:=HLB.out;omega);clear o5)
  | (go_at_call 83;refine hcat.mono ?_;clear hcat;rintro e w6 ⟨u6,rfl,o6⟩;have K6:Hid (OwB w0 w6 u6 (e1 (sn:Int)++F1)):=o6;clear o6))
 go_ret;have hq:=qc9 (by have:=HB0.out;rw [←HX.out] at this;exact this) K6.out;refine ⟨_,rfl,?_⟩;unfold eL;rw [←HSN.out,←HF1.out];exact hq
end Go.Proofs.YtijgopkhdjaolabGreat
namespace Go.Proofs.YtijgopkhdjaolabGreat
open Go.RowKit Go.Shelf Go.Sort
theorem qfl {P:Program} {md:Region.Mode} {ops:Array Oper} {Q:Exit→Act→World→Prop} {S:World→Prop} {fuel:Nat} {listed:Array Bool} {a:Act} {w:World}
  (h:∀G:Nat→Array Bool→Array Value→World→Prop,Hid (∀f l t W,G f l t W=wpAnyH P md ops Q S f l ⟨t,a.defers⟩ W)→G fuel listed a.tmps w):wpAnyH P md ops Q S fuel listed a w:=
 h (fun f l t W=>wpAnyH P md ops Q S f l ⟨t,a.defers⟩ W) (fun _ _ _ _=>rfl)
theorem qlm {w:World} {k n:Nat} {u:Value} {xs:List Value} {o:Obj} (h:rdV w k u n xs):rdV (w.alloc o) k u n xs:=qc0 h (qa0 w o)
theorem qpo (w:World) (o:Obj):(w.alloc o).heap.size=w.heap.size+1:=by first | simp | (unfold World.alloc;simp)
theorem qky {w:World} {base e size n:Nat} {v:Value} {xs:List Value} {o:Obj} (h:w.ownsRow base e size v n xs):(w.alloc o).ownsRow base e size v n xs:=h.alloc o
abbrev mkO : Obj:=.cells #[.int .u8 84,.int .u8 80,.int .u8 84,.int .u8 49] 5
theorem qgm {W:World} {M:Nat} (h:W.heap[M]?=some mkO):(convert 22 22 (.slice (some ⟨M,0,none⟩) 4 4)).run Tryz.prog W=.ok (.slice (some ⟨M,0,none⟩) 4 4) (W.freeze ⟨M,4,none⟩ 1):=by
 have hsh:W.shape? M=some (5,4):=by unfold World.shape?;rw [h];rfl
 simp [convert,run_underlying Tryz.underlying22,run_underlying Tryz.underlying5,markStringish,hsh]
theorem qg1 (W:World) (M b:Nat) (h:b≠M):(W.freeze ⟨M,4,none⟩ 1).heap[b]?=W.heap[b]?:=by
 unfold World.freeze;rw [if_neg (by decide)];show (W.heap.modify M _)[b]?=_;rw [Array.getElem?_modify,if_neg (fun e=>h e.symm)]
theorem qef {a W:World} {M:Nat} (hb:qB a W) (hM:a.heap.size≤M):qB a (W.freeze ⟨M,4,none⟩ 1):=
 ⟨hb.os,hb.tape,hb.output,by have:=hb.size;unfold World.freeze;rw [if_neg (by decide)];simpa using this,fun i hi=>(qg1 W M i (by omega)).trans (hb.block i hi)⟩
theorem qjk {W:World} {M:Nat} (h:W.heap[M]?=some mkO):rdV (W.freeze ⟨M,4,none⟩ 1) 1 (.slice (some ⟨M,0,none⟩) 4 4) mrk.length (Bs8 mrk):=by
 have q:(W.freeze ⟨M,4,none⟩ 1).heap[M]?=some (.cells #[.int .u8 84,.int .u8 80,.int .u8 84,.int .u8 49] 5 (4,5)):=by
  unfold World.freeze;rw [if_neg (by decide)];show (W.heap.modify M _)[M]?=_;rw [Array.getElem?_modify,if_pos rfl,h];rfl
 refine ⟨rfl,.inr ⟨M,4,rfl,qa6 q,fun j v hj=>?_⟩⟩;rw [cell_of_row _ _ _ _ _ (4,5) q,Nat.zero_add];have e:(#[.int .u8 84,.int .u8 80,.int .u8 84,.int .u8 49]:Array Value)=(Bs8 mrk).toArray:=by rfl
 rw [e,List.getElem?_toArray];exact hj
theorem qoz {W:World} {M b:Nat} {o:Obj} (h:W.heap[b]?=some o) (hne:b≠M):(W.freeze ⟨M,4,none⟩ 1).heap[b]?=some o:=(qg1 W M b hne).trans h
theorem qrm {W:World} {M n:Nat} {a:Option Addr} {c:Nat} {l:List Value} (h:rdV W 1 (.slice a n c) n l) (hne:∀g o,a=some ⟨g,o,none⟩→g≠M):rdV (W.freeze ⟨M,4,none⟩ 1) 1 (.slice a n c) n l:=by
 obtain ⟨h1,h2⟩:=h;refine ⟨h1,?_⟩;rcases h2 with q | ⟨g,cap,q,hg,hc⟩
 ·exact .inl q
 ·refine .inr ⟨g,cap,q,?_,fun j v hj=>?_⟩
  ·unfold World.freeze;rw [if_neg (by decide)];simpa using hg
  ·cases q
   rw [World.cell?_of_block (qg1 W M g (hne g 0 rfl))];exact hc j v hj
theorem qsq {W:World} {n c:Nat} {a:Option Addr} {l:List Value} (h:rdV W 1 (.slice a n c) n l):∀g o,a=some ⟨g,o,none⟩→g < W.heap.size:=by
 intro g o e;subst e;rcases h.2 with ⟨q,_⟩ | ⟨g',cap,q,hg,_⟩
 ·cases q
 ·cases q;exact hg
theorem qrn {W:World} {b e k n c:Nat} {a:Option Addr} {l:List Value} (h:W.ownsRow b e k (.slice a n c) n l):∀g o,a=some ⟨g,o,none⟩→b≤g:=by
 intro g o e;subst e;rcases h.2 with ⟨q,_⟩ | ⟨g',cap,cur,q,hg,_⟩
 ·cases q
 ·cases q;exact hg
theorem qro {w W:World} {X:Nat} {u1 u2:Value} {l1 l2:List UInt8} (hb:qB w W) (h:W.heap[X]?=some (.cells #[u1,u2] 22)) (h1:rdV W 1 u1 l1.length (Bs8 l1)) (h2:rdV W 1 u2 l2.length (Bs8 l2)) (hl:l1.length+l2.length≤1000000):Calls Tryz.prog 83 #[.slice (some ⟨X,0,none⟩) 2 2] W fun e w'=>∃u,e=.returned u∧OwB w w' u (l1++l2):=by
 refine (catB W ⟨some ⟨X,0,none⟩,2,2⟩ [l1,l2] (qfk [u1,u2] [l1,l2] h rfl rfl (by simp) (fun j l v e1 e2=>?_)) (by simpa using hl)).mono ?_
 ·match j,e1,e2 with
  | 0,e1,e2=>simp at e1 e2;subst e1 e2;exact h1
  | 1,e1,e2=>simp at e1 e2;subst e1 e2;exact h2
 ·rintro e w' ⟨u,rfl,o,b⟩
  refine ⟨u,rfl,?_⟩;have:OwB W w' u (l1++l2):=⟨by simpa [qd8] using o,b⟩;exact qc9 hb this
end Go.Proofs.YtijgopkhdjaolabGreat
