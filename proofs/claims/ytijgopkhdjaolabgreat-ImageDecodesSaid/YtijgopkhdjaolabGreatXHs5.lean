import Derived.Test.YtijgopkhdjaolabGreatXHx
import Derived.Deep.RegionHeldLaw
import Derived.Test.YtijgopkhdjaolabGreatHk
import Derived.Test.YtijgopkhdjaolabGreatHi
set_option linter.unusedSimpArgs false
set_option linter.unusedVariables false
set_option maxHeartbeats 16000000
set_option maxRecDepth 100000
namespace Go.Proofs.YtijgopkhdjaolabGreat
open Go.RowKit Go.Shelf Go.Sort
open Go.Proofs.YtijgopkhdjaolabGreat.Ob (leB leV qa8 qag crc Rd RdAll qa7)
theorem qbp {w:World} {base e size n:Nat} {v:Value} {xs:List Value} {o:Obj} (h:w.ownsRow base e size v n xs):(w.alloc o).ownsRow base e size v n xs:=h.alloc o
theorem n8 {v:Nat} (h:v < 256 ^ 8):(0:Int)≤v∧(v:Int) < 18446744073709551616:=by rw [show (256:Nat) ^ 8=18446744073709551616 from rfl] at h;omega
theorem qqs (w:World) (tb:Tb) (v:Ts) (h:TbAt w tb v) {j:Nat} {x:AlR} (hx:tb.als[j]?=some x) (ok:okAl x):Calls Tryz.prog 80 #[.agg (tbC tb v),I j] w fun e w'=>∃u,e=.returned u∧OwB w w' u (eAl x):=by
 have hO0:=fun W=>qbq W x.ctr (i1 ok.1).1 (i1 ok.1).2
 have HO0:Hid (∀y∈[(x.ctr,1)],okC y):=by
  intro y hx;simp only [List.mem_cons,List.not_mem_nil,or_false] at hx;rcases hx with rfl
  ·exact okC1 ok.1
 have hP0:=fun (W:World) (X:Nat) h=>qcl (W:=W) (X:=X) (n:=1) [(x.ctr,1)] h rfl HO0.out (by simp)
 have hP1:=fun W=>qh9 W x.ac ok.2.1
 have hO1:=fun W=>qku W (x.auto:Int) (n1 ok.2.2.1).1 (n1 ok.2.2.1).2
 have hO2:=fun W=>qdo W (x.time:Int) (n4 ok.2.2.2.1).1 (n4 ok.2.2.2.1).2
 have hO3:=fun W=>qdo W (x.cycle:Int) (n4 ok.2.2.2.2).1 (n4 ok.2.2.2.2).2
 have HO2:Hid (∀y∈[((x.auto:Int),1),((x.time:Int),4),((x.cycle:Int),4)],okC y):=by
  intro y hx;simp only [List.mem_cons,List.not_mem_nil,or_false] at hx;rcases hx with rfl | rfl | rfl
  ·exact qpn ok.2.2.1
  ·exact okC4 ok.2.2.2.1
  ·exact okC4 ok.2.2.2.2
 have hP2:=fun (W:World) (X:Nat) h=>qcl (W:=W) (X:=X) (n:=3) [((x.auto:Int),1),((x.time:Int),4),((x.cycle:Int),4)] h rfl HO2.out (by simp)
 have HE:Hid ((putB [(x.ctr,1)])++((eAc x.ac)++(putB [((x.auto:Int),1),((x.time:Int),4),((x.cycle:Int),4)]))=eAl x):=by show _=_;simp [putB,eAl,e1]
 have HLEN:Hid ((putB [(x.ctr,1)]).length+((eAc x.ac).length+(putB [((x.auto:Int),1),((x.time:Int),4),((x.cycle:Int),4)]).length)≤1000000):=by
  show _≤_;rw [←List.length_append,←List.length_append,HE.out];simp only [eAl,eAc,e1,List.length_append,qa8];omega
 have hb0:=qa0 w (.cells (qC tb v) 133);have hV0:=heap_alloc_new w (.cells (qC tb v) 133);obtain ⟨g,off,ea,hg,d0,d1,d2,d3,d4,d5,d6⟩:=qgx (h.below hb0) hx;have cF:(w.alloc (.cells (qC tb v) 133)).cell? ⟨w.heap.size,6,none⟩=some (.slice (some ⟨g,off,none⟩) v.a.n v.a.c):=by rw [←ea,qcr hV0];rfl
 have hjn:(j:Int) < v.a.n:=by have:=h.a.n;have:=(List.getElem?_eq_some_iff.1 hx).1;omega
 have hb1:=qa0 (w.alloc (.cells (qC tb v) 133)) (.cells #[I x.ctr,I x.ac.kind,I x.ac.task,.int .u32 (x.ac.mask:Int),.int .u32 (x.auto:Int),.int .u32 (x.time:Int),.int .u32 (x.cycle:Int)] 82);have hV1:=heap_alloc_new (w.alloc (.cells (qC tb v) 133)) (.cells #[I x.ctr,I x.ac.kind,I x.ac.task,.int .u32 (x.ac.mask:Int),.int .u32 (x.auto:Int),.int .u32 (x.time:Int),.int .u32 (x.cycle:Int)] 82);have HB:Hid (qB w ((w.alloc (.cells (qC tb v) 133)).alloc (.cells #[I x.ctr,I x.ac.kind,I x.ac.task,.int .u32 (x.ac.mask:Int),.int .u32 (x.auto:Int),.int .u32 (x.time:Int),.int .u32 (x.cycle:Int)] 82))):=belT hb0 hb1;have HS0:Hid (∀W,qB ((w.alloc (.cells (qC tb v) 133)).alloc (.cells #[I x.ctr,I x.ac.kind,I x.ac.task,.int .u32 (x.ac.mask:Int),.int .u32 (x.auto:Int),.int .u32 (x.time:Int),.int .u32 (x.cycle:Int)] 82)) W→(fun X=>W.cell? ⟨X,0,none⟩=some (I x.ctr)∧W.cell? ⟨X,1,none⟩=some (I x.ac.kind)∧W.cell? ⟨X,2,none⟩=some (I x.ac.task)∧W.cell? ⟨X,3,none⟩=some (.int .u32 (x.ac.mask:Int))∧W.cell? ⟨X,4,none⟩=some (.int .u32 (x.auto:Int))∧W.cell? ⟨X,5,none⟩=some (.int .u32 (x.time:Int))∧W.cell? ⟨X,6,none⟩=some (.int .u32 (x.cycle:Int))) (w.alloc (.cells (qC tb v) 133)).heap.size):=fun W hW=>by
  have q:=(hW.block _ (qa6 hV1)).trans hV1;refine ⟨?_,?_,?_,?_,?_,?_,?_⟩ <;> (rw [qcr q];rfl)
 unfold tbC;clear hb0 hV0 hb1 hV1 ea hg hx;go_enter Tryz.func80,Tryz.ntmps80
 go_upto_region 1 with fail;generalize w.alloc (.cells (qC tb v) 133)=w0 at *;go_upto_region 2 with fail;clear cF d0 d1 d2 d3 d4 d5 d6;generalize w0.alloc (.cells #[I x.ctr,I x.ac.kind,I x.ac.task,.int .u32 (x.ac.mask:Int),.int .u32 (x.auto:Int),.int .u32 (x.time:Int),.int .u32 (x.cycle:Int)] 82)=w1 at *;generalize w0.heap.size=X at *;have HS:Hid (∀W,qB w1 W→W.cell? ⟨X,0,none⟩=some (I x.ctr)∧W.cell? ⟨X,1,none⟩=some (I x.ac.kind)∧W.cell? ⟨X,2,none⟩=some (I x.ac.task)∧W.cell? ⟨X,3,none⟩=some (.int .u32 (x.ac.mask:Int))∧W.cell? ⟨X,4,none⟩=some (.int .u32 (x.auto:Int))∧W.cell? ⟨X,5,none⟩=some (.int .u32 (x.time:Int))∧W.cell? ⟨X,6,none⟩=some (.int .u32 (x.cycle:Int))):=HS0.out;have hbz:qB w1 w1:=Below.refl _ _;have HY:=HS.out w1 hbz;go_region_held_law (fun W=>W.cell? ⟨X,0,none⟩=some (I x.ctr)∧W.cell? ⟨X,1,none⟩=some (I x.ac.kind)∧W.cell? ⟨X,2,none⟩=some (I x.ac.task)∧W.cell? ⟨X,3,none⟩=some (.int .u32 (x.ac.mask:Int))∧W.cell? ⟨X,4,none⟩=some (.int .u32 (x.auto:Int))∧W.cell? ⟨X,5,none⟩=some (.int .u32 (x.time:Int))∧W.cell? ⟨X,6,none⟩=some (.int .u32 (x.cycle:Int))) (first | exact HY | exact HA _ | (go_keep;done)) (first
  | (go_at_call 150;refine (hO0 _).mono ?_;clear hO0;rintro e w10 ⟨rfl,b10⟩;have hbz:=belT (by repeat' (first | exact hbz | apply Below.drew | apply belA)) b10;have HY:=HS.out _ hbz;have HA:=fun o=>HS.out _ (belA hbz (o:=o));clear b10)
  | (go_at_call 86;refine (hP0 _ _ (heap_alloc_new _ _)).mono ?_;clear hP0;rintro e w50 ⟨u50,rfl,o50⟩;obtain ⟨a50,q50,rfl⟩:=qam o50.1;have b50:=o50.2;have hbz:=belT (by repeat' (first | exact hbz | apply Below.drew | apply belA)) b50;have hs0:=qba o50.1;have HY:=HS.out _ hbz;have HA:=fun o=>HS.out _ (belA hbz (o:=o));clear b50 o50)
  | (go_at_call 157;refine (hP1 _).mono ?_;clear hP1;rintro e w51 ⟨u51,rfl,o51⟩;obtain ⟨a51,q51,rfl⟩:=qam o51.1;have b51:=o51.2;have hs0:=qad (by repeat' (first | exact hs0 | apply qbp | apply World.ownsRow.drew)) b51;have hbz:=belT (by repeat' (first | exact hbz | apply Below.drew | apply belA)) b51;have hs1:=qba o51.1;have HY:=HS.out _ hbz;have HA:=fun o=>HS.out _ (belA hbz (o:=o));clear b51 o51)
  | (go_at_call 155;refine (hO1 _).mono ?_;clear hO1;rintro e w11 ⟨rfl,b11⟩;have hs0:=qad (by repeat' (first | exact hs0 | apply qbp | apply World.ownsRow.drew)) b11;have hs1:=qad (by repeat' (first | exact hs1 | apply qbp | apply World.ownsRow.drew)) b11;have hbz:=belT (by repeat' (first | exact hbz | apply Below.drew | apply belA)) b11;have HY:=HS.out _ hbz;have HA:=fun o=>HS.out _ (belA hbz (o:=o));clear b11)
  | (go_at_call 152;refine (hO2 _).mono ?_;clear hO2;rintro e w12 ⟨rfl,b12⟩;have hs0:=qad (by repeat' (first | exact hs0 | apply qbp | apply World.ownsRow.drew)) b12;have hs1:=qad (by repeat' (first | exact hs1 | apply qbp | apply World.ownsRow.drew)) b12;have hbz:=belT (by repeat' (first | exact hbz | apply Below.drew | apply belA)) b12;have HY:=HS.out _ hbz;have HA:=fun o=>HS.out _ (belA hbz (o:=o));clear b12)
  | (go_at_call 152;refine (hO3 _).mono ?_;clear hO3;rintro e w13 ⟨rfl,b13⟩;have hs0:=qad (by repeat' (first | exact hs0 | apply qbp | apply World.ownsRow.drew)) b13;have hs1:=qad (by repeat' (first | exact hs1 | apply qbp | apply World.ownsRow.drew)) b13;have hbz:=belT (by repeat' (first | exact hbz | apply Below.drew | apply belA)) b13;have HY:=HS.out _ hbz;have HA:=fun o=>HS.out _ (belA hbz (o:=o));clear b13)
  | (go_at_call 86;refine (hP2 _ _ (heap_alloc_new _ _)).mono ?_;clear hP2;rintro e w52 ⟨u52,rfl,o52⟩;obtain ⟨a52,q52,rfl⟩:=qam o52.1;have b52:=o52.2;have hs0:=qad (by repeat' (first | exact hs0 | apply qbp | apply World.ownsRow.drew)) b52;have hs1:=qad (by repeat' (first | exact hs1 | apply qbp | apply World.ownsRow.drew)) b52;have hbz:=belT (by repeat' (first | exact hbz | apply Below.drew | apply belA)) b52;have hs2:=qba o52.1;have HY:=HS.out _ hbz;have HA:=fun o=>HS.out _ (belA hbz (o:=o));clear b52 o52)
  | (go_at_call 83;refine (cat3 (w:=w1) (by repeat' (first | exact hbz | apply Below.drew | apply belA)) (heap_alloc_new _ _) (by repeat' (first | exact hs0 | apply qbp | apply World.ownsRow.drew)) (by repeat' (first | exact hs1 | apply qbp | apply World.ownsRow.drew)) (by repeat' (first | exact hs2 | apply qbp | apply World.ownsRow.drew)) HLEN.out).mono ?_;rintro e w9 ⟨u,rfl,o9⟩;have K9:Hid (OwB w1 w9 u ((putB [(x.ctr,1)])++((eAc x.ac)++(putB [((x.auto:Int),1),((x.time:Int),4),((x.cycle:Int),4)])))):=o9;have HY:=HS.out w9 K9.out.2;have HA:=fun o=>HS.out _ (belA K9.out.2 (o:=o));clear o9))
 go_wp2;go_ret;have:=qc9 HB.out K9.out;rw [HE.out] at this;exact ⟨_,rfl,this⟩
theorem qqt (w:World) (tb:Tb) (v:Ts) (h:TbAt w tb v) {j:Nat} {x:MsR} (hx:tb.msgs[j]?=some x) (ok:okMs x):Calls Tryz.prog 82 #[.agg (tbC tb v),I j] w fun e w'=>∃u,e=.returned u∧OwB w w' u (eMs x):=by
 have hO0:=fun W=>qrf W x.kind (i1 ok.1).1 (i1 ok.1).2
 have hO1:=fun W=>qbq W x.len (i1 ok.2.1).1 (i1 ok.2.1).2
 have hO2:=fun W=>qbq W x.frm (i1 ok.2.2.1).1 (i1 ok.2.2.1).2
 have hO3:=fun W=>qmw W (x.init:Int) (n8 ok.2.2.2.1).1 (n8 ok.2.2.2.1).2
 have hO4:=fun W=>qbq W x.queue (i1 ok.2.2.2.2.1).1 (i1 ok.2.2.2.2.1).2
 have HO0:Hid (∀y∈[(x.kind,1),(x.len,1),(x.frm,1),((x.init:Int),8),(x.queue,1)],okC y):=by
  intro y hx;simp only [List.mem_cons,List.not_mem_nil,or_false] at hx;rcases hx with rfl | rfl | rfl | rfl | rfl
  ·exact okC1 ok.1
  ·exact okC1 ok.2.1
  ·exact okC1 ok.2.2.1
  ·exact okC8 ok.2.2.2.1
  ·exact okC1 ok.2.2.2.2.1
 have hP0:=fun (W:World) (X:Nat) h=>qcl (W:=W) (X:=X) (n:=5) [(x.kind,1),(x.len,1),(x.frm,1),((x.init:Int),8),(x.queue,1)] h rfl HO0.out (by simp)
 have hP1:=fun W=>qh9 W x.ac ok.2.2.2.2.2
 have HE:Hid ((putB [(x.kind,1),(x.len,1),(x.frm,1),((x.init:Int),8),(x.queue,1)])++(eAc x.ac)=eMs x):=by show _=_;simp [putB,eMs,e1]
 have HLEN:Hid ((putB [(x.kind,1),(x.len,1),(x.frm,1),((x.init:Int),8),(x.queue,1)]).length+(eAc x.ac).length≤1000000):=by
  show _≤_;rw [←List.length_append,HE.out];simp only [eMs,eAc,e1,List.length_append,qa8];omega
 have hb0:=qa0 w (.cells (qC tb v) 133);have hV0:=heap_alloc_new w (.cells (qC tb v) 133);obtain ⟨g,off,ea,hg,d0,d1,d2,d3,d4,d5,d6,d7⟩:=qf7 (h.below hb0) hx;have cF:(w.alloc (.cells (qC tb v) 133)).cell? ⟨w.heap.size,8,none⟩=some (.slice (some ⟨g,off,none⟩) v.s.n v.s.c):=by rw [←ea,qcr hV0];rfl
 have hjn:(j:Int) < v.s.n:=by have:=h.s.n;have:=(List.getElem?_eq_some_iff.1 hx).1;omega
 have hb1:=qa0 (w.alloc (.cells (qC tb v) 133)) (.cells #[I x.kind,I x.len,I x.frm,.int .u64 (x.init:Int),I x.queue,I x.ac.kind,I x.ac.task,.int .u32 (x.ac.mask:Int)] 87);have hV1:=heap_alloc_new (w.alloc (.cells (qC tb v) 133)) (.cells #[I x.kind,I x.len,I x.frm,.int .u64 (x.init:Int),I x.queue,I x.ac.kind,I x.ac.task,.int .u32 (x.ac.mask:Int)] 87);have HB:Hid (qB w ((w.alloc (.cells (qC tb v) 133)).alloc (.cells #[I x.kind,I x.len,I x.frm,.int .u64 (x.init:Int),I x.queue,I x.ac.kind,I x.ac.task,.int .u32 (x.ac.mask:Int)] 87))):=belT hb0 hb1;have HS0:Hid (∀W,qB ((w.alloc (.cells (qC tb v) 133)).alloc (.cells #[I x.kind,I x.len,I x.frm,.int .u64 (x.init:Int),I x.queue,I x.ac.kind,I x.ac.task,.int .u32 (x.ac.mask:Int)] 87)) W→(fun X=>W.cell? ⟨X,0,none⟩=some (I x.kind)∧W.cell? ⟨X,1,none⟩=some (I x.len)∧W.cell? ⟨X,2,none⟩=some (I x.frm)∧W.cell? ⟨X,3,none⟩=some (.int .u64 (x.init:Int))∧W.cell? ⟨X,4,none⟩=some (I x.queue)∧W.cell? ⟨X,5,none⟩=some (I x.ac.kind)∧W.cell? ⟨X,6,none⟩=some (I x.ac.task)∧W.cell? ⟨X,7,none⟩=some (.int .u32 (x.ac.mask:Int))) (w.alloc (.cells (qC tb v) 133)).heap.size):=fun W hW=>by
  have q:=(hW.block _ (qa6 hV1)).trans hV1;refine ⟨?_,?_,?_,?_,?_,?_,?_,?_⟩ <;> (rw [qcr q];rfl)
 unfold tbC;clear hb0 hV0 hb1 hV1 ea hg hx;go_enter Tryz.func82,Tryz.ntmps82
 go_upto_region 1 with fail;generalize w.alloc (.cells (qC tb v) 133)=w0 at *;go_upto_region 2 with fail;clear cF d0 d1 d2 d3 d4 d5 d6 d7;generalize w0.alloc (.cells #[I x.kind,I x.len,I x.frm,.int .u64 (x.init:Int),I x.queue,I x.ac.kind,I x.ac.task,.int .u32 (x.ac.mask:Int)] 87)=w1 at *;generalize w0.heap.size=X at *;have HS:Hid (∀W,qB w1 W→W.cell? ⟨X,0,none⟩=some (I x.kind)∧W.cell? ⟨X,1,none⟩=some (I x.len)∧W.cell? ⟨X,2,none⟩=some (I x.frm)∧W.cell? ⟨X,3,none⟩=some (.int .u64 (x.init:Int))∧W.cell? ⟨X,4,none⟩=some (I x.queue)∧W.cell? ⟨X,5,none⟩=some (I x.ac.kind)∧W.cell? ⟨X,6,none⟩=some (I x.ac.task)∧W.cell? ⟨X,7,none⟩=some (.int .u32 (x.ac.mask:Int))):=HS0.out;have hbz:qB w1 w1:=Below.refl _ _;have HY:=HS.out w1 hbz;go_region_held_law (fun W=>W.cell? ⟨X,0,none⟩=some (I x.kind)∧W.cell? ⟨X,1,none⟩=some (I x.len)∧W.cell? ⟨X,2,none⟩=some (I x.frm)∧W.cell? ⟨X,3,none⟩=some (.int .u64 (x.init:Int))∧W.cell? ⟨X,4,none⟩=some (I x.queue)∧W.cell? ⟨X,5,none⟩=some (I x.ac.kind)∧W.cell? ⟨X,6,none⟩=some (I x.ac.task)∧W.cell? ⟨X,7,none⟩=some (.int .u32 (x.ac.mask:Int))) (first | exact HY | exact HA _ | (go_keep;done)) (first
  | (go_at_call 158;refine (hO0 _).mono ?_;clear hO0;rintro e w10 ⟨rfl,b10⟩;have hbz:=belT (by repeat' (first | exact hbz | apply Below.drew | apply belA)) b10;have HY:=HS.out _ hbz;have HA:=fun o=>HS.out _ (belA hbz (o:=o));clear b10)
  | (go_at_call 150;refine (hO1 _).mono ?_;clear hO1;rintro e w11 ⟨rfl,b11⟩;have hbz:=belT (by repeat' (first | exact hbz | apply Below.drew | apply belA)) b11;have HY:=HS.out _ hbz;have HA:=fun o=>HS.out _ (belA hbz (o:=o));clear b11)
  | (go_at_call 150;refine (hO2 _).mono ?_;clear hO2;rintro e w12 ⟨rfl,b12⟩;have hbz:=belT (by repeat' (first | exact hbz | apply Below.drew | apply belA)) b12;have HY:=HS.out _ hbz;have HA:=fun o=>HS.out _ (belA hbz (o:=o));clear b12)
  | (go_at_call 159;refine (hO3 _).mono ?_;clear hO3;rintro e w13 ⟨rfl,b13⟩;have hbz:=belT (by repeat' (first | exact hbz | apply Below.drew | apply belA)) b13;have HY:=HS.out _ hbz;have HA:=fun o=>HS.out _ (belA hbz (o:=o));clear b13)
  | (go_at_call 150;refine (hO4 _).mono ?_;clear hO4;rintro e w14 ⟨rfl,b14⟩;have hbz:=belT (by repeat' (first | exact hbz | apply Below.drew | apply belA)) b14;have HY:=HS.out _ hbz;have HA:=fun o=>HS.out _ (belA hbz (o:=o));clear b14)
  | (go_at_call 86;refine (hP0 _ _ (heap_alloc_new _ _)).mono ?_;clear hP0;rintro e w50 ⟨u50,rfl,o50⟩;obtain ⟨a50,q50,rfl⟩:=qam o50.1;have b50:=o50.2;have hbz:=belT (by repeat' (first | exact hbz | apply Below.drew | apply belA)) b50;have hs0:=qba o50.1;have HY:=HS.out _ hbz;have HA:=fun o=>HS.out _ (belA hbz (o:=o));clear b50 o50)
  | (go_at_call 157;refine (hP1 _).mono ?_;clear hP1;rintro e w51 ⟨u51,rfl,o51⟩;obtain ⟨a51,q51,rfl⟩:=qam o51.1;have b51:=o51.2;have hs0:=qad (by repeat' (first | exact hs0 | apply qbp | apply World.ownsRow.drew)) b51;have hbz:=belT (by repeat' (first | exact hbz | apply Below.drew | apply belA)) b51;have hs1:=qba o51.1;have HY:=HS.out _ hbz;have HA:=fun o=>HS.out _ (belA hbz (o:=o));clear b51 o51)
  | (go_at_call 83;refine (cat2 (w:=w1) (by repeat' (first | exact hbz | apply Below.drew | apply belA)) (heap_alloc_new _ _) (by repeat' (first | exact hs0 | apply qbp | apply World.ownsRow.drew)) (by repeat' (first | exact hs1 | apply qbp | apply World.ownsRow.drew)) HLEN.out).mono ?_;rintro e w9 ⟨u,rfl,o9⟩;have K9:Hid (OwB w1 w9 u ((putB [(x.kind,1),(x.len,1),(x.frm,1),((x.init:Int),8),(x.queue,1)])++(eAc x.ac))):=o9;have HY:=HS.out w9 K9.out.2;have HA:=fun o=>HS.out _ (belA K9.out.2 (o:=o));clear o9))
 go_wp2;go_ret;have:=qc9 HB.out K9.out;rw [HE.out] at this;exact ⟨_,rfl,this⟩
theorem qqu (w:World) (tb:Tb) (v:Ts) (h:TbAt w tb v) {j:Nat} {x:IsR} (hx:tb.isrs[j]?=some x) (ok:okIs x):Calls Tryz.prog 81 #[.agg (tbC tb v),I j] w fun e w'=>∃u,e=.returned u∧OwB w w' u (eIs x):=by
 have hO0:=fun W=>qbq W x.cat (i1 ok.1).1 (i1 ok.1).2
 have hO1:=fun W=>qbq W x.prio (i1 ok.2.1).1 (i1 ok.2.1).2
 have HO0:Hid (∀y∈[(x.cat,1),(x.prio,1)],okC y):=by
  intro y hx;simp only [List.mem_cons,List.not_mem_nil,or_false] at hx;rcases hx with rfl | rfl
  ·exact okC1 ok.1
  ·exact okC1 ok.2.1
 have hP0:=fun (W:World) (X:Nat) h=>qcl (W:=W) (X:=X) (n:=2) [(x.cat,1),(x.prio,1)] h rfl HO0.out (by simp)
 have HE:Hid ((putB [(x.cat,1),(x.prio,1)])++(eL x.own)=eIs x):=by show _=_;simp [putB,eIs,e1]
 have HLEN:Hid ((putB [(x.cat,1),(x.prio,1)]).length+(eL x.own).length≤1000000):=by
  show _≤_;rw [←List.length_append,HE.out];have:=ok.2.2.1;simp only [eIs,e1,List.length_append,qa8,qf8];omega
 have hb0:=qa0 w (.cells (qC tb v) 133);have hV0:=heap_alloc_new w (.cells (qC tb v) 133);obtain ⟨g,off,s2,ea,hg,d0,d1,d2,hs2⟩:=qdj (h.below hb0) hx;have cF:(w.alloc (.cells (qC tb v) 133)).cell? ⟨w.heap.size,7,none⟩=some (.slice (some ⟨g,off,none⟩) v.i.n v.i.c):=by rw [←ea,qcr hV0];rfl
 have hjn:(j:Int) < v.i.n:=by have:=h.i.n;have:=(List.getElem?_eq_some_iff.1 hx).1;omega
 have hb1:=qa0 (w.alloc (.cells (qC tb v) 133)) (.cells #[I x.cat,I x.prio,.slice s2.a s2.n s2.c] 84);have hV1:=heap_alloc_new (w.alloc (.cells (qC tb v) 133)) (.cells #[I x.cat,I x.prio,.slice s2.a s2.n s2.c] 84);have HB:Hid (qB w ((w.alloc (.cells (qC tb v) 133)).alloc (.cells #[I x.cat,I x.prio,.slice s2.a s2.n s2.c] 84))):=belT hb0 hb1;have HS0:Hid (∀W,qB ((w.alloc (.cells (qC tb v) 133)).alloc (.cells #[I x.cat,I x.prio,.slice s2.a s2.n s2.c] 84)) W→(fun X=>W.cell? ⟨X,0,none⟩=some (I x.cat)∧W.cell? ⟨X,1,none⟩=some (I x.prio)∧W.cell? ⟨X,2,none⟩=some (.slice s2.a s2.n s2.c)) (w.alloc (.cells (qC tb v) 133)).heap.size):=fun W hW=>by
  have q:=(hW.block _ (qa6 hV1)).trans hV1;refine ⟨?_,?_,?_⟩ <;> (rw [qcr q];rfl)
 have hP1:∀W,qB ((w.alloc (.cells (qC tb v) 133)).alloc (.cells #[I x.cat,I x.prio,.slice s2.a s2.n s2.c] 84)) W→Calls Tryz.prog 154 #[slT s2] W fun e w'=>∃u,e=.returned u∧OwB W w' u (eL x.own):=fun W hW=>qjj W s2 x.own ((hs2.below hb1 (fun _ _ _ _ h=>h)).below hW (fun _ _ _ _ h=>h)) ok.2.2.1 ok.2.2.2
 unfold tbC;clear hb0 hV0 hb1 hV1 ea hg hx hs2;go_enter Tryz.func81,Tryz.ntmps81
 go_upto_region 1 with fail;generalize w.alloc (.cells (qC tb v) 133)=w0 at *;go_upto_region 2 with fail;clear cF d0 d1 d2;generalize w0.alloc (.cells #[I x.cat,I x.prio,.slice s2.a s2.n s2.c] 84)=w1 at *;generalize w0.heap.size=X at *;have HS:Hid (∀W,qB w1 W→W.cell? ⟨X,0,none⟩=some (I x.cat)∧W.cell? ⟨X,1,none⟩=some (I x.prio)∧W.cell? ⟨X,2,none⟩=some (.slice s2.a s2.n s2.c)):=HS0.out;have hbz:qB w1 w1:=Below.refl _ _;have HY:=HS.out w1 hbz;go_region_held_law (fun W=>W.cell? ⟨X,0,none⟩=some (I x.cat)∧W.cell? ⟨X,1,none⟩=some (I x.prio)∧W.cell? ⟨X,2,none⟩=some (.slice s2.a s2.n s2.c)) (first | exact HY | exact HA _ | (go_keep;done)) (first
  | (go_at_call 150;refine (hO0 _).mono ?_;clear hO0;rintro e w10 ⟨rfl,b10⟩;have hbz:=belT (by repeat' (first | exact hbz | apply Below.drew | apply belA)) b10;have HY:=HS.out _ hbz;have HA:=fun o=>HS.out _ (belA hbz (o:=o));clear b10)
  | (go_at_call 150;refine (hO1 _).mono ?_;clear hO1;rintro e w11 ⟨rfl,b11⟩;have hbz:=belT (by repeat' (first | exact hbz | apply Below.drew | apply belA)) b11;have HY:=HS.out _ hbz;have HA:=fun o=>HS.out _ (belA hbz (o:=o));clear b11)
  | (go_at_call 86;refine (hP0 _ _ (heap_alloc_new _ _)).mono ?_;clear hP0;rintro e w50 ⟨u50,rfl,o50⟩;obtain ⟨a50,q50,rfl⟩:=qam o50.1;have b50:=o50.2;have hbz:=belT (by repeat' (first | exact hbz | apply Below.drew | apply belA)) b50;have hs0:=qba o50.1;have HY:=HS.out _ hbz;have HA:=fun o=>HS.out _ (belA hbz (o:=o));clear b50 o50)
  | (go_at_call 154;refine (hP1 _ (by repeat' (first | exact hbz | apply Below.drew | apply belA))).mono ?_;clear hP1;rintro e w51 ⟨u51,rfl,o51⟩;obtain ⟨a51,q51,rfl⟩:=qam o51.1;have b51:=o51.2;have hs0:=qad (by repeat' (first | exact hs0 | apply qbp | apply World.ownsRow.drew)) b51;have hbz:=belT (by repeat' (first | exact hbz | apply Below.drew | apply belA)) b51;have hs1:=qba o51.1;have HY:=HS.out _ hbz;have HA:=fun o=>HS.out _ (belA hbz (o:=o));clear b51 o51)
  | (go_at_call 83;refine (cat2 (w:=w1) (by repeat' (first | exact hbz | apply Below.drew | apply belA)) (heap_alloc_new _ _) (by repeat' (first | exact hs0 | apply qbp | apply World.ownsRow.drew)) (by repeat' (first | exact hs1 | apply qbp | apply World.ownsRow.drew)) HLEN.out).mono ?_;rintro e w9 ⟨u,rfl,o9⟩;have K9:Hid (OwB w1 w9 u ((putB [(x.cat,1),(x.prio,1)])++(eL x.own))):=o9;have HY:=HS.out w9 K9.out.2;have HA:=fun o=>HS.out _ (belA K9.out.2 (o:=o));clear o9))
 go_wp2;go_ret;have:=qc9 HB.out K9.out;rw [HE.out] at this;exact ⟨_,rfl,this⟩
theorem qqv (w:World) (tb:Tb) (v:Ts) (h:TbAt w tb v) {j:Nat} {x:TkR} (hx:tb.tasks[j]?=some x) (ok:okTk x):Calls Tryz.prog 76 #[.agg (tbC tb v),I j] w fun e w'=>∃u,e=.returned u∧OwB w w' u (eTk x):=by
 have hO0:=fun W=>qbq W x.prio (i1 ok.1).1 (i1 ok.1).2
 have hO1:=fun W=>qbq W x.ring (i1 ok.2.1).1 (i1 ok.2.1).2
 have hO2:=fun W=>qje W x.full
 have hO3:=fun W=>qbq W x.limit (i1 ok.2.2.1).1 (i1 ok.2.2.1).2
 have hO4:=fun W=>qdo W (x.mask:Int) (n4 ok.2.2.2.1).1 (n4 ok.2.2.2.1).2
 have hO5:=fun W=>qi5 W x.inner ok.2.2.2.2.1.1 (by have:=ok.2.2.2.2.1.2;omega)
 have HO0:Hid (∀y∈[(x.prio,1),(x.ring,1),((flI x.full),1),(x.limit,1),((x.mask:Int),4),((x.inner+1),1)],okC y):=by
  intro y hx;simp only [List.mem_cons,List.not_mem_nil,or_false] at hx;rcases hx with rfl | rfl | rfl | rfl | rfl | rfl
  ·exact okC1 ok.1
  ·exact okC1 ok.2.1
  ·exact okCF _
  ·exact okC1 ok.2.2.1
  ·exact okC4 ok.2.2.2.1
  ·exact okC1 ok.2.2.2.2.1
 have hP0:=fun (W:World) (X:Nat) h=>qcl (W:=W) (X:=X) (n:=6) [(x.prio,1),(x.ring,1),((flI x.full),1),(x.limit,1),((x.mask:Int),4),((x.inner+1),1)] h rfl HO0.out (by simp)
 have hO6:=fun W=>qku W (x.auto:Int) (n1 ok.2.2.2.2.2.2).1 (n1 ok.2.2.2.2.2.2).2
 have HO2:Hid (∀y∈[((x.auto:Int),1)],okC y):=by
  intro y hx;simp only [List.mem_cons,List.not_mem_nil,or_false] at hx;rcases hx with rfl
  ·exact qpn ok.2.2.2.2.2.2
 have hP2:=fun (W:World) (X:Nat) h=>qcl (W:=W) (X:=X) (n:=1) [((x.auto:Int),1)] h rfl HO2.out (by simp)
 have HE:Hid ((putB [(x.prio,1),(x.ring,1),((flI x.full),1),(x.limit,1),((x.mask:Int),4),((x.inner+1),1)])++((eL x.own)++(putB [((x.auto:Int),1)]))=eTk x):=by show _=_;simp [putB,eTk,eF,e1];cases x.full <;> rfl
 have HLEN:Hid ((putB [(x.prio,1),(x.ring,1),((flI x.full),1),(x.limit,1),((x.mask:Int),4),((x.inner+1),1)]).length+((eL x.own).length+(putB [((x.auto:Int),1)]).length)≤1000000):=by
  show _≤_;rw [←List.length_append,←List.length_append,HE.out];have:=ok.2.2.2.2.2.1.1;simp only [eTk,eF,e1,List.length_append,qa8,qf8];omega
 have hb0:=qa0 w (.cells (qC tb v) 133);have hV0:=heap_alloc_new w (.cells (qC tb v) 133);obtain ⟨g,off,s2,ea,hg,d0,d1,d2,d3,d4,d5,d6,d7,hs2⟩:=qdi (h.below hb0) hx;have cF:(w.alloc (.cells (qC tb v) 133)).cell? ⟨w.heap.size,2,none⟩=some (.slice (some ⟨g,off,none⟩) v.t.n v.t.c):=by rw [←ea,qcr hV0];rfl
 have hjn:(j:Int) < v.t.n:=by have:=h.t.n;have:=(List.getElem?_eq_some_iff.1 hx).1;omega
 have hb1:=qa0 (w.alloc (.cells (qC tb v) 133)) (.cells #[I x.prio,I x.ring,.bool x.full,I x.limit,.int .u32 (x.mask:Int),I x.inner,.slice s2.a s2.n s2.c,.int .u32 (x.auto:Int)] 71);have hV1:=heap_alloc_new (w.alloc (.cells (qC tb v) 133)) (.cells #[I x.prio,I x.ring,.bool x.full,I x.limit,.int .u32 (x.mask:Int),I x.inner,.slice s2.a s2.n s2.c,.int .u32 (x.auto:Int)] 71);have HB:Hid (qB w ((w.alloc (.cells (qC tb v) 133)).alloc (.cells #[I x.prio,I x.ring,.bool x.full,I x.limit,.int .u32 (x.mask:Int),I x.inner,.slice s2.a s2.n s2.c,.int .u32 (x.auto:Int)] 71))):=belT hb0 hb1;have HS0:Hid (∀W,qB ((w.alloc (.cells (qC tb v) 133)).alloc (.cells #[I x.prio,I x.ring,.bool x.full,I x.limit,.int .u32 (x.mask:Int),I x.inner,.slice s2.a s2.n s2.c,.int .u32 (x.auto:Int)] 71)) W→(fun X=>W.cell? ⟨X,0,none⟩=some (I x.prio)∧W.cell? ⟨X,1,none⟩=some (I x.ring)∧W.cell? ⟨X,2,none⟩=some (.bool x.full)∧W.cell? ⟨X,3,none⟩=some (I x.limit)∧W.cell? ⟨X,4,none⟩=some (.int .u32 (x.mask:Int))∧W.cell? ⟨X,5,none⟩=some (I x.inner)∧W.cell? ⟨X,6,none⟩=some (.slice s2.a s2.n s2.c)∧W.cell? ⟨X,7,none⟩=some (.int .u32 (x.auto:Int))) (w.alloc (.cells (qC tb v) 133)).heap.size):=fun W hW=>by
  have q:=(hW.block _ (qa6 hV1)).trans hV1;refine ⟨?_,?_,?_,?_,?_,?_,?_,?_⟩ <;> (rw [qcr q];rfl)
 have hP1:∀W,qB ((w.alloc (.cells (qC tb v) 133)).alloc (.cells #[I x.prio,I x.ring,.bool x.full,I x.limit,.int .u32 (x.mask:Int),I x.inner,.slice s2.a s2.n s2.c,.int .u32 (x.auto:Int)] 71)) W→Calls Tryz.prog 154 #[slT s2] W fun e w'=>∃u,e=.returned u∧OwB W w' u (eL x.own):=fun W hW=>qjj W s2 x.own ((hs2.below hb1 (fun _ _ _ _ h=>h)).below hW (fun _ _ _ _ h=>h)) ok.2.2.2.2.2.1.1 ok.2.2.2.2.2.1.2
 unfold tbC;clear hb0 hV0 hb1 hV1 ea hg hx hs2;go_enter Tryz.func76,Tryz.ntmps76
 go_upto_region 1 with fail;generalize w.alloc (.cells (qC tb v) 133)=w0 at *;go_upto_region 2 with fail;clear cF d0 d1 d2 d3 d4 d5 d6 d7;generalize w0.alloc (.cells #[I x.prio,I x.ring,.bool x.full,I x.limit,.int .u32 (x.mask:Int),I x.inner,.slice s2.a s2.n s2.c,.int .u32 (x.auto:Int)] 71)=w1 at *;generalize w0.heap.size=X at *;have HS:Hid (∀W,qB w1 W→W.cell? ⟨X,0,none⟩=some (I x.prio)∧W.cell? ⟨X,1,none⟩=some (I x.ring)∧W.cell? ⟨X,2,none⟩=some (.bool x.full)∧W.cell? ⟨X,3,none⟩=some (I x.limit)∧W.cell? ⟨X,4,none⟩=some (.int .u32 (x.mask:Int))∧W.cell? ⟨X,5,none⟩=some (I x.inner)∧W.cell? ⟨X,6,none⟩=some (.slice s2.a s2.n s2.c)∧W.cell? ⟨X,7,none⟩=some (.int .u32 (x.auto:Int))):=HS0.out;have hbz:qB w1 w1:=Below.refl _ _;have HY:=HS.out w1 hbz;go_region_held_law (fun W=>W.cell? ⟨X,0,none⟩=some (I x.prio)∧W.cell? ⟨X,1,none⟩=some (I x.ring)∧W.cell? ⟨X,2,none⟩=some (.bool x.full)∧W.cell? ⟨X,3,none⟩=some (I x.limit)∧W.cell? ⟨X,4,none⟩=some (.int .u32 (x.mask:Int))∧W.cell? ⟨X,5,none⟩=some (I x.inner)∧W.cell? ⟨X,6,none⟩=some (.slice s2.a s2.n s2.c)∧W.cell? ⟨X,7,none⟩=some (.int .u32 (x.auto:Int))) (first | exact HY | exact HA _ | (go_keep;done)) (first
  | (go_at_call 150;refine (hO0 _).mono ?_;clear hO0;rintro e w10 ⟨rfl,b10⟩;have hbz:=belT (by repeat' (first | exact hbz | apply Below.drew | apply belA)) b10;have HY:=HS.out _ hbz;have HA:=fun o=>HS.out _ (belA hbz (o:=o));clear b10)
  | (go_at_call 150;refine (hO1 _).mono ?_;clear hO1;rintro e w11 ⟨rfl,b11⟩;have hbz:=belT (by repeat' (first | exact hbz | apply Below.drew | apply belA)) b11;have HY:=HS.out _ hbz;have HA:=fun o=>HS.out _ (belA hbz (o:=o));clear b11)
  | (go_at_call 151;refine (hO2 _).mono ?_;clear hO2;rintro e w12 ⟨rfl,b12⟩;have hbz:=belT (by repeat' (first | exact hbz | apply Below.drew | apply belA)) b12;have HY:=HS.out _ hbz;have HA:=fun o=>HS.out _ (belA hbz (o:=o));clear b12)
  | (go_at_call 150;refine (hO3 _).mono ?_;clear hO3;rintro e w13 ⟨rfl,b13⟩;have hbz:=belT (by repeat' (first | exact hbz | apply Below.drew | apply belA)) b13;have HY:=HS.out _ hbz;have HA:=fun o=>HS.out _ (belA hbz (o:=o));clear b13)
  | (go_at_call 152;refine (hO4 _).mono ?_;clear hO4;rintro e w14 ⟨rfl,b14⟩;have hbz:=belT (by repeat' (first | exact hbz | apply Below.drew | apply belA)) b14;have HY:=HS.out _ hbz;have HA:=fun o=>HS.out _ (belA hbz (o:=o));clear b14)
  | (go_at_call 153;refine (hO5 _).mono ?_;clear hO5;rintro e w15 ⟨rfl,b15⟩;have hbz:=belT (by repeat' (first | exact hbz | apply Below.drew | apply belA)) b15;have HY:=HS.out _ hbz;have HA:=fun o=>HS.out _ (belA hbz (o:=o));clear b15)
  | (go_at_call 86;refine (hP0 _ _ (heap_alloc_new _ _)).mono ?_;clear hP0;rintro e w50 ⟨u50,rfl,o50⟩;obtain ⟨a50,q50,rfl⟩:=qam o50.1;have b50:=o50.2;have hbz:=belT (by repeat' (first | exact hbz | apply Below.drew | apply belA)) b50;have hs0:=qba o50.1;have HY:=HS.out _ hbz;have HA:=fun o=>HS.out _ (belA hbz (o:=o));clear b50 o50))
 go_upto_region 3 with fail;go_region_held_law (fun W=>W.cell? ⟨X,0,none⟩=some (I x.prio)∧W.cell? ⟨X,1,none⟩=some (I x.ring)∧W.cell? ⟨X,2,none⟩=some (.bool x.full)∧W.cell? ⟨X,3,none⟩=some (I x.limit)∧W.cell? ⟨X,4,none⟩=some (.int .u32 (x.mask:Int))∧W.cell? ⟨X,5,none⟩=some (I x.inner)∧W.cell? ⟨X,6,none⟩=some (.slice s2.a s2.n s2.c)∧W.cell? ⟨X,7,none⟩=some (.int .u32 (x.auto:Int))) (first | exact HY | exact HA _ | (go_keep;done)) (first
  | (go_at_call 154;refine (hP1 _ (by repeat' (first | exact hbz | apply Below.drew | apply belA))).mono ?_;clear hP1;rintro e w51 ⟨u51,rfl,o51⟩;obtain ⟨a51,q51,rfl⟩:=qam o51.1;have b51:=o51.2;have hs0:=qad (by repeat' (first | exact hs0 | apply qbp | apply World.ownsRow.drew)) b51;have hbz:=belT (by repeat' (first | exact hbz | apply Below.drew | apply belA)) b51;have hs1:=qba o51.1;have HY:=HS.out _ hbz;have HA:=fun o=>HS.out _ (belA hbz (o:=o));clear b51 o51)
  | (go_at_call 155;refine (hO6 _).mono ?_;clear hO6;rintro e w16 ⟨rfl,b16⟩;have hs0:=qad (by repeat' (first | exact hs0 | apply qbp | apply World.ownsRow.drew)) b16;have hs1:=qad (by repeat' (first | exact hs1 | apply qbp | apply World.ownsRow.drew)) b16;have hbz:=belT (by repeat' (first | exact hbz | apply Below.drew | apply belA)) b16;have HY:=HS.out _ hbz;have HA:=fun o=>HS.out _ (belA hbz (o:=o));clear b16)
  | (go_at_call 86;refine (hP2 _ _ (heap_alloc_new _ _)).mono ?_;clear hP2;rintro e w52 ⟨u52,rfl,o52⟩;obtain ⟨a52,q52,rfl⟩:=qam o52.1;have b52:=o52.2;have hs0:=qad (by repeat' (first | exact hs0 | apply qbp | apply World.ownsRow.drew)) b52;have hs1:=qad (by repeat' (first | exact hs1 | apply qbp | apply World.ownsRow.drew)) b52;have hbz:=belT (by repeat' (first | exact hbz | apply Below.drew | apply belA)) b52;have hs2:=qba o52.1;have HY:=HS.out _ hbz;have HA:=fun o=>HS.out _ (belA hbz (o:=o));clear b52 o52)
  | (go_at_call 83;refine (cat3 (w:=w1) (by repeat' (first | exact hbz | apply Below.drew | apply belA)) (heap_alloc_new _ _) (by repeat' (first | exact hs0 | apply qbp | apply World.ownsRow.drew)) (by repeat' (first | exact hs1 | apply qbp | apply World.ownsRow.drew)) (by repeat' (first | exact hs2 | apply qbp | apply World.ownsRow.drew)) HLEN.out).mono ?_;rintro e w9 ⟨u,rfl,o9⟩;have K9:Hid (OwB w1 w9 u ((putB [(x.prio,1),(x.ring,1),((flI x.full),1),(x.limit,1),((x.mask:Int),4),((x.inner+1),1)])++((eL x.own)++(putB [((x.auto:Int),1)])))):=o9;have HY:=HS.out w9 K9.out.2;have HA:=fun o=>HS.out _ (belA K9.out.2 (o:=o));clear o9))
 go_wp2;go_ret;have:=qc9 HB.out K9.out;rw [HE.out] at this;exact ⟨_,rfl,this⟩
theorem qqw {tb:Tb} (h:chkP tb=true):tb.tasks.length≤1000∧tb.rings.length≤1000∧tb.ress.length≤1000∧tb.ctrs.length≤1000∧tb.als.length≤1000∧tb.isrs.length≤1000∧tb.msgs.length≤1000:=by
 unfold chkP at h;simp only [Bool.and_eq_true] at h;obtain ⟨⟨⟨⟨⟨⟨⟨⟨hc,hrs⟩,hrg⟩,htk⟩,hct⟩,hal⟩,his⟩,hf,hms⟩,hro⟩:=h;unfold qby at hc;simp only [Bool.and_eq_true,inI,decide_eq_true_eq] at hc;obtain ⟨⟨⟨hu,hmo⟩,hnt⟩,hn⟩:=hc;obtain ⟨rg1,rg2⟩:=qfy hrg;omega
def psOf (tb:Tb):List Pce:=[(1,1,qal tb (30+(qbz tb).length)),(2,tb.tasks.length,tb.tasks.flatMap eTk),(3,tb.rings.length,tb.rings.flatMap eRg),(4,tb.ress.length,tb.ress.flatMap eRs),(5,tb.ctrs.length,tb.ctrs.flatMap eCt),(6,tb.als.length,tb.als.flatMap eAl),(7,tb.isrs.length,tb.isrs.flatMap eIs),(8,tb.msgs.length,tb.msgs.flatMap eMs),(9,1,leB 2 (crc 65535 (eAll tb)))]
theorem qer {α:Type} (l:List α) (e:α→List UInt8):(l.map e).flatten=l.flatMap e:=rfl
theorem ql7 (tb:Tb):[tb.tasks.flatMap eTk,tb.rings.flatMap eRg,tb.ress.flatMap eRs,tb.ctrs.flatMap eCt,tb.als.flatMap eAl,tb.isrs.flatMap eIs,tb.msgs.flatMap eMs].flatten=qbz tb:=by simp [qbz]
theorem qqx (tb:Tb):Ob.crcs 65535 [qal tb (30+(qbz tb).length),qbz tb]=crc 65535 (eAll tb):=by
 rw [Ob.crcs_flatten];simp [eAll]
theorem qfn (tb:Tb):flP (psOf tb)=img tb:=by
 simp [flP,psOf,img,eAll,qbz]
theorem qt6 {tb:Tb} (h:(qbz tb).length≤100000):(tb.tasks.flatMap eTk).length≤1000000∧(tb.rings.flatMap eRg).length≤1000000∧(tb.ress.flatMap eRs).length≤1000000∧(tb.ctrs.flatMap eCt).length≤1000000∧(tb.als.flatMap eAl).length≤1000000∧(tb.isrs.flatMap eIs).length≤1000000∧(tb.msgs.flatMap eMs).length≤1000000:=by
 unfold qbz at h;simp only [List.length_append] at h;omega
theorem qhg (w:World) (tb:Tb) (v:Ts) (h:TbAt w tb v) (hw:WfT tb) (hc:chkP tb=true):Calls Tryz.prog 26 #[.agg (tbC tb v)] w fun e w'=>∃s,e=.returned (slT s)∧RowsAt w' 3 (pceP w') s (psOf tb)∧qB w w':=by
 obtain ⟨ok,hbody⟩:=qfz hc hw;obtain ⟨n1,n2,n3,n4,n5,n6,n7⟩:=qqw hc;obtain ⟨l1,l2,l3,l4,l5,l6,l7⟩:=qt6 hbody;have:=qkg w tb v (tb.tasks.map eTk) (tb.tasks.flatMap eTk) (tb.rings.map eRg) (tb.rings.flatMap eRg) (tb.ress.map eRs) (tb.ress.flatMap eRs) (tb.ctrs.map eCt) (tb.ctrs.flatMap eCt) (tb.als.map eAl) (tb.als.flatMap eAl) (tb.isrs.map eIs) (tb.isrs.flatMap eIs) (tb.msgs.map eMs) (tb.msgs.flatMap eMs) (qer _ _) (qer _ _) (qer _ _) (qer _ _) (qer _ _) (qer _ _) (qer _ _)
  (qe7 (w:=w) tb.tasks eTk v.t.n 76 h.t.n n1 (fun _ _=>rfl) (fun W hW j x hx=>qqv W tb v (h.below hW) hx (ok.r0 x (List.mem_of_getElem? hx))))
  (qe7 (w:=w) tb.rings eRg v.g.n 77 h.g.n n2 (fun _ _=>rfl) (fun W hW j x hx=>qqg W tb v (h.below hW) hx (ok.r1 x (List.mem_of_getElem? hx))))
  (qe7 (w:=w) tb.ress eRs v.r.n 78 h.r.n n3 (fun _ _=>rfl) (fun W hW j x hx=>qqh W tb v (h.below hW) hx (ok.r2 x (List.mem_of_getElem? hx))))
  (qe7 (w:=w) tb.ctrs eCt v.k.n 79 h.k.n n4 (fun _ _=>rfl) (fun W hW j x hx=>qqi W tb v (h.below hW) hx (ok.r3 x (List.mem_of_getElem? hx))))
  (qe7 (w:=w) tb.als eAl v.a.n 80 h.a.n n5 (fun _ _=>rfl) (fun W hW j x hx=>qqs W tb v (h.below hW) hx (ok.r4 x (List.mem_of_getElem? hx))))
  (qe7 (w:=w) tb.isrs eIs v.i.n 81 h.i.n n6 (fun _ _=>rfl) (fun W hW j x hx=>qqu W tb v (h.below hW) hx (ok.r5 x (List.mem_of_getElem? hx))))
  (qe7 (w:=w) tb.msgs eMs v.s.n 82 h.s.n n7 (fun _ _=>rfl) (fun W hW j x hx=>qqt W tb v (h.below hW) hx (ok.r6 x (List.mem_of_getElem? hx))))
  l1 l2 l3 l4 l5 l6 l7 (fun n W hn hW=>qnz W tb v (h.below hW) n hn ok) (by rw [ql7];omega)
 refine this.mono ?_;rintro e w' ⟨s,rfl,hr,hb⟩;refine ⟨s,rfl,?_,hb⟩;rw [ql7,qqx] at hr;simp only [List.length_map] at hr;exact hr
theorem qmb (w:World) (tb:Tb) (v:Ts) (h:TbAt w tb v) (hw:WfT tb) (hc:chkP tb=true):Calls Tryz.prog 28 #[.agg (tbC tb v)] w fun e w'=>∃u,e=.returned (.tuple #[u,I 0])∧OwB w w' u (img tb):=by
 have hl:(img tb).length≤1000000:=by
  have:=(qfz hc hw).2;rw [qg8];omega
 have:=qma w tb v h hw hc (psOf tb) (by rw [qfn];exact hl) (by simp [psOf]) (fun W hW=>qhg W tb v (h.below hW) hw hc);rwa [qfn] at this
end Go.Proofs.YtijgopkhdjaolabGreat
