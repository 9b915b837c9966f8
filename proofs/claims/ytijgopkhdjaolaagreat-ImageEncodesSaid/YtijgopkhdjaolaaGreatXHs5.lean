import Derived.Test.YtijgopkhdjaolaaGreatXHx
import Derived.Deep.RegionHeldLaw
import Derived.Test.YtijgopkhdjaolaaGreatHk
import Derived.Test.YtijgopkhdjaolaaGreatHi
namespace Go.Proofs.YtijgopkhdjaolaaGreat
open Go.RowKit Go.Shelf Go.Sort
open Go.Proofs.YtijgopkhdjaolaaGreat.Ob (leB leV qa8 qaj crc Rd RdAll qa9)
set_option linter.unusedSimpArgs false
set_option linter.unusedVariables false
set_option maxHeartbeats 16000000
set_option maxRecDepth 100000
theorem qbd {w:World} {base e size n:Nat} {v:Value} {xs:List Value} {o:Obj} (h:w.ownsRow base e size v n xs):(w.alloc o).ownsRow base e size v n xs:=h.alloc o
theorem n8 {v:Nat} (h:v < 256 ^ 8):(0:Int)≤v∧(v:Int) < 18446744073709551616:=by rw [show (256:Nat) ^ 8=18446744073709551616 from rfl] at h;omega
theorem qpp (w:World) (tb:Tb) (v:Ts) (h:TbAt w tb v) {j:Nat} {x:AlR} (hx:tb.als[j]?=some x) (ok:okAl x):Calls Tryz.prog 63 #[.agg (tbC tb v),I j] w fun e w'=>∃u,e=.returned u∧OwB w w' u (eAl x):=by
 have hO0:=fun W=>qbe W x.ctr (i1 ok.1).1 (i1 ok.1).2
 have HO0:Hid (∀y∈[(x.ctr,1)],okC y):=by
  intro y hx
  simp only [List.mem_cons,List.not_mem_nil,or_false] at hx
  rcases hx with rfl
  ·exact okC1 ok.1
 have hP0:=fun (W:World) (X:Nat) h=>qc2 (W:=W) (X:=X) (n:=1) [(x.ctr,1)] h rfl HO0.out (by simp)
 have hP1:=fun W=>qgo W x.ac ok.2.1
 have hO1:=fun W=>qkf W (x.auto:Int) (n1 ok.2.2.1).1 (n1 ok.2.2.1).2
 have hO2:=fun W=>qd3 W (x.time:Int) (n4 ok.2.2.2.1).1 (n4 ok.2.2.2.1).2
 have hO3:=fun W=>qd3 W (x.cycle:Int) (n4 ok.2.2.2.2).1 (n4 ok.2.2.2.2).2
 have HO2:Hid (∀y∈[((x.auto:Int),1),((x.time:Int),4),((x.cycle:Int),4)],okC y):=by
  intro y hx
  simp only [List.mem_cons,List.not_mem_nil,or_false] at hx
  rcases hx with rfl | rfl | rfl
  ·exact qor ok.2.2.1
  ·exact okC4 ok.2.2.2.1
  ·exact okC4 ok.2.2.2.2
 have hP2:=fun (W:World) (X:Nat) h=>qc2 (W:=W) (X:=X) (n:=3) [((x.auto:Int),1),((x.time:Int),4),((x.cycle:Int),4)] h rfl HO2.out (by simp)
 have HE:Hid ((putB [(x.ctr,1)])++((eAc x.ac)++(putB [((x.auto:Int),1),((x.time:Int),4),((x.cycle:Int),4)]))=eAl x):=by show _=_;simp [putB,eAl,e1]
 have HLEN:Hid ((putB [(x.ctr,1)]).length+((eAc x.ac).length+(putB [((x.auto:Int),1),((x.time:Int),4),((x.cycle:Int),4)]).length)≤1000000):=by
  show _≤_
  rw [←List.length_append,←List.length_append,HE.out]
  simp only [eAl,eAc,e1,List.length_append,qa8];omega
 have hb0:=qa0 w (.cells (qC tb v) 109)
 have hV0:=heap_alloc_new w (.cells (qC tb v) 109)
 obtain ⟨g,off,ea,hg,d0,d1,d2,d3,d4,d5,d6⟩:=qg9 (h.below hb0) hx
 have cF:(w.alloc (.cells (qC tb v) 109)).cell? ⟨w.heap.size,6,none⟩=some (.slice (some ⟨g,off,none⟩) v.a.n v.a.c):=by rw [←ea,qcr hV0];rfl
 have hjn:(j:Int) < v.a.n:=by have:=h.a.n;have:=(List.getElem?_eq_some_iff.1 hx).1;omega
 have hb1:=qa0 (w.alloc (.cells (qC tb v) 109)) (.cells #[I x.ctr,I x.ac.kind,I x.ac.task,.int .u32 (x.ac.mask:Int),.int .u32 (x.auto:Int),.int .u32 (x.time:Int),.int .u32 (x.cycle:Int)] 85)
 have hV1:=heap_alloc_new (w.alloc (.cells (qC tb v) 109)) (.cells #[I x.ctr,I x.ac.kind,I x.ac.task,.int .u32 (x.ac.mask:Int),.int .u32 (x.auto:Int),.int .u32 (x.time:Int),.int .u32 (x.cycle:Int)] 85)
 have HB:Hid (qB w ((w.alloc (.cells (qC tb v) 109)).alloc (.cells #[I x.ctr,I x.ac.kind,I x.ac.task,.int .u32 (x.ac.mask:Int),.int .u32 (x.auto:Int),.int .u32 (x.time:Int),.int .u32 (x.cycle:Int)] 85))):=belT hb0 hb1
 have HS0:Hid (∀W,qB ((w.alloc (.cells (qC tb v) 109)).alloc (.cells #[I x.ctr,I x.ac.kind,I x.ac.task,.int .u32 (x.ac.mask:Int),.int .u32 (x.auto:Int),.int .u32 (x.time:Int),.int .u32 (x.cycle:Int)] 85)) W→(fun X=>W.cell? ⟨X,0,none⟩=some (I x.ctr)∧W.cell? ⟨X,1,none⟩=some (I x.ac.kind)∧W.cell? ⟨X,2,none⟩=some (I x.ac.task)∧W.cell? ⟨X,3,none⟩=some (.int .u32 (x.ac.mask:Int))∧W.cell? ⟨X,4,none⟩=some (.int .u32 (x.auto:Int))∧W.cell? ⟨X,5,none⟩=some (.int .u32 (x.time:Int))∧W.cell? ⟨X,6,none⟩=some (.int .u32 (x.cycle:Int))) (w.alloc (.cells (qC tb v) 109)).heap.size):=fun W hW=>by
  have q:=(hW.block _ (qa5 hV1)).trans hV1
  refine ⟨?_,?_,?_,?_,?_,?_,?_⟩ <;> (rw [qcr q];rfl)
 unfold tbC
 clear hb0 hV0 hb1 hV1 ea hg hx
 go_enter Tryz.func63,Tryz.ntmps63
 go_upto_region 1 with fail
 generalize w.alloc (.cells (qC tb v) 109)=w0 at *
 go_upto_region 2 with fail
 clear cF d0 d1 d2 d3 d4 d5 d6
 generalize w0.alloc (.cells #[I x.ctr,I x.ac.kind,I x.ac.task,.int .u32 (x.ac.mask:Int),.int .u32 (x.auto:Int),.int .u32 (x.time:Int),.int .u32 (x.cycle:Int)] 85)=w1 at *
 generalize w0.heap.size=X at *
 have HS:Hid (∀W,qB w1 W→W.cell? ⟨X,0,none⟩=some (I x.ctr)∧W.cell? ⟨X,1,none⟩=some (I x.ac.kind)∧W.cell? ⟨X,2,none⟩=some (I x.ac.task)∧W.cell? ⟨X,3,none⟩=some (.int .u32 (x.ac.mask:Int))∧W.cell? ⟨X,4,none⟩=some (.int .u32 (x.auto:Int))∧W.cell? ⟨X,5,none⟩=some (.int .u32 (x.time:Int))∧W.cell? ⟨X,6,none⟩=some (.int .u32 (x.cycle:Int))):=HS0.out
 have hbz:qB w1 w1:=Below.refl _ _
 have HY:=HS.out w1 hbz
 go_region_held_law (fun W=>W.cell? ⟨X,0,none⟩=some (I x.ctr)∧W.cell? ⟨X,1,none⟩=some (I x.ac.kind)∧W.cell? ⟨X,2,none⟩=some (I x.ac.task)∧W.cell? ⟨X,3,none⟩=some (.int .u32 (x.ac.mask:Int))∧W.cell? ⟨X,4,none⟩=some (.int .u32 (x.auto:Int))∧W.cell? ⟨X,5,none⟩=some (.int .u32 (x.time:Int))∧W.cell? ⟨X,6,none⟩=some (.int .u32 (x.cycle:Int))) (first | exact HY | exact HA _ | (go_keep;done)) (first
  | (go_at_call 132;refine (hO0 _).mono ?_;clear hO0;rintro e w10 ⟨rfl,b10⟩;have hbz:=belT (by repeat' (first | exact hbz | apply Below.drew | apply belA)) b10;have HY:=HS.out _ hbz;have HA:=fun o=>HS.out _ (belA hbz (o:=o));clear b10)
  | (go_at_call 69;refine (hP0 _ _ (heap_alloc_new _ _)).mono ?_;clear hP0;rintro e w50 ⟨u50,rfl,o50⟩;obtain ⟨a50,q50,rfl⟩:=qah o50.1;have b50:=o50.2;have hbz:=belT (by repeat' (first | exact hbz | apply Below.drew | apply belA)) b50;have hs0:=qam o50.1;have HY:=HS.out _ hbz;have HA:=fun o=>HS.out _ (belA hbz (o:=o));clear b50 o50)
  | (go_at_call 139;refine (hP1 _).mono ?_;clear hP1;rintro e w51 ⟨u51,rfl,o51⟩;obtain ⟨a51,q51,rfl⟩:=qah o51.1;have b51:=o51.2;have hs0:=qa2 (by repeat' (first | exact hs0 | apply qbd | apply World.ownsRow.drew)) b51;have hbz:=belT (by repeat' (first | exact hbz | apply Below.drew | apply belA)) b51;have hs1:=qam o51.1;have HY:=HS.out _ hbz;have HA:=fun o=>HS.out _ (belA hbz (o:=o));clear b51 o51)
  | (go_at_call 137;refine (hO1 _).mono ?_;clear hO1;rintro e w11 ⟨rfl,b11⟩;have hs0:=qa2 (by repeat' (first | exact hs0 | apply qbd | apply World.ownsRow.drew)) b11;have hs1:=qa2 (by repeat' (first | exact hs1 | apply qbd | apply World.ownsRow.drew)) b11;have hbz:=belT (by repeat' (first | exact hbz | apply Below.drew | apply belA)) b11;have HY:=HS.out _ hbz;have HA:=fun o=>HS.out _ (belA hbz (o:=o));clear b11)
  | (go_at_call 134;refine (hO2 _).mono ?_;clear hO2;rintro e w12 ⟨rfl,b12⟩;have hs0:=qa2 (by repeat' (first | exact hs0 | apply qbd | apply World.ownsRow.drew)) b12;have hs1:=qa2 (by repeat' (first | exact hs1 | apply qbd | apply World.ownsRow.drew)) b12;have hbz:=belT (by repeat' (first | exact hbz | apply Below.drew | apply belA)) b12;have HY:=HS.out _ hbz;have HA:=fun o=>HS.out _ (belA hbz (o:=o));clear b12)
  | (go_at_call 134;refine (hO3 _).mono ?_;clear hO3;rintro e w13 ⟨rfl,b13⟩;have hs0:=qa2 (by repeat' (first | exact hs0 | apply qbd | apply World.ownsRow.drew)) b13;have hs1:=qa2 (by repeat' (first | exact hs1 | apply qbd | apply World.ownsRow.drew)) b13;have hbz:=belT (by repeat' (first | exact hbz | apply Below.drew | apply belA)) b13;have HY:=HS.out _ hbz;have HA:=fun o=>HS.out _ (belA hbz (o:=o));clear b13)
  | (go_at_call 69;refine (hP2 _ _ (heap_alloc_new _ _)).mono ?_;clear hP2;rintro e w52 ⟨u52,rfl,o52⟩;obtain ⟨a52,q52,rfl⟩:=qah o52.1;have b52:=o52.2;have hs0:=qa2 (by repeat' (first | exact hs0 | apply qbd | apply World.ownsRow.drew)) b52;have hs1:=qa2 (by repeat' (first | exact hs1 | apply qbd | apply World.ownsRow.drew)) b52;have hbz:=belT (by repeat' (first | exact hbz | apply Below.drew | apply belA)) b52;have hs2:=qam o52.1;have HY:=HS.out _ hbz;have HA:=fun o=>HS.out _ (belA hbz (o:=o));clear b52 o52)
  | (go_at_call 66;refine (cat3 (w:=w1) (by repeat' (first | exact hbz | apply Below.drew | apply belA)) (heap_alloc_new _ _) (by repeat' (first | exact hs0 | apply qbd | apply World.ownsRow.drew)) (by repeat' (first | exact hs1 | apply qbd | apply World.ownsRow.drew)) (by repeat' (first | exact hs2 | apply qbd | apply World.ownsRow.drew)) HLEN.out).mono ?_;rintro e w9 ⟨u,rfl,o9⟩;have K9:Hid (OwB w1 w9 u ((putB [(x.ctr,1)])++((eAc x.ac)++(putB [((x.auto:Int),1),((x.time:Int),4),((x.cycle:Int),4)])))):=o9;have HY:=HS.out w9 K9.out.2;have HA:=fun o=>HS.out _ (belA K9.out.2 (o:=o));clear o9))
 go_wp2
 go_ret
 have:=qbm HB.out K9.out
 rw [HE.out] at this
 exact ⟨_,rfl,this⟩
theorem qpq (w:World) (tb:Tb) (v:Ts) (h:TbAt w tb v) {j:Nat} {x:MsR} (hx:tb.msgs[j]?=some x) (ok:okMs x):Calls Tryz.prog 65 #[.agg (tbC tb v),I j] w fun e w'=>∃u,e=.returned u∧OwB w w' u (eMs x):=by
 have hO0:=fun W=>qq9 W x.kind (i1 ok.1).1 (i1 ok.1).2
 have hO1:=fun W=>qbe W x.len (i1 ok.2.1).1 (i1 ok.2.1).2
 have hO2:=fun W=>qbe W x.frm (i1 ok.2.2.1).1 (i1 ok.2.2.1).2
 have hO3:=fun W=>qmf W (x.init:Int) (n8 ok.2.2.2.1).1 (n8 ok.2.2.2.1).2
 have hO4:=fun W=>qbe W x.queue (i1 ok.2.2.2.2.1).1 (i1 ok.2.2.2.2.1).2
 have HO0:Hid (∀y∈[(x.kind,1),(x.len,1),(x.frm,1),((x.init:Int),8),(x.queue,1)],okC y):=by
  intro y hx
  simp only [List.mem_cons,List.not_mem_nil,or_false] at hx
  rcases hx with rfl | rfl | rfl | rfl | rfl
  ·exact okC1 ok.1
  ·exact okC1 ok.2.1
  ·exact okC1 ok.2.2.1
  ·exact okC8 ok.2.2.2.1
  ·exact okC1 ok.2.2.2.2.1
 have hP0:=fun (W:World) (X:Nat) h=>qc2 (W:=W) (X:=X) (n:=5) [(x.kind,1),(x.len,1),(x.frm,1),((x.init:Int),8),(x.queue,1)] h rfl HO0.out (by simp)
 have hP1:=fun W=>qgo W x.ac ok.2.2.2.2.2
 have HE:Hid ((putB [(x.kind,1),(x.len,1),(x.frm,1),((x.init:Int),8),(x.queue,1)])++(eAc x.ac)=eMs x):=by show _=_;simp [putB,eMs,e1]
 have HLEN:Hid ((putB [(x.kind,1),(x.len,1),(x.frm,1),((x.init:Int),8),(x.queue,1)]).length+(eAc x.ac).length≤1000000):=by
  show _≤_
  rw [←List.length_append,HE.out]
  simp only [eMs,eAc,e1,List.length_append,qa8];omega
 have hb0:=qa0 w (.cells (qC tb v) 109)
 have hV0:=heap_alloc_new w (.cells (qC tb v) 109)
 obtain ⟨g,off,ea,hg,d0,d1,d2,d3,d4,d5,d6,d7⟩:=qeg (h.below hb0) hx
 have cF:(w.alloc (.cells (qC tb v) 109)).cell? ⟨w.heap.size,8,none⟩=some (.slice (some ⟨g,off,none⟩) v.s.n v.s.c):=by rw [←ea,qcr hV0];rfl
 have hjn:(j:Int) < v.s.n:=by have:=h.s.n;have:=(List.getElem?_eq_some_iff.1 hx).1;omega
 have hb1:=qa0 (w.alloc (.cells (qC tb v) 109)) (.cells #[I x.kind,I x.len,I x.frm,.int .u64 (x.init:Int),I x.queue,I x.ac.kind,I x.ac.task,.int .u32 (x.ac.mask:Int)] 91)
 have hV1:=heap_alloc_new (w.alloc (.cells (qC tb v) 109)) (.cells #[I x.kind,I x.len,I x.frm,.int .u64 (x.init:Int),I x.queue,I x.ac.kind,I x.ac.task,.int .u32 (x.ac.mask:Int)] 91)
 have HB:Hid (qB w ((w.alloc (.cells (qC tb v) 109)).alloc (.cells #[I x.kind,I x.len,I x.frm,.int .u64 (x.init:Int),I x.queue,I x.ac.kind,I x.ac.task,.int .u32 (x.ac.mask:Int)] 91))):=belT hb0 hb1
 have HS0:Hid (∀W,qB ((w.alloc (.cells (qC tb v) 109)).alloc (.cells #[I x.kind,I x.len,I x.frm,.int .u64 (x.init:Int),I x.queue,I x.ac.kind,I x.ac.task,.int .u32 (x.ac.mask:Int)] 91)) W→(fun X=>W.cell? ⟨X,0,none⟩=some (I x.kind)∧W.cell? ⟨X,1,none⟩=some (I x.len)∧W.cell? ⟨X,2,none⟩=some (I x.frm)∧W.cell? ⟨X,3,none⟩=some (.int .u64 (x.init:Int))∧W.cell? ⟨X,4,none⟩=some (I x.queue)∧W.cell? ⟨X,5,none⟩=some (I x.ac.kind)∧W.cell? ⟨X,6,none⟩=some (I x.ac.task)∧W.cell? ⟨X,7,none⟩=some (.int .u32 (x.ac.mask:Int))) (w.alloc (.cells (qC tb v) 109)).heap.size):=fun W hW=>by
  have q:=(hW.block _ (qa5 hV1)).trans hV1
  refine ⟨?_,?_,?_,?_,?_,?_,?_,?_⟩ <;> (rw [qcr q];rfl)
 unfold tbC
 clear hb0 hV0 hb1 hV1 ea hg hx
 go_enter Tryz.func65,Tryz.ntmps65
 go_upto_region 1 with fail
 generalize w.alloc (.cells (qC tb v) 109)=w0 at *
 go_upto_region 2 with fail
 clear cF d0 d1 d2 d3 d4 d5 d6 d7
 generalize w0.alloc (.cells #[I x.kind,I x.len,I x.frm,.int .u64 (x.init:Int),I x.queue,I x.ac.kind,I x.ac.task,.int .u32 (x.ac.mask:Int)] 91)=w1 at *
 generalize w0.heap.size=X at *
 have HS:Hid (∀W,qB w1 W→W.cell? ⟨X,0,none⟩=some (I x.kind)∧W.cell? ⟨X,1,none⟩=some (I x.len)∧W.cell? ⟨X,2,none⟩=some (I x.frm)∧W.cell? ⟨X,3,none⟩=some (.int .u64 (x.init:Int))∧W.cell? ⟨X,4,none⟩=some (I x.queue)∧W.cell? ⟨X,5,none⟩=some (I x.ac.kind)∧W.cell? ⟨X,6,none⟩=some (I x.ac.task)∧W.cell? ⟨X,7,none⟩=some (.int .u32 (x.ac.mask:Int))):=HS0.out
 have hbz:qB w1 w1:=Below.refl _ _
 have HY:=HS.out w1 hbz
 go_region_held_law (fun W=>W.cell? ⟨X,0,none⟩=some (I x.kind)∧W.cell? ⟨X,1,none⟩=some (I x.len)∧W.cell? ⟨X,2,none⟩=some (I x.frm)∧W.cell? ⟨X,3,none⟩=some (.int .u64 (x.init:Int))∧W.cell? ⟨X,4,none⟩=some (I x.queue)∧W.cell? ⟨X,5,none⟩=some (I x.ac.kind)∧W.cell? ⟨X,6,none⟩=some (I x.ac.task)∧W.cell? ⟨X,7,none⟩=some (.int .u32 (x.ac.mask:Int))) (first | exact HY | exact HA _ | (go_keep;done)) (first
  | (go_at_call 140;refine (hO0 _).mono ?_;clear hO0;rintro e w10 ⟨rfl,b10⟩;have hbz:=belT (by repeat' (first | exact hbz | apply Below.drew | apply belA)) b10;have HY:=HS.out _ hbz;have HA:=fun o=>HS.out _ (belA hbz (o:=o));clear b10)
  | (go_at_call 132;refine (hO1 _).mono ?_;clear hO1;rintro e w11 ⟨rfl,b11⟩;have hbz:=belT (by repeat' (first | exact hbz | apply Below.drew | apply belA)) b11;have HY:=HS.out _ hbz;have HA:=fun o=>HS.out _ (belA hbz (o:=o));clear b11)
  | (go_at_call 132;refine (hO2 _).mono ?_;clear hO2;rintro e w12 ⟨rfl,b12⟩;have hbz:=belT (by repeat' (first | exact hbz | apply Below.drew | apply belA)) b12;have HY:=HS.out _ hbz;have HA:=fun o=>HS.out _ (belA hbz (o:=o));clear b12)
  | (go_at_call 141;refine (hO3 _).mono ?_;clear hO3;rintro e w13 ⟨rfl,b13⟩;have hbz:=belT (by repeat' (first | exact hbz | apply Below.drew | apply belA)) b13;have HY:=HS.out _ hbz;have HA:=fun o=>HS.out _ (belA hbz (o:=o));clear b13)
  | (go_at_call 132;refine (hO4 _).mono ?_;clear hO4;rintro e w14 ⟨rfl,b14⟩;have hbz:=belT (by repeat' (first | exact hbz | apply Below.drew | apply belA)) b14;have HY:=HS.out _ hbz;have HA:=fun o=>HS.out _ (belA hbz (o:=o));clear b14)
  | (go_at_call 69;refine (hP0 _ _ (heap_alloc_new _ _)).mono ?_;clear hP0;rintro e w50 ⟨u50,rfl,o50⟩;obtain ⟨a50,q50,rfl⟩:=qah o50.1;have b50:=o50.2;have hbz:=belT (by repeat' (first | exact hbz | apply Below.drew | apply belA)) b50;have hs0:=qam o50.1;have HY:=HS.out _ hbz;have HA:=fun o=>HS.out _ (belA hbz (o:=o));clear b50 o50)
  | (go_at_call 139;refine (hP1 _).mono ?_;clear hP1;rintro e w51 ⟨u51,rfl,o51⟩;obtain ⟨a51,q51,rfl⟩:=qah o51.1;have b51:=o51.2;have hs0:=qa2 (by repeat' (first | exact hs0 | apply qbd | apply World.ownsRow.drew)) b51;have hbz:=belT (by repeat' (first | exact hbz | apply Below.drew | apply belA)) b51;have hs1:=qam o51.1;have HY:=HS.out _ hbz;have HA:=fun o=>HS.out _ (belA hbz (o:=o));clear b51 o51)
  | (go_at_call 66;refine (cat2 (w:=w1) (by repeat' (first | exact hbz | apply Below.drew | apply belA)) (heap_alloc_new _ _) (by repeat' (first | exact hs0 | apply qbd | apply World.ownsRow.drew)) (by repeat' (first | exact hs1 | apply qbd | apply World.ownsRow.drew)) HLEN.out).mono ?_;rintro e w9 ⟨u,rfl,o9⟩;have K9:Hid (OwB w1 w9 u ((putB [(x.kind,1),(x.len,1),(x.frm,1),((x.init:Int),8),(x.queue,1)])++(eAc x.ac))):=o9;have HY:=HS.out w9 K9.out.2;have HA:=fun o=>HS.out _ (belA K9.out.2 (o:=o));clear o9))
 go_wp2
 go_ret
 have:=qbm HB.out K9.out
 rw [HE.out] at this
 exact ⟨_,rfl,this⟩
theorem qpr (w:World) (tb:Tb) (v:Ts) (h:TbAt w tb v) {j:Nat} {x:IsR} (hx:tb.isrs[j]?=some x) (ok:okIs x):Calls Tryz.prog 64 #[.agg (tbC tb v),I j] w fun e w'=>∃u,e=.returned u∧OwB w w' u (eIs x):=by
 have hO0:=fun W=>qbe W x.cat (i1 ok.1).1 (i1 ok.1).2
 have hO1:=fun W=>qbe W x.prio (i1 ok.2.1).1 (i1 ok.2.1).2
 have HO0:Hid (∀y∈[(x.cat,1),(x.prio,1)],okC y):=by
  intro y hx
  simp only [List.mem_cons,List.not_mem_nil,or_false] at hx
  rcases hx with rfl | rfl
  ·exact okC1 ok.1
  ·exact okC1 ok.2.1
 have hP0:=fun (W:World) (X:Nat) h=>qc2 (W:=W) (X:=X) (n:=2) [(x.cat,1),(x.prio,1)] h rfl HO0.out (by simp)
 have HE:Hid ((putB [(x.cat,1),(x.prio,1)])++(eL x.own)=eIs x):=by show _=_;simp [putB,eIs,e1]
 have HLEN:Hid ((putB [(x.cat,1),(x.prio,1)]).length+(eL x.own).length≤1000000):=by
  show _≤_
  rw [←List.length_append,HE.out]
  have:=ok.2.2.1;simp only [eIs,e1,List.length_append,qa8,qeh];omega
 have hb0:=qa0 w (.cells (qC tb v) 109)
 have hV0:=heap_alloc_new w (.cells (qC tb v) 109)
 obtain ⟨g,off,s2,ea,hg,d0,d1,d2,hs2⟩:=qcs (h.below hb0) hx
 have cF:(w.alloc (.cells (qC tb v) 109)).cell? ⟨w.heap.size,7,none⟩=some (.slice (some ⟨g,off,none⟩) v.i.n v.i.c):=by rw [←ea,qcr hV0];rfl
 have hjn:(j:Int) < v.i.n:=by have:=h.i.n;have:=(List.getElem?_eq_some_iff.1 hx).1;omega
 have hb1:=qa0 (w.alloc (.cells (qC tb v) 109)) (.cells #[I x.cat,I x.prio,.slice s2.a s2.n s2.c] 87)
 have hV1:=heap_alloc_new (w.alloc (.cells (qC tb v) 109)) (.cells #[I x.cat,I x.prio,.slice s2.a s2.n s2.c] 87)
 have HB:Hid (qB w ((w.alloc (.cells (qC tb v) 109)).alloc (.cells #[I x.cat,I x.prio,.slice s2.a s2.n s2.c] 87))):=belT hb0 hb1
 have HS0:Hid (∀W,qB ((w.alloc (.cells (qC tb v) 109)).alloc (.cells #[I x.cat,I x.prio,.slice s2.a s2.n s2.c] 87)) W→(fun X=>W.cell? ⟨X,0,none⟩=some (I x.cat)∧W.cell? ⟨X,1,none⟩=some (I x.prio)∧W.cell? ⟨X,2,none⟩=some (.slice s2.a s2.n s2.c)) (w.alloc (.cells (qC tb v) 109)).heap.size):=fun W hW=>by
  have q:=(hW.block _ (qa5 hV1)).trans hV1
  refine ⟨?_,?_,?_⟩ <;> (rw [qcr q];rfl)
 have hP1:∀W,qB ((w.alloc (.cells (qC tb v) 109)).alloc (.cells #[I x.cat,I x.prio,.slice s2.a s2.n s2.c] 87)) W→Calls Tryz.prog 136 #[slT s2] W fun e w'=>∃u,e=.returned u∧OwB W w' u (eL x.own):=fun W hW=>qiz W s2 x.own ((hs2.below hb1 (fun _ _ _ _ h=>h)).below hW (fun _ _ _ _ h=>h)) ok.2.2.1 ok.2.2.2
 unfold tbC
 clear hb0 hV0 hb1 hV1 ea hg hx hs2
 go_enter Tryz.func64,Tryz.ntmps64
 go_upto_region 1 with fail
 generalize w.alloc (.cells (qC tb v) 109)=w0 at *
 go_upto_region 2 with fail
 clear cF d0 d1 d2
 generalize w0.alloc (.cells #[I x.cat,I x.prio,.slice s2.a s2.n s2.c] 87)=w1 at *
 generalize w0.heap.size=X at *
 have HS:Hid (∀W,qB w1 W→W.cell? ⟨X,0,none⟩=some (I x.cat)∧W.cell? ⟨X,1,none⟩=some (I x.prio)∧W.cell? ⟨X,2,none⟩=some (.slice s2.a s2.n s2.c)):=HS0.out
 have hbz:qB w1 w1:=Below.refl _ _
 have HY:=HS.out w1 hbz
 go_region_held_law (fun W=>W.cell? ⟨X,0,none⟩=some (I x.cat)∧W.cell? ⟨X,1,none⟩=some (I x.prio)∧W.cell? ⟨X,2,none⟩=some (.slice s2.a s2.n s2.c)) (first | exact HY | exact HA _ | (go_keep;done)) (first
  | (go_at_call 132;refine (hO0 _).mono ?_;clear hO0;rintro e w10 ⟨rfl,b10⟩;have hbz:=belT (by repeat' (first | exact hbz | apply Below.drew | apply belA)) b10;have HY:=HS.out _ hbz;have HA:=fun o=>HS.out _ (belA hbz (o:=o));clear b10)
  | (go_at_call 132;refine (hO1 _).mono ?_;clear hO1;rintro e w11 ⟨rfl,b11⟩;have hbz:=belT (by repeat' (first | exact hbz | apply Below.drew | apply belA)) b11;have HY:=HS.out _ hbz;have HA:=fun o=>HS.out _ (belA hbz (o:=o));clear b11)
  | (go_at_call 69;refine (hP0 _ _ (heap_alloc_new _ _)).mono ?_;clear hP0;rintro e w50 ⟨u50,rfl,o50⟩;obtain ⟨a50,q50,rfl⟩:=qah o50.1;have b50:=o50.2;have hbz:=belT (by repeat' (first | exact hbz | apply Below.drew | apply belA)) b50;have hs0:=qam o50.1;have HY:=HS.out _ hbz;have HA:=fun o=>HS.out _ (belA hbz (o:=o));clear b50 o50)
  | (go_at_call 136;refine (hP1 _ (by repeat' (first | exact hbz | apply Below.drew | apply belA))).mono ?_;clear hP1;rintro e w51 ⟨u51,rfl,o51⟩;obtain ⟨a51,q51,rfl⟩:=qah o51.1;have b51:=o51.2;have hs0:=qa2 (by repeat' (first | exact hs0 | apply qbd | apply World.ownsRow.drew)) b51;have hbz:=belT (by repeat' (first | exact hbz | apply Below.drew | apply belA)) b51;have hs1:=qam o51.1;have HY:=HS.out _ hbz;have HA:=fun o=>HS.out _ (belA hbz (o:=o));clear b51 o51)
  | (go_at_call 66;refine (cat2 (w:=w1) (by repeat' (first | exact hbz | apply Below.drew | apply belA)) (heap_alloc_new _ _) (by repeat' (first | exact hs0 | apply qbd | apply World.ownsRow.drew)) (by repeat' (first | exact hs1 | apply qbd | apply World.ownsRow.drew)) HLEN.out).mono ?_;rintro e w9 ⟨u,rfl,o9⟩;have K9:Hid (OwB w1 w9 u ((putB [(x.cat,1),(x.prio,1)])++(eL x.own))):=o9;have HY:=HS.out w9 K9.out.2;have HA:=fun o=>HS.out _ (belA K9.out.2 (o:=o));clear o9))
 go_wp2
 go_ret
 have:=qbm HB.out K9.out
 rw [HE.out] at this
 exact ⟨_,rfl,this⟩
theorem qps (w:World) (tb:Tb) (v:Ts) (h:TbAt w tb v) {j:Nat} {x:TkR} (hx:tb.tasks[j]?=some x) (ok:okTk x):Calls Tryz.prog 59 #[.agg (tbC tb v),I j] w fun e w'=>∃u,e=.returned u∧OwB w w' u (eTk x):=by
 have hO0:=fun W=>qbe W x.prio (i1 ok.1).1 (i1 ok.1).2
 have hO1:=fun W=>qbe W x.ring (i1 ok.2.1).1 (i1 ok.2.1).2
 have hO2:=fun W=>qiv W x.full
 have hO3:=fun W=>qbe W x.limit (i1 ok.2.2.1).1 (i1 ok.2.2.1).2
 have hO4:=fun W=>qd3 W (x.mask:Int) (n4 ok.2.2.2.1).1 (n4 ok.2.2.2.1).2
 have hO5:=fun W=>qhk W x.inner ok.2.2.2.2.1.1 (by have:=ok.2.2.2.2.1.2;omega)
 have HO0:Hid (∀y∈[(x.prio,1),(x.ring,1),((flI x.full),1),(x.limit,1),((x.mask:Int),4),((x.inner+1),1)],okC y):=by
  intro y hx
  simp only [List.mem_cons,List.not_mem_nil,or_false] at hx
  rcases hx with rfl | rfl | rfl | rfl | rfl | rfl
  ·exact okC1 ok.1
  ·exact okC1 ok.2.1
  ·exact okCF _
  ·exact okC1 ok.2.2.1
  ·exact okC4 ok.2.2.2.1
  ·exact okC1 ok.2.2.2.2.1
 have hP0:=fun (W:World) (X:Nat) h=>qc2 (W:=W) (X:=X) (n:=6) [(x.prio,1),(x.ring,1),((flI x.full),1),(x.limit,1),((x.mask:Int),4),((x.inner+1),1)] h rfl HO0.out (by simp)
 have hO6:=fun W=>qkf W (x.auto:Int) (n1 ok.2.2.2.2.2.2).1 (n1 ok.2.2.2.2.2.2).2
 have HO2:Hid (∀y∈[((x.auto:Int),1)],okC y):=by
  intro y hx
  simp only [List.mem_cons,List.not_mem_nil,or_false] at hx
  rcases hx with rfl
  ·exact qor ok.2.2.2.2.2.2
 have hP2:=fun (W:World) (X:Nat) h=>qc2 (W:=W) (X:=X) (n:=1) [((x.auto:Int),1)] h rfl HO2.out (by simp)
 have HE:Hid ((putB [(x.prio,1),(x.ring,1),((flI x.full),1),(x.limit,1),((x.mask:Int),4),((x.inner+1),1)])++((eL x.own)++(putB [((x.auto:Int),1)]))=eTk x):=by show _=_;simp [putB,eTk,eF,e1];cases x.full <;> rfl
 have HLEN:Hid ((putB [(x.prio,1),(x.ring,1),((flI x.full),1),(x.limit,1),((x.mask:Int),4),((x.inner+1),1)]).length+((eL x.own).length+(putB [((x.auto:Int),1)]).length)≤1000000):=by
  show _≤_
  rw [←List.length_append,←List.length_append,HE.out]
  have:=ok.2.2.2.2.2.1.1;simp only [eTk,eF,e1,List.length_append,qa8,qeh];omega
 have hb0:=qa0 w (.cells (qC tb v) 109)
 have hV0:=heap_alloc_new w (.cells (qC tb v) 109)
 obtain ⟨g,off,s2,ea,hg,d0,d1,d2,d3,d4,d5,d6,d7,hs2⟩:=qcq (h.below hb0) hx
 have cF:(w.alloc (.cells (qC tb v) 109)).cell? ⟨w.heap.size,2,none⟩=some (.slice (some ⟨g,off,none⟩) v.t.n v.t.c):=by rw [←ea,qcr hV0];rfl
 have hjn:(j:Int) < v.t.n:=by have:=h.t.n;have:=(List.getElem?_eq_some_iff.1 hx).1;omega
 have hb1:=qa0 (w.alloc (.cells (qC tb v) 109)) (.cells #[I x.prio,I x.ring,.bool x.full,I x.limit,.int .u32 (x.mask:Int),I x.inner,.slice s2.a s2.n s2.c,.int .u32 (x.auto:Int)] 61)
 have hV1:=heap_alloc_new (w.alloc (.cells (qC tb v) 109)) (.cells #[I x.prio,I x.ring,.bool x.full,I x.limit,.int .u32 (x.mask:Int),I x.inner,.slice s2.a s2.n s2.c,.int .u32 (x.auto:Int)] 61)
 have HB:Hid (qB w ((w.alloc (.cells (qC tb v) 109)).alloc (.cells #[I x.prio,I x.ring,.bool x.full,I x.limit,.int .u32 (x.mask:Int),I x.inner,.slice s2.a s2.n s2.c,.int .u32 (x.auto:Int)] 61))):=belT hb0 hb1
 have HS0:Hid (∀W,qB ((w.alloc (.cells (qC tb v) 109)).alloc (.cells #[I x.prio,I x.ring,.bool x.full,I x.limit,.int .u32 (x.mask:Int),I x.inner,.slice s2.a s2.n s2.c,.int .u32 (x.auto:Int)] 61)) W→(fun X=>W.cell? ⟨X,0,none⟩=some (I x.prio)∧W.cell? ⟨X,1,none⟩=some (I x.ring)∧W.cell? ⟨X,2,none⟩=some (.bool x.full)∧W.cell? ⟨X,3,none⟩=some (I x.limit)∧W.cell? ⟨X,4,none⟩=some (.int .u32 (x.mask:Int))∧W.cell? ⟨X,5,none⟩=some (I x.inner)∧W.cell? ⟨X,6,none⟩=some (.slice s2.a s2.n s2.c)∧W.cell? ⟨X,7,none⟩=some (.int .u32 (x.auto:Int))) (w.alloc (.cells (qC tb v) 109)).heap.size):=fun W hW=>by
  have q:=(hW.block _ (qa5 hV1)).trans hV1
  refine ⟨?_,?_,?_,?_,?_,?_,?_,?_⟩ <;> (rw [qcr q];rfl)
 have hP1:∀W,qB ((w.alloc (.cells (qC tb v) 109)).alloc (.cells #[I x.prio,I x.ring,.bool x.full,I x.limit,.int .u32 (x.mask:Int),I x.inner,.slice s2.a s2.n s2.c,.int .u32 (x.auto:Int)] 61)) W→Calls Tryz.prog 136 #[slT s2] W fun e w'=>∃u,e=.returned u∧OwB W w' u (eL x.own):=fun W hW=>qiz W s2 x.own ((hs2.below hb1 (fun _ _ _ _ h=>h)).below hW (fun _ _ _ _ h=>h)) ok.2.2.2.2.2.1.1 ok.2.2.2.2.2.1.2
 unfold tbC
 clear hb0 hV0 hb1 hV1 ea hg hx hs2
 go_enter Tryz.func59,Tryz.ntmps59
 go_upto_region 1 with fail
 generalize w.alloc (.cells (qC tb v) 109)=w0 at *
 go_upto_region 2 with fail
 clear cF d0 d1 d2 d3 d4 d5 d6 d7
 generalize w0.alloc (.cells #[I x.prio,I x.ring,.bool x.full,I x.limit,.int .u32 (x.mask:Int),I x.inner,.slice s2.a s2.n s2.c,.int .u32 (x.auto:Int)] 61)=w1 at *
 generalize w0.heap.size=X at *
 have HS:Hid (∀W,qB w1 W→W.cell? ⟨X,0,none⟩=some (I x.prio)∧W.cell? ⟨X,1,none⟩=some (I x.ring)∧W.cell? ⟨X,2,none⟩=some (.bool x.full)∧W.cell? ⟨X,3,none⟩=some (I x.limit)∧W.cell? ⟨X,4,none⟩=some (.int .u32 (x.mask:Int))∧W.cell? ⟨X,5,none⟩=some (I x.inner)∧W.cell? ⟨X,6,none⟩=some (.slice s2.a s2.n s2.c)∧W.cell? ⟨X,7,none⟩=some (.int .u32 (x.auto:Int))):=HS0.out
 have hbz:qB w1 w1:=Below.refl _ _
 have HY:=HS.out w1 hbz
 go_region_held_law (fun W=>W.cell? ⟨X,0,none⟩=some (I x.prio)∧W.cell? ⟨X,1,none⟩=some (I x.ring)∧W.cell? ⟨X,2,none⟩=some (.bool x.full)∧W.cell? ⟨X,3,none⟩=some (I x.limit)∧W.cell? ⟨X,4,none⟩=some (.int .u32 (x.mask:Int))∧W.cell? ⟨X,5,none⟩=some (I x.inner)∧W.cell? ⟨X,6,none⟩=some (.slice s2.a s2.n s2.c)∧W.cell? ⟨X,7,none⟩=some (.int .u32 (x.auto:Int))) (first | exact HY | exact HA _ | (go_keep;done)) (first
  | (go_at_call 132;refine (hO0 _).mono ?_;clear hO0;rintro e w10 ⟨rfl,b10⟩;have hbz:=belT (by repeat' (first | exact hbz | apply Below.drew | apply belA)) b10;have HY:=HS.out _ hbz;have HA:=fun o=>HS.out _ (belA hbz (o:=o));clear b10)
  | (go_at_call 132;refine (hO1 _).mono ?_;clear hO1;rintro e w11 ⟨rfl,b11⟩;have hbz:=belT (by repeat' (first | exact hbz | apply Below.drew | apply belA)) b11;have HY:=HS.out _ hbz;have HA:=fun o=>HS.out _ (belA hbz (o:=o));clear b11)
  | (go_at_call 133;refine (hO2 _).mono ?_;clear hO2;rintro e w12 ⟨rfl,b12⟩;have hbz:=belT (by repeat' (first | exact hbz | apply Below.drew | apply belA)) b12;have HY:=HS.out _ hbz;have HA:=fun o=>HS.out _ (belA hbz (o:=o));clear b12)
  | (go_at_call 132;refine (hO3 _).mono ?_;clear hO3;rintro e w13 ⟨rfl,b13⟩;have hbz:=belT (by repeat' (first | exact hbz | apply Below.drew | apply belA)) b13;have HY:=HS.out _ hbz;have HA:=fun o=>HS.out _ (belA hbz (o:=o));clear b13)
  | (go_at_call 134;refine (hO4 _).mono ?_;clear hO4;rintro e w14 ⟨rfl,b14⟩;have hbz:=belT (by repeat' (first | exact hbz | apply Below.drew | apply belA)) b14;have HY:=HS.out _ hbz;have HA:=fun o=>HS.out _ (belA hbz (o:=o));clear b14)
  | (go_at_call 135;refine (hO5 _).mono ?_;clear hO5;rintro e w15 ⟨rfl,b15⟩;have hbz:=belT (by repeat' (first | exact hbz | apply Below.drew | apply belA)) b15;have HY:=HS.out _ hbz;have HA:=fun o=>HS.out _ (belA hbz (o:=o));clear b15)
  | (go_at_call 69;refine (hP0 _ _ (heap_alloc_new _ _)).mono ?_;clear hP0;rintro e w50 ⟨u50,rfl,o50⟩;obtain ⟨a50,q50,rfl⟩:=qah o50.1;have b50:=o50.2;have hbz:=belT (by repeat' (first | exact hbz | apply Below.drew | apply belA)) b50;have hs0:=qam o50.1;have HY:=HS.out _ hbz;have HA:=fun o=>HS.out _ (belA hbz (o:=o));clear b50 o50))
 go_upto_region 3 with fail
 go_region_held_law (fun W=>W.cell? ⟨X,0,none⟩=some (I x.prio)∧W.cell? ⟨X,1,none⟩=some (I x.ring)∧W.cell? ⟨X,2,none⟩=some (.bool x.full)∧W.cell? ⟨X,3,none⟩=some (I x.limit)∧W.cell? ⟨X,4,none⟩=some (.int .u32 (x.mask:Int))∧W.cell? ⟨X,5,none⟩=some (I x.inner)∧W.cell? ⟨X,6,none⟩=some (.slice s2.a s2.n s2.c)∧W.cell? ⟨X,7,none⟩=some (.int .u32 (x.auto:Int))) (first | exact HY | exact HA _ | (go_keep;done)) (first
  | (go_at_call 136;refine (hP1 _ (by repeat' (first | exact hbz | apply Below.drew | apply belA))).mono ?_;clear hP1;rintro e w51 ⟨u51,rfl,o51⟩;obtain ⟨a51,q51,rfl⟩:=qah o51.1;have b51:=o51.2;have hs0:=qa2 (by repeat' (first | exact hs0 | apply qbd | apply World.ownsRow.drew)) b51;have hbz:=belT (by repeat' (first | exact hbz | apply Below.drew | apply belA)) b51;have hs1:=qam o51.1;have HY:=HS.out _ hbz;have HA:=fun o=>HS.out _ (belA hbz (o:=o));clear b51 o51)
  | (go_at_call 137;refine (hO6 _).mono ?_;clear hO6;rintro e w16 ⟨rfl,b16⟩;have hs0:=qa2 (by repeat' (first | exact hs0 | apply qbd | apply World.ownsRow.drew)) b16;have hs1:=qa2 (by repeat' (first | exact hs1 | apply qbd | apply World.ownsRow.drew)) b16;have hbz:=belT (by repeat' (first | exact hbz | apply Below.drew | apply belA)) b16;have HY:=HS.out _ hbz;have HA:=fun o=>HS.out _ (belA hbz (o:=o));clear b16)
  | (go_at_call 69;refine (hP2 _ _ (heap_alloc_new _ _)).mono ?_;clear hP2;rintro e w52 ⟨u52,rfl,o52⟩;obtain ⟨a52,q52,rfl⟩:=qah o52.1;have b52:=o52.2;have hs0:=qa2 (by repeat' (first | exact hs0 | apply qbd | apply World.ownsRow.drew)) b52;have hs1:=qa2 (by repeat' (first | exact hs1 | apply qbd | apply World.ownsRow.drew)) b52;have hbz:=belT (by repeat' (first | exact hbz | apply Below.drew | apply belA)) b52;have hs2:=qam o52.1;have HY:=HS.out _ hbz;have HA:=fun o=>HS.out _ (belA hbz (o:=o));clear b52 o52)
  | (go_at_call 66;refine (cat3 (w:=w1) (by repeat' (first | exact hbz | apply Below.drew | apply belA)) (heap_alloc_new _ _) (by repeat' (first | exact hs0 | apply qbd | apply World.ownsRow.drew)) (by repeat' (first | exact hs1 | apply qbd | apply World.ownsRow.drew)) (by repeat' (first | exact hs2 | apply qbd | apply World.ownsRow.drew)) HLEN.out).mono ?_;rintro e w9 ⟨u,rfl,o9⟩;have K9:Hid (OwB w1 w9 u ((putB [(x.prio,1),(x.ring,1),((flI x.full),1),(x.limit,1),((x.mask:Int),4),((x.inner+1),1)])++((eL x.own)++(putB [((x.auto:Int),1)])))):=o9;have HY:=HS.out w9 K9.out.2;have HA:=fun o=>HS.out _ (belA K9.out.2 (o:=o));clear o9))
 go_wp2
 go_ret
 have:=qbm HB.out K9.out
 rw [HE.out] at this
 exact ⟨_,rfl,this⟩
theorem qpt {tb:Tb} (h:chkP tb=true):tb.tasks.length≤1000∧tb.rings.length≤1000∧tb.ress.length≤1000∧tb.ctrs.length≤1000∧tb.als.length≤1000∧tb.isrs.length≤1000∧tb.msgs.length≤1000:=by
 unfold chkP at h
 simp only [Bool.and_eq_true] at h
 obtain ⟨⟨⟨⟨⟨⟨⟨⟨hc,hrs⟩,hrg⟩,htk⟩,hct⟩,hal⟩,his⟩,hf,hms⟩,hro⟩:=h
 unfold qbh at hc
 simp only [Bool.and_eq_true,inI,decide_eq_true_eq] at hc
 obtain ⟨⟨⟨hu,hmo⟩,hnt⟩,hn⟩:=hc
 obtain ⟨rg1,rg2⟩:=qf8 hrg
 omega
def psOf (tb:Tb):List Pce:=[(1,1,qai tb (30+(qb8 tb).length)),(2,tb.tasks.length,tb.tasks.flatMap eTk),(3,tb.rings.length,tb.rings.flatMap eRg),(4,tb.ress.length,tb.ress.flatMap eRs),(5,tb.ctrs.length,tb.ctrs.flatMap eCt),(6,tb.als.length,tb.als.flatMap eAl),(7,tb.isrs.length,tb.isrs.flatMap eIs),(8,tb.msgs.length,tb.msgs.flatMap eMs),(9,1,leB 2 (crc 65535 (eAll tb)))]
theorem qe4 {α:Type} (l:List α) (e:α→List UInt8):(l.map e).flatten=l.flatMap e:=rfl
theorem qko (tb:Tb):[tb.tasks.flatMap eTk,tb.rings.flatMap eRg,tb.ress.flatMap eRs,tb.ctrs.flatMap eCt,tb.als.flatMap eAl,tb.isrs.flatMap eIs,tb.msgs.flatMap eMs].flatten=qb8 tb:=by simp [qb8]
theorem qpu (tb:Tb):Ob.crcs 65535 [qai tb (30+(qb8 tb).length),qb8 tb]=crc 65535 (eAll tb):=by
 rw [Ob.crcs_flatten]
 simp [eAll]
theorem qg1 (tb:Tb):flP (psOf tb)=img tb:=by
 simp [flP,psOf,img,eAll,qb8]
theorem qs7 {tb:Tb} (h:(qb8 tb).length≤100000):(tb.tasks.flatMap eTk).length≤1000000∧(tb.rings.flatMap eRg).length≤1000000∧(tb.ress.flatMap eRs).length≤1000000∧(tb.ctrs.flatMap eCt).length≤1000000∧(tb.als.flatMap eAl).length≤1000000∧(tb.isrs.flatMap eIs).length≤1000000∧(tb.msgs.flatMap eMs).length≤1000000:=by
 unfold qb8 at h
 simp only [List.length_append] at h
 omega
theorem qgr (w:World) (tb:Tb) (v:Ts) (h:TbAt w tb v) (hw:WfT tb) (hc:chkP tb=true):Calls Tryz.prog 22 #[.agg (tbC tb v)] w fun e w'=>∃s,e=.returned (slT s)∧RowsAt w' 3 (pceP w') s (psOf tb)∧qB w w':=by
 obtain ⟨ok,hbody⟩:=qdo hc hw
 obtain ⟨n1,n2,n3,n4,n5,n6,n7⟩:=qpt hc
 obtain ⟨l1,l2,l3,l4,l5,l6,l7⟩:=qs7 hbody
 have:=qju w tb v (tb.tasks.map eTk) (tb.tasks.flatMap eTk) (tb.rings.map eRg) (tb.rings.flatMap eRg) (tb.ress.map eRs) (tb.ress.flatMap eRs) (tb.ctrs.map eCt) (tb.ctrs.flatMap eCt) (tb.als.map eAl) (tb.als.flatMap eAl) (tb.isrs.map eIs) (tb.isrs.flatMap eIs) (tb.msgs.map eMs) (tb.msgs.flatMap eMs) (qe4 _ _) (qe4 _ _) (qe4 _ _) (qe4 _ _) (qe4 _ _) (qe4 _ _) (qe4 _ _)
  (qdj (w:=w) tb.tasks eTk v.t.n 59 h.t.n n1 (fun _ _=>rfl) (fun W hW j x hx=>qps W tb v (h.below hW) hx (ok.r0 x (List.mem_of_getElem? hx))))
  (qdj (w:=w) tb.rings eRg v.g.n 60 h.g.n n2 (fun _ _=>rfl) (fun W hW j x hx=>qpi W tb v (h.below hW) hx (ok.r1 x (List.mem_of_getElem? hx))))
  (qdj (w:=w) tb.ress eRs v.r.n 61 h.r.n n3 (fun _ _=>rfl) (fun W hW j x hx=>qpj W tb v (h.below hW) hx (ok.r2 x (List.mem_of_getElem? hx))))
  (qdj (w:=w) tb.ctrs eCt v.k.n 62 h.k.n n4 (fun _ _=>rfl) (fun W hW j x hx=>qpk W tb v (h.below hW) hx (ok.r3 x (List.mem_of_getElem? hx))))
  (qdj (w:=w) tb.als eAl v.a.n 63 h.a.n n5 (fun _ _=>rfl) (fun W hW j x hx=>qpp W tb v (h.below hW) hx (ok.r4 x (List.mem_of_getElem? hx))))
  (qdj (w:=w) tb.isrs eIs v.i.n 64 h.i.n n6 (fun _ _=>rfl) (fun W hW j x hx=>qpr W tb v (h.below hW) hx (ok.r5 x (List.mem_of_getElem? hx))))
  (qdj (w:=w) tb.msgs eMs v.s.n 65 h.s.n n7 (fun _ _=>rfl) (fun W hW j x hx=>qpq W tb v (h.below hW) hx (ok.r6 x (List.mem_of_getElem? hx))))
  l1 l2 l3 l4 l5 l6 l7 (fun n W hn hW=>qmx W tb v (h.below hW) n hn ok) (by rw [qko];omega)
 refine this.mono ?_
 rintro e w' ⟨s,rfl,hr,hb⟩
 refine ⟨s,rfl,?_,hb⟩
 rw [qko,qpu] at hr
 simp only [List.length_map] at hr
 exact hr
theorem qeu (w:World) (tb:Tb) (v:Ts) (h:TbAt w tb v) (hw:WfT tb) (hc:chkP tb=true):Calls Tryz.prog 9 #[.agg (tbC tb v)] w fun e w'=>∃u,e=.returned (.tuple #[u,I 0])∧OwB w w' u (img tb):=by
 have hl:(img tb).length≤1000000:=by
  have:=(qdo hc hw).2
  rw [qfh]
  omega
 have:=qlf w tb v h hw hc (psOf tb) (by rw [qg1];exact hl) (by simp [psOf]) (fun W hW=>qgr W tb v (h.below hW) hw hc)
 rwa [qg1] at this
end Go.Proofs.YtijgopkhdjaolaaGreat
