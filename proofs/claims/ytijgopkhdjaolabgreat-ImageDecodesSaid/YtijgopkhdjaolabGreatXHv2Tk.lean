import Derived.Test.YtijgopkhdjaolabGreatXHy26
import Derived.Deep.RegionHeldLaw
import Derived.Deep.DrawnRows
import Derived.Deep.RegionHeld3
import Derived.Deep.Cut
import Derived.Test.YtijgopkhdjaolabGreatXHs9
import Derived.Test.YtijgopkhdjaolabGreatXHv1
set_option linter.unusedSimpArgs false
set_option linter.unusedVariables false
set_option maxRecDepth 100000
namespace Go.Proofs.YtijgopkhdjaolabGreat
open Go.RowKit Go.Shelf Go.Sort
open Go.Proofs.YtijgopkhdjaolabGreat.Ob (leB leV qa8 qag crc Rd RdAll qa7)
set_option maxHeartbeats 40000000
theorem qsi (T:Array Value) (h:T.size=111):T=((List.range 111).map (tk T)).toArray:=by
 apply Array.ext
 ·simp [h]
 ·intro i h1 h2
  simp [tk,h1]
theorem TbO.rowT {W:World} {lo X:Nat} {tb:Tb} {v:Ts} {c c2:Array Value} (h:TbO W lo tb v) (hX:W.heap[X]?=some (.cells c 32)):TbO (W.setRow X c2) lo tb v:=⟨qcx h.t (qbt hX) (by decide) (by decide),qcy h.g (qbt hX) (by decide),qcz h.r (qbt hX) (by decide),qd0 h.k (qbt hX) (by decide),qd1 h.a (qbt hX) (by decide),qd2 h.i (qbt hX) (by decide) (by decide),qd3 h.s (qbt hX) (by decide)⟩
theorem qis {a W:World} {B g:Nat} {cs:Array Value} (h:Below B a W) (hg:B≤g):Below B a (W.setRow g cs):=
 ⟨h.os,h.tape,h.output,by have:=h.size;simpa [World.setRow] using this,fun i hi=>(setRow_other W g i cs (by omega)).trans (h.block i hi)⟩
theorem dSt.rowT {W:World} {r X:Nat} {s:DS} {c2:Array Value} (h:dSt W r s) (hX:r < X):dSt (W.setRow X c2) r s:=h.keep (fun b hb=>setRow_other _ _ _ _ (by omega)) (by simp)
theorem qsj : List.range 111=[0,1,2,3,4,5,6,7,8,9,10,11,12,13,14,15,16,17,18,19,20,21,22,23,24,25,26,27,28,29,30,31,32,33,34,35,36,37,38,39,40,41,42,43,44,45,46,47,48,49,50,51,52,53,54,55,56,57,58,59,60,61,62,63,64,65,66,67,68,69,70,71,72,73,74,75,76,77,78,79,80,81,82,83,84,85,86,87,88,89,90,91,92,93,94,95,96,97,98,99,100,101,102,103,104,105,106,107,108,109,110]:=by decide
def dFin (A:DS×Tb):Except Nat Tb:=if A.1.2≠0 then .error A.1.2 else if chkD A.2=true then .ok A.2 else .error 90
theorem qof (w W:World) (r gn cn:Nat) (s:DS) (h:DPre w W r gn cn s) (T:Array Value) (hT:T.size=111) (h2:T.getD 2 undef=.pointer (some ⟨w.heap.size,0,none⟩)) (h5:T.getD 5 undef=.pointer (some ⟨r,0,none⟩)) (h6:T.getD 6 undef=.slice (some ⟨gn,0,none⟩) 7 cn):(drp 8 (Tryz.f6.body.getD .skip)).wp Tryz.prog (bodyPost Tryz.prog Tryz.f6 fun e w'=>DP w (dFin (dAll (dN s) (dHd (dSk 7 s)) (dOk 6 (dSk 7 s)))) e w') ⟨T,[]⟩ W:=by
 obtain ⟨hb,hX,hD,hne,hlo,hcn,hN⟩:=h;have hi9:(Tryz.prog.info? 32).map (·.size)=some (qV:Array Value).size:=by kernel_rfl
 generalize hs:dSk 7 s=S at *;have hOK:∀i (U:World),dSt U r (dOk i S)→Calls Tryz.prog 21 #[.pointer (some ⟨r,0,none⟩)] U (DC U r (I (dO S i)) (dOk (i+1) S)):=fun i U q=>qbh U r _ q
 have hA:∀(U:World) (gn cn:Nat),dSt U r (dOk 6 S)→7≤cn→Hid (qdc U r gn (dN s))→Calls Tryz.prog 22 #[.pointer (some ⟨r,0,none⟩),.agg (tbC (tb0 (dO S 0) (dO S 1) (dO S 2) (dO S 3) (dO S 4) (dO S 5)) ts0),.slice (some ⟨gn,0,none⟩) 7 cn] U fun e w'=>∃v,e=.returned (.agg (tbC (dAll (dN s) (dHd S) (dOk 6 S)).2 v))∧TbO w' U.heap.size (dAll (dN s) (dHd S) (dOk 6 S)).2 v∧dSt w' r (dAll (dN s) (dHd S) (dOk 6 S)).1∧U.grownBy w' (some r):=fun U gn cn q1 q2 q3=>qp6 U r gn cn (dOk 6 S) _ _ _ _ _ _ (dN s) q1 (fun j _=>qq1 s j) q2 q3
 have hO0:=hOK 0;have hO1:=hOK 1;have hO2:=hOK 2;have hO3:=hOK 3;have hO4:=hOK 4;have hO5:=hOK 5;clear hOK hs;have hD:dSt W r (dOk 0 S):=hD;generalize dAll (dN s) (dHd S) (dOk 6 S)=A at *;generalize dN s=nn at *;simp only [show (0+1)=1 from rfl,show (1+1)=2 from rfl,show (2+1)=3 from rfl,show (3+1)=4 from rfl,show (4+1)=5 from rfl,show (5+1)=6 from rfl] at hO0 hO1 hO2 hO3 hO4 hO5;generalize dO S 0=x0 at *;generalize dO S 1=x1 at *;generalize dO S 2=x2 at *;generalize dO S 3=x3 at *;generalize dO S 4=x4 at *;generalize dO S 5=x5 at *;generalize dOk 0 S=s0 at *;generalize dOk 1 S=s1 at *;generalize dOk 2 S=s2 at *;generalize dOk 3 S=s3 at *;generalize dOk 4 S=s4 at *;generalize dOk 5 S=s5 at *;generalize dOk 6 S=s6 at *;have HA:Hid _:=hA;have HB:Hid (qB w W∧W.heap[w.heap.size]?=some (.cells qV 32)∧w.heap.size≠r∧w.heap.size≤r∧7≤cn):=⟨hb,hX,hne,hlo,hcn⟩;have hG:W.grownBy W (some r):=⟨rfl,rfl,rfl,Nat.le_refl _,fun _ _ _=>rfl⟩;clear hA hb hX hne hlo hcn;rw [qsi T hT];simp only [qsj,List.map_cons,List.map_nil,show tk T 2=_ from h2,show tk T 5=_ from h5,show tk T 6=_ from h6];clear h2 h5 h6 hT;generalize tk T=tt;conv=>arg 2;whnf
 go_upto_region 15 with (first
  | (go_at_call 21;refine (hO0 _ hD).mono ?_;clear hO0;rintro e W1 ⟨rfl,hd⟩;have hG:=qa1 hG hd.2;have hD:=hd.1;clear hd)
  | (go_at_call 21;refine (hO1 _ hD).mono ?_;clear hO1;rintro e W2 ⟨rfl,hd⟩;have hG:=qa1 hG hd.2;have hD:=hd.1;clear hd)
  | (go_at_call 21;refine (hO2 _ hD).mono ?_;clear hO2;rintro e W3 ⟨rfl,hd⟩;have hG:=qa1 hG hd.2;have hD:=hd.1;clear hd)
  | (go_at_call 21;refine (hO3 _ hD).mono ?_;clear hO3;rintro e W4 ⟨rfl,hd⟩;have hG:=qa1 hG hd.2;have hD:=hd.1;clear hd)
  | (go_at_call 21;refine (hO4 _ hD).mono ?_;clear hO4;rintro e W5 ⟨rfl,hd⟩;have hG:=qa1 hG hd.2;have hD:=hd.1;clear hd)
  | (go_at_call 21;refine (hO5 _ hD).mono ?_;clear hO5;rintro e W6 ⟨rfl,hd⟩;have hG:=qa1 hG hd.2;have hD:=hd.1;clear hd)
  | (refine wpList_store_row rfl 32 _ _ rfl _ _ rfl rfl 32 _ (heap_alloc_new _ _) hi9 rfl (by simp [Value.oneCell']) ?_))
 obtain ⟨sA,tb⟩:=A;have hv6:=heap_alloc_new W6 (.cells qV 32);have hb6:=qa0 W6 (.cells qV 32);have hX6:W6.heap[w.heap.size]?=some (.cells qV 32):=(hG.block _ (qa6 HB.out.2.1) (by intro e;cases e;exact HB.out.2.2.1 rfl)).trans HB.out.2.1;have hlr:r < W6.heap.size:=hD.lt;have hwB:=HB.out.1.grown hG HB.out.1.size (fun k e=>by cases e;exact HB.out.2.2.2.1);obtain ⟨W7,hW7⟩:∃U,U=(W6.alloc (.cells qV 32)).setRow W6.heap.size #[I x0,I x1,qZ,qZ,qZ,qZ,qZ,qZ,qZ,I x2,I x3,I x4,I x5]:=⟨_,rfl⟩
 have hb7:qB W6 W7:=by rw [hW7];exact qbe hb6
 have hY7:W7.heap[W6.heap.size]?=some (.cells #[I x0,I x1,qZ,qZ,qZ,qZ,qZ,qZ,qZ,I x2,I x3,I x4,I x5] 32):=by rw [hW7];exact setRow_heap _ _ _ _ _ _ hv6
 have hD7:=hD.below hb7;have hX7:=(hb7.block _ (qa6 hX6)).trans hX6;have hB7:qB w W7:=belT hwB hb7;have hcG:Hid (qdc W7 r gn nn):=fun U hU=>hN.out U (qa1 (qec hG hb7) hU)
 have hXY:w.heap.size < W6.heap.size:=qa6 hX6;have hall:Calls Tryz.prog 22 #[.pointer (some ⟨r,0,none⟩),.agg #[I x0,I x1,qZ,qZ,qZ,qZ,qZ,qZ,qZ,I x2,I x3,I x4,I x5],.slice (some ⟨gn,0,none⟩) 7 cn] W7 fun e w'=>∃v,e=.returned (.agg (qC tb v))∧TbO w' W7.heap.size tb v∧dSt w' r sA∧W7.grownBy w' (some r):=HA.out W7 gn cn hD7 HB.out.2.2.2.2 hcG
 have k0:W7.cell? ⟨W6.heap.size,0,none⟩=some (I x0):=by rw [qcr hY7];rfl
 have k1:W7.cell? ⟨W6.heap.size,1,none⟩=some (I x1):=by rw [qcr hY7];rfl
 have k2:W7.cell? ⟨W6.heap.size,2,none⟩=some qZ:=by rw [qcr hY7];rfl
 have k3:W7.cell? ⟨W6.heap.size,3,none⟩=some qZ:=by rw [qcr hY7];rfl
 have k4:W7.cell? ⟨W6.heap.size,4,none⟩=some qZ:=by rw [qcr hY7];rfl
 have k5:W7.cell? ⟨W6.heap.size,5,none⟩=some qZ:=by rw [qcr hY7];rfl
 have k6:W7.cell? ⟨W6.heap.size,6,none⟩=some qZ:=by rw [qcr hY7];rfl
 have k7:W7.cell? ⟨W6.heap.size,7,none⟩=some qZ:=by rw [qcr hY7];rfl
 have k8:W7.cell? ⟨W6.heap.size,8,none⟩=some qZ:=by rw [qcr hY7];rfl
 have k9:W7.cell? ⟨W6.heap.size,9,none⟩=some (I x2):=by rw [qcr hY7];rfl
 have k10:W7.cell? ⟨W6.heap.size,10,none⟩=some (I x3):=by rw [qcr hY7];rfl
 have k11:W7.cell? ⟨W6.heap.size,11,none⟩=some (I x4):=by rw [qcr hY7];rfl
 have k12:W7.cell? ⟨W6.heap.size,12,none⟩=some (I x5):=by rw [qcr hY7];rfl
 have hlY:W6.heap.size < W7.heap.size:=qa6 hY7;change Code.wp _ _ _ _ ((W6.alloc (.cells qV 32)).setRow W6.heap.size #[I x0,I x1,qZ,qZ,qZ,qZ,qZ,qZ,qZ,I x2,I x3,I x4,I x5]);rw [←hW7];have HR:Hid (W7.heap[w.heap.size]?=some (.cells qV 32)∧qB w W7∧w.heap.size≠r∧w.heap.size≤r):=⟨hX7,hB7,HB.out.2.2.1,HB.out.2.2.2.1⟩;clear hv6 hb6 hX6 hwB hW7 hb7 hD7 hX7 hB7 hcG HA HB hN;generalize W6.heap.size=Y at *;try clear hG
 clear hD;go_upto_region 16 with (first
  | (go_at_call 22;refine hall.mono ?_;clear hall;rintro e W8 ⟨v,rfl,hO8,hD8,hG8⟩;have hY8:=(hG8.block Y hlY (by intro e;cases e;omega)).trans hY7)
  | (refine wpList_store_row rfl 32 _ _ rfl Y _ rfl rfl 32 _ hY8 hi9 rfl (by simp [Value.oneCell']) ?_))
 obtain ⟨hX7,hB7,hne,hlo⟩:=HR.out;have hXn:w.heap.size≠Y:=by omega
 have hY9:(W8.setRow Y (qC tb v)).heap[Y]?=some (.cells (qC tb v) 32):=setRow_heap _ _ _ _ _ _ hY8;have hD9:=dSt.rowT (c2:=(qC tb v)) hD8 hlr;have hO9:TbO (W8.setRow Y (qC tb v)) W7.heap.size tb v:=TbO.rowT hO8 hY8;have hX8:=(hG8.block _ (qa6 hX7) (by intro e;cases e;exact hne rfl)).trans hX7;have hX9:(W8.setRow Y (qC tb v)).heap[w.heap.size]?=some (.cells qV 32):=(setRow_other _ _ _ _ hXn).trans hX8;have hB8:=hB7.grown hG8 hB7.size (fun k e=>by cases e;exact hlo);have hB9:qB w (W8.setRow Y (qC tb v)):=qis hB8 (by omega);have hlo7:=hB7.size;generalize W8.setRow Y (qC tb v)=W9 at *;obtain ⟨hs1k,aa,na,ca,p1,-,-⟩:=id hD9;have c1:W9.cell? ⟨r,1,none⟩=some (I sA.2):=by rw [qcr p1];rfl
 have HRr:Hid (W9.heap[r]?=some (.cells #[.slice aa na ca,I sA.2] 61)):=p1;clear HR hX7 hB7 hX8 hB8 hY8 hO8 hD8 hG8 hY7 k0 k1 k2 k3 k4 k5 k6 k7 k8 k9 k10 k11 k12 p1 hlY hD9;have H9:Hid (TbO W9 W7.heap.size tb v∧W9.heap[Y]?=some (.cells (qC tb v) 32)∧qB w W9∧w.heap.size≤W7.heap.size):=⟨hO9,hY9,hB9,hlo7⟩;by_cases hz:sA.2=0
 case neg=>
  have HF:Hid (dFin (sA,tb)=.error sA.2):=if_pos hz;have hzI:¬((sA.2:Int)=0):=by omega
  clear hO9 hY9 hB9 hlo7;generalize hsz:sA.2=z at *;have hXd:W9.drew.heap[w.heap.size]?=some (.cells qV 32):=hX9;have hRd:W9.drew.heap[r]?=some (.cells #[.slice aa na ca,I z] 61):=HRr.out;have hBd:qB w W9.drew:=H9.out.2.2.1.drew;go_upto_region 17 with fail;clear c1 hX9 HRr;refine wp_region_noPanic ?_;have hcE:W9.drew.cell? ⟨r,1,none⟩=some (I z):=by rw [qcr hRd];rfl
  refine wp_region_held_drew (S:=fun U=>U.cell? ⟨r,1,none⟩=some (I z)) (by kernel_rfl) hcE (fun hHeld=>?_);change wpAnyH _ _ _ _ _ _ #[false,false,false,false,false,false,false] _ _;try simp only [qN]
  refine qTH 0 (.agg qV) rfl hHeld ?_;try simp only [qN]
  refine qTH 1 (.pointer (some ⟨r,0,none⟩)) rfl hHeld ?_;try simp only [qN]
  refine qTH 2 (.pointer (some ⟨r,0,none⟩)) rfl hHeld ?_;try simp only [qN]
  refine qTH 3 (.pointer (some ⟨r,1,none⟩)) rfl hHeld ?_;try simp only [qN]
  refine qTH 4 (I z) rfl hHeld ?_;try simp only [qN]
  clear hHeld;generalize W9.drew=w5 at *;obtain ⟨⟨j0,cj0,fj0⟩,⟨j1,cj1,fj1⟩,⟨j2,cj2,fj2⟩,⟨j3,cj3,fj3⟩,⟨j4,cj4,fj4⟩,⟨j5,cj5,fj5⟩,⟨j6,cj6,fj6⟩,⟨j7,cj7,fj7⟩,⟨j8,cj8,fj8⟩,⟨j9,cj9,fj9⟩,⟨j10,cj10,fj10⟩,⟨j11,cj11,fj11⟩,⟨j12,cj12,fj12⟩,k13⟩:=qeh (I 0) (I 0) qZ qZ qZ qZ qZ qZ qZ (I 0) (I 0) (I 0) (I 0) hXd;refine qR1 (i:=5) rfl (fun K hK=>?_);go_simp;have hb6:qB w ((((((((((((((w5).setCell ⟨w.heap.size,0,none⟩ (I 0)).setCell ⟨w.heap.size,1,none⟩ (I 0)).setCell ⟨w.heap.size,2,none⟩ qZ).setCell ⟨w.heap.size,3,none⟩ qZ).setCell ⟨w.heap.size,4,none⟩ qZ).setCell ⟨w.heap.size,5,none⟩ qZ).setCell ⟨w.heap.size,6,none⟩ qZ).setCell ⟨w.heap.size,7,none⟩ qZ).setCell ⟨w.heap.size,8,none⟩ qZ).setCell ⟨w.heap.size,9,none⟩ (I 0)).setCell ⟨w.heap.size,10,none⟩ (I 0)).setCell ⟨w.heap.size,11,none⟩ (I 0)).setCell ⟨w.heap.size,12,none⟩ (I 0)):=qak (qak (qak (qak (qak (qak (qak (qak (qak (qak (qak (qak (qak (hBd) (Nat.le_refl _)) (Nat.le_refl _)) (Nat.le_refl _)) (Nat.le_refl _)) (Nat.le_refl _)) (Nat.le_refl _)) (Nat.le_refl _)) (Nat.le_refl _)) (Nat.le_refl _)) (Nat.le_refl _)) (Nat.le_refl _)) (Nat.le_refl _)) (Nat.le_refl _);have hE6:((((((((((((((w5).setCell ⟨w.heap.size,0,none⟩ (I 0)).setCell ⟨w.heap.size,1,none⟩ (I 0)).setCell ⟨w.heap.size,2,none⟩ qZ).setCell ⟨w.heap.size,3,none⟩ qZ).setCell ⟨w.heap.size,4,none⟩ qZ).setCell ⟨w.heap.size,5,none⟩ qZ).setCell ⟨w.heap.size,6,none⟩ qZ).setCell ⟨w.heap.size,7,none⟩ qZ).setCell ⟨w.heap.size,8,none⟩ qZ).setCell ⟨w.heap.size,9,none⟩ (I 0)).setCell ⟨w.heap.size,10,none⟩ (I 0)).setCell ⟨w.heap.size,11,none⟩ (I 0)).setCell ⟨w.heap.size,12,none⟩ (I 0)).heap[r]?=some (.cells #[.slice aa na ca,I z] 61):=by
   repeat rw [heap_setCell_other _ _ r _ (by show r≠w.heap.size;exact Ne.symm hne)]
   exact hRd
  have hc6:((((((((((((((w5).setCell ⟨w.heap.size,0,none⟩ (I 0)).setCell ⟨w.heap.size,1,none⟩ (I 0)).setCell ⟨w.heap.size,2,none⟩ qZ).setCell ⟨w.heap.size,3,none⟩ qZ).setCell ⟨w.heap.size,4,none⟩ qZ).setCell ⟨w.heap.size,5,none⟩ qZ).setCell ⟨w.heap.size,6,none⟩ qZ).setCell ⟨w.heap.size,7,none⟩ qZ).setCell ⟨w.heap.size,8,none⟩ qZ).setCell ⟨w.heap.size,9,none⟩ (I 0)).setCell ⟨w.heap.size,10,none⟩ (I 0)).setCell ⟨w.heap.size,11,none⟩ (I 0)).setCell ⟨w.heap.size,12,none⟩ (I 0)).cell? ⟨r,1,none⟩=some (I z):=by rw [qcr hE6];rfl
  refine hK.out _ _ hc6 (fun hSS=>?_);clear hSS hK K j0 cj0 fj0 j1 cj1 fj1 j2 cj2 fj2 j3 cj3 fj3 j4 cj4 fj4 j5 cj5 fj5 j6 cj6 fj6 j7 cj7 fj7 j8 cj8 fj8 j9 cj9 fj9 j10 cj10 fj10 j11 cj11 fj11 j12 cj12 fj12 hXd hRd hBd hcE;try simp only [qN]
  generalize (((((((((((((w5).setCell ⟨w.heap.size,0,none⟩ (I 0)).setCell ⟨w.heap.size,1,none⟩ (I 0)).setCell ⟨w.heap.size,2,none⟩ (.slice none 0 0)).setCell ⟨w.heap.size,3,none⟩ (.slice none 0 0)).setCell ⟨w.heap.size,4,none⟩ (.slice none 0 0)).setCell ⟨w.heap.size,5,none⟩ (.slice none 0 0)).setCell ⟨w.heap.size,6,none⟩ (.slice none 0 0)).setCell ⟨w.heap.size,7,none⟩ (.slice none 0 0)).setCell ⟨w.heap.size,8,none⟩ (.slice none 0 0)).setCell ⟨w.heap.size,9,none⟩ (I 0)).setCell ⟨w.heap.size,10,none⟩ (I 0)).setCell ⟨w.heap.size,11,none⟩ (I 0)).setCell ⟨w.heap.size,12,none⟩ (I 0)=w6 at *;refine qR1 (i:=6) rfl (fun K hK=>?_);go_simp;refine hK.out _ _ hc6 (fun hSS=>?_);clear hSS hK K;try simp only [qN]
  refine wpAnyH_done (by kernel_rfl) ?_ _;refine NoPanic.normal ?_;go_wp2;refine bodyPost_ret (qdd Tryz.results6 _ w.heap.size _ _ _ _ _ _ _ _ _ _ _ _ _ _ _ rfl rfl k13) rfl ?_;rw [HF.out];exact ⟨rfl,hb6⟩
 case pos=>
  rw [hz] at c1;have k0:W9.cell? ⟨Y,0,none⟩=some (I tb.uses):=by rw [qcr hY9];rfl
  have k1:W9.cell? ⟨Y,1,none⟩=some (I tb.modes):=by rw [qcr hY9];rfl
  have k2:W9.cell? ⟨Y,2,none⟩=some (.slice v.t.a v.t.n v.t.c):=by rw [qcr hY9];rfl
  have k3:W9.cell? ⟨Y,3,none⟩=some (.slice v.g.a v.g.n v.g.c):=by rw [qcr hY9];rfl
  have k4:W9.cell? ⟨Y,4,none⟩=some (.slice v.r.a v.r.n v.r.c):=by rw [qcr hY9];rfl
  have k5:W9.cell? ⟨Y,5,none⟩=some (.slice v.k.a v.k.n v.k.c):=by rw [qcr hY9];rfl
  have k6:W9.cell? ⟨Y,6,none⟩=some (.slice v.a.a v.a.n v.a.c):=by rw [qcr hY9];rfl
  have k7:W9.cell? ⟨Y,7,none⟩=some (.slice v.i.a v.i.n v.i.c):=by rw [qcr hY9];rfl
  have k8:W9.cell? ⟨Y,8,none⟩=some (.slice v.s.a v.s.n v.s.c):=by rw [qcr hY9];rfl
  have k9:W9.cell? ⟨Y,9,none⟩=some (I tb.depth):=by rw [qcr hY9];rfl
  have k10:W9.cell? ⟨Y,10,none⟩=some (I tb.frames):=by rw [qcr hY9];rfl
  have k11:W9.cell? ⟨Y,11,none⟩=some (I tb.errors):=by rw [qcr hY9];rfl
  have k12:W9.cell? ⟨Y,12,none⟩=some (I tb.calls):=by rw [qcr hY9];rfl
  have hCk:=qir tb v W9 hO9.at;unfold tbC at hCk;clear hO9 hY9 hB9 hlo7;cases hk:chkD tb with
  | false=>
   have HF:Hid (dFin (sA,tb)=.error 90):=by show _=_;unfold dFin;rw [if_neg (by simp [hz]),if_neg (by simp [hk])]
   rw [hk] at hCk;unfold zOf at hCk;simp only [Bool.false_eq_true,if_false] at hCk;clear hk;go_wp2_with (first
    | (go_at_call 23;refine hCk.mono ?_;clear hCk;rintro e W10 ⟨rfl,b10⟩;have hX10:=(b10.block _ (qa6 hX9)).trans hX9)
    | (refine wpList_store_row rfl 32 _ _ rfl w.heap.size _ rfl rfl 32 _ hX10 hi9 rfl (by simp [Value.oneCell']) ?_))
   refine bodyPost_ret (qdd Tryz.results6 _ w.heap.size _ _ _ _ _ _ _ _ _ _ _ _ _ _ _ rfl rfl (setRow_heap _ _ _ _ _ _ hX10)) rfl ?_;rw [HF.out];exact ⟨rfl,qbe (belT H9.out.2.2.1 b10)⟩
  | true=>
   have HF:Hid (dFin (sA,tb)=.ok tb):=by show _=_;unfold dFin;rw [if_neg (by simp [hz]),if_pos hk]
   rw [hk] at hCk;unfold zOf at hCk;simp only [if_true] at hCk;clear hk;go_upto_region 20 with (first | (go_at_call 23;refine hCk.mono ?_;clear hCk;rintro e W10 ⟨rfl,b10⟩;have hX10:=(b10.block _ (qa6 hX9)).trans hX9));clear k0 k1 k2 k3 k4 k5 k6 k7 k8 k9 k10 k11 k12;have hY10:=(b10.block _ (qa6 H9.out.2.1)).trans H9.out.2.1;have k0:W10.cell? ⟨Y,0,none⟩=some (I tb.uses):=by rw [qcr hY10];rfl
   have k1:W10.cell? ⟨Y,1,none⟩=some (I tb.modes):=by rw [qcr hY10];rfl
   have k2:W10.cell? ⟨Y,2,none⟩=some (.slice v.t.a v.t.n v.t.c):=by rw [qcr hY10];rfl
   have k3:W10.cell? ⟨Y,3,none⟩=some (.slice v.g.a v.g.n v.g.c):=by rw [qcr hY10];rfl
   have k4:W10.cell? ⟨Y,4,none⟩=some (.slice v.r.a v.r.n v.r.c):=by rw [qcr hY10];rfl
   have k5:W10.cell? ⟨Y,5,none⟩=some (.slice v.k.a v.k.n v.k.c):=by rw [qcr hY10];rfl
   have k6:W10.cell? ⟨Y,6,none⟩=some (.slice v.a.a v.a.n v.a.c):=by rw [qcr hY10];rfl
   have k7:W10.cell? ⟨Y,7,none⟩=some (.slice v.i.a v.i.n v.i.c):=by rw [qcr hY10];rfl
   have k8:W10.cell? ⟨Y,8,none⟩=some (.slice v.s.a v.s.n v.s.c):=by rw [qcr hY10];rfl
   have k9:W10.cell? ⟨Y,9,none⟩=some (I tb.depth):=by rw [qcr hY10];rfl
   have k10:W10.cell? ⟨Y,10,none⟩=some (I tb.frames):=by rw [qcr hY10];rfl
   have k11:W10.cell? ⟨Y,11,none⟩=some (I tb.errors):=by rw [qcr hY10];rfl
   have k12:W10.cell? ⟨Y,12,none⟩=some (I tb.calls):=by rw [qcr hY10];rfl
   have hi10:(Tryz.prog.info? 32).map (·.size)=some ((qC tb v):Array Value).size:=by kernel_rfl
   clear hY10;go_wp2_with (first
    | (refine wpList_store_row rfl 32 _ _ rfl w.heap.size _ rfl rfl 32 _ hX10 hi9 rfl (by simp [Value.oneCell']) ?_))
   refine bodyPost_ret (qdd Tryz.results6 _ w.heap.size _ _ _ _ _ _ _ _ _ _ _ _ _ _ _ rfl rfl (setRow_heap _ _ _ _ _ _ hX10)) rfl ?_;rw [HF.out];exact ⟨v,W7.heap.size,H9.out.2.2.2,rfl,TbO.rowT (H9.out.1.below b10) hX10,qbe (belT H9.out.2.2.1 b10)⟩
theorem qf5 {w:World} {a:Option Addr} {n c:Nat} {bs:List UInt8} (h:Rd w a n c bs):Calls Tryz.prog 6 #[.slice a n c] w fun e w'=>DP w (dec bs) e w':=by
 rw [←qpc];have hl:=h.hlen;have hE:∀k:Nat,outE bs=k→k≠0→ddec bs=.error k:=fun k hk h0=>by rw [ddec,if_pos (by rw [hk];exact h0),hk]
 by_cases h4:bs.take 4=mrk
 case neg=>
  rw [hE 100 (by unfold outE;rw [if_pos h4]) (by decide)];exact qpd w a n c bs h h4
 by_cases h5:bs.length < 30∨leV ((bs.drop 4).take 4)≠bs.length
 case pos=>
  rw [hE 101 (by unfold outE;rw [if_neg (by simp [h4]),if_pos h5]) (by decide)];exact qpe w a n c bs h h4 h5
 have h30:30≤n:=by
  have:¬bs.length < 30:=fun q=>h5 (.inl q)
  omega
 have hx:leV ((bs.drop 4).take 4)=n:=by
  rw [←hl];exact Classical.byContradiction fun q=>h5 (.inr q)
 by_cases h6:leV (bs.drop (n - 2))=crc 65535 (bs.take (n - 2))
 case neg=>
  rw [hE 102 (by unfold outE;rw [if_neg (by simp [h4]),if_neg h5,hl,if_pos h6]) (by decide)];exact qpf w a n c bs h h4 h30 hx h6
 have ho:outE bs=0:=by unfold outE;rw [if_neg (by simp [h4]),if_neg h5,hl,if_neg (by simp [h6])]
 have hd:ddec bs=dFin (dAll (dN ((bs.drop 8).take (n - 10),0)) (dHd (dSk 7 ((bs.drop 8).take (n - 10),0))) (dOk 6 (dSk 7 ((bs.drop 8).take (n - 10),0)))):=by
  rw [ddec,if_neg (by simp [ho]),hl];rfl
 rw [hd];exact qr5 w a n c bs h h4 h30 hx h6 _ fun T W r gn cn q hT q2 q5 q6=>qof w W r gn cn _ q T hT q2 q5 q6
theorem qmg {w:World} {a:Option Addr} {n c q:Nat} {bs:List UInt8} (h:Rd w a n c bs) (hd:dec bs=.error q) (hq:q≠0):Calls Tryz.prog 11 #[.slice a n c] w fun e w'=>e=.returned (.tuple #[qZ,I q])∧qB w w':=by
 have hD:=qf5 h;rw [hd] at hD;have hqI:¬((q:Int)=0):=by omega
 have hi9:(Tryz.prog.info? 32).map (·.size)=some (qV:Array Value).size:=by kernel_rfl
 unfold DP zT at hD;clear h hd hq;go_enter Tryz.func11,Tryz.ntmps11
 go_wp2_with (first
  | (go_at_call 6;refine hD.mono ?_;clear hD;rintro e w2 ⟨rfl,b2⟩;have B2:Hid (qB w w2):=b2;clear b2)
  | (refine wpList_store_row rfl 32 _ _ rfl _ _ rfl rfl 32 _ (heap_alloc_new _ _) hi9 rfl (by simp [Value.oneCell']) ?_))
 refine bodyPost_ret (results_tmp2 Tryz.results11 _ _ _) rfl ?_;exact ⟨rfl,belT B2.out (qbe (qa0 w2 _))⟩
theorem lfB (w:World) (v:Int) (h:b8 v):Calls Tryz.prog 90 #[I v] w fun e w'=>∃a c,e=.returned (.slice a 1 c)∧Rd w' a 1 c (e1 v)∧qB w w':=(qfc w v h.1 h.2).mono fun e w' ⟨a,c,q1,q2⟩=>⟨a,c,q1,qd5 q2 (by simp [e1,qa8]) (by omega),q2.2⟩
theorem lfH (w:World) (v:Int) (h:b16 v):Calls Tryz.prog 95 #[I v] w fun e w'=>∃a c,e=.returned (.slice a 2 c)∧Rd w' a 2 c (e2 v)∧qB w w':=(qsa w v h.1 h.2).mono fun e w' ⟨a,c,q1,q2⟩=>⟨a,c,q1,qd5 q2 (by simp [e2,qa8]) (by omega),q2.2⟩
theorem lfW (w:World) (n:Nat) (h:n < 256 ^ 4):Calls Tryz.prog 92 #[(qU n)] w fun e w'=>∃a c,e=.returned (.slice a 4 c)∧Rd w' a 4 c (leB 4 n)∧qB w w':=(qo4 w n (by omega)).mono fun e w' ⟨a,c,q1,q2⟩=>⟨a,c,q1,qd5 q2 (by simp [qa8]) (by omega),q2.2⟩
theorem lfF (w:World) (b:Bool):Calls Tryz.prog 91 #[.bool b] w fun e w'=>∃a c,e=.returned (.slice a 1 c)∧Rd w' a 1 c (eF b)∧qB w w':=(qo5 w b).mono fun e w' ⟨a,c,q1,q2⟩=>⟨a,c,q1,qd5 q2 (by simp [eF,qa8]) (by omega),q2.2⟩
theorem lfM (w:World) (v:Int) (h:b8 (v+1)):Calls Tryz.prog 93 #[I v] w fun e w'=>∃a c,e=.returned (.slice a 1 c)∧Rd w' a 1 c (e1 (v+1))∧qB w w':=(qmc w v h.1 h.2).mono fun e w' ⟨a,c,q1,q2⟩=>⟨a,c,q1,qd5 q2 (by simp [e1,qa8]) (by omega),q2.2⟩
theorem lfU (w:World) (n:Nat) (h:n < 256 ^ 1):Calls Tryz.prog 90 #[I (n:Int)] w fun e w'=>∃a c,e=.returned (.slice a 1 c)∧Rd w' a 1 c (leB 1 n)∧qB w w':=(qfc w n (by omega) (by omega)).mono fun e w' ⟨a,c,q1,q2⟩=>⟨a,c,q1,qd5 q2 (by simp [e1,qa8]) (by omega),q2.2⟩
theorem lfQ (w:World) (n:Nat) (h:n < 256 ^ 8):Calls Tryz.prog 97 #[.int .u64 (n:Int),I 8] w fun e w'=>∃a c,e=.returned (.slice a 8 c)∧Rd w' a 8 c (leB 8 n)∧qB w w':=(Ob.low_any n 8 w (by omega) (by omega) (by omega) h).mono fun e w' ⟨a,c,q1,q2,q3⟩=>⟨a,c,q1,qa7 q2 (by omega),q3⟩
theorem qhz (x:AcR):(eAc x).length=6:=by simp [eAc,e1,qa8]
theorem lfL (w:World) (s:Sl) (l:List Int) (h:RowsAt w 1 intP s l) (h9:l.length < 256∧∀y∈l,b8 y):Calls Tryz.prog 94 #[slT s] w fun e w'=>∃a c,e=.returned (.slice a (eL l).length c)∧Rd w' a (eL l).length c (eL l)∧qB w w':=(qo6 w s l h h9.1 h9.2).mono fun e w' ⟨u,q1,q2⟩=>by
 obtain ⟨a,c,rfl⟩:=qam q2.1;exact ⟨a,c,q1,qd5 q2 rfl (by rw [qf8];omega),q2.2⟩
theorem lfA (w:World) (x:AcR) (h:okAc x):Calls Tryz.prog 96 #[.agg #[I x.kind,I x.task,(qU x.mask)]] w fun e w'=>∃a c,e=.returned (.slice a 6 c)∧Rd w' a 6 c (eAc x)∧qB w w':=(qkh w x h).mono fun e w' ⟨u,q1,q2⟩=>by
 obtain ⟨a,c,rfl⟩:=qam q2.1;rw [qhz] at q1;exact ⟨a,c,q1,qd5 (by have:=q2;unfold OwB at this ⊢;rw [qhz] at this ⊢;exact this) (qhz x) (by omega),q2.2⟩
theorem qde {α:Type} (e:α→List UInt8) {L:List α} {k:Nat} {x:α} (h:L[k]?=some x):(L.take (k+1)).flatMap e=(L.take k).flatMap e++e x:=by rw [List.take_add_one,h];simp
theorem qeu {α:Type} (e:α→List UInt8) {L:List α} {k:Nat} {x:α} (h:L[k]?=some x):((L.take k).flatMap e).length+(e x).length≤(L.flatMap e).length:=by
 have h1:=qde e h;have h2:L.flatMap e=(L.take (k+1)).flatMap e++(L.drop (k+1)).flatMap e:=by rw [←List.flatMap_append,List.take_append_drop]
 rw [h2,h1,List.length_append,List.length_append];omega
theorem qto {w0:World} {X B:Nat} {tb:Tb} {v:Ts} (HS:Hid (∀W,qB w0 W→W.cell? ⟨X,2,none⟩=some (.slice v.t.a v.t.n v.t.c))) (HT:Hid (∀W,qB w0 W→TbAt W tb v)) (HOK:Hid (w0.heap.size≤B∧(∀x∈tb.tasks,okTk x)∧(tb.tasks.flatMap eTk).length≤100000)):PSeg 2 0 X B w0 (tb.tasks.flatMap eTk):=by
 intro N R T vs w cs hT h1 h3 hb hc hq hK;have HK:Hid _:=hK;have HB:Hid (qB w0 w):=hb;have HI:Hid (PI w w B 0 cs none 0 ((tb.tasks.take 0).flatMap eTk)):=PI.nil hc hq;rw [qei T hT];simp only [rng2,List.map_cons,List.map_nil,show tk T 1=_ from h1,show tk T 3=_ from h3];clear hK hb hc hq h1 h3 hT;generalize tk T=tt;conv=>arg 2;whnf
 go_wp2;go_loopw [4,5] (fun v4 _ wr=>∃(k:Nat) (a:Option Addr) (c:Nat),k≤v.t.n∧v4=I k∧Hid (PI w wr B 0 cs a c ((tb.tasks.take k).flatMap eTk))) (fun v4 _ _=>v.t.n - (intOf v4).toNat)
 case atStart=>exact ⟨0,none,0,by omega,rfl,HI.out⟩
 case round=>
  clear HI;obtain ⟨k,a,c,hk,rfl,HJ⟩:=hrel;have HZ:Hid (qB w0 wr):=qe0 HB.out HOK.out.1 HJ.out.g;have cA:=HS.out wr HZ.out;have hmx:v.t.n≤maxLen:=Nat.le_trans (HT.out wr HZ.out).t.c (HT.out wr HZ.out).t.m;unfold maxLen at hmx;by_cases hlt:k < v.t.n
  ·skip
   have hltI:(k:Int) < v.t.n:=by omega
   have hk1:k < tb.tasks.length:=by have:=(HT.out wr HZ.out).t.n;omega
   obtain ⟨x,hx⟩:∃x,tb.tasks[k]?=some x:=⟨_,List.getElem?_eq_getElem hk1⟩
   have hbnd:((tb.tasks.take k).flatMap eTk).length+(eTk x).length≤100000:=Nat.le_trans (qeu eTk hx) HOK.out.2.2;have HN:Hid ((tb.tasks.take (k+1)).flatMap eTk=(tb.tasks.take k).flatMap eTk++eTk x):=qde eTk hx;have hok:okTk x:=HOK.out.2.1 x (List.mem_of_getElem? hx);obtain ⟨k0,k1,k3,k4,k5,k6,k7⟩:=hok;have HKS:Hid (b8 x.prio∧b8 x.ring∧b8 x.limit∧x.mask < 256 ^ 4∧b8 (x.inner+1)∧(x.own.length < 256∧∀y∈x.own,b8 y)∧x.auto < 256 ^ 1):=⟨k0,k1,k3,k4,k5,k6,k7⟩;obtain ⟨g,o,s9,e1,hg,q0,q1,q2,q3,q4,q5,q6,q7,R9⟩:=qdi (HT.out wr HZ.out) hx;clear hg;rw [e1] at cA;clear e1 hx hk1;clear k0 k1 k3 k4 k5 k6 k7;generalize (tb.tasks.take k).flatMap eTk=l at *;have HBD:Hid (l.length+(eTk x).length≤100000):=hbnd;clear hbnd;have hv5:=heap_alloc_new wr (.cells #[I x.prio,I x.ring,.bool x.full,I x.limit,.int .u32 (x.mask:Int),I x.inner,.slice s9.a s9.n s9.c,.int .u32 (x.auto:Int)] 71);have hb5:=qa0 wr (.cells #[I x.prio,I x.ring,.bool x.full,I x.limit,.int .u32 (x.mask:Int),I x.inner,.slice s9.a s9.n s9.c,.int .u32 (x.auto:Int)] 71);have HR9:Hid (RowsAt (wr.alloc (.cells #[I x.prio,I x.ring,.bool x.full,I x.limit,.int .u32 (x.mask:Int),I x.inner,.slice s9.a s9.n s9.c,.int .u32 (x.auto:Int)] 71)) 1 intP s9 x.own):=R9.below hb5 (fun _ _ _ _ h=>h);clear R9;go_upto_region 6 with fail;have HP:Hid (PI w (wr.alloc (.cells #[I x.prio,I x.ring,.bool x.full,I x.limit,.int .u32 (x.mask:Int),I x.inner,.slice s9.a s9.n s9.c,.int .u32 (x.auto:Int)] 71)) B 0 cs a c l∧qB wr (wr.alloc (.cells #[I x.prio,I x.ring,.bool x.full,I x.limit,.int .u32 (x.mask:Int),I x.inner,.slice s9.a s9.n s9.c,.int .u32 (x.auto:Int)] 71))):=⟨HJ.out.below hb5,hb5⟩;have HV:Hid ((wr.alloc (.cells #[I x.prio,I x.ring,.bool x.full,I x.limit,.int .u32 (x.mask:Int),I x.inner,.slice s9.a s9.n s9.c,.int .u32 (x.auto:Int)] 71)).heap[wr.heap.size]?=some (.cells #[I x.prio,I x.ring,.bool x.full,I x.limit,.int .u32 (x.mask:Int),I x.inner,.slice s9.a s9.n s9.c,.int .u32 (x.auto:Int)] 71)):=hv5;clear hv5 hb5 cA q0 q1 q2 q3 q4 q5 q6 q7;generalize wr.alloc (.cells #[I x.prio,I x.ring,.bool x.full,I x.limit,.int .u32 (x.mask:Int),I x.inner,.slice s9.a s9.n s9.c,.int .u32 (x.auto:Int)] 71)=w5 at *;generalize hP0:wr.heap.size=P0 at *;have HSS:Hid (∀W,qB w5 W→W.cell? ⟨P0,0,none⟩=some (I x.prio)∧W.cell? ⟨P0,1,none⟩=some (I x.ring)∧W.cell? ⟨P0,2,none⟩=some (.bool x.full)∧W.cell? ⟨P0,3,none⟩=some (I x.limit)∧W.cell? ⟨P0,4,none⟩=some (.int .u32 (x.mask:Int))∧W.cell? ⟨P0,5,none⟩=some (I x.inner)∧W.cell? ⟨P0,6,none⟩=some (.slice s9.a s9.n s9.c)∧W.cell? ⟨P0,7,none⟩=some (.int .u32 (x.auto:Int))∧W.cell? ⟨B,0,none⟩=some (.slice a l.length c)):=fun W hW=>by
    have h9:=(hW.block _ (qa6 HV.out)).trans HV.out;refine ⟨?_,?_,?_,?_,?_,?_,?_,?_,(HP.out.1.below hW).cell⟩ <;> (rw [qcr h9];rfl)
   refine qc5 (S:=(fun W=>W.cell? ⟨P0,0,none⟩=some (I x.prio)∧W.cell? ⟨P0,1,none⟩=some (I x.ring)∧W.cell? ⟨P0,2,none⟩=some (.bool x.full)∧W.cell? ⟨P0,3,none⟩=some (I x.limit)∧W.cell? ⟨P0,4,none⟩=some (.int .u32 (x.mask:Int))∧W.cell? ⟨P0,5,none⟩=some (I x.inner)∧W.cell? ⟨P0,6,none⟩=some (.slice s9.a s9.n s9.c)∧W.cell? ⟨P0,7,none⟩=some (.int .u32 (x.auto:Int))∧W.cell? ⟨B,0,none⟩=some (.slice a l.length c))) 33 (by kernel_rfl) ?_;change qbw _ _ _ _ _ _ _ #[false,false,false,false,false,false,false,false,false,false,false,false,false,false,false,false,false,false,false,false,false,false,false,false,false,false,false,false,false,false,false,false,false,false] _ _;have hHeld:=HSS.out w5.drew (Below.refl w5.heap.size w5).drew;have hau:IntKind.i64.wrap (x.auto:Int)=x.auto:=by have:=HKS.out;rw [IntKind.wrap_i64] <;> omega
   try simp only [qN]
   refine qTG 0 (.slice (some ⟨B,0,none⟩) 7 7) rfl hHeld ?_;try simp only [qN]
   refine qTG 1 (.slice (some ⟨B,0,none⟩) 7 7) rfl hHeld ?_;try simp only [qN]
   refine qTG 2 (.pointer (some ⟨B,0,none⟩)) rfl hHeld ?_;try simp only [qN]
   refine qTG 3 (.slice a l.length c) rfl hHeld ?_;try simp only [qN]
   refine qTG 4 (.pointer (some ⟨P0,0,none⟩)) rfl hHeld ?_;try simp only [qN]
   refine qTG 5 (I x.prio) rfl hHeld ?_;try simp only [qN]
   refine qTG 7 (.pointer (some ⟨P0,1,none⟩)) rfl hHeld ?_;try simp only [qN]
   refine qTG 8 (I x.ring) rfl hHeld ?_;try simp only [qN]
   refine qTG 10 (.pointer (some ⟨P0,2,none⟩)) rfl hHeld ?_;try simp only [qN]
   refine qTG 11 (.bool x.full) rfl hHeld ?_;try simp only [qN]
   refine qTG 13 (.pointer (some ⟨P0,3,none⟩)) rfl hHeld ?_;try simp only [qN]
   refine qTG 14 (I x.limit) rfl hHeld ?_;try simp only [qN]
   refine qTG 16 (.pointer (some ⟨P0,4,none⟩)) rfl hHeld ?_;try simp only [qN]
   refine qTG 17 (.int .u32 (x.mask:Int)) rfl hHeld ?_;try simp only [qN]
   refine qTG 19 (.pointer (some ⟨P0,5,none⟩)) rfl hHeld ?_;try simp only [qN]
   refine qTG 20 (I x.inner) rfl hHeld ?_;try simp only [qN]
   refine qTG 22 (.pointer (some ⟨P0,6,none⟩)) rfl hHeld ?_;try simp only [qN]
   refine qTG 23 (.slice s9.a s9.n s9.c) rfl hHeld ?_;try simp only [qN]
   refine qTG 25 (.pointer (some ⟨P0,7,none⟩)) rfl hHeld ?_;try simp only [qN]
   refine qTG 26 (.int .u32 (x.auto:Int)) rfl hHeld ?_;try simp only [qN]
   refine qTG 27 (I (x.auto:Int)) rfl hHeld ?_;try simp only [qN]
   clear hHeld;have hW0:qB w5 w5.drew:=(Below.refl _ _).drew;refine qab (i:=6) (by kernel_rfl) rfl (fun K hK=>?_);have hC:=fun W (hW:W=w5.drew)=>lfB W x.prio (HKS.out.1)
   go_simp;(go_at_call 90;refine (hC _ rfl).mono ?_;clear hC;rintro e W1 ⟨a1,c1,rfl,r1,b1⟩;refine hK.out _ _ (fun _=>HSS.out _ (belT hW0 b1)) ?_)
   have h1b:=belT hW0 b1;clear hK K hW0 b1;try simp only [qN]
   refine qab (i:=9) (by kernel_rfl) rfl (fun K hK=>?_);have hC:=fun W (hW:W=W1)=>lfB W x.ring (HKS.out.2.1)
   go_simp;(go_at_call 90;refine (hC _ rfl).mono ?_;clear hC;rintro e W2 ⟨a2,c2,rfl,r2,b2⟩;refine hK.out _ _ (fun _=>HSS.out _ (belT h1b b2)) ?_)
   have r1:=r1.below b2;have h2b:=belT h1b b2;clear hK K h1b b2;try simp only [qN]
   refine qab (i:=12) (by kernel_rfl) rfl (fun K hK=>?_);have hC:=fun W (hW:W=W2)=>lfF W x.full
   go_simp;(go_at_call 91;refine (hC _ rfl).mono ?_;clear hC;rintro e W3 ⟨a3,c3,rfl,r3,b3⟩;refine hK.out _ _ (fun _=>HSS.out _ (belT h2b b3)) ?_)
   have r1:=r1.below b3;have r2:=r2.below b3;have h3b:=belT h2b b3;clear hK K h2b b3;try simp only [qN]
   refine qab (i:=15) (by kernel_rfl) rfl (fun K hK=>?_);have hC:=fun W (hW:W=W3)=>lfB W x.limit (HKS.out.2.2.1)
   go_simp;(go_at_call 90;refine (hC _ rfl).mono ?_;clear hC;rintro e W4 ⟨a4,c4,rfl,r4,b4⟩;refine hK.out _ _ (fun _=>HSS.out _ (belT h3b b4)) ?_)
   have r1:=r1.below b4;have r2:=r2.below b4;have r3:=r3.below b4;have h4b:=belT h3b b4;clear hK K h3b b4;try simp only [qN]
   refine qab (i:=18) (by kernel_rfl) rfl (fun K hK=>?_);have hC:=fun W (hW:W=W4)=>lfW W x.mask (HKS.out.2.2.2.1)
   go_simp;(go_at_call 92;refine (hC _ rfl).mono ?_;clear hC;rintro e W5 ⟨a5,c5,rfl,r5,b5⟩;refine hK.out _ _ (fun _=>HSS.out _ (belT h4b b5)) ?_)
   have r1:=r1.below b5;have r2:=r2.below b5;have r3:=r3.below b5;have r4:=r4.below b5;have h5b:=belT h4b b5;clear hK K h4b b5;try simp only [qN]
   refine qab (i:=21) (by kernel_rfl) rfl (fun K hK=>?_);have hC:=fun W (hW:W=W5)=>lfM W x.inner (HKS.out.2.2.2.2.1)
   go_simp;(go_at_call 93;refine (hC _ rfl).mono ?_;clear hC;rintro e W6 ⟨a6,c6,rfl,r6,b6⟩;refine hK.out _ _ (fun _=>HSS.out _ (belT h5b b6)) ?_)
   have r1:=r1.below b6;have r2:=r2.below b6;have r3:=r3.below b6;have r4:=r4.below b6;have r5:=r5.below b6;have h6b:=belT h5b b6;clear hK K h5b b6;try simp only [qN]
   refine qab (i:=24) (by kernel_rfl) rfl (fun K hK=>?_);have hC:=lfL (W6) s9 x.own (HR9.out.below h6b (fun _ _ _ _ h=>h)) (HKS.out.2.2.2.2.2.1);go_simp;(go_at_call 94;refine hC.mono ?_;clear hC;rintro e W7 ⟨a7,c7,rfl,r7,b7⟩;refine hK.out _ _ (fun _=>HSS.out _ (belT h6b b7)) ?_)
   have r1:=r1.below b7;have r2:=r2.below b7;have r3:=r3.below b7;have r4:=r4.below b7;have r5:=r5.below b7;have r6:=r6.below b7;have h7b:=belT h6b b7;clear hK K h6b b7;try simp only [qN]
   refine qab (i:=28) (by kernel_rfl) rfl (fun K hK=>?_);have hC:=fun W (hW:W=W7)=>lfU W x.auto (HKS.out.2.2.2.2.2.2)
   go_simp;(go_at_call 90;refine (hC _ rfl).mono ?_;clear hC;rintro e W8 ⟨a8,c8,rfl,r8,b8⟩;refine hK.out _ _ (fun _=>HSS.out _ (belT h7b b8)) ?_)
   have r1:=r1.below b8;have r2:=r2.below b8;have r3:=r3.below b8;have r4:=r4.below b8;have r5:=r5.below b8;have r6:=r6.below b8;have r7:=r7.below b8;have h8b:=belT h7b b8;clear hK K h7b b8;try simp only [qN]
   have hfl:[e1 x.prio,e1 x.ring,eF x.full,e1 x.limit,leB 4 x.mask,e1 (x.inner+1),eL x.own,leB 1 x.auto].flatten=eTk x:=by simp [eTk]
   have hR:=rowN W8 [(a1,1,c1),(a2,1,c2),(a3,1,c3),(a4,1,c4),(a5,4,c5),(a6,1,c6),(a7,(eL x.own).length,c7),(a8,1,c8)] [e1 x.prio,e1 x.ring,eF x.full,e1 x.limit,leB 4 x.mask,e1 (x.inner+1),eL x.own,leB 1 x.auto] 8 ⟨r1,r2,r3,r4,r5,r6,r7,r8,trivial⟩ rfl (by omega) (by rw [hfl];have:=HBD.out;omega);rw [hfl] at hR;simp only [List.map_cons,List.map_nil] at hR;clear hfl r1 r2 r3 r4 r5 r6 r7 r8;refine qab (i:=29) (by kernel_rfl) rfl (fun K hK=>?_);go_simp;refine hK.out _ _ (fun _=>HSS.out _ (belA h8b)) ?_;clear hK K;try simp only [qN]
   refine qab (i:=30) (by kernel_rfl) rfl (fun K hK=>?_);go_simp;(go_at_call 89;refine hR.mono ?_;clear hR;rintro e WR ⟨u,rfl,ho⟩;have hRb:=belT (belA h8b) ho.2;have HPR:=HP.out.1.below hRb;have HVR:Hid (WR.heap[P0]?=some (.cells #[I x.prio,I x.ring,.bool x.full,I x.limit,.int .u32 (x.mask:Int),I x.inner,.slice s9.a s9.n s9.c,.int .u32 (x.auto:Int)] 71)):=(hRb.block _ (qa6 HV.out)).trans HV.out;have ho:=ho.1;refine hK.out _ _ (fun _=>HSS.out _ hRb) ?_)
   clear hK K h8b hRb;try simp only [qN]
   refine qab (i:=31) (by kernel_rfl) rfl (fun K hK=>?_);refine qdb rfl _ _ rfl w.heap.size _ (.slice a l.length c) u l (eTk x) (by simp [Act.eval]) (by simp [Act.eval]) HPR.o ho (by have:=HBD.out;omega) HPR.g.size ?_;intro v' W9 hO hg;obtain ⟨hgr,hty,a',c',rfl,hc1,hf1,HPN⟩:=HPR.next hO hg;have HS9:Hid (W9.cell? ⟨P0,0,none⟩=some (I x.prio)∧W9.cell? ⟨P0,1,none⟩=some (I x.ring)∧W9.cell? ⟨P0,2,none⟩=some (.bool x.full)∧W9.cell? ⟨P0,3,none⟩=some (I x.limit)∧W9.cell? ⟨P0,4,none⟩=some (.int .u32 (x.mask:Int))∧W9.cell? ⟨P0,5,none⟩=some (I x.inner)∧W9.cell? ⟨P0,6,none⟩=some (.slice s9.a s9.n s9.c)∧W9.cell? ⟨P0,7,none⟩=some (.int .u32 (x.auto:Int))∧W9.cell? ⟨B,0,none⟩=some (.slice a l.length c)):=by
    have h9:=hty _ _ _ HVR.out (by decide);refine ⟨?_,?_,?_,?_,?_,?_,?_,?_,hc1⟩ <;> (rw [qcr h9];rfl)
   refine hK.out _ _ (fun _=>HS9.out) ?_;clear hK K hO hg HPR ho hgr hty;generalize l++eTk x=l2 at *;try simp only [qN]
   refine qab (i:=32) (by kernel_rfl) rfl (fun K hK=>?_);go_simp;refine hK.out _ _ (fun _=>HS9.out) ?_;clear hK K;try simp only [qN]
   refine qab (i:=33) (by kernel_rfl) rfl (fun K hK=>?_);go_simp;refine hK.out _ _ (fun h=>absurd rfl h) ?_;clear hK K hc1 hf1;try simp only [qN]
   refine qc4 (by kernel_rfl) ?_ _;have HPF:Hid (PI w (W9.setCell ⟨B,0,none⟩ (.slice a' l2.length c')) B 0 cs a' c' l2):=HPN;clear HPN;generalize W9.setCell ⟨B,0,none⟩ (.slice a' l2.length c')=WF at *;go_wp2;go_roundw
   case rel=>exact ⟨k+1,a',c',by omega,by go_num,by rw [HN.out];exact HPF.out⟩
   case measure=>simp [intOf];omega
  ·obtain rfl:k=v.t.n:=by omega
   have hge:¬((v.t.n:Int) < v.t.n):=by omega
   have HE:Hid (PI w wr B 0 cs a c (tb.tasks.flatMap eTk)):=by
    have h9:=HJ.out;rw [List.take_of_length_le (by have:=(HT.out wr HZ.out).t.n;omega)] at h9;exact h9
   clear HJ;go_wp2;(try simp only [Exit.inBlock,Exit.then])
   exact HK.out _ _ a c rfl rfl rfl HZ.out HE.out
end Go.Proofs.YtijgopkhdjaolabGreat
