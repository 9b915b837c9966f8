import Derived.Test.YtijgopkhdjaolabGreatXHs8a
import Derived.Deep.RegionHeldLaw
import Derived.Deep.DrawnRows
set_option linter.unusedSimpArgs false
set_option linter.unusedVariables false
set_option maxRecDepth 100000
namespace Go.Proofs.YtijgopkhdjaolabGreat
open Go.RowKit Go.Shelf Go.Sort
set_option maxHeartbeats 40000000
theorem qtd {w1:World} {X0 X1:Nat} {tb:Tb} {va vb:Ts} (HS:Hid (∀W,qB w1 W→W.cell? ⟨X0,2,none⟩=some (.slice va.t.a va.t.n va.t.c)∧W.cell? ⟨X1,2,none⟩=some (.slice vb.t.a vb.t.n vb.t.c))) (HT:Hid (∀W,qB w1 W→TbAt W tb va∧TbAt W tb vb)):Seg 2 X0 X1 w1:=by
 intro N R T vs w hT h2 h3 hb hK;have HK:Hid _:=hK;clear hK;rw [qdz T hT];simp only [rng,List.map_cons,List.map_nil,show tk T 2=_ from h2,show tk T 3=_ from h3];clear h2 h3 hT;generalize tk T=tt;conv=>arg 2;whnf
 go_wp2;have HI:Hid (qB w1 w):=hb;clear hb;go_loopw [5,6,7] (fun v5 _ _ wr=>∃k:Nat,k≤va.t.n∧v5=I k∧Hid (qB w1 wr)) (fun v5 _ _ _=>va.t.n - (intOf v5).toNat)
 case atStart=>exact ⟨0,by omega,rfl,HI.out⟩
 case round=>
  clear HI;obtain ⟨k,hk,rfl,HJ⟩:=hrel;obtain ⟨cA,cB⟩:=HS.out wr HJ.out;by_cases hlt:k < va.t.n
  ·skip
   have hltI:(k:Int) < va.t.n:=by omega
   have hltJ:(k:Int) < vb.t.n:=by have h1:=(HT.out wr HJ.out).1.t.n;have h2:=(HT.out wr HJ.out).2.t.n;omega
   have hk1:k < tb.tasks.length:=by have:=(HT.out wr HJ.out).1.t.n;omega
   have hmx:va.t.n≤maxLen:=Nat.le_trans (HT.out wr HJ.out).1.t.c (HT.out wr HJ.out).1.t.m;unfold maxLen at hmx;obtain ⟨x,hx⟩:∃x,tb.tasks[k]?=some x:=⟨_,List.getElem?_eq_getElem hk1⟩
   obtain ⟨g1,o1,s1,e1,hg1,q0,q1,q2,q3,q4,q5,q6,q7,R1⟩:=qdi (HT.out wr HJ.out).1 hx;obtain ⟨g2,o2,s2,e2,hg2,r0,r1,r2,r3,r4,r5,r6,r7,R2⟩:=qdi (HT.out wr HJ.out).2 hx;rw [e1] at cA;rw [e2] at cB;have HSS:Hid (∀W,qB wr W→(fun W=>W.cell? ⟨X0,2,none⟩=some (.slice (some ⟨g1,o1,none⟩) va.t.n va.t.c)∧W.cell? ⟨X1,2,none⟩=some (.slice (some ⟨g2,o2,none⟩) vb.t.n vb.t.c)∧W.cell? ⟨g1,o1+k * 8,none⟩=some (I x.prio)∧W.cell? ⟨g1,o1+k * 8+1,none⟩=some (I x.ring)∧W.cell? ⟨g1,o1+k * 8+2,none⟩=some (.bool x.full)∧W.cell? ⟨g1,o1+k * 8+3,none⟩=some (I x.limit)∧W.cell? ⟨g1,o1+k * 8+4,none⟩=some (.int .u32 (x.mask:Int))∧W.cell? ⟨g1,o1+k * 8+5,none⟩=some (I x.inner)∧W.cell? ⟨g1,o1+k * 8+6,none⟩=some (.slice s1.a s1.n s1.c)∧W.cell? ⟨g1,o1+k * 8+7,none⟩=some (.int .u32 (x.auto:Int))∧W.cell? ⟨g2,o2+k * 8,none⟩=some (I x.prio)∧W.cell? ⟨g2,o2+k * 8+1,none⟩=some (I x.ring)∧W.cell? ⟨g2,o2+k * 8+2,none⟩=some (.bool x.full)∧W.cell? ⟨g2,o2+k * 8+3,none⟩=some (I x.limit)∧W.cell? ⟨g2,o2+k * 8+4,none⟩=some (.int .u32 (x.mask:Int))∧W.cell? ⟨g2,o2+k * 8+5,none⟩=some (I x.inner)∧W.cell? ⟨g2,o2+k * 8+6,none⟩=some (.slice s2.a s2.n s2.c)∧W.cell? ⟨g2,o2+k * 8+7,none⟩=some (.int .u32 (x.auto:Int))) W):=fun W hW=>⟨by rw [qa5 hW _ _ (World.block_lt_of_cell? _ _ cA)];exact cA,by rw [qa5 hW _ _ (World.block_lt_of_cell? _ _ cB)];exact cB,by rw [qa5 hW _ _ (World.block_lt_of_cell? _ _ q0)];exact q0,by rw [qa5 hW _ _ (World.block_lt_of_cell? _ _ q1)];exact q1,by rw [qa5 hW _ _ (World.block_lt_of_cell? _ _ q2)];exact q2,by rw [qa5 hW _ _ (World.block_lt_of_cell? _ _ q3)];exact q3,by rw [qa5 hW _ _ (World.block_lt_of_cell? _ _ q4)];exact q4,by rw [qa5 hW _ _ (World.block_lt_of_cell? _ _ q5)];exact q5,by rw [qa5 hW _ _ (World.block_lt_of_cell? _ _ q6)];exact q6,by rw [qa5 hW _ _ (World.block_lt_of_cell? _ _ q7)];exact q7,by rw [qa5 hW _ _ (World.block_lt_of_cell? _ _ r0)];exact r0,by rw [qa5 hW _ _ (World.block_lt_of_cell? _ _ r1)];exact r1,by rw [qa5 hW _ _ (World.block_lt_of_cell? _ _ r2)];exact r2,by rw [qa5 hW _ _ (World.block_lt_of_cell? _ _ r3)];exact r3,by rw [qa5 hW _ _ (World.block_lt_of_cell? _ _ r4)];exact r4,by rw [qa5 hW _ _ (World.block_lt_of_cell? _ _ r5)];exact r5,by rw [qa5 hW _ _ (World.block_lt_of_cell? _ _ r6)];exact r6,by rw [qa5 hW _ _ (World.block_lt_of_cell? _ _ r7)];exact r7⟩
   have HRR:Hid (RowsAt wr 1 intP s1 x.own∧RowsAt wr 1 intP s2 x.own∧qB w1 wr):=⟨R1,R2,HJ.out⟩;clear R1 R2 hk1 hx e1 e2 hg1 hg2;go_upto_region 6 with fail;clear cA cB q0 q1 q2 q3 q4 q5 q6 q7 r0 r1 r2 r3 r4 r5 r6 r7 HJ;have HC:=HSS.out wr.drew (Below.refl wr.heap.size wr).drew;refine wp_region_held_drew (S:=(fun W=>W.cell? ⟨X0,2,none⟩=some (.slice (some ⟨g1,o1,none⟩) va.t.n va.t.c)∧W.cell? ⟨X1,2,none⟩=some (.slice (some ⟨g2,o2,none⟩) vb.t.n vb.t.c)∧W.cell? ⟨g1,o1+k * 8,none⟩=some (I x.prio)∧W.cell? ⟨g1,o1+k * 8+1,none⟩=some (I x.ring)∧W.cell? ⟨g1,o1+k * 8+2,none⟩=some (.bool x.full)∧W.cell? ⟨g1,o1+k * 8+3,none⟩=some (I x.limit)∧W.cell? ⟨g1,o1+k * 8+4,none⟩=some (.int .u32 (x.mask:Int))∧W.cell? ⟨g1,o1+k * 8+5,none⟩=some (I x.inner)∧W.cell? ⟨g1,o1+k * 8+6,none⟩=some (.slice s1.a s1.n s1.c)∧W.cell? ⟨g1,o1+k * 8+7,none⟩=some (.int .u32 (x.auto:Int))∧W.cell? ⟨g2,o2+k * 8,none⟩=some (I x.prio)∧W.cell? ⟨g2,o2+k * 8+1,none⟩=some (I x.ring)∧W.cell? ⟨g2,o2+k * 8+2,none⟩=some (.bool x.full)∧W.cell? ⟨g2,o2+k * 8+3,none⟩=some (I x.limit)∧W.cell? ⟨g2,o2+k * 8+4,none⟩=some (.int .u32 (x.mask:Int))∧W.cell? ⟨g2,o2+k * 8+5,none⟩=some (I x.inner)∧W.cell? ⟨g2,o2+k * 8+6,none⟩=some (.slice s2.a s2.n s2.c)∧W.cell? ⟨g2,o2+k * 8+7,none⟩=some (.int .u32 (x.auto:Int)))) (by kernel_rfl) HC (fun hHeld=>?_);clear HC;change wpAnyH _ _ _ _ _ _ #[false,false,false,false,false,false,false,false,false,false,false,false,false,false] _ _;try simp only [qN]
   refine qTH 0 (.pointer (some ⟨X0,2,none⟩)) rfl hHeld ?_;try simp only [qN]
   refine qTH 1 (.slice (some ⟨g1,o1,none⟩) va.t.n va.t.c) rfl hHeld ?_;try simp only [qN]
   refine qTH 2 (I k) rfl hHeld ?_;try simp only [qN]
   refine qTH 3 (.pointer (some ⟨g1,o1+k * 8,none⟩)) rfl hHeld ?_;try simp only [qN]
   refine qTH 4 (.agg #[I x.prio,I x.ring,.bool x.full,I x.limit,.int .u32 (x.mask:Int),I x.inner,.slice s1.a s1.n s1.c,.int .u32 (x.auto:Int)]) rfl hHeld ?_;try simp only [qN]
   refine qTH 5 (.pointer (some ⟨X1,2,none⟩)) rfl hHeld ?_;try simp only [qN]
   refine qTH 6 (.slice (some ⟨g2,o2,none⟩) vb.t.n vb.t.c) rfl hHeld ?_;try simp only [qN]
   refine qTH 7 (I k) rfl hHeld ?_;try simp only [qN]
   refine qTH 8 (.pointer (some ⟨g2,o2+k * 8,none⟩)) rfl hHeld ?_;try simp only [qN]
   refine qTH 9 (.agg #[I x.prio,I x.ring,.bool x.full,I x.limit,.int .u32 (x.mask:Int),I x.inner,.slice s2.a s2.n s2.c,.int .u32 (x.auto:Int)]) rfl hHeld ?_;try simp only [qN]
   clear hHeld;refine qf1 (fun A HA G HG=>?_);have K11:Hid (∀(W:World) (P Q:Nat),qB wr W→W.heap[P]?=some (.cells #[I 0,I 0,.bool false,I 0,.int .u32 0,I 0,qZ,.int .u32 0] 71)→W.heap[Q]?=some (.cells #[I 0,I 0,.bool false,I 0,.int .u32 0,I 0,qZ,.int .u32 0] 71)→P≠Q→wr.heap.size≤P→wr.heap.size≤Q→G 2 #[true,true,true,true,true,true,true,true,true,true,true,true,false,false] ((A.setIfInBounds 6 (.pointer (some ⟨P,0,none⟩))).setIfInBounds 7 (.pointer (some ⟨Q,0,none⟩))) W):=fun W P Q hb hP hQ hne hP1 hQ1=>by
    have hA:=HA.out;subst hA;rw [HG.out];try simp only [qN]
    refine qR1 (i:=12) rfl (fun K hK=>?_);obtain ⟨⟨-,cp0,fp0⟩,⟨-,cp1,fp1⟩,⟨-,cp2,fp2⟩,⟨-,cp3,fp3⟩,⟨-,cp4,fp4⟩,⟨-,cp5,fp5⟩,⟨-,cp6,fp6⟩,⟨-,cp7,fp7⟩,kP⟩:=qpy (I x.prio) (I x.ring) (.bool x.full) (I x.limit) (.int .u32 (x.mask:Int)) (I x.inner) (.slice s1.a s1.n s1.c) (.int .u32 (x.auto:Int)) hP;go_simp;have hb5:qB wr (((((((((W).setCell ⟨P,0,none⟩ (I x.prio)).setCell ⟨P,1,none⟩ (I x.ring)).setCell ⟨P,2,none⟩ (.bool x.full)).setCell ⟨P,3,none⟩ (I x.limit)).setCell ⟨P,4,none⟩ (.int .u32 (x.mask:Int))).setCell ⟨P,5,none⟩ (I x.inner)).setCell ⟨P,6,none⟩ (.slice s1.a s1.n s1.c)).setCell ⟨P,7,none⟩ (.int .u32 (x.auto:Int))):=qak (qak (qak (qak (qak (qak (qak (qak (hb) hP1) hP1) hP1) hP1) hP1) hP1) hP1) hP1;have hQ5:(((((((((W).setCell ⟨P,0,none⟩ (I x.prio)).setCell ⟨P,1,none⟩ (I x.ring)).setCell ⟨P,2,none⟩ (.bool x.full)).setCell ⟨P,3,none⟩ (I x.limit)).setCell ⟨P,4,none⟩ (.int .u32 (x.mask:Int))).setCell ⟨P,5,none⟩ (I x.inner)).setCell ⟨P,6,none⟩ (.slice s1.a s1.n s1.c)).setCell ⟨P,7,none⟩ (.int .u32 (x.auto:Int))).heap[Q]?=some (.cells #[I 0,I 0,.bool false,I 0,.int .u32 0,I 0,qZ,.int .u32 0] 71):=by
     repeat rw [heap_setCell_other _ _ Q _ (by show Q≠P;omega)]
     exact hQ
    refine hK.out _ _ (HSS.out _ hb5) (fun hSS=>?_);clear hSS hK K hb hP hQ cp0 cp1 cp2 cp3 cp4 cp5 cp6 cp7 fp0 fp1 fp2 fp3 fp4 fp5 fp6 fp7;try simp only [qN]
    generalize ((((((((W).setCell ⟨P,0,none⟩ (I x.prio)).setCell ⟨P,1,none⟩ (I x.ring)).setCell ⟨P,2,none⟩ (.bool x.full)).setCell ⟨P,3,none⟩ (I x.limit)).setCell ⟨P,4,none⟩ (.int .u32 (x.mask:Int))).setCell ⟨P,5,none⟩ (I x.inner)).setCell ⟨P,6,none⟩ (.slice s1.a s1.n s1.c)).setCell ⟨P,7,none⟩ (.int .u32 (x.auto:Int))=W5 at *;refine qR1 (i:=13) rfl (fun K hK=>?_);obtain ⟨⟨-,cp0,fp0⟩,⟨-,cp1,fp1⟩,⟨-,cp2,fp2⟩,⟨-,cp3,fp3⟩,⟨-,cp4,fp4⟩,⟨-,cp5,fp5⟩,⟨-,cp6,fp6⟩,⟨-,cp7,fp7⟩,kQ⟩:=qpy (I x.prio) (I x.ring) (.bool x.full) (I x.limit) (.int .u32 (x.mask:Int)) (I x.inner) (.slice s2.a s2.n s2.c) (.int .u32 (x.auto:Int)) hQ5;go_simp;have hb6:qB wr (((((((((W5).setCell ⟨Q,0,none⟩ (I x.prio)).setCell ⟨Q,1,none⟩ (I x.ring)).setCell ⟨Q,2,none⟩ (.bool x.full)).setCell ⟨Q,3,none⟩ (I x.limit)).setCell ⟨Q,4,none⟩ (.int .u32 (x.mask:Int))).setCell ⟨Q,5,none⟩ (I x.inner)).setCell ⟨Q,6,none⟩ (.slice s2.a s2.n s2.c)).setCell ⟨Q,7,none⟩ (.int .u32 (x.auto:Int))):=qak (qak (qak (qak (qak (qak (qak (qak (hb5) hQ1) hQ1) hQ1) hQ1) hQ1) hQ1) hQ1) hQ1;have hP6:(((((((((W5).setCell ⟨Q,0,none⟩ (I x.prio)).setCell ⟨Q,1,none⟩ (I x.ring)).setCell ⟨Q,2,none⟩ (.bool x.full)).setCell ⟨Q,3,none⟩ (I x.limit)).setCell ⟨Q,4,none⟩ (.int .u32 (x.mask:Int))).setCell ⟨Q,5,none⟩ (I x.inner)).setCell ⟨Q,6,none⟩ (.slice s2.a s2.n s2.c)).setCell ⟨Q,7,none⟩ (.int .u32 (x.auto:Int))).heap[P]?=some (.cells #[I x.prio,I x.ring,.bool x.full,I x.limit,.int .u32 (x.mask:Int),I x.inner,.slice s1.a s1.n s1.c,.int .u32 (x.auto:Int)] 71):=by
     repeat rw [heap_setCell_other _ _ P _ (by show P≠Q;omega)]
     exact kP
    refine hK.out _ _ (HSS.out _ hb6) (fun hSS=>?_);clear hSS hK K hb5 kP hQ5 cp0 cp1 cp2 cp3 cp4 cp5 cp6 cp7 fp0 fp1 fp2 fp3 fp4 fp5 fp6 fp7;try simp only [qN]
    generalize ((((((((W5).setCell ⟨Q,0,none⟩ (I x.prio)).setCell ⟨Q,1,none⟩ (I x.ring)).setCell ⟨Q,2,none⟩ (.bool x.full)).setCell ⟨Q,3,none⟩ (I x.limit)).setCell ⟨Q,4,none⟩ (.int .u32 (x.mask:Int))).setCell ⟨Q,5,none⟩ (I x.inner)).setCell ⟨Q,6,none⟩ (.slice s2.a s2.n s2.c)).setCell ⟨Q,7,none⟩ (.int .u32 (x.auto:Int))=W6 at *;refine wpAnyH_done (by kernel_rfl) ?_ _;have HJ2:Hid (qB w1 W6):=belT HRR.out.2.2 hb6;have hI:=qg4 W6 s1 s2 x.own x.own (HRR.out.1.below hb6 (fun _ _ _ _ h=>h)) (HRR.out.2.1.below hb6 (fun _ _ _ _ h=>h));have a09:∀W,qB W6 W→W.cell? ⟨P,0,none⟩=some (I x.prio):=fun W hW=>by rw [qa5 hW _ _ (qa6 hP6),qcr hP6];rfl
    have b09:∀W,qB W6 W→W.cell? ⟨Q,0,none⟩=some (I x.prio):=fun W hW=>by rw [qa5 hW _ _ (qa6 kQ),qcr kQ];rfl
    have a19:∀W,qB W6 W→W.cell? ⟨P,1,none⟩=some (I x.ring):=fun W hW=>by rw [qa5 hW _ _ (qa6 hP6),qcr hP6];rfl
    have b19:∀W,qB W6 W→W.cell? ⟨Q,1,none⟩=some (I x.ring):=fun W hW=>by rw [qa5 hW _ _ (qa6 kQ),qcr kQ];rfl
    have a29:∀W,qB W6 W→W.cell? ⟨P,2,none⟩=some (.bool x.full):=fun W hW=>by rw [qa5 hW _ _ (qa6 hP6),qcr hP6];rfl
    have b29:∀W,qB W6 W→W.cell? ⟨Q,2,none⟩=some (.bool x.full):=fun W hW=>by rw [qa5 hW _ _ (qa6 kQ),qcr kQ];rfl
    have a39:∀W,qB W6 W→W.cell? ⟨P,3,none⟩=some (I x.limit):=fun W hW=>by rw [qa5 hW _ _ (qa6 hP6),qcr hP6];rfl
    have b39:∀W,qB W6 W→W.cell? ⟨Q,3,none⟩=some (I x.limit):=fun W hW=>by rw [qa5 hW _ _ (qa6 kQ),qcr kQ];rfl
    have a49:∀W,qB W6 W→W.cell? ⟨P,4,none⟩=some (.int .u32 (x.mask:Int)):=fun W hW=>by rw [qa5 hW _ _ (qa6 hP6),qcr hP6];rfl
    have b49:∀W,qB W6 W→W.cell? ⟨Q,4,none⟩=some (.int .u32 (x.mask:Int)):=fun W hW=>by rw [qa5 hW _ _ (qa6 kQ),qcr kQ];rfl
    have a59:∀W,qB W6 W→W.cell? ⟨P,5,none⟩=some (I x.inner):=fun W hW=>by rw [qa5 hW _ _ (qa6 hP6),qcr hP6];rfl
    have b59:∀W,qB W6 W→W.cell? ⟨Q,5,none⟩=some (I x.inner):=fun W hW=>by rw [qa5 hW _ _ (qa6 kQ),qcr kQ];rfl
    have a69:∀W,qB W6 W→W.cell? ⟨P,6,none⟩=some (.slice s1.a s1.n s1.c):=fun W hW=>by rw [qa5 hW _ _ (qa6 hP6),qcr hP6];rfl
    have b69:∀W,qB W6 W→W.cell? ⟨Q,6,none⟩=some (.slice s2.a s2.n s2.c):=fun W hW=>by rw [qa5 hW _ _ (qa6 kQ),qcr kQ];rfl
    have a79:∀W,qB W6 W→W.cell? ⟨P,7,none⟩=some (.int .u32 (x.auto:Int)):=fun W hW=>by rw [qa5 hW _ _ (qa6 hP6),qcr hP6];rfl
    have b79:∀W,qB W6 W→W.cell? ⟨Q,7,none⟩=some (.int .u32 (x.auto:Int)):=fun W hW=>by rw [qa5 hW _ _ (qa6 kQ),qcr kQ];rfl
    have HAB:Hid (∀W,qB W6 W→W.cell? ⟨P,0,none⟩=some (I x.prio)∧W.cell? ⟨P,1,none⟩=some (I x.ring)∧W.cell? ⟨P,2,none⟩=some (.bool x.full)∧W.cell? ⟨P,3,none⟩=some (I x.limit)∧W.cell? ⟨P,4,none⟩=some (.int .u32 (x.mask:Int))∧W.cell? ⟨P,5,none⟩=some (I x.inner)∧W.cell? ⟨P,6,none⟩=some (.slice s1.a s1.n s1.c)∧W.cell? ⟨P,7,none⟩=some (.int .u32 (x.auto:Int))∧W.cell? ⟨Q,0,none⟩=some (I x.prio)∧W.cell? ⟨Q,1,none⟩=some (I x.ring)∧W.cell? ⟨Q,2,none⟩=some (.bool x.full)∧W.cell? ⟨Q,3,none⟩=some (I x.limit)∧W.cell? ⟨Q,4,none⟩=some (.int .u32 (x.mask:Int))∧W.cell? ⟨Q,5,none⟩=some (I x.inner)∧W.cell? ⟨Q,6,none⟩=some (.slice s2.a s2.n s2.c)∧W.cell? ⟨Q,7,none⟩=some (.int .u32 (x.auto:Int))):=fun W hW=>⟨a09 W hW,a19 W hW,a29 W hW,a39 W hW,a49 W hW,a59 W hW,a69 W hW,a79 W hW,b09 W hW,b19 W hW,b29 W hW,b39 W hW,b49 W hW,b59 W hW,b69 W hW,b79 W hW⟩
    clear a09 b09 a19 b19 a29 b29 a39 b39 a49 b49 a59 b59 a69 b69 a79 b79 hP6 kQ hb6 HSS HRR HG hne hP1 hQ1;obtain ⟨e0,e1,e2,e3,e4,e5,e6,e7,d0,d1,d2,d3,d4,d5,d6,d7⟩:=HAB.out W6 (Below.refl _ _);rw [show decide (x.own=x.own)=true by simp] at hI;go_wp2_with (first | (go_at_call 24;refine hI.mono ?_;clear hI e0 e1 e2 e3 e4 e5 e6 e7 d0 d1 d2 d3 d4 d5 d6 d7;rintro e W7 ⟨rfl,bB⟩;obtain ⟨e0,e1,e2,e3,e4,e5,e6,e7,d0,d1,d2,d3,d4,d5,d6,d7⟩:=HAB.out W7 bB;have HJ3:Hid (qB w1 W7):=belT HJ2.out bB;clear bB));go_roundw
    case rel=>exact ⟨k+1,by omega,by go_num,HJ3.out⟩
    case measure=>simp [intOf];omega
   have K10:Hid (∀(W:World) (P:Nat),qB wr W→W.heap[P]?=some (.cells #[I 0,I 0,.bool false,I 0,.int .u32 0,I 0,qZ,.int .u32 0] 71)→wr.heap.size≤P→G 3 #[true,true,true,true,true,true,true,true,true,true,true,false,false,false] (A.setIfInBounds 6 (.pointer (some ⟨P,0,none⟩))) W):=fun W P hb hP hP1=>by
    have hA:=HA.out;subst hA;rw [HG.out];try simp only [qN]
    refine qW [11] ?_;refine qK (fun K hK=>?_) ?_
    ·go_simp
     refine hK.out _ _ (HSS.out _ (belA hb)) (fun _=>?_);try simp only [qN]
     have hq:=K11.out (W.alloc (.cells #[I 0,I 0,.bool false,I 0,.int .u32 0,I 0,qZ,.int .u32 0] 71)) P W.heap.size (belA hb) ((qa0 W _).block _ (qa6 hP) |>.trans hP) (heap_alloc_new _ _) (by have:=qa6 hP;omega) hP1 hb.size;simp only [qN] at hq;exact (HG.out _ _ _ _).mp hq
    exact qn
   have K01:Hid (∀(W:World) (Q:Nat),qB wr W→W.heap[Q]?=some (.cells #[I 0,I 0,.bool false,I 0,.int .u32 0,I 0,qZ,.int .u32 0] 71)→wr.heap.size≤Q→G 3 #[true,true,true,true,true,true,true,true,true,true,false,true,false,false] (A.setIfInBounds 7 (.pointer (some ⟨Q,0,none⟩))) W):=fun W Q hb hQ hQ1=>by
    have hA:=HA.out;subst hA;rw [HG.out];try simp only [qN]
    refine qW [10] ?_;refine qK (fun K hK=>?_) ?_
    ·go_simp
     refine hK.out _ _ (HSS.out _ (belA hb)) (fun _=>?_);try simp only [qN]
     have hq:=K11.out (W.alloc (.cells #[I 0,I 0,.bool false,I 0,.int .u32 0,I 0,qZ,.int .u32 0] 71)) W.heap.size Q (belA hb) (heap_alloc_new _ _) ((qa0 W _).block _ (qa6 hQ) |>.trans hQ) (by have:=qa6 hQ;omega) hb.size hQ1;simp only [qN] at hq;exact (HG.out _ _ _ _).mp hq
    exact qn
   have K00:Hid (∀(W:World),qB wr W→G 4 #[true,true,true,true,true,true,true,true,true,true,false,false,false,false] A W):=fun W hb=>by
    have hA:=HA.out;subst hA;rw [HG.out];try simp only [qN]
    refine qW [10,11] ?_;refine qK (fun K hK=>?_) ?_
    ·go_simp
     refine hK.out _ _ (HSS.out _ (belA hb)) (fun _=>?_);try simp only [qN]
     have hq:=K10.out (W.alloc (.cells #[I 0,I 0,.bool false,I 0,.int .u32 0,I 0,qZ,.int .u32 0] 71)) W.heap.size (belA hb) (heap_alloc_new _ _) hb.size;simp only [qN] at hq;exact (HG.out _ _ _ _).mp hq
    refine qK (fun K hK=>?_) ?_
    ·go_simp
     refine hK.out _ _ (HSS.out _ (belA hb)) (fun _=>?_);try simp only [qN]
     have hq:=K01.out (W.alloc (.cells #[I 0,I 0,.bool false,I 0,.int .u32 0,I 0,qZ,.int .u32 0] 71)) W.heap.size (belA hb) (heap_alloc_new _ _) hb.size;simp only [qN] at hq;exact (HG.out _ _ _ _).mp hq
    exact qn
   exact K00.out _ (Below.refl _ _).drew
  ·obtain rfl:k=va.t.n:=by omega
   have hge:¬((va.t.n:Int) < va.t.n):=by omega
   clear cB;go_wp2;(try simp only [Exit.inBlock,Exit.then])
   exact HK.out _ _ rfl rfl rfl HJ.out
theorem qte {w1:World} {X0 X1:Nat} {tb:Tb} {va vb:Ts} (HS:Hid (∀W,qB w1 W→W.cell? ⟨X0,7,none⟩=some (.slice va.i.a va.i.n va.i.c)∧W.cell? ⟨X1,7,none⟩=some (.slice vb.i.a vb.i.n vb.i.c))) (HT:Hid (∀W,qB w1 W→TbAt W tb va∧TbAt W tb vb)):Seg 7 X0 X1 w1:=by
 intro N R T vs w hT h2 h3 hb hK;have HK:Hid _:=hK;clear hK;rw [qdz T hT];simp only [rng,List.map_cons,List.map_nil,show tk T 2=_ from h2,show tk T 3=_ from h3];clear h2 h3 hT;generalize tk T=tt;conv=>arg 2;whnf
 go_wp2;have HI:Hid (qB w1 w):=hb;clear hb;go_loopw [12,13,14] (fun v12 _ _ wr=>∃k:Nat,k≤va.i.n∧v12=I k∧Hid (qB w1 wr)) (fun v12 _ _ _=>va.i.n - (intOf v12).toNat)
 case atStart=>exact ⟨0,by omega,rfl,HI.out⟩
 case round=>
  clear HI;obtain ⟨k,hk,rfl,HJ⟩:=hrel;obtain ⟨cA,cB⟩:=HS.out wr HJ.out;by_cases hlt:k < va.i.n
  ·skip
   have hltI:(k:Int) < va.i.n:=by omega
   have hltJ:(k:Int) < vb.i.n:=by have h1:=(HT.out wr HJ.out).1.i.n;have h2:=(HT.out wr HJ.out).2.i.n;omega
   have hk1:k < tb.isrs.length:=by have:=(HT.out wr HJ.out).1.i.n;omega
   have hmx:va.i.n≤maxLen:=Nat.le_trans (HT.out wr HJ.out).1.i.c (HT.out wr HJ.out).1.i.m;unfold maxLen at hmx;obtain ⟨x,hx⟩:∃x,tb.isrs[k]?=some x:=⟨_,List.getElem?_eq_getElem hk1⟩
   obtain ⟨g1,o1,s1,e1,hg1,q0,q1,q2,R1⟩:=qdj (HT.out wr HJ.out).1 hx;obtain ⟨g2,o2,s2,e2,hg2,r0,r1,r2,R2⟩:=qdj (HT.out wr HJ.out).2 hx;rw [e1] at cA;rw [e2] at cB;have HSS:Hid (∀W,qB wr W→(fun W=>W.cell? ⟨X0,7,none⟩=some (.slice (some ⟨g1,o1,none⟩) va.i.n va.i.c)∧W.cell? ⟨X1,7,none⟩=some (.slice (some ⟨g2,o2,none⟩) vb.i.n vb.i.c)∧W.cell? ⟨g1,o1+k * 3,none⟩=some (I x.cat)∧W.cell? ⟨g1,o1+k * 3+1,none⟩=some (I x.prio)∧W.cell? ⟨g1,o1+k * 3+2,none⟩=some (.slice s1.a s1.n s1.c)∧W.cell? ⟨g2,o2+k * 3,none⟩=some (I x.cat)∧W.cell? ⟨g2,o2+k * 3+1,none⟩=some (I x.prio)∧W.cell? ⟨g2,o2+k * 3+2,none⟩=some (.slice s2.a s2.n s2.c)) W):=fun W hW=>⟨by rw [qa5 hW _ _ (World.block_lt_of_cell? _ _ cA)];exact cA,by rw [qa5 hW _ _ (World.block_lt_of_cell? _ _ cB)];exact cB,by rw [qa5 hW _ _ (World.block_lt_of_cell? _ _ q0)];exact q0,by rw [qa5 hW _ _ (World.block_lt_of_cell? _ _ q1)];exact q1,by rw [qa5 hW _ _ (World.block_lt_of_cell? _ _ q2)];exact q2,by rw [qa5 hW _ _ (World.block_lt_of_cell? _ _ r0)];exact r0,by rw [qa5 hW _ _ (World.block_lt_of_cell? _ _ r1)];exact r1,by rw [qa5 hW _ _ (World.block_lt_of_cell? _ _ r2)];exact r2⟩
   have HRR:Hid (RowsAt wr 1 intP s1 x.own∧RowsAt wr 1 intP s2 x.own∧qB w1 wr):=⟨R1,R2,HJ.out⟩;clear R1 R2 hk1 hx e1 e2 hg1 hg2;go_upto_region 32 with fail;clear cA cB q0 q1 q2 r0 r1 r2 HJ;have HC:=HSS.out wr.drew (Below.refl wr.heap.size wr).drew;refine wp_region_held_drew (S:=(fun W=>W.cell? ⟨X0,7,none⟩=some (.slice (some ⟨g1,o1,none⟩) va.i.n va.i.c)∧W.cell? ⟨X1,7,none⟩=some (.slice (some ⟨g2,o2,none⟩) vb.i.n vb.i.c)∧W.cell? ⟨g1,o1+k * 3,none⟩=some (I x.cat)∧W.cell? ⟨g1,o1+k * 3+1,none⟩=some (I x.prio)∧W.cell? ⟨g1,o1+k * 3+2,none⟩=some (.slice s1.a s1.n s1.c)∧W.cell? ⟨g2,o2+k * 3,none⟩=some (I x.cat)∧W.cell? ⟨g2,o2+k * 3+1,none⟩=some (I x.prio)∧W.cell? ⟨g2,o2+k * 3+2,none⟩=some (.slice s2.a s2.n s2.c))) (by kernel_rfl) HC (fun hHeld=>?_);clear HC;change wpAnyH _ _ _ _ _ _ #[false,false,false,false,false,false,false,false,false,false,false,false,false,false] _ _;try simp only [qN]
   refine qTH 0 (.pointer (some ⟨X0,7,none⟩)) rfl hHeld ?_;try simp only [qN]
   refine qTH 1 (.slice (some ⟨g1,o1,none⟩) va.i.n va.i.c) rfl hHeld ?_;try simp only [qN]
   refine qTH 2 (I k) rfl hHeld ?_;try simp only [qN]
   refine qTH 3 (.pointer (some ⟨g1,o1+k * 3,none⟩)) rfl hHeld ?_;try simp only [qN]
   refine qTH 4 (.agg #[I x.cat,I x.prio,.slice s1.a s1.n s1.c]) rfl hHeld ?_;try simp only [qN]
   refine qTH 5 (.pointer (some ⟨X1,7,none⟩)) rfl hHeld ?_;try simp only [qN]
   refine qTH 6 (.slice (some ⟨g2,o2,none⟩) vb.i.n vb.i.c) rfl hHeld ?_;try simp only [qN]
   refine qTH 7 (I k) rfl hHeld ?_;try simp only [qN]
   refine qTH 8 (.pointer (some ⟨g2,o2+k * 3,none⟩)) rfl hHeld ?_;try simp only [qN]
   refine qTH 9 (.agg #[I x.cat,I x.prio,.slice s2.a s2.n s2.c]) rfl hHeld ?_;try simp only [qN]
   clear hHeld;refine qf1 (fun A HA G HG=>?_);have K11:Hid (∀(W:World) (P Q:Nat),qB wr W→W.heap[P]?=some (.cells #[I 0,I 0,qZ] 84)→W.heap[Q]?=some (.cells #[I 0,I 0,qZ] 84)→P≠Q→wr.heap.size≤P→wr.heap.size≤Q→G 2 #[true,true,true,true,true,true,true,true,true,true,true,true,false,false] ((A.setIfInBounds 13 (.pointer (some ⟨P,0,none⟩))).setIfInBounds 14 (.pointer (some ⟨Q,0,none⟩))) W):=fun W P Q hb hP hQ hne hP1 hQ1=>by
    have hA:=HA.out;subst hA;rw [HG.out];try simp only [qN]
    refine qR1 (i:=12) rfl (fun K hK=>?_);obtain ⟨⟨-,cp0,fp0⟩,⟨-,cp1,fp1⟩,⟨-,cp2,fp2⟩,kP⟩:=qpz (I x.cat) (I x.prio) (.slice s1.a s1.n s1.c) hP;go_simp;have hb5:qB wr ((((W).setCell ⟨P,0,none⟩ (I x.cat)).setCell ⟨P,1,none⟩ (I x.prio)).setCell ⟨P,2,none⟩ (.slice s1.a s1.n s1.c)):=qak (qak (qak (hb) hP1) hP1) hP1;have hQ5:((((W).setCell ⟨P,0,none⟩ (I x.cat)).setCell ⟨P,1,none⟩ (I x.prio)).setCell ⟨P,2,none⟩ (.slice s1.a s1.n s1.c)).heap[Q]?=some (.cells #[I 0,I 0,qZ] 84):=by
     repeat rw [heap_setCell_other _ _ Q _ (by show Q≠P;omega)]
     exact hQ
    refine hK.out _ _ (HSS.out _ hb5) (fun hSS=>?_);clear hSS hK K hb hP hQ cp0 cp1 cp2 fp0 fp1 fp2;try simp only [qN]
    generalize (((W).setCell ⟨P,0,none⟩ (I x.cat)).setCell ⟨P,1,none⟩ (I x.prio)).setCell ⟨P,2,none⟩ (.slice s1.a s1.n s1.c)=W5 at *;refine qR1 (i:=13) rfl (fun K hK=>?_);obtain ⟨⟨-,cp0,fp0⟩,⟨-,cp1,fp1⟩,⟨-,cp2,fp2⟩,kQ⟩:=qpz (I x.cat) (I x.prio) (.slice s2.a s2.n s2.c) hQ5;go_simp;have hb6:qB wr ((((W5).setCell ⟨Q,0,none⟩ (I x.cat)).setCell ⟨Q,1,none⟩ (I x.prio)).setCell ⟨Q,2,none⟩ (.slice s2.a s2.n s2.c)):=qak (qak (qak (hb5) hQ1) hQ1) hQ1;have hP6:((((W5).setCell ⟨Q,0,none⟩ (I x.cat)).setCell ⟨Q,1,none⟩ (I x.prio)).setCell ⟨Q,2,none⟩ (.slice s2.a s2.n s2.c)).heap[P]?=some (.cells #[I x.cat,I x.prio,.slice s1.a s1.n s1.c] 84):=by
     repeat rw [heap_setCell_other _ _ P _ (by show P≠Q;omega)]
     exact kP
    refine hK.out _ _ (HSS.out _ hb6) (fun hSS=>?_);clear hSS hK K hb5 kP hQ5 cp0 cp1 cp2 fp0 fp1 fp2;try simp only [qN]
    generalize (((W5).setCell ⟨Q,0,none⟩ (I x.cat)).setCell ⟨Q,1,none⟩ (I x.prio)).setCell ⟨Q,2,none⟩ (.slice s2.a s2.n s2.c)=W6 at *;refine wpAnyH_done (by kernel_rfl) ?_ _;have HJ2:Hid (qB w1 W6):=belT HRR.out.2.2 hb6;have hI:=qg4 W6 s1 s2 x.own x.own (HRR.out.1.below hb6 (fun _ _ _ _ h=>h)) (HRR.out.2.1.below hb6 (fun _ _ _ _ h=>h));have a09:∀W,qB W6 W→W.cell? ⟨P,0,none⟩=some (I x.cat):=fun W hW=>by rw [qa5 hW _ _ (qa6 hP6),qcr hP6];rfl
    have b09:∀W,qB W6 W→W.cell? ⟨Q,0,none⟩=some (I x.cat):=fun W hW=>by rw [qa5 hW _ _ (qa6 kQ),qcr kQ];rfl
    have a19:∀W,qB W6 W→W.cell? ⟨P,1,none⟩=some (I x.prio):=fun W hW=>by rw [qa5 hW _ _ (qa6 hP6),qcr hP6];rfl
    have b19:∀W,qB W6 W→W.cell? ⟨Q,1,none⟩=some (I x.prio):=fun W hW=>by rw [qa5 hW _ _ (qa6 kQ),qcr kQ];rfl
    have a29:∀W,qB W6 W→W.cell? ⟨P,2,none⟩=some (.slice s1.a s1.n s1.c):=fun W hW=>by rw [qa5 hW _ _ (qa6 hP6),qcr hP6];rfl
    have b29:∀W,qB W6 W→W.cell? ⟨Q,2,none⟩=some (.slice s2.a s2.n s2.c):=fun W hW=>by rw [qa5 hW _ _ (qa6 kQ),qcr kQ];rfl
    have HAB:Hid (∀W,qB W6 W→W.cell? ⟨P,0,none⟩=some (I x.cat)∧W.cell? ⟨P,1,none⟩=some (I x.prio)∧W.cell? ⟨P,2,none⟩=some (.slice s1.a s1.n s1.c)∧W.cell? ⟨Q,0,none⟩=some (I x.cat)∧W.cell? ⟨Q,1,none⟩=some (I x.prio)∧W.cell? ⟨Q,2,none⟩=some (.slice s2.a s2.n s2.c)):=fun W hW=>⟨a09 W hW,a19 W hW,a29 W hW,b09 W hW,b19 W hW,b29 W hW⟩
    clear a09 b09 a19 b19 a29 b29 hP6 kQ hb6 HSS HRR HG hne hP1 hQ1;obtain ⟨e0,e1,e2,d0,d1,d2⟩:=HAB.out W6 (Below.refl _ _);rw [show decide (x.own=x.own)=true by simp] at hI;go_wp2_with (first | (go_at_call 24;refine hI.mono ?_;clear hI e0 e1 e2 d0 d1 d2;rintro e W7 ⟨rfl,bB⟩;obtain ⟨e0,e1,e2,d0,d1,d2⟩:=HAB.out W7 bB;have HJ3:Hid (qB w1 W7):=belT HJ2.out bB;clear bB));go_roundw
    case rel=>exact ⟨k+1,by omega,by go_num,HJ3.out⟩
    case measure=>simp [intOf];omega
   have K10:Hid (∀(W:World) (P:Nat),qB wr W→W.heap[P]?=some (.cells #[I 0,I 0,qZ] 84)→wr.heap.size≤P→G 3 #[true,true,true,true,true,true,true,true,true,true,true,false,false,false] (A.setIfInBounds 13 (.pointer (some ⟨P,0,none⟩))) W):=fun W P hb hP hP1=>by
    have hA:=HA.out;subst hA;rw [HG.out];try simp only [qN]
    refine qW [11] ?_;refine qK (fun K hK=>?_) ?_
    ·go_simp
     refine hK.out _ _ (HSS.out _ (belA hb)) (fun _=>?_);try simp only [qN]
     have hq:=K11.out (W.alloc (.cells #[I 0,I 0,qZ] 84)) P W.heap.size (belA hb) ((qa0 W _).block _ (qa6 hP) |>.trans hP) (heap_alloc_new _ _) (by have:=qa6 hP;omega) hP1 hb.size;simp only [qN] at hq;exact (HG.out _ _ _ _).mp hq
    exact qn
   have K01:Hid (∀(W:World) (Q:Nat),qB wr W→W.heap[Q]?=some (.cells #[I 0,I 0,qZ] 84)→wr.heap.size≤Q→G 3 #[true,true,true,true,true,true,true,true,true,true,false,true,false,false] (A.setIfInBounds 14 (.pointer (some ⟨Q,0,none⟩))) W):=fun W Q hb hQ hQ1=>by
    have hA:=HA.out;subst hA;rw [HG.out];try simp only [qN]
    refine qW [10] ?_;refine qK (fun K hK=>?_) ?_
    ·go_simp
     refine hK.out _ _ (HSS.out _ (belA hb)) (fun _=>?_);try simp only [qN]
     have hq:=K11.out (W.alloc (.cells #[I 0,I 0,qZ] 84)) W.heap.size Q (belA hb) (heap_alloc_new _ _) ((qa0 W _).block _ (qa6 hQ) |>.trans hQ) (by have:=qa6 hQ;omega) hb.size hQ1;simp only [qN] at hq;exact (HG.out _ _ _ _).mp hq
    exact qn
   have K00:Hid (∀(W:World),qB wr W→G 4 #[true,true,true,true,true,true,true,true,true,true,false,false,false,false] A W):=fun W hb=>by
    have hA:=HA.out;subst hA;rw [HG.out];try simp only [qN]
    refine qW [10,11] ?_;refine qK (fun K hK=>?_) ?_
    ·go_simp
     refine hK.out _ _ (HSS.out _ (belA hb)) (fun _=>?_);try simp only [qN]
     have hq:=K10.out (W.alloc (.cells #[I 0,I 0,qZ] 84)) W.heap.size (belA hb) (heap_alloc_new _ _) hb.size;simp only [qN] at hq;exact (HG.out _ _ _ _).mp hq
    refine qK (fun K hK=>?_) ?_
    ·go_simp
     refine hK.out _ _ (HSS.out _ (belA hb)) (fun _=>?_);try simp only [qN]
     have hq:=K01.out (W.alloc (.cells #[I 0,I 0,qZ] 84)) W.heap.size (belA hb) (heap_alloc_new _ _) hb.size;simp only [qN] at hq;exact (HG.out _ _ _ _).mp hq
    exact qn
   exact K00.out _ (Below.refl _ _).drew
  ·obtain rfl:k=va.i.n:=by omega
   have hge:¬((va.i.n:Int) < va.i.n):=by omega
   clear cB;go_wp2;(try simp only [Exit.inBlock,Exit.then])
   exact HK.out _ _ rfl rfl rfl HJ.out
theorem sg_Z (N R:Act→World→Prop) (T:Array Value) (vs:List Deferred) (w:World) (hT:T.size=263) (hR:∀T',T'.getD 4 undef=.bool true→R ⟨T',vs⟩ w):(drp 9 (Tryz.f8.body.getD .skip)).wp Tryz.prog (SQ N R) ⟨T,vs⟩ w:=by
 have HR:Hid _:=hR;clear hR;rw [qdz T hT];simp only [rng,List.map_cons,List.map_nil];clear hT;generalize tk T=tt;conv=>arg 2;whnf
 go_wp2;(try simp only [Exit.inBlock,Exit.then])
 refine HR.out _ ?_;rfl
theorem qhh (w:World) (tb:Tb) (va vb:Ts) (hA:TbAt w tb va) (hB:TbAt w tb vb):Calls Tryz.prog 8 #[.agg (tbC tb va),.agg (tbC tb vb)] w fun e w'=>e=.returned (.bool true)∧qB w w':=by
 have hb1:=qa0 w (tO8 tb va);have hb2:=qa0 (w.alloc (tO8 tb va)) (tO8 tb vb);have hv1:=heap_alloc_new w (tO8 tb va);have hv2:=heap_alloc_new (w.alloc (tO8 tb va)) (tO8 tb vb);have hb:=belT hb1 hb2;have HS:Hid (∀W,qB ((w.alloc (tO8 tb va)).alloc (tO8 tb vb)) W→Cx tb va vb w.heap.size (w.heap.size+1) W):=fun W hW=>by
  have q0:=(hb2.block _ (qa6 hv1)).trans hv1;have q:=(hW.block _ (qa6 q0)).trans q0;have p:=(hW.block _ (qa6 hv2)).trans hv2;rw [qpv] at p;refine ⟨?_,?_,?_,?_,?_,?_,?_,?_,?_,?_,?_,?_,?_,?_,?_,?_,?_,?_,?_,?_,?_,?_,?_,?_,?_,?_⟩ <;> first | (rw [qcr q];rfl) | (rw [qcr p];rfl)
 have HT:Hid (∀W,qB ((w.alloc (tO8 tb va)).alloc (tO8 tb vb)) W→TbAt W tb va∧TbAt W tb vb):=fun W hW=>⟨hA.below (belT hb hW),hB.below (belT hb hW)⟩
 have HBB:Hid (qB w ((w.alloc (tO8 tb va)).alloc (tO8 tb vb))):=hb;unfold tbC at *;clear hb1 hb2 hv1 hv2 hb hA hB;go_enter Tryz.func8,Tryz.ntmps8
 refine wp_seq_k (fun K hK=>?_);have HK:Hid _:=hK;clear hK;go_wp2;(try simp only [Exit.inBlock,Exit.then])
 refine HK.out _ _ ?_;clear HK K;generalize (w.alloc (tO8 tb va)).alloc (tO8 tb vb)=w1 at *;generalize w.heap.size+1=X1 at *;generalize hQ:bodyPost _ _ _=Q;refine wp_seq_k (fun K hK=>?_);refine qbr (sg_A HS HT _ _ _ _ _ rfl rfl rfl (Below.refl _ _) (fun T w2 hT h2 h3 hb=>hK _ _ ?_));clear K hK;refine wp_seq_k (fun K hK=>?_);refine qbr (qtd (fun W hW=>⟨(HS.out W hW).2.2.1,(HS.out W hW).2.2.2.2.2.2.2.2.2.2.2.2.2.2.2.1⟩) HT _ _ _ _ _ hT h2 h3 hb (fun T w2 hT h2 h3 hb=>hK _ _ ?_));clear K hK;refine wp_seq_k (fun K hK=>?_);refine qbr (qt7 (fun W hW=>⟨(HS.out W hW).2.2.2.1,(HS.out W hW).2.2.2.2.2.2.2.2.2.2.2.2.2.2.2.2.1⟩) HT _ _ _ _ _ hT h2 h3 hb (fun T w2 hT h2 h3 hb=>hK _ _ ?_));clear K hK;refine wp_seq_k (fun K hK=>?_);refine qbr (qt8 (fun W hW=>⟨(HS.out W hW).2.2.2.2.1,(HS.out W hW).2.2.2.2.2.2.2.2.2.2.2.2.2.2.2.2.2.1⟩) HT _ _ _ _ _ hT h2 h3 hb (fun T w2 hT h2 h3 hb=>hK _ _ ?_));clear K hK;refine wp_seq_k (fun K hK=>?_);refine qbr (qt9 (fun W hW=>⟨(HS.out W hW).2.2.2.2.2.1,(HS.out W hW).2.2.2.2.2.2.2.2.2.2.2.2.2.2.2.2.2.2.1⟩) HT _ _ _ _ _ hT h2 h3 hb (fun T w2 hT h2 h3 hb=>hK _ _ ?_));clear K hK;refine wp_seq_k (fun K hK=>?_);refine qbr (qta (fun W hW=>⟨(HS.out W hW).2.2.2.2.2.2.1,(HS.out W hW).2.2.2.2.2.2.2.2.2.2.2.2.2.2.2.2.2.2.2.1⟩) HT _ _ _ _ _ hT h2 h3 hb (fun T w2 hT h2 h3 hb=>hK _ _ ?_));clear K hK;refine wp_seq_k (fun K hK=>?_);refine qbr (qte (fun W hW=>⟨(HS.out W hW).2.2.2.2.2.2.2.1,(HS.out W hW).2.2.2.2.2.2.2.2.2.2.2.2.2.2.2.2.2.2.2.2.1⟩) HT _ _ _ _ _ hT h2 h3 hb (fun T w2 hT h2 h3 hb=>hK _ _ ?_));clear K hK;refine wp_seq_k (fun K hK=>?_);refine qbr (qtb (fun W hW=>⟨(HS.out W hW).2.2.2.2.2.2.2.2.1,(HS.out W hW).2.2.2.2.2.2.2.2.2.2.2.2.2.2.2.2.2.2.2.2.2.1⟩) HT _ _ _ _ _ hT h2 h3 hb (fun T w2 hT h2 h3 hb=>hK _ _ ?_));clear K hK;refine Code.wp_mono (fun e a w q=>by cases e <;> first | exact q | exact q.elim) (sg_Z (Q .normal) (Q .ret) _ _ _ hT (fun T' h4=>?_));subst hQ;refine bodyPost_ret (results_tmp rfl _ _ _) rfl ?_;rw [h4];exact ⟨rfl,belT HBB.out hb⟩
end Go.Proofs.YtijgopkhdjaolabGreat
