import Derived.Test.YtijgopkhdjaolaaGreatHs8d
import Derived.Deep.RegionHeldLaw
import Derived.Deep.DrawnRows
import Derived.Test.YtijgopkhdjaolaaGreatHs8r
import Derived.Test.YtijgopkhdjaolaaGreatHs8u
namespace Go.Proofs.YtijgopkhdjaolaaGreat
open Go.RowKit Go.Shelf Go.Sort
set_option linter.unusedSimpArgs false
set_option linter.unusedVariables false
set_option maxHeartbeats 40000000
set_option maxRecDepth 100000
theorem qp1 {w1 : World} {X0 X1 : Nat} {ta tb : Tb} {va vb : Ts} (HS : Hid (∀ W,Below w1.heap.size w1 W → W.cell? ⟨X0,7,none⟩ = some (.slice va.i.a va.i.n va.i.c) ∧ W.cell? ⟨X1,7,none⟩ = some (.slice vb.i.a vb.i.n vb.i.c))) (HT : Hid (∀ W,Below w1.heap.size w1 W → TbAt W ta va ∧ TbAt W tb vb)) (HLN : Hid (va.i.n = vb.i.n)) : Seg 7 X0 X1 w1 (ta.isrs = tb.isrs) := by
 intro N R T vs w hT h2 h3 hb hK hR
 have HK : Hid _ := hK
 have HR : Hid _ := hR
 clear hK hR
 rw [qck T hT]
 simp only [rng,List.map_cons,List.map_nil,show tk T 2 = _ from h2,show tk T 3 = _ from h3]
 clear h2 h3 hT
 generalize tk T = tt
 conv => arg 2; whnf
 go_wp2
 have HI : Hid (Below w1.heap.size w1 w ∧ ta.isrs.take 0 = tb.isrs.take 0) := ⟨hb,rfl⟩
 clear hb
 go_loopw [12,13,14] (fun v12 _ _ wr => ∃ k : Nat,k ≤ va.i.n ∧ v12 = I k ∧ Hid (Below w1.heap.size w1 wr ∧ ta.isrs.take k = tb.isrs.take k)) (fun v12 _ _ _ => va.i.n - (intOf v12).toNat)
 case atStart => exact ⟨0,by omega,rfl,HI.out⟩
 case round =>
  clear HI
  obtain ⟨k,hk,rfl,HJP⟩ := hrel
  have HJ : Hid (Below w1.heap.size w1 wr) := HJP.out.1
  obtain ⟨cA,cB⟩ := HS.out wr HJ.out
  by_cases hlt : k < va.i.n
  ·skip
   have hltI : (k : Int) < va.i.n := by omega
   have hltJ : (k : Int) < vb.i.n := by have := HLN.out; omega
   have hk1 : k < ta.isrs.length := by have := (HT.out wr HJ.out).1.i.n; omega
   have hk2 : k < tb.isrs.length := by have := (HT.out wr HJ.out).2.i.n; have := HLN.out; omega
   have hmx : va.i.n ≤ maxLen := Nat.le_trans (HT.out wr HJ.out).1.i.c (HT.out wr HJ.out).1.i.m
   unfold maxLen at hmx
   obtain ⟨x,hx⟩ : ∃ x,ta.isrs[k]? = some x := ⟨_,List.getElem?_eq_getElem hk1⟩
   obtain ⟨y,hy⟩ : ∃ y,tb.isrs[k]? = some y := ⟨_,List.getElem?_eq_getElem hk2⟩
   have HXY : Hid (ta.isrs[k]? = some x ∧ tb.isrs[k]? = some y ∧ ta.isrs.take k = tb.isrs.take k) := ⟨hx,hy,HJP.out.2⟩
   obtain ⟨g1,o1,s1,e1,hg1,q0,q1,q2,R1⟩ := qdc (HT.out wr HJ.out).1 hx
   obtain ⟨g2,o2,s2,e2,hg2,r0,r1,r2,R2⟩ := qdc (HT.out wr HJ.out).2 hy
   rw [e1] at cA
   rw [e2] at cB
   have HSS : Hid (∀ W,Below wr.heap.size wr W → (fun W => W.cell? ⟨X0,7,none⟩ = some (.slice (some ⟨g1,o1,none⟩) va.i.n va.i.c) ∧ W.cell? ⟨X1,7,none⟩ = some (.slice (some ⟨g2,o2,none⟩) vb.i.n vb.i.c) ∧ W.cell? ⟨g1,o1 + k * 3,none⟩ = some (I x.cat) ∧ W.cell? ⟨g1,o1 + k * 3 + 1,none⟩ = some (I x.prio) ∧ W.cell? ⟨g1,o1 + k * 3 + 2,none⟩ = some (.slice s1.a s1.n s1.c) ∧ W.cell? ⟨g2,o2 + k * 3,none⟩ = some (I y.cat) ∧ W.cell? ⟨g2,o2 + k * 3 + 1,none⟩ = some (I y.prio) ∧ W.cell? ⟨g2,o2 + k * 3 + 2,none⟩ = some (.slice s2.a s2.n s2.c)) W) := fun W hW => ⟨by rw [qa6 hW _ _ (World.block_lt_of_cell? _ _ cA)]; exact cA,by rw [qa6 hW _ _ (World.block_lt_of_cell? _ _ cB)]; exact cB,by rw [qa6 hW _ _ (World.block_lt_of_cell? _ _ q0)]; exact q0,by rw [qa6 hW _ _ (World.block_lt_of_cell? _ _ q1)]; exact q1,by rw [qa6 hW _ _ (World.block_lt_of_cell? _ _ q2)]; exact q2,by rw [qa6 hW _ _ (World.block_lt_of_cell? _ _ r0)]; exact r0,by rw [qa6 hW _ _ (World.block_lt_of_cell? _ _ r1)]; exact r1,by rw [qa6 hW _ _ (World.block_lt_of_cell? _ _ r2)]; exact r2⟩
   have HRR : Hid (RowsAt wr 1 intP s1 x.own ∧ RowsAt wr 1 intP s2 y.own ∧ Below w1.heap.size w1 wr) := ⟨R1,R2,HJ.out⟩
   clear R1 R2 hk1 hk2 hx hy e1 e2 hg1 hg2 HJP
   go_upto_region 32 with fail
   clear cA cB q0 q1 q2 r0 r1 r2 HJ
   have HC := HSS.out wr.drew (Below.refl wr.heap.size wr).drew
   refine wp_region_held_drew (S := (fun W => W.cell? ⟨X0,7,none⟩ = some (.slice (some ⟨g1,o1,none⟩) va.i.n va.i.c) ∧ W.cell? ⟨X1,7,none⟩ = some (.slice (some ⟨g2,o2,none⟩) vb.i.n vb.i.c) ∧ W.cell? ⟨g1,o1 + k * 3,none⟩ = some (I x.cat) ∧ W.cell? ⟨g1,o1 + k * 3 + 1,none⟩ = some (I x.prio) ∧ W.cell? ⟨g1,o1 + k * 3 + 2,none⟩ = some (.slice s1.a s1.n s1.c) ∧ W.cell? ⟨g2,o2 + k * 3,none⟩ = some (I y.cat) ∧ W.cell? ⟨g2,o2 + k * 3 + 1,none⟩ = some (I y.prio) ∧ W.cell? ⟨g2,o2 + k * 3 + 2,none⟩ = some (.slice s2.a s2.n s2.c))) (by kernel_rfl) HC (fun hHeld => ?_)
   clear HC
   change wpAnyH _ _ _ _ _ _ #[false,false,false,false,false,false,false,false,false,false,false,false,false,false] _ _
   try simp only [Act.put,q7a,q7b,q7c,q7d,q7e,q7f]
   refine wpAnyH_take (i := 0) (v := .pointer (some ⟨X0,7,none⟩)) rfl (by kernel_rfl) (by kernel_rfl) (by kernel_rfl) (fun _ _ _ h => h) (Or.inl ⟨by rfl, ?_⟩) hHeld ?_
   ·intro w' hSw
    try dsimp only at hSw
    clear hHeld
    go_simp
   try simp only [Act.put,q7a,q7b,q7c,q7d,q7e,q7f]
   refine wpAnyH_take (i := 1) (v := .slice (some ⟨g1,o1,none⟩) va.i.n va.i.c) rfl (by kernel_rfl) (by kernel_rfl) (by kernel_rfl) (fun _ _ _ h => h) (Or.inl ⟨by rfl, ?_⟩) hHeld ?_
   ·intro w' hSw
    try dsimp only at hSw
    clear hHeld
    go_simp
   try simp only [Act.put,q7a,q7b,q7c,q7d,q7e,q7f]
   refine wpAnyH_take (i := 2) (v := I k) rfl (by kernel_rfl) (by kernel_rfl) (by kernel_rfl) (fun _ _ _ h => h) (Or.inl ⟨by rfl, ?_⟩) hHeld ?_
   ·intro w' hSw
    try dsimp only at hSw
    clear hHeld
    go_simp
   try simp only [Act.put,q7a,q7b,q7c,q7d,q7e,q7f]
   refine wpAnyH_take (i := 3) (v := .pointer (some ⟨g1,o1 + k * 3,none⟩)) rfl (by kernel_rfl) (by kernel_rfl) (by kernel_rfl) (fun _ _ _ h => h) (Or.inl ⟨by rfl, ?_⟩) hHeld ?_
   ·intro w' hSw
    try dsimp only at hSw
    clear hHeld
    go_simp
   try simp only [Act.put,q7a,q7b,q7c,q7d,q7e,q7f]
   refine wpAnyH_take (i := 4) (v := .agg #[I x.cat,I x.prio, .slice s1.a s1.n s1.c]) rfl (by kernel_rfl) (by kernel_rfl) (by kernel_rfl) (fun _ _ _ h => h) (Or.inl ⟨by rfl, ?_⟩) hHeld ?_
   ·intro w' hSw
    try dsimp only at hSw
    clear hHeld
    go_simp
   try simp only [Act.put,q7a,q7b,q7c,q7d,q7e,q7f]
   refine wpAnyH_take (i := 5) (v := .pointer (some ⟨X1,7,none⟩)) rfl (by kernel_rfl) (by kernel_rfl) (by kernel_rfl) (fun _ _ _ h => h) (Or.inl ⟨by rfl, ?_⟩) hHeld ?_
   ·intro w' hSw
    try dsimp only at hSw
    clear hHeld
    go_simp
   try simp only [Act.put,q7a,q7b,q7c,q7d,q7e,q7f]
   refine wpAnyH_take (i := 6) (v := .slice (some ⟨g2,o2,none⟩) vb.i.n vb.i.c) rfl (by kernel_rfl) (by kernel_rfl) (by kernel_rfl) (fun _ _ _ h => h) (Or.inl ⟨by rfl, ?_⟩) hHeld ?_
   ·intro w' hSw
    try dsimp only at hSw
    clear hHeld
    go_simp
   try simp only [Act.put,q7a,q7b,q7c,q7d,q7e,q7f]
   refine wpAnyH_take (i := 7) (v := I k) rfl (by kernel_rfl) (by kernel_rfl) (by kernel_rfl) (fun _ _ _ h => h) (Or.inl ⟨by rfl, ?_⟩) hHeld ?_
   ·intro w' hSw
    try dsimp only at hSw
    clear hHeld
    go_simp
   try simp only [Act.put,q7a,q7b,q7c,q7d,q7e,q7f]
   refine wpAnyH_take (i := 8) (v := .pointer (some ⟨g2,o2 + k * 3,none⟩)) rfl (by kernel_rfl) (by kernel_rfl) (by kernel_rfl) (fun _ _ _ h => h) (Or.inl ⟨by rfl, ?_⟩) hHeld ?_
   ·intro w' hSw
    try dsimp only at hSw
    clear hHeld
    go_simp
   try simp only [Act.put,q7a,q7b,q7c,q7d,q7e,q7f]
   refine wpAnyH_take (i := 9) (v := .agg #[I y.cat,I y.prio, .slice s2.a s2.n s2.c]) rfl (by kernel_rfl) (by kernel_rfl) (by kernel_rfl) (fun _ _ _ h => h) (Or.inl ⟨by rfl, ?_⟩) hHeld ?_
   ·intro w' hSw
    try dsimp only at hSw
    clear hHeld
    go_simp
   try simp only [Act.put,q7a,q7b,q7c,q7d,q7e,q7f]
   clear hHeld
   refine qd5 (fun A HA G HG => ?_)
   have K11 : Hid (∀ (W : World) (P Q : Nat),Below wr.heap.size wr W → W.heap[P]? = some (.cells #[I 0,I 0, .slice none 0 0] 87) → W.heap[Q]? = some (.cells #[I 0,I 0, .slice none 0 0] 87) → P ≠ Q → wr.heap.size ≤ P → wr.heap.size ≤ Q → G 2 #[true,true,true,true,true,true,true,true,true,true,true,true,false,false] ((A.setIfInBounds 13 (.pointer (some ⟨P,0,none⟩))).setIfInBounds 14 (.pointer (some ⟨Q,0,none⟩))) W) := fun W P Q hb hP hQ hne hP1 hQ1 => by
    have hA := HA.out
    subst hA
    rw [HG.out]
    try simp only [Act.put,q7a,q7b,q7c,q7d,q7e,q7f]
    refine wpAnyH_ready (rs := [12]) (by kernel_rfl) (by simp) ?_
    refine AllReadyH.cons rfl (fun K hK => ?_) AllReadyH.nil
    obtain ⟨⟨-,cp0,fp0⟩,⟨-,cp1,fp1⟩,⟨-,cp2,fp2⟩,kP⟩ := qlj (I x.cat) (I x.prio) (.slice s1.a s1.n s1.c) hP
    go_simp
    have hb5 : Below wr.heap.size wr ((((W).setCell ⟨P,0,none⟩ (I x.cat)).setCell ⟨P,1,none⟩ (I x.prio)).setCell ⟨P,2,none⟩ (.slice s1.a s1.n s1.c)) := qae (qae (qae (hb) hP1) hP1) hP1
    have hQ5 : ((((W).setCell ⟨P,0,none⟩ (I x.cat)).setCell ⟨P,1,none⟩ (I x.prio)).setCell ⟨P,2,none⟩ (.slice s1.a s1.n s1.c)).heap[Q]? = some (.cells #[I 0,I 0, .slice none 0 0] 87) := by
     repeat rw [heap_setCell_other _ _ Q _ (by show Q ≠ P; omega)]
     exact hQ
    refine hK.out _ _ (HSS.out _ hb5) (fun hSS => ?_)
    clear hSS hK K hb hP hQ cp0 cp1 cp2 fp0 fp1 fp2
    try simp only [Act.put,q7a,q7b,q7c,q7d,q7e,q7f]
    generalize (((W).setCell ⟨P,0,none⟩ (I x.cat)).setCell ⟨P,1,none⟩ (I x.prio)).setCell ⟨P,2,none⟩ (.slice s1.a s1.n s1.c) = W5 at *
    refine wpAnyH_ready (rs := [13]) (by kernel_rfl) (by simp) ?_
    refine AllReadyH.cons rfl (fun K hK => ?_) AllReadyH.nil
    obtain ⟨⟨-,cp0,fp0⟩,⟨-,cp1,fp1⟩,⟨-,cp2,fp2⟩,kQ⟩ := qlj (I y.cat) (I y.prio) (.slice s2.a s2.n s2.c) hQ5
    go_simp
    have hb6 : Below wr.heap.size wr ((((W5).setCell ⟨Q,0,none⟩ (I y.cat)).setCell ⟨Q,1,none⟩ (I y.prio)).setCell ⟨Q,2,none⟩ (.slice s2.a s2.n s2.c)) := qae (qae (qae (hb5) hQ1) hQ1) hQ1
    have hP6 : ((((W5).setCell ⟨Q,0,none⟩ (I y.cat)).setCell ⟨Q,1,none⟩ (I y.prio)).setCell ⟨Q,2,none⟩ (.slice s2.a s2.n s2.c)).heap[P]? = some (.cells #[I x.cat,I x.prio, .slice s1.a s1.n s1.c] 87) := by
     repeat rw [heap_setCell_other _ _ P _ (by show P ≠ Q; omega)]
     exact kP
    refine hK.out _ _ (HSS.out _ hb6) (fun hSS => ?_)
    clear hSS hK K hb5 kP hQ5 cp0 cp1 cp2 fp0 fp1 fp2
    try simp only [Act.put,q7a,q7b,q7c,q7d,q7e,q7f]
    generalize (((W5).setCell ⟨Q,0,none⟩ (I y.cat)).setCell ⟨Q,1,none⟩ (I y.prio)).setCell ⟨Q,2,none⟩ (.slice s2.a s2.n s2.c) = W6 at *
    refine wpAnyH_done (by kernel_rfl) ?_ _
    have HJ2 : Hid (Below w1.heap.size w1 W6) := belT HRR.out.2.2 hb6
    have hI := qd6 W6 s1 s2 x.own y.own (HRR.out.1.below hb6 (fun _ _ _ _ h => h)) (HRR.out.2.1.below hb6 (fun _ _ _ _ h => h))
    have a09 : ∀ W,Below W6.heap.size W6 W → W.cell? ⟨P,0,none⟩ = some (I x.cat) := fun W hW => by rw [qa6 hW _ _ (qa4 hP6),cell_of_row _ _ _ _ _ (0,0) hP6]; rfl
    have b09 : ∀ W,Below W6.heap.size W6 W → W.cell? ⟨Q,0,none⟩ = some (I y.cat) := fun W hW => by rw [qa6 hW _ _ (qa4 kQ),cell_of_row _ _ _ _ _ (0,0) kQ]; rfl
    have a19 : ∀ W,Below W6.heap.size W6 W → W.cell? ⟨P,1,none⟩ = some (I x.prio) := fun W hW => by rw [qa6 hW _ _ (qa4 hP6),cell_of_row _ _ _ _ _ (0,0) hP6]; rfl
    have b19 : ∀ W,Below W6.heap.size W6 W → W.cell? ⟨Q,1,none⟩ = some (I y.prio) := fun W hW => by rw [qa6 hW _ _ (qa4 kQ),cell_of_row _ _ _ _ _ (0,0) kQ]; rfl
    have a29 : ∀ W,Below W6.heap.size W6 W → W.cell? ⟨P,2,none⟩ = some (.slice s1.a s1.n s1.c) := fun W hW => by rw [qa6 hW _ _ (qa4 hP6),cell_of_row _ _ _ _ _ (0,0) hP6]; rfl
    have b29 : ∀ W,Below W6.heap.size W6 W → W.cell? ⟨Q,2,none⟩ = some (.slice s2.a s2.n s2.c) := fun W hW => by rw [qa6 hW _ _ (qa4 kQ),cell_of_row _ _ _ _ _ (0,0) kQ]; rfl
    have HAB : Hid (∀ W,Below W6.heap.size W6 W → W.cell? ⟨P,0,none⟩ = some (I x.cat) ∧ W.cell? ⟨P,1,none⟩ = some (I x.prio) ∧ W.cell? ⟨P,2,none⟩ = some (.slice s1.a s1.n s1.c) ∧ W.cell? ⟨Q,0,none⟩ = some (I y.cat) ∧ W.cell? ⟨Q,1,none⟩ = some (I y.prio) ∧ W.cell? ⟨Q,2,none⟩ = some (.slice s2.a s2.n s2.c)) := fun W hW => ⟨a09 W hW,a19 W hW,a29 W hW,b09 W hW,b19 W hW,b29 W hW⟩
    clear a09 b09 a19 b19 a29 b29 hP6 kQ hb6 HSS HRR HG hne hP1 hQ1
    obtain ⟨e0,e1,e2,d0,d1,d2⟩ := HAB.out W6 (Below.refl _ _)
    by_cases E09 : x.cat = y.cat
    case neg =>
     have HF : Hid (¬ x.cat = y.cat) := E09
     have hn0 : (x.cat != y.cat) = true := by simp [bne]; omega
     clear E09
     clear hI
     go_wp2_with fail
     (try simp only [Exit.inBlock,Exit.then])
     exact HR.out _ _ rfl HJ2.out (fun p => by obtain ⟨u1,u2, -⟩ := HXY.out; rw [p,u2] at u1; exact HF.out (by rw [Option.some.inj u1]))
    have hn0 : (x.cat != y.cat) = false := by rw [E09]; simp
    have HE09 : Hid (x.cat = y.cat) := E09
    clear E09
    by_cases E19 : x.prio = y.prio
    case neg =>
     have HF : Hid (¬ x.prio = y.prio) := E19
     have hn1 : (x.prio != y.prio) = true := by simp [bne]; omega
     clear E19
     clear hI
     go_wp2_with fail
     (try simp only [Exit.inBlock,Exit.then])
     exact HR.out _ _ rfl HJ2.out (fun p => by obtain ⟨u1,u2, -⟩ := HXY.out; rw [p,u2] at u1; exact HF.out (by rw [Option.some.inj u1]))
    have hn1 : (x.prio != y.prio) = false := by rw [E19]; simp
    have HE19 : Hid (x.prio = y.prio) := E19
    clear E19
    by_cases E29 : x.own = y.own
    case neg =>
     have HF : Hid (¬ x.own = y.own) := E29
     rw [decide_eq_false E29] at hI
     clear E29
     go_wp2_with (first | (go_at_call 38; refine hI.mono ?_; clear hI e0 e1 e2 d0 d1 d2; rintro e W7 ⟨rfl,bB⟩; obtain ⟨e0,e1,e2,d0,d1,d2⟩ := HAB.out W7 bB; have HJ3 : Hid (Below w1.heap.size w1 W7) := belT HJ2.out bB; clear bB))
     (try simp only [Exit.inBlock,Exit.then])
     exact HR.out _ _ rfl HJ3.out (fun p => by obtain ⟨u1,u2, -⟩ := HXY.out; rw [p,u2] at u1; exact HF.out (by rw [Option.some.inj u1]))
    rw [decide_eq_true E29] at hI
    have HE29 : Hid (x.own = y.own) := E29
    clear E29
    go_wp2_with (first | (go_at_call 38; refine hI.mono ?_; clear hI e0 e1 e2 d0 d1 d2; rintro e W7 ⟨rfl,bB⟩; obtain ⟨e0,e1,e2,d0,d1,d2⟩ := HAB.out W7 bB; have HJ3 : Hid (Below w1.heap.size w1 W7) := belT HJ2.out bB; clear bB))
    go_roundw
    case rel =>
     refine ⟨k + 1,by omega,by go_num,HJ3.out, ?_⟩
     obtain ⟨u1,u2,u3⟩ := HXY.out
     have hxy : x = y := by
      obtain ⟨x0,x1,x2⟩ := x
      obtain ⟨y0,y1,y2⟩ := y
      obtain rfl : x0 = y0 := HE09.out
      obtain rfl : x1 = y1 := HE19.out
      obtain rfl : x2 = y2 := HE29.out
      rfl
     rw [qbg u1,qbg u2,u3,hxy]
    case measure => simp [intOf]; omega
   have K10 : Hid (∀ (W : World) (P : Nat),Below wr.heap.size wr W → W.heap[P]? = some (.cells #[I 0,I 0, .slice none 0 0] 87) → wr.heap.size ≤ P → G 3 #[true,true,true,true,true,true,true,true,true,true,true,false,false,false] (A.setIfInBounds 13 (.pointer (some ⟨P,0,none⟩))) W) := fun W P hb hP hP1 => by
    have hA := HA.out
    subst hA
    rw [HG.out]
    try simp only [Act.put,q7a,q7b,q7c,q7d,q7e,q7f]
    refine wpAnyH_ready (rs := [11]) (by kernel_rfl) (by simp) ?_
    refine AllReadyH.cons rfl (fun K hK => ?_) ?_
    ·go_simp
     refine hK.out _ _ (HSS.out _ (belA hb)) (fun _ => ?_)
     try simp only [Act.put,q7a,q7b,q7c,q7d,q7e,q7f]
     have hq := K11.out (W.alloc (.cells #[I 0,I 0, .slice none 0 0] 87)) P W.heap.size (belA hb) ((qa0 W _).block _ (qa4 hP) |>.trans hP) (heap_alloc_new _ _) (by have := qa4 hP; omega) hP1 hb.size
     simp only [List.setIfInBounds_toArray,List.set_cons_zero,List.set_cons_succ] at hq
     exact (HG.out _ _ _ _).mp hq
    exact AllReadyH.nil
   have K01 : Hid (∀ (W : World) (Q : Nat),Below wr.heap.size wr W → W.heap[Q]? = some (.cells #[I 0,I 0, .slice none 0 0] 87) → wr.heap.size ≤ Q → G 3 #[true,true,true,true,true,true,true,true,true,true,false,true,false,false] (A.setIfInBounds 14 (.pointer (some ⟨Q,0,none⟩))) W) := fun W Q hb hQ hQ1 => by
    have hA := HA.out
    subst hA
    rw [HG.out]
    try simp only [Act.put,q7a,q7b,q7c,q7d,q7e,q7f]
    refine wpAnyH_ready (rs := [10]) (by kernel_rfl) (by simp) ?_
    refine AllReadyH.cons rfl (fun K hK => ?_) ?_
    ·go_simp
     refine hK.out _ _ (HSS.out _ (belA hb)) (fun _ => ?_)
     try simp only [Act.put,q7a,q7b,q7c,q7d,q7e,q7f]
     have hq := K11.out (W.alloc (.cells #[I 0,I 0, .slice none 0 0] 87)) W.heap.size Q (belA hb) (heap_alloc_new _ _) ((qa0 W _).block _ (qa4 hQ) |>.trans hQ) (by have := qa4 hQ; omega) hb.size hQ1
     simp only [List.setIfInBounds_toArray,List.set_cons_zero,List.set_cons_succ] at hq
     exact (HG.out _ _ _ _).mp hq
    exact AllReadyH.nil
   have K00 : Hid (∀ (W : World),Below wr.heap.size wr W → G 4 #[true,true,true,true,true,true,true,true,true,true,false,false,false,false] A W) := fun W hb => by
    have hA := HA.out
    subst hA
    rw [HG.out]
    try simp only [Act.put,q7a,q7b,q7c,q7d,q7e,q7f]
    refine wpAnyH_ready (rs := [10,11]) (by kernel_rfl) (by simp) ?_
    refine AllReadyH.cons rfl (fun K hK => ?_) ?_
    ·go_simp
     refine hK.out _ _ (HSS.out _ (belA hb)) (fun _ => ?_)
     try simp only [Act.put,q7a,q7b,q7c,q7d,q7e,q7f]
     have hq := K10.out (W.alloc (.cells #[I 0,I 0, .slice none 0 0] 87)) W.heap.size (belA hb) (heap_alloc_new _ _) hb.size
     simp only [List.setIfInBounds_toArray,List.set_cons_zero,List.set_cons_succ] at hq
     exact (HG.out _ _ _ _).mp hq
    refine AllReadyH.cons rfl (fun K hK => ?_) ?_
    ·go_simp
     refine hK.out _ _ (HSS.out _ (belA hb)) (fun _ => ?_)
     try simp only [Act.put,q7a,q7b,q7c,q7d,q7e,q7f]
     have hq := K01.out (W.alloc (.cells #[I 0,I 0, .slice none 0 0] 87)) W.heap.size (belA hb) (heap_alloc_new _ _) hb.size
     simp only [List.setIfInBounds_toArray,List.set_cons_zero,List.set_cons_succ] at hq
     exact (HG.out _ _ _ _).mp hq
    exact AllReadyH.nil
   exact K00.out _ (Below.refl _ _).drew
  ·obtain rfl : k = va.i.n := by omega
   have hge : ¬ ((va.i.n : Int) < va.i.n) := by omega
   clear cB
   have HE : Hid (ta.isrs = tb.isrs) := by
    have u := HJP.out.2
    have l1 := (HT.out wr HJ.out).1.i.n
    have l2 := (HT.out wr HJ.out).2.i.n
    have l3 := HLN.out
    rw [List.take_of_length_le (by omega),List.take_of_length_le (by omega)] at u
    exact u
   clear HJP
   go_wp2
   (try simp only [Exit.inBlock,Exit.then])
   exact HK.out _ _ rfl rfl rfl HJ.out HE.out
theorem sg_Z (N R : Act → World → Prop) (T : Array Value) (vs : List Deferred) (w : World) (hT : T.size = 263) (hR : ∀ T',T'.getD 4 undef = .bool true → R ⟨T',vs⟩ w) : (drp 9 (Tryz.f16.body.getD .skip)).wp Tryz.prog (SQ N R) ⟨T,vs⟩ w := by
 have HR : Hid _ := hR
 clear hR
 rw [qck T hT]
 simp only [rng,List.map_cons,List.map_nil]
 clear hT
 generalize tk T = tt
 conv => arg 2; whnf
 go_wp2
 (try simp only [Exit.inBlock,Exit.then])
 refine HR.out _ ?_
 rfl
theorem qk4 (w : World) (ta tb : Tb) (va vb : Ts) (hA : TbAt w ta va) (hB : TbAt w tb vb) : Calls Tryz.prog 16 #[.agg (tbC ta va), .agg (tbC tb vb)] w fun e w' => Says e (ta = tb) ∧ Below w.heap.size w w' := by
 have hb1 := qa0 w (tQ ta.uses ta.modes va ta.depth ta.frames ta.errors ta.calls)
 have hb2 := qa0 (w.alloc (tQ ta.uses ta.modes va ta.depth ta.frames ta.errors ta.calls)) (tQ tb.uses tb.modes vb tb.depth tb.frames tb.errors tb.calls)
 have hv1 := heap_alloc_new w (tQ ta.uses ta.modes va ta.depth ta.frames ta.errors ta.calls)
 have hv2 := heap_alloc_new (w.alloc (tQ ta.uses ta.modes va ta.depth ta.frames ta.errors ta.calls)) (tQ tb.uses tb.modes vb tb.depth tb.frames tb.errors tb.calls)
 have hb := belT hb1 hb2
 have HS : Hid (∀ W,Below ((w.alloc (tQ ta.uses ta.modes va ta.depth ta.frames ta.errors ta.calls)).alloc (tQ tb.uses tb.modes vb tb.depth tb.frames tb.errors tb.calls)).heap.size ((w.alloc (tQ ta.uses ta.modes va ta.depth ta.frames ta.errors ta.calls)).alloc (tQ tb.uses tb.modes vb tb.depth tb.frames tb.errors tb.calls)) W → (fun X0 X1 => W.cell? ⟨X0,0,none⟩ = some (I ta.uses) ∧ W.cell? ⟨X0,1,none⟩ = some (I ta.modes) ∧ W.cell? ⟨X0,2,none⟩ = some (.slice va.t.a va.t.n va.t.c) ∧ W.cell? ⟨X0,3,none⟩ = some (.slice va.g.a va.g.n va.g.c) ∧ W.cell? ⟨X0,4,none⟩ = some (.slice va.r.a va.r.n va.r.c) ∧ W.cell? ⟨X0,5,none⟩ = some (.slice va.k.a va.k.n va.k.c) ∧ W.cell? ⟨X0,6,none⟩ = some (.slice va.a.a va.a.n va.a.c) ∧ W.cell? ⟨X0,7,none⟩ = some (.slice va.i.a va.i.n va.i.c) ∧ W.cell? ⟨X0,8,none⟩ = some (.slice va.s.a va.s.n va.s.c) ∧ W.cell? ⟨X0,9,none⟩ = some (I ta.depth) ∧ W.cell? ⟨X0,10,none⟩ = some (I ta.frames) ∧ W.cell? ⟨X0,11,none⟩ = some (I ta.errors) ∧ W.cell? ⟨X0,12,none⟩ = some (I ta.calls) ∧ W.cell? ⟨X1,0,none⟩ = some (I tb.uses) ∧ W.cell? ⟨X1,1,none⟩ = some (I tb.modes) ∧ W.cell? ⟨X1,2,none⟩ = some (.slice vb.t.a vb.t.n vb.t.c) ∧ W.cell? ⟨X1,3,none⟩ = some (.slice vb.g.a vb.g.n vb.g.c) ∧ W.cell? ⟨X1,4,none⟩ = some (.slice vb.r.a vb.r.n vb.r.c) ∧ W.cell? ⟨X1,5,none⟩ = some (.slice vb.k.a vb.k.n vb.k.c) ∧ W.cell? ⟨X1,6,none⟩ = some (.slice vb.a.a vb.a.n vb.a.c) ∧ W.cell? ⟨X1,7,none⟩ = some (.slice vb.i.a vb.i.n vb.i.c) ∧ W.cell? ⟨X1,8,none⟩ = some (.slice vb.s.a vb.s.n vb.s.c) ∧ W.cell? ⟨X1,9,none⟩ = some (I tb.depth) ∧ W.cell? ⟨X1,10,none⟩ = some (I tb.frames) ∧ W.cell? ⟨X1,11,none⟩ = some (I tb.errors) ∧ W.cell? ⟨X1,12,none⟩ = some (I tb.calls)) w.heap.size (w.heap.size + 1)) := fun W hW => by
  have q0 := (hb2.block _ (qa4 hv1)).trans hv1
  have q := (hW.block _ (qa4 q0)).trans q0
  have p := (hW.block _ (qa4 hv2)).trans hv2
  rw [qle] at p
  refine ⟨?_, ?_, ?_, ?_, ?_, ?_, ?_, ?_, ?_, ?_, ?_, ?_, ?_, ?_, ?_, ?_, ?_, ?_, ?_, ?_, ?_, ?_, ?_, ?_, ?_, ?_⟩ <;> first | (rw [cell_of_row _ _ _ _ _ (0,0) q]; rfl) | (rw [cell_of_row _ _ _ _ _ (0,0) p]; rfl)
 have HT : Hid (∀ W,Below ((w.alloc (tQ ta.uses ta.modes va ta.depth ta.frames ta.errors ta.calls)).alloc (tQ tb.uses tb.modes vb tb.depth tb.frames tb.errors tb.calls)).heap.size ((w.alloc (tQ ta.uses ta.modes va ta.depth ta.frames ta.errors ta.calls)).alloc (tQ tb.uses tb.modes vb tb.depth tb.frames tb.errors tb.calls)) W → TbAt W ta va ∧ TbAt W tb vb) := fun W hW => ⟨hA.below (belT hb hW),hB.below (belT hb hW)⟩
 have HBB : Hid (Below w.heap.size w ((w.alloc (tQ ta.uses ta.modes va ta.depth ta.frames ta.errors ta.calls)).alloc (tQ tb.uses tb.modes vb tb.depth tb.frames tb.errors tb.calls))) := hb
 unfold tbC at *
 clear hb1 hb2 hv1 hv2 hb hA hB
 try dsimp only
 go_enter Tryz.func16,Tryz.ntmps16
 refine wp_seq_k (fun K hK => ?_)
 have HK : Hid _ := hK
 clear hK
 go_wp2
 (try simp only [Exit.inBlock,Exit.then])
 refine HK.out _ _ ?_
 clear HK K
 generalize (w.alloc (tQ ta.uses ta.modes va ta.depth ta.frames ta.errors ta.calls)).alloc (tQ tb.uses tb.modes vb tb.depth tb.frames tb.errors tb.calls) = w1 at *
 generalize w.heap.size + 1 = X1 at *
 generalize hQ : bodyPost _ _ _ = Q
 have HNO : ∀ (T : Array Value) (w2 : World),T.getD 4 undef = .bool false → Below w1.heap.size w1 w2 → ¬ ta = tb → Q .ret ⟨T, []⟩ w2 := fun T w2 h hb2 ne => by
  subst hQ
  refine bodyPost_ret (results_tmp rfl _ _ _) rfl ?_
  rw [h]
  exact ⟨qmi ne,belT HBB.out hb2⟩
 have HYE : ∀ (T : Array Value) (w2 : World),T.getD 4 undef = .bool true → Below w1.heap.size w1 w2 → ta = tb → Q .ret ⟨T, []⟩ w2 := fun T w2 h hb2 ne => by
  subst hQ
  refine bodyPost_ret (results_tmp rfl _ _ _) rfl ?_
  rw [h]
  exact ⟨qkz ne,belT HBB.out hb2⟩
 clear hQ
 refine wp_seq_k (fun K hK => ?_)
 refine qch (sg_A HS HT _ _ _ _ _ rfl rfl rfl (Below.refl _ _) (fun T w2 hT h2 h3 hb EA => hK _ _ ?_) (fun T w2 h4 hb ne => HNO T w2 h4 hb (fun p => ne (by rw [p]; simp))))
 clear K hK
 obtain ⟨⟨e0,e1,e9,e10,e11,e12⟩,hEQ⟩ := EA
 obtain ⟨l0,l1,l2,l3,l4,l5,l6⟩ : va.t.n = vb.t.n ∧ va.g.n = vb.g.n ∧ va.r.n = vb.r.n ∧ va.k.n = vb.k.n ∧ va.a.n = vb.a.n ∧ va.i.n = vb.i.n ∧ va.s.n = vb.s.n := by
  obtain ⟨p,q⟩ := HT.out w1 (Below.refl _ _)
  unfold lenL at hEQ
  simp only [List.cons.injEq,Int.natCast_inj,and_true] at hEQ
  obtain ⟨l0,l1,l2,l3,l4,l5,l6⟩ := hEQ
  exact ⟨p.t.n.trans (l0.trans q.t.n.symm),p.g.n.trans (l1.trans q.g.n.symm),p.r.n.trans (l2.trans q.r.n.symm),p.k.n.trans (l3.trans q.k.n.symm),p.a.n.trans (l4.trans q.a.n.symm),p.i.n.trans (l5.trans q.i.n.symm),p.s.n.trans (l6.trans q.s.n.symm)⟩
 refine wp_seq_k (fun K hK => ?_)
 refine qch (qp0 (fun W hW => ⟨(HS.out W hW).2.2.1,(HS.out W hW).2.2.2.2.2.2.2.2.2.2.2.2.2.2.2.1⟩) HT l0 _ _ _ _ _ hT h2 h3 hb (fun T w2 hT h2 h3 hb E0 => hK _ _ ?_) (fun T w2 h4 hb ne => HNO T w2 h4 hb (fun p => ne (by rw [p]))))
 clear K hK
 refine wp_seq_k (fun K hK => ?_)
 refine qch (qov (fun W hW => ⟨(HS.out W hW).2.2.2.1,(HS.out W hW).2.2.2.2.2.2.2.2.2.2.2.2.2.2.2.2.1⟩) HT l1 _ _ _ _ _ hT h2 h3 hb (fun T w2 hT h2 h3 hb E1 => hK _ _ ?_) (fun T w2 h4 hb ne => HNO T w2 h4 hb (fun p => ne (by rw [p]))))
 clear K hK
 refine wp_seq_k (fun K hK => ?_)
 refine qch (qow (fun W hW => ⟨(HS.out W hW).2.2.2.2.1,(HS.out W hW).2.2.2.2.2.2.2.2.2.2.2.2.2.2.2.2.2.1⟩) HT l2 _ _ _ _ _ hT h2 h3 hb (fun T w2 hT h2 h3 hb E2 => hK _ _ ?_) (fun T w2 h4 hb ne => HNO T w2 h4 hb (fun p => ne (by rw [p]))))
 clear K hK
 refine wp_seq_k (fun K hK => ?_)
 refine qch (qox (fun W hW => ⟨(HS.out W hW).2.2.2.2.2.1,(HS.out W hW).2.2.2.2.2.2.2.2.2.2.2.2.2.2.2.2.2.2.1⟩) HT l3 _ _ _ _ _ hT h2 h3 hb (fun T w2 hT h2 h3 hb E3 => hK _ _ ?_) (fun T w2 h4 hb ne => HNO T w2 h4 hb (fun p => ne (by rw [p]))))
 clear K hK
 refine wp_seq_k (fun K hK => ?_)
 refine qch (qoy (fun W hW => ⟨(HS.out W hW).2.2.2.2.2.2.1,(HS.out W hW).2.2.2.2.2.2.2.2.2.2.2.2.2.2.2.2.2.2.2.1⟩) HT l4 _ _ _ _ _ hT h2 h3 hb (fun T w2 hT h2 h3 hb E4 => hK _ _ ?_) (fun T w2 h4 hb ne => HNO T w2 h4 hb (fun p => ne (by rw [p]))))
 clear K hK
 refine wp_seq_k (fun K hK => ?_)
 refine qch (qp1 (fun W hW => ⟨(HS.out W hW).2.2.2.2.2.2.2.1,(HS.out W hW).2.2.2.2.2.2.2.2.2.2.2.2.2.2.2.2.2.2.2.2.1⟩) HT l5 _ _ _ _ _ hT h2 h3 hb (fun T w2 hT h2 h3 hb E5 => hK _ _ ?_) (fun T w2 h4 hb ne => HNO T w2 h4 hb (fun p => ne (by rw [p]))))
 clear K hK
 refine wp_seq_k (fun K hK => ?_)
 refine qch (qoz (fun W hW => ⟨(HS.out W hW).2.2.2.2.2.2.2.2.1,(HS.out W hW).2.2.2.2.2.2.2.2.2.2.2.2.2.2.2.2.2.2.2.2.2.1⟩) HT l6 _ _ _ _ _ hT h2 h3 hb (fun T w2 hT h2 h3 hb E6 => hK _ _ ?_) (fun T w2 h4 hb ne => HNO T w2 h4 hb (fun p => ne (by rw [p]))))
 clear K hK
 refine Code.wp_mono (fun e a w q => by cases e <;> first | exact q | exact q.elim) (sg_Z (Q .normal) (Q .ret) _ _ _ hT (fun T' h4 => HYE T' _ h4 hb ?_))
 obtain ⟨a0,a1,a2,a3,a4,a5,a6,a7,a8,a9,a10,a11,a12⟩ := ta
 obtain ⟨b0,b1,b2,b3,b4,b5,b6,b7,b8,b9,b10,b11,b12⟩ := tb
 dsimp only at *
 simp only [e0,e1,e9,e10,e11,e12,E0,E1,E2,E3,E4,E5,E6]
end Go.Proofs.YtijgopkhdjaolaaGreat
