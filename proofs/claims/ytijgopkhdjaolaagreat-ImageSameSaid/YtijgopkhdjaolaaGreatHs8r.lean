import Derived.Test.YtijgopkhdjaolaaGreatHs8d
import Derived.Deep.RegionHeldLaw
import Derived.Deep.DrawnRows
namespace Go.Proofs.YtijgopkhdjaolaaGreat
open Go.RowKit Go.Shelf Go.Sort
set_option linter.unusedSimpArgs false
set_option linter.unusedVariables false
set_option maxHeartbeats 40000000
set_option maxRecDepth 100000
theorem qov {w1 : World} {X0 X1 : Nat} {ta tb : Tb} {va vb : Ts} (HS : Hid (∀ W,Below w1.heap.size w1 W → W.cell? ⟨X0,3,none⟩ = some (.slice va.g.a va.g.n va.g.c) ∧ W.cell? ⟨X1,3,none⟩ = some (.slice vb.g.a vb.g.n vb.g.c))) (HT : Hid (∀ W,Below w1.heap.size w1 W → TbAt W ta va ∧ TbAt W tb vb)) (HLN : Hid (va.g.n = vb.g.n)) : Seg 3 X0 X1 w1 (ta.rings = tb.rings) := by
 intro N R T vs w hT h2 h3 hb hK hR
 have HK : Hid _ := hK
 have HR : Hid _ := hR
 clear hK hR
 rw [qck T hT]
 simp only [rng,List.map_cons,List.map_nil,show tk T 2 = _ from h2,show tk T 3 = _ from h3]
 clear h2 h3 hT
 generalize tk T = tt
 conv => arg 2; whnf
 go_wp2
 have HI : Hid (Below w1.heap.size w1 w ∧ ta.rings.take 0 = tb.rings.take 0) := ⟨hb,rfl⟩
 clear hb
 go_loopw [8] (fun v8 wr => ∃ k : Nat,k ≤ va.g.n ∧ v8 = I k ∧ Hid (Below w1.heap.size w1 wr ∧ ta.rings.take k = tb.rings.take k)) (fun v8 _ => va.g.n - (intOf v8).toNat)
 case atStart => exact ⟨0,by omega,rfl,HI.out⟩
 case round =>
  clear HI
  obtain ⟨k,hk,rfl,HJP⟩ := hrel
  have HJ : Hid (Below w1.heap.size w1 wr) := HJP.out.1
  obtain ⟨cA,cB⟩ := HS.out wr HJ.out
  by_cases hlt : k < va.g.n
  ·skip
   have hltI : (k : Int) < va.g.n := by omega
   have hltJ : (k : Int) < vb.g.n := by have := HLN.out; omega
   have hk1 : k < ta.rings.length := by have := (HT.out wr HJ.out).1.g.n; omega
   have hk2 : k < tb.rings.length := by have := (HT.out wr HJ.out).2.g.n; have := HLN.out; omega
   have hmx : va.g.n ≤ maxLen := Nat.le_trans (HT.out wr HJ.out).1.g.c (HT.out wr HJ.out).1.g.m
   unfold maxLen at hmx
   have HXY : Hid (ta.rings[k]? = some ta.rings[k] ∧ tb.rings[k]? = some tb.rings[k] ∧ ta.rings.take k = tb.rings.take k) := ⟨List.getElem?_eq_getElem hk1,List.getElem?_eq_getElem hk2,HJP.out.2⟩
   obtain ⟨g1,o1,e1,q0,q1⟩ := atRg (HT.out wr HJ.out).1.g hk1 (Below.refl wr.heap.size wr)
   obtain ⟨g2,o2,e2,r0,r1⟩ := atRg (HT.out wr HJ.out).2.g hk2 (Below.refl wr.heap.size wr)
   rw [e1] at cA
   rw [e2] at cB
   have hN := fun W => ql9 W ta.rings[k] tb.rings[k]
   generalize ta.rings[k] = x at *
   generalize tb.rings[k] = y at *
   clear hk1 hk2 e1 e2 HJP
   go_upto_region 12 with fail
   by_cases hxy : x = y
   case neg =>
    have hdn : decide (x.prio = y.prio ∧ x.cap = y.cap) = false := by rw [decide_eq_false_iff_not]; intro h; apply hxy; obtain ⟨x0,x1⟩ := x; obtain ⟨y0,y1⟩ := y; simp_all
    simp only [hdn,Bool.not_false] at hN
    clear hdn
    have HF : Hid (¬ x = y) := hxy
    clear hxy
    go_region_held_law (fun W => W.cell? ⟨X0,3,none⟩ = some (.slice (some ⟨g1,o1,none⟩) va.g.n va.g.c) ∧ W.cell? ⟨X1,3,none⟩ = some (.slice (some ⟨g2,o2,none⟩) vb.g.n vb.g.c) ∧ W.cell? ⟨g1,o1 + k * 2,none⟩ = some (I x.prio) ∧ W.cell? ⟨g1,o1 + k * 2 + 1,none⟩ = some (I x.cap) ∧ W.cell? ⟨g2,o2 + k * 2,none⟩ = some (I y.prio) ∧ W.cell? ⟨g2,o2 + k * 2 + 1,none⟩ = some (I y.cap)) (first | exact ⟨cA,cB,q0,q1,r0,r1⟩ | (go_keep; done)) (fail)
    have HJ2 : Hid (Below w1.heap.size w1 wr.drew) := HJ.out.drew
    clear HJ cA cB q0 q1 r0 r1
    go_wp2
    (try simp only [Exit.inBlock,Exit.then])
    exact HR.out _ _ rfl HJ2.out (fun p => by obtain ⟨u1,u2, -⟩ := HXY.out; rw [p,u2] at u1; exact HF.out (Option.some.inj u1).symm)
   subst hxy
   simp only [and_self,decide_true,Bool.not_true] at hN
   go_region_held_law (fun W => W.cell? ⟨X0,3,none⟩ = some (.slice (some ⟨g1,o1,none⟩) va.g.n va.g.c) ∧ W.cell? ⟨X1,3,none⟩ = some (.slice (some ⟨g2,o2,none⟩) vb.g.n vb.g.c) ∧ W.cell? ⟨g1,o1 + k * 2,none⟩ = some (I x.prio) ∧ W.cell? ⟨g1,o1 + k * 2 + 1,none⟩ = some (I x.cap) ∧ W.cell? ⟨g2,o2 + k * 2,none⟩ = some (I x.prio) ∧ W.cell? ⟨g2,o2 + k * 2 + 1,none⟩ = some (I x.cap)) (first | exact ⟨cA,cB,q0,q1,r0,r1⟩ | (go_keep; done)) (fail)
   have HJ2 : Hid (Below w1.heap.size w1 wr.drew) := HJ.out.drew
   clear HJ cA cB q0 q1 r0 r1
   go_wp2
   go_roundw
   case rel =>
    refine ⟨k + 1,by omega,by go_num,HJ2.out, ?_⟩
    obtain ⟨u1,u2,u3⟩ := HXY.out
    rw [qbg u1,qbg u2,u3]
   case measure => simp [intOf]; omega
  ·obtain rfl : k = va.g.n := by omega
   have hge : ¬ ((va.g.n : Int) < va.g.n) := by omega
   clear cB
   have HE : Hid (ta.rings = tb.rings) := by
    have u := HJP.out.2
    have l1 := (HT.out wr HJ.out).1.g.n
    have l2 := (HT.out wr HJ.out).2.g.n
    have l3 := HLN.out
    rw [List.take_of_length_le (by omega),List.take_of_length_le (by omega)] at u
    exact u
   clear HJP
   go_wp2
   (try simp only [Exit.inBlock,Exit.then])
   exact HK.out _ _ rfl rfl rfl HJ.out HE.out
theorem qow {w1 : World} {X0 X1 : Nat} {ta tb : Tb} {va vb : Ts} (HS : Hid (∀ W,Below w1.heap.size w1 W → W.cell? ⟨X0,4,none⟩ = some (.slice va.r.a va.r.n va.r.c) ∧ W.cell? ⟨X1,4,none⟩ = some (.slice vb.r.a vb.r.n vb.r.c))) (HT : Hid (∀ W,Below w1.heap.size w1 W → TbAt W ta va ∧ TbAt W tb vb)) (HLN : Hid (va.r.n = vb.r.n)) : Seg 4 X0 X1 w1 (ta.ress = tb.ress) := by
 intro N R T vs w hT h2 h3 hb hK hR
 have HK : Hid _ := hK
 have HR : Hid _ := hR
 clear hK hR
 rw [qck T hT]
 simp only [rng,List.map_cons,List.map_nil,show tk T 2 = _ from h2,show tk T 3 = _ from h3]
 clear h2 h3 hT
 generalize tk T = tt
 conv => arg 2; whnf
 go_wp2
 have HI : Hid (Below w1.heap.size w1 w ∧ ta.ress.take 0 = tb.ress.take 0) := ⟨hb,rfl⟩
 clear hb
 go_loopw [9] (fun v9 wr => ∃ k : Nat,k ≤ va.r.n ∧ v9 = I k ∧ Hid (Below w1.heap.size w1 wr ∧ ta.ress.take k = tb.ress.take k)) (fun v9 _ => va.r.n - (intOf v9).toNat)
 case atStart => exact ⟨0,by omega,rfl,HI.out⟩
 case round =>
  clear HI
  obtain ⟨k,hk,rfl,HJP⟩ := hrel
  have HJ : Hid (Below w1.heap.size w1 wr) := HJP.out.1
  obtain ⟨cA,cB⟩ := HS.out wr HJ.out
  by_cases hlt : k < va.r.n
  ·skip
   have hltI : (k : Int) < va.r.n := by omega
   have hltJ : (k : Int) < vb.r.n := by have := HLN.out; omega
   have hk1 : k < ta.ress.length := by have := (HT.out wr HJ.out).1.r.n; omega
   have hk2 : k < tb.ress.length := by have := (HT.out wr HJ.out).2.r.n; have := HLN.out; omega
   have hmx : va.r.n ≤ maxLen := Nat.le_trans (HT.out wr HJ.out).1.r.c (HT.out wr HJ.out).1.r.m
   unfold maxLen at hmx
   have HXY : Hid (ta.ress[k]? = some ta.ress[k] ∧ tb.ress[k]? = some tb.ress[k] ∧ ta.ress.take k = tb.ress.take k) := ⟨List.getElem?_eq_getElem hk1,List.getElem?_eq_getElem hk2,HJP.out.2⟩
   obtain ⟨g1,o1,e1,q0,q1⟩ := atRs (HT.out wr HJ.out).1.r hk1 (Below.refl wr.heap.size wr)
   obtain ⟨g2,o2,e2,r0,r1⟩ := atRs (HT.out wr HJ.out).2.r hk2 (Below.refl wr.heap.size wr)
   rw [e1] at cA
   rw [e2] at cB
   have hN := fun W => qla W ta.ress[k] tb.ress[k]
   generalize ta.ress[k] = x at *
   generalize tb.ress[k] = y at *
   clear hk1 hk2 e1 e2 HJP
   go_upto_region 17 with fail
   by_cases hxy : x = y
   case neg =>
    have hdn : decide (x.inner = y.inner ∧ x.ceil = y.ceil) = false := by rw [decide_eq_false_iff_not]; intro h; apply hxy; obtain ⟨x0,x1⟩ := x; obtain ⟨y0,y1⟩ := y; simp_all
    simp only [hdn,Bool.not_false] at hN
    clear hdn
    have HF : Hid (¬ x = y) := hxy
    clear hxy
    go_region_held_law (fun W => W.cell? ⟨X0,4,none⟩ = some (.slice (some ⟨g1,o1,none⟩) va.r.n va.r.c) ∧ W.cell? ⟨X1,4,none⟩ = some (.slice (some ⟨g2,o2,none⟩) vb.r.n vb.r.c) ∧ W.cell? ⟨g1,o1 + k * 2,none⟩ = some (.bool x.inner) ∧ W.cell? ⟨g1,o1 + k * 2 + 1,none⟩ = some (I x.ceil) ∧ W.cell? ⟨g2,o2 + k * 2,none⟩ = some (.bool y.inner) ∧ W.cell? ⟨g2,o2 + k * 2 + 1,none⟩ = some (I y.ceil)) (first | exact ⟨cA,cB,q0,q1,r0,r1⟩ | (go_keep; done)) (fail)
    have HJ2 : Hid (Below w1.heap.size w1 wr.drew) := HJ.out.drew
    clear HJ cA cB q0 q1 r0 r1
    go_wp2
    (try simp only [Exit.inBlock,Exit.then])
    exact HR.out _ _ rfl HJ2.out (fun p => by obtain ⟨u1,u2, -⟩ := HXY.out; rw [p,u2] at u1; exact HF.out (Option.some.inj u1).symm)
   subst hxy
   simp only [and_self,decide_true,Bool.not_true] at hN
   go_region_held_law (fun W => W.cell? ⟨X0,4,none⟩ = some (.slice (some ⟨g1,o1,none⟩) va.r.n va.r.c) ∧ W.cell? ⟨X1,4,none⟩ = some (.slice (some ⟨g2,o2,none⟩) vb.r.n vb.r.c) ∧ W.cell? ⟨g1,o1 + k * 2,none⟩ = some (.bool x.inner) ∧ W.cell? ⟨g1,o1 + k * 2 + 1,none⟩ = some (I x.ceil) ∧ W.cell? ⟨g2,o2 + k * 2,none⟩ = some (.bool x.inner) ∧ W.cell? ⟨g2,o2 + k * 2 + 1,none⟩ = some (I x.ceil)) (first | exact ⟨cA,cB,q0,q1,r0,r1⟩ | (go_keep; done)) (fail)
   have HJ2 : Hid (Below w1.heap.size w1 wr.drew) := HJ.out.drew
   clear HJ cA cB q0 q1 r0 r1
   go_wp2
   go_roundw
   case rel =>
    refine ⟨k + 1,by omega,by go_num,HJ2.out, ?_⟩
    obtain ⟨u1,u2,u3⟩ := HXY.out
    rw [qbg u1,qbg u2,u3]
   case measure => simp [intOf]; omega
  ·obtain rfl : k = va.r.n := by omega
   have hge : ¬ ((va.r.n : Int) < va.r.n) := by omega
   clear cB
   have HE : Hid (ta.ress = tb.ress) := by
    have u := HJP.out.2
    have l1 := (HT.out wr HJ.out).1.r.n
    have l2 := (HT.out wr HJ.out).2.r.n
    have l3 := HLN.out
    rw [List.take_of_length_le (by omega),List.take_of_length_le (by omega)] at u
    exact u
   clear HJP
   go_wp2
   (try simp only [Exit.inBlock,Exit.then])
   exact HK.out _ _ rfl rfl rfl HJ.out HE.out
theorem qox {w1 : World} {X0 X1 : Nat} {ta tb : Tb} {va vb : Ts} (HS : Hid (∀ W,Below w1.heap.size w1 W → W.cell? ⟨X0,5,none⟩ = some (.slice va.k.a va.k.n va.k.c) ∧ W.cell? ⟨X1,5,none⟩ = some (.slice vb.k.a vb.k.n vb.k.c))) (HT : Hid (∀ W,Below w1.heap.size w1 W → TbAt W ta va ∧ TbAt W tb vb)) (HLN : Hid (va.k.n = vb.k.n)) : Seg 5 X0 X1 w1 (ta.ctrs = tb.ctrs) := by
 intro N R T vs w hT h2 h3 hb hK hR
 have HK : Hid _ := hK
 have HR : Hid _ := hR
 clear hK hR
 rw [qck T hT]
 simp only [rng,List.map_cons,List.map_nil,show tk T 2 = _ from h2,show tk T 3 = _ from h3]
 clear h2 h3 hT
 generalize tk T = tt
 conv => arg 2; whnf
 go_wp2
 have HI : Hid (Below w1.heap.size w1 w ∧ ta.ctrs.take 0 = tb.ctrs.take 0) := ⟨hb,rfl⟩
 clear hb
 go_loopw [10] (fun v10 wr => ∃ k : Nat,k ≤ va.k.n ∧ v10 = I k ∧ Hid (Below w1.heap.size w1 wr ∧ ta.ctrs.take k = tb.ctrs.take k)) (fun v10 _ => va.k.n - (intOf v10).toNat)
 case atStart => exact ⟨0,by omega,rfl,HI.out⟩
 case round =>
  clear HI
  obtain ⟨k,hk,rfl,HJP⟩ := hrel
  have HJ : Hid (Below w1.heap.size w1 wr) := HJP.out.1
  obtain ⟨cA,cB⟩ := HS.out wr HJ.out
  by_cases hlt : k < va.k.n
  ·skip
   have hltI : (k : Int) < va.k.n := by omega
   have hltJ : (k : Int) < vb.k.n := by have := HLN.out; omega
   have hk1 : k < ta.ctrs.length := by have := (HT.out wr HJ.out).1.k.n; omega
   have hk2 : k < tb.ctrs.length := by have := (HT.out wr HJ.out).2.k.n; have := HLN.out; omega
   have hmx : va.k.n ≤ maxLen := Nat.le_trans (HT.out wr HJ.out).1.k.c (HT.out wr HJ.out).1.k.m
   unfold maxLen at hmx
   have HXY : Hid (ta.ctrs[k]? = some ta.ctrs[k] ∧ tb.ctrs[k]? = some tb.ctrs[k] ∧ ta.ctrs.take k = tb.ctrs.take k) := ⟨List.getElem?_eq_getElem hk1,List.getElem?_eq_getElem hk2,HJP.out.2⟩
   obtain ⟨g1,o1,e1,q0,q1,q2⟩ := atCt (HT.out wr HJ.out).1.k hk1 (Below.refl wr.heap.size wr)
   obtain ⟨g2,o2,e2,r0,r1,r2⟩ := atCt (HT.out wr HJ.out).2.k hk2 (Below.refl wr.heap.size wr)
   rw [e1] at cA
   rw [e2] at cB
   have hN := fun W => qld W ta.ctrs[k] tb.ctrs[k]
   generalize ta.ctrs[k] = x at *
   generalize tb.ctrs[k] = y at *
   clear hk1 hk2 e1 e2 HJP
   go_upto_region 22 with fail
   by_cases hxy : x = y
   case neg =>
    have hdn : decide (x.max = y.max ∧ x.base = y.base ∧ x.min = y.min) = false := by rw [decide_eq_false_iff_not]; intro h; apply hxy; obtain ⟨x0,x1,x2⟩ := x; obtain ⟨y0,y1,y2⟩ := y; simp_all
    simp only [hdn,Bool.not_false] at hN
    clear hdn
    have HF : Hid (¬ x = y) := hxy
    clear hxy
    go_region_held_law (fun W => W.cell? ⟨X0,5,none⟩ = some (.slice (some ⟨g1,o1,none⟩) va.k.n va.k.c) ∧ W.cell? ⟨X1,5,none⟩ = some (.slice (some ⟨g2,o2,none⟩) vb.k.n vb.k.c) ∧ W.cell? ⟨g1,o1 + k * 3,none⟩ = some (.int .u32 (x.max : Int)) ∧ W.cell? ⟨g1,o1 + k * 3 + 1,none⟩ = some (.int .u32 (x.base : Int)) ∧ W.cell? ⟨g1,o1 + k * 3 + 2,none⟩ = some (.int .u32 (x.min : Int)) ∧ W.cell? ⟨g2,o2 + k * 3,none⟩ = some (.int .u32 (y.max : Int)) ∧ W.cell? ⟨g2,o2 + k * 3 + 1,none⟩ = some (.int .u32 (y.base : Int)) ∧ W.cell? ⟨g2,o2 + k * 3 + 2,none⟩ = some (.int .u32 (y.min : Int))) (first | exact ⟨cA,cB,q0,q1,q2,r0,r1,r2⟩ | (go_keep; done)) (fail)
    have HJ2 : Hid (Below w1.heap.size w1 wr.drew) := HJ.out.drew
    clear HJ cA cB q0 q1 q2 r0 r1 r2
    go_wp2
    (try simp only [Exit.inBlock,Exit.then])
    exact HR.out _ _ rfl HJ2.out (fun p => by obtain ⟨u1,u2, -⟩ := HXY.out; rw [p,u2] at u1; exact HF.out (Option.some.inj u1).symm)
   subst hxy
   simp only [and_self,decide_true,Bool.not_true] at hN
   go_region_held_law (fun W => W.cell? ⟨X0,5,none⟩ = some (.slice (some ⟨g1,o1,none⟩) va.k.n va.k.c) ∧ W.cell? ⟨X1,5,none⟩ = some (.slice (some ⟨g2,o2,none⟩) vb.k.n vb.k.c) ∧ W.cell? ⟨g1,o1 + k * 3,none⟩ = some (.int .u32 (x.max : Int)) ∧ W.cell? ⟨g1,o1 + k * 3 + 1,none⟩ = some (.int .u32 (x.base : Int)) ∧ W.cell? ⟨g1,o1 + k * 3 + 2,none⟩ = some (.int .u32 (x.min : Int)) ∧ W.cell? ⟨g2,o2 + k * 3,none⟩ = some (.int .u32 (x.max : Int)) ∧ W.cell? ⟨g2,o2 + k * 3 + 1,none⟩ = some (.int .u32 (x.base : Int)) ∧ W.cell? ⟨g2,o2 + k * 3 + 2,none⟩ = some (.int .u32 (x.min : Int))) (first | exact ⟨cA,cB,q0,q1,q2,r0,r1,r2⟩ | (go_keep; done)) (fail)
   have HJ2 : Hid (Below w1.heap.size w1 wr.drew) := HJ.out.drew
   clear HJ cA cB q0 q1 q2 r0 r1 r2
   go_wp2
   go_roundw
   case rel =>
    refine ⟨k + 1,by omega,by go_num,HJ2.out, ?_⟩
    obtain ⟨u1,u2,u3⟩ := HXY.out
    rw [qbg u1,qbg u2,u3]
   case measure => simp [intOf]; omega
  ·obtain rfl : k = va.k.n := by omega
   have hge : ¬ ((va.k.n : Int) < va.k.n) := by omega
   clear cB
   have HE : Hid (ta.ctrs = tb.ctrs) := by
    have u := HJP.out.2
    have l1 := (HT.out wr HJ.out).1.k.n
    have l2 := (HT.out wr HJ.out).2.k.n
    have l3 := HLN.out
    rw [List.take_of_length_le (by omega),List.take_of_length_le (by omega)] at u
    exact u
   clear HJP
   go_wp2
   (try simp only [Exit.inBlock,Exit.then])
   exact HK.out _ _ rfl rfl rfl HJ.out HE.out
theorem qoy {w1 : World} {X0 X1 : Nat} {ta tb : Tb} {va vb : Ts} (HS : Hid (∀ W,Below w1.heap.size w1 W → W.cell? ⟨X0,6,none⟩ = some (.slice va.a.a va.a.n va.a.c) ∧ W.cell? ⟨X1,6,none⟩ = some (.slice vb.a.a vb.a.n vb.a.c))) (HT : Hid (∀ W,Below w1.heap.size w1 W → TbAt W ta va ∧ TbAt W tb vb)) (HLN : Hid (va.a.n = vb.a.n)) : Seg 6 X0 X1 w1 (ta.als = tb.als) := by
 intro N R T vs w hT h2 h3 hb hK hR
 have HK : Hid _ := hK
 have HR : Hid _ := hR
 clear hK hR
 rw [qck T hT]
 simp only [rng,List.map_cons,List.map_nil,show tk T 2 = _ from h2,show tk T 3 = _ from h3]
 clear h2 h3 hT
 generalize tk T = tt
 conv => arg 2; whnf
 go_wp2
 have HI : Hid (Below w1.heap.size w1 w ∧ ta.als.take 0 = tb.als.take 0) := ⟨hb,rfl⟩
 clear hb
 go_loopw [11] (fun v11 wr => ∃ k : Nat,k ≤ va.a.n ∧ v11 = I k ∧ Hid (Below w1.heap.size w1 wr ∧ ta.als.take k = tb.als.take k)) (fun v11 _ => va.a.n - (intOf v11).toNat)
 case atStart => exact ⟨0,by omega,rfl,HI.out⟩
 case round =>
  clear HI
  obtain ⟨k,hk,rfl,HJP⟩ := hrel
  have HJ : Hid (Below w1.heap.size w1 wr) := HJP.out.1
  obtain ⟨cA,cB⟩ := HS.out wr HJ.out
  by_cases hlt : k < va.a.n
  ·skip
   have hltI : (k : Int) < va.a.n := by omega
   have hltJ : (k : Int) < vb.a.n := by have := HLN.out; omega
   have hk1 : k < ta.als.length := by have := (HT.out wr HJ.out).1.a.n; omega
   have hk2 : k < tb.als.length := by have := (HT.out wr HJ.out).2.a.n; have := HLN.out; omega
   have hmx : va.a.n ≤ maxLen := Nat.le_trans (HT.out wr HJ.out).1.a.c (HT.out wr HJ.out).1.a.m
   unfold maxLen at hmx
   have HXY : Hid (ta.als[k]? = some ta.als[k] ∧ tb.als[k]? = some tb.als[k] ∧ ta.als.take k = tb.als.take k) := ⟨List.getElem?_eq_getElem hk1,List.getElem?_eq_getElem hk2,HJP.out.2⟩
   obtain ⟨g1,o1,e1,q0,q1,q2,q3,q4,q5,q6⟩ := atAl (HT.out wr HJ.out).1.a hk1 (Below.refl wr.heap.size wr)
   obtain ⟨g2,o2,e2,r0,r1,r2,r3,r4,r5,r6⟩ := atAl (HT.out wr HJ.out).2.a hk2 (Below.refl wr.heap.size wr)
   rw [e1] at cA
   rw [e2] at cB
   have hN := fun W => qlb W ta.als[k] tb.als[k]
   generalize ta.als[k] = x at *
   generalize tb.als[k] = y at *
   clear hk1 hk2 e1 e2 HJP
   go_upto_region 27 with fail
   by_cases hxy : x = y
   case neg =>
    have hdn : decide (x.ctr = y.ctr ∧ x.ac.kind = y.ac.kind ∧ x.ac.task = y.ac.task ∧ x.ac.mask = y.ac.mask ∧ x.auto = y.auto ∧ x.time = y.time ∧ x.cycle = y.cycle) = false := by rw [decide_eq_false_iff_not]; intro h; apply hxy; obtain ⟨x0,⟨x1,x2,x3⟩,x4,x5,x6⟩ := x; obtain ⟨y0,⟨y1,y2,y3⟩,y4,y5,y6⟩ := y; simp_all
    simp only [hdn,Bool.not_false] at hN
    clear hdn
    have HF : Hid (¬ x = y) := hxy
    clear hxy
    go_region_held_law (fun W => W.cell? ⟨X0,6,none⟩ = some (.slice (some ⟨g1,o1,none⟩) va.a.n va.a.c) ∧ W.cell? ⟨X1,6,none⟩ = some (.slice (some ⟨g2,o2,none⟩) vb.a.n vb.a.c) ∧ W.cell? ⟨g1,o1 + k * 7,none⟩ = some (I x.ctr) ∧ W.cell? ⟨g1,o1 + k * 7 + 1,none⟩ = some (I x.ac.kind) ∧ W.cell? ⟨g1,o1 + k * 7 + 2,none⟩ = some (I x.ac.task) ∧ W.cell? ⟨g1,o1 + k * 7 + 3,none⟩ = some (.int .u32 (x.ac.mask : Int)) ∧ W.cell? ⟨g1,o1 + k * 7 + 4,none⟩ = some (.int .u32 (x.auto : Int)) ∧ W.cell? ⟨g1,o1 + k * 7 + 5,none⟩ = some (.int .u32 (x.time : Int)) ∧ W.cell? ⟨g1,o1 + k * 7 + 6,none⟩ = some (.int .u32 (x.cycle : Int)) ∧ W.cell? ⟨g2,o2 + k * 7,none⟩ = some (I y.ctr) ∧ W.cell? ⟨g2,o2 + k * 7 + 1,none⟩ = some (I y.ac.kind) ∧ W.cell? ⟨g2,o2 + k * 7 + 2,none⟩ = some (I y.ac.task) ∧ W.cell? ⟨g2,o2 + k * 7 + 3,none⟩ = some (.int .u32 (y.ac.mask : Int)) ∧ W.cell? ⟨g2,o2 + k * 7 + 4,none⟩ = some (.int .u32 (y.auto : Int)) ∧ W.cell? ⟨g2,o2 + k * 7 + 5,none⟩ = some (.int .u32 (y.time : Int)) ∧ W.cell? ⟨g2,o2 + k * 7 + 6,none⟩ = some (.int .u32 (y.cycle : Int))) (first | exact ⟨cA,cB,q0,q1,q2,q3,q4,q5,q6,r0,r1,r2,r3,r4,r5,r6⟩ | (go_keep; done)) (fail)
    have HJ2 : Hid (Below w1.heap.size w1 wr.drew) := HJ.out.drew
    clear HJ cA cB q0 q1 q2 q3 q4 q5 q6 r0 r1 r2 r3 r4 r5 r6
    go_wp2
    (try simp only [Exit.inBlock,Exit.then])
    exact HR.out _ _ rfl HJ2.out (fun p => by obtain ⟨u1,u2, -⟩ := HXY.out; rw [p,u2] at u1; exact HF.out (Option.some.inj u1).symm)
   subst hxy
   simp only [and_self,decide_true,Bool.not_true] at hN
   go_region_held_law (fun W => W.cell? ⟨X0,6,none⟩ = some (.slice (some ⟨g1,o1,none⟩) va.a.n va.a.c) ∧ W.cell? ⟨X1,6,none⟩ = some (.slice (some ⟨g2,o2,none⟩) vb.a.n vb.a.c) ∧ W.cell? ⟨g1,o1 + k * 7,none⟩ = some (I x.ctr) ∧ W.cell? ⟨g1,o1 + k * 7 + 1,none⟩ = some (I x.ac.kind) ∧ W.cell? ⟨g1,o1 + k * 7 + 2,none⟩ = some (I x.ac.task) ∧ W.cell? ⟨g1,o1 + k * 7 + 3,none⟩ = some (.int .u32 (x.ac.mask : Int)) ∧ W.cell? ⟨g1,o1 + k * 7 + 4,none⟩ = some (.int .u32 (x.auto : Int)) ∧ W.cell? ⟨g1,o1 + k * 7 + 5,none⟩ = some (.int .u32 (x.time : Int)) ∧ W.cell? ⟨g1,o1 + k * 7 + 6,none⟩ = some (.int .u32 (x.cycle : Int)) ∧ W.cell? ⟨g2,o2 + k * 7,none⟩ = some (I x.ctr) ∧ W.cell? ⟨g2,o2 + k * 7 + 1,none⟩ = some (I x.ac.kind) ∧ W.cell? ⟨g2,o2 + k * 7 + 2,none⟩ = some (I x.ac.task) ∧ W.cell? ⟨g2,o2 + k * 7 + 3,none⟩ = some (.int .u32 (x.ac.mask : Int)) ∧ W.cell? ⟨g2,o2 + k * 7 + 4,none⟩ = some (.int .u32 (x.auto : Int)) ∧ W.cell? ⟨g2,o2 + k * 7 + 5,none⟩ = some (.int .u32 (x.time : Int)) ∧ W.cell? ⟨g2,o2 + k * 7 + 6,none⟩ = some (.int .u32 (x.cycle : Int))) (first | exact ⟨cA,cB,q0,q1,q2,q3,q4,q5,q6,r0,r1,r2,r3,r4,r5,r6⟩ | (go_keep; done)) (fail)
   have HJ2 : Hid (Below w1.heap.size w1 wr.drew) := HJ.out.drew
   clear HJ cA cB q0 q1 q2 q3 q4 q5 q6 r0 r1 r2 r3 r4 r5 r6
   go_wp2
   go_roundw
   case rel =>
    refine ⟨k + 1,by omega,by go_num,HJ2.out, ?_⟩
    obtain ⟨u1,u2,u3⟩ := HXY.out
    rw [qbg u1,qbg u2,u3]
   case measure => simp [intOf]; omega
  ·obtain rfl : k = va.a.n := by omega
   have hge : ¬ ((va.a.n : Int) < va.a.n) := by omega
   clear cB
   have HE : Hid (ta.als = tb.als) := by
    have u := HJP.out.2
    have l1 := (HT.out wr HJ.out).1.a.n
    have l2 := (HT.out wr HJ.out).2.a.n
    have l3 := HLN.out
    rw [List.take_of_length_le (by omega),List.take_of_length_le (by omega)] at u
    exact u
   clear HJP
   go_wp2
   (try simp only [Exit.inBlock,Exit.then])
   exact HK.out _ _ rfl rfl rfl HJ.out HE.out
theorem qoz {w1 : World} {X0 X1 : Nat} {ta tb : Tb} {va vb : Ts} (HS : Hid (∀ W,Below w1.heap.size w1 W → W.cell? ⟨X0,8,none⟩ = some (.slice va.s.a va.s.n va.s.c) ∧ W.cell? ⟨X1,8,none⟩ = some (.slice vb.s.a vb.s.n vb.s.c))) (HT : Hid (∀ W,Below w1.heap.size w1 W → TbAt W ta va ∧ TbAt W tb vb)) (HLN : Hid (va.s.n = vb.s.n)) : Seg 8 X0 X1 w1 (ta.msgs = tb.msgs) := by
 intro N R T vs w hT h2 h3 hb hK hR
 have HK : Hid _ := hK
 have HR : Hid _ := hR
 clear hK hR
 rw [qck T hT]
 simp only [rng,List.map_cons,List.map_nil,show tk T 2 = _ from h2,show tk T 3 = _ from h3]
 clear h2 h3 hT
 generalize tk T = tt
 conv => arg 2; whnf
 go_wp2
 have HI : Hid (Below w1.heap.size w1 w ∧ ta.msgs.take 0 = tb.msgs.take 0) := ⟨hb,rfl⟩
 clear hb
 go_loopw [15] (fun v15 wr => ∃ k : Nat,k ≤ va.s.n ∧ v15 = I k ∧ Hid (Below w1.heap.size w1 wr ∧ ta.msgs.take k = tb.msgs.take k)) (fun v15 _ => va.s.n - (intOf v15).toNat)
 case atStart => exact ⟨0,by omega,rfl,HI.out⟩
 case round =>
  clear HI
  obtain ⟨k,hk,rfl,HJP⟩ := hrel
  have HJ : Hid (Below w1.heap.size w1 wr) := HJP.out.1
  obtain ⟨cA,cB⟩ := HS.out wr HJ.out
  by_cases hlt : k < va.s.n
  ·skip
   have hltI : (k : Int) < va.s.n := by omega
   have hltJ : (k : Int) < vb.s.n := by have := HLN.out; omega
   have hk1 : k < ta.msgs.length := by have := (HT.out wr HJ.out).1.s.n; omega
   have hk2 : k < tb.msgs.length := by have := (HT.out wr HJ.out).2.s.n; have := HLN.out; omega
   have hmx : va.s.n ≤ maxLen := Nat.le_trans (HT.out wr HJ.out).1.s.c (HT.out wr HJ.out).1.s.m
   unfold maxLen at hmx
   have HXY : Hid (ta.msgs[k]? = some ta.msgs[k] ∧ tb.msgs[k]? = some tb.msgs[k] ∧ ta.msgs.take k = tb.msgs.take k) := ⟨List.getElem?_eq_getElem hk1,List.getElem?_eq_getElem hk2,HJP.out.2⟩
   obtain ⟨g1,o1,e1,q0,q1,q2,q3,q4,q5,q6,q7⟩ := atMs (HT.out wr HJ.out).1.s hk1 (Below.refl wr.heap.size wr)
   obtain ⟨g2,o2,e2,r0,r1,r2,r3,r4,r5,r6,r7⟩ := atMs (HT.out wr HJ.out).2.s hk2 (Below.refl wr.heap.size wr)
   rw [e1] at cA
   rw [e2] at cB
   have hN := fun W => qlc W ta.msgs[k] tb.msgs[k]
   generalize ta.msgs[k] = x at *
   generalize tb.msgs[k] = y at *
   clear hk1 hk2 e1 e2 HJP
   go_upto_region 38 with fail
   by_cases hxy : x = y
   case neg =>
    have hdn : decide (x.kind = y.kind ∧ x.len = y.len ∧ x.frm = y.frm ∧ x.init = y.init ∧ x.queue = y.queue ∧ x.ac.kind = y.ac.kind ∧ x.ac.task = y.ac.task ∧ x.ac.mask = y.ac.mask) = false := by rw [decide_eq_false_iff_not]; intro h; apply hxy; obtain ⟨x0,x1,x2,x3,x4,⟨x5,x6,x7⟩⟩ := x; obtain ⟨y0,y1,y2,y3,y4,⟨y5,y6,y7⟩⟩ := y; simp_all
    simp only [hdn,Bool.not_false] at hN
    clear hdn
    have HF : Hid (¬ x = y) := hxy
    clear hxy
    go_region_held_law (fun W => W.cell? ⟨X0,8,none⟩ = some (.slice (some ⟨g1,o1,none⟩) va.s.n va.s.c) ∧ W.cell? ⟨X1,8,none⟩ = some (.slice (some ⟨g2,o2,none⟩) vb.s.n vb.s.c) ∧ W.cell? ⟨g1,o1 + k * 8,none⟩ = some (I x.kind) ∧ W.cell? ⟨g1,o1 + k * 8 + 1,none⟩ = some (I x.len) ∧ W.cell? ⟨g1,o1 + k * 8 + 2,none⟩ = some (I x.frm) ∧ W.cell? ⟨g1,o1 + k * 8 + 3,none⟩ = some (.int .u64 (x.init : Int)) ∧ W.cell? ⟨g1,o1 + k * 8 + 4,none⟩ = some (I x.queue) ∧ W.cell? ⟨g1,o1 + k * 8 + 5,none⟩ = some (I x.ac.kind) ∧ W.cell? ⟨g1,o1 + k * 8 + 6,none⟩ = some (I x.ac.task) ∧ W.cell? ⟨g1,o1 + k * 8 + 7,none⟩ = some (.int .u32 (x.ac.mask : Int)) ∧ W.cell? ⟨g2,o2 + k * 8,none⟩ = some (I y.kind) ∧ W.cell? ⟨g2,o2 + k * 8 + 1,none⟩ = some (I y.len) ∧ W.cell? ⟨g2,o2 + k * 8 + 2,none⟩ = some (I y.frm) ∧ W.cell? ⟨g2,o2 + k * 8 + 3,none⟩ = some (.int .u64 (y.init : Int)) ∧ W.cell? ⟨g2,o2 + k * 8 + 4,none⟩ = some (I y.queue) ∧ W.cell? ⟨g2,o2 + k * 8 + 5,none⟩ = some (I y.ac.kind) ∧ W.cell? ⟨g2,o2 + k * 8 + 6,none⟩ = some (I y.ac.task) ∧ W.cell? ⟨g2,o2 + k * 8 + 7,none⟩ = some (.int .u32 (y.ac.mask : Int))) (first | exact ⟨cA,cB,q0,q1,q2,q3,q4,q5,q6,q7,r0,r1,r2,r3,r4,r5,r6,r7⟩ | (go_keep; done)) (fail)
    have HJ2 : Hid (Below w1.heap.size w1 wr.drew) := HJ.out.drew
    clear HJ cA cB q0 q1 q2 q3 q4 q5 q6 q7 r0 r1 r2 r3 r4 r5 r6 r7
    go_wp2
    (try simp only [Exit.inBlock,Exit.then])
    exact HR.out _ _ rfl HJ2.out (fun p => by obtain ⟨u1,u2, -⟩ := HXY.out; rw [p,u2] at u1; exact HF.out (Option.some.inj u1).symm)
   subst hxy
   simp only [and_self,decide_true,Bool.not_true] at hN
   go_region_held_law (fun W => W.cell? ⟨X0,8,none⟩ = some (.slice (some ⟨g1,o1,none⟩) va.s.n va.s.c) ∧ W.cell? ⟨X1,8,none⟩ = some (.slice (some ⟨g2,o2,none⟩) vb.s.n vb.s.c) ∧ W.cell? ⟨g1,o1 + k * 8,none⟩ = some (I x.kind) ∧ W.cell? ⟨g1,o1 + k * 8 + 1,none⟩ = some (I x.len) ∧ W.cell? ⟨g1,o1 + k * 8 + 2,none⟩ = some (I x.frm) ∧ W.cell? ⟨g1,o1 + k * 8 + 3,none⟩ = some (.int .u64 (x.init : Int)) ∧ W.cell? ⟨g1,o1 + k * 8 + 4,none⟩ = some (I x.queue) ∧ W.cell? ⟨g1,o1 + k * 8 + 5,none⟩ = some (I x.ac.kind) ∧ W.cell? ⟨g1,o1 + k * 8 + 6,none⟩ = some (I x.ac.task) ∧ W.cell? ⟨g1,o1 + k * 8 + 7,none⟩ = some (.int .u32 (x.ac.mask : Int)) ∧ W.cell? ⟨g2,o2 + k * 8,none⟩ = some (I x.kind) ∧ W.cell? ⟨g2,o2 + k * 8 + 1,none⟩ = some (I x.len) ∧ W.cell? ⟨g2,o2 + k * 8 + 2,none⟩ = some (I x.frm) ∧ W.cell? ⟨g2,o2 + k * 8 + 3,none⟩ = some (.int .u64 (x.init : Int)) ∧ W.cell? ⟨g2,o2 + k * 8 + 4,none⟩ = some (I x.queue) ∧ W.cell? ⟨g2,o2 + k * 8 + 5,none⟩ = some (I x.ac.kind) ∧ W.cell? ⟨g2,o2 + k * 8 + 6,none⟩ = some (I x.ac.task) ∧ W.cell? ⟨g2,o2 + k * 8 + 7,none⟩ = some (.int .u32 (x.ac.mask : Int))) (first | exact ⟨cA,cB,q0,q1,q2,q3,q4,q5,q6,q7,r0,r1,r2,r3,r4,r5,r6,r7⟩ | (go_keep; done)) (fail)
   have HJ2 : Hid (Below w1.heap.size w1 wr.drew) := HJ.out.drew
   clear HJ cA cB q0 q1 q2 q3 q4 q5 q6 q7 r0 r1 r2 r3 r4 r5 r6 r7
   go_wp2
   go_roundw
   case rel =>
    refine ⟨k + 1,by omega,by go_num,HJ2.out, ?_⟩
    obtain ⟨u1,u2,u3⟩ := HXY.out
    rw [qbg u1,qbg u2,u3]
   case measure => simp [intOf]; omega
  ·obtain rfl : k = va.s.n := by omega
   have hge : ¬ ((va.s.n : Int) < va.s.n) := by omega
   clear cB
   have HE : Hid (ta.msgs = tb.msgs) := by
    have u := HJP.out.2
    have l1 := (HT.out wr HJ.out).1.s.n
    have l2 := (HT.out wr HJ.out).2.s.n
    have l3 := HLN.out
    rw [List.take_of_length_le (by omega),List.take_of_length_le (by omega)] at u
    exact u
   clear HJP
   go_wp2
   (try simp only [Exit.inBlock,Exit.then])
   exact HK.out _ _ rfl rfl rfl HJ.out HE.out
end Go.Proofs.YtijgopkhdjaolaaGreat
