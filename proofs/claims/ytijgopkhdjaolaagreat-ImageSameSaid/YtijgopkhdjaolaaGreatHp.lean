import Derived.Test.YtijgopkhdjaolaaGreatHo
namespace Go.Proofs.YtijgopkhdjaolaaGreat
open Go.RowKit Go.Shelf Go.Sort
set_option linter.unusedSimpArgs false
set_option linter.unusedVariables false
set_option maxHeartbeats 16000000
set_option maxRecDepth 100000
theorem qof {x y : IsR} (h : x.cat = y.cat ∧ x.prio = y.prio ∧ x.own = y.own) : x = y := by
 obtain ⟨a0,a1,a2⟩ := x
 obtain ⟨b0,b1,b2⟩ := y
 simpa [and_assoc] using h
theorem eqIs (w : World) (ta tb : Tb) (va vb : Ts) (hA : TbAt w ta va) (hB : TbAt w tb vb) : Calls Tryz.prog 46 #[slT va.i,slT vb.i, .func (.func 47) #[] #[]] w fun e w' => Says e (ta.isrs = tb.isrs) ∧ Below w.heap.size w w' := by
 have hn1 : Hid (va.i.n = ta.isrs.length) := hA.i.n
 have hn2 : Hid (vb.i.n = tb.isrs.length) := hB.i.n
 have hm1 : va.i.n ≤ maxLen := Nat.le_trans hA.i.c hA.i.m
 unfold maxLen at hm1
 have HA : Hid (TbAt w ta va) := hA
 have HB : Hid (TbAt w tb vb) := hB
 clear hA hB
 generalize hva : va.i = v1 at *
 generalize hvb : vb.i = v2 at *
 obtain ⟨a1,n1,c1⟩ := v1
 obtain ⟨a2,n2,c2⟩ := v2
 have HVA : Hid (va.i = ⟨a1,n1,c1⟩) := hva
 have HVB : Hid (vb.i = ⟨a2,n2,c2⟩) := hvb
 clear hva hvb
 dsimp only at *
 show Calls _ _ #[.slice a1 n1 c1, .slice a2 n2 c2,_] _ _
 by_cases hl : n1 = n2
 ·subst hl
  go_enter Tryz.func46,Tryz.ntmps46
  go_wp2
  go_loopw [7,8,9,17] (fun _ _ _ v17 wr => ∃ k : Nat,k ≤ n1 ∧ v17 = I k ∧ Hid (ta.isrs.take k = tb.isrs.take k ∧ Below w.heap.size w wr)) (fun _ _ _ v17 _ => n1 - (intOf v17).toNat)
  case atStart => exact ⟨0,by omega,rfl,by simp,Below.refl _ _⟩
  case round =>
   obtain ⟨k,hk,rfl,HJ⟩ := hrel
   by_cases hlt : k < n1
   ·have hltI : (k : Int) < n1 := by omega
    have hk1 : k < ta.isrs.length := by rw [← hn1.out]; exact hlt
    have hk2 : k < tb.isrs.length := by rw [← hn2.out]; exact hlt
    obtain ⟨x,hx⟩ : ∃ x,x = ta.isrs[k] := ⟨_,rfl⟩
    obtain ⟨y,hy⟩ : ∃ y,y = tb.isrs[k] := ⟨_,rfl⟩
    have hxj : ta.isrs[k]? = some x := by rw [hx]; exact List.getElem?_eq_getElem hk1
    have hyj : tb.isrs[k]? = some y := by rw [hy]; exact List.getElem?_eq_getElem hk2
    obtain ⟨g1,o1,s1,e1, -,x0,x1,x2,r1⟩ := qdc (HA.out.below HJ.out.2) hxj
    have hb1 := qa0 wr (.cells #[I x.cat,I x.prio, .slice s1.a s1.n s1.c] 87)
    obtain ⟨g2,o2,s2,e2, -,y0,y1,y2,r2⟩ := qdc (HB.out.below (belT HJ.out.2 hb1)) hyj
    have hb2 := qa0 (wr.alloc (.cells #[I x.cat,I x.prio, .slice s1.a s1.n s1.c] 87)) (.cells #[I y.cat,I y.prio, .slice s2.a s2.n s2.c] 87)
    have hS := qh8 _ x y s1 s2 (r1.below (belT hb1 hb2) (fun _ _ _ _ h => h)) (r2.below hb2 (fun _ _ _ _ h => h))
    have HB2 : Hid (Below w.heap.size w ((wr.alloc (.cells #[I x.cat,I x.prio, .slice s1.a s1.n s1.c] 87)).alloc (.cells #[I y.cat,I y.prio, .slice s2.a s2.n s2.c] 87))) := belT HJ.out.2 (belT hb1 hb2)
    have e1' : a1 = some ⟨g1,o1,none⟩ := by have := e1; rw [HVA.out] at this; exact this
    have e2' : a2 = some ⟨g2,o2,none⟩ := by have := e2; rw [HVB.out] at this; exact this
    have HX : Hid (x = y → ta.isrs.take (k + 1) = tb.isrs.take (k + 1)) := fun e => qcm hk1 hk2 HJ.out.1 (by rw [← hx, ← hy,e])
    have HY : Hid (¬ x = y → ¬ ta.isrs = tb.isrs) := fun hne e => hne (by rw [e] at hxj; exact Option.some.inj (hxj.symm.trans hyj))
    clear e1 e2 hx hy hxj hyj hk1 hk2 HJ r1 r2 hb1 hb2
    subst e1' e2'
    by_cases hx : x.cat = y.cat ∧ x.prio = y.prio ∧ x.own = y.own
    ·have HT := HX.out (qof hx)
     have HT' : Hid (ta.isrs.take (k + 1) = tb.isrs.take (k + 1)) := HT
     rw [decide_eq_true hx] at hS
     clear HT hx HX HY
     go_wp2_with (first | (go_at_call 47; refine hS.mono ?_; clear hS; rintro e w2 ⟨rfl,b2⟩; have B2 : Hid (Below w.heap.size w w2) := belT HB2.out b2; clear b2 HB2))
     go_roundw
     case rel => exact ⟨k + 1,by omega,by go_num,HT'.out,B2.out⟩
     case measure => simp [intOf]; omega
    ·have HN : Hid (¬ ta.isrs = tb.isrs) := HY.out (fun e => hx (by subst e; simp))
     rw [decide_eq_false hx] at hS
     clear hx HX HY
     go_wp2_with (first | (go_at_call 47; refine hS.mono ?_; clear hS; rintro e w2 ⟨rfl,b2⟩; have B2 : Hid (Below w.heap.size w w2) := belT HB2.out b2; clear b2 HB2))
     go_ret
     exact ⟨⟨false,rfl,by simp [HN.out]⟩,B2.out⟩
   ·obtain rfl : k = n1 := by omega
    have hge : ¬ ((k : Int) < k) := by omega
    have HE : Hid (ta.isrs = tb.isrs ∧ Below w.heap.size w wr) := ⟨by have := HJ.out.1; rwa [show ta.isrs.take k = ta.isrs by rw [hn1.out]; exact List.take_length,show tb.isrs.take k = tb.isrs by rw [hn2.out]; exact List.take_length] at this,HJ.out.2⟩
    clear HJ
    go_wp2
    go_ret
    exact ⟨⟨true,rfl,by simp [HE.out.1]⟩,HE.out.2⟩
 ·have hlI : ¬ ((n1 : Int) = n2) := by omega
  have HN : Hid (¬ ta.isrs = tb.isrs) := fun e => hl (by rw [hn1.out,hn2.out,e])
  go_enter Tryz.func46,Tryz.ntmps46
  go_wp2
  go_ret
  exact ⟨⟨false,rfl,by simp [HN.out]⟩,Below.refl _ _⟩
theorem qog {x y : TkR} (h : x.prio = y.prio ∧ x.ring = y.ring ∧ x.full = y.full ∧ x.limit = y.limit ∧ x.mask = y.mask ∧ x.inner = y.inner ∧ x.own = y.own ∧ x.auto = y.auto) : x = y := by
 obtain ⟨a0,a1,a2,a3,a4,a5,a6,a7⟩ := x
 obtain ⟨b0,b1,b2,b3,b4,b5,b6,b7⟩ := y
 simpa [and_assoc] using h
theorem eqTk (w : World) (ta tb : Tb) (va vb : Ts) (hA : TbAt w ta va) (hB : TbAt w tb vb) : Calls Tryz.prog 40 #[slT va.t,slT vb.t, .func (.func 41) #[] #[]] w fun e w' => Says e (ta.tasks = tb.tasks) ∧ Below w.heap.size w w' := by
 have hn1 : Hid (va.t.n = ta.tasks.length) := hA.t.n
 have hn2 : Hid (vb.t.n = tb.tasks.length) := hB.t.n
 have hm1 : va.t.n ≤ maxLen := Nat.le_trans hA.t.c hA.t.m
 unfold maxLen at hm1
 have HA : Hid (TbAt w ta va) := hA
 have HB : Hid (TbAt w tb vb) := hB
 clear hA hB
 generalize hva : va.t = v1 at *
 generalize hvb : vb.t = v2 at *
 obtain ⟨a1,n1,c1⟩ := v1
 obtain ⟨a2,n2,c2⟩ := v2
 have HVA : Hid (va.t = ⟨a1,n1,c1⟩) := hva
 have HVB : Hid (vb.t = ⟨a2,n2,c2⟩) := hvb
 clear hva hvb
 dsimp only at *
 show Calls _ _ #[.slice a1 n1 c1, .slice a2 n2 c2,_] _ _
 by_cases hl : n1 = n2
 ·subst hl
  go_enter Tryz.func40,Tryz.ntmps40
  go_wp2
  go_loopw [7,8,9,17] (fun _ _ _ v17 wr => ∃ k : Nat,k ≤ n1 ∧ v17 = I k ∧ Hid (ta.tasks.take k = tb.tasks.take k ∧ Below w.heap.size w wr)) (fun _ _ _ v17 _ => n1 - (intOf v17).toNat)
  case atStart => exact ⟨0,by omega,rfl,by simp,Below.refl _ _⟩
  case round =>
   obtain ⟨k,hk,rfl,HJ⟩ := hrel
   by_cases hlt : k < n1
   ·have hltI : (k : Int) < n1 := by omega
    have hk1 : k < ta.tasks.length := by rw [← hn1.out]; exact hlt
    have hk2 : k < tb.tasks.length := by rw [← hn2.out]; exact hlt
    obtain ⟨x,hx⟩ : ∃ x,x = ta.tasks[k] := ⟨_,rfl⟩
    obtain ⟨y,hy⟩ : ∃ y,y = tb.tasks[k] := ⟨_,rfl⟩
    have hxj : ta.tasks[k]? = some x := by rw [hx]; exact List.getElem?_eq_getElem hk1
    have hyj : tb.tasks[k]? = some y := by rw [hy]; exact List.getElem?_eq_getElem hk2
    obtain ⟨g1,o1,s1,e1, -,x0,x1,x2,x3,x4,x5,x6,x7,r1⟩ := qdb (HA.out.below HJ.out.2) hxj
    have hb1 := qa0 wr (.cells #[I x.prio,I x.ring, .bool x.full,I x.limit, .int .u32 (x.mask : Int),I x.inner, .slice s1.a s1.n s1.c, .int .u32 (x.auto : Int)] 61)
    obtain ⟨g2,o2,s2,e2, -,y0,y1,y2,y3,y4,y5,y6,y7,r2⟩ := qdb (HB.out.below (belT HJ.out.2 hb1)) hyj
    have hb2 := qa0 (wr.alloc (.cells #[I x.prio,I x.ring, .bool x.full,I x.limit, .int .u32 (x.mask : Int),I x.inner, .slice s1.a s1.n s1.c, .int .u32 (x.auto : Int)] 61)) (.cells #[I y.prio,I y.ring, .bool y.full,I y.limit, .int .u32 (y.mask : Int),I y.inner, .slice s2.a s2.n s2.c, .int .u32 (y.auto : Int)] 61)
    have hS := qgt _ x y s1 s2 (r1.below (belT hb1 hb2) (fun _ _ _ _ h => h)) (r2.below hb2 (fun _ _ _ _ h => h))
    have HB2 : Hid (Below w.heap.size w ((wr.alloc (.cells #[I x.prio,I x.ring, .bool x.full,I x.limit, .int .u32 (x.mask : Int),I x.inner, .slice s1.a s1.n s1.c, .int .u32 (x.auto : Int)] 61)).alloc (.cells #[I y.prio,I y.ring, .bool y.full,I y.limit, .int .u32 (y.mask : Int),I y.inner, .slice s2.a s2.n s2.c, .int .u32 (y.auto : Int)] 61))) := belT HJ.out.2 (belT hb1 hb2)
    have e1' : a1 = some ⟨g1,o1,none⟩ := by have := e1; rw [HVA.out] at this; exact this
    have e2' : a2 = some ⟨g2,o2,none⟩ := by have := e2; rw [HVB.out] at this; exact this
    have HX : Hid (x = y → ta.tasks.take (k + 1) = tb.tasks.take (k + 1)) := fun e => qcm hk1 hk2 HJ.out.1 (by rw [← hx, ← hy,e])
    have HY : Hid (¬ x = y → ¬ ta.tasks = tb.tasks) := fun hne e => hne (by rw [e] at hxj; exact Option.some.inj (hxj.symm.trans hyj))
    clear e1 e2 hx hy hxj hyj hk1 hk2 HJ r1 r2 hb1 hb2
    subst e1' e2'
    by_cases hx : x.prio = y.prio ∧ x.ring = y.ring ∧ x.full = y.full ∧ x.limit = y.limit ∧ x.mask = y.mask ∧ x.inner = y.inner ∧ x.own = y.own ∧ x.auto = y.auto
    ·have HT := HX.out (qog hx)
     have HT' : Hid (ta.tasks.take (k + 1) = tb.tasks.take (k + 1)) := HT
     rw [decide_eq_true hx] at hS
     clear HT hx HX HY
     go_wp2_with (first | (go_at_call 41; refine hS.mono ?_; clear hS; rintro e w2 ⟨rfl,b2⟩; have B2 : Hid (Below w.heap.size w w2) := belT HB2.out b2; clear b2 HB2))
     go_roundw
     case rel => exact ⟨k + 1,by omega,by go_num,HT'.out,B2.out⟩
     case measure => simp [intOf]; omega
    ·have HN : Hid (¬ ta.tasks = tb.tasks) := HY.out (fun e => hx (by subst e; simp))
     rw [decide_eq_false hx] at hS
     clear hx HX HY
     go_wp2_with (first | (go_at_call 41; refine hS.mono ?_; clear hS; rintro e w2 ⟨rfl,b2⟩; have B2 : Hid (Below w.heap.size w w2) := belT HB2.out b2; clear b2 HB2))
     go_ret
     exact ⟨⟨false,rfl,by simp [HN.out]⟩,B2.out⟩
   ·obtain rfl : k = n1 := by omega
    have hge : ¬ ((k : Int) < k) := by omega
    have HE : Hid (ta.tasks = tb.tasks ∧ Below w.heap.size w wr) := ⟨by have := HJ.out.1; rwa [show ta.tasks.take k = ta.tasks by rw [hn1.out]; exact List.take_length,show tb.tasks.take k = tb.tasks by rw [hn2.out]; exact List.take_length] at this,HJ.out.2⟩
    clear HJ
    go_wp2
    go_ret
    exact ⟨⟨true,rfl,by simp [HE.out.1]⟩,HE.out.2⟩
 ·have hlI : ¬ ((n1 : Int) = n2) := by omega
  have HN : Hid (¬ ta.tasks = tb.tasks) := fun e => hl (by rw [hn1.out,hn2.out,e])
  go_enter Tryz.func40,Tryz.ntmps40
  go_wp2
  go_ret
  exact ⟨⟨false,rfl,by simp [HN.out]⟩,Below.refl _ _⟩
end Go.Proofs.YtijgopkhdjaolaaGreat
