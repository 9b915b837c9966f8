import Derived.Test.YtmidaeljeoifdaaGreatDoorXKtf
import Derived.Test.YtmidaeljeoifdaaGreatDoorXKsc
import Derived.Test.YtmidaeljeoifdaaGreatDoorXKvi
import Derived.Test.YtmidaeljeoifdaaGreatDoorXKlb
import Derived.Test.YtmidaeljeoifdaaGreatDoorKtb
namespace Go.Proofs.YtmidaeljeoifdaaGreatDoor
open Go.RowKit
set_option linter.unusedSimpArgs false
set_option linter.unusedVariables false
set_option maxHeartbeats 16000000
set_option maxRecDepth 100000
theorem qtx (w : World) (c : Cf) (v : Vs) (h : CfAt w c v) (i : Nat) (x : Ms) (hi : c.msgs[i]? = some x) (hk : x.kind = 3) (hsz : x.ac.name.length < 9223372036854775808) :
  Calls Tryz.prog 166 #[.agg (cfC c v),I i] w fun e w' => e = .returned (I (msgE c x)) ∧ Below w.heap.size w w' := by
 have hn : v.s.n = c.msgs.length := h.s.n
 have hlt : (i : Int) < v.s.n := by have := (List.getElem?_eq_some_iff.1 hi).1; omega
 obtain ⟨g,off,e,hg,a0,a1,a2,a3,a4,a5,a6,a7,a8,a9⟩ := qbz h hi
 have hne : g ≠ w.heap.size := by omega
 have hgl : g < w.heap.size + 1 := by omega
 have hne1 : g ≠ w.heap.size + 1 := by omega
 have hb := qa0 w
 have hb2 := fun o o' => (hb o).trans ((qa0 (w.alloc o) o').mono (hb o).size)
 have HN : Hid (v.s.n = c.msgs.length) := h.s.n
 have hi18 : (Tryz.prog.info? 47).map (·.size) = some (cfC c v).size := by rw [show (cfC c v).size = 18 from rfl]; kernel_rfl
 have ka := fun W (hW : Below w.heap.size w W) => qdy W c v (h.below hW) x.ac 0 4 hsz
 have HC : Hid (CfAt w c v) := h
 have HE17 : Hid (v.s.a = some ⟨g,off,none⟩) := e
 have f17 : ∀ h : 17 < (cfC c v).size,(cfC c v)[17] = .slice v.s.a v.s.n v.s.c := fun _ => rfl
 have hs18 : (cfC c v).size = 18 := rfl
 generalize cfC c v = C at *
 replace f17 := f17 (by omega)
 rw [e] at f17
 have hst : (storeCells ⟨w.heap.size + 1,0,none⟩ #[S x.name,I x.kind,I x.len,I x.frm, .int .u64 (x.init : Int),I x.queue,I x.ac.kind,I x.ac.task,I x.ac.event,S x.ac.name].toList 0).run Tryz.prog ((w.alloc (.cells C 47)).alloc (.cells #[.string ⟨#[]⟩, .int .i64 0, .int .i64 0, .int .i64 0, .int .u64 0, .int .i64 0, .int .i64 0, .int .i64 0, .int .i64 0, .string ⟨#[]⟩] 114)) = .ok () ((w.alloc (.cells C 47)).alloc (.cells #[S x.name,I x.kind,I x.len,I x.frm, .int .u64 (x.init : Int),I x.queue,I x.ac.kind,I x.ac.task,I x.ac.event,S x.ac.name] 114)) := by
  have := run_storeCells_new (P := Tryz.prog) (w.alloc (.cells C 47)) 114 #[.string ⟨#[]⟩, .int .i64 0, .int .i64 0, .int .i64 0, .int .u64 0, .int .i64 0, .int .i64 0, .int .i64 0, .int .i64 0, .string ⟨#[]⟩] #[S x.name,I x.kind,I x.len,I x.frm, .int .u64 (x.init : Int),I x.queue,I x.ac.kind,I x.ac.task,I x.ac.event,S x.ac.name] (by kernel_rfl) rfl (by simp [Value.oneCell'])
  rwa [show (w.alloc (.cells C 47)).heap.size = w.heap.size + 1 by simp] at this
 obtain ⟨R,hR⟩ : ∃ R,R = msgE c x := ⟨_,rfl⟩
 rw [← hR]
 unfold msgE at hR
 rw [← HN.out] at hR
 have HR : Hid (R = _) := hR
 have HbW : Hid (Below w.heap.size w ((w.alloc (.cells C 47)).alloc (.cells #[S x.name,I x.kind,I x.len,I x.frm, .int .u64 (x.init : Int),I x.queue,I x.ac.kind,I x.ac.task,I x.ac.event,S x.ac.name] 114))) := hb2 _ _
 clear hR hi hn
 have HKA0 : Hid (∀ W,Below w.heap.size w W → Calls Tryz.prog 211 #[.agg C, .agg #[I x.ac.kind,I x.ac.task,I x.ac.event,S x.ac.name],I 0,I 4] W fun e w' => e = .returned (I (actE c x.ac 0 4)) ∧ Below W.heap.size W w') := ka
 obtain ⟨ec,hec⟩ : ∃ q,q = actE c x.ac 0 4 := ⟨_,rfl⟩
 have HKA : Hid (∀ W,Below w.heap.size w W → Calls Tryz.prog 211 #[.agg C, .agg #[I x.ac.kind,I x.ac.task,I x.ac.event,S x.ac.name],I 0,I 4] W fun e w' => e = .returned (I ec) ∧ Below W.heap.size W w') := by rw [hec]; exact HKA0
 clear HKA0 ka
 have hV2 := qar w (.cells C 47) (.cells #[S x.name,I x.kind,I x.len,I x.frm, .int .u64 (x.init : Int),I x.queue,I x.ac.kind,I x.ac.task,I x.ac.event,S x.ac.name] 114)
 have HR0 : Hid (R = if (x.len == 0 && (x.init : Int) == 0 && inR x.queue 1 16) = false then 74 else if (isId x.frm v.s.n && qcn c x.frm == 1) = false then 73 else if (decide ((x.init : Int) ≤ 4294967295) && fitI x.init (mlen c x.frm)) = false then 74 else ec) := by
  show _ = _
  rw [HR.out,hec,show msgF x = (x.len == 0 && (x.init : Int) == 0 && inR x.queue 1 16) by rw [msgF,hk]; rfl,hk]
  rfl
 clear HR h e hec
 rw [hk] at a1 hst HbW hV2
 clear hk
 obtain ⟨ini,hini⟩ : ∃ n : Int,n = (x.init : Int) := ⟨_,rfl⟩
 have HI : Hid ((x.init : Int) = ini) := hini.symm
 rw [← hini] at a4 hst HbW hV2 HR0
 clear hini
 cases hl : x.len == 0 with
 | false =>
  have hl' : (x.len != 0) = true := by simp only [bne,hl]; rfl
  have HE : Hid (R = 74) := by show _ = _; rw [HR0.out,hl]; rfl
  clear HR0 HKA
  go_enter Tryz.func166,Tryz.ntmps166
  go_wp2
  go_ret
  exact ⟨qa3 HE.out.symm,HbW.out⟩
 | true =>
  have hl' : (x.len != 0) = false := by simp only [bne,hl]; rfl
  rw [hl,Bool.true_and] at HR0
  cases hn0 : ini == 0 with
  | false =>
   have hn0' : (ini != 0) = true := by simp only [bne,hn0]; rfl
   have HE : Hid (R = 74) := by show _ = _; rw [HR0.out,hn0]; rfl
   clear HR0 HKA
   go_enter Tryz.func166,Tryz.ntmps166
   go_wp2
   go_ret
   exact ⟨qa3 HE.out.symm,HbW.out⟩
  | true =>
   have hn0' : (ini != 0) = false := by simp only [bne,hn0]; rfl
   rw [hn0,Bool.true_and] at HR0
   by_cases q1 : x.queue < 1
   ·have HE : Hid (R = 74) := by show _ = _; rw [HR0.out,if_pos (by simp [inR]; omega)]
    clear HR0 HKA
    go_enter Tryz.func166,Tryz.ntmps166
    go_wp2
    go_ret
    exact ⟨qa3 HE.out.symm,HbW.out⟩
   ·by_cases q2 : x.queue > 16
    ·have HE : Hid (R = 74) := by show _ = _; rw [HR0.out,if_pos (by simp [inR]; omega)]
     clear HR0 HKA
     go_enter Tryz.func166,Tryz.ntmps166
     go_wp2
     go_ret
     exact ⟨qa3 HE.out.symm,HbW.out⟩
    ·rw [if_neg (by simp [inR]; omega)] at HR0
     have HR : Hid (R = _) := HR0.out
     clear HR0
     have hA : x.frm < 0 ∨ (¬ x.frm < 0 ∧ x.frm ≥ v.s.n) ∨ (0 ≤ x.frm ∧ x.frm < v.s.n) := by omega
     rcases hA with p1 | ⟨p1,p2⟩ | ⟨p1,p2⟩
     ·have HE : Hid (R = 73) := by show _ = _; rw [HR.out,if_pos (by simp [isId]; omega)]
      clear HR HKA
      go_enter Tryz.func166,Tryz.ntmps166
      go_wp2
      go_ret
      exact ⟨qa3 HE.out.symm,HbW.out⟩
     ·have HE : Hid (R = 73) := by show _ = _; rw [HR.out,if_pos (by simp [isId]; omega)]
      clear HR HKA
      go_enter Tryz.func166,Tryz.ntmps166
      go_wp2
      go_ret
      exact ⟨qa3 HE.out.symm,HbW.out⟩
     ·obtain ⟨q,hq⟩ := Int.eq_ofNat_of_zero_le p1
      have hqn : (q : Int) < v.s.n := by omega
      have hq0 : ¬ (q : Int) < 0 := by omega
      have hq1 : ¬ (q : Int) ≥ v.s.n := by omega
      obtain ⟨y,hy⟩ : ∃ y,c.msgs[q]? = some y := ⟨_,List.getElem?_eq_getElem (by have := HN.out; omega)⟩
      obtain ⟨g',off',e',hg',b0,b1,b2,b3,b4,b5,b6,b7,b8,b9⟩ := qbz HC.out hy
      rw [HE17.out] at e'
      obtain ⟨rfl,rfl⟩ : g = g' ∧ off = off' := by cases e'; exact ⟨rfl,rfl⟩
      have HR2 : Hid (R = if (y.kind == 1) = false then 73 else if (decide (ini ≤ 4294967295) && fitI x.init y.len) = false then 74 else ec) := by
       show _ = _
       rw [HR.out,hq]
       have h1 : isId (q : Int) v.s.n = true := by simp [isId]; omega
       rw [h1]
       simp [qcn,mlen,hy]
      rw [hq] at a3 hst HbW hV2
      clear HR hq hy e' p1 p2 b0 b3 b4 b5 b6 b7 b8 b9
      cases hk1 : y.kind == 1 with
      | false =>
       have hk1' : (y.kind != 1) = true := by simp only [bne,hk1]; rfl
       have HE : Hid (R = 73) := by show _ = _; rw [HR2.out,hk1]; rfl
       clear HR2 HKA
       go_enter Tryz.func166,Tryz.ntmps166
       go_wp2
       go_ret
       exact ⟨qa3 HE.out.symm,HbW.out⟩
      | true =>
       have hk1' : (y.kind != 1) = false := by simp only [bne,hk1]; rfl
       rw [if_neg (by rw [hk1]; decide)] at HR2
       by_cases h32 : ini > 4294967295
       ·have HE : Hid (R = 74) := by show _ = _; rw [HR2.out,if_pos (by simp; intro; omega)]
        clear HR2 HKA
        go_enter Tryz.func166,Tryz.ntmps166
        go_wp2
        go_ret
        exact ⟨qa3 HE.out.symm,HbW.out⟩
       ·have HR3 : Hid (R = if fitI x.init y.len = false then 74 else ec) := by
         show _ = _
         rw [HR2.out,show decide (ini ≤ 4294967295) = true by simp; omega,Bool.true_and]
        clear HR2
        by_cases h8 : y.len < 8
        ·by_cases h0 : y.len ≥ 0
         ·obtain ⟨m,hm⟩ := Int.eq_ofNat_of_zero_le h0
          have hm8 : (m : Int) < 8 := by omega
          have hm0 : (m : Int) ≥ 0 := by omega
          have HF : Hid (fitI x.init y.len = (ini / 2 ^ (8 * m) == 0)) := by show _ = _; rw [hm,qkn x.init m (by omega),HI.out]
          rw [HF.out] at HR3
          rw [hm] at b2
          clear HF h8 h0 hm
          cases hd : (ini / 2 ^ (8 * m) == 0) with
          | false =>
           have hd' : (ini / 2 ^ (8 * m) != 0) = true := by simp only [bne,hd]; rfl
           have HE : Hid (R = 74) := by show _ = _; rw [HR3.out,hd]; rfl
           clear HR3 HKA
           go_enter Tryz.func166,Tryz.ntmps166
           go_wp2
           go_ret
           exact ⟨qa3 HE.out.symm,HbW.out⟩
          | true =>
           have hd' : (ini / 2 ^ (8 * m) != 0) = false := by simp only [bne,hd]; rfl
           have HE : Hid (R = ec) := by show _ = _; rw [HR3.out,hd]; rfl
           clear HR3
           go_enter Tryz.func166,Tryz.ntmps166
           go_upto_region 15 with fail
           go_wp2_with (first | (refine wpList_load_row rfl 47 _ rfl w.heap.size rfl 47 _ (0,0) _ hV2 Tryz.underlying47 rfl hi18 ?_) | (go_at_call 211; refine (HKA.out _ HbW.out).mono ?_; rintro e w3 ⟨rfl,hB'⟩; have Hbw3 : Hid (Below w.heap.size w w3) := HbW.out.trans (hB'.mono HbW.out.size); clear hB' HKA))
           go_ret
           exact ⟨qa3 HE.out.symm,Hbw3.out⟩
         ·have HE : Hid (R = ec) := by show _ = _; rw [HR3.out,qei _ _ (.inl (by omega))]; rfl
          clear HR3
          go_enter Tryz.func166,Tryz.ntmps166
          go_upto_region 15 with fail
          go_wp2_with (first | (refine wpList_load_row rfl 47 _ rfl w.heap.size rfl 47 _ (0,0) _ hV2 Tryz.underlying47 rfl hi18 ?_) | (go_at_call 211; refine (HKA.out _ HbW.out).mono ?_; rintro e w3 ⟨rfl,hB'⟩; have Hbw3 : Hid (Below w.heap.size w w3) := HbW.out.trans (hB'.mono HbW.out.size); clear hB' HKA))
          go_ret
          exact ⟨qa3 HE.out.symm,Hbw3.out⟩
        ·have HE : Hid (R = ec) := by show _ = _; rw [HR3.out,qei _ _ (.inr (by omega))]; rfl
         clear HR3
         go_enter Tryz.func166,Tryz.ntmps166
         go_upto_region 15 with fail
         go_wp2_with (first | (refine wpList_load_row rfl 47 _ rfl w.heap.size rfl 47 _ (0,0) _ hV2 Tryz.underlying47 rfl hi18 ?_) | (go_at_call 211; refine (HKA.out _ HbW.out).mono ?_; rintro e w3 ⟨rfl,hB'⟩; have Hbw3 : Hid (Below w.heap.size w w3) := HbW.out.trans (hB'.mono HbW.out.size); clear hB' HKA))
         go_ret
         exact ⟨qa3 HE.out.symm,Hbw3.out⟩
theorem qko (w : World) (c : Cf) (v : Vs) (h : CfAt w c v) (i : Nat) (x : Ms) (hi : c.msgs[i]? = some x) (hsz : x.ac.name.length < 9223372036854775808) :
  Calls Tryz.prog 166 #[.agg (cfC c v),I i] w fun e w' => e = .returned (I (msgE c x)) ∧ Below w.heap.size w w' := by
 by_cases h1 : x.kind = 1
 ·exact qpj w c v h i x hi h1
 by_cases h2 : x.kind = 2
 ·exact qtw w c v h i x hi h2 hsz
 by_cases h3 : x.kind = 3
 ·exact qtx w c v h i x hi h3 hsz
 exact qs3 w c v h i x hi (by simp [inR]; omega)
theorem qs4 (w : World) (c : Cf) (v : Vs) (h : CfAt w c v) (i : Nat) (x : Rs) (hi : c.ress[i]? = some x) (hl : c.ress.length ≤ 8796093022208) : Calls Tryz.prog 97 #[.agg (cfC c v), .string ⟨#[82,69,83,79,85,82,67,69]⟩,I i] w fun e w' => e = .returned (I (resE c i x)) ∧ Below w.heap.size w w' := by
 have hi18 : (Tryz.prog.info? 47).map (·.size) = some (cfC c v).size := by rw [show (cfC c v).size = 18 from rfl]; kernel_rfl
 have hV0 := heap_alloc_new w (.cells (cfC c v) 47)
 have hb := qa0 w (.cells (cfC c v) 47)
 have k1 := qj5 _ c v (h.below hb) i x hi hl
 generalize cfC c v = C at *
 generalize resE c i x = R at *
 clear h hi
 go_enter Tryz.func97,Tryz.ntmps97
 go_wp2_with (first | (refine wpList_load_row rfl 47 _ rfl w.heap.size rfl 47 _ (0,0) _ hV0 Tryz.underlying47 rfl hi18 ?_) | (go_at_call 161; refine k1.mono ?_; clear k1; rintro e w1 ⟨rfl,hb1⟩))
 go_ret
 exact ⟨rfl,hb.trans (hb1.mono hb.size)⟩
theorem qpk (w : World) (c : Cf) (v : Vs) (h : CfAt w c v) (i : Nat) (x : Tk) (hi : c.tasks[i]? = some x) : Calls Tryz.prog 97 #[.agg (cfC c v), .string ⟨#[84,65,83,75]⟩,I i] w fun e w' => e = .returned (I (tskE c x)) ∧ Below w.heap.size w w' := by
 have hi18 : (Tryz.prog.info? 47).map (·.size) = some (cfC c v).size := by rw [show (cfC c v).size = 18 from rfl]; kernel_rfl
 have hV0 := heap_alloc_new w (.cells (cfC c v) 47)
 have hb := qa0 w (.cells (cfC c v) 47)
 have k1 := qpi _ c v (h.below hb) i x hi
 generalize cfC c v = C at *
 generalize tskE c x = R at *
 clear h hi
 go_enter Tryz.func97,Tryz.ntmps97
 go_wp2_with (first | (refine wpList_load_row rfl 47 _ rfl w.heap.size rfl 47 _ (0,0) _ hV0 Tryz.underlying47 rfl hi18 ?_) | (go_at_call 162; refine k1.mono ?_; clear k1; rintro e w1 ⟨rfl,hb1⟩))
 go_ret
 exact ⟨rfl,hb.trans (hb1.mono hb.size)⟩
theorem qs5 (w : World) (c : Cf) (v : Vs) (h : CfAt w c v) (i : Nat) (x : Ct) (hi : c.ctrs[i]? = some x) : Calls Tryz.prog 97 #[.agg (cfC c v), .string ⟨#[67,79,85,78,84,69,82]⟩,I i] w fun e w' => e = .returned (I (ctrE x)) ∧ Below w.heap.size w w' := by
 have hi18 : (Tryz.prog.info? 47).map (·.size) = some (cfC c v).size := by rw [show (cfC c v).size = 18 from rfl]; kernel_rfl
 have hV0 := heap_alloc_new w (.cells (cfC c v) 47)
 have hb := qa0 w (.cells (cfC c v) 47)
 have k1 := qkl _ c v (h.below hb) i x hi
 generalize cfC c v = C at *
 generalize ctrE x = R at *
 clear h hi
 go_enter Tryz.func97,Tryz.ntmps97
 go_wp2_with (first | (refine wpList_load_row rfl 47 _ rfl w.heap.size rfl 47 _ (0,0) _ hV0 Tryz.underlying47 rfl hi18 ?_) | (go_at_call 163; refine k1.mono ?_; clear k1; rintro e w1 ⟨rfl,hb1⟩))
 go_ret
 exact ⟨rfl,hb.trans (hb1.mono hb.size)⟩
theorem qs6 (w : World) (c : Cf) (v : Vs) (h : CfAt w c v) (i : Nat) (x : Al) (hi : c.als[i]? = some x) (hsz : x.ac.name.length < 9223372036854775808) : Calls Tryz.prog 97 #[.agg (cfC c v), .string ⟨#[65,76,65,82,77]⟩,I i] w fun e w' => e = .returned (I (almE c x)) ∧ Below w.heap.size w w' := by
 have hi18 : (Tryz.prog.info? 47).map (·.size) = some (cfC c v).size := by rw [show (cfC c v).size = 18 from rfl]; kernel_rfl
 have hV0 := heap_alloc_new w (.cells (cfC c v) 47)
 have hb := qa0 w (.cells (cfC c v) 47)
 have k1 := qns _ c v (h.below hb) i x hi hsz
 generalize cfC c v = C at *
 generalize almE c x = R at *
 clear h hi
 go_enter Tryz.func97,Tryz.ntmps97
 go_wp2_with (first | (refine wpList_load_row rfl 47 _ rfl w.heap.size rfl 47 _ (0,0) _ hV0 Tryz.underlying47 rfl hi18 ?_) | (go_at_call 164; refine k1.mono ?_; clear k1; rintro e w1 ⟨rfl,hb1⟩))
 go_ret
 exact ⟨rfl,hb.trans (hb1.mono hb.size)⟩
theorem qs7 (w : World) (c : Cf) (v : Vs) (h : CfAt w c v) (i : Nat) (x : Is) (hi : c.isrs[i]? = some x) (hlr : c.ress.length ≤ 8796093022208) (hls : c.msgs.length ≤ 8796093022208) : Calls Tryz.prog 97 #[.agg (cfC c v), .string ⟨#[73,83,82]⟩,I i] w fun e w' => e = .returned (I (isrE c i x)) ∧ Below w.heap.size w w' := by
 have hi18 : (Tryz.prog.info? 47).map (·.size) = some (cfC c v).size := by rw [show (cfC c v).size = 18 from rfl]; kernel_rfl
 have hV0 := heap_alloc_new w (.cells (cfC c v) 47)
 have hb := qa0 w (.cells (cfC c v) 47)
 have k1 := qs1 _ c v (h.below hb) i x hi hlr hls
 generalize cfC c v = C at *
 generalize isrE c i x = R at *
 clear h hi
 go_enter Tryz.func97,Tryz.ntmps97
 go_wp2_with (first | (refine wpList_load_row rfl 47 _ rfl w.heap.size rfl 47 _ (0,0) _ hV0 Tryz.underlying47 rfl hi18 ?_) | (go_at_call 165; refine k1.mono ?_; clear k1; rintro e w1 ⟨rfl,hb1⟩))
 go_ret
 exact ⟨rfl,hb.trans (hb1.mono hb.size)⟩
theorem qs8 (w : World) (c : Cf) (v : Vs) (h : CfAt w c v) (i : Nat) (x : Ms) (hi : c.msgs[i]? = some x) (hsz : x.ac.name.length < 9223372036854775808) : Calls Tryz.prog 97 #[.agg (cfC c v), .string ⟨#[77,69,83,83,65,71,69]⟩,I i] w fun e w' => e = .returned (I (msgE c x)) ∧ Below w.heap.size w w' := by
 have hi18 : (Tryz.prog.info? 47).map (·.size) = some (cfC c v).size := by rw [show (cfC c v).size = 18 from rfl]; kernel_rfl
 have hV0 := heap_alloc_new w (.cells (cfC c v) 47)
 have hb := qa0 w (.cells (cfC c v) 47)
 have k1 := qko _ c v (h.below hb) i x hi hsz
 generalize cfC c v = C at *
 generalize msgE c x = R at *
 clear h hi
 go_enter Tryz.func97,Tryz.ntmps97
 go_wp2_with (first | (refine wpList_load_row rfl 47 _ rfl w.heap.size rfl 47 _ (0,0) _ hV0 Tryz.underlying47 rfl hi18 ?_) | (go_at_call 166; refine k1.mono ?_; clear k1; rintro e w1 ⟨rfl,hb1⟩))
 go_ret
 exact ⟨rfl,hb.trans (hb1.mono hb.size)⟩
theorem qty (w : World) (c : Cf) (v : Vs) (h : CfAt w c v) (i : Nat) (x : Ev) (hi : c.evs[i]? = some x) : Calls Tryz.prog 97 #[.agg (cfC c v), .string ⟨#[69,86,69,78,84]⟩,I i] w fun e w' => e = .returned (I (evE x)) ∧ Below w.heap.size w w' := by
 have hn : v.e.n = c.evs.length := h.e.n
 have hlt : (i : Int) < v.e.n := by have := (List.getElem?_eq_some_iff.1 hi).1; omega
 obtain ⟨g,off,e,hg,a0,a1,a2⟩ := qds h hi
 have hne : g ≠ w.heap.size := by omega
 have hb := qa0 w
 have f13 : ∀ h : 13 < (cfC c v).size,(cfC c v)[13] = .slice v.e.a v.e.n v.e.c := fun _ => rfl
 have hs18 : (cfC c v).size = 18 := rfl
 generalize cfC c v = C at *
 replace f13 := f13 (by omega)
 rw [e] at f13
 obtain ⟨R,hR⟩ : ∃ R,R = evE x := ⟨_,rfl⟩
 rw [← hR]
 unfold evE at hR
 have HR : Hid (R = _) := hR
 clear hR hi hn h e
 generalize (x.mask : Int) = m at *
 cases hm : m == 0 with
 | true =>
  have HE : Hid (R = 74) := by show _ = _; rw [HR.out,if_pos (by simpa using hm)]
  clear HR
  go_enter Tryz.func97,Tryz.ntmps97
  go_wp2
  go_ret
  exact ⟨qa3 HE.out.symm,hb _⟩
 | false =>
  have HE : Hid (R = 0) := by show _ = _; rw [HR.out,if_neg (by simpa using hm)]
  clear HR
  go_enter Tryz.func97,Tryz.ntmps97
  go_wp2
  go_ret
  exact ⟨qa3 HE.out.symm,hb _⟩
theorem qs9 (w : World) (c : Cf) (v : Vs) (i : Int) : Calls Tryz.prog 97 #[.agg (cfC c v), .string ⟨#[67,80,85]⟩,I i] w fun e w' => e = .returned (I 0) ∧ Below w.heap.size w w' := by
 have hb := qa0 w
 generalize cfC c v = C at *
 go_enter Tryz.func97,Tryz.ntmps97
 go_wp2
 go_ret
 exact ⟨rfl,hb _⟩
theorem qtz (w : World) (c : Cf) (v : Vs) (i : Int) : Calls Tryz.prog 97 #[.agg (cfC c v), .string ⟨#[79,83]⟩,I i] w fun e w' => e = .returned (I 0) ∧ Below w.heap.size w w' := by
 have hb := qa0 w
 generalize cfC c v = C at *
 go_enter Tryz.func97,Tryz.ntmps97
 go_wp2
 go_ret
 exact ⟨rfl,hb _⟩
theorem qpl (w : World) (c : Cf) (v : Vs) (i : Int) : Calls Tryz.prog 97 #[.agg (cfC c v), .string ⟨#[65,80,80,77,79,68,69]⟩,I i] w fun e w' => e = .returned (I 0) ∧ Below w.heap.size w w' := by
 have hb := qa0 w
 generalize cfC c v = C at *
 go_enter Tryz.func97,Tryz.ntmps97
 go_wp2
 go_ret
 exact ⟨rfl,hb _⟩
structure Dk where
 word : List UInt8
 lo : Int
 hi : Int
 names : List (List UInt8)
 E : Nat → Int
def onB {α : Type} (l : List α) (E : Nat → α → Int) (j : Nat) : Int := match l[j]? with | some x => E j x | none => 0
theorem qbn {α : Type} {l : List α} {E : Nat → α → Int} {j : Nat} {x : α} (h : l[j]? = some x) : onB l E j = E j x := by unfold onB; rw [h]
def qhb : List (List UInt8) := [[67,80,85], [79,83], [65,80,80,77,79,68,69], [82,69,83,79,85,82,67,69], [69,86,69,78,84], [84,65,83,75], [67,79,85,78,84,69,82], [65,76,65,82,77], [73,83,82], [77,69,83,83,65,71,69]]
def qhc : List Int := [0,0,1,0,0,1,0,0,0,0]
def qjm : List Int := [1,1,8,64,256,256,16,64,32,64]
def tenD (c : Cf) : List Dk := [
 ⟨[67,80,85],0,1, [c.cpu],fun _ => 0⟩,⟨[79,83],0,1, [c.osn],fun _ => 0⟩,⟨[65,80,80,77,79,68,69],1,8,c.modes,fun _ => 0⟩,
 ⟨[82,69,83,79,85,82,67,69],0,64,c.ress.map fun x => x.name,onB c.ress (resE c)⟩,
 ⟨[69,86,69,78,84],0,256,c.evs.map fun x => x.name,onB c.evs (fun _ x => evE x)⟩,
 ⟨[84,65,83,75],1,256,c.tasks.map fun x => x.name,onB c.tasks (fun _ x => tskE c x)⟩,
 ⟨[67,79,85,78,84,69,82],0,16,c.ctrs.map fun x => x.name,onB c.ctrs (fun _ x => ctrE x)⟩,
 ⟨[65,76,65,82,77],0,64,c.als.map fun x => x.name,onB c.als (fun _ x => almE c x)⟩,
 ⟨[73,83,82],0,32,c.isrs.map fun x => x.name,onB c.isrs (isrE c)⟩,
 ⟨[77,69,83,83,65,71,69],0,64,c.msgs.map fun x => x.name,onB c.msgs (fun _ x => msgE c x)⟩]
theorem qd7 {α : Type} {l : List α} {f : α → List UInt8} {n : Nat} (h : ∀ x ∈ l,(f x).length < n) : ∀ y ∈ l.map f,y.length < n := fun y hy => by
 obtain ⟨x,hx,rfl⟩ := List.mem_map.1 hy
 exact h x hx
theorem qpm (w : World) (c : Cf) (v : Vs) (h : CfAt w c v) (hl : LensOK c) (hz : NamesOK c) (j : Nat) (d : Dk) (hj : (tenD c)[j]? = some d) :
  (∀ W,Below w.heap.size w W → Calls Tryz.prog 95 #[.agg (cfC c v),S d.word] W fun e w' => qaa W d.names e w') ∧
  (∀ i,i < d.names.length → ∀ W,Below w.heap.size w W → Calls Tryz.prog 97 #[.agg (cfC c v),S d.word,I i] W fun e w' => e = .returned (I (d.E i)) ∧ Below W.heap.size W w') ∧
  (∀ x ∈ d.names,x.length < 9223372036854775808) ∧ qhb[j]? = some d.word ∧ qhc[j]? = some d.lo ∧ qjm[j]? = some d.hi := by
 rcases j with _ | _ | _ | _ | _ | _ | _ | _ | _ | _ | j
 ·obtain rfl := Option.some.inj hj
  exact ⟨fun W hW => qnj W c v,fun i hi W hW => qs9 W c v i,fun x hx => by obtain rfl := List.mem_singleton.1 hx; exact hz.p,rfl,rfl,rfl⟩
 ·obtain rfl := Option.some.inj hj
  exact ⟨fun W hW => qpb W c v,fun i hi W hW => qtz W c v i,fun x hx => by obtain rfl := List.mem_singleton.1 hx; exact hz.o,rfl,rfl,rfl⟩
 ·obtain rfl := Option.some.inj hj
  exact ⟨fun W hW => qkj W c v (h.below hW),fun i hi W hW => qpl W c v i,hz.m,rfl,rfl,rfl⟩
 ·obtain rfl := Option.some.inj hj
  refine ⟨fun W hW => qm8 W c v (h.below hW) hl.r,fun i hi W hW => ?_,qd7 (hz.r),rfl,rfl,rfl⟩
  have hi2 : i < c.ress.length := by simpa using hi
  obtain ⟨x,hx⟩ : ∃ x,c.ress[i]? = some x := ⟨_,List.getElem?_eq_getElem hi2⟩
  dsimp only
  rw [qbn hx]
  exact qs4 W c v (h.below hW) i x hx hl.r
 ·obtain rfl := Option.some.inj hj
  refine ⟨fun W hW => qnk W c v (h.below hW) hl.e,fun i hi W hW => ?_,qd7 (hz.e),rfl,rfl,rfl⟩
  have hi2 : i < c.evs.length := by simpa using hi
  obtain ⟨x,hx⟩ : ∃ x,c.evs[i]? = some x := ⟨_,List.getElem?_eq_getElem hi2⟩
  dsimp only
  rw [qbn hx]
  exact qty W c v (h.below hW) i x hx
 ·obtain rfl := Option.some.inj hj
  refine ⟨fun W hW => qkk W c v (h.below hW) hl.t,fun i hi W hW => ?_,qd7 (hz.t),rfl,rfl,rfl⟩
  have hi2 : i < c.tasks.length := by simpa using hi
  obtain ⟨x,hx⟩ : ∃ x,c.tasks[i]? = some x := ⟨_,List.getElem?_eq_getElem hi2⟩
  dsimp only
  rw [qbn hx]
  exact qpk W c v (h.below hW) i x hx
 ·obtain rfl := Option.some.inj hj
  refine ⟨fun W hW => qm9 W c v (h.below hW) hl.k,fun i hi W hW => ?_,qd7 (hz.k),rfl,rfl,rfl⟩
  have hi2 : i < c.ctrs.length := by simpa using hi
  obtain ⟨x,hx⟩ : ∃ x,c.ctrs[i]? = some x := ⟨_,List.getElem?_eq_getElem hi2⟩
  dsimp only
  rw [qbn hx]
  exact qs5 W c v (h.below hW) i x hx
 ·obtain rfl := Option.some.inj hj
  refine ⟨fun W hW => qnl W c v (h.below hW) hl.a,fun i hi W hW => ?_,qd7 (fun x hx => (hz.a x hx).1),rfl,rfl,rfl⟩
  have hi2 : i < c.als.length := by simpa using hi
  obtain ⟨x,hx⟩ : ∃ x,c.als[i]? = some x := ⟨_,List.getElem?_eq_getElem hi2⟩
  dsimp only
  rw [qbn hx]
  exact qs6 W c v (h.below hW) i x hx (hz.a x (List.mem_of_getElem? hx)).2
 ·obtain rfl := Option.some.inj hj
  refine ⟨fun W hW => qma W c v (h.below hW) hl.i,fun i hi W hW => ?_,qd7 (hz.i),rfl,rfl,rfl⟩
  have hi2 : i < c.isrs.length := by simpa using hi
  obtain ⟨x,hx⟩ : ∃ x,c.isrs[i]? = some x := ⟨_,List.getElem?_eq_getElem hi2⟩
  dsimp only
  rw [qbn hx]
  exact qs7 W c v (h.below hW) i x hx hl.r hl.s
 ·obtain rfl := Option.some.inj hj
  refine ⟨fun W hW => qmb W c v (h.below hW) hl.s,fun i hi W hW => ?_,qd7 (fun x hx => (hz.s x hx).1),rfl,rfl,rfl⟩
  have hi2 : i < c.msgs.length := by simpa using hi
  obtain ⟨x,hx⟩ : ∃ x,c.msgs[i]? = some x := ⟨_,List.getElem?_eq_getElem hi2⟩
  dsimp only
  rw [qbn hx]
  exact qs8 W c v (h.below hW) i x hx (hz.s x (List.mem_of_getElem? hx)).2
 ·simp [tenD] at hj
def objD (d : Dk) (j : Nat) : Option Int := match d.names[j]? with
 | none => none
 | some nm => if (!isNm nm || hasS (d.names.take j) nm) = true then some 72 else qbr (d.E j)
def qb7 (d : Dk) : Option (Int × Int) := if inR d.names.length d.lo d.hi = true then qaw (objD d) d.names.length 0 else some (71,0)
def qcc : List Dk → Option (Int × List UInt8 × Int)
 | [] => none
 | d :: r => qfp d.word (qcc r) (qb7 d)
theorem qbq (d : Dk) (names : List (List UInt8)) (lo hi : Int) (cs : List Ck) (B : Nat → Nat → Bool) (hn : d.names = names) (hr : inR names.length d.lo d.hi = inR names.length lo hi)
  (hE : ∀ j nm,names[j]? = some nm → qbr (d.E j) = qab cs 0 (fun k => B k j)) : qb7 d = qai names lo hi cs B := by
 unfold qb7 qai
 subst hn
 rw [hr]
 have e : objD d = objF d.names cs B := by
  funext j
  unfold objD objF
  cases hj : d.names[j]? with
  | none => rfl
  | some nm => simp only [hE j nm hj]
 rw [e]
theorem qcd {α : Type} {l : List α} {B : Nat → α → Nat → Bool} {j : Nat} {x : α} (h : l[j]? = some x) (cs : List Ck) : qab cs 0 (fun k => byB l B k j) = qab cs 0 (B j x) := by
 rw [show (fun k => byB l B k j) = B j x from funext fun k => qbe h]
theorem qdo {α : Type} {l : List α} {f : α → List UInt8} {j : Nat} {nm : List UInt8} (h : (l.map f)[j]? = some nm) : ∃ x,l[j]? = some x := by
 rw [List.getElem?_map] at h
 cases hl : l[j]? with
 | none => rw [hl] at h; cases h
 | some x => exact ⟨x,rfl⟩
theorem qpn (c : Cf) : qcc (tenD c) = allF c := by
 have e0 : qb7 ⟨[67,80,85],0,1, [c.cpu],fun _ => 0⟩ = qai [c.cpu] 1 1 [] noB := qbq _ _ 1 1 [] noB rfl rfl (fun j nm hj => rfl)
 have e1 : qb7 ⟨[79,83],0,1, [c.osn],fun _ => 0⟩ = qai [c.osn] 1 1 [] noB := qbq _ _ 1 1 [] noB rfl rfl (fun j nm hj => rfl)
 have e2 : qb7 ⟨[65,80,80,77,79,68,69],1,8,c.modes,fun _ => 0⟩ = qai c.modes 1 8 [] noB := qbq _ _ 1 8 [] noB rfl rfl (fun j nm hj => rfl)
 have e3 : qb7 ⟨[82,69,83,79,85,82,67,69],0,64,c.ress.map fun x => x.name,onB c.ress (resE c)⟩ = qai (c.ress.map fun x => x.name) 0 64 qaq (byB c.ress (resQ c)) := qbq _ _ 0 64 _ _ rfl rfl (fun j nm hj => by
  obtain ⟨x,hx⟩ := qdo hj
  rw [qcd hx]
  dsimp only
  rw [qbn hx]
  exact (qpg c j x (List.getElem?_eq_some_iff.1 hx).1).symm)
 have e4 : qb7 ⟨[69,86,69,78,84],0,256,c.evs.map fun x => x.name,onB c.evs (fun _ x => evE x)⟩ = qai (c.evs.map fun x => x.name) 0 256 qb0 (byB c.evs (evQ c)) := qbq _ _ 0 256 _ _ rfl rfl (fun j nm hj => by
  obtain ⟨x,hx⟩ := qdo hj
  rw [qcd hx]
  dsimp only
  rw [qbn hx]
  exact (qrv c j x).symm)
 have e5 : qb7 ⟨[84,65,83,75],1,256,c.tasks.map fun x => x.name,onB c.tasks (fun _ x => tskE c x)⟩ = qai (c.tasks.map fun x => x.name) 1 256 qb3 (byB c.tasks (tkQ c)) := qbq _ _ 1 256 _ _ rfl rfl (fun j nm hj => by
  obtain ⟨x,hx⟩ := qdo hj
  rw [qcd hx]
  dsimp only
  rw [qbn hx]
  exact (qrw c j x hx).symm)
 have e6 : qb7 ⟨[67,79,85,78,84,69,82],0,16,c.ctrs.map fun x => x.name,onB c.ctrs (fun _ x => ctrE x)⟩ = qai (c.ctrs.map fun x => x.name) 0 16 qat (byB c.ctrs (ctQ c)) := qbq _ _ 0 16 _ _ rfl rfl (fun j nm hj => by
  obtain ⟨x,hx⟩ := qdo hj
  rw [qcd hx]
  dsimp only
  rw [qbn hx]
  exact (qph x).symm)
 have e7 : qb7 ⟨[65,76,65,82,77],0,64,c.als.map fun x => x.name,onB c.als (fun _ x => almE c x)⟩ = qai (c.als.map fun x => x.name) 0 64 (qah 0) (byB c.als (alQ c)) := qbq _ _ 0 64 _ _ rfl rfl (fun j nm hj => by
  obtain ⟨x,hx⟩ := qdo hj
  rw [qcd hx]
  dsimp only
  rw [qbn hx]
  exact (qrx c j x).symm)
 have e8 : qb7 ⟨[73,83,82],0,32,c.isrs.map fun x => x.name,onB c.isrs (isrE c)⟩ = qai (c.isrs.map fun x => x.name) 0 32 qbb (byB c.isrs (isQ c)) := qbq _ _ 0 32 _ _ rfl rfl (fun j nm hj => by
  obtain ⟨x,hx⟩ := qdo hj
  rw [qcd hx]
  dsimp only
  rw [qbn hx]
  exact (qry c j x).symm)
 have e9 : qb7 ⟨[77,69,83,83,65,71,69],0,64,c.msgs.map fun x => x.name,onB c.msgs (fun _ x => msgE c x)⟩ = qai (c.msgs.map fun x => x.name) 0 64 (qag 0) (byB c.msgs (msQ c)) := qbq _ _ 0 64 _ _ rfl rfl (fun j nm hj => by
  obtain ⟨x,hx⟩ := qdo hj
  rw [qcd hx]
  dsimp only
  rw [qbn hx]
  exact (qrz c j x).symm)
 unfold allF tenR tenD
 simp only [qcc,qbg,e0,e1,e2,e3,e4,e5,e6,e7,e8,e9]
end Go.Proofs.YtmidaeljeoifdaaGreatDoor
