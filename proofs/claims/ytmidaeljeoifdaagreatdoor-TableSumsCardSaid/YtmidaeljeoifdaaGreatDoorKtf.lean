import Derived.Test.YtmidaeljeoifdaaGreatDoorKtd
import Derived.Test.YtmidaeljeoifdaaGreatDoorKsj
import Derived.Deep.Cut
namespace Go.Proofs.YtmidaeljeoifdaaGreatDoor
set_option maxRecDepth 100000
set_option maxHeartbeats 16000000
open Go.RowKit
set_option linter.unusedVariables false
set_option linter.unusedSimpArgs false
theorem fitI_mid (x m : Nat) (h : m < 8) : fitI x (m : Int) = ((x : Int) / 2 ^ (8 * m) == 0) := by
 unfold fitI
 by_cases h0 : m = 0
 ·subst h0
  rw [if_pos (by decide)]
  simp
 ·rw [if_neg (by simpa using h0), if_pos (by simp [inR]; omega)]
  rfl
theorem fitI_out (x : Nat) (n : Int) (h : n < 0 ∨ 8 ≤ n) : fitI x n = true := by
 unfold fitI
 rw [if_neg (by simp; omega), if_neg (by simp [inR]; omega)]
theorem rmsg_r2 (w : World) (c : Cf) (v : Vs) (h : CfAt w c v) (i : Nat) (x : Ms) (hi : c.msgs[i]? = some x) (hk : x.kind = 2) (hsz : x.ac.name.length < 9223372036854775808) :
  Calls Tryz.prog 166 #[.agg (cfC c v), I i] w fun e w' => e = .returned (I (msgE c x)) ∧ Below w.heap.size w w' := by
 have hn : v.s.n = c.msgs.length := h.s.n
 have hlt : (i : Int) < v.s.n := by have := (List.getElem?_eq_some_iff.1 hi).1; omega
 obtain ⟨g, off, e, hg, a0, a1, a2, a3, a4, a5, a6, a7, a8, a9⟩ := ms_at h hi
 have hne : g ≠ w.heap.size := by omega
 have hgl : g < w.heap.size + 1 := by omega
 have hne1 : g ≠ w.heap.size + 1 := by omega
 have hb := below_alloc w
 have hb2 := fun o o' => (hb o).trans ((below_alloc (w.alloc o) o').mono (hb o).size)
 have HN : Hid (v.s.n = c.msgs.length) := h.s.n
 have hi18 : (Tryz.prog.info? 47).map (·.size) = some (cfC c v).size := by rw [show (cfC c v).size = 18 from rfl]; kernel_rfl
 have ka := fun W (hW : Below w.heap.size w W) => raction_all W c v (h.below hW) x.ac 0 4 hsz
 have HC : Hid (CfAt w c v) := h
 have HE17 : Hid (v.s.a = some ⟨g, off, none⟩) := e
 have f17 : ∀ h : 17 < (cfC c v).size, (cfC c v)[17] = .slice v.s.a v.s.n v.s.c := fun _ => rfl
 have hs18 : (cfC c v).size = 18 := rfl
 generalize cfC c v = C at *
 replace f17 := f17 (by omega)
 rw [e] at f17
 have hst : (storeCells ⟨w.heap.size + 1, 0, none⟩ #[S x.name, I x.kind, I x.len, I x.frm, .int .u64 (x.init : Int), I x.queue, I x.ac.kind, I x.ac.task, I x.ac.event, S x.ac.name].toList 0).run Tryz.prog ((w.alloc (.cells C 47)).alloc (.cells #[.string ⟨#[]⟩, .int .i64 0, .int .i64 0, .int .i64 0, .int .u64 0, .int .i64 0, .int .i64 0, .int .i64 0, .int .i64 0, .string ⟨#[]⟩] 114)) = .ok () ((w.alloc (.cells C 47)).alloc (.cells #[S x.name, I x.kind, I x.len, I x.frm, .int .u64 (x.init : Int), I x.queue, I x.ac.kind, I x.ac.task, I x.ac.event, S x.ac.name] 114)) := by
  have := run_storeCells_new (P := Tryz.prog) (w.alloc (.cells C 47)) 114 #[.string ⟨#[]⟩, .int .i64 0, .int .i64 0, .int .i64 0, .int .u64 0, .int .i64 0, .int .i64 0, .int .i64 0, .int .i64 0, .string ⟨#[]⟩] #[S x.name, I x.kind, I x.len, I x.frm, .int .u64 (x.init : Int), I x.queue, I x.ac.kind, I x.ac.task, I x.ac.event, S x.ac.name] (by kernel_rfl) rfl (by simp [Value.oneCell'])
  rwa [show (w.alloc (.cells C 47)).heap.size = w.heap.size + 1 by simp] at this
 obtain ⟨R, hR⟩ : ∃ R, R = msgE c x := ⟨_, rfl⟩
 rw [← hR]
 unfold msgE at hR
 rw [← HN.out] at hR
 have HR : Hid (R = _) := hR
 have HbW : Hid (Below w.heap.size w ((w.alloc (.cells C 47)).alloc (.cells #[S x.name, I x.kind, I x.len, I x.frm, .int .u64 (x.init : Int), I x.queue, I x.ac.kind, I x.ac.task, I x.ac.event, S x.ac.name] 114))) := hb2 _ _
 clear hR hi hn
 have HKA0 : Hid (∀ W, Below w.heap.size w W → Calls Tryz.prog 211 #[.agg C, .agg #[I x.ac.kind, I x.ac.task, I x.ac.event, S x.ac.name], I 0, I 4] W fun e w' => e = .returned (I (actE c x.ac 0 4)) ∧ Below W.heap.size W w') := ka
 obtain ⟨ec, hec⟩ : ∃ q, q = actE c x.ac 0 4 := ⟨_, rfl⟩
 have HKA : Hid (∀ W, Below w.heap.size w W → Calls Tryz.prog 211 #[.agg C, .agg #[I x.ac.kind, I x.ac.task, I x.ac.event, S x.ac.name], I 0, I 4] W fun e w' => e = .returned (I ec) ∧ Below W.heap.size W w') := by rw [hec]; exact HKA0
 clear HKA0 ka
 have hV2 := heap_two0 w (.cells C 47) (.cells #[S x.name, I x.kind, I x.len, I x.frm, .int .u64 (x.init : Int), I x.queue, I x.ac.kind, I x.ac.task, I x.ac.event, S x.ac.name] 114)
 have HR0 : Hid (R = if (x.len == 0 && x.queue == 0) = false then 74 else if (isId x.frm v.s.n && mkind c x.frm == 1) = false then 73 else if (decide ((x.init : Int) ≤ 4294967295) && fitI x.init (mlen c x.frm)) = false then 74 else ec) := by
  show _ = _
  rw [HR.out, hec, show msgF x = (x.len == 0 && x.queue == 0) by rw [msgF, hk]; rfl, hk]
  rfl
 clear HR h e hec
 rw [hk] at a1 hst HbW hV2
 clear hk
 obtain ⟨ini, hini⟩ : ∃ n : Int, n = (x.init : Int) := ⟨_, rfl⟩
 have HI : Hid ((x.init : Int) = ini) := hini.symm
 rw [← hini] at a4 hst HbW hV2 HR0
 clear hini
 cases hl : x.len == 0 with
 | false =>
  have hl' : (x.len != 0) = true := by simp only [bne, hl]; rfl
  have HE : Hid (R = 74) := by show _ = _; rw [HR0.out, hl]; rfl
  clear HR0 HKA
  go_enter Tryz.func166, Tryz.ntmps166
  go_wp2
  go_ret
  exact ⟨ret_int HE.out.symm, HbW.out⟩
 | true =>
  have hl' : (x.len != 0) = false := by simp only [bne, hl]; rfl
  rw [hl, Bool.true_and] at HR0
  cases hq0 : x.queue == 0 with
  | false =>
   have hq0' : (x.queue != 0) = true := by simp only [bne, hq0]; rfl
   have HE : Hid (R = 74) := by show _ = _; rw [HR0.out, hq0]; rfl
   clear HR0 HKA
   go_enter Tryz.func166, Tryz.ntmps166
   go_wp2
   go_ret
   exact ⟨ret_int HE.out.symm, HbW.out⟩
  | true =>
   have hq0' : (x.queue != 0) = false := by simp only [bne, hq0]; rfl
   rw [if_neg (by rw [hq0]; decide)] at HR0
   have HR : Hid (R = _) := HR0.out
   clear HR0
   have hA : x.frm < 0 ∨ (¬ x.frm < 0 ∧ x.frm ≥ v.s.n) ∨ (0 ≤ x.frm ∧ x.frm < v.s.n) := by omega
   rcases hA with p1 | ⟨p1, p2⟩ | ⟨p1, p2⟩
   ·have HE : Hid (R = 73) := by show _ = _; rw [HR.out, if_pos (by simp [isId]; omega)]
    clear HR HKA
    go_enter Tryz.func166, Tryz.ntmps166
    go_wp2
    go_ret
    exact ⟨ret_int HE.out.symm, HbW.out⟩
   ·have HE : Hid (R = 73) := by show _ = _; rw [HR.out, if_pos (by simp [isId]; omega)]
    clear HR HKA
    go_enter Tryz.func166, Tryz.ntmps166
    go_wp2
    go_ret
    exact ⟨ret_int HE.out.symm, HbW.out⟩
   ·obtain ⟨q, hq⟩ := Int.eq_ofNat_of_zero_le p1
    have hqn : (q : Int) < v.s.n := by omega
    have hq0 : ¬ (q : Int) < 0 := by omega
    have hq1 : ¬ (q : Int) ≥ v.s.n := by omega
    obtain ⟨y, hy⟩ : ∃ y, c.msgs[q]? = some y := ⟨_, List.getElem?_eq_getElem (by have := HN.out; omega)⟩
    obtain ⟨g', off', e', hg', b0, b1, b2, b3, b4, b5, b6, b7, b8, b9⟩ := ms_at HC.out hy
    rw [HE17.out] at e'
    obtain ⟨rfl, rfl⟩ : g = g' ∧ off = off' := by cases e'; exact ⟨rfl, rfl⟩
    have HR2 : Hid (R = if (y.kind == 1) = false then 73 else if (decide (ini ≤ 4294967295) && fitI x.init y.len) = false then 74 else ec) := by
     show _ = _
     rw [HR.out, hq]
     have h1 : isId (q : Int) v.s.n = true := by simp [isId]; omega
     rw [h1]
     simp [mkind, mlen, hy]
    rw [hq] at a3 hst HbW hV2
    clear HR hq hy e' p1 p2 b0 b3 b4 b5 b6 b7 b8 b9
    cases hk1 : y.kind == 1 with
    | false =>
     have hk1' : (y.kind != 1) = true := by simp only [bne, hk1]; rfl
     have HE : Hid (R = 73) := by show _ = _; rw [HR2.out, hk1]; rfl
     clear HR2 HKA
     go_enter Tryz.func166, Tryz.ntmps166
     go_wp2
     go_ret
     exact ⟨ret_int HE.out.symm, HbW.out⟩
    | true =>
     have hk1' : (y.kind != 1) = false := by simp only [bne, hk1]; rfl
     rw [if_neg (by rw [hk1]; decide)] at HR2
     by_cases h32 : ini > 4294967295
     ·have HE : Hid (R = 74) := by show _ = _; rw [HR2.out, if_pos (by simp; intro; omega)]
      clear HR2 HKA
      go_enter Tryz.func166, Tryz.ntmps166
      go_wp2
      go_ret
      exact ⟨ret_int HE.out.symm, HbW.out⟩
     ·have HR3 : Hid (R = if fitI x.init y.len = false then 74 else ec) := by
       show _ = _
       rw [HR2.out, show decide (ini ≤ 4294967295) = true by simp; omega, Bool.true_and]
      clear HR2
      by_cases h8 : y.len < 8
      ·by_cases h0 : y.len ≥ 0
       ·obtain ⟨m, hm⟩ := Int.eq_ofNat_of_zero_le h0
        have hm8 : (m : Int) < 8 := by omega
        have hm0 : (m : Int) ≥ 0 := by omega
        have HF : Hid (fitI x.init y.len = (ini / 2 ^ (8 * m) == 0)) := by show _ = _; rw [hm, fitI_mid x.init m (by omega), HI.out]
        rw [HF.out] at HR3
        rw [hm] at b2
        clear HF h8 h0 hm
        cases hd : (ini / 2 ^ (8 * m) == 0) with
        | false =>
         have hd' : (ini / 2 ^ (8 * m) != 0) = true := by simp only [bne, hd]; rfl
         have HE : Hid (R = 74) := by show _ = _; rw [HR3.out, hd]; rfl
         clear HR3 HKA
         go_enter Tryz.func166, Tryz.ntmps166
         go_wp2
         go_ret
         exact ⟨ret_int HE.out.symm, HbW.out⟩
        | true =>
         have hd' : (ini / 2 ^ (8 * m) != 0) = false := by simp only [bne, hd]; rfl
         have HE : Hid (R = ec) := by show _ = _; rw [HR3.out, hd]; rfl
         clear HR3
         go_enter Tryz.func166, Tryz.ntmps166
         go_upto_region 15 with fail
         go_wp2_with (first | (refine wpList_load_row rfl 47 _ rfl w.heap.size rfl 47 _ (0, 0) _ hV2 Tryz.underlying47 rfl hi18 ?_) | (go_at_call 211; refine (HKA.out _ HbW.out).mono ?_; rintro e w3 ⟨rfl, hB'⟩; have Hbw3 : Hid (Below w.heap.size w w3) := HbW.out.trans (hB'.mono HbW.out.size); clear hB' HKA))
         go_ret
         exact ⟨ret_int HE.out.symm, Hbw3.out⟩
       ·have HE : Hid (R = ec) := by show _ = _; rw [HR3.out, fitI_out _ _ (.inl (by omega))]; rfl
        clear HR3
        go_enter Tryz.func166, Tryz.ntmps166
        go_upto_region 15 with fail
        go_wp2_with (first | (refine wpList_load_row rfl 47 _ rfl w.heap.size rfl 47 _ (0, 0) _ hV2 Tryz.underlying47 rfl hi18 ?_) | (go_at_call 211; refine (HKA.out _ HbW.out).mono ?_; rintro e w3 ⟨rfl, hB'⟩; have Hbw3 : Hid (Below w.heap.size w w3) := HbW.out.trans (hB'.mono HbW.out.size); clear hB' HKA))
        go_ret
        exact ⟨ret_int HE.out.symm, Hbw3.out⟩
      ·have HE : Hid (R = ec) := by show _ = _; rw [HR3.out, fitI_out _ _ (.inr (by omega))]; rfl
       clear HR3
       go_enter Tryz.func166, Tryz.ntmps166
       go_upto_region 15 with fail
       go_wp2_with (first | (refine wpList_load_row rfl 47 _ rfl w.heap.size rfl 47 _ (0, 0) _ hV2 Tryz.underlying47 rfl hi18 ?_) | (go_at_call 211; refine (HKA.out _ HbW.out).mono ?_; rintro e w3 ⟨rfl, hB'⟩; have Hbw3 : Hid (Below w.heap.size w w3) := HbW.out.trans (hB'.mono HbW.out.size); clear hB' HKA))
       go_ret
       exact ⟨ret_int HE.out.symm, Hbw3.out⟩
end Go.Proofs.YtmidaeljeoifdaaGreatDoor
