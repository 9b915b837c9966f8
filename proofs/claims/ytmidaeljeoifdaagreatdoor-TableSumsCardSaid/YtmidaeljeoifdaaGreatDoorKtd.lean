import Derived.Test.YtmidaeljeoifdaaGreatDoorKtx
import Derived.Test.YtmidaeljeoifdaaGreatDoorKve
import Derived.Test.YtmidaeljeoifdaaGreatDoorKse
namespace Go.Proofs.YtmidaeljeoifdaaGreatDoor
set_option maxRecDepth 100000
set_option maxHeartbeats 16000000
open Go.RowKit
set_option linter.unusedVariables false
set_option linter.unusedSimpArgs false
theorem msgF_out {x : Ms} (h : inR x.kind 1 3 = false) : msgF x = false := by
 unfold msgF
 have h1 : (x.kind == 1) = false := by cases hk : x.kind == 1; rfl; (have : x.kind = 1 := by simpa using hk); rw [this] at h; cases h
 have h2 : (x.kind == 2) = false := by cases hk : x.kind == 2; rfl; (have : x.kind = 2 := by simpa using hk); rw [this] at h; cases h
 have h3 : (x.kind == 3) = false := by cases hk : x.kind == 3; rfl; (have : x.kind = 3 := by simpa using hk); rw [this] at h; cases h
 rw [h1, h2, h3]
 rfl
theorem rmsg_out (w : World) (c : Cf) (v : Vs) (h : CfAt w c v) (i : Nat) (x : Ms) (hi : c.msgs[i]? = some x) (hk : inR x.kind 1 3 = false) :
  Calls Tryz.prog 166 #[.agg (cfC c v), I i] w fun e w' => e = .returned (I (msgE c x)) ∧ Below w.heap.size w w' := by
 have hn : v.s.n = c.msgs.length := h.s.n
 have hlt : (i : Int) < v.s.n := by have := (List.getElem?_eq_some_iff.1 hi).1; omega
 obtain ⟨g, off, e, hg, a0, a1, a2, a3, a4, a5, a6, a7, a8, a9⟩ := ms_at h hi
 have hne : g ≠ w.heap.size := by omega
 have hgl : g < w.heap.size + 1 := by omega
 have hne1 : g ≠ w.heap.size + 1 := by omega
 have hb := below_alloc w
 have hb2 := fun o o' => (hb o).trans ((below_alloc (w.alloc o) o').mono (hb o).size)
 have HN : Hid (v.s.n = c.msgs.length) := h.s.n
 have f17 : ∀ h : 17 < (cfC c v).size, (cfC c v)[17] = .slice v.s.a v.s.n v.s.c := fun _ => rfl
 have hs18 : (cfC c v).size = 18 := rfl
 generalize cfC c v = C at *
 replace f17 := f17 (by omega)
 rw [e] at f17
 have hst : (storeCells ⟨w.heap.size + 1, 0, none⟩ #[S x.name, I x.kind, I x.len, I x.frm, .int .u64 (x.init : Int), I x.queue, I x.ac.kind, I x.ac.task, I x.ac.event, S x.ac.name].toList 0).run Tryz.prog ((w.alloc (.cells C 47)).alloc (.cells #[.string ⟨#[]⟩, .int .i64 0, .int .i64 0, .int .i64 0, .int .u64 0, .int .i64 0, .int .i64 0, .int .i64 0, .int .i64 0, .string ⟨#[]⟩] 114)) = .ok () ((w.alloc (.cells C 47)).alloc (.cells #[S x.name, I x.kind, I x.len, I x.frm, .int .u64 (x.init : Int), I x.queue, I x.ac.kind, I x.ac.task, I x.ac.event, S x.ac.name] 114)) := by
  have := run_storeCells_new (P := Tryz.prog) (w.alloc (.cells C 47)) 114 #[.string ⟨#[]⟩, .int .i64 0, .int .i64 0, .int .i64 0, .int .u64 0, .int .i64 0, .int .i64 0, .int .i64 0, .int .i64 0, .string ⟨#[]⟩] #[S x.name, I x.kind, I x.len, I x.frm, .int .u64 (x.init : Int), I x.queue, I x.ac.kind, I x.ac.task, I x.ac.event, S x.ac.name] (by kernel_rfl) rfl (by simp [Value.oneCell'])
  rwa [show (w.alloc (.cells C 47)).heap.size = w.heap.size + 1 by simp] at this
 obtain ⟨R, hR⟩ : ∃ R, R = msgE c x := ⟨_, rfl⟩
 rw [← hR]
 unfold msgE at hR
 rw [← HN.out] at hR
 have HR : Hid (R = _) := hR
 have HbW : Hid (Below w.heap.size w ((w.alloc (.cells C 47)).alloc (.cells #[S x.name, I x.kind, I x.len, I x.frm, .int .u64 (x.init : Int), I x.queue, I x.ac.kind, I x.ac.task, I x.ac.event, S x.ac.name] 114))) := hb2 _ _
 clear hR hi hn
 have HE : Hid (R = 74) := by show _ = _; rw [HR.out, msgF_out hk]; rfl
 clear HR
 have hA : x.kind < 1 ∨ (¬ x.kind < 1 ∧ x.kind > 3) := by
  have : ¬ (1 ≤ x.kind ∧ x.kind ≤ 3) := by simpa [inR] using hk
  omega
 clear hk
 rcases hA with p1 | ⟨p1, p2⟩
 ·go_enter Tryz.func166, Tryz.ntmps166
  go_wp2
  go_ret
  exact ⟨ret_int HE.out.symm, HbW.out⟩
 ·go_enter Tryz.func166, Tryz.ntmps166
  go_wp2
  go_ret
  exact ⟨ret_int HE.out.symm, HbW.out⟩
theorem rmsg_send (w : World) (c : Cf) (v : Vs) (h : CfAt w c v) (i : Nat) (x : Ms) (hi : c.msgs[i]? = some x) (hk : x.kind = 1) :
  Calls Tryz.prog 166 #[.agg (cfC c v), I i] w fun e w' => e = .returned (I (msgE c x)) ∧ Below w.heap.size w w' := by
 have hn : v.s.n = c.msgs.length := h.s.n
 have hlt : (i : Int) < v.s.n := by have := (List.getElem?_eq_some_iff.1 hi).1; omega
 obtain ⟨g, off, e, hg, a0, a1, a2, a3, a4, a5, a6, a7, a8, a9⟩ := ms_at h hi
 have hne : g ≠ w.heap.size := by omega
 have hgl : g < w.heap.size + 1 := by omega
 have hne1 : g ≠ w.heap.size + 1 := by omega
 have hb := below_alloc w
 have hb2 := fun o o' => (hb o).trans ((below_alloc (w.alloc o) o').mono (hb o).size)
 have HN : Hid (v.s.n = c.msgs.length) := h.s.n
 have f17 : ∀ h : 17 < (cfC c v).size, (cfC c v)[17] = .slice v.s.a v.s.n v.s.c := fun _ => rfl
 have hs18 : (cfC c v).size = 18 := rfl
 generalize cfC c v = C at *
 replace f17 := f17 (by omega)
 rw [e] at f17
 have hst : (storeCells ⟨w.heap.size + 1, 0, none⟩ #[S x.name, I x.kind, I x.len, I x.frm, .int .u64 (x.init : Int), I x.queue, I x.ac.kind, I x.ac.task, I x.ac.event, S x.ac.name].toList 0).run Tryz.prog ((w.alloc (.cells C 47)).alloc (.cells #[.string ⟨#[]⟩, .int .i64 0, .int .i64 0, .int .i64 0, .int .u64 0, .int .i64 0, .int .i64 0, .int .i64 0, .int .i64 0, .string ⟨#[]⟩] 114)) = .ok () ((w.alloc (.cells C 47)).alloc (.cells #[S x.name, I x.kind, I x.len, I x.frm, .int .u64 (x.init : Int), I x.queue, I x.ac.kind, I x.ac.task, I x.ac.event, S x.ac.name] 114)) := by
  have := run_storeCells_new (P := Tryz.prog) (w.alloc (.cells C 47)) 114 #[.string ⟨#[]⟩, .int .i64 0, .int .i64 0, .int .i64 0, .int .u64 0, .int .i64 0, .int .i64 0, .int .i64 0, .int .i64 0, .string ⟨#[]⟩] #[S x.name, I x.kind, I x.len, I x.frm, .int .u64 (x.init : Int), I x.queue, I x.ac.kind, I x.ac.task, I x.ac.event, S x.ac.name] (by kernel_rfl) rfl (by simp [Value.oneCell'])
  rwa [show (w.alloc (.cells C 47)).heap.size = w.heap.size + 1 by simp] at this
 obtain ⟨R, hR⟩ : ∃ R, R = msgE c x := ⟨_, rfl⟩
 rw [← hR]
 unfold msgE at hR
 rw [← HN.out] at hR
 have HR : Hid (R = _) := hR
 have HbW : Hid (Below w.heap.size w ((w.alloc (.cells C 47)).alloc (.cells #[S x.name, I x.kind, I x.len, I x.frm, .int .u64 (x.init : Int), I x.queue, I x.ac.kind, I x.ac.task, I x.ac.event, S x.ac.name] 114))) := hb2 _ _
 clear hR hi hn
 have HB : Hid (msgF x = (lenOK x.len && x.frm == 0 && (x.init : Int) == 0 && x.queue == 0)) := by show _ = _; rw [msgF, hk]; rfl
 have HR2 : Hid (R = if (lenOK x.len && x.frm == 0 && (x.init : Int) == 0 && x.queue == 0 && (inR x.ac.kind 0 0 && bareB x.ac)) = true then 0 else 74) := by
  show _ = _
  rw [HR.out, HB.out, hk]
  generalize (lenOK x.len && x.frm == 0 && (x.init : Int) == 0 && x.queue == 0) = b
  generalize (inR x.ac.kind 0 0 && bareB x.ac) = b'
  cases b <;> cases b' <;> rfl
 clear HR HB
 rw [hk] at a1 hst HbW
 clear hk
 generalize (x.init : Int) = ini at *
 have hA : (x.ac.kind == 0) = false ∨ ((x.ac.kind == 0) = true ∧ (x.ac.task == 0) = false) ∨ ((x.ac.kind == 0) = true ∧ (x.ac.task == 0) = true ∧ (x.ac.event == 0) = false) ∨ ((x.ac.kind == 0) = true ∧ (x.ac.task == 0) = true ∧ (x.ac.event == 0) = true) := by
  cases x.ac.kind == 0 <;> cases x.ac.task == 0 <;> cases x.ac.event == 0 <;> simp
 have HAb : Hid ((inR x.ac.kind 0 0 && bareB x.ac) = (x.ac.kind == 0 && x.ac.task == 0 && x.ac.event == 0 && x.ac.name.isEmpty)) := by
  show _ = _
  by_cases h0 : x.ac.kind = 0
  ·unfold bareB uT uE uN inR
   simp [h0, Bool.and_assoc]
  ·have : inR x.ac.kind 0 0 = false := by simp [inR]; omega
   rw [this]
   simp [h0]
 rw [HAb.out] at HR2
 clear HAb
 have hL : lenOK x.len = false ∧ (x.len == 1) = false ∧ (x.len == 2) = false ∧ (x.len == 4) = false ∧ (x.len == 8) = false ∨ lenOK x.len = true ∧ ((x.len == 1) = true ∨ ((x.len == 1) = false ∧ (x.len == 2) = true) ∨ ((x.len == 1) = false ∧ (x.len == 2) = false ∧ (x.len == 4) = true) ∨ ((x.len == 1) = false ∧ (x.len == 2) = false ∧ (x.len == 4) = false ∧ (x.len == 8) = true)) := by
  unfold lenOK
  cases x.len == 1 <;> cases x.len == 2 <;> cases x.len == 4 <;> cases x.len == 8 <;> simp
 rcases hL with ⟨hl, l1, l2, l4, l8⟩ | ⟨hl, hL⟩
 ·have HE : Hid (R = 74) := by show _ = _; rw [HR2.out, hl]; rfl
  have m1 : (x.len != 1) = true := by simp only [bne, l1]; rfl
  have m2 : (x.len != 2) = true := by simp only [bne, l2]; rfl
  have m4 : (x.len != 4) = true := by simp only [bne, l4]; rfl
  have m8 : (x.len != 8) = true := by simp only [bne, l8]; rfl
  clear HR2 hl hA
  go_enter Tryz.func166, Tryz.ntmps166
  go_wp2
  go_ret
  exact ⟨ret_int HE.out.symm, HbW.out⟩
 ·rw [hl, Bool.true_and] at HR2
  clear hl
  have HX : Hid ((x.len != 1) = false ∨ ((x.len != 1) = true ∧ (x.len != 2) = false) ∨ ((x.len != 1) = true ∧ (x.len != 2) = true ∧ (x.len != 4) = false) ∨ ((x.len != 1) = true ∧ (x.len != 2) = true ∧ (x.len != 4) = true ∧ (x.len != 8) = false)) := by
   show _ ∨ _
   rcases hL with l1 | ⟨l1, l2⟩ | ⟨l1, l2, l4⟩ | ⟨l1, l2, l4, l8⟩
   ·exact .inl (by simp only [bne, l1]; rfl)
   ·exact .inr (.inl ⟨by simp only [bne, l1]; rfl, by simp only [bne, l2]; rfl⟩)
   ·exact .inr (.inr (.inl ⟨by simp only [bne, l1]; rfl, by simp only [bne, l2]; rfl, by simp only [bne, l4]; rfl⟩))
   ·exact .inr (.inr (.inr ⟨by simp only [bne, l1]; rfl, by simp only [bne, l2]; rfl, by simp only [bne, l4]; rfl, by simp only [bne, l8]; rfl⟩))
  clear hL
  cases hf : x.frm == 0 with
  | false =>
   have hf' : (x.frm != 0) = true := by simp only [bne, hf]; rfl
   have HE : Hid (R = 74) := by show _ = _; rw [HR2.out, hf]; simp
   clear HR2 hA
   rcases HX.out with m1 | ⟨m1, m2⟩ | ⟨m1, m2, m4⟩ | ⟨m1, m2, m4, m8⟩ <;>
   (clear HX
    go_enter Tryz.func166, Tryz.ntmps166
    go_wp2
    go_ret
    exact ⟨ret_int HE.out.symm, HbW.out⟩)
  | true =>
   have hf' : (x.frm != 0) = false := by simp only [bne, hf]; rfl
   rw [hf] at HR2
   cases hn0 : ini == 0 with
   | false =>
    have hn0' : (ini != 0) = true := by simp only [bne, hn0]; rfl
    have HE : Hid (R = 74) := by show _ = _; rw [HR2.out, hn0]; simp
    clear HR2 hA
    rcases HX.out with m1 | ⟨m1, m2⟩ | ⟨m1, m2, m4⟩ | ⟨m1, m2, m4, m8⟩ <;>
    (clear HX
     go_enter Tryz.func166, Tryz.ntmps166
     go_wp2
     go_ret
     exact ⟨ret_int HE.out.symm, HbW.out⟩)
   | true =>
    have hn0' : (ini != 0) = false := by simp only [bne, hn0]; rfl
    rw [hn0] at HR2
    cases hq0 : x.queue == 0 with
    | false =>
     have hq0' : (x.queue != 0) = true := by simp only [bne, hq0]; rfl
     have HE : Hid (R = 74) := by show _ = _; rw [HR2.out, hq0]; simp
     clear HR2 hA
     rcases HX.out with m1 | ⟨m1, m2⟩ | ⟨m1, m2, m4⟩ | ⟨m1, m2, m4, m8⟩ <;>
     (clear HX
      go_enter Tryz.func166, Tryz.ntmps166
      go_wp2
      go_ret
      exact ⟨ret_int HE.out.symm, HbW.out⟩)
    | true =>
     have hq0' : (x.queue != 0) = false := by simp only [bne, hq0]; rfl
     rw [hq0] at HR2
     rcases hA with k0 | ⟨k0, t0⟩ | ⟨k0, t0, e0⟩ | ⟨k0, t0, e0⟩
     ·have HE : Hid (R = 74) := by show _ = _; rw [HR2.out, k0]; simp
      clear HR2
      rcases HX.out with m1 | ⟨m1, m2⟩ | ⟨m1, m2, m4⟩ | ⟨m1, m2, m4, m8⟩ <;>
      (clear HX
       go_enter Tryz.func166, Tryz.ntmps166
       go_wp2
       go_ret
       exact ⟨ret_int HE.out.symm, HbW.out⟩)
     ·have HE : Hid (R = 74) := by show _ = _; rw [HR2.out, k0, t0]; simp
      clear HR2
      rcases HX.out with m1 | ⟨m1, m2⟩ | ⟨m1, m2, m4⟩ | ⟨m1, m2, m4, m8⟩ <;>
      (clear HX
       go_enter Tryz.func166, Tryz.ntmps166
       go_wp2
       go_ret
       exact ⟨ret_int HE.out.symm, HbW.out⟩)
     ·have HE : Hid (R = 74) := by show _ = _; rw [HR2.out, k0, t0, e0]; simp
      clear HR2
      rcases HX.out with m1 | ⟨m1, m2⟩ | ⟨m1, m2, m4⟩ | ⟨m1, m2, m4, m8⟩ <;>
      (clear HX
       go_enter Tryz.func166, Tryz.ntmps166
       go_wp2
       go_ret
       exact ⟨ret_int HE.out.symm, HbW.out⟩)
     ·cases hnm : x.ac.name with
      | nil =>
       have HE : Hid (R = 0) := by show _ = _; rw [HR2.out, k0, t0, e0, hnm]; simp
       rw [hnm] at a9 hst HbW
       clear HR2 hnm
       rcases HX.out with m1 | ⟨m1, m2⟩ | ⟨m1, m2, m4⟩ | ⟨m1, m2, m4, m8⟩ <;>
       (clear HX
        go_enter Tryz.func166, Tryz.ntmps166
        go_wp2
        go_ret
        exact ⟨ret_int HE.out.symm, HbW.out⟩)
      | cons d r =>
       have HE : Hid (R = 74) := by show _ = _; rw [HR2.out, k0, t0, e0, hnm]; simp
       rw [hnm] at a9 hst HbW
       clear HR2 hnm
       rcases HX.out with m1 | ⟨m1, m2⟩ | ⟨m1, m2, m4⟩ | ⟨m1, m2, m4, m8⟩ <;>
       (clear HX
        go_enter Tryz.func166, Tryz.ntmps166
        go_wp2
        go_ret
        exact ⟨ret_int HE.out.symm, HbW.out⟩)
end Go.Proofs.YtmidaeljeoifdaaGreatDoor
