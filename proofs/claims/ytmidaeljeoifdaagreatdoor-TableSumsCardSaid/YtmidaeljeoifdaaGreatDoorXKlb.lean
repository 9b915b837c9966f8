import Derived.Test.YtmidaeljeoifdaaGreatDoorXKvl
import Derived.Test.YtmidaeljeoifdaaGreatDoorXKri
import Derived.Test.YtmidaeljeoifdaaGreatDoorXKrr
namespace Go.Proofs.YtmidaeljeoifdaaGreatDoor
open Go.RowKit
set_option linter.unusedSimpArgs false
set_option linter.unusedVariables false
set_option maxHeartbeats 16000000
set_option maxRecDepth 100000
def tskE (c : Cf) (x : Tk) : Int :=
 if (inR x.prio 0 63 && inR x.act 1 255) = false then 74
 else if (risF (-1) x.auto c.modes.length && risF (-1) x.res c.ress.length && risF (-1) x.evs c.evs.length && risF (-1) x.msgs c.msgs.length) = false then 73
 else if 32 < x.evs.length then 71
 else if (decide (0 < x.evs.length) && x.act != 1) = true then 70
 else if 1 < intN c x.res then 70
 else if qav c 0 x.evs = true then 0 else 70
theorem qpi (w : World) (c : Cf) (v : Vs) (h : CfAt w c v) (i : Nat) (x : Tk) (hi : c.tasks[i]? = some x) :
  Calls Tryz.prog 162 #[.agg (cfC c v),I i] w fun e w' => e = .returned (I (tskE c x)) ∧ Below w.heap.size w w' := by
 have hn : v.t.n = c.tasks.length := h.t.n
 have hlt : (i : Int) < v.t.n := by have := (List.getElem?_eq_some_iff.1 hi).1; omega
 obtain ⟨g,off,s4,s5,s6,s7,e,hg,a0,a1,a2,a3,a4,a5,a6,a7,r4,r5,r6,r7⟩ := qbj h hi
 have hne : g ≠ w.heap.size := by omega
 have hb := qa0 w
 have hb2 := fun o o' => (hb o).trans ((qa0 (w.alloc o) o').mono (hb o).size)
 have hcv : ∀ W : World,W.heap[w.heap.size]? = some (.cells (cfC c v) 47 (0,0)) → W.cell? ⟨w.heap.size,10,none⟩ = some (.slice v.m.a v.m.n v.m.c) ∧ W.cell? ⟨w.heap.size,12,none⟩ = some (.slice v.r.a v.r.n v.r.c) ∧ W.cell? ⟨w.heap.size,13,none⟩ = some (.slice v.e.a v.e.n v.e.c) ∧ W.cell? ⟨w.heap.size,17,none⟩ = some (.slice v.s.a v.s.n v.s.c) := fun W hW => by
  obtain ⟨_,h10,h11,h12,h13,h14,h15,h16,h17⟩ := qao hW
  exact ⟨h10,h12,h13,h17⟩
 have f11 : ∀ h : 11 < (cfC c v).size,(cfC c v)[11] = .slice v.t.a v.t.n v.t.c := fun _ => rfl
 have f10 : ∀ h : 10 < (cfC c v).size,(cfC c v)[10] = .slice v.m.a v.m.n v.m.c := fun _ => rfl
 have hs18 : (cfC c v).size = 18 := rfl
 generalize cfC c v = C at *
 replace f11 := f11 (by omega)
 replace f10 := f10 (by omega)
 rw [e] at f11
 have hst : (storeCells ⟨w.heap.size + 1,0,none⟩ #[S x.name,I x.prio, .bool x.full,I x.act, .slice s4.a s4.n s4.c, .slice s5.a s5.n s5.c, .slice s6.a s6.n s6.c, .slice s7.a s7.n s7.c].toList 0).run Tryz.prog ((w.alloc (.cells C 47)).alloc (.cells #[.string ⟨#[]⟩, .int .i64 0, .bool false, .int .i64 0, .slice none 0 0, .slice none 0 0, .slice none 0 0, .slice none 0 0] 58)) = .ok () ((w.alloc (.cells C 47)).alloc (.cells #[S x.name,I x.prio, .bool x.full,I x.act, .slice s4.a s4.n s4.c, .slice s5.a s5.n s5.c, .slice s6.a s6.n s6.c, .slice s7.a s7.n s7.c] 58)) := by
  have := run_storeCells_new (P := Tryz.prog) (w.alloc (.cells C 47)) 58 #[.string ⟨#[]⟩, .int .i64 0, .bool false, .int .i64 0, .slice none 0 0, .slice none 0 0, .slice none 0 0, .slice none 0 0] #[S x.name,I x.prio, .bool x.full,I x.act, .slice s4.a s4.n s4.c, .slice s5.a s5.n s5.c, .slice s6.a s6.n s6.c, .slice s7.a s7.n s7.c] (by kernel_rfl) rfl (by simp [Value.oneCell'])
  rwa [show (w.alloc (.cells C 47)).heap.size = w.heap.size + 1 by simp] at this
 have hbW : Below w.heap.size w ((w.alloc (.cells C 47)).alloc (.cells #[S x.name,I x.prio, .bool x.full,I x.act, .slice s4.a s4.n s4.c, .slice s5.a s5.n s5.c, .slice s6.a s6.n s6.c, .slice s7.a s7.n s7.c] 58)) := hb2 _ _
 have hV2 := qar w (.cells C 47) (.cells #[S x.name,I x.prio, .bool x.full,I x.act, .slice s4.a s4.n s4.c, .slice s5.a s5.n s5.c, .slice s6.a s6.n s6.c, .slice s7.a s7.n s7.c] 58)
 have hT2 := qaj w (.cells C 47) (.cells #[S x.name,I x.prio, .bool x.full,I x.act, .slice s4.a s4.n s4.c, .slice s5.a s5.n s5.c, .slice s6.a s6.n s6.c, .slice s7.a s7.n s7.c] 58)
 have HF : Hid (∀ W,Below ((w.alloc (.cells C 47)).alloc (.cells #[S x.name,I x.prio, .bool x.full,I x.act, .slice s4.a s4.n s4.c, .slice s5.a s5.n s5.c, .slice s6.a s6.n s6.c, .slice s7.a s7.n s7.c] 58)).heap.size ((w.alloc (.cells C 47)).alloc (.cells #[S x.name,I x.prio, .bool x.full,I x.act, .slice s4.a s4.n s4.c, .slice s5.a s5.n s5.c, .slice s6.a s6.n s6.c, .slice s7.a s7.n s7.c] 58)) W → (W.cell? ⟨w.heap.size,10,none⟩ = some (.slice v.m.a v.m.n v.m.c) ∧ W.cell? ⟨w.heap.size,12,none⟩ = some (.slice v.r.a v.r.n v.r.c) ∧ W.cell? ⟨w.heap.size,13,none⟩ = some (.slice v.e.a v.e.n v.e.c) ∧ W.cell? ⟨w.heap.size,17,none⟩ = some (.slice v.s.a v.s.n v.s.c)) ∧ (W.cell? ⟨w.heap.size + 1,3,none⟩ = some (I x.act) ∧ W.cell? ⟨w.heap.size + 1,4,none⟩ = some (.slice s4.a s4.n s4.c) ∧ W.cell? ⟨w.heap.size + 1,5,none⟩ = some (.slice s5.a s5.n s5.c) ∧ W.cell? ⟨w.heap.size + 1,6,none⟩ = some (.slice s6.a s6.n s6.c) ∧ W.cell? ⟨w.heap.size + 1,7,none⟩ = some (.slice s7.a s7.n s7.c)) ∧ CfAt W c v ∧ Below w.heap.size w W) := fun W hW => by
  have hc := hcv W ((hW.block _ (qa1 hV2)).trans hV2)
  have ht := fun i => cell_of_row W (w.heap.size + 1) i _ _ (0,0) ((hW.block _ (qa1 hT2)).trans hT2)
  exact ⟨hc,⟨ht 3,ht 4,ht 5,ht 6,ht 7⟩,(h.below hbW).below hW,hbW.trans (hW.mono hbW.size)⟩
 have k4 : ∀ W,Below w.heap.size w W → Calls Tryz.prog 210 #[.slice s4.a s4.n s4.c,I v.m.n] W fun e w' => e = .returned (.bool (risF (-1) x.auto v.m.n)) ∧ Below W.heap.size W w' := fun W hW => qbv W s4 x.auto (r4.below hW (fun _ _ _ _ h => h)) v.m.n
 have k5 : ∀ W,Below w.heap.size w W → Calls Tryz.prog 210 #[.slice s5.a s5.n s5.c,I v.r.n] W fun e w' => e = .returned (.bool (risF (-1) x.res v.r.n)) ∧ Below W.heap.size W w' := fun W hW => qbv W s5 x.res (r5.below hW (fun _ _ _ _ h => h)) v.r.n
 have k6 : ∀ W,Below w.heap.size w W → Calls Tryz.prog 210 #[.slice s6.a s6.n s6.c,I v.e.n] W fun e w' => e = .returned (.bool (risF (-1) x.evs v.e.n)) ∧ Below W.heap.size W w' := fun W hW => qbv W s6 x.evs (r6.below hW (fun _ _ _ _ h => h)) v.e.n
 have k7 : ∀ W,Below w.heap.size w W → Calls Tryz.prog 210 #[.slice s7.a s7.n s7.c,I v.s.n] W fun e w' => e = .returned (.bool (risF (-1) x.msgs v.s.n)) ∧ Below W.heap.size W w' := fun W hW => qbv W s7 x.msgs (r7.below hW (fun _ _ _ _ h => h)) v.s.n
 have HNN : Hid (v.m.n = c.modes.length ∧ v.r.n = c.ress.length ∧ v.e.n = c.evs.length ∧ v.s.n = c.msgs.length) := ⟨h.m.n,h.r.n,h.e.n,h.s.n⟩
 have HN6 : Hid (s6.n = x.evs.length) := r6.n
 have HN5 : Hid (s5.n = x.res.length) := r5.n
 have hc6 : s6.n ≤ s6.c := r6.c
 have hm6 : s6.c ≤ maxLen := r6.m
 have hc5 : s5.n ≤ s5.c := r5.c
 have hm5 : s5.c ≤ maxLen := r5.m
 unfold maxLen at hm6 hm5
 have HR5 : Hid (RowsAt w 1 intP s5 x.res) := r5
 have HR6 : Hid (RowsAt w 1 intP s6 x.evs) := r6
 obtain ⟨R,hR⟩ : ∃ R,R = tskE c x := ⟨_,rfl⟩
 rw [← hR]
 unfold tskE at hR
 rw [← HNN.out.1, ← HNN.out.2.1, ← HNN.out.2.2.1, ← HNN.out.2.2.2, ← HN6.out] at hR
 have HR : Hid (R = _) := hR
 clear hR hi hn h e r4 r5 r6 r7 hcv hV2 hT2 hb
 have hA : x.prio < 0 ∨ (¬ x.prio < 0 ∧ x.prio > 63) ∨ (¬ x.prio < 0 ∧ ¬ x.prio > 63 ∧ x.act < 1) ∨ (¬ x.prio < 0 ∧ ¬ x.prio > 63 ∧ ¬ x.act < 1 ∧ x.act > 255) ∨ (¬ x.prio < 0 ∧ ¬ x.prio > 63 ∧ ¬ x.act < 1 ∧ ¬ x.act > 255) := by omega
 rcases hA with p1 | ⟨p1,p2⟩ | ⟨p1,p2,p3⟩ | ⟨p1,p2,p3,p4⟩ | ⟨p1,p2,p3,p4⟩
 ·have HE : Hid (R = 74) := by show _ = _; rw [HR.out,if_pos (by simp [inR]; omega)]
  clear HR HF k4 k5 k6 k7
  go_enter Tryz.func162,Tryz.ntmps162
  go_wp2
  go_ret
  exact ⟨qa3 HE.out.symm,hbW⟩
 ·have HE : Hid (R = 74) := by show _ = _; rw [HR.out,if_pos (by simp [inR]; omega)]
  clear HR HF k4 k5 k6 k7
  go_enter Tryz.func162,Tryz.ntmps162
  go_wp2
  go_ret
  exact ⟨qa3 HE.out.symm,hbW⟩
 ·have HE : Hid (R = 74) := by show _ = _; rw [HR.out,if_pos (by simp [inR]; omega)]
  clear HR HF k4 k5 k6 k7
  go_enter Tryz.func162,Tryz.ntmps162
  go_wp2
  go_ret
  exact ⟨qa3 HE.out.symm,hbW⟩
 ·have HE : Hid (R = 74) := by show _ = _; rw [HR.out,if_pos (by simp [inR]; omega)]
  clear HR HF k4 k5 k6 k7
  go_enter Tryz.func162,Tryz.ntmps162
  go_wp2
  go_ret
  exact ⟨qa3 HE.out.symm,hbW⟩
 ·have HI : Hid ((inR x.prio 0 63 && inR x.act 1 255) = true) := by show _ = _; simp [inR]; omega
  rw [if_neg (by rw [HI.out]; decide)] at HR
  obtain ⟨b4,hb4⟩ : ∃ b,b = risF (-1) x.auto v.m.n := ⟨_,rfl⟩
  obtain ⟨b5,hb5⟩ : ∃ b,b = risF (-1) x.res v.r.n := ⟨_,rfl⟩
  obtain ⟨b6,hb6⟩ : ∃ b,b = risF (-1) x.evs v.e.n := ⟨_,rfl⟩
  obtain ⟨b7,hb7⟩ : ∃ b,b = risF (-1) x.msgs v.s.n := ⟨_,rfl⟩
  rw [← hb4] at k4 HR
  rw [← hb5] at k5 HR
  rw [← hb6] at k6 HR
  rw [← hb7] at k7 HR
  have HID : Hid (b5 = true → b6 = true → (∀ y ∈ x.res,isId y v.r.n = true) ∧ ∀ y ∈ x.evs,isId y v.e.n = true) := fun q5 q6 => ⟨qba (by rw [← hb5]; exact q5),qba (by rw [← hb6]; exact q6)⟩
  clear hb4 hb5 hb6 hb7
  have HbW : Hid (Below w.heap.size w ((w.alloc (.cells C 47)).alloc (.cells #[S x.name,I x.prio, .bool x.full,I x.act, .slice s4.a s4.n s4.c, .slice s5.a s5.n s5.c, .slice s6.a s6.n s6.c, .slice s7.a s7.n s7.c] 58))) := hbW
  have HK4 : Hid (∀ W,Below w.heap.size w W → Calls Tryz.prog 210 #[.slice s4.a s4.n s4.c,I v.m.n] W fun e w' => e = .returned (.bool b4) ∧ Below W.heap.size W w') := k4
  have HK5 : Hid (∀ W,Below w.heap.size w W → Calls Tryz.prog 210 #[.slice s5.a s5.n s5.c,I v.r.n] W fun e w' => e = .returned (.bool b5) ∧ Below W.heap.size W w') := k5
  have HK6 : Hid (∀ W,Below w.heap.size w W → Calls Tryz.prog 210 #[.slice s6.a s6.n s6.c,I v.e.n] W fun e w' => e = .returned (.bool b6) ∧ Below W.heap.size W w') := k6
  have HK7 : Hid (∀ W,Below w.heap.size w W → Calls Tryz.prog 210 #[.slice s7.a s7.n s7.c,I v.s.n] W fun e w' => e = .returned (.bool b7) ∧ Below W.heap.size W w') := k7
  clear k4 k5 k6 k7 hbW hb2
  cases b4 with
  | false =>
   have HE : Hid (R = 73) := by show _ = _; rw [HR.out,if_pos (by simp)]
   clear HR HID
   go_enter Tryz.func162,Tryz.ntmps162
   go_wp2_with (first | (go_at_call 210; refine (HK4.out _ HbW.out).mono ?_; rintro e w4 ⟨rfl,hB'⟩; have HB4 : Hid (Below ((w.alloc (.cells C 47)).alloc (.cells #[S x.name,I x.prio, .bool x.full,I x.act, .slice s4.a s4.n s4.c, .slice s5.a s5.n s5.c, .slice s6.a s6.n s6.c, .slice s7.a s7.n s7.c] 58)).heap.size ((w.alloc (.cells C 47)).alloc (.cells #[S x.name,I x.prio, .bool x.full,I x.act, .slice s4.a s4.n s4.c, .slice s5.a s5.n s5.c, .slice s6.a s6.n s6.c, .slice s7.a s7.n s7.c] 58)) w4) := hB'; clear hB'; obtain ⟨⟨c10,c12,c13,c17⟩,⟨t3,t4,t5,t6,t7⟩,hCf,hbw⟩ := HF.out _ HB4.out; have Hbw4 : Hid (Below w.heap.size w w4) := hbw; clear hCf hbw HK4))
   go_ret
   exact ⟨qa3 HE.out.symm,Hbw4.out⟩
  | true =>
   cases b5 with
   | false =>
    have HE : Hid (R = 73) := by show _ = _; rw [HR.out,if_pos (by simp)]
    clear HR HID
    go_enter Tryz.func162,Tryz.ntmps162
    go_wp2_with (first | (go_at_call 210; refine (HK4.out _ HbW.out).mono ?_; rintro e w4 ⟨rfl,hB'⟩; have HB4 : Hid (Below ((w.alloc (.cells C 47)).alloc (.cells #[S x.name,I x.prio, .bool x.full,I x.act, .slice s4.a s4.n s4.c, .slice s5.a s5.n s5.c, .slice s6.a s6.n s6.c, .slice s7.a s7.n s7.c] 58)).heap.size ((w.alloc (.cells C 47)).alloc (.cells #[S x.name,I x.prio, .bool x.full,I x.act, .slice s4.a s4.n s4.c, .slice s5.a s5.n s5.c, .slice s6.a s6.n s6.c, .slice s7.a s7.n s7.c] 58)) w4) := hB'; clear hB'; obtain ⟨⟨c10,c12,c13,c17⟩,⟨t3,t4,t5,t6,t7⟩,hCf,hbw⟩ := HF.out _ HB4.out; have Hbw4 : Hid (Below w.heap.size w w4) := hbw; clear hCf hbw HK4) | (go_at_call 210; refine (HK5.out _ Hbw4.out).mono ?_; clear c10 c12 c13 c17 t3 t4 t5 t6 t7; rintro e w5 ⟨rfl,hB'⟩; have HB5 : Hid (Below ((w.alloc (.cells C 47)).alloc (.cells #[S x.name,I x.prio, .bool x.full,I x.act, .slice s4.a s4.n s4.c, .slice s5.a s5.n s5.c, .slice s6.a s6.n s6.c, .slice s7.a s7.n s7.c] 58)).heap.size ((w.alloc (.cells C 47)).alloc (.cells #[S x.name,I x.prio, .bool x.full,I x.act, .slice s4.a s4.n s4.c, .slice s5.a s5.n s5.c, .slice s6.a s6.n s6.c, .slice s7.a s7.n s7.c] 58)) w5) := HB4.out.trans (hB'.mono HB4.out.size); clear hB'; obtain ⟨⟨c10,c12,c13,c17⟩,⟨t3,t4,t5,t6,t7⟩,hCf,hbw⟩ := HF.out _ HB5.out; have Hbw5 : Hid (Below w.heap.size w w5) := hbw; clear hCf hbw HK5))
    go_ret
    exact ⟨qa3 HE.out.symm,Hbw5.out⟩
   | true =>
    cases b6 with
    | false =>
     have HE : Hid (R = 73) := by show _ = _; rw [HR.out,if_pos (by simp)]
     clear HR HID
     go_enter Tryz.func162,Tryz.ntmps162
     go_wp2_with (first | (go_at_call 210; refine (HK4.out _ HbW.out).mono ?_; rintro e w4 ⟨rfl,hB'⟩; have HB4 : Hid (Below ((w.alloc (.cells C 47)).alloc (.cells #[S x.name,I x.prio, .bool x.full,I x.act, .slice s4.a s4.n s4.c, .slice s5.a s5.n s5.c, .slice s6.a s6.n s6.c, .slice s7.a s7.n s7.c] 58)).heap.size ((w.alloc (.cells C 47)).alloc (.cells #[S x.name,I x.prio, .bool x.full,I x.act, .slice s4.a s4.n s4.c, .slice s5.a s5.n s5.c, .slice s6.a s6.n s6.c, .slice s7.a s7.n s7.c] 58)) w4) := hB'; clear hB'; obtain ⟨⟨c10,c12,c13,c17⟩,⟨t3,t4,t5,t6,t7⟩,hCf,hbw⟩ := HF.out _ HB4.out; have Hbw4 : Hid (Below w.heap.size w w4) := hbw; clear hCf hbw HK4) | (go_at_call 210; refine (HK5.out _ Hbw4.out).mono ?_; clear c10 c12 c13 c17 t3 t4 t5 t6 t7; rintro e w5 ⟨rfl,hB'⟩; have HB5 : Hid (Below ((w.alloc (.cells C 47)).alloc (.cells #[S x.name,I x.prio, .bool x.full,I x.act, .slice s4.a s4.n s4.c, .slice s5.a s5.n s5.c, .slice s6.a s6.n s6.c, .slice s7.a s7.n s7.c] 58)).heap.size ((w.alloc (.cells C 47)).alloc (.cells #[S x.name,I x.prio, .bool x.full,I x.act, .slice s4.a s4.n s4.c, .slice s5.a s5.n s5.c, .slice s6.a s6.n s6.c, .slice s7.a s7.n s7.c] 58)) w5) := HB4.out.trans (hB'.mono HB4.out.size); clear hB'; obtain ⟨⟨c10,c12,c13,c17⟩,⟨t3,t4,t5,t6,t7⟩,hCf,hbw⟩ := HF.out _ HB5.out; have Hbw5 : Hid (Below w.heap.size w w5) := hbw; clear hCf hbw HK5) | (go_at_call 210; refine (HK6.out _ Hbw5.out).mono ?_; clear c10 c12 c13 c17 t3 t4 t5 t6 t7; rintro e w6 ⟨rfl,hB'⟩; have HB6 : Hid (Below ((w.alloc (.cells C 47)).alloc (.cells #[S x.name,I x.prio, .bool x.full,I x.act, .slice s4.a s4.n s4.c, .slice s5.a s5.n s5.c, .slice s6.a s6.n s6.c, .slice s7.a s7.n s7.c] 58)).heap.size ((w.alloc (.cells C 47)).alloc (.cells #[S x.name,I x.prio, .bool x.full,I x.act, .slice s4.a s4.n s4.c, .slice s5.a s5.n s5.c, .slice s6.a s6.n s6.c, .slice s7.a s7.n s7.c] 58)) w6) := HB5.out.trans (hB'.mono HB5.out.size); clear hB'; obtain ⟨⟨c10,c12,c13,c17⟩,⟨t3,t4,t5,t6,t7⟩,hCf,hbw⟩ := HF.out _ HB6.out; have Hbw6 : Hid (Below w.heap.size w w6) := hbw; clear hCf hbw HK6))
     go_ret
     exact ⟨qa3 HE.out.symm,Hbw6.out⟩
    | true =>
     cases b7 with
     | false =>
      have HE : Hid (R = 73) := by show _ = _; rw [HR.out,if_pos (by simp)]
      clear HR HID
      go_enter Tryz.func162,Tryz.ntmps162
      go_wp2_with (first | (go_at_call 210; refine (HK4.out _ HbW.out).mono ?_; rintro e w4 ⟨rfl,hB'⟩; have HB4 : Hid (Below ((w.alloc (.cells C 47)).alloc (.cells #[S x.name,I x.prio, .bool x.full,I x.act, .slice s4.a s4.n s4.c, .slice s5.a s5.n s5.c, .slice s6.a s6.n s6.c, .slice s7.a s7.n s7.c] 58)).heap.size ((w.alloc (.cells C 47)).alloc (.cells #[S x.name,I x.prio, .bool x.full,I x.act, .slice s4.a s4.n s4.c, .slice s5.a s5.n s5.c, .slice s6.a s6.n s6.c, .slice s7.a s7.n s7.c] 58)) w4) := hB'; clear hB'; obtain ⟨⟨c10,c12,c13,c17⟩,⟨t3,t4,t5,t6,t7⟩,hCf,hbw⟩ := HF.out _ HB4.out; have Hbw4 : Hid (Below w.heap.size w w4) := hbw; clear hCf hbw HK4) | (go_at_call 210; refine (HK5.out _ Hbw4.out).mono ?_; clear c10 c12 c13 c17 t3 t4 t5 t6 t7; rintro e w5 ⟨rfl,hB'⟩; have HB5 : Hid (Below ((w.alloc (.cells C 47)).alloc (.cells #[S x.name,I x.prio, .bool x.full,I x.act, .slice s4.a s4.n s4.c, .slice s5.a s5.n s5.c, .slice s6.a s6.n s6.c, .slice s7.a s7.n s7.c] 58)).heap.size ((w.alloc (.cells C 47)).alloc (.cells #[S x.name,I x.prio, .bool x.full,I x.act, .slice s4.a s4.n s4.c, .slice s5.a s5.n s5.c, .slice s6.a s6.n s6.c, .slice s7.a s7.n s7.c] 58)) w5) := HB4.out.trans (hB'.mono HB4.out.size); clear hB'; obtain ⟨⟨c10,c12,c13,c17⟩,⟨t3,t4,t5,t6,t7⟩,hCf,hbw⟩ := HF.out _ HB5.out; have Hbw5 : Hid (Below w.heap.size w w5) := hbw; clear hCf hbw HK5) | (go_at_call 210; refine (HK6.out _ Hbw5.out).mono ?_; clear c10 c12 c13 c17 t3 t4 t5 t6 t7; rintro e w6 ⟨rfl,hB'⟩; have HB6 : Hid (Below ((w.alloc (.cells C 47)).alloc (.cells #[S x.name,I x.prio, .bool x.full,I x.act, .slice s4.a s4.n s4.c, .slice s5.a s5.n s5.c, .slice s6.a s6.n s6.c, .slice s7.a s7.n s7.c] 58)).heap.size ((w.alloc (.cells C 47)).alloc (.cells #[S x.name,I x.prio, .bool x.full,I x.act, .slice s4.a s4.n s4.c, .slice s5.a s5.n s5.c, .slice s6.a s6.n s6.c, .slice s7.a s7.n s7.c] 58)) w6) := HB5.out.trans (hB'.mono HB5.out.size); clear hB'; obtain ⟨⟨c10,c12,c13,c17⟩,⟨t3,t4,t5,t6,t7⟩,hCf,hbw⟩ := HF.out _ HB6.out; have Hbw6 : Hid (Below w.heap.size w w6) := hbw; clear hCf hbw HK6) | (go_at_call 210; refine (HK7.out _ Hbw6.out).mono ?_; clear c10 c12 c13 c17 t3 t4 t5 t6 t7; rintro e w7 ⟨rfl,hB'⟩; have HB7 : Hid (Below ((w.alloc (.cells C 47)).alloc (.cells #[S x.name,I x.prio, .bool x.full,I x.act, .slice s4.a s4.n s4.c, .slice s5.a s5.n s5.c, .slice s6.a s6.n s6.c, .slice s7.a s7.n s7.c] 58)).heap.size ((w.alloc (.cells C 47)).alloc (.cells #[S x.name,I x.prio, .bool x.full,I x.act, .slice s4.a s4.n s4.c, .slice s5.a s5.n s5.c, .slice s6.a s6.n s6.c, .slice s7.a s7.n s7.c] 58)) w7) := HB6.out.trans (hB'.mono HB6.out.size); clear hB'; obtain ⟨⟨c10,c12,c13,c17⟩,⟨t3,t4,t5,t6,t7⟩,hCf,hbw⟩ := HF.out _ HB7.out; have Hbw7 : Hid (Below w.heap.size w w7) := hbw; clear hCf hbw HK7))
      go_ret
      exact ⟨qa3 HE.out.symm,Hbw7.out⟩
     | true =>
      rw [if_neg (by decide)] at HR
      obtain ⟨hidr,hide⟩ := HID.out rfl rfl
      have HIDR : Hid (∀ y ∈ x.res,isId y v.r.n = true) := hidr
      have HIDE : Hid (∀ y ∈ x.evs,isId y v.e.n = true) := hide
      clear hidr hide HID
      by_cases h32 : 32 < s6.n
      ·have h32' : (s6.n : Int) > 32 := by omega
       have HE : Hid (R = 71) := by show _ = _; rw [HR.out,if_pos h32]
       clear HR
       go_enter Tryz.func162,Tryz.ntmps162
       go_wp2_with (first | (go_at_call 210; refine (HK4.out _ HbW.out).mono ?_; rintro e w4 ⟨rfl,hB'⟩; have HB4 : Hid (Below ((w.alloc (.cells C 47)).alloc (.cells #[S x.name,I x.prio, .bool x.full,I x.act, .slice s4.a s4.n s4.c, .slice s5.a s5.n s5.c, .slice s6.a s6.n s6.c, .slice s7.a s7.n s7.c] 58)).heap.size ((w.alloc (.cells C 47)).alloc (.cells #[S x.name,I x.prio, .bool x.full,I x.act, .slice s4.a s4.n s4.c, .slice s5.a s5.n s5.c, .slice s6.a s6.n s6.c, .slice s7.a s7.n s7.c] 58)) w4) := hB'; clear hB'; obtain ⟨⟨c10,c12,c13,c17⟩,⟨t3,t4,t5,t6,t7⟩,hCf,hbw⟩ := HF.out _ HB4.out; have Hbw4 : Hid (Below w.heap.size w w4) := hbw; clear hCf hbw HK4) | (go_at_call 210; refine (HK5.out _ Hbw4.out).mono ?_; clear c10 c12 c13 c17 t3 t4 t5 t6 t7; rintro e w5 ⟨rfl,hB'⟩; have HB5 : Hid (Below ((w.alloc (.cells C 47)).alloc (.cells #[S x.name,I x.prio, .bool x.full,I x.act, .slice s4.a s4.n s4.c, .slice s5.a s5.n s5.c, .slice s6.a s6.n s6.c, .slice s7.a s7.n s7.c] 58)).heap.size ((w.alloc (.cells C 47)).alloc (.cells #[S x.name,I x.prio, .bool x.full,I x.act, .slice s4.a s4.n s4.c, .slice s5.a s5.n s5.c, .slice s6.a s6.n s6.c, .slice s7.a s7.n s7.c] 58)) w5) := HB4.out.trans (hB'.mono HB4.out.size); clear hB'; obtain ⟨⟨c10,c12,c13,c17⟩,⟨t3,t4,t5,t6,t7⟩,hCf,hbw⟩ := HF.out _ HB5.out; have Hbw5 : Hid (Below w.heap.size w w5) := hbw; clear hCf hbw HK5) | (go_at_call 210; refine (HK6.out _ Hbw5.out).mono ?_; clear c10 c12 c13 c17 t3 t4 t5 t6 t7; rintro e w6 ⟨rfl,hB'⟩; have HB6 : Hid (Below ((w.alloc (.cells C 47)).alloc (.cells #[S x.name,I x.prio, .bool x.full,I x.act, .slice s4.a s4.n s4.c, .slice s5.a s5.n s5.c, .slice s6.a s6.n s6.c, .slice s7.a s7.n s7.c] 58)).heap.size ((w.alloc (.cells C 47)).alloc (.cells #[S x.name,I x.prio, .bool x.full,I x.act, .slice s4.a s4.n s4.c, .slice s5.a s5.n s5.c, .slice s6.a s6.n s6.c, .slice s7.a s7.n s7.c] 58)) w6) := HB5.out.trans (hB'.mono HB5.out.size); clear hB'; obtain ⟨⟨c10,c12,c13,c17⟩,⟨t3,t4,t5,t6,t7⟩,hCf,hbw⟩ := HF.out _ HB6.out; have Hbw6 : Hid (Below w.heap.size w w6) := hbw; clear hCf hbw HK6) | (go_at_call 210; refine (HK7.out _ Hbw6.out).mono ?_; clear c10 c12 c13 c17 t3 t4 t5 t6 t7; rintro e w7 ⟨rfl,hB'⟩; have HB7 : Hid (Below ((w.alloc (.cells C 47)).alloc (.cells #[S x.name,I x.prio, .bool x.full,I x.act, .slice s4.a s4.n s4.c, .slice s5.a s5.n s5.c, .slice s6.a s6.n s6.c, .slice s7.a s7.n s7.c] 58)).heap.size ((w.alloc (.cells C 47)).alloc (.cells #[S x.name,I x.prio, .bool x.full,I x.act, .slice s4.a s4.n s4.c, .slice s5.a s5.n s5.c, .slice s6.a s6.n s6.c, .slice s7.a s7.n s7.c] 58)) w7) := HB6.out.trans (hB'.mono HB6.out.size); clear hB'; obtain ⟨⟨c10,c12,c13,c17⟩,⟨t3,t4,t5,t6,t7⟩,hCf,hbw⟩ := HF.out _ HB7.out; have Hbw7 : Hid (Below w.heap.size w w7) := hbw; clear hCf hbw HK7))
       go_ret
       exact ⟨qa3 HE.out.symm,Hbw7.out⟩
      ·have h32' : ¬ (s6.n : Int) > 32 := by omega
       rw [if_neg h32] at HR
       have hsp : (0 < s6.n ∧ (x.act != 1) = true) ∨ (0 < s6.n ∧ (x.act != 1) = false) ∨ ¬ 0 < s6.n := by
        rcases Nat.eq_zero_or_pos s6.n with h0 | h0
        ·exact .inr (.inr (by omega))
        ·cases hx : x.act != 1
         ·exact .inr (.inl ⟨h0,rfl⟩)
         ·exact .inl ⟨h0,rfl⟩
       rcases hsp with ⟨h0,ha⟩ | hsp
       ·have h0' : (s6.n : Int) > 0 := by omega
        have HE : Hid (R = 70) := by show _ = _; rw [HR.out,if_pos (by rw [ha]; simpa using h0)]
        clear HR
        go_enter Tryz.func162,Tryz.ntmps162
        go_wp2_with (first | (go_at_call 210; refine (HK4.out _ HbW.out).mono ?_; rintro e w4 ⟨rfl,hB'⟩; have HB4 : Hid (Below ((w.alloc (.cells C 47)).alloc (.cells #[S x.name,I x.prio, .bool x.full,I x.act, .slice s4.a s4.n s4.c, .slice s5.a s5.n s5.c, .slice s6.a s6.n s6.c, .slice s7.a s7.n s7.c] 58)).heap.size ((w.alloc (.cells C 47)).alloc (.cells #[S x.name,I x.prio, .bool x.full,I x.act, .slice s4.a s4.n s4.c, .slice s5.a s5.n s5.c, .slice s6.a s6.n s6.c, .slice s7.a s7.n s7.c] 58)) w4) := hB'; clear hB'; obtain ⟨⟨c10,c12,c13,c17⟩,⟨t3,t4,t5,t6,t7⟩,hCf,hbw⟩ := HF.out _ HB4.out; have Hbw4 : Hid (Below w.heap.size w w4) := hbw; clear hCf hbw HK4) | (go_at_call 210; refine (HK5.out _ Hbw4.out).mono ?_; clear c10 c12 c13 c17 t3 t4 t5 t6 t7; rintro e w5 ⟨rfl,hB'⟩; have HB5 : Hid (Below ((w.alloc (.cells C 47)).alloc (.cells #[S x.name,I x.prio, .bool x.full,I x.act, .slice s4.a s4.n s4.c, .slice s5.a s5.n s5.c, .slice s6.a s6.n s6.c, .slice s7.a s7.n s7.c] 58)).heap.size ((w.alloc (.cells C 47)).alloc (.cells #[S x.name,I x.prio, .bool x.full,I x.act, .slice s4.a s4.n s4.c, .slice s5.a s5.n s5.c, .slice s6.a s6.n s6.c, .slice s7.a s7.n s7.c] 58)) w5) := HB4.out.trans (hB'.mono HB4.out.size); clear hB'; obtain ⟨⟨c10,c12,c13,c17⟩,⟨t3,t4,t5,t6,t7⟩,hCf,hbw⟩ := HF.out _ HB5.out; have Hbw5 : Hid (Below w.heap.size w w5) := hbw; clear hCf hbw HK5) | (go_at_call 210; refine (HK6.out _ Hbw5.out).mono ?_; clear c10 c12 c13 c17 t3 t4 t5 t6 t7; rintro e w6 ⟨rfl,hB'⟩; have HB6 : Hid (Below ((w.alloc (.cells C 47)).alloc (.cells #[S x.name,I x.prio, .bool x.full,I x.act, .slice s4.a s4.n s4.c, .slice s5.a s5.n s5.c, .slice s6.a s6.n s6.c, .slice s7.a s7.n s7.c] 58)).heap.size ((w.alloc (.cells C 47)).alloc (.cells #[S x.name,I x.prio, .bool x.full,I x.act, .slice s4.a s4.n s4.c, .slice s5.a s5.n s5.c, .slice s6.a s6.n s6.c, .slice s7.a s7.n s7.c] 58)) w6) := HB5.out.trans (hB'.mono HB5.out.size); clear hB'; obtain ⟨⟨c10,c12,c13,c17⟩,⟨t3,t4,t5,t6,t7⟩,hCf,hbw⟩ := HF.out _ HB6.out; have Hbw6 : Hid (Below w.heap.size w w6) := hbw; clear hCf hbw HK6) | (go_at_call 210; refine (HK7.out _ Hbw6.out).mono ?_; clear c10 c12 c13 c17 t3 t4 t5 t6 t7; rintro e w7 ⟨rfl,hB'⟩; have HB7 : Hid (Below ((w.alloc (.cells C 47)).alloc (.cells #[S x.name,I x.prio, .bool x.full,I x.act, .slice s4.a s4.n s4.c, .slice s5.a s5.n s5.c, .slice s6.a s6.n s6.c, .slice s7.a s7.n s7.c] 58)).heap.size ((w.alloc (.cells C 47)).alloc (.cells #[S x.name,I x.prio, .bool x.full,I x.act, .slice s4.a s4.n s4.c, .slice s5.a s5.n s5.c, .slice s6.a s6.n s6.c, .slice s7.a s7.n s7.c] 58)) w7) := HB6.out.trans (hB'.mono HB6.out.size); clear hB'; obtain ⟨⟨c10,c12,c13,c17⟩,⟨t3,t4,t5,t6,t7⟩,hCf,hbw⟩ := HF.out _ HB7.out; have Hbw7 : Hid (Below w.heap.size w w7) := hbw; clear hCf hbw HK7))
        go_ret
        exact ⟨qa3 HE.out.symm,Hbw7.out⟩
       ·have hno : (decide (0 < s6.n) && x.act != 1) = false := by
         rcases hsp with ⟨h0,ha⟩ | h0
         ·rw [ha]; simp
         ·simp; omega
        rw [if_neg (by rw [hno]; decide)] at HR
        have hsp2 : ((s6.n : Int) > 0 ∧ (x.act != 1) = false) ∨ ¬ (s6.n : Int) > 0 := by
         rcases hsp with ⟨h0,ha⟩ | h0
         ·exact .inl ⟨by omega,ha⟩
         ·exact .inr (by omega)
        clear hsp hno
        rcases hsp2 with ⟨h0,ha⟩ | h0 <;>
        (go_enter Tryz.func162,Tryz.ntmps162
         go_wp2_with (first | (go_at_call 210; refine (HK4.out _ HbW.out).mono ?_; rintro e w4 ⟨rfl,hB'⟩; have HB4 : Hid (Below ((w.alloc (.cells C 47)).alloc (.cells #[S x.name,I x.prio, .bool x.full,I x.act, .slice s4.a s4.n s4.c, .slice s5.a s5.n s5.c, .slice s6.a s6.n s6.c, .slice s7.a s7.n s7.c] 58)).heap.size ((w.alloc (.cells C 47)).alloc (.cells #[S x.name,I x.prio, .bool x.full,I x.act, .slice s4.a s4.n s4.c, .slice s5.a s5.n s5.c, .slice s6.a s6.n s6.c, .slice s7.a s7.n s7.c] 58)) w4) := hB'; clear hB'; obtain ⟨⟨c10,c12,c13,c17⟩,⟨t3,t4,t5,t6,t7⟩,hCf,hbw⟩ := HF.out _ HB4.out; have Hbw4 : Hid (Below w.heap.size w w4) := hbw; clear hCf hbw HK4) | (go_at_call 210; refine (HK5.out _ Hbw4.out).mono ?_; clear c10 c12 c13 c17 t3 t4 t5 t6 t7; rintro e w5 ⟨rfl,hB'⟩; have HB5 : Hid (Below ((w.alloc (.cells C 47)).alloc (.cells #[S x.name,I x.prio, .bool x.full,I x.act, .slice s4.a s4.n s4.c, .slice s5.a s5.n s5.c, .slice s6.a s6.n s6.c, .slice s7.a s7.n s7.c] 58)).heap.size ((w.alloc (.cells C 47)).alloc (.cells #[S x.name,I x.prio, .bool x.full,I x.act, .slice s4.a s4.n s4.c, .slice s5.a s5.n s5.c, .slice s6.a s6.n s6.c, .slice s7.a s7.n s7.c] 58)) w5) := HB4.out.trans (hB'.mono HB4.out.size); clear hB'; obtain ⟨⟨c10,c12,c13,c17⟩,⟨t3,t4,t5,t6,t7⟩,hCf,hbw⟩ := HF.out _ HB5.out; have Hbw5 : Hid (Below w.heap.size w w5) := hbw; clear hCf hbw HK5) | (go_at_call 210; refine (HK6.out _ Hbw5.out).mono ?_; clear c10 c12 c13 c17 t3 t4 t5 t6 t7; rintro e w6 ⟨rfl,hB'⟩; have HB6 : Hid (Below ((w.alloc (.cells C 47)).alloc (.cells #[S x.name,I x.prio, .bool x.full,I x.act, .slice s4.a s4.n s4.c, .slice s5.a s5.n s5.c, .slice s6.a s6.n s6.c, .slice s7.a s7.n s7.c] 58)).heap.size ((w.alloc (.cells C 47)).alloc (.cells #[S x.name,I x.prio, .bool x.full,I x.act, .slice s4.a s4.n s4.c, .slice s5.a s5.n s5.c, .slice s6.a s6.n s6.c, .slice s7.a s7.n s7.c] 58)) w6) := HB5.out.trans (hB'.mono HB5.out.size); clear hB'; obtain ⟨⟨c10,c12,c13,c17⟩,⟨t3,t4,t5,t6,t7⟩,hCf,hbw⟩ := HF.out _ HB6.out; have Hbw6 : Hid (Below w.heap.size w w6) := hbw; clear hCf hbw HK6) | (go_at_call 210; refine (HK7.out _ Hbw6.out).mono ?_; clear c10 c12 c13 c17 t3 t4 t5 t6 t7; rintro e w7 ⟨rfl,hB'⟩; have HB7 : Hid (Below ((w.alloc (.cells C 47)).alloc (.cells #[S x.name,I x.prio, .bool x.full,I x.act, .slice s4.a s4.n s4.c, .slice s5.a s5.n s5.c, .slice s6.a s6.n s6.c, .slice s7.a s7.n s7.c] 58)).heap.size ((w.alloc (.cells C 47)).alloc (.cells #[S x.name,I x.prio, .bool x.full,I x.act, .slice s4.a s4.n s4.c, .slice s5.a s5.n s5.c, .slice s6.a s6.n s6.c, .slice s7.a s7.n s7.c] 58)) w7) := HB6.out.trans (hB'.mono HB6.out.size); clear hB'; obtain ⟨⟨c10,c12,c13,c17⟩,⟨t3,t4,t5,t6,t7⟩,hCf,hbw⟩ := HF.out _ HB7.out; have Hbw7 : Hid (Below w.heap.size w w7) := hbw; clear hCf hbw HK7))
         clear c10 c12 c13 c17 t3 t4 t5 t6 t7 hst a0 a1 a2 a3 a4 a5 a6 a7 f11 f10
         go_loopw [6,7] (fun nv kv wq => ∃ k m : Nat,k ≤ s5.n ∧ kv = .int .i64 k ∧ nv = .int .i64 m ∧ m ≤ k ∧ Hid (m = intN c (x.res.take k) ∧ Below ((w.alloc (.cells C 47)).alloc (.cells #[S x.name,I x.prio, .bool x.full,I x.act, .slice s4.a s4.n s4.c, .slice s5.a s5.n s5.c, .slice s6.a s6.n s6.c, .slice s7.a s7.n s7.c] 58)).heap.size ((w.alloc (.cells C 47)).alloc (.cells #[S x.name,I x.prio, .bool x.full,I x.act, .slice s4.a s4.n s4.c, .slice s5.a s5.n s5.c, .slice s6.a s6.n s6.c, .slice s7.a s7.n s7.c] 58)) wq)) (fun _ kv _ => s5.n - (intOf kv).toNat)
         case atStart => exact ⟨0,0,by omega,rfl,rfl,by omega,rfl,HB7.out⟩
         case round =>
          clear HB7 HB6 HB5 HB4 Hbw4 Hbw5 Hbw6 Hbw7
          obtain ⟨k,m,hk,rfl,rfl,hmk,HK⟩ := hrel
          obtain ⟨⟨c10,c12,c13,c17⟩,⟨t3,t4,t5,t6,t7⟩,hCf,hbw⟩ := HF.out _ HK.out.2
          clear c10 c17 t3 t4 t7
          by_cases hkl : k < s5.n
          ·have hkl' : (k : Int) < s5.n := by omega
           have hkx : k < x.res.length := by rw [← HN5.out]; exact hkl
           obtain ⟨rv,hrv⟩ : ∃ y,x.res[k]? = some y := ⟨_,List.getElem?_eq_getElem hkx⟩
           have hbd : 0 ≤ rv ∧ rv < v.r.n := by simpa [isId] using HIDR.out rv (List.mem_of_getElem? hrv)
           obtain ⟨g5,o5,e5,hg5,b5'⟩ := qau (HR5.out.below hbw (fun _ _ _ _ h => h)) hrv
           obtain ⟨rn,rfl⟩ := Int.eq_ofNat_of_zero_le hbd.1
           have hrn : (rn : Int) < v.r.n := hbd.2
           obtain ⟨y,hy⟩ : ∃ y,c.ress[rn]? = some y := ⟨_,List.getElem?_eq_getElem (by have := HNN.out.2.1; omega)⟩
           obtain ⟨gr,og,er,hgr,d0,d1,d2⟩ := qb5 hCf hy
           have HS : Hid (intN c (x.res.take (k + 1)) = m + (if y.kind == 3 then 1 else 0)) := by
            show _ = _
            rw [qdt c _ k _ hrv, ← HK.out.1]
            simp [rkind,hy]
           rw [e5] at t5
           rw [er] at c12
           clear hrv hbd e5 er hy hkx hCf hbw d0 d2 c13 t6
           cases hk3 : y.kind == 3 with
           | true =>
            have HS2 : Hid (m + 1 = intN c (x.res.take (k + 1))) := by show _ = _; rw [HS.out,hk3]; rfl
            go_wp2
            go_big_quiet (fail)
            go_wp2
            go_roundw
            case rel => exact ⟨k + 1,m + 1,by omega,by go_num,by go_num,by omega,HS2.out,below_drewN HK.out.2 _⟩
            case measure => simp [intOf]; omega
           | false =>
            have HS2 : Hid (m = intN c (x.res.take (k + 1))) := by show _ = _; rw [HS.out,hk3]; rfl
            go_wp2
            go_big_quiet (fail)
            go_wp2
            go_roundw
            case rel => exact ⟨k + 1,m,by omega,by go_num,rfl,by omega,HS2.out,below_drewN HK.out.2 _⟩
            case measure => simp [intOf]; omega
          ·obtain rfl : k = s5.n := by omega
           have hkl' : ¬ ((s5.n : Nat) : Int) < (s5.n : Nat) := by omega
           have HM1 : Hid (m = intN c x.res) := by show _ = _; rw [HK.out.1,List.take_of_length_le (by rw [HN5.out]; exact Nat.le_refl _)]
           by_cases hm1 : 1 < m
           ·have hm1' : (m : Int) > 1 := by omega
            have HE : Hid (R = 70) := by show _ = _; rw [HR.out,if_pos (by rw [← HM1.out]; exact hm1)]
            clear HR hCf c12 c13 t6
            have Hbw : Hid (Below w.heap.size w _) := hbw
            clear hbw
            go_wp2
            go_ret
            exact ⟨qa3 HE.out.symm,Hbw.out⟩
           ·have hm1' : ¬ (m : Int) > 1 := by omega
            have HR2 : Hid (R = if qav c 0 x.evs = true then 0 else 70) := by show _ = _; rw [HR.out,if_neg (by rw [← HM1.out]; exact hm1)]
            clear HR hCf hbw
            go_wp2
            clear c12 c13 t5 t6 hm1 hm1' HM1 hmk
            go_loopw [8,9,10] (fun bv kv _ wq => ∃ (k : Nat) (t : Int),k ≤ s6.n ∧ kv = .int .i64 k ∧ bv = .int .u32 t ∧ Hid (qav c 0 x.evs = qav c t (x.evs.drop k) ∧ Below ((w.alloc (.cells C 47)).alloc (.cells #[S x.name,I x.prio, .bool x.full,I x.act, .slice s4.a s4.n s4.c, .slice s5.a s5.n s5.c, .slice s6.a s6.n s6.c, .slice s7.a s7.n s7.c] 58)).heap.size ((w.alloc (.cells C 47)).alloc (.cells #[S x.name,I x.prio, .bool x.full,I x.act, .slice s4.a s4.n s4.c, .slice s5.a s5.n s5.c, .slice s6.a s6.n s6.c, .slice s7.a s7.n s7.c] 58)) wq)) (fun _ kv _ _ => s6.n - (intOf kv).toNat)
            case atStart => exact ⟨0,0,by omega,rfl,rfl,rfl,HK.out.2⟩
            case round =>
             clear HK
             obtain ⟨k,t,hk,rfl,rfl,HK⟩ := hrel
             obtain ⟨⟨c10,c12,c13,c17⟩,⟨t3,t4,t5,t6,t7⟩,hCf,hbw⟩ := HF.out _ HK.out.2
             clear c10 c12 c17 t3 t4 t5 t7
             by_cases hkl : k < s6.n
             ·first
              | (exfalso; omega)
              | (
               have hkm : (k : Int) < s6.n := by omega
               have hkx : k < x.evs.length := by rw [← HN6.out]; exact hkl
               obtain ⟨ev,hev⟩ : ∃ y,x.evs[k]? = some y := ⟨_,List.getElem?_eq_getElem hkx⟩
               have hbd : 0 ≤ ev ∧ ev < v.e.n := by simpa [isId] using HIDE.out ev (List.mem_of_getElem? hev)
               obtain ⟨g6,o6,e6,hg6,b6'⟩ := qau (HR6.out.below hbw (fun _ _ _ _ h => h)) hev
               obtain ⟨en,rfl⟩ := Int.eq_ofNat_of_zero_le hbd.1
               have hen : (en : Int) < v.e.n := hbd.2
               obtain ⟨y,hy⟩ : ∃ y,c.evs[en]? = some y := ⟨_,List.getElem?_eq_getElem (by have := HNN.out.2.2.1; omega)⟩
               obtain ⟨ge,oe,ee,hge,d0,d1,d2⟩ := qds hCf hy
               have HA : Hid (qav c 0 x.evs = (!(bits BinOp.and IntKind.u32 t (y.mask : Int) != 0) && qav c (bits BinOp.or IntKind.u32 t (y.mask : Int)) (x.evs.drop (k + 1)))) := by
                show _ = _
                rw [HK.out.1,List.drop_eq_getElem_cons hkx,qav]
                rw [List.getElem?_eq_getElem hkx] at hev
                rw [Option.some.inj hev]
                simp [qjl,hy]
               have Hbw : Hid (Below w.heap.size w _) := hbw
               rw [e6] at t6
               rw [ee] at c13
               clear hev hbd e6 ee hy hkx hCf hbw d0 d2
               cases hb : (bits BinOp.and IntKind.u32 t (y.mask : Int) != 0) with
               | true =>
                have HE : Hid (R = 70) := by show _ = _; rw [HR2.out,if_neg (by rw [HA.out,hb]; simp)]
                go_wp2
                go_big_quiet (fail)
                go_wp2
                go_ret
                exact ⟨qa3 HE.out.symm,below_drewN Hbw.out _⟩
               | false =>
                have HA2 : Hid (qav c 0 x.evs = qav c (bits BinOp.or IntKind.u32 t (y.mask : Int)) (x.evs.drop (k + 1))) := by show _ = _; rw [HA.out,hb]; rfl
                go_wp2
                go_big_quiet (fail)
                go_wp2
                go_roundw
                case rel => exact ⟨k + 1,_,by omega,by go_num,rfl,HA2.out,below_drewN HK.out.2 _⟩
                case measure => simp [intOf]; omega)
             ·obtain rfl : k = s6.n := by omega
              have hkm : ¬ ((s6.n : Nat) : Int) < (s6.n : Nat) := by omega
              have HE : Hid (R = 0) := by show _ = _; rw [HR2.out,HK.out.1,List.drop_eq_nil_of_le (by rw [HN6.out]; exact Nat.le_refl _)]; rfl
              have Hbw : Hid (Below w.heap.size w _) := hbw
              clear hCf hbw
              go_wp2
              go_ret
              exact ⟨qa3 HE.out.symm,Hbw.out⟩)
end Go.Proofs.YtmidaeljeoifdaaGreatDoor
namespace Go.Proofs.YtmidaeljeoifdaaGreatDoor
set_option linter.unusedSimpArgs false
set_option linter.unusedVariables false
set_option maxHeartbeats 16000000
set_option maxRecDepth 100000
def almE (c : Cf) (x : Al) : Int :=
 if isId x.ctr c.ctrs.length = false then 73
 else if (actE c x.ac 1 3 != 0) = true then actE c x.ac 1 3
 else if risF (-1) x.auto c.modes.length = false then 73
 else if qcv c x = true then 0 else 74
def isrE (c : Cf) (i : Nat) (x : Is) : Int :=
 if (inR x.cat 1 2 && inR x.prio 64 127) = false then 74
 else if (risF (-1) x.res c.ress.length && risF (-1) x.msgs c.msgs.length) = false then 73
 else if 0 < intN c x.res then 70
 else if (x.cat == 1 && decide (0 < x.res.length + x.msgs.length)) = true then 70
 else if (c.isrs.take i).all (fun a => !qan a x) = true then 0 else 70
def msgE (c : Cf) (x : Ms) : Int :=
 if msgF x = false then 74
 else if (x.kind == 1) = true then (if (inR x.ac.kind 0 0 && qaf x.ac) = true then 0 else 74)
 else if (isId x.frm c.msgs.length && qcn c x.frm == 1) = false then 73
 else if (decide ((x.init : Int) ≤ 4294967295) && fitI x.init (mlen c x.frm)) = false then 74
 else actE c x.ac 0 4
def evE (x : Ev) : Int := if (x.mask : Int) = 0 then 74 else 0
theorem qrv (c : Cf) (j : Nat) (x : Ev) : qab qb0 0 (evQ c j x) = qbr (evE x) := by
 have e1 : qab qb0 0 (evQ c j x) = if ((x.mask : Int) != 0) = true then none else some 74 := rfl
 rw [e1]
 unfold evE qbr
 by_cases h : (x.mask : Int) = 0
 ·rw [if_neg (by simp [h]),if_pos h]; rfl
 ·rw [if_pos (by simpa using h),if_neg h]; rfl
theorem qrw (c : Cf) (j : Nat) (x : Tk) (hx : c.tasks[j]? = some x) : qab qb3 0 (tkQ c j x) = qbr (tskE c x) := by
 have hex : extL c (j : Int) = decide (0 < x.evs.length) := by
  have hj := (List.getElem?_eq_some_iff.1 hx).1
  unfold extL
  rw [qeh hj]
  simp [hx]
 unfold qb3
 simp only [qab,tkQ]
 unfold tskE
 rw [hex]
 generalize (inR x.prio 0 63 && inR x.act 1 255) = b0
 generalize (risF (-1) x.auto c.modes.length && risF (-1) x.res c.ress.length && risF (-1) x.evs c.evs.length && risF (-1) x.msgs c.msgs.length) = b1
 generalize qav c 0 x.evs = b5
 generalize intN c x.res = m
 generalize x.evs.length = n
 cases b0 with
 | false => rfl
 | true =>
  cases b1 with
  | false => rfl
  | true =>
   by_cases h2 : 32 < n
   ·rw [if_pos rfl,if_pos rfl,if_neg (by simp; omega),if_neg (show ¬ (true = false) by decide),if_neg (show ¬ (true = false) by decide),if_pos h2]; rfl
   ·rw [if_pos rfl,if_pos rfl,if_pos (by simp; omega),if_neg (show ¬ (true = false) by decide),if_neg (show ¬ (true = false) by decide),if_neg h2]
    have h3 : (!decide (0 < n) || x.act == 1) = !(decide (0 < n) && x.act != 1) := by simp [bne]
    rw [h3]
    generalize (decide (0 < n) && x.act != 1) = b3
    cases b3 with
    | true => rfl
    | false =>
     rw [if_pos (show (!false) = true from rfl),if_neg (show ¬ (false = true) by decide)]
     by_cases h4 : 1 < m
     ·rw [if_neg (by simp; omega),if_pos h4]; rfl
     ·rw [if_pos (by simp; omega),if_neg h4]
      cases b5 <;> rfl
theorem qig (c : Cf) (a : Ac) (lo hi : Int) (cs : List Ck) (B : Nat → Bool) (k : Nat) (x1 x2 x3 x4 x5 : Ck) (y1 : x1.code = 74) (y2 : x2.code = 74) (y3 : x3.code = 73) (y4 : x4.code = 70) (y5 : x5.code = 72)
  (h1 : B k = inR a.kind lo hi) (h2 : B (k + 1) = qaf a) (h3 : B (k + 1 + 1) = objB c a) (h4 : B (k + 1 + 1 + 1) = ownB c a) (h5 : B (k + 1 + 1 + 1 + 1) = calB a) :
  qab (x1 :: x2 :: x3 :: x4 :: x5 :: cs) k B = if actE c a lo hi = 0 then qab cs (k + 1 + 1 + 1 + 1 + 1) B else some (actE c a lo hi) := by
 simp only [qab,h1,h2,h3,h4,h5,y1,y2,y3,y4,y5]
 unfold actE
 cases inR a.kind lo hi <;> cases qaf a <;> cases objB c a <;> cases ownB c a <;> cases calB a <;> simp
theorem qrx (c : Cf) (j : Nat) (x : Al) : qab (qah 0) 0 (alQ c j x) = qbr (almE c x) := by
 have e0 : qab (qah 0) 0 (alQ c j x) = if isId x.ctr c.ctrs.length = true then qab (qah 0).tail 1 (alQ c j x) else some 73 := rfl
 have e1 : qab (qah 0).tail 1 (alQ c j x) = if actE c x.ac 1 3 = 0 then qab ((qah 0).drop 6) 6 (alQ c j x) else some (actE c x.ac 1 3) :=
  qig c x.ac 1 3 _ _ 1 _ _ _ _ _ rfl rfl rfl rfl rfl rfl rfl rfl rfl rfl
 have e2 : qab ((qah 0).drop 6) 6 (alQ c j x) = if risF (-1) x.auto c.modes.length = true then (if qcv c x = true then none else some 74) else some 73 := rfl
 rw [e0,e1,e2]
 unfold almE
 generalize isId x.ctr c.ctrs.length = b0
 generalize actE c x.ac 1 3 = a
 generalize risF (-1) x.auto c.modes.length = b1
 generalize qcv c x = b2
 cases b0 with
 | false => rfl
 | true =>
  by_cases ha : a = 0
  ·subst ha
   cases b1 <;> cases b2 <;> rfl
  ·rw [if_pos rfl,if_neg ha,if_neg (by decide),if_pos (show (a != 0) = true by simpa using ha),qbr,if_neg ha]
theorem qry (c : Cf) (j : Nat) (x : Is) : qab qbb 0 (isQ c j x) = qbr (isrE c j x) := by
 unfold qbb
 simp only [qab,isQ]
 unfold isrE
 generalize (inR x.cat 1 2 && inR x.prio 64 127) = b0
 generalize (risF (-1) x.res c.ress.length && risF (-1) x.msgs c.msgs.length) = b1
 generalize (c.isrs.take j).all (fun a => !qan a x) = b4
 have h3 : (x.cat != 1 || ((x.res.length : Int) == 0 && (x.msgs.length : Int) == 0)) = !(x.cat == 1 && decide (0 < x.res.length + x.msgs.length)) := by
  cases hc : x.cat == 1
  ·simp [bne,hc]
  ·simp only [bne,hc,Bool.not_true,Bool.false_or,Bool.true_and]
   rw [Bool.eq_iff_iff]
   simp
 rw [h3]
 generalize (x.cat == 1 && decide (0 < x.res.length + x.msgs.length)) = b3
 generalize intN c x.res = m
 cases b0 with
 | false => rfl
 | true =>
  cases b1 with
  | false => rfl
  | true =>
   by_cases h2 : 0 < m
   ·rw [if_pos rfl,if_pos rfl,if_neg (by simp; omega),if_neg (show ¬ (true = false) by decide),if_neg (show ¬ (true = false) by decide),if_pos h2]; rfl
   ·rw [if_pos rfl,if_pos rfl,if_pos (by simp; omega),if_neg (show ¬ (true = false) by decide),if_neg (show ¬ (true = false) by decide),if_neg h2]
    cases b3 <;> cases b4 <;> rfl
theorem qrz (c : Cf) (j : Nat) (x : Ms) : qab (qag 0) 0 (msQ c j x) = qbr (msgE c x) := by
 have e0 : qab (qag 0) 0 (msQ c j x) = if msgF x = true then (if (x.kind == 1 || (isId x.frm c.msgs.length && qcn c x.frm == 1)) = true then (if (x.kind == 1 || (decide ((x.init : Int) ≤ 4294967295) && fitI x.init (mlen c x.frm))) = true then qab ((qag 0).drop 3) 3 (msQ c j x) else some 74) else some 73) else some 74 := rfl
 have e1 : qab ((qag 0).drop 3) 3 (msQ c j x) = if actE c x.ac 0 (if x.kind == 1 then 0 else 4) = 0 then qab [] 8 (msQ c j x) else some (actE c x.ac 0 (if x.kind == 1 then 0 else 4)) :=
  qig c x.ac 0 (if x.kind == 1 then 0 else 4) _ _ 3 _ _ _ _ _ rfl rfl rfl rfl rfl rfl rfl rfl rfl rfl
 have e2 : qab [] 8 (msQ c j x) = none := rfl
 rw [e0,e1,e2]
 unfold msgE
 generalize msgF x = b0
 cases hk : x.kind == 1 with
 | true =>
  cases b0 with
  | false => rfl
  | true =>
   rw [Bool.true_or,Bool.true_or,if_pos rfl,if_pos rfl,if_pos rfl,if_neg (show ¬ (true = false) by decide)]
   have ha : actE c x.ac 0 (if true = true then 0 else 4) = if (inR x.ac.kind 0 0 && qaf x.ac) = true then 0 else 74 := by
    rw [if_pos rfl]
    unfold actE
    cases hb : inR x.ac.kind 0 0 && qaf x.ac with
    | false => rfl
    | true =>
     have hk0 : x.ac.kind = 0 := by
      have := (and2 hb).1
      simp [inR] at this
      omega
     have h1 : objB c x.ac = true := by unfold objB; rw [hk0]; rfl
     have h2 : ownB c x.ac = true := by unfold ownB; rw [hk0]; rfl
     have h3 : calB x.ac = true := by unfold calB; rw [hk0]; rfl
     rw [h1,h2,h3]; rfl
   rw [ha,if_pos (show true = true from rfl)]
   rfl
 | false =>
  rw [Bool.false_or,Bool.false_or]
  generalize (isId x.frm c.msgs.length && qcn c x.frm == 1) = b1
  generalize (decide ((x.init : Int) ≤ 4294967295) && fitI x.init (mlen c x.frm)) = b2
  rw [if_neg (show ¬ (false = true) by decide)]
  generalize actE c x.ac 0 4 = a
  cases b0 with
  | false => rfl
  | true =>
   cases b1 with
   | false => rfl
   | true =>
    cases b2 with
    | false => rfl
    | true => rfl
end Go.Proofs.YtmidaeljeoifdaaGreatDoor
