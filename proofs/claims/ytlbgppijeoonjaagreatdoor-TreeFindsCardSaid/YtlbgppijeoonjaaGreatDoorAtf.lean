import Derived.Test.YtlbgppijeoonjaaGreatDoorAtr3
namespace Go.Proofs.YtlbgppijeoonjaaGreatDoor
open Go.RowKit
set_option linter.unusedVariables false

/-! ### Attr, where the path's length or its first number will not do -/
set_option maxHeartbeats 4000000 in
set_option maxRecDepth 100000 in
theorem attr_short (w : World) (tv tc : List UInt8) (tnd : Bool) (tnt : List UInt8) (oa : Option Addr) (N cap : Nat) (pa : Option Addr) (m capp : Nat) (hm : m < 2) :
    Calls Tryz.prog 9 #[.agg #[.string ⟨tv.toArray⟩, .string ⟨tc.toArray⟩, .slice oa N cap, .bool tnd, .string ⟨tnt.toArray⟩], .slice pa m capp] w fun e w' => e = .returned (.tuple #[.agg zero12, .int .i64 2]) ∧ Below w.heap.size w w' := by
  have hm2 : (m : Int) < 2 := by omega
  clear hm
  go_enter Tryz.func9, Tryz.ntmps9
  go_wp2
  have hb1 := ((Below.refl w.heap.size w).alloc (Nat.le_refl _) (.cells #[.string ⟨tv.toArray⟩, .string ⟨tc.toArray⟩, .slice oa N cap, .bool tnd, .string ⟨tnt.toArray⟩] 24)).alloc (by simp) (.cells #[.string ⟨#[]⟩, .int .i64 0, .int .i64 0, .int .i64 0, .int .i64 0, .string ⟨#[]⟩, .int .u32 0, .bool false, .bool false, .slice none 0 0, .bool false, .string ⟨#[]⟩] 34)
  have h1 := heap2_0' w (.cells #[.string ⟨tv.toArray⟩, .string ⟨tc.toArray⟩, .slice oa N cap, .bool tnd, .string ⟨tnt.toArray⟩] 24) (.cells #[.string ⟨#[]⟩, .int .i64 0, .int .i64 0, .int .i64 0, .int .i64 0, .string ⟨#[]⟩, .int .u32 0, .bool false, .bool false, .slice none 0 0, .bool false, .string ⟨#[]⟩] 34)
  have h2 := heap2_1' w (.cells #[.string ⟨tv.toArray⟩, .string ⟨tc.toArray⟩, .slice oa N cap, .bool tnd, .string ⟨tnt.toArray⟩] 24) (.cells #[.string ⟨#[]⟩, .int .i64 0, .int .i64 0, .int .i64 0, .int .i64 0, .string ⟨#[]⟩, .int .u32 0, .bool false, .bool false, .slice none 0 0, .bool false, .string ⟨#[]⟩] 34)
  generalize ((w.alloc (.cells #[.string ⟨tv.toArray⟩, .string ⟨tc.toArray⟩, .slice oa N cap, .bool tnd, .string ⟨tnt.toArray⟩] 24)).alloc (.cells #[.string ⟨#[]⟩, .int .i64 0, .int .i64 0, .int .i64 0, .int .i64 0, .string ⟨#[]⟩, .int .u32 0, .bool false, .bool false, .slice none 0 0, .bool false, .string ⟨#[]⟩] 34)) = w1 at *
  obtain ⟨⟨_, _, t2, _, _⟩, _⟩ := var5 h1
  go_quiet (fail)
  have hbq : Below w1.heap.size w1 (w1.drewN nq) := below_drewN (Below.refl _ _) nq
  have hb2 := hb1.trans (hbq.mono hb1.size)
  have h2b := (hbq.block _ (heap_lt h2)).trans h2
  clear hb1 h1 h2 t2 hbq
  generalize w1.drewN nq = w2 at *
  obtain ⟨⟨u0, u1, u2, u3, u4, u5, u6, u7, u8, u9, u10, u11⟩, fu⟩ := var12 h2b
  have hrb7 := set12_at w2 (w.heap.size + 1) _ _ _ _ _ _ _ _ _ _ _ _ _ (.string ⟨#[]⟩) (.int .i64 0) (.int .i64 0) (.int .i64 0) (.int .i64 0) (.string ⟨#[]⟩) (.int .u32 0) (.bool false) (.bool false) (.slice none 0 0) (.bool false) (.string ⟨#[]⟩) h2b
  have hg7 := set12_grown w2 (w.heap.size + 1) (.string ⟨#[]⟩) (.int .i64 0) (.int .i64 0) (.int .i64 0) (.int .i64 0) (.string ⟨#[]⟩) (.int .u32 0) (.bool false) (.bool false) (.slice none 0 0) (.bool false) (.string ⟨#[]⟩)
  have hbw7 := hb2.trans (below_of_grown hg7 (by omega) hb2.size)
  clear hb2 hg7 h2b
  go_wp2
  exact bodyPost_ret (res_attr2 Tryz.results9 _ (w.heap.size + 1) _ _ _ _ _ _ _ _ _ _ _ _ _ _ rfl rfl hrb7) rfl ⟨rfl, hbw7⟩
set_option maxHeartbeats 4000000 in
set_option maxRecDepth 100000 in
theorem rattr_short (w : World) (tv tc : List UInt8) (tnd : Bool) (tnt : List UInt8) (oa : Option Addr) (N cap : Nat) (pa : Option Addr) (m capp : Nat) (hm : m < 2) :
    Calls Tryz.prog 10 #[.agg #[.string ⟨tv.toArray⟩, .string ⟨tc.toArray⟩, .slice oa N cap, .bool tnd, .string ⟨tnt.toArray⟩], .slice pa m capp] w fun e w' => e = .returned (.tuple #[.agg zero12, .int .i64 2]) ∧ Below w.heap.size w w' := by
  have hm2 : (m : Int) < 2 := by omega
  clear hm
  go_enter Tryz.func10, Tryz.ntmps10
  go_wp2
  have hb1 := ((Below.refl w.heap.size w).alloc (Nat.le_refl _) (.cells #[.string ⟨tv.toArray⟩, .string ⟨tc.toArray⟩, .slice oa N cap, .bool tnd, .string ⟨tnt.toArray⟩] 24)).alloc (by simp) (.cells #[.string ⟨#[]⟩, .int .i64 0, .int .i64 0, .int .i64 0, .int .i64 0, .string ⟨#[]⟩, .int .u32 0, .bool false, .bool false, .slice none 0 0, .bool false, .string ⟨#[]⟩] 34)
  have h1 := heap2_0' w (.cells #[.string ⟨tv.toArray⟩, .string ⟨tc.toArray⟩, .slice oa N cap, .bool tnd, .string ⟨tnt.toArray⟩] 24) (.cells #[.string ⟨#[]⟩, .int .i64 0, .int .i64 0, .int .i64 0, .int .i64 0, .string ⟨#[]⟩, .int .u32 0, .bool false, .bool false, .slice none 0 0, .bool false, .string ⟨#[]⟩] 34)
  have h2 := heap2_1' w (.cells #[.string ⟨tv.toArray⟩, .string ⟨tc.toArray⟩, .slice oa N cap, .bool tnd, .string ⟨tnt.toArray⟩] 24) (.cells #[.string ⟨#[]⟩, .int .i64 0, .int .i64 0, .int .i64 0, .int .i64 0, .string ⟨#[]⟩, .int .u32 0, .bool false, .bool false, .slice none 0 0, .bool false, .string ⟨#[]⟩] 34)
  generalize ((w.alloc (.cells #[.string ⟨tv.toArray⟩, .string ⟨tc.toArray⟩, .slice oa N cap, .bool tnd, .string ⟨tnt.toArray⟩] 24)).alloc (.cells #[.string ⟨#[]⟩, .int .i64 0, .int .i64 0, .int .i64 0, .int .i64 0, .string ⟨#[]⟩, .int .u32 0, .bool false, .bool false, .slice none 0 0, .bool false, .string ⟨#[]⟩] 34)) = w1 at *
  obtain ⟨⟨_, _, t2, _, _⟩, _⟩ := var5 h1
  go_quiet (fail)
  have hbq : Below w1.heap.size w1 (w1.drewN nq) := below_drewN (Below.refl _ _) nq
  have hb2 := hb1.trans (hbq.mono hb1.size)
  have h2b := (hbq.block _ (heap_lt h2)).trans h2
  clear hb1 h1 h2 t2 hbq
  generalize w1.drewN nq = w2 at *
  obtain ⟨⟨u0, u1, u2, u3, u4, u5, u6, u7, u8, u9, u10, u11⟩, fu⟩ := var12 h2b
  have hrb7 := set12_at w2 (w.heap.size + 1) _ _ _ _ _ _ _ _ _ _ _ _ _ (.string ⟨#[]⟩) (.int .i64 0) (.int .i64 0) (.int .i64 0) (.int .i64 0) (.string ⟨#[]⟩) (.int .u32 0) (.bool false) (.bool false) (.slice none 0 0) (.bool false) (.string ⟨#[]⟩) h2b
  have hg7 := set12_grown w2 (w.heap.size + 1) (.string ⟨#[]⟩) (.int .i64 0) (.int .i64 0) (.int .i64 0) (.int .i64 0) (.string ⟨#[]⟩) (.int .u32 0) (.bool false) (.bool false) (.slice none 0 0) (.bool false) (.string ⟨#[]⟩)
  have hbw7 := hb2.trans (below_of_grown hg7 (by omega) hb2.size)
  clear hb2 hg7 h2b
  go_wp2
  exact bodyPost_ret (res_attr2 Tryz.results10 _ (w.heap.size + 1) _ _ _ _ _ _ _ _ _ _ _ _ _ _ rfl rfl hrb7) rfl ⟨rfl, hbw7⟩
set_option maxHeartbeats 4000000 in
set_option maxRecDepth 100000 in
theorem attr_range (w : World) (tv tc : List UInt8) (tnd : Bool) (tnt : List UInt8) (oa : Option Addr) (N cap : Nat) (gp op mq capp : Nat) (i0 : Int) (hq1 : 1 ≤ mq) (hmb : (mq : Int) ≤ 9223372036854775806) (hgp : gp < w.heap.size) (hp0 : w.cell? ⟨gp, op, none⟩ = some (.int .i64 i0)) (hout : ¬ (0 ≤ i0 ∧ i0 < (N : Int))) :
    Calls Tryz.prog 9 #[.agg #[.string ⟨tv.toArray⟩, .string ⟨tc.toArray⟩, .slice oa N cap, .bool tnd, .string ⟨tnt.toArray⟩], .slice (some ⟨gp, op, none⟩) (mq + 1) capp] w fun e w' => e = .returned (.tuple #[.agg zero12, .int .i64 2]) ∧ Below w.heap.size w w' := by
  have hd2 : decide ((mq : Int) + 1 < 2) = false := by rw [decide_eq_false_iff_not]; omega
  have hm0 : (0 : Int) < (mq : Int) + 1 := by omega
  have cw : ∀ w, Calls Tryz.prog 26 #[.int .i64 i0, .int .i64 (N : Int)] w fun e w' => e = .returned (.bool false) ∧ w' = w := fun w => by
    have h := within_any i0 N w
    rw [show (decide (0 ≤ i0) && decide (i0 < (N : Int))) = false by rw [Bool.eq_false_iff]; intro e; rw [Bool.and_eq_true, decide_eq_true_eq, decide_eq_true_eq] at e; exact hout e] at h
    exact h
  clear hout
  go_enter Tryz.func9, Tryz.ntmps9
  go_wp2
  have hb1 := ((Below.refl w.heap.size w).alloc (Nat.le_refl _) (.cells #[.string ⟨tv.toArray⟩, .string ⟨tc.toArray⟩, .slice oa N cap, .bool tnd, .string ⟨tnt.toArray⟩] 24)).alloc (by simp) (.cells #[.string ⟨#[]⟩, .int .i64 0, .int .i64 0, .int .i64 0, .int .i64 0, .string ⟨#[]⟩, .int .u32 0, .bool false, .bool false, .slice none 0 0, .bool false, .string ⟨#[]⟩] 34)
  have h1 := heap2_0' w (.cells #[.string ⟨tv.toArray⟩, .string ⟨tc.toArray⟩, .slice oa N cap, .bool tnd, .string ⟨tnt.toArray⟩] 24) (.cells #[.string ⟨#[]⟩, .int .i64 0, .int .i64 0, .int .i64 0, .int .i64 0, .string ⟨#[]⟩, .int .u32 0, .bool false, .bool false, .slice none 0 0, .bool false, .string ⟨#[]⟩] 34)
  have h2 := heap2_1' w (.cells #[.string ⟨tv.toArray⟩, .string ⟨tc.toArray⟩, .slice oa N cap, .bool tnd, .string ⟨tnt.toArray⟩] 24) (.cells #[.string ⟨#[]⟩, .int .i64 0, .int .i64 0, .int .i64 0, .int .i64 0, .string ⟨#[]⟩, .int .u32 0, .bool false, .bool false, .slice none 0 0, .bool false, .string ⟨#[]⟩] 34)
  generalize ((w.alloc (.cells #[.string ⟨tv.toArray⟩, .string ⟨tc.toArray⟩, .slice oa N cap, .bool tnd, .string ⟨tnt.toArray⟩] 24)).alloc (.cells #[.string ⟨#[]⟩, .int .i64 0, .int .i64 0, .int .i64 0, .int .i64 0, .string ⟨#[]⟩, .int .u32 0, .bool false, .bool false, .slice none 0 0, .bool false, .string ⟨#[]⟩] 34)) = w1 at *
  obtain ⟨⟨_, _, t2, _, _⟩, _⟩ := var5 h1
  have p0 := (cell_below hb1 gp op hgp).trans hp0
  go_quiet (first | (go_at_call 26; refine Calls.quiet_of_same (cw _)))
  have hbq : Below w1.heap.size w1 (w1.drewN nq) := below_drewN (Below.refl _ _) nq
  have hb2 := hb1.trans (hbq.mono hb1.size)
  have h2b := (hbq.block _ (heap_lt h2)).trans h2
  clear hb1 h1 h2 t2 hbq
  generalize w1.drewN nq = w2 at *
  obtain ⟨⟨u0, u1, u2, u3, u4, u5, u6, u7, u8, u9, u10, u11⟩, fu⟩ := var12 h2b
  have hrb7 := set12_at w2 (w.heap.size + 1) _ _ _ _ _ _ _ _ _ _ _ _ _ (.string ⟨#[]⟩) (.int .i64 0) (.int .i64 0) (.int .i64 0) (.int .i64 0) (.string ⟨#[]⟩) (.int .u32 0) (.bool false) (.bool false) (.slice none 0 0) (.bool false) (.string ⟨#[]⟩) h2b
  have hg7 := set12_grown w2 (w.heap.size + 1) (.string ⟨#[]⟩) (.int .i64 0) (.int .i64 0) (.int .i64 0) (.int .i64 0) (.string ⟨#[]⟩) (.int .u32 0) (.bool false) (.bool false) (.slice none 0 0) (.bool false) (.string ⟨#[]⟩)
  have hbw7 := hb2.trans (below_of_grown hg7 (by omega) hb2.size)
  clear hb2 hg7 h2b
  go_wp2
  exact bodyPost_ret (res_attr2 Tryz.results9 _ (w.heap.size + 1) _ _ _ _ _ _ _ _ _ _ _ _ _ _ rfl rfl hrb7) rfl ⟨rfl, hbw7⟩
set_option maxHeartbeats 4000000 in
set_option maxRecDepth 100000 in
theorem rattr_neg (w : World) (tv tc : List UInt8) (tnd : Bool) (tnt : List UInt8) (oa : Option Addr) (N cap : Nat) (gp op mq capp : Nat) (i0 : Int) (hq1 : 1 ≤ mq) (hmb : (mq : Int) ≤ 9223372036854775806) (hgp : gp < w.heap.size) (hp0 : w.cell? ⟨gp, op, none⟩ = some (.int .i64 i0)) (hneg : i0 < 0) :
    Calls Tryz.prog 10 #[.agg #[.string ⟨tv.toArray⟩, .string ⟨tc.toArray⟩, .slice oa N cap, .bool tnd, .string ⟨tnt.toArray⟩], .slice (some ⟨gp, op, none⟩) (mq + 1) capp] w fun e w' => e = .returned (.tuple #[.agg zero12, .int .i64 2]) ∧ Below w.heap.size w w' := by
  have hd2 : decide ((mq : Int) + 1 < 2) = false := by rw [decide_eq_false_iff_not]; omega
  have hm0 : (0 : Int) < (mq : Int) + 1 := by omega
  go_enter Tryz.func10, Tryz.ntmps10
  go_wp2
  have hb1 := ((Below.refl w.heap.size w).alloc (Nat.le_refl _) (.cells #[.string ⟨tv.toArray⟩, .string ⟨tc.toArray⟩, .slice oa N cap, .bool tnd, .string ⟨tnt.toArray⟩] 24)).alloc (by simp) (.cells #[.string ⟨#[]⟩, .int .i64 0, .int .i64 0, .int .i64 0, .int .i64 0, .string ⟨#[]⟩, .int .u32 0, .bool false, .bool false, .slice none 0 0, .bool false, .string ⟨#[]⟩] 34)
  have h1 := heap2_0' w (.cells #[.string ⟨tv.toArray⟩, .string ⟨tc.toArray⟩, .slice oa N cap, .bool tnd, .string ⟨tnt.toArray⟩] 24) (.cells #[.string ⟨#[]⟩, .int .i64 0, .int .i64 0, .int .i64 0, .int .i64 0, .string ⟨#[]⟩, .int .u32 0, .bool false, .bool false, .slice none 0 0, .bool false, .string ⟨#[]⟩] 34)
  have h2 := heap2_1' w (.cells #[.string ⟨tv.toArray⟩, .string ⟨tc.toArray⟩, .slice oa N cap, .bool tnd, .string ⟨tnt.toArray⟩] 24) (.cells #[.string ⟨#[]⟩, .int .i64 0, .int .i64 0, .int .i64 0, .int .i64 0, .string ⟨#[]⟩, .int .u32 0, .bool false, .bool false, .slice none 0 0, .bool false, .string ⟨#[]⟩] 34)
  generalize ((w.alloc (.cells #[.string ⟨tv.toArray⟩, .string ⟨tc.toArray⟩, .slice oa N cap, .bool tnd, .string ⟨tnt.toArray⟩] 24)).alloc (.cells #[.string ⟨#[]⟩, .int .i64 0, .int .i64 0, .int .i64 0, .int .i64 0, .string ⟨#[]⟩, .int .u32 0, .bool false, .bool false, .slice none 0 0, .bool false, .string ⟨#[]⟩] 34)) = w1 at *
  obtain ⟨⟨_, _, t2, _, _⟩, _⟩ := var5 h1
  have p0 := (cell_below hb1 gp op hgp).trans hp0
  go_quiet (fail)
  have hbq : Below w1.heap.size w1 (w1.drewN nq) := below_drewN (Below.refl _ _) nq
  have hb2 := hb1.trans (hbq.mono hb1.size)
  have h2b := (hbq.block _ (heap_lt h2)).trans h2
  clear hb1 h1 h2 t2 hbq
  generalize w1.drewN nq = w2 at *
  obtain ⟨⟨u0, u1, u2, u3, u4, u5, u6, u7, u8, u9, u10, u11⟩, fu⟩ := var12 h2b
  have hrb7 := set12_at w2 (w.heap.size + 1) _ _ _ _ _ _ _ _ _ _ _ _ _ (.string ⟨#[]⟩) (.int .i64 0) (.int .i64 0) (.int .i64 0) (.int .i64 0) (.string ⟨#[]⟩) (.int .u32 0) (.bool false) (.bool false) (.slice none 0 0) (.bool false) (.string ⟨#[]⟩) h2b
  have hg7 := set12_grown w2 (w.heap.size + 1) (.string ⟨#[]⟩) (.int .i64 0) (.int .i64 0) (.int .i64 0) (.int .i64 0) (.string ⟨#[]⟩) (.int .u32 0) (.bool false) (.bool false) (.slice none 0 0) (.bool false) (.string ⟨#[]⟩)
  have hbw7 := hb2.trans (below_of_grown hg7 (by omega) hb2.size)
  clear hb2 hg7 h2b
  go_wp2
  exact bodyPost_ret (res_attr2 Tryz.results10 _ (w.heap.size + 1) _ _ _ _ _ _ _ _ _ _ _ _ _ _ rfl rfl hrb7) rfl ⟨rfl, hbw7⟩
set_option maxHeartbeats 4000000 in
set_option maxRecDepth 100000 in
theorem rattr_big (w : World) (tv tc : List UInt8) (tnd : Bool) (tnt : List UInt8) (oa : Option Addr) (N cap : Nat) (gp op mq capp : Nat) (i0 : Int) (hq1 : 1 ≤ mq) (hmb : (mq : Int) ≤ 9223372036854775806) (hgp : gp < w.heap.size) (hp0 : w.cell? ⟨gp, op, none⟩ = some (.int .i64 i0)) (hnn : 0 ≤ i0) (hge : (N : Int) ≤ i0) :
    Calls Tryz.prog 10 #[.agg #[.string ⟨tv.toArray⟩, .string ⟨tc.toArray⟩, .slice oa N cap, .bool tnd, .string ⟨tnt.toArray⟩], .slice (some ⟨gp, op, none⟩) (mq + 1) capp] w fun e w' => e = .returned (.tuple #[.agg zero12, .int .i64 2]) ∧ Below w.heap.size w w' := by
  have hd2 : decide ((mq : Int) + 1 < 2) = false := by rw [decide_eq_false_iff_not]; omega
  have hm0 : (0 : Int) < (mq : Int) + 1 := by omega
  have hd3 : decide (i0 < 0) = false := by rw [decide_eq_false_iff_not]; omega
  go_enter Tryz.func10, Tryz.ntmps10
  go_wp2
  have hb1 := ((Below.refl w.heap.size w).alloc (Nat.le_refl _) (.cells #[.string ⟨tv.toArray⟩, .string ⟨tc.toArray⟩, .slice oa N cap, .bool tnd, .string ⟨tnt.toArray⟩] 24)).alloc (by simp) (.cells #[.string ⟨#[]⟩, .int .i64 0, .int .i64 0, .int .i64 0, .int .i64 0, .string ⟨#[]⟩, .int .u32 0, .bool false, .bool false, .slice none 0 0, .bool false, .string ⟨#[]⟩] 34)
  have h1 := heap2_0' w (.cells #[.string ⟨tv.toArray⟩, .string ⟨tc.toArray⟩, .slice oa N cap, .bool tnd, .string ⟨tnt.toArray⟩] 24) (.cells #[.string ⟨#[]⟩, .int .i64 0, .int .i64 0, .int .i64 0, .int .i64 0, .string ⟨#[]⟩, .int .u32 0, .bool false, .bool false, .slice none 0 0, .bool false, .string ⟨#[]⟩] 34)
  have h2 := heap2_1' w (.cells #[.string ⟨tv.toArray⟩, .string ⟨tc.toArray⟩, .slice oa N cap, .bool tnd, .string ⟨tnt.toArray⟩] 24) (.cells #[.string ⟨#[]⟩, .int .i64 0, .int .i64 0, .int .i64 0, .int .i64 0, .string ⟨#[]⟩, .int .u32 0, .bool false, .bool false, .slice none 0 0, .bool false, .string ⟨#[]⟩] 34)
  generalize ((w.alloc (.cells #[.string ⟨tv.toArray⟩, .string ⟨tc.toArray⟩, .slice oa N cap, .bool tnd, .string ⟨tnt.toArray⟩] 24)).alloc (.cells #[.string ⟨#[]⟩, .int .i64 0, .int .i64 0, .int .i64 0, .int .i64 0, .string ⟨#[]⟩, .int .u32 0, .bool false, .bool false, .slice none 0 0, .bool false, .string ⟨#[]⟩] 34)) = w1 at *
  obtain ⟨⟨_, _, t2, _, _⟩, _⟩ := var5 h1
  have p0 := (cell_below hb1 gp op hgp).trans hp0
  go_quiet (fail)
  have hbq : Below w1.heap.size w1 (w1.drewN nq) := below_drewN (Below.refl _ _) nq
  have hb2 := hb1.trans (hbq.mono hb1.size)
  have h2b := (hbq.block _ (heap_lt h2)).trans h2
  clear hb1 h1 h2 t2 hbq
  generalize w1.drewN nq = w2 at *
  obtain ⟨⟨u0, u1, u2, u3, u4, u5, u6, u7, u8, u9, u10, u11⟩, fu⟩ := var12 h2b
  have hrb7 := set12_at w2 (w.heap.size + 1) _ _ _ _ _ _ _ _ _ _ _ _ _ (.string ⟨#[]⟩) (.int .i64 0) (.int .i64 0) (.int .i64 0) (.int .i64 0) (.string ⟨#[]⟩) (.int .u32 0) (.bool false) (.bool false) (.slice none 0 0) (.bool false) (.string ⟨#[]⟩) h2b
  have hg7 := set12_grown w2 (w.heap.size + 1) (.string ⟨#[]⟩) (.int .i64 0) (.int .i64 0) (.int .i64 0) (.int .i64 0) (.string ⟨#[]⟩) (.int .u32 0) (.bool false) (.bool false) (.slice none 0 0) (.bool false) (.string ⟨#[]⟩)
  have hbw7 := hb2.trans (below_of_grown hg7 (by omega) hb2.size)
  clear hb2 hg7 h2b
  go_wp2
  exact bodyPost_ret (res_attr2 Tryz.results10 _ (w.heap.size + 1) _ _ _ _ _ _ _ _ _ _ _ _ _ _ rfl rfl hrb7) rfl ⟨rfl, hbw7⟩
end Go.Proofs.YtlbgppijeoonjaaGreatDoor
