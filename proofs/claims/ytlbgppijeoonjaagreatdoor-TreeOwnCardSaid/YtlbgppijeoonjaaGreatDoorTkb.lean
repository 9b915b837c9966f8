import Derived.Test.YtlbgppijeoonjaaGreatDoorTka
namespace Go.Proofs.YtlbgppijeoonjaaGreatDoor
open Go.RowKit
set_option linter.unusedVariables false

def sgn : Nat → UInt8
  | 0 => 123 | 1 => 125 | 2 => 61 | 3 => 59 | _ => 58
def marksV : Value := .agg #[.int .u8 123, .int .i64 4, .int .u8 125, .int .i64 5, .int .u8 61, .int .i64 6, .int .u8 59, .int .i64 7, .int .u8 58, .int .i64 8]
theorem marks_0 (w : World) : (Instr.index 188 marksV (.int .i64 0)).run Tryz.prog w = .ok (.agg #[.int .u8 123, .int .i64 4]) w := by kernel_rfl
theorem marks_1 (w : World) : (Instr.index 188 marksV (.int .i64 1)).run Tryz.prog w = .ok (.agg #[.int .u8 125, .int .i64 5]) w := by kernel_rfl
theorem marks_2 (w : World) : (Instr.index 188 marksV (.int .i64 2)).run Tryz.prog w = .ok (.agg #[.int .u8 61, .int .i64 6]) w := by kernel_rfl
theorem marks_3 (w : World) : (Instr.index 188 marksV (.int .i64 3)).run Tryz.prog w = .ok (.agg #[.int .u8 59, .int .i64 7]) w := by kernel_rfl
theorem marks_4 (w : World) : (Instr.index 188 marksV (.int .i64 4)).run Tryz.prog w = .ok (.agg #[.int .u8 58, .int .i64 8]) w := by kernel_rfl
theorem marks_at (j : Nat) (h : j < 5) (w : World) : (Instr.index 188 marksV (.int .i64 (j : Int))).run Tryz.prog w = .ok (.agg #[.int .u8 ((sgn j).toNat : Int), .int .i64 (((4 + j : Nat)) : Int)]) w := by
  have hj : j = 0 ∨ j = 1 ∨ j = 2 ∨ j = 3 ∨ j = 4 := by omega
  rcases hj with rfl | rfl | rfl | rfl | rfl
  · exact marks_0 w
  · exact marks_1 w
  · exact marks_2 w
  · exact marks_3 w
  · exact marks_4 w
theorem mrk_yes (c : UInt8) (j : Nat) (h : j < 5) (hc : sgn j = c) : mrk c = 4 + j := by
  subst hc
  match j, h with
  | 0, _ => rfl
  | 1, _ => rfl
  | 2, _ => rfl
  | 3, _ => rfl
  | 4, _ => rfl
theorem mrk_no (c : UInt8) (h : ∀ i, i < 5 → sgn i ≠ c) : mrk c = 0 := by
  unfold mrk
  rw [if_neg (fun e => h 0 (by omega) e.symm), if_neg (fun e => h 1 (by omega) e.symm), if_neg (fun e => h 2 (by omega) e.symm), if_neg (fun e => h 3 (by omega) e.symm), if_neg (fun e => h 4 (by omega) e.symm)]
set_option maxHeartbeats 2000000 in
set_option maxRecDepth 100000 in
theorem mark_any (B r off : Nat) (p : Nat → Addr) (s : ByteArray) (c : UInt8) (w : World) (hE : Env B p w) (h : Sc w r s off) (hr : B ≤ r) (ho : off < s.size) (hc : s[off] = c) (hs : s.size < 4294967281) (x : TR) (hx : x = if mrk c = 0 then .bad 20 0 else .ok ⟨mrk c, [], 0, false⟩ 1) :
    Calls Tryz.prog 101 #[.pointer (some ⟨r, 0, none⟩)] w fun e w' => TokPost p w r s off x e w' := by
  have HX : Hid (x = if mrk c = 0 then .bad 20 0 else .ok ⟨mrk c, [], 0, false⟩ 1) := hx
  clear hx
  have hrl := Sc4.lt h
  have hBs := hE.size
  have hix : ∀ w, (Instr.index 9 (.string s) (.int .i64 (off : Int))).run Tryz.prog w = .ok (.int .u8 (c.toNat : Int)) w := fun w => by
    rw [← hc]; exact index_at s off _ w ho rfl
  have hE1 : ∀ {w1 : World}, Below (w.alloc (.cells zero7 57)).heap.size (w.alloc (.cells zero7 57)) w1 → Env B p w1 := fun hb => hE.below ((below_two _ hb).mono hBs)
  have hE0 := hE1 (Below.refl _ _)
  obtain ⟨-, -, -, -, -, -, -, -, -, -, q0, q1, q2, q3, q4, q5, q6, q7, q8, q9, -, -⟩ := hE0
  unfold zero7 at q0 q1 q2 q3 q4 q5 q6 q7 q8 q9
  clear hc
  go_enter Tryz.func101, Tryz.ntmps101
  go_wp2
  go_loopw [7] (fun i wr => ∃ j : Nat, j ≤ 5 ∧ i = .int .i64 j ∧ (∀ k, k < j → sgn k ≠ c) ∧ Below (w.alloc (.cells zero7 57)).heap.size (w.alloc (.cells zero7 57)) wr) (fun i _ => 5 - (intOf i).toNat)
  case atStart => exact ⟨0, by omega, rfl, fun k h => absurd h (Nat.not_lt_zero _), Below.refl _ _⟩
  case round =>
    obtain ⟨j, hj, rfl, hne, hb⟩ := hrel
    have HNE : Hid (∀ k, k < j → sgn k ≠ c) := hne
    clear hne
    have hS1 : Sc wr r s off := Sc4.below (Sc4.alloc h _) hb
    have hv1 := var_in w hb
    have hs1 := hb.size
    simp only [World.size_alloc] at hs1
    clear q0 q1 q2 q3 q4 q5 q6 q7 q8 q9
    by_cases h5 : j < 5
    · have h5' : (j : Int) < 5 := by omega
      have hma := marks_at j h5
      unfold marksV at hma
      have c0 : ∀ o, (wr.alloc o).cell? ⟨r, 0, none⟩ = _ := fun o => (Sc4.alloc hS1 o).c0
      have c1 : ∀ o, (wr.alloc o).cell? ⟨r, 1, none⟩ = _ := fun o => (Sc4.alloc hS1 o).c1
      by_cases hm : sgn j = c
      · have HM := mrk_yes c j h5 hm
        have HY : Hid (x = .ok ⟨4 + j, [], 0, false⟩ 1) := by show x = _; rw [HX.out, HM, if_neg (by omega)]
        rw [hm] at hma
        have hcc : ((c.toNat : Int) == (c.toNat : Int)) = true := by simp
        clear hm HM HX
        go_wp2
        go_quiet (fail)
        have hbq : Below w.heap.size w ((wr.alloc (.cells #[.int .u8 (c.toNat : Int), .int .i64 (4 + (j : Int))] 187)).drewN nq) := below_drewN (((below_two _ hb)).alloc (by omega) _) _
        have hS5 : Sc ((wr.alloc (.cells #[.int .u8 (c.toNat : Int), .int .i64 (4 + (j : Int))] 187)).drewN nq) r s off := Sc4.below (Sc4.alloc hS1 _) (below_drewN (Below.refl _ _) _)
        have hv5 : ((wr.alloc (.cells #[.int .u8 (c.toNat : Int), .int .i64 (4 + (j : Int))] 187)).drewN nq).heap[w.heap.size]? = some (.cells zero7 57 (0, 0)) := by
          rw [World.heap_drewN]
          exact (((Below.refl wr.heap.size wr).alloc (Nat.le_refl _) _).block _ (heap_lt hv1)).trans hv1
        have ct := take_any r off s 1 ⟨4 + j, [], 0, false⟩ _ hS5 (by omega) hs
        unfold tkV tkC at ct
        simp only at ct
        have e4 : ((4 + j : Nat) : Int) = 4 + (j : Int) := by omega
        rw [e4] at ct
        go_wp2_with fail
        refine ct.mono ?_
        rintro e w4 ⟨rfl, hS4, hg4⟩
        have hv4 := var_grown hv5 hg4 (by omega)
        obtain ⟨y0, y1, y2, y3, y4, y5, y6, f⟩ := varF hv4
        have hg5 : w.grownBy w4 (some r) := grown_trans (grown_of_below hbq) hg4
        clear ct hS5 hv5 hbq hg4 hS1 hv1 c0 c1 hma
        go_wp2
        rw [HY.out]
        have := fin_ok Tryz.results101 p w w4 r s off 1 ⟨4 + j, [], 0, false⟩
        simp only [e4] at this
        exact this _ hv4 hg5 hrl hS4 rfl rfl
      · have hcc : (((sgn j).toNat : Int) == (c.toNat : Int)) = false := by
          rw [beq_eq_false_iff_ne]; intro e; exact hm (UInt8.toNat_inj.1 (by omega))
        have HM : Hid (∀ k, k < j + 1 → sgn k ≠ c) := fun k hk => by
          by_cases e : k < j
          · exact HNE.out k e
          · have : k = j := by omega
            subst this; exact hm
        generalize sgn j = y at *
        clear hm HNE
        go_wp2
        go_quiet (fail)
        have hbq : Below (w.alloc (.cells zero7 57)).heap.size (w.alloc (.cells zero7 57)) ((wr.alloc (.cells #[.int .u8 (y.toNat : Int), .int .i64 (4 + (j : Int))] 187)).drewN nq) := below_drewN (hb.alloc hb.size _) _
        generalize ((wr.alloc (.cells #[.int .u8 (y.toNat : Int), .int .i64 (4 + (j : Int))] 187)).drewN nq) = w5 at *
        clear c0 c1 hma hS1 hv1
        go_wp2
        go_roundw
        case rel => exact ⟨j + 1, by omega, by go_num, HM.out, hbq⟩
        case measure => simp [intOf]; omega
    · have h5' : ¬ (j : Int) < 5 := by omega
      have HY : Hid (x = .bad 20 0) := by show x = _; rw [HX.out, if_pos (mrk_no c (fun i hi => HNE.out i (by omega)))]
      have lb := (hE1 hb).byte
      have hb1' := below_two _ hb
      clear HX HNE
      go_wp2_with fail
      refine (wrong_any r off s 0 _ hS1 (by omega) (fun i hi => absurd hi (Nat.not_lt_zero _)) _ _).mono ?_
      rintro e w3 ⟨q, rfl, hq, hErr, hb3⟩
      have hv3 : w3.heap[w.heap.size]? = _ := (hb3.block _ (heap_lt hv1)).trans hv1
      obtain ⟨y0, y1, y2, y3, y4, y5, y6, f⟩ := varF hv3
      have hg3 : w.grownBy w3 (some r) := grown_of_below (hb1'.trans (hb3.mono (by omega)))
      clear hb hb1' hv1 hS1 lb
      go_wp2
      rw [HY.out]
      exact fin_bad Tryz.results101 p w w3 r s off 20 0 q _ hv3 hg3 (by omega) hErr rfl rfl
end Go.Proofs.YtlbgppijeoonjaaGreatDoor
