import Derived.Test.YtncgdbjjlhohiabQuoA
namespace Go.Proofs.Ytncgdbjjlhohiab
open Go.RowKit
set_option linter.unusedVariables false

set_option maxHeartbeats 400000 in
theorem marked_any (c : UInt8) (w : World) :
    Calls Try.prog 43 #[.int .u8 c.toNat] w fun e w' => e = .returned (.bool (mk c)) ∧ w = w' := by
  have h34 : (c == 34) = ((c.toNat : Int) == 34) := by
    rw [Bool.eq_iff_iff, beq_iff_eq, beq_iff_eq]
    constructor
    · intro h; subst h; rfl
    · intro h; exact UInt8.toNat_inj.mp (show c.toNat = 34 by omega)
  have h92 : (c == 92) = ((c.toNat : Int) == 92) := by
    rw [Bool.eq_iff_iff, beq_iff_eq, beq_iff_eq]
    constructor
    · intro h; subst h; rfl
    · intro h; exact UInt8.toNat_inj.mp (show c.toNat = 92 by omega)
  have HM : Hid (mk c = (((c.toNat : Int) == 34) || ((c.toNat : Int) == 92))) := by
    show mk c = _
    unfold mk; rw [h34, h92]
  clear h34 h92
  cases h : ((c.toNat : Int) == 34) with
  | true =>
    have HR : Hid (mk c = true) := by show mk c = true; rw [HM.out, h]; rfl
    go_enter Try.func43, Try.ntmps43
    go_wp2
    go_ret
    exact ⟨ret_bool HR.out.symm, rfl⟩
  | false =>
    have HR : Hid (mk c = ((c.toNat : Int) == 92)) := by show mk c = _; rw [HM.out, h]; rfl
    go_enter Try.func43, Try.ntmps43
    go_wp2
    go_ret
    exact ⟨ret_bool HR.out.symm, rfl⟩
theorem marked_b (c : UInt8) (b : Bool) (w : World) (h : mk c = b) :
    Calls Try.prog 43 #[.int .u8 c.toNat] w fun e w' => e = .returned (.bool b) ∧ w = w' := by
  rw [← h]; exact marked_any c w

theorem grown_alloc {w w' : World} {o : Obj} {row : Option Nat} (h : (w.alloc o).grownBy w' row) : w.grownBy w' row := by
  refine ⟨h.os, h.tape, h.output, ?_, fun k hk hne => ?_⟩
  · have := h.size
    simp at this
    omega
  · rw [h.block k (by simp; omega) hne]
    exact Below.heap_alloc w o k hk

set_option maxHeartbeats 1000000 in
theorem appendQuoted_any (v : Value) (n base : Nat) (xs : List Value) (c : UInt8) (w : World) (ho : w.ownsRow base 5 1 v n xs) (hb : base ≤ w.heap.size) (hn : n ≤ 1099511627770) :
    Calls Try.prog 30 #[v, .int .u8 c.toNat] w fun e w' => ∃ v', e = .returned v' ∧ w'.ownsRow base 5 1 v' (n + (qB c).length) (xs ++ (qB c).map B) ∧ Below base w w' := by
  obtain ⟨i0, hi, hz0, hz1, hz2⟩ := info_parts Try.info5
  obtain ⟨a, cap, rfl⟩ := owns_shape ho
  cases hm : mk c with
  | true =>
    have HQ : Hid (qB c = [92, c]) := by show qB c = _; unfold qB; rw [if_pos hm]
    have HM : Hid (_ = _) := hm
    clear hm
    rw [HQ.out]
    go_enter Try.func30, Try.ntmps30
    go_wp2_with (first | (go_at_call 43; refine (marked_b _ true _ HM.out).mono ?_; rintro e w' ⟨rfl, rfl⟩) | (at_builtin; refine wpList_append_own _ rfl (.tmp 8) (.tmp 10) 30 rfl base 5 i0 (.int .u8 0) 1 1 Try.underlying30 hi hz0 hz1 hz2 rfl (by decide) _ _ _ rfl (ho.alloc _) ⟨w.heap.size, 0, none⟩ 2 2 [.int .u8 92, .int .u8 (c.toNat : Int)] rfl rfl (two_new _ _ _) (by intro u hu; simp at hu; rcases hu with rfl | rfl <;> rfl) (by unfold maxLen; omega) (by omega) (by simp; omega) ?_))
    intro v4 w4 ho4 hg4 _
    have hb4 : Below base w w4 := (Below.refl _ _).grown (grown_alloc hg4) hb (fun k e => (ho.lt k e).1)
    clear hg4 ho
    go_wp2
    go_ret
    exact ⟨_, rfl, ho4, hb4⟩
  | false =>
    have HM : Hid (_ = _) := hm
    cases hp : okB c with
    | true =>
      have HQ : Hid (qB c = [c]) := by show qB c = _; unfold qB; rw [if_neg (by rw [hm]; simp), if_pos hp]
      have HP : Hid (_ = _) := hp
      clear hm hp
      rw [HQ.out]
      go_enter Try.func30, Try.ntmps30
      go_wp2_with (first | (go_at_call 43; refine (marked_b _ false _ HM.out).mono ?_; rintro e w' ⟨rfl, rfl⟩) | (go_at_call 42; refine (printable_b _ true _ HP.out).mono ?_; rintro e w' ⟨rfl, rfl⟩) | (at_builtin; refine wpList_append_own _ rfl (.tmp 15) (.tmp 17) 30 rfl base 5 i0 (.int .u8 0) 1 1 Try.underlying30 hi hz0 hz1 hz2 rfl (by decide) _ _ _ rfl (ho.alloc _) ⟨w.heap.size, 0, none⟩ 1 1 [.int .u8 (c.toNat : Int)] rfl rfl (cell_one_new _ _ _) (by intro u hu; simp at hu; subst hu; rfl) (by unfold maxLen; omega) (by omega) (by simp; omega) ?_))
      intro v4 w4 ho4 hg4 _
      have hb4 : Below base w w4 := (Below.refl _ _).grown (grown_alloc hg4) hb (fun k e => (ho.lt k e).1)
      clear hg4 ho
      go_wp2
      go_ret
      exact ⟨_, rfl, ho4, hb4⟩
    | false =>
      have HQ : Hid (qB c = [92, 120, hi4 c, lo4 c]) := by show qB c = _; unfold qB; rw [if_neg (by rw [hm]; simp), if_neg (by rw [hp]; simp)]
      have HP : Hid (_ = _) := hp
      clear hm hp
      rw [HQ.out]
      go_enter Try.func30, Try.ntmps30
      go_wp2_with (first | (go_at_call 43; refine (marked_b _ false _ HM.out).mono ?_; rintro e w' ⟨rfl, rfl⟩) | (go_at_call 42; refine (printable_b _ false _ HP.out).mono ?_; rintro e w' ⟨rfl, rfl⟩) | (at_builtin; refine Lib.wpList_append_own_string _ rfl (.tmp 19) (.const (.string ⟨#[92, 120]⟩)) 30 9 rfl base 5 i0 Try.underlying30 Try.underlying9 hi hz0 hz1 hz2 _ _ _ rfl ho ⟨#[92, 120]⟩ rfl ?d1 ?d2 ?d3 ?_))
      case d1 => unfold maxLen; show n + 2 ≤ _; omega
      case d2 => show n + 2 ≤ _; omega
      case d3 => omega
      intro v3 w3 ho3 hg3 _
      have hb3 : Below base w w3 := (Below.refl _ _).grown hg3 hb (fun k e => (ho.lt k e).1)
      have hsz := hb3.size
      have hl : Lib.strCells ⟨#[92, 120]⟩ = [.int .u8 92, .int .u8 120] := rfl
      have ho3' : w3.ownsRow base 5 1 v3 (n + 2) (xs ++ [.int .u8 92, .int .u8 120]) := ho3
      clear hg3 ho ho3 hl
      go_wp2_with (go_at_call 36; refine (appendHex_any _ (n + 2) base _ c _ ho3' (by omega) (by omega)).mono ?_; rintro e w2 ⟨v2, rfl, ho2, hg2⟩)
      have hb2 : Below base w w2 := hb3.grown hg2 (by omega) (fun k e => (ho3'.lt k e).1)
      have R : w2.ownsRow base 5 1 v2 (n + 4) (xs ++ [.int .u8 92, .int .u8 120, B (hi4 c), B (lo4 c)]) := by
        have := ho2
        rw [List.append_assoc] at this; exact this
      clear ho2 hg2 ho3'
      go_wp2
      go_ret
      exact ⟨_, rfl, R, hb2⟩

set_option maxHeartbeats 1000000 in
theorem quote_any (s : ByteArray) (w : World) (hs : s.size ≤ 8388608) :
    Calls Try.prog 8 #[.string s] w fun e w' => e = .returned (.string ⟨(quoteL s.data.toList).toArray⟩) ∧ Below w.heap.size w w' := by
  obtain ⟨i0, hi, hz0, hz1, hz2⟩ := info_parts Try.info5
  go_enter Try.func8, Try.ntmps8
  go_wp2_with (at_make; refine wpList_make_own _ rfl _ _ 30 rfl w.heap.size 5 i0 (.int .u8 0) 1 Try.underlying30 hi hz0 hz1 .i64 .i64 _ (s.size + 2) rfl rfl (by omega) (by rw [hz2]; omega) (by unfold maxLen; omega) (Nat.le_refl _) ?_)
  intro w1 hown hg
  have hb1 : Below w.heap.size w w1 := (Below.refl _ _).grown hg (Nat.le_refl _) (fun k h => by cases h)
  have hsz1 := hb1.size
  clear hg
  go_wp2_with (at_builtin; refine wpList_append_own _ rfl (.tmp 9) (.tmp 10) 30 rfl w.heap.size 5 i0 (.int .u8 0) 1 1 Try.underlying30 hi hz0 hz1 hz2 rfl (by decide) _ _ _ rfl (hown.alloc _) ⟨w1.heap.size, 0, none⟩ 1 1 [.int .u8 34] rfl rfl (cell_one_new _ _ _) (by intro u hu; simp at hu; subst hu; rfl) (by unfold maxLen; omega) (by omega) (by simp; omega) ?_)
  intro v2 w2 ho2 hg2 _
  have hb2 : Below w.heap.size w w2 := hb1.grown (grown_alloc hg2) hsz1 (fun k e => (hown.lt k e).1)
  clear hg2 hown hb1
  go_wp2
  go_loopw [3, 14] (fun v i wr => ∃ j : Nat, j ≤ s.size ∧ i = .int .i64 j ∧ wr.ownsRow w.heap.size 5 1 v (1 + (qL (s.data.toList.take j)).length) ((34 :: qL (s.data.toList.take j)).map B) ∧ Below w.heap.size w wr) (fun _ i _ => s.size - (intOf i).toNat)
  case atStart => exact ⟨0, by omega, rfl, ho2, hb2⟩
  case round =>
    clear ho2 hb2
    obtain ⟨j, hj, rfl, ho, hb⟩ := hrel
    have hsz := hb.size
    have hq4 := qL_len (s.data.toList.take j)
    have hq5 : (s.data.toList.take j).length ≤ s.size := by simp; omega
    by_cases hlt : j < s.size
    · obtain ⟨x, hx⟩ : ∃ c, s[j] = c := ⟨_, rfl⟩
      have HN : Hid (qL (s.data.toList.take (j + 1)) = qL (s.data.toList.take j) ++ qB x) := by
        show _ = _
        rw [take_succ' _ _ _ (snoc_all s j hlt), qL_snoc, hx]
      have hix : ∀ w, (Instr.index 9 (.string s) (.int .i64 (j : Int))).run Try.prog w = .ok (.int .u8 (x.toNat : Int)) w := fun w => by
        rw [← hx]; exact index_at s j _ w hlt rfl
      have HL : Hid (_ ≤ _) := hq4
      have hlt' : (j : Int) < s.size := by omega
      have hqn : 1 + (qL (s.data.toList.take j)).length ≤ 1099511627770 := by omega
      clear hx hq4 hq5
      go_wp2_with (go_at_call 30; refine (appendQuoted_any _ _ w.heap.size _ x _ ho hsz hqn).mono ?_; rintro e w4 ⟨v4, rfl, ho4, hb4⟩)
      have hb5 : Below w.heap.size w w4 := hb.trans hb4
      have R : w4.ownsRow w.heap.size 5 1 v4 (1 + (qL (s.data.toList.take (j + 1))).length) ((34 :: qL (s.data.toList.take (j + 1))).map B) := by
        rw [HN.out, List.length_append, ← List.cons_append, List.map_append, ← Nat.add_assoc]; exact ho4
      clear ho4 hb4 ho hb
      go_wp2
      go_roundw
      case rel => exact ⟨j + 1, by omega, by go_num, R, hb5⟩
      case measure => simp [intOf]; omega
    · have hjn : j = s.size := by omega
      subst hjn
      have ht : s.data.toList.take s.size = s.data.toList := List.take_of_length_le (by simp)
      rw [ht] at ho hq4 hq5
      clear ht
      generalize hM : qL s.data.toList = M at *
      have HM : Hid (quoteL s.data.toList = 34 :: (M ++ [34])) := by show quoteL _ = _; unfold quoteL; rw [hM]
      have hMn : 1 + M.length ≤ 1099511627770 := by omega
      clear hM hq4 hq5
      go_wp2_with (at_builtin; refine wpList_append_own _ rfl (.tmp 23) (.tmp 24) 30 rfl w.heap.size 5 i0 (.int .u8 0) 1 1 Try.underlying30 hi hz0 hz1 hz2 rfl (by decide) _ _ _ rfl (ho.alloc _) ⟨wr.heap.size, 0, none⟩ 1 1 [.int .u8 34] rfl rfl (cell_one_new _ _ _) (by intro u hu; simp at hu; subst hu; rfl) (by unfold maxLen; omega) (by omega) (by simp; omega) ?_)
      intro v5 w5 ho5 hg5 _
      have hb5 : Below w.heap.size w w5 := hb.grown (grown_alloc hg5) hsz (fun k e => (ho.lt k e).1)
      have ho6 : w5.ownsRow w.heap.size 5 1 v5 (1 + M.length + 1) ((34 :: (M ++ [34])).map B) := by
        have e : (34 :: (M ++ [34])).map B = (34 :: M).map B ++ [.int .u8 34] := by simp [B]
        rw [e]; exact ho5
      have hcv := conv_own ho6
      clear ho5 hg5 ho hb ho6
      go_wp2
      go_ret
      exact ⟨by rw [HM.out]; rfl, hb5⟩
end Go.Proofs.Ytncgdbjjlhohiab
