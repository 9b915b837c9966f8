import Derived.Test.YtncgdbjjlhohiabQuoB
namespace Go.Proofs.Ytncgdbjjlhohiab
open Go.RowKit
set_option linter.unusedVariables false

def pX : ByteArray := ⟨#[92, 120]⟩
set_option maxHeartbeats 400000 in
theorem has_short (s : ByteArray) (w : World) (h : s.size < 2) :
    Calls Try.prog 49 #[.string s, .string ⟨#[92, 120]⟩] w fun e w' => e = .returned (.bool false) ∧ w = w' := by
  go_enter Try.func49, Try.ntmps49
  go_wp2
  go_ret
  exact ⟨rfl, rfl⟩
set_option maxHeartbeats 400000 in
theorem has_long (s t : ByteArray) (b : Bool) (w : World) (h : 2 ≤ s.size) (hm : s.size ≤ maxLen) (ht : s.extract 0 2 = t) (hb : (t.toList == [92, 120]) = b) :
    Calls Try.prog 49 #[.string s, .string ⟨#[92, 120]⟩] w fun e w' => e = .returned (.bool b) ∧ w = w' := by
  unfold maxLen at hm
  go_enter Try.func49, Try.ntmps49
  go_wp2
  go_ret
  exact ⟨rfl, rfl⟩
set_option maxHeartbeats 400000 in
theorem cut_no (s : ByteArray) (w : World) (hc : ∀ w, Calls Try.prog 49 #[.string s, .string ⟨#[92, 120]⟩] w fun e w' => e = .returned (.bool false) ∧ w = w') :
    Calls Try.prog 48 #[.string s, .string ⟨#[92, 120]⟩] w fun e w' => e = .returned (.tuple #[.string s, .bool false]) ∧ w = w' := by
  have HC : Hid (∀ w, _) := hc
  clear hc
  go_enter Try.func48, Try.ntmps48
  go_wp2_with (go_at_call 49; refine (HC.out _).mono ?_; rintro e w' ⟨rfl, rfl⟩)
  go_ret2
  exact ⟨rfl, rfl⟩
set_option maxHeartbeats 400000 in
theorem cut_yes (s : ByteArray) (w : World) (h : 2 ≤ s.size) (hm : s.size ≤ maxLen) (hc : ∀ w, Calls Try.prog 49 #[.string s, .string ⟨#[92, 120]⟩] w fun e w' => e = .returned (.bool true) ∧ w = w') :
    Calls Try.prog 48 #[.string s, .string ⟨#[92, 120]⟩] w fun e w' => e = .returned (.tuple #[.string (s.extract 2 s.size), .bool true]) ∧ w = w' := by
  have HC : Hid (∀ w, _) := hc
  unfold maxLen at hm
  clear hc
  go_enter Try.func48, Try.ntmps48
  go_wp2_with (go_at_call 49; refine (HC.out _).mono ?_; rintro e w' ⟨rfl, rfl⟩)
  go_ret2
  exact ⟨rfl, rfl⟩

theorem four_new (W : World) (x y z t : Value) : ∀ j u, [x, y, z, t][j]? = some u → (W.alloc (.cells #[x, y, z, t] 5)).cell? ((⟨W.heap.size, 0, none⟩ : Addr).add j) = some u := by
  intro j u hj
  have e : ((⟨W.heap.size, 0, none⟩ : Addr).add j) = ⟨W.heap.size, j, none⟩ := by unfold Addr.add; by_cases h0 : j = 0 <;> simp [h0]
  rw [e, cell_of_row _ _ _ _ 5 (0, 0) (heap_alloc_new W _)]
  match j, hj with
  | 0, hj => exact hj
  | 1, hj => exact hj
  | 2, hj => exact hj
  | 3, hj => exact hj
  | k + 4, hj => simp at hj
theorem ne_int (x : UInt8) (k : Nat) (c : UInt8) (hk : c.toNat = k) (h : x ≠ c) : ((x.toNat : Int) == (k : Int)) = false := by
  rw [beq_eq_false_iff_ne]; intro e; exact h (UInt8.toNat_inj.mp (by omega))

set_option maxHeartbeats 1000000 in
theorem refquote_any (s : ByteArray) (w : World) (hs : s.size ≤ 8388608) :
    Calls Try.prog 9 #[.string s] w fun e w' => e = .returned (.string ⟨(quoteL s.data.toList).toArray⟩) ∧ Below w.heap.size w w' := by
  obtain ⟨i0, hi, hz0, hz1, hz2⟩ := info_parts Try.info5
  go_enter Try.func9, Try.ntmps9
  go_wp2
  go_loopw [3, 4] (fun v i wr => ∃ j : Nat, j ≤ s.size ∧ i = .int .i64 j ∧ wr.ownsRow w.heap.size 5 1 v (1 + (qL (s.data.toList.take j)).length) ((34 :: qL (s.data.toList.take j)).map B) ∧ Below w.heap.size w wr) (fun _ i _ => s.size - (intOf i).toNat)
  case atStart => exact ⟨0, by omega, rfl, World.ownsRow_lit w #[.int .u8 34] 1 (Nat.le_refl _) (by unfold maxLen; omega) rfl, (Below.refl _ _).alloc (Nat.le_refl _) _⟩
  case round =>
    obtain ⟨j, hj, rfl, ho, hb⟩ := hrel
    have hsz := hb.size
    have hq4 := qL_len (s.data.toList.take j)
    have hq5 : (s.data.toList.take j).length ≤ s.size := by simp; omega
    have hqn : 1 + (qL (s.data.toList.take j)).length ≤ 1099511627770 := by omega
    by_cases hlt : j < s.size
    · obtain ⟨x, hx⟩ : ∃ c, s[j] = c := ⟨_, rfl⟩
      have hx8 := x.toNat_lt
      have HN0 : Hid (qL (s.data.toList.take (j + 1)) = qL (s.data.toList.take j) ++ qB x) := by
        show _ = _
        rw [take_succ' _ _ _ (snoc_all s j hlt), qL_snoc, hx]
      have hix : ∀ w, (Instr.index 9 (.string s) (.int .i64 (j : Int))).run Try.prog w = .ok (.int .u8 (x.toNat : Int)) w := fun w => by
        rw [← hx]; exact index_at s j _ w hlt rfl
      have hlt' : (j : Int) < s.size := by omega
      clear hx hq4 hq5
      have R0 : Hid (∀ (v' : Value) (w' : World) (ys : List UInt8), qB x = ys → w'.ownsRow w.heap.size 5 1 v' (1 + (qL (s.data.toList.take j)).length + ys.length) ((34 :: qL (s.data.toList.take j)).map B ++ ys.map B) → w'.ownsRow w.heap.size 5 1 v' (1 + (qL (s.data.toList.take (j + 1))).length) ((34 :: qL (s.data.toList.take (j + 1))).map B)) := by
        intro v' w' ys e h
        rw [HN0.out, e, List.length_append, ← List.cons_append, List.map_append, ← Nat.add_assoc]; exact h
      generalize 34 :: qL (s.data.toList.take j) = M at *
      generalize (qL (s.data.toList.take j)).length = m at *
      clear HN0
      obtain ⟨av, cv, rfl⟩ := owns_shape ho
      by_cases h34 : x = 34
      · subst h34
        have hix' : ∀ w, (Instr.index 9 (.string s) (.int .i64 (j : Int))).run Try.prog w = .ok (.int .u8 34) w := hix
        clear hix
        go_wp2_with (at_builtin; refine wpList_append_own _ rfl (.tmp 27) (.tmp 29) 30 rfl w.heap.size 5 i0 (.int .u8 0) 1 1 Try.underlying30 hi hz0 hz1 hz2 rfl (by decide) _ _ _ rfl (ho.alloc _) ⟨wr.heap.size, 0, none⟩ 2 2 [.int .u8 92, .int .u8 34] rfl rfl (two_new _ _ _) (by intro u hu; simp at hu; rcases hu with rfl | rfl <;> rfl) (by unfold maxLen; omega) (by omega) (by simp; omega) ?_)
        intro v4 w4 ho4 hg4 _
        have hb4 : Below w.heap.size w w4 := hb.grown (grown_alloc hg4) hsz (fun k e => (ho.lt k e).1)
        have R := R0.out v4 w4 [92, 34] rfl ho4
        clear ho4 hg4 ho hb
        go_wp2
        go_roundw
        case rel => exact ⟨j + 1, by omega, by go_num, R, hb4⟩
        case measure => simp [intOf]; omega
      · have n34 : ((x.toNat : Int) == 34) = false := ne_int x 34 34 rfl h34
        by_cases h92 : x = 92
        · subst h92
          have hix' : ∀ w, (Instr.index 9 (.string s) (.int .i64 (j : Int))).run Try.prog w = .ok (.int .u8 92) w := hix
          clear hix
          go_wp2_with (at_builtin; refine wpList_append_own _ rfl (.tmp 27) (.tmp 29) 30 rfl w.heap.size 5 i0 (.int .u8 0) 1 1 Try.underlying30 hi hz0 hz1 hz2 rfl (by decide) _ _ _ rfl (ho.alloc _) ⟨wr.heap.size, 0, none⟩ 2 2 [.int .u8 92, .int .u8 92] rfl rfl (two_new _ _ _) (by intro u hu; simp at hu; rcases hu with rfl | rfl <;> rfl) (by unfold maxLen; omega) (by omega) (by simp; omega) ?_)
          intro v4 w4 ho4 hg4 _
          have hb4 : Below w.heap.size w w4 := hb.grown (grown_alloc hg4) hsz (fun k e => (ho.lt k e).1)
          have R := R0.out v4 w4 [92, 92] rfl ho4
          clear ho4 hg4 ho hb
          go_wp2
          go_roundw
          case rel => exact ⟨j + 1, by omega, by go_num, R, hb4⟩
          case measure => simp [intOf]; omega
        · have n92 : ((x.toNat : Int) == 92) = false := ne_int x 92 92 rfl h92
          have hm : mk x = false := by
            cases h : mk x with
            | false => rfl
            | true => rcases (mk_iff x).1 h with e | e
                      · exact absurd e h34
                      · exact absurd e h92
          by_cases hok : 32 ≤ x.toNat ∧ x.toNat ≤ 126
          · obtain ⟨k1, k2⟩ := hok
            have k1' : (32 : Int) ≤ x.toNat := by omega
            have k2' : (x.toNat : Int) ≤ 126 := by omega
            have HQ : Hid (qB x = [x]) := by
              show qB x = [x]
              unfold qB okB; rw [hm]; simp [k1, k2]
            clear hm
            go_wp2_with (at_builtin; refine wpList_append_own _ rfl (.tmp 16) (.tmp 18) 30 rfl w.heap.size 5 i0 (.int .u8 0) 1 1 Try.underlying30 hi hz0 hz1 hz2 rfl (by decide) _ _ _ rfl (ho.alloc _) ⟨wr.heap.size, 0, none⟩ 1 1 [.int .u8 (x.toNat : Int)] rfl rfl (cell_one_new _ _ _) (by intro u hu; simp at hu; subst hu; rfl) (by unfold maxLen; omega) (by omega) (by simp; omega) ?_)
            intro v4 w4 ho4 hg4 _
            have hb4 : Below w.heap.size w w4 := hb.grown (grown_alloc hg4) hsz (fun k e => (ho.lt k e).1)
            have R := R0.out v4 w4 [x] HQ.out ho4
            clear ho4 hg4 ho hb
            go_wp2
            go_roundw
            case rel => exact ⟨j + 1, by omega, by go_num, R, hb4⟩
            case measure => simp [intOf]; omega
          · have HQ : Hid (qB x = [92, 120, hi4 x, lo4 x]) := by
              show qB x = _
              unfold qB; rw [hm, show okB x = false from decide_eq_false hok]; simp
            have HE : Hid ((dg ((x.toNat : Int) / 16)) = hi4 x ∧ (dg ((x.toNat : Int) % 16)) = lo4 x) := by
              show _ ∧ _
              unfold dg hi4 lo4
              rw [show ((x.toNat : Int) / 16).toNat = x.toNat / 16 by omega, show ((x.toNat : Int) % 16).toNat = x.toNat % 16 by omega]
              exact ⟨rfl, rfl⟩
            have hq : IntKind.u8.wrap ((x.toNat : Int) / 16) = (x.toNat : Int) / 16 := by rw [IntKind.wrap_u8]; omega
            have ht : (x.toNat : Int).tmod 16 = (x.toNat : Int) % 16 := Int.tmod_eq_emod_of_nonneg (by omega)
            have hr : IntKind.u8.wrap ((x.toNat : Int) % 16) = (x.toNat : Int) % 16 := by rw [IntKind.wrap_u8]; omega
            clear hm
            by_cases k1 : x.toNat < 32
            · have k1' : (x.toNat : Int) < 32 := by omega
              clear hok
              go_wp2_with (first | (go_at_call 31; refine (digit_int _ _ (by omega) (by omega)).mono ?_; rintro e w' ⟨rfl, rfl⟩) | (at_builtin; refine wpList_append_own _ rfl (.tmp 38) (.tmp 45) 30 rfl w.heap.size 5 i0 (.int .u8 0) 1 1 Try.underlying30 hi hz0 hz1 hz2 rfl (by decide) _ _ _ rfl (ho.alloc _) ⟨wr.heap.size, 0, none⟩ 4 4 [.int .u8 92, .int .u8 120, .int .u8 ((dg ((x.toNat : Int) / 16)).toNat : Int), .int .u8 ((dg ((x.toNat : Int) % 16)).toNat : Int)] rfl rfl (four_new _ _ _ _ _) (by intro u hu; simp at hu; rcases hu with rfl | rfl | rfl | rfl <;> rfl) (by unfold maxLen; omega) (by omega) (by simp; omega) ?_))
              intro v4 w4 ho4 hg4 _
              have hb4 : Below w.heap.size w w4 := hb.grown (grown_alloc hg4) hsz (fun k e => (ho.lt k e).1)
              rw [HE.out.1, HE.out.2] at ho4
              have R := R0.out v4 w4 [92, 120, hi4 x, lo4 x] HQ.out ho4
              clear ho4 hg4 ho hb
              go_wp2
              go_roundw
              case rel => exact ⟨j + 1, by omega, by go_num, R, hb4⟩
              case measure => simp [intOf]; omega
            · have k1' : (32 : Int) ≤ x.toNat := by omega
              have k2' : (126 : Int) < x.toNat := by omega
              clear hok
              go_wp2_with (first | (go_at_call 31; refine (digit_int _ _ (by omega) (by omega)).mono ?_; rintro e w' ⟨rfl, rfl⟩) | (at_builtin; refine wpList_append_own _ rfl (.tmp 38) (.tmp 45) 30 rfl w.heap.size 5 i0 (.int .u8 0) 1 1 Try.underlying30 hi hz0 hz1 hz2 rfl (by decide) _ _ _ rfl (ho.alloc _) ⟨wr.heap.size, 0, none⟩ 4 4 [.int .u8 92, .int .u8 120, .int .u8 ((dg ((x.toNat : Int) / 16)).toNat : Int), .int .u8 ((dg ((x.toNat : Int) % 16)).toNat : Int)] rfl rfl (four_new _ _ _ _ _) (by intro u hu; simp at hu; rcases hu with rfl | rfl | rfl | rfl <;> rfl) (by unfold maxLen; omega) (by omega) (by simp; omega) ?_))
              intro v4 w4 ho4 hg4 _
              have hb4 : Below w.heap.size w w4 := hb.grown (grown_alloc hg4) hsz (fun k e => (ho.lt k e).1)
              rw [HE.out.1, HE.out.2] at ho4
              have R := R0.out v4 w4 [92, 120, hi4 x, lo4 x] HQ.out ho4
              clear ho4 hg4 ho hb
              go_wp2
              go_roundw
              case rel => exact ⟨j + 1, by omega, by go_num, R, hb4⟩
              case measure => simp [intOf]; omega
    · have hjn : j = s.size := by omega
      subst hjn
      have ht : s.data.toList.take s.size = s.data.toList := List.take_of_length_le (by simp)
      rw [ht] at ho hq4 hq5 hqn
      clear ht
      generalize hM : qL s.data.toList = M at *
      have HM : Hid (quoteL s.data.toList = 34 :: (M ++ [34])) := by show quoteL _ = _; unfold quoteL; rw [hM]
      clear hM hq4 hq5
      obtain ⟨av, cv, rfl⟩ := owns_shape ho
      go_wp2_with (at_builtin; refine wpList_append_own _ rfl (.tmp 47) (.tmp 48) 30 rfl w.heap.size 5 i0 (.int .u8 0) 1 1 Try.underlying30 hi hz0 hz1 hz2 rfl (by decide) _ _ _ rfl (ho.alloc _) ⟨wr.heap.size, 0, none⟩ 1 1 [.int .u8 34] rfl rfl (cell_one_new _ _ _) (by intro u hu; simp at hu; subst hu; rfl) (by unfold maxLen; omega) (by omega) (by simp; omega) ?_)
      intro v5 w5 ho5 hg5 _
      have hb5 : Below w.heap.size w w5 := hb.grown (grown_alloc hg5) hsz (fun k e => (ho.lt k e).1)
      have ho6 : w5.ownsRow w.heap.size 5 1 v5 (1 + M.length + 1) ((34 :: (M ++ [34])).map B) := by
        have e : (34 :: (M ++ [34])).map B = (34 :: M).map B ++ [.int .u8 34] := by simp [B]
        rw [e]; exact ho5
      have hcv := conv_own ho6
      clear ho5 hg5 ho hb ho6
      go_wp2
      go_ret
      exact ⟨by rw [HM.out]; rfl, hb5⟩
end Go.Proofs.Ytncgdbjjlhohiab
