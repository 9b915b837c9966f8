import Derived.Test.YtncgdbjjlhohiabHexD
namespace Go.Proofs.Ytncgdbjjlhohiab
open Go.RowKit
set_option linter.unusedVariables false

theorem nibble_q (c : UInt8) (w : World) : Calls Try.prog 29 #[.int .u8 c.toNat] w fun e w' => e = .returned (.int .u8 (nib c : Int)) ∧ w' = w :=
  (nibble_any c w).mono fun e w' ⟨h1, h2⟩ => ⟨h1, h2.symm⟩
theorem index_at (s : ByteArray) (k : Nat) (z : Int) (w : World) (h : k < s.size) (hz : z = k) : (Instr.index 9 (.string s) (.int .i64 z)).run Try.prog w = .ok (.int .u8 (s[k].toNat : Int)) w := by
  subst hz
  have h1 : (0 : Int) ≤ k ∧ (k : Int) < s.size := by omega
  simp [go_sem, h1]
theorem drop_two (s : ByteArray) (k : Nat) (h : k + 1 < s.size) : s.data.toList.drop k = s[k] :: s[k + 1] :: s.data.toList.drop (k + 2) := by
  have h1 : k < s.data.toList.length := by simp; omega
  have h2 : k + 1 < s.data.toList.length := by simpa using h
  rw [List.drop_eq_getElem_cons h1, List.drop_eq_getElem_cons h2]
  rfl

set_option maxHeartbeats 1000000 in
theorem refunhex_any (s : ByteArray) (w : World) (hs : s.size ≤ 4194304) :
    Calls Try.prog 12 #[.string s] w fun e w' => ∃ a cap, e = .returned (.tuple #[.slice a (lU s).length cap, .int .i64 (eU s)]) ∧ Own1 w' w.heap.size a cap (lU s) ∧ Below w.heap.size w w' := by
  obtain ⟨i0, hi, hz0, hz1, hz2⟩ := info_parts Try.info5
  obtain ⟨U, hU⟩ : ∃ U, unhexL s.data.toList = U := ⟨_, rfl⟩
  have el : lU s = oL U := by unfold lU; rw [hU]
  have ee : eU s = oE 14 U := by unfold eU; rw [hU]
  rw [el, ee]
  have HU : Hid (_ = _) := hU
  have hlen : s.data.toList.length = s.size := by simp
  clear hU el ee
  go_enter Try.func12, Try.ntmps12
  go_wp2
  go_loopw [4, 5] (fun v i wr => ∃ (j : Nat) (acc : List UInt8), 2 * j ≤ s.size ∧ i = .int .i64 (2 * (j : Int)) ∧ U = (unhexL (s.data.toList.drop (2 * j))).map (acc ++ ·) ∧ acc.length = j ∧ wr.ownsRow w.heap.size 5 1 v acc.length (acc.map B) ∧ Below w.heap.size w wr) (fun _ i _ => s.size - (intOf i).toNat)
  case atStart => exact ⟨0, [], by omega, rfl, by rw [← HU.out]; simp, rfl, World.ownsRow_nil _ _ _ _, Below.refl _ _⟩
  case round =>
    obtain ⟨j, acc, hj, rfl, hUS, hacc, ho, hb⟩ := hrel
    obtain ⟨av, cv, rfl⟩ := owns_shape ho
    have HS : Hid (U = (unhexL (s.data.toList.drop (2 * j))).map (acc ++ ·)) := hUS
    have HA : Hid (acc.length = j) := hacc
    have hacc2 : acc.length ≤ 4194304 := by omega
    have hsz := hb.size
    clear hUS hacc
    by_cases hlt : 2 * j + 1 < s.size
    · have hlt' : 2 * (j : Int) + 1 < s.size := by omega
      obtain ⟨c0, hc0⟩ : ∃ c, s[2 * j] = c := ⟨_, rfl⟩
      obtain ⟨c1, hc1⟩ : ∃ c, s[2 * j + 1] = c := ⟨_, rfl⟩
      have HT : Hid (s.data.toList.drop (2 * j) = c0 :: c1 :: s.data.toList.drop (2 * (j + 1))) := by
        show _ = _
        rw [drop_two s (2 * j) hlt, hc0, hc1]; rfl
      have n0 := nib_le c0
      have n1 := nib_le c1
      have hi0 : ∀ w, (Instr.index 9 (.string s) (.int .i64 (2 * (j : Int)))).run Try.prog w = .ok (.int .u8 (c0.toNat : Int)) w := fun w => by
        rw [← hc0]; exact index_at s (2 * j) _ w (by omega) (by omega)
      have hi1 : ∀ w, (Instr.index 9 (.string s) (.int .i64 (2 * (j : Int) + 1))).run Try.prog w = .ok (.int .u8 (c1.toNat : Int)) w := fun w => by
        rw [← hc1]; exact index_at s (2 * j + 1) _ w hlt (by omega)
      have hw1 : IntKind.i64.wrap (2 * (j : Int) + 1) = 2 * (j : Int) + 1 := by rw [IntKind.wrap_i64]; omega
      clear hc0 hc1
      have HK : Hid (hbOk c0 c1 = decide (nib c0 < 16 ∧ nib c1 < 16)) := by show _ = _; unfold hbOk okV; simp
      by_cases hk : nib c0 < 16 ∧ nib c1 < 16
      · obtain ⟨k0, k1⟩ := hk
        have HB : Hid (B (UInt8.ofNat (16 * nib c0 + nib c1)) = .int .u8 ((nib c0 : Int) * 16 + (nib c1 : Int))) := by
          show _ = _
          unfold B
          rw [UInt8.toNat_ofNat_of_lt' (show _ < 256 by omega)]
          congr 1
          omega
        have HR : Hid (U = (unhexL (s.data.toList.drop (2 * (j + 1)))).map ((acc ++ [UInt8.ofNat (16 * nib c0 + nib c1)]) ++ ·)) := by
          show U = _
          rw [HS.out, HT.out, unhexL, if_pos (by rw [HK.out]; exact decide_eq_true ⟨k0, k1⟩), Option.map_map]
          congr 1
          funext z
          simp
        generalize UInt8.ofNat (16 * nib c0 + nib c1) = xb at *
        go_wp2
        go_quiet ((go_at_call 29; exact Calls.quiet_of_same (nibble_q _ _)))
        go_wp2_with (at_builtin; refine wpList_append_own _ rfl (.tmp 30) (.tmp 35) 30 rfl w.heap.size 5 i0 (.int .u8 0) 1 1 Try.underlying30 hi hz0 hz1 hz2 rfl (by decide) (.slice av acc.length cv) acc.length (acc.map B) rfl (World.ownsRow.alloc (w := wr.drewN nq) ho _) ⟨wr.heap.size, 0, none⟩ 1 1 [.int .u8 ((nib c0 : Int) * 16 + (nib c1 : Int))] rfl rfl (cell_one_new _ _ _) (by intro u hu; simp at hu; subst hu; rfl) (by unfold maxLen; omega) (by omega) (by simp; omega) ?_)
        intro v4 w4 ho4 hg4 _
        have hb4 : Below w.heap.size w w4 := ((drewN_below hb nq).alloc hsz _).grown hg4 (by simp; omega) (fun k e => (ho.lt k e).1)
        have R : w4.ownsRow w.heap.size 5 1 v4 (acc ++ [xb]).length ((acc ++ [xb]).map B) := by
          rw [List.length_append, List.map_append]
          show w4.ownsRow w.heap.size 5 1 v4 (acc.length + 1) (acc.map B ++ [B xb])
          rw [HB.out]; exact ho4
        clear ho4 hg4 ho hb hi0 hi1
        go_wp2
        go_roundw
        case rel => exact ⟨j + 1, _, by omega, by go_num, HR.out, by simp [HA.out], R, hb4⟩
        case measure => simp [intOf]; omega
      · have HU2 : Hid (U = none) := by
          show U = none
          rw [HS.out, HT.out, unhexL, if_neg (by rw [HK.out, decide_eq_false hk]; simp)]; rfl
        by_cases k0 : 15 < nib c0
        · have k0' : (15 : Int) < nib c0 := by omega
          clear hk
          go_wp2
          go_quiet ((go_at_call 29; exact Calls.quiet_of_same (nibble_q _ _)))
          go_wp2
          go_ret2
          refine ⟨none, 0, ?_, ?_, drewN_below hb nq⟩
          · rw [HU2.out]; rfl
          · rw [HU2.out]; exact World.ownsRow_nil _ _ _ _
        · have k0' : (nib c0 : Int) ≤ 15 := by omega
          have k1' : (15 : Int) < nib c1 := by omega
          clear hk
          go_wp2
          go_quiet ((go_at_call 29; exact Calls.quiet_of_same (nibble_q _ _)))
          go_wp2
          go_ret2
          refine ⟨none, 0, ?_, ?_, drewN_below hb nq⟩
          · rw [HU2.out]; rfl
          · rw [HU2.out]; exact World.ownsRow_nil _ _ _ _
    · have hge : ¬ 2 * (j : Int) + 1 < s.size := by omega
      by_cases he : s.size % 2 = 0
      · have he' : ((s.size : Int) % 2 != 0) = false := by simp; omega
        have HU2 : Hid (U = some acc) := by
          show U = some acc
          rw [HS.out, List.drop_of_length_le (by omega)]; simp [unhexL]
        go_wp2
        go_ret2
        refine ⟨av, cv, ?_, ?_, hb⟩
        · rw [HU2.out]; rfl
        · rw [HU2.out]; exact ho
      · have he' : ((s.size : Int) % 2 != 0) = true := by rw [bne_iff_ne]; omega
        have HU2 : Hid (U = none) := by
          show U = none
          have h1 : 2 * j < s.data.toList.length := by omega
          rw [HS.out, List.drop_eq_getElem_cons h1, List.drop_of_length_le (by omega)]; rfl
        go_wp2
        go_ret2
        refine ⟨none, 0, ?_, ?_, hb⟩
        · rw [HU2.out]; rfl
        · rw [HU2.out]; exact World.ownsRow_nil _ _ _ _
end Go.Proofs.Ytncgdbjjlhohiab
