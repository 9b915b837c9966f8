import Derived.Test.YtiggbnkmggbpiaaGreatDoorRsb
namespace Go.Proofs.YtiggbnkmggbpiaaGreatDoor
open Go.RowKit
set_option linter.unusedVariables false

set_option maxHeartbeats 2000000 in
theorem rstring_any (s : ByteArray) (w : World) (hs : s.size < 4611686018427387904) :
    Calls Tryz.prog 33 #[.string s] w fun e w' => e = .returned (.bool (strL s.data.toList)) ∧ w' = w := by
  obtain ⟨r, hr⟩ : ∃ r, strL s.data.toList = r := ⟨_, rfl⟩
  rw [hr]
  have HR : Hid (strL s.data.toList = r) := hr
  clear hr
  go_enter Tryz.func33, Tryz.ntmps33
  go_wp2
  go_loop [3] (fun v => ∃ j : Nat, j ≤ s.size ∧ v = .int .i64 (j : Int) ∧ Hid ((s.data.toList.take j).all sayB = true)) (fun v => s.size - (intOf v).toNat)
  case atStart => exact ⟨0, by omega, rfl, (by show _ = _; simp)⟩
  case round =>
    obtain ⟨j, hj, rfl, hh⟩ := hrel
    by_cases hlt : j < s.size
    · have hlt' : (j : Int) < s.size := by omega
      obtain ⟨x, hx⟩ : ∃ c, s[j] = c := ⟨_, rfl⟩
      have HX : Hid (s.data.toList[j]? = some x) := by show _ = _; rw [snoc_all s j hlt, hx]
      have hix : ∀ w, (Instr.index 9 (.string s) (.int .i64 (j : Int))).run Tryz.prog w = .ok (.int .u8 (x.toNat : Int)) w := fun w => by
        rw [← hx]; exact index_at s j _ w hlt rfl
      clear hx
      by_cases hsay : 32 ≤ x.toNat ∧ x.toNat ≤ 126
      · have i1 : ¬ (x.toNat : Int) < 32 := by omega
        have i2 : ¬ (126 : Int) < x.toNat := by omega
        have HN : Hid ((s.data.toList.take (j + 1)).all sayB = true) := by
          show _ = _
          rw [List.take_add_one, HX.out, List.all_append, hh.out]
          simp [sayB, hsay]
        clear hsay hh
        go_wp2
        go_round
        case rel => exact ⟨j + 1, by omega, by go_num, HN.out⟩
        case measure => simp [intOf]; omega
      · have HF : Hid (r = false) := by
          show r = _
          rw [← HR.out]
          unfold strL
          have : s.data.toList.all sayB = false := by
            rw [List.all_eq_false]
            exact ⟨x, List.mem_of_getElem? HX.out, by unfold sayB; rw [decide_eq_false hsay]; decide⟩
          rw [this, Bool.and_false]
        clear hh HR
        by_cases h32 : x.toNat < 32
        · have i1 : (x.toNat : Int) < 32 := by omega
          clear hsay h32
          go_wp2
          go_ret
          exact ⟨by rw [HF.out]; rfl, rfl⟩
        · have i1 : ¬ (x.toNat : Int) < 32 := by omega
          have i2 : (126 : Int) < x.toNat := by omega
          clear hsay h32
          go_wp2
          go_ret
          exact ⟨by rw [HF.out]; rfl, rfl⟩
    · have hlt' : ¬ (j : Int) < s.size := by omega
      have HF : Hid (r = decide ((s.size : Int) ≤ 255)) := by
        show r = _
        rw [← HR.out]
        have h1 := hh.out
        rw [List.take_of_length_le (by rw [len_all]; omega)] at h1
        unfold strL
        rw [h1, len_all, Bool.and_true]
        congr 1
        apply propext
        constructor <;> intro h <;> omega
      clear hh HR
      by_cases h255 : s.size ≤ 255
      · have h255' : (s.size : Int) ≤ 255 := by omega
        clear h255
        go_wp2
        go_ret
        exact ⟨by rw [HF.out, decide_eq_true h255']; rfl, rfl⟩
      · have h255' : ¬ (s.size : Int) ≤ 255 := by omega
        have HG : Hid (r = false) := by show r = _; rw [HF.out, decide_eq_false h255']
        clear h255 HF
        go_wp2
        go_ret
        exact ⟨by rw [HG.out]; rfl, rfl⟩
theorem cut_one (s : ByteArray) (j : Nat) (x : UInt8) (h : j < s.size) (hx : s.data.toList[j]? = some x) (w : World) (z : Int) (hz : z = (j : Int) + 1) : (Instr.slice 9 (.string s) (some (.int .i64 (j : Int))) (some (.int .i64 z)) none).run Tryz.prog w = .ok (.string ⟨#[x]⟩) w := by
  subst hz
  have h1 : s.extract j (j + 1) = ⟨#[x]⟩ := (same_bytes [x] _ (by
    rw [Lib.extract_data]
    obtain ⟨q1, q2⟩ := List.getElem?_eq_some_iff.1 hx
    rw [List.drop_eq_getElem_cons q1, q2, show j + 1 - j = 1 by omega]
    rfl)).symm
  have h2 : (0 : Int) ≤ j ∧ (j : Int) ≤ (j : Int) + 1 ∧ (j : Int) + 1 ≤ s.size := by omega
  have h3 : ((j : Int) + 1).toNat = j + 1 := by omega
  simp [go_sem, h2, h3, h1]
theorem appl (l : List UInt8) (c : UInt8) : (⟨l.toArray⟩ : ByteArray) ++ ⟨#[c]⟩ = ⟨(l ++ [c]).toArray⟩ := (same_bytes _ _ (by simp [ByteArray.data_append])).symm
set_option maxHeartbeats 2000000 in
theorem rquote_any (s : ByteArray) (w : World) (hs : s.size ≤ 255) :
    Calls Tryz.prog 34 #[.string s] w fun e w' => e = .returned (.string ⟨(34 :: (escL s.data.toList ++ [34])).toArray⟩) ∧ w' = w := by
  obtain ⟨r, hr⟩ : ∃ r, 34 :: (escL s.data.toList ++ [34]) = r := ⟨_, rfl⟩
  rw [hr]
  have HR : Hid (34 :: (escL s.data.toList ++ [34]) = r) := hr
  clear hr
  go_enter Tryz.func34, Tryz.ntmps34
  go_wp2
  go_loop [3, 4] (fun q v => ∃ (j : Nat) (l : List UInt8), j ≤ s.size ∧ v = .int .i64 (j : Int) ∧ q = .string ⟨l.toArray⟩ ∧ l.length ≤ 2 * j + 1 ∧ Hid (l = 34 :: escL (s.data.toList.take j))) (fun _ v => s.size - (intOf v).toNat)
  case atStart => exact ⟨0, [34], by omega, rfl, rfl, by simp, by show _ = _; simp [escL]⟩
  case round =>
    obtain ⟨j, l, hj, rfl, rfl, hl, hh⟩ := hrel
    by_cases hlt : j < s.size
    · have hlt' : (j : Int) < s.size := by omega
      obtain ⟨x, hx⟩ : ∃ c, s[j] = c := ⟨_, rfl⟩
      have hxl : s.data.toList[j]? = some x := by rw [snoc_all s j hlt, hx]
      have hcut := fun w => cut_one s j x hlt hxl w ((j : Int) + 1) rfl
      have htk : s.data.toList.take (j + 1) = s.data.toList.take j ++ [x] := by rw [List.take_add_one, hxl]; rfl
      have hix : ∀ w, (Instr.index 9 (.string s) (.int .i64 (j : Int))).run Tryz.prog w = .ok (.int .u8 (x.toNat : Int)) w := fun w => by
        rw [← hx]; exact index_at s j _ w hlt rfl
      by_cases he : escB x = true
      · have HN : Hid (l ++ [92] ++ [x] = 34 :: escL (s.data.toList.take (j + 1))) := by
          show _ = _
          rw [htk, hh.out]; unfold escL; rw [List.flatMap_append]; simp [he]
        have a1 := appl l 92
        have a2 := appl (l ++ [92]) x
        have hw1 : ¬ 9223372036854775807 < l.length + 1 := by omega
        have hw2 : ¬ 9223372036854775807 < l.length + 1 + 1 := by omega
        have hcc : x = 34 ∨ x = 92 := of_decide_eq_true he
        clear hh htk hxl hx he
        rcases hcc with rfl | rfl
        · have hix' : ∀ w, (Instr.index 9 (.string s) (.int .i64 (j : Int))).run Tryz.prog w = .ok (.int .u8 34) w := hix
          clear hix
          go_wp2
          go_round
          case rel => exact ⟨j + 1, l ++ [92] ++ [34], by omega, by go_num, (by simp), by simp; omega, HN.out⟩
          case measure => simp [intOf]; omega
        · have hix' : ∀ w, (Instr.index 9 (.string s) (.int .i64 (j : Int))).run Tryz.prog w = .ok (.int .u8 92) w := hix
          clear hix
          go_wp2
          go_round
          case rel => exact ⟨j + 1, l ++ [92] ++ [92], by omega, by go_num, (by simp), by simp; omega, HN.out⟩
          case measure => simp [intOf]; omega
      · have HN : Hid (l ++ [x] = 34 :: escL (s.data.toList.take (j + 1))) := by
          show _ = _
          rw [htk, hh.out]; unfold escL; rw [List.flatMap_append]; simp [he]
        have a1 := appl l x
        have hw1 : ¬ 9223372036854775807 < l.length + 1 := by omega
        have i1 : ((x.toNat : Int) == 34) = false := by
          rw [beq_eq_false_iff_ne]; intro e; exact he (decide_eq_true (Or.inl (UInt8.toNat_inj.1 (by show x.toNat = 34; omega))))
        have i2 : ((x.toNat : Int) == 92) = false := by
          rw [beq_eq_false_iff_ne]; intro e; exact he (decide_eq_true (Or.inr (UInt8.toNat_inj.1 (by show x.toNat = 92; omega))))
        clear hh htk hxl hx he
        go_wp2
        go_round
        case rel => exact ⟨j + 1, l ++ [x], by omega, by go_num, rfl, by simp; omega, HN.out⟩
        case measure => simp [intOf]; omega
    · have hlt' : ¬ (j : Int) < s.size := by omega
      have HF : Hid (r = l ++ [34]) := by
        show r = _
        rw [← HR.out, hh.out, List.take_of_length_le (by rw [len_all]; omega)]
        rfl
      have a1 := appl l 34
      have hw1 : ¬ 9223372036854775807 < l.length + 1 := by omega
      clear hh HR
      go_wp2
      go_ret
      exact ⟨by rw [HF.out]; rfl, rfl⟩
end Go.Proofs.YtiggbnkmggbpiaaGreatDoor
