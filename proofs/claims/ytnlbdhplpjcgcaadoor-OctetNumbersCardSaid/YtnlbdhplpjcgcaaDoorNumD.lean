import Derived.Test.YtnlbdhplpjcgcaaDoorNumC
namespace Go.Proofs.YtnlbdhplpjcgcaaDoor
open Go.RowKit
set_option linter.unusedVariables false

theorem no_room64 {l : List UInt8} {m : Nat} (hm : m < 18446744073709551616) (k : Nat) (h : k < l.length) (hr : ¬ 10 * vA 0 (l.take k) + dV l[k] < 18446744073709551616) : okD l m = false :=
  no_room k h (by omega)
theorem same_bytes (l : List UInt8) (s : ByteArray) (h : l = s.data.toList) : (⟨l.toArray⟩ : ByteArray) = s := by
  subst h; cases s; simp
theorem isD_no (x : UInt8) (h : isD x = false) : ((x.toNat : Int) < 48) ∨ (¬ (x.toNat : Int) < 48 ∧ (57 : Int) < x.toNat) := by
  have := of_decide_eq_false h
  omega
set_option maxHeartbeats 2000000 in
theorem refdigits_any (s : ByteArray) (m : Nat) (hm : m < 18446744073709551616) (w : World) (hs' : s.size < 9223372036854775807) :
    Calls Tryd.prog 5 #[.string s, .int .u64 m] w fun e w' => e = .returned (.tuple #[.int .u64 (dgV s.data.toList m), .int .i64 (dgE s.data.toList m)]) ∧ Below w.heap.size w w' := by
  have HL : Hid (s.data.toList.length = s.size) := by show _ = _; simp
  go_enter Tryd.func5, Tryd.ntmps5
  go_wp2
  go_loopw [6, 7] (fun u i wr => ∃ j : Nat, j ≤ s.size ∧ i = .int .i64 j ∧ u = .int .u64 (vA 0 (s.data.toList.take j) : Int) ∧ allD (s.data.toList.take j) = true ∧ vA 0 (s.data.toList.take j) < 18446744073709551616 ∧ Below w.heap.size w wr) (fun _ i _ => s.size - (intOf i).toNat)
  case atStart => exact ⟨0, by omega, rfl, rfl, rfl, (by show 0 < 18446744073709551616; decide), Below.refl _ _⟩
  case round =>
    obtain ⟨j, hj, rfl, rfl, ha, hv, hb⟩ := hrel
    have hsz := hb.size
    by_cases hlt : j < s.size
    · have hlt' : (j : Int) < s.size := by omega
      obtain ⟨x, hx⟩ : ∃ c, s[j] = c := ⟨_, rfl⟩
      have hl : j < s.data.toList.length := by rw [HL.out]; exact hlt
      have hxl : s.data.toList[j] = x := by
        have := snoc_all s j hlt
        rw [List.getElem?_eq_getElem hl, hx] at this
        exact Option.some.inj this
      have hix : ∀ w, (Instr.index 9 (.string s) (.int .i64 (j : Int))).run Tryd.prog w = .ok (.int .u8 (x.toNat : Int)) w := fun w => by
        rw [← hx]; exact index_at s j _ w hlt rfl
      have HN : Hid (vA 0 (s.data.toList.take (j + 1)) = 10 * vA 0 (s.data.toList.take j) + dV x) := by
        show _ = _
        rw [vA_take _ j hl, hxl]
      have HD : Hid (isD x = false → okD s.data.toList m = false) := fun h => no_digit j hl (by rw [hxl]; exact h)
      have HR : Hid (¬ 10 * vA 0 (s.data.toList.take j) + dV x < 18446744073709551616 → okD s.data.toList m = false) := fun h => no_room64 hm j hl (by rw [hxl]; exact h)
      have HA : Hid (isD x = true → allD (s.data.toList.take (j + 1)) = true) := fun h => allD_take _ j hl ha (by rw [hxl]; exact h)
      clear hxl hx ha hl
      by_cases hd : isD x = true
      · obtain ⟨hd10, hx1, hx2⟩ := isD_lt hd
        have HA' : Hid (allD (s.data.toList.take (j + 1)) = true) := HA.out hd
        have hdx : (dV x : Int) = (x.toNat : Int) - 48 := by unfold dV; omega
        have hx1' : ¬ (x.toNat : Int) < 48 := by omega
        have hx2' : ¬ (57 : Int) < x.toNat := by omega
        generalize vA 0 (s.data.toList.take j) = v at *
        have hwd : IntKind.u8.wrap ((x.toNat : Int) - 48) = (dV x : Int) := by rw [IntKind.wrap_u8]; omega
        generalize dV x = d at *
        clear HA HD hdx
        have hw0 : IntKind.u64.wrap (d : Int) = d := by rw [IntKind.wrap_u64]; omega
        have hwm : IntKind.u64.wrap (18446744073709551615 - (d : Int)) = 18446744073709551615 - (d : Int) := by rw [IntKind.wrap_u64]; omega
        by_cases hr : 10 * v + d < 18446744073709551616
        · have hw1 : IntKind.u64.wrap ((v : Int) * 10) = (v : Int) * 10 := by rw [IntKind.wrap_u64]; omega
          have hw2 : IntKind.u64.wrap ((v : Int) * 10 + (d : Int)) = (v : Int) * 10 + (d : Int) := by rw [IntKind.wrap_u64]; omega
          have hg : ¬ (18446744073709551615 - (d : Int)) / 10 < (v : Int) := by omega
          clear HR
          go_wp2
          go_roundw
          case rel => exact ⟨j + 1, by omega, by go_num, by rw [HN.out]; push_cast; rw [Int.mul_comm], HA'.out, by rw [HN.out]; exact hr, hb⟩
          case measure => simp [intOf]; omega
        · obtain ⟨e1, e2⟩ := dg_no (HR.out hr)
          have hg : (18446744073709551615 - (d : Int)) / 10 < (v : Int) := by omega
          clear HR HN
          go_wp2
          go_ret2
          exact ⟨tup2 (by first | rfl | (rw [e1]; rfl)) (by first | rfl | (rw [e2]; rfl)), hb⟩
      · have hd' : isD x = false := by simpa using hd
        obtain ⟨e1, e2⟩ := dg_no (HD.out hd')
        clear HA HR HD HN hd
        rcases isD_no x hd' with h | ⟨h, h'⟩
        · go_wp2
          go_ret2
          exact ⟨tup2 (by first | rfl | (rw [e1]; rfl)) (by first | rfl | (rw [e2]; rfl)), hb⟩
        · go_wp2
          go_ret2
          exact ⟨tup2 (by first | rfl | (rw [e1]; rfl)) (by first | rfl | (rw [e2]; rfl)), hb⟩
    · have hjn : j = s.size := by omega
      subst hjn
      have HT : s.data.toList.take s.size = s.data.toList := List.take_of_length_le (by rw [HL.out]; exact Nat.le_refl _)
      rw [HT] at ha hv
      rw [HT]
      clear HT
      by_cases h0 : 0 < s.size
      · have hnt := isE_no s h0
        have hdec := refdec_any _ hv
        by_cases hc : canonD s.data.toList = true
        · rw [same_bytes _ s ((dec_iff _ ha).2 hc)] at hdec
          by_cases hmo : vA 0 s.data.toList ≤ m
          · obtain ⟨e1, e2⟩ := dg_yes (show okD s.data.toList m = true by unfold okD; rw [hc, ha]; simpa using hmo)
            have hmo' : ¬ (m : Int) < (vA 0 s.data.toList : Int) := by omega
            clear ha hc
            go_wp2_with (go_at_call 7; refine (hdec _).mono ?_; rintro e w2 ⟨rfl, hb2⟩)
            go_ret2
            exact ⟨tup2 (by first | rfl | (rw [e1]; rfl)) (by first | rfl | (rw [e2]; rfl)), hb.trans (hb2.mono hsz)⟩
          · obtain ⟨e1, e2⟩ := dg_no (show okD s.data.toList m = false by unfold okD; rw [decide_eq_false hmo]; simp)
            have hmo' : (m : Int) < (vA 0 s.data.toList : Int) := by omega
            clear ha hc
            go_wp2_with (go_at_call 7; refine (hdec _).mono ?_; rintro e w2 ⟨rfl, hb2⟩)
            go_ret2
            exact ⟨tup2 (by first | rfl | (rw [e1]; rfl)) (by first | rfl | (rw [e2]; rfl)), hb.trans (hb2.mono hsz)⟩
        · obtain ⟨e1, e2⟩ := dg_no (no_canon (m := m) (show canonD s.data.toList = false by simpa using hc))
          have hne : ((⟨(Lib.decDigits (vA 0 s.data.toList)).toArray⟩ : ByteArray).toList == s.toList) = false := by
            rw [beq_eq_false_iff_ne, ByteArray.toList_eq, ByteArray.toList_eq]
            intro e
            exact hc ((dec_iff _ ha).1 e)
          generalize (⟨(Lib.decDigits (vA 0 s.data.toList)).toArray⟩ : ByteArray) = x at hdec hne
          clear ha hc
          go_wp2_with (go_at_call 7; refine (hdec _).mono ?_; rintro e w2 ⟨rfl, hb2⟩)
          go_ret2
          exact ⟨tup2 (by first | rfl | (rw [e1]; rfl)) (by first | rfl | (rw [e2]; rfl)), hb.trans (hb2.mono hsz)⟩
      · have hnt := isE_yes s (by omega)
        obtain ⟨e1, e2⟩ := dg_no (no_canon (m := m) (l := s.data.toList) (by rw [str_nil s (by omega)]; rfl))
        clear ha
        go_wp2
        go_ret2
        exact ⟨tup2 (by first | rfl | (rw [e1]; rfl)) (by first | rfl | (rw [e2]; rfl)), hb⟩
end Go.Proofs.YtnlbdhplpjcgcaaDoor
