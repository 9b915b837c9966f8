import Derived.Test.YtnlbdhplpjcgcaaDoorNumA
namespace Go.Proofs.YtnlbdhplpjcgcaaDoor
open Go.RowKit
set_option linter.unusedVariables false

theorem index_at (s : ByteArray) (k : Nat) (z : Int) (w : World) (h : k < s.size) (hz : z = k) : (Instr.index 9 (.string s) (.int .i64 z)).run Tryd.prog w = .ok (.int .u8 (s[k].toNat : Int)) w := by
  subst hz
  have h1 : (0 : Int) ≤ k ∧ (k : Int) < s.size := by omega
  simp [go_sem, h1]
def dgV (l : List UInt8) (m : Nat) : Int := if okD l m = true then (vA 0 l : Int) else 0
def dgE (l : List UInt8) (m : Nat) : Int := if okD l m = true then 0 else 13
theorem dg_yes {l : List UInt8} {m : Nat} (h : okD l m = true) : dgV l m = (vA 0 l : Int) ∧ dgE l m = 0 := by
  unfold dgV dgE; rw [if_pos h, if_pos h]; exact ⟨rfl, rfl⟩
theorem dg_no {l : List UInt8} {m : Nat} (h : okD l m = false) : dgV l m = 0 ∧ dgE l m = 13 := by
  unfold dgV dgE; rw [if_neg (by rw [h]; decide), if_neg (by rw [h]; decide)]; exact ⟨rfl, rfl⟩
theorem no_canon {l : List UInt8} {m : Nat} (h : canonD l = false) : okD l m = false := by unfold okD; rw [h]; rfl
theorem no_digit {l : List UInt8} {m : Nat} (k : Nat) (h : k < l.length) (hd : isD l[k] = false) : okD l m = false := by
  unfold okD; rw [allD_not l k h hd]; simp
theorem no_room {l : List UInt8} {m : Nat} (k : Nat) (h : k < l.length) (hr : ¬ 10 * vA 0 (l.take k) + dV l[k] ≤ m) : okD l m = false := by
  have h1 := vA_take l k h
  have h2 := vA_take_le l (k + 1)
  unfold okD
  rw [decide_eq_false (show ¬ vA 0 l ≤ m by omega)]
  simp
theorem str_nil (s : ByteArray) (h : s.size = 0) : s.data.toList = [] := by
  have : s.data.toList.length = 0 := by simpa using h
  exact List.length_eq_zero_iff.1 this

set_option maxHeartbeats 1000000 in
theorem digits_loop (s : ByteArray) (m : Nat) (hm : m < 18446744073709551616) (w : World) (hs' : s.size < 9223372036854775807) (h0 : 0 < s.size) (hc : canonD s.data.toList = true) :
    Calls Tryd.prog 4 #[.string s, .int .u64 m] w fun e w' => e = .returned (.tuple #[.int .u64 (dgV s.data.toList m), .int .i64 (dgE s.data.toList m)]) ∧ Below w.heap.size w w' := by
  have HC : Hid (canonD s.data.toList = true) := hc
  have HL : Hid (s.data.toList.length = s.size) := by show _ = _; simp
  have h0' : (0 : Int) < s.size := by omega
  obtain ⟨x0, hx0⟩ : ∃ c, s[0] = c := ⟨_, rfl⟩
  have hi0 : ∀ w, (Instr.index 9 (.string s) (.int .i64 0)).run Tryd.prog w = .ok (.int .u8 (x0.toNat : Int)) w := fun w => by
    rw [← hx0]; exact index_at s 0 0 w h0 rfl
  have hz : (1 : Int) < s.size → ((x0.toNat : Int) == 48) = false := fun h1 => by
    rw [beq_eq_false_iff_ne]
    intro e
    have := of_decide_eq_true hc
    refine this.2 ⟨by simp; omega, ?_⟩
    rw [List.head?_eq_getElem?, snoc_all s 0 h0, hx0, show x0 = 48 from UInt8.toNat_inj.1 (by have : x0.toNat = 48 := by omega
                                                                                              rw [this]; rfl)]
  clear hx0 hc
  have hnt : s.toList.isEmpty = false := by
    rw [ByteArray.toList_eq, List.isEmpty_eq_false_iff]
    intro e
    have : s.data.toList.length = 0 := by rw [e]; rfl
    have e2 : s.data.toList.length = s.size := by simp
    omega
  have key : ((1 : Int) < s.size ∧ ((x0.toNat : Int) == 48) = false) ∨ ¬ (1 : Int) < s.size := by
    by_cases h1 : (1 : Int) < s.size
    · exact .inl ⟨h1, hz h1⟩
    · exact .inr h1
  clear hz
  rcases key with ⟨h1, hz⟩ | h1 <;> (
    go_enter Tryd.func4, Tryd.ntmps4
    go_wp2
    go_loopw [6, 24] (fun u i wr => ∃ j : Nat, j ≤ s.size ∧ i = .int .i64 j ∧ u = .int .u64 (vA 0 (s.data.toList.take j) : Int) ∧ allD (s.data.toList.take j) = true ∧ vA 0 (s.data.toList.take j) ≤ m ∧ Below w.heap.size w wr) (fun _ i _ => s.size - (intOf i).toNat)
    case atStart => exact ⟨0, by omega, rfl, rfl, rfl, Nat.zero_le _, Below.refl _ _⟩
    case round =>
      obtain ⟨j, hj, rfl, rfl, ha, hv, hb⟩ := hrel
      have hsz := hb.size
      by_cases hlt : j < s.size
      · have hlt' : (j : Int) < s.size := by omega
        obtain ⟨x, hx⟩ : ∃ c, s[j] = c := ⟨_, rfl⟩
        have hl : j < s.data.toList.length := by rw [HL.out]; exact hlt
        have hxl : s.data.toList[j] = x := by
          have := snoc_all s j hlt
          rw [List.getElem?_eq_getElem hl, hx] at this
          exact Option.some.inj this
        have hix : ∀ w, (Instr.index 9 (.string s) (.int .i64 (j : Int))).run Tryd.prog w = .ok (.int .u8 (x.toNat : Int)) w := fun w => by
          rw [← hx]; exact index_at s j _ w hlt rfl
        have HN : Hid (vA 0 (s.data.toList.take (j + 1)) = 10 * vA 0 (s.data.toList.take j) + dV x) := by
          show _ = _
          rw [vA_take _ j hl, hxl]
        have HD : Hid (isD x = false → okD s.data.toList m = false) := fun h => no_digit j hl (by rw [hxl]; exact h)
        have HR : Hid (¬ 10 * vA 0 (s.data.toList.take j) + dV x ≤ m → okD s.data.toList m = false) := fun h => no_room j hl (by rw [hxl]; exact h)
        have HA : Hid (isD x = true → allD (s.data.toList.take (j + 1)) = true) := fun h => allD_take _ j hl ha (by rw [hxl]; exact h)
        clear hxl hx ha
        by_cases hd : isD x = true
        · have hvO : vO x = (dV x : Int) := by unfold vO; rw [if_pos hd]
          have hd10 := (isD_lt hd).1
          have c1 := value10 x
          rw [hvO, hd] at c1
          have HA' : Hid (allD (s.data.toList.take (j + 1)) = true) := HA.out hd
          generalize vA 0 (s.data.toList.take j) = v at *
          generalize dV x = d at *
          clear hvO HA HD
          have hw0 : IntKind.u64.wrap (d : Int) = d := by rw [IntKind.wrap_u64]; omega
          by_cases hr : 10 * v + d ≤ m
          · have c2 := room_any v d m hm hd10
            rw [decide_eq_true hr] at c2
            have hw1 : IntKind.u64.wrap (10 * (v : Int)) = 10 * (v : Int) := by rw [IntKind.wrap_u64]; omega
            have hw2 : IntKind.u64.wrap (10 * (v : Int) + (d : Int)) = 10 * (v : Int) + (d : Int) := by rw [IntKind.wrap_u64]; omega
            clear HR
            go_wp2_with (first
              | (go_at_call 9; refine (c1 _).mono ?_; rintro e w2 ⟨rfl, hb2⟩)
              | (go_at_call 10; refine (c2 _).mono ?_; rintro e w3 ⟨rfl, rfl⟩))
            go_roundw
            case rel => exact ⟨j + 1, by omega, by go_num, by rw [HN.out]; push_cast; rfl, HA'.out, by rw [HN.out]; exact hr, hb.trans (hb2.mono hsz)⟩
            case measure => simp [intOf]; omega
          · have c2 := room_any v d m hm hd10
            rw [decide_eq_false hr] at c2
            obtain ⟨e1, e2⟩ := dg_no (HR.out hr)
            go_wp2_with (first
              | (go_at_call 9; refine (c1 _).mono ?_; rintro e w2 ⟨rfl, hb2⟩)
              | (go_at_call 10; refine (c2 _).mono ?_; rintro e w3 ⟨rfl, rfl⟩))
            go_ret2
            exact ⟨tup2 (by rw [e1]; rfl) (by rw [e2]; rfl), hb.trans (hb2.mono hsz)⟩
        · have hd' : isD x = false := by simpa using hd
          have c1 := value10 x
          rw [hd'] at c1
          obtain ⟨e1, e2⟩ := dg_no (HD.out hd')
          clear HA HR HD HN hd
          go_wp2_with (first
            | (go_at_call 9; refine (c1 _).mono ?_; rintro e w2 ⟨rfl, hb2⟩))
          go_ret2
          exact ⟨tup2 (by rw [e1]; rfl) (by rw [e2]; rfl), hb.trans (hb2.mono hsz)⟩
      · have hjn : j = s.size := by omega
        subst hjn
        rw [List.take_of_length_le (by rw [HL.out]; exact Nat.le_refl _)] at ha hv
        have hok : okD s.data.toList m = true := by
          unfold okD
          rw [HC.out, ha]
          simpa using hv
        obtain ⟨e1, e2⟩ := dg_yes hok
        have HT : Hid (s.data.toList.take s.size = s.data.toList) := by
          show _ = _
          exact List.take_of_length_le (by rw [HL.out]; exact Nat.le_refl _)
        clear hok ha hv
        go_wp2
        go_ret2
        exact ⟨tup2 (by rw [e1]; show Value.int .u64 _ = _; rw [HT.out]) (by rw [e2]; rfl), hb⟩)
end Go.Proofs.YtnlbdhplpjcgcaaDoor
