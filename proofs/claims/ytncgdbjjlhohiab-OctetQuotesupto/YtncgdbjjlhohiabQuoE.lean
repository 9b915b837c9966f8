import Derived.Test.YtncgdbjjlhohiabQuoD
namespace Go.Proofs.Ytncgdbjjlhohiab
open Go.RowKit
set_option linter.unusedVariables false

noncomputable def uqL (s : ByteArray) : List UInt8 := oL (uq s.data.toList)
noncomputable def uqE (s : ByteArray) : Int := oE 15 (uq s.data.toList)
theorem uq_of_yes (s : ByteArray) (b : List UInt8) (h : s.data.toList = quoteL b) : uqL s = b ∧ uqE s = 0 := by
  unfold uqL uqE; rw [h, uq_yes]; exact ⟨rfl, rfl⟩
theorem uq_of_no (s : ByteArray) (h : ∀ b, s.data.toList ≠ quoteL b) : uqL s = [] ∧ uqE s = 15 := by
  unfold uqL uqE; rw [uq_no _ h]; exact ⟨rfl, rfl⟩
/-- The ends of a text in quotes. -/
theorem quote_ends (s : ByteArray) (b : List UInt8) (h : s.data.toList = quoteL b) : ∃ h2 : 2 ≤ s.size, s[0] = 34 ∧ s[s.size - 1] = 34 := by
  have hlen : s.size = (qL b).length + 2 := by have := congrArg List.length h; rw [quoteL_len] at this; simpa using this
  refine ⟨by omega, ?_, ?_⟩
  · have := snoc_all s 0 (by omega)
    rw [h] at this
    simp [quoteL] at this
    exact this.symm
  · have := snoc_all s (s.size - 1) (by omega)
    rw [h] at this
    unfold quoteL at this
    have e : s.size - 1 = (qL b).length + 1 := by omega
    have h3 : (34 :: (qL b ++ [34]))[s.size - 1]? = some 34 := by rw [e]; simp
    rw [h3] at this
    exact (Option.some.inj this).symm
theorem in_ends (s : ByteArray) (h : 2 ≤ s.size) (h0 : s[0] = 34) (h1 : s[s.size - 1] = 34) : s.data.toList = 34 :: ((s.extract 1 (s.size - 1)).data.toList ++ [34]) := by
  apply List.ext_getElem?
  intro i
  have hl : (s.extract 1 (s.size - 1)).data.toList = (s.data.toList.drop 1).take (s.size - 1 - 1) := by
    obtain ⟨⟨l⟩⟩ := s
    rw [ByteArray.extract_mk]
  have hlen : s.data.toList.length = s.size := by simp
  rw [hl]
  match i with
  | 0 => rw [snoc_all s 0 (by omega), h0]; rfl
  | i + 1 =>
    simp only [List.getElem?_cons_succ]
    by_cases hi : i < s.size - 2
    · rw [List.getElem?_append_left (by simp; omega), List.getElem?_take_of_lt (by omega), List.getElem?_drop, Nat.add_comm]
    · by_cases hi2 : i = s.size - 2
      · rw [List.getElem?_append_right (by simp; omega)]
        have e : i + 1 = s.size - 1 := by omega
        rw [e, snoc_all s _ (by omega), h1]
        simp
        have : i - (s.size - 1 - 1) = 0 := by omega
        simp [this]
      · rw [List.getElem?_eq_none (by omega), List.getElem?_eq_none (by simp; omega)]

set_option maxHeartbeats 1000000 in
theorem unquote_no (s : ByteArray) (w : World) (hs : s.size ≤ 8388608) (h : ¬ ∃ h2 : 2 ≤ s.size, s[0] = 34 ∧ s[s.size - 1] = 34) :
    Calls Try.prog 6 #[.string s] w fun e w' => e = .returned (.tuple #[.string ByteArray.empty, .int .i64 15]) ∧ w = w' := by
  by_cases h2 : 2 ≤ s.size
  · have h2' : (2 : Int) ≤ s.size := by omega
    obtain ⟨c0, hc0⟩ : ∃ c, s[0] = c := ⟨_, rfl⟩
    obtain ⟨c1, hc1⟩ : ∃ c, s[s.size - 1] = c := ⟨_, rfl⟩
    have hi0 : ∀ w, (Instr.index 9 (.string s) (.int .i64 0)).run Try.prog w = .ok (.int .u8 (c0.toNat : Int)) w := fun w => by
      rw [← hc0]; exact index_at s 0 _ w (by omega) rfl
    have hi1 : ∀ w, (Instr.index 9 (.string s) (.int .i64 ((s.size : Int) - 1))).run Try.prog w = .ok (.int .u8 (c1.toNat : Int)) w := fun w => by
      rw [← hc1]; exact index_at s (s.size - 1) _ w (by omega) (by omega)
    by_cases e0 : c0 = 34
    · subst e0
      have e1 : c1 ≠ 34 := fun e => h ⟨h2, hc0, hc1.trans e⟩
      have n34 : ((c1.toNat : Int) != 34) = true := by rw [bne, show ((c1.toNat : Int) == 34) = false from ne_int c1 34 34 rfl e1]; rfl
      have hi0' : ∀ w, (Instr.index 9 (.string s) (.int .i64 0)).run Try.prog w = .ok (.int .u8 34) w := hi0
      clear h hc1 hi0 hc0
      go_enter Try.func6, Try.ntmps6
      go_wp2
      go_ret2
      exact ⟨rfl, rfl⟩
    · have n34 : ((c0.toNat : Int) != 34) = true := by rw [bne, show ((c0.toNat : Int) == 34) = false from ne_int c0 34 34 rfl e0]; rfl
      clear h hc0 hc1
      go_enter Try.func6, Try.ntmps6
      go_wp2
      go_ret2
      exact ⟨rfl, rfl⟩
  · have h2' : (s.size : Int) < 2 := by omega
    clear h
    go_enter Try.func6, Try.ntmps6
    go_wp2
    go_ret2
    exact ⟨rfl, rfl⟩
set_option maxHeartbeats 1000000 in
theorem unquote_in (s : ByteArray) (w : World) (hs : s.size ≤ 8388608) (h2 : 2 ≤ s.size) (h0 : s[0] = 34) (h1 : s[s.size - 1] = 34) :
    Calls Try.prog 6 #[.string s] w fun e w' => e = .returned (.tuple #[.string ⟨(uqL s).toArray⟩, .int .i64 (uqE s)]) ∧ Below w.heap.size w w' := by
  obtain ⟨i0, hi, hz0, hz1, hz2⟩ := info_parts Try.info5
  have HE : Hid (_ = _) := in_ends s h2 h0 h1
  have h2' : (2 : Int) ≤ s.size := by omega
  have hi0 : ∀ w, (Instr.index 9 (.string s) (.int .i64 0)).run Try.prog w = .ok (.int .u8 34) w := fun w => by
    have := index_at s 0 0 w (by omega) rfl
    rw [h0] at this; exact this
  have hi1 : ∀ w, (Instr.index 9 (.string s) (.int .i64 ((s.size : Int) - 1))).run Try.prog w = .ok (.int .u8 34) w := fun w => by
    have := index_at s (s.size - 1) ((s.size : Int) - 1) w (by omega) (by omega)
    rw [h1] at this; exact this
  have hzt : (s.extract 1 (s.size - 1)).size = s.size - 2 := by simp; omega
  have HT : Hid (∀ b, s.data.toList = quoteL b → uqL s = b ∧ uqE s = 0) := fun b => uq_of_yes s b
  have HF : Hid ((∀ b, s.data.toList ≠ quoteL b) → uqL s = [] ∧ uqE s = 15) := uq_of_no s
  clear h0 h1
  go_enter Try.func6, Try.ntmps6
  go_wp2_with (at_make; refine wpList_make_own _ rfl _ _ 30 rfl w.heap.size 5 i0 (.int .u8 0) 1 Try.underlying30 hi hz0 hz1 .i64 .i64 _ (s.size - 2) rfl rfl rfl (by rw [hz2]; omega) (by unfold maxLen; omega) (Nat.le_refl _) ?_)
  intro w1 hown hg
  have hb1 : Below w.heap.size w w1 := (Below.refl _ _).grown hg (Nat.le_refl _) (fun k h => by cases h)
  clear hg hi0 hi1
  generalize s.extract 1 (s.size - 1) = t0 at *
  go_wp2
  go_loopw [0, 4] (fun u0 v wr => ∃ (S : ByteArray) (acc : List UInt8), u0 = .string S ∧ t0.data.toList = qL acc ++ S.data.toList ∧ S.size + acc.length ≤ s.size ∧ wr.ownsRow w.heap.size 5 1 v acc.length (acc.map B) ∧ Below w.heap.size w wr) (fun u0 _ _ => strLen u0)
  case atStart => exact ⟨t0, [], rfl, rfl, by simp; omega, hown, hb1⟩
  case round =>
    clear hown hb1
    obtain ⟨S, acc, rfl, hUS, hSz, ho, hb⟩ := hrel
    obtain ⟨av, cv, rfl⟩ := owns_shape ho
    have HS : Hid (t0.data.toList = qL acc ++ S.data.toList) := hUS
    have HZ : Hid (S.size + acc.length ≤ s.size) := hSz
    have hS1 : S.size ≤ 8388608 := by omega
    have hacc : acc.length ≤ 8388608 := by omega
    clear hUS hSz
    have hsz := hb.size
    by_cases h0 : S.size = 0
    · have HU : Hid (uqL s = acc ∧ uqE s = 0) := by
        have e : S.data.toList = [] := List.eq_nil_of_length_eq_zero (by simpa using h0)
        refine HT.out acc ?_
        rw [HE.out, HS.out, e, List.append_nil]; rfl
      have hcv := conv_own ho
      go_wp2
      go_ret2
      rw [HU.out.1, HU.out.2]
      exact ⟨rfl, hb⟩
    · have hpos : 0 < S.size := by omega
      obtain ⟨c, hc⟩ : ∃ c, (qd S.data.toList).1 = c := ⟨_, rfl⟩
      obtain ⟨n, hn⟩ : ∃ n, (qd S.data.toList).2 = n := ⟨_, rfl⟩
      have Q := fun w => quoted_any S w hpos hS1
      have e1 : qdV S = (c.toNat : Int) := by unfold qdV; rw [hc]
      have e2 : qdN S = (n : Int) := by unfold qdN; rw [hn]
      rw [e1, e2] at Q
      by_cases hn0 : n = 0
      · subst hn0
        have HU : Hid (uqL s = [] ∧ uqE s = 15) := by
          refine HF.out ?_
          rw [HE.out, HS.out]
          refine no_of_qd acc _ (fun e => ?_) hn
          have h9 : S.data.toList.length = S.size := by simp
          rw [e] at h9
          exact absurd h9.symm (show S.size ≠ 0 by omega)
        have HQ : Hid (∀ w, Calls Try.prog 28 #[.string S] w fun e w' => e = .returned (.tuple #[.int .u8 (c.toNat : Int), .int .i64 0]) ∧ Below w.heap.size w w') := Q
        clear Q e1 e2 hc hn h0
        go_wp2_with fail
        refine (HQ.out _).mono ?_
        rintro e w2 ⟨rfl, hb2⟩
        have hb3 : Below w.heap.size w w2 := hb.trans (hb2.mono hsz)
        clear ho hb hb2
        go_wp2
        go_ret2
        rw [HU.out.1, HU.out.2]
        exact ⟨rfl, hb3⟩
      · have hS := qd_some S.data.toList (by rw [hn]; exact hn0)
        rw [hc, hn] at hS
        have hle : n ≤ S.size := by
          have := hS.2
          rw [hS.1] at this
          simp at this
          omega
        have HR : Hid (t0.data.toList = qL (acc ++ [c]) ++ (S.extract n S.size).data.toList) := by
          show _ = _
          have e : (S.extract n S.size).data.toList = S.data.toList.drop n := by
            obtain ⟨⟨l⟩⟩ := S
            rw [ByteArray.extract_mk]
            show (l.drop n).take (l.length - n) = l.drop n
            rw [List.take_of_length_le]; simp
          rw [HS.out, qL_snoc, hS.1, e, List.append_assoc, List.take_append_drop]
        have HZ2 : Hid ((S.extract n S.size).size + (acc ++ [c]).length ≤ s.size) := by
          show _ ≤ _
          have := HZ.out
          have e : (S.extract n S.size).size = S.size - n := by simp
          rw [e]; simp; omega
        have HQ : Hid (∀ w, Calls Try.prog 28 #[.string S] w fun e w' => e = .returned (.tuple #[.int .u8 (c.toNat : Int), .int .i64 (n : Int)]) ∧ Below w.heap.size w w') := Q
        have hn0' : ((n : Int) == 0) = false := by rw [beq_eq_false_iff_ne]; omega
        have hle' : (n : Int) ≤ S.size := by omega
        have hsm : (S.extract n S.size).size < S.size := by simp; omega
        clear Q e1 e2 hc hn h0 hS
        go_wp2_with fail
        refine (HQ.out _).mono ?_
        rintro e w2 ⟨rfl, hb2⟩
        have hb3 : Below w.heap.size w w2 := hb.trans (hb2.mono hsz)
        have ho3 := ho.kept (row := none) ⟨hb2.os, hb2.tape, hb2.output, hb2.size, fun k hk _ => hb2.block k hk⟩ (by cases (Value.slice av acc.length cv).ownBlock <;> simp)
        have hsz3 := hb3.size
        clear ho hb hb2
        go_wp2_with (at_builtin; refine wpList_append_own _ rfl (.tmp 41) (.tmp 43) 30 rfl w.heap.size 5 i0 (.int .u8 0) 1 1 Try.underlying30 hi hz0 hz1 hz2 rfl (by decide) _ _ _ rfl (ho3.alloc _) ⟨w2.heap.size, 0, none⟩ 1 1 [.int .u8 (c.toNat : Int)] rfl rfl (cell_one_new _ _ _) (by intro u hu; simp at hu; subst hu; rfl) (by unfold maxLen; omega) (by omega) (by simp; omega) ?_)
        intro v4 w4 ho4 hg4 _
        have hb4 : Below w.heap.size w w4 := hb3.grown (grown_alloc hg4) hsz3 (fun k e => (ho3.lt k e).1)
        have R : w4.ownsRow w.heap.size 5 1 v4 (acc ++ [c]).length ((acc ++ [c]).map B) := by
          rw [List.length_append, List.map_append]; exact ho4
        clear ho4 hg4 ho3 hb3
        go_wp2
        go_roundw
        case rel => exact ⟨_, _, rfl, HR.out, HZ2.out, R, hb4⟩
        case measure => exact hsm
theorem unquote_any (s : ByteArray) (w : World) (hs : s.size ≤ 8388608) :
    Calls Try.prog 6 #[.string s] w fun e w' => e = .returned (.tuple #[.string ⟨(uqL s).toArray⟩, .int .i64 (uqE s)]) ∧ Below w.heap.size w w' := by
  by_cases h : ∃ h2 : 2 ≤ s.size, s[0] = 34 ∧ s[s.size - 1] = 34
  · obtain ⟨h2, h0, h1⟩ := h
    exact unquote_in s w hs h2 h0 h1
  · obtain ⟨e1, e2⟩ := uq_of_no s (fun b e => h (quote_ends s b e))
    rw [e1, e2]
    exact (unquote_no s w hs h).mono fun e w' ⟨a, b⟩ => ⟨a, b ▸ Below.refl _ _⟩
end Go.Proofs.Ytncgdbjjlhohiab
