import Derived.Test.YtncgdbjjlhohiabQuoE
namespace Go.Proofs.Ytncgdbjjlhohiab
open Go.RowKit
set_option linter.unusedVariables false

/-- The plain reading, if the text is one in quotes. -/
def RI (L acc : List UInt8) (i : Nat) : Prop := ∀ b, L = quoteL b → ∃ k, k ≤ b.length ∧ acc = b.take k ∧ i = 1 + (qL (b.take k)).length
theorem qL_app (a b : List UInt8) : qL (a ++ b) = qL a ++ qL b := by simp [qL]
theorem ri_start (L : List UInt8) : RI L [] 1 := fun b _ => ⟨0, Nat.zero_le _, rfl, rfl⟩
theorem ri_end (L acc : List UInt8) (i : Nat) (h : RI L acc i) (hi : L.length ≤ i + 1) (b : List UInt8) (hb : L = quoteL b) : acc = b := by
  obtain ⟨k, hk, rfl, e⟩ := h b hb
  have e2 := congrArg qL (List.take_append_drop k b)
  rw [qL_app] at e2
  have e3 := congrArg List.length e2
  have e4 : L.length = (qL b).length + 2 := by rw [hb, quoteL_len]
  have e5 := qL_ge (b.drop k)
  simp only [List.length_append] at e3
  have : (b.drop k).length = 0 := by omega
  have h6 := List.eq_nil_of_length_eq_zero this
  have := List.take_append_drop k b
  rw [h6, List.append_nil] at this
  exact this
/-- What stands at i, and where the next one stands. -/
theorem ri_at (L acc : List UInt8) (i : Nat) (h : RI L acc i) (hi : i + 1 < L.length) (b : List UInt8) (hb : L = quoteL b) :
    ∃ x r, L.drop i = qB x ++ (r ++ [34]) ∧ ∃ k, k ≤ b.length ∧ acc ++ [x] = b.take k ∧ i + (qB x).length = 1 + (qL (b.take k)).length := by
  obtain ⟨k, hk, rfl, e⟩ := h b hb
  have e4 : L.length = (qL b).length + 2 := by rw [hb, quoteL_len]
  have hlt : k < b.length := by
    by_cases hk2 : k < b.length
    · exact hk2
    · have : b.take k = b := List.take_of_length_le (by omega)
      rw [this] at e
      omega
  have hx : b[k]? = some b[k] := List.getElem?_eq_getElem hlt
  have ht := take_succ' b k _ hx
  refine ⟨b[k], qL (b.drop (k + 1)), ?_, k + 1, hlt, ht.symm, ?_⟩
  · have e5 : b = b.take k ++ b[k] :: b.drop (k + 1) := by rw [← List.drop_eq_getElem_cons hlt, List.take_append_drop]
    have e6 : qL b = qL (b.take k) ++ (qB b[k] ++ qL (b.drop (k + 1))) := by
      conv => lhs; rw [e5]
      rw [qL_app, qL_cons]
    rw [hb]
    unfold quoteL
    rw [e6, e, Nat.add_comm, List.drop_succ_cons, List.append_assoc, List.append_assoc, List.drop_left']
    rfl
  · rw [ht, qL_snoc, List.length_append]; omega
theorem ri_one (L acc : List UInt8) (i : Nat) (c0 : UInt8) (h : RI L acc i) (hi : i + 1 < L.length) (h0 : L[i]? = some c0) (hne : c0 ≠ 92) : RI L (acc ++ [c0]) (i + 1) := by
  intro b hb
  obtain ⟨x, r, hd, hk⟩ := ri_at L acc i h hi b hb
  have e0 : (L.drop i)[0]? = some c0 := by rw [List.getElem?_drop]; exact h0
  rw [hd] at e0
  have hq : qB x = [x] := by
    unfold qB at e0 ⊢
    split at e0
    · simp at e0; exact absurd e0.symm hne
    · split at e0
      · next h1 h2 => rw [if_neg h1, if_pos h2]
      · simp at e0; exact absurd e0.symm hne
  rw [hq] at e0 hk
  have : x = c0 := by simpa using e0
  subst this
  exact hk
theorem ri_two (L acc : List UInt8) (i : Nat) (c1 : UInt8) (h : RI L acc i) (hi : i + 1 < L.length) (h0 : L[i]? = some 92) (h1 : L[i + 1]? = some c1) (hi2 : i + 1 + 1 < L.length) (hne : c1 ≠ 120) : RI L (acc ++ [c1]) (i + 2) := by
  intro b hb
  obtain ⟨x, r, hd, hk⟩ := ri_at L acc i h hi b hb
  have e0 : (L.drop i)[0]? = some 92 := by rw [List.getElem?_drop]; exact h0
  have e1 : (L.drop i)[1]? = some c1 := by rw [List.getElem?_drop]; exact h1
  rw [hd] at e0 e1
  have hq : qB x = [92, x] := by
    unfold qB at e0 e1 ⊢
    split at e0
    · next h1 => rw [if_pos h1]
    · next hm =>
      rw [if_neg hm] at e1
      split at e0
      · simp at e0; exact absurd ((mk_iff x).2 (.inr e0)) hm
      · next h2 =>
        rw [if_neg h2] at e1
        simp at e1; exact absurd e1.symm hne
  rw [hq] at e1 hk
  have : x = c1 := by simpa using e1
  subst this
  exact hk
theorem ri_four (L acc : List UInt8) (i : Nat) (c2 c3 : UInt8) (h : RI L acc i) (hi : i + 1 < L.length) (h0 : L[i]? = some 92) (h1 : L[i + 1]? = some 120) (h2 : L[i + 2]? = some c2) (h3 : L[i + 3]? = some c3) : RI L (acc ++ [UInt8.ofNat (16 * nib c2 + nib c3)]) (i + 4) := by
  intro b hb
  obtain ⟨x, r, hd, hk⟩ := ri_at L acc i h hi b hb
  have e0 : (L.drop i)[0]? = some 92 := by rw [List.getElem?_drop]; exact h0
  have e1 : (L.drop i)[1]? = some 120 := by rw [List.getElem?_drop]; exact h1
  have e2 : (L.drop i)[2]? = some c2 := by rw [List.getElem?_drop]; exact h2
  have e3 : (L.drop i)[3]? = some c3 := by rw [List.getElem?_drop]; exact h3
  rw [hd] at e0 e1 e2 e3
  have hq : qB x = [92, 120, hi4 x, lo4 x] := by
    unfold qB at e0 e1 ⊢
    split at e0
    · next hm =>
      rw [if_pos hm] at e1
      simp at e1
      rw [e1] at hm
      exact absurd hm (by decide)
    · next hm =>
      split at e0
      · simp at e0; exact absurd ((mk_iff x).2 (.inr e0)) hm
      · next h2 => rw [if_neg hm, if_neg h2]
  rw [hq] at e2 e3 hk
  have a2 : hi4 x = c2 := by simpa using e2
  have a3 : lo4 x = c3 := by simpa using e3
  rw [← a2, ← a3, (hb_hi_lo x).2]
  exact hk
theorem ri_none (L acc : List UInt8) (i : Nat) (h : RI L acc i) (hi : i + 1 < L.length) (h0 : L[i]? = some 92) (h1 : i + 1 + 1 < L.length → L[i + 1]? = some 120) (h3 : L.length ≤ i + 3 + 1) : RI L acc (i + 2) := by
  intro b hb
  exfalso
  obtain ⟨x, r, hd, hk⟩ := ri_at L acc i h hi b hb
  have e0 : (L.drop i)[0]? = some 92 := by rw [List.getElem?_drop]; exact h0
  have hl := congrArg List.length hd
  simp only [List.length_drop, List.length_append, List.length_cons, List.length_nil] at hl
  have e1 : (L.drop i)[1]? = L[i + 1]? := by rw [List.getElem?_drop]
  rw [hd] at e0 e1
  unfold qB at e0 e1 hl
  split at e0
  · next hm =>
    rw [if_pos hm] at e1 hl
    simp at hl
    rw [h1 (by omega)] at e1
    simp at e1
    rw [e1] at hm
    exact absurd hm (by decide)
  · next hm =>
    rw [if_neg hm] at hl
    split at e0
    · simp at e0; exact absurd ((mk_iff x).2 (.inr e0)) hm
    · next h2 => rw [if_neg h2] at hl; simp at hl; omega

set_option maxHeartbeats 1000000 in
theorem refunquote_in (s : ByteArray) (w : World) (hs : s.size ≤ 8388608) (h2 : 2 ≤ s.size) (h0 : s[0] = 34) (h1 : s[s.size - 1] = 34) :
    Calls Try.prog 7 #[.string s] w fun e w' => e = .returned (.tuple #[.string ⟨(uqL s).toArray⟩, .int .i64 (uqE s)]) ∧ Below w.heap.size w w' := by
  obtain ⟨i0, hi, hz0, hz1, hz2⟩ := info_parts Try.info5
  have h2' : (2 : Int) ≤ s.size := by omega
  have hi0 : ∀ w, (Instr.index 9 (.string s) (.int .i64 0)).run Try.prog w = .ok (.int .u8 34) w := fun w => by
    have := index_at s 0 0 w (by omega) rfl
    rw [h0] at this; exact this
  have hi1 : ∀ w, (Instr.index 9 (.string s) (.int .i64 ((s.size : Int) - 1))).run Try.prog w = .ok (.int .u8 34) w := fun w => by
    have := index_at s (s.size - 1) ((s.size : Int) - 1) w (by omega) (by omega)
    rw [h1] at this; exact this
  have HT : Hid (∀ b, s.data.toList = quoteL b → uqL s = b ∧ uqE s = 0) := fun b => uq_of_yes s b
  have HF : Hid ((∀ b, s.data.toList ≠ quoteL b) → uqL s = [] ∧ uqE s = 15) := uq_of_no s
  have HL : Hid (s.data.toList.length = s.size) := by show _ = _; simp
  clear h0 h1
  go_enter Try.func7, Try.ntmps7
  go_wp2
  clear hi0 hi1
  go_loopw [4, 5] (fun v i wr => ∃ (acc : List UInt8) (j : Nat), j ≤ s.size ∧ i = .int .i64 (j : Int) ∧ RI s.data.toList acc j ∧ acc.length ≤ j ∧ wr.ownsRow w.heap.size 5 1 v acc.length (acc.map B) ∧ Below w.heap.size w wr) (fun _ i _ => s.size - (intOf i).toNat)
  case atStart => exact ⟨[], 1, by omega, rfl, ri_start _, by simp, World.ownsRow_nil _ _ _ _, Below.refl _ _⟩
  case round =>
    obtain ⟨acc, j, hj, rfl, hR, hacc, ho, hb⟩ := hrel
    have HR : Hid (RI s.data.toList acc j) := hR
    clear hR
    have hsz := hb.size
    obtain ⟨av, cv, rfl⟩ := owns_shape ho
    by_cases hlt : j + 1 < s.size
    · have hlt' : (j : Int) < (s.size : Int) - 1 := by omega
      obtain ⟨c0, hc0⟩ : ∃ c, s[j] = c := ⟨_, rfl⟩
      have H0 : Hid (s.data.toList[j]? = some c0) := by show _ = _; rw [snoc_all s j (by omega), hc0]
      have hx0 : ∀ w, (Instr.index 9 (.string s) (.int .i64 (j : Int))).run Try.prog w = .ok (.int .u8 (c0.toNat : Int)) w := fun w => by
        rw [← hc0]; exact index_at s j _ w (by omega) rfl
      clear hc0
      by_cases e0 : c0 = 92
      · subst e0
        have hx0' : ∀ w, (Instr.index 9 (.string s) (.int .i64 (j : Int))).run Try.prog w = .ok (.int .u8 92) w := hx0
        clear hx0
        obtain ⟨c1, hc1⟩ : ∃ c, s[j + 1] = c := ⟨_, rfl⟩
        have H1 : Hid (s.data.toList[j + 1]? = some c1) := by show _ = _; rw [snoc_all s (j + 1) (by omega), hc1]
        have hx1 : ∀ w, (Instr.index 9 (.string s) (.int .i64 ((j : Int) + 1))).run Try.prog w = .ok (.int .u8 (c1.toNat : Int)) w := fun w => by
          rw [← hc1]; exact index_at s (j + 1) _ w (by omega) (by omega)
        clear hc1
        by_cases hc : j + 1 + 1 < s.size ∧ c1 ≠ 120
        · obtain ⟨k1, k2⟩ := hc
          have k1' : (j : Int) + 1 < (s.size : Int) - 1 := by omega
          have n120 : ((c1.toNat : Int) != 120) = true := by rw [bne, show ((c1.toNat : Int) == 120) = false from ne_int c1 120 120 rfl k2]; rfl
          have HN : Hid (RI s.data.toList (acc ++ [c1]) (j + 2)) := ri_two _ _ _ _ HR.out (by rw [HL.out]; omega) H0.out H1.out (by rw [HL.out]; omega) k2
          go_wp2_with (at_builtin; refine wpList_append_own _ rfl (.tmp 52) (.tmp 56) 30 rfl w.heap.size 5 i0 (.int .u8 0) 1 1 Try.underlying30 hi hz0 hz1 hz2 rfl (by decide) _ _ _ rfl (ho.alloc _) ⟨wr.heap.size, 0, none⟩ 1 1 [.int .u8 (c1.toNat : Int)] rfl rfl (cell_one_new _ _ _) (by intro u hu; simp at hu; subst hu; rfl) (by unfold maxLen; omega) (by omega) (by simp; omega) ?_)
          intro v4 w4 ho4 hg4 _
          have hb4 : Below w.heap.size w w4 := hb.grown (grown_alloc hg4) hsz (fun k e => (ho.lt k e).1)
          have R : w4.ownsRow w.heap.size 5 1 v4 (acc ++ [c1]).length ((acc ++ [c1]).map B) := by
            rw [List.length_append, List.map_append]; exact ho4
          clear ho4 hg4 ho hb
          go_wp2
          go_roundw
          case rel => exact ⟨_, j + 2, by omega, by go_num, HN.out, by simp; omega, R, hb4⟩
          case measure => simp [intOf]; omega
        · by_cases h4 : j + 3 + 1 < s.size
          · have e1 : c1 = 120 := by
              by_cases e : c1 = 120
              · exact e
              · exact absurd ⟨by omega, e⟩ hc
            subst e1
            have hx1' : ∀ w, (Instr.index 9 (.string s) (.int .i64 ((j : Int) + 1))).run Try.prog w = .ok (.int .u8 120) w := hx1
            clear hx1 hc
            obtain ⟨c2, hc2⟩ : ∃ c, s[j + 2] = c := ⟨_, rfl⟩
            obtain ⟨c3, hc3⟩ : ∃ c, s[j + 3] = c := ⟨_, rfl⟩
            have HN : Hid (RI s.data.toList (acc ++ [UInt8.ofNat (16 * nib c2 + nib c3)]) (j + 4)) := ri_four _ _ _ _ _ HR.out (by rw [HL.out]; omega) H0.out H1.out (by rw [snoc_all s (j + 2) (by omega), hc2]) (by rw [snoc_all s (j + 3) (by omega), hc3])
            have hx2 : ∀ w, (Instr.index 9 (.string s) (.int .i64 ((j : Int) + 1 + 1))).run Try.prog w = .ok (.int .u8 (c2.toNat : Int)) w := fun w => by
              rw [← hc2]; exact index_at s (j + 2) _ w (by omega) (by omega)
            have hx3 : ∀ w, (Instr.index 9 (.string s) (.int .i64 ((j : Int) + 1 + 2))).run Try.prog w = .ok (.int .u8 (c3.toNat : Int)) w := fun w => by
              rw [← hc3]; exact index_at s (j + 3) _ w (by omega) (by omega)
            have k1' : (j : Int) + 1 < (s.size : Int) - 1 := by omega
            have k3' : (j : Int) + 1 + 2 < (s.size : Int) - 1 := by omega
            have n2 := nib_le c2
            have n3 := nib_le c3
            have hw1 : IntKind.i64.wrap ((j : Int) + 1 + 1) = (j : Int) + 1 + 1 := by rw [IntKind.wrap_i64]; omega
            have hw2 : IntKind.i64.wrap ((j : Int) + 1 + 2) = (j : Int) + 1 + 2 := by rw [IntKind.wrap_i64]; omega
            have hm1 : IntKind.u8.wrap ((nib c2 : Int) * 16) = (nib c2 : Int) * 16 % 256 := by rw [IntKind.wrap_u8]
            have hm2 : IntKind.u8.wrap ((nib c2 : Int) * 16 % 256 + (nib c3 : Int)) = ((UInt8.ofNat (16 * nib c2 + nib c3)).toNat : Int) := by
              rw [IntKind.wrap_u8, UInt8.toNat_ofNat']
              omega
            clear hc2 hc3
            generalize UInt8.ofNat (16 * nib c2 + nib c3) = xb at *
            go_wp2
            go_region_held_law (fun w' => True) (trivial) (first | (refine step_append_own rfl (.tmp 64) (.tmp 77) 30 rfl w.heap.size 5 i0 (.int .u8 0) 1 1 Try.underlying30 hi hz0 hz1 hz2 rfl (by decide) (.slice av acc.length cv) acc.length _ rfl (World.ownsRow.alloc (w := wr.drew) ho _) ⟨wr.heap.size, 0, none⟩ 1 1 [.int .u8 (xb.toNat : Int)] rfl rfl (cell_one_new _ _ _) (by intro u hu; simp at hu; subst hu; rfl) (by unfold maxLen; omega) (by omega) (by simp; omega) ?_; intro v' w' ho' hg') | (go_at_call 29; refine (nibble_any _ _).mono ?_; rintro e w' ⟨rfl, rfl⟩))
            all_goals
              have hgp := grown_pre hg'
              have hb2 : Below w.heap.size w w' := hb.grown hgp hsz (fun k e => (ho.lt k e).1)
              have R : w'.ownsRow w.heap.size 5 1 v' (acc ++ [xb]).length ((acc ++ [xb]).map B) := by
                rw [List.length_append, List.map_append]; exact ho'
              clear ho' hg' hgp ho hb
              go_wp2
              go_roundw
              case rel => exact ⟨_, j + 4, by omega, by go_num, HN.out, by simp; omega, R, hb2⟩
              case measure => simp [intOf]; omega
          · have h4' : ¬ (j : Int) + 3 < (s.size : Int) - 1 := by omega
            have HN : Hid (RI s.data.toList acc (j + 2)) := ri_none _ _ _ HR.out (by rw [HL.out]; omega) H0.out (fun h => by
              rw [HL.out] at h
              by_cases e : c1 = 120
              · rw [← e]; exact H1.out
              · exact absurd ⟨h, e⟩ hc) (by rw [HL.out]; omega)
            by_cases k1 : j + 1 + 1 < s.size
            · have e1 : c1 = 120 := by
                by_cases e : c1 = 120
                · exact e
                · exact absurd ⟨by omega, e⟩ hc
              subst e1
              have hx1' : ∀ w, (Instr.index 9 (.string s) (.int .i64 ((j : Int) + 1))).run Try.prog w = .ok (.int .u8 120) w := hx1
              have k1' : (j : Int) + 1 < (s.size : Int) - 1 := by omega
              clear hx1 hc
              go_wp2
              go_roundw
              case rel => exact ⟨acc, j + 2, by omega, by go_num, HN.out, by omega, ho, hb⟩
              case measure => simp [intOf]; omega
            · have k1' : ¬ (j : Int) + 1 < (s.size : Int) - 1 := by omega
              clear hx1 hc
              go_wp2
              go_roundw
              case rel => exact ⟨acc, j + 2, by omega, by go_num, HN.out, by omega, ho, hb⟩
              case measure => simp [intOf]; omega
      · have n92 : ((c0.toNat : Int) != 92) = true := by rw [bne, show ((c0.toNat : Int) == 92) = false from ne_int c0 92 92 rfl e0]; rfl
        have HN : Hid (RI s.data.toList (acc ++ [c0]) (j + 1)) := ri_one _ _ _ _ HR.out (by rw [HL.out]; omega) H0.out e0
        go_wp2_with (at_builtin; refine wpList_append_own _ rfl (.tmp 33) (.tmp 37) 30 rfl w.heap.size 5 i0 (.int .u8 0) 1 1 Try.underlying30 hi hz0 hz1 hz2 rfl (by decide) _ _ _ rfl (ho.alloc _) ⟨wr.heap.size, 0, none⟩ 1 1 [.int .u8 (c0.toNat : Int)] rfl rfl (cell_one_new _ _ _) (by intro u hu; simp at hu; subst hu; rfl) (by unfold maxLen; omega) (by omega) (by simp; omega) ?_)
        intro v4 w4 ho4 hg4 _
        have hb4 : Below w.heap.size w w4 := hb.grown (grown_alloc hg4) hsz (fun k e => (ho.lt k e).1)
        have R : w4.ownsRow w.heap.size 5 1 v4 (acc ++ [c0]).length ((acc ++ [c0]).map B) := by
          rw [List.length_append, List.map_append]; exact ho4
        clear ho4 hg4 ho hb
        go_wp2
        go_roundw
        case rel => exact ⟨_, j + 1, by omega, by go_num, HN.out, by simp; omega, R, hb4⟩
        case measure => simp [intOf]; omega
    · have hge : ¬ (j : Int) < (s.size : Int) - 1 := by omega
      have HB : Hid (∀ b, s.data.toList = quoteL b → acc = b) := fun b hb => ri_end _ _ _ HR.out (by rw [HL.out]; omega) b hb
      have hcv := conv_own ho
      have hcs : (⟨acc.toArray⟩ : ByteArray).size ≤ 8388608 := by show acc.toArray.size ≤ _; simp; omega
      have hsl : s.toList = s.data.toList := ByteArray.toList_eq s
      by_cases hq : quoteL acc = s.data.toList
      · have hq1 : (quoteL acc == s.toList) = true := by rw [hsl, hq]; simp
        have HU : Hid (uqL s = acc ∧ uqE s = 0) := HT.out acc hq.symm
        clear hsl hq
        go_wp2_with fail
        refine (refquote_any _ _ hcs).mono ?_
        rintro e w2 ⟨rfl, hb2⟩
        have hb3 : Below w.heap.size w w2 := hb.trans (hb2.mono hsz)
        have ho3 := ho.kept (row := none) ⟨hb2.os, hb2.tape, hb2.output, hb2.size, fun k hk _ => hb2.block k hk⟩ (by cases (Value.slice av acc.length cv).ownBlock <;> simp)
        have hcv3 := conv_own ho3
        clear ho hb hb2 hcv ho3
        go_wp2
        go_ret2
        rw [HU.out.1, HU.out.2]
        exact ⟨rfl, hb3⟩
      · have hq1 : (quoteL acc == s.toList) = false := by rw [hsl, beq_eq_false_iff_ne]; exact hq
        have HU : Hid (uqL s = [] ∧ uqE s = 15) := HF.out fun b e => hq (by rw [HB.out b e]; exact e.symm)
        clear hsl hq
        go_wp2_with fail
        refine (refquote_any _ _ hcs).mono ?_
        rintro e w2 ⟨rfl, hb2⟩
        have hb3 : Below w.heap.size w w2 := hb.trans (hb2.mono hsz)
        clear ho hb hb2 hcv
        go_wp2
        go_ret2
        rw [HU.out.1, HU.out.2]
        exact ⟨rfl, hb3⟩
end Go.Proofs.Ytncgdbjjlhohiab
