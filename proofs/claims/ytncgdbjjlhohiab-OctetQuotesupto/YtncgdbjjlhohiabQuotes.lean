import Derived.Test.YtncgdbjjlhohiabQuoF
import Derived.Test.YtncgdbjjlhohiabHexes
namespace Go.Proofs.Ytncgdbjjlhohiab
open Go.RowKit
set_option linter.unusedVariables false

set_option maxHeartbeats 1000000 in
theorem refunquote_no (s : ByteArray) (w : World) (hs : s.size ≤ 8388608) (h : ¬ ∃ h2 : 2 ≤ s.size, s[0] = 34 ∧ s[s.size - 1] = 34) :
    Calls Try.prog 7 #[.string s] w fun e w' => e = .returned (.tuple #[.string ByteArray.empty, .int .i64 15]) ∧ w = w' := by
  by_cases h2 : 2 ≤ s.size
  · have h2' : (2 : Int) ≤ s.size := by omega
    obtain ⟨c0, hc0⟩ : ∃ c, s[0] = c := ⟨_, rfl⟩
    obtain ⟨c1, hc1⟩ : ∃ c, s[s.size - 1] = c := ⟨_, rfl⟩
    have hi0 : ∀ w, (Instr.index 9 (.string s) (.int .i64 0)).run Try.prog w = .ok (.int .u8 (c0.toNat : Int)) w := fun w => by
      rw [← hc0]; exact index_at s 0 _ w (by omega) rfl
    have hi1 : ∀ w, (Instr.index 9 (.string s) (.int .i64 ((s.size : Int) - 1))).run Try.prog w = .ok (.int .u8 (c1.toNat : Int)) w := fun w => by
      rw [← hc1]; exact index_at s (s.size - 1) _ w (by omega) (by omega)
    by_cases e0 : c0 = 34
    · subst e0
      have e1 : c1 ≠ 34 := fun e => h ⟨h2, hc0, hc1.trans e⟩
      have n34 : ((c1.toNat : Int) != 34) = true := by rw [bne, show ((c1.toNat : Int) == 34) = false from ne_int c1 34 34 rfl e1]; rfl
      have hi0' : ∀ w, (Instr.index 9 (.string s) (.int .i64 0)).run Try.prog w = .ok (.int .u8 34) w := hi0
      clear h hc1 hi0 hc0
      go_enter Try.func7, Try.ntmps7
      go_wp2
      go_ret2
      exact ⟨rfl, rfl⟩
    · have n34 : ((c0.toNat : Int) != 34) = true := by rw [bne, show ((c0.toNat : Int) == 34) = false from ne_int c0 34 34 rfl e0]; rfl
      clear h hc0 hc1
      go_enter Try.func7, Try.ntmps7
      go_wp2
      go_ret2
      exact ⟨rfl, rfl⟩
  · have h2' : (s.size : Int) < 2 := by omega
    clear h
    go_enter Try.func7, Try.ntmps7
    go_wp2
    go_ret2
    exact ⟨rfl, rfl⟩
theorem refunquote_any (s : ByteArray) (w : World) (hs : s.size ≤ 8388608) :
    Calls Try.prog 7 #[.string s] w fun e w' => e = .returned (.tuple #[.string ⟨(uqL s).toArray⟩, .int .i64 (uqE s)]) ∧ Below w.heap.size w w' := by
  by_cases h : ∃ h2 : 2 ≤ s.size, s[0] = 34 ∧ s[s.size - 1] = 34
  · obtain ⟨h2, h0, h1⟩ := h
    exact refunquote_in s w hs h2 h0 h1
  · obtain ⟨e1, e2⟩ := uq_of_no s (fun b e => h (quote_ends s b e))
    rw [e1, e2]
    exact (refunquote_no s w hs h).mono fun e w' ⟨a, b⟩ => ⟨a, b ▸ Below.refl _ _⟩
theorem uqL_len (s : ByteArray) : (uqL s).length ≤ s.size := by
  unfold uqL oL
  cases h : uq s.data.toList with
  | none => simp
  | some b =>
    have h1 := congrArg List.length (uq_some _ _ h)
    rw [quoteL_len] at h1
    have h2 := qL_ge b
    have e : s.data.toList.length = s.size := by simp
    simp; omega
theorem quote_of (s : ByteArray) (h : uqE s = 0) : quoteL (uqL s) = s.data.toList := by
  unfold uqE oE at h
  unfold uqL oL
  cases hu : uq s.data.toList with
  | none => rw [hu] at h; simp at h
  | some b => exact (uq_some _ _ hu).symm

set_option maxHeartbeats 1000000 in
theorem quotes_walk (s t : ByteArray) (w : World) (hs : s.size ≤ 1048576) (ht : t.size ≤ 1048576) :
    Calls Try.prog 3 #[.string s, .string t] w fun e w' => e = .returned (.bool true) ∧ Below w.heap.size w w' := by
  have hU := uqL_len t
  have hq := quoteL_len s.data.toList
  have hq4 := qL_len s.data.toList
  have hsl : s.data.toList.length = s.size := by simp
  have hqs : (⟨(quoteL s.data.toList).toArray⟩ : ByteArray).size ≤ 8388608 := by
    show (quoteL s.data.toList).toArray.size ≤ _
    simp only [List.size_toArray]; omega
  obtain ⟨u1, u2⟩ := uq_of_yes ⟨(quoteL s.data.toList).toArray⟩ s.data.toList rfl
  have hback : (⟨s.data.toList.toArray⟩ : ByteArray) = s := str_eq s _ rfl
  have UQ : Hid (∀ w, Calls Try.prog 6 #[.string ⟨(quoteL s.data.toList).toArray⟩] w fun e w' => e = .returned (.tuple #[.string s, .int .i64 0]) ∧ Below w.heap.size w w') := by
    intro w
    have := unquote_any ⟨(quoteL s.data.toList).toArray⟩ w hqs
    rw [u1, u2, hback] at this
    exact this
  have hus : (⟨(uqL t).toArray⟩ : ByteArray).size ≤ 8388608 := by
    show (uqL t).toArray.size ≤ _
    simp only [List.size_toArray]; omega
  have HE : Hid (uqE t = 0 → (⟨(quoteL (uqL t)).toArray⟩ : ByteArray) = t) := fun h => str_eq t _ (quote_of t h)
  clear hU hq hq4 hsl u1 u2 hback hqs
  have hs' : s.size ≤ 8388608 := by omega
  have HA : Hid (∀ w, _) := fun w => unquote_any t w (by omega)
  have HB : Hid (∀ w, _) := fun w => refunquote_any t w (by omega)
  have HQ : Hid (∀ w, _) := fun w => quote_any s w hs'
  have HR : Hid (∀ w, _) := fun w => refquote_any s w hs'
  have HX : Hid (∀ w, _) := fun w => quote_any ⟨(uqL t).toArray⟩ w hus
  clear hus
  generalize (⟨(quoteL s.data.toList).toArray⟩ : ByteArray) = qs at *
  by_cases hE : uqE t = 0
  · have e1 := HE.out hE
    have a := HA.out
    have b := HB.out
    have x := HX.out
    rw [hE] at a b
    rw [show (⟨(uqL t).toArray⟩ : ByteArray).data.toList = uqL t from rfl, e1] at x
    have HA' : Hid (∀ w, _) := a
    have HB' : Hid (∀ w, _) := b
    have HX' : Hid (∀ w, _) := x
    clear a b x e1 HE HA HB HX hE
    generalize (⟨(uqL t).toArray⟩ : ByteArray) = xs at *
    go_enter Try.func3, Try.ntmps3
    go_wp2_with fail
    refine (HA'.out _).mono ?_
    rintro e w1 ⟨rfl, b1⟩
    go_wp2_with fail
    refine (HB'.out _).mono ?_
    rintro e w2 ⟨rfl, b2⟩
    go_wp2_with fail
    refine (HQ.out _).mono ?_
    rintro e w3 ⟨rfl, b3⟩
    go_wp2_with fail
    refine (UQ.out _).mono ?_
    rintro e w4 ⟨rfl, b4⟩
    go_wp2_with fail
    refine (HQ.out _).mono ?_
    rintro e w5 ⟨rfl, b5⟩
    go_wp2_with fail
    refine (HR.out _).mono ?_
    rintro e w6 ⟨rfl, b6⟩
    go_wp2_with fail
    refine (HX'.out _).mono ?_
    rintro e w7 ⟨rfl, b7⟩
    go_wp2_with fail
    refine (heads_any _).mono ?_
    rintro e w8 ⟨rfl, b8⟩
    have s1 := b1.size
    have s2 := b2.size
    have s3 := b3.size
    have s4 := b4.size
    have s5 := b5.size
    have s6 := b6.size
    have s7 := b7.size
    go_wp2
    go_ret
    exact ⟨rfl, ((((((b1.trans (b2.mono (by omega))).trans (b3.mono (by omega))).trans (b4.mono (by omega))).trans (b5.mono (by omega))).trans (b6.mono (by omega))).trans (b7.mono (by omega))).trans (b8.mono (by omega))⟩
  · have hE' : (uqE t != 0) = true := by rw [bne_iff_ne]; exact hE
    clear HE HX hE
    generalize (⟨(uqL t).toArray⟩ : ByteArray) = xs at *
    generalize uqE t = E0 at *
    go_enter Try.func3, Try.ntmps3
    go_wp2_with fail
    refine (HA.out _).mono ?_
    rintro e w1 ⟨rfl, b1⟩
    go_wp2_with fail
    refine (HB.out _).mono ?_
    rintro e w2 ⟨rfl, b2⟩
    go_wp2_with fail
    refine (HQ.out _).mono ?_
    rintro e w3 ⟨rfl, b3⟩
    go_wp2_with fail
    refine (UQ.out _).mono ?_
    rintro e w4 ⟨rfl, b4⟩
    go_wp2_with fail
    refine (HQ.out _).mono ?_
    rintro e w5 ⟨rfl, b5⟩
    go_wp2_with fail
    refine (HR.out _).mono ?_
    rintro e w6 ⟨rfl, b6⟩
    go_wp2_with fail
    refine (heads_any _).mono ?_
    rintro e w8 ⟨rfl, b8⟩
    have s1 := b1.size
    have s2 := b2.size
    have s3 := b3.size
    have s4 := b4.size
    have s5 := b5.size
    have s6 := b6.size
    go_wp2
    go_ret
    exact ⟨rfl, (((((b1.trans (b2.mono (by omega))).trans (b3.mono (by omega))).trans (b4.mono (by omega))).trans (b5.mono (by omega))).trans (b6.mono (by omega))).trans (b8.mono (by omega))⟩
end Go.Proofs.Ytncgdbjjlhohiab
