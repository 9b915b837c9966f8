import Derived.Test.YtncgdbjjlhohiabQuoC
namespace Go.Proofs.Ytncgdbjjlhohiab
open Go.RowKit
set_option linter.unusedVariables false

set_option maxHeartbeats 400000 in
theorem cutp_any (s t : ByteArray) (b : Bool) (w : World) (hc : ∀ w, Calls Try.prog 48 #[.string s, .string ⟨#[92, 120]⟩] w fun e w' => e = .returned (.tuple #[.string t, .bool b]) ∧ w = w') :
    Calls Try.prog 44 #[.string s, .string ⟨#[92, 120]⟩] w fun e w' => e = .returned (.tuple #[.string t, .bool b]) ∧ w = w' := by
  have HC : Hid (∀ w, _) := hc
  clear hc
  go_enter Try.func44, Try.ntmps44
  go_wp2_with (go_at_call 48; refine (HC.out _).mono ?_; rintro e w' ⟨rfl, rfl⟩)
  go_ret2
  exact ⟨rfl, rfl⟩
theorem ext02 (s : ByteArray) (c0 c1 : UInt8) (h : 2 ≤ s.size) (h0 : s[0] = c0) (h1 : s[1] = c1) : (s.extract 0 2).toList = [c0, c1] := by
  subst h0 h1
  rw [ByteArray.toList_eq]
  obtain ⟨⟨l⟩⟩ := s
  match l, h with
  | a :: b :: r, _ =>
    rw [ByteArray.extract_mk]
    rfl
theorem one_of (S : ByteArray) (h : S.size = 1) : S.data.toList = [S[0]] := by
  obtain ⟨⟨l⟩⟩ := S
  match l, h with
  | [a], _ => rfl

/-- What quoted answers. -/
def qdV (s : ByteArray) : Int := ((qd s.data.toList).1.toNat : Int)
def qdN (s : ByteArray) : Int := ((qd s.data.toList).2 : Int)
theorem qd_vn (s : ByteArray) (c : UInt8) (n : Nat) (h : qd s.data.toList = (c, n)) : qdV s = (c.toNat : Int) ∧ qdN s = n := by
  unfold qdV qdN; rw [h]; exact ⟨rfl, rfl⟩

set_option maxHeartbeats 1000000 in
theorem quoted_a (s : ByteArray) (c : UInt8) (w : World) (h : 0 < s.size) (hm : s.size ≤ 8388608) (hc : s[0] = c) (hne : c ≠ 92) :
    Calls Try.prog 28 #[.string s] w fun e w' => e = .returned (.tuple #[.int .u8 (qdV s), .int .i64 (qdN s)]) ∧ w = w' := by
  have hl : ∃ r, s.data.toList = c :: r := by
    obtain ⟨⟨l⟩⟩ := s
    match l, h with
    | a :: r, _ => exact ⟨r, by show a :: r = _; rw [← hc]; rfl⟩
  obtain ⟨r, hl⟩ := hl
  have n92 : ((c.toNat : Int) != 92) = true := by rw [bne, show ((c.toNat : Int) == 92) = false from ne_int c 92 92 rfl hne]; rfl
  cases hp : okB c with
  | false =>
    obtain ⟨e1, e2⟩ := qd_vn s 0 0 (by rw [hl]; simp [qd, hne, hp])
    rw [e1, e2]
    have HP : Hid (_ = _) := hp
    clear e1 e2 hp hl
    go_enter Try.func28, Try.ntmps28
    go_wp2_with (go_at_call 42; refine (printable_b _ false _ HP.out).mono ?_; rintro e w' ⟨rfl, rfl⟩)
    go_ret2
    exact ⟨rfl, rfl⟩
  | true =>
    cases hk : mk c with
    | true =>
      obtain ⟨e1, e2⟩ := qd_vn s 0 0 (by rw [hl]; simp [qd, hne, hk])
      rw [e1, e2]
      have HP : Hid (_ = _) := hp
      have HK : Hid (_ = _) := hk
      clear e1 e2 hp hl hk
      go_enter Try.func28, Try.ntmps28
      go_wp2_with (first | (go_at_call 42; refine (printable_b _ true _ HP.out).mono ?_; rintro e w' ⟨rfl, rfl⟩) | (go_at_call 43; refine (marked_b _ true _ HK.out).mono ?_; rintro e w' ⟨rfl, rfl⟩))
      go_ret2
      exact ⟨rfl, rfl⟩
    | false =>
      obtain ⟨e1, e2⟩ := qd_vn s c 1 (by rw [hl]; simp [qd, hne, hk, hp])
      rw [e1, e2]
      have HP : Hid (_ = _) := hp
      have HK : Hid (_ = _) := hk
      clear e1 e2 hp hl hk
      go_enter Try.func28, Try.ntmps28
      go_wp2_with (first | (go_at_call 42; refine (printable_b _ true _ HP.out).mono ?_; rintro e w' ⟨rfl, rfl⟩) | (go_at_call 43; refine (marked_b _ false _ HK.out).mono ?_; rintro e w' ⟨rfl, rfl⟩))
      go_ret2
      exact ⟨rfl, rfl⟩
set_option maxHeartbeats 1000000 in
theorem quoted_b (s : ByteArray) (w : World) (h : s.size = 1) (hc : s[0] = 92) :
    Calls Try.prog 28 #[.string s] w fun e w' => e = .returned (.tuple #[.int .u8 (qdV s), .int .i64 (qdN s)]) ∧ w = w' := by
  obtain ⟨e1, e2⟩ := qd_vn s 0 0 (by rw [one_of s h, hc]; rfl)
  rw [e1, e2]
  clear e1 e2
  have HC : Hid (∀ w, _) := fun w => cutp_any s s false w fun w => cut_no s w fun w => has_short s w (by omega)
  have h' : ¬ (1 : Int) < s.size := by omega
  go_enter Try.func28, Try.ntmps28
  go_wp2_with (go_at_call 44; refine (HC.out _).mono ?_; rintro e w' ⟨rfl, rfl⟩)
  go_ret2
  exact ⟨rfl, rfl⟩
set_option maxHeartbeats 1000000 in
theorem quoted_c (s : ByteArray) (d : UInt8) (w : World) (h : 2 ≤ s.size) (hm : s.size ≤ 8388608) (hc : s[0] = 92) (hd : s[1] = d) (hx : mk d = true ∨ d ≠ 120) :
    Calls Try.prog 28 #[.string s] w fun e w' => e = .returned (.tuple #[.int .u8 (qdV s), .int .i64 (qdN s)]) ∧ w = w' := by
  have hl : s.data.toList = 92 :: d :: (s.extract 2 s.size).data.toList := by rw [← hc, ← hd]; exact two_of s h
  have h' : (1 : Int) < s.size := by omega
  cases hk : mk d with
  | true =>
    obtain ⟨e1, e2⟩ := qd_vn s d 2 (by rw [hl]; simp [qd, hk])
    rw [e1, e2]
    have HK : Hid (_ = _) := hk
    clear e1 e2 hl hk hx
    go_enter Try.func28, Try.ntmps28
    go_wp2_with (go_at_call 43; refine (marked_b _ true _ HK.out).mono ?_; rintro e w' ⟨rfl, rfl⟩)
    go_ret2
    exact ⟨rfl, rfl⟩
  | false =>
    have hne : d ≠ 120 := by rcases hx with e | e; · rw [hk] at e; cases e
                             · exact e
    obtain ⟨e1, e2⟩ := qd_vn s 0 0 (by rw [hl]; simp [qd, hk, hne])
    rw [e1, e2]
    have HK : Hid (_ = _) := hk
    have HC : Hid (∀ w, _) := fun w => cutp_any s s false w fun w => cut_no s w fun w => has_long s _ false w h (by unfold maxLen; omega) rfl (by rw [ext02 s 92 d h hc hd]; simp [hne])
    clear e1 e2 hl hk hx
    go_enter Try.func28, Try.ntmps28
    go_wp2_with (first | (go_at_call 43; refine (marked_b _ false _ HK.out).mono ?_; rintro e w' ⟨rfl, rfl⟩) | (go_at_call 44; refine (HC.out _).mono ?_; rintro e w' ⟨rfl, rfl⟩))
    go_ret2
    exact ⟨rfl, rfl⟩
set_option maxHeartbeats 1000000 in
theorem quoted_d (s : ByteArray) (w : World) (h : 2 ≤ s.size) (hm : s.size ≤ 8388608) (hc : s[0] = 92) (hd : s[1] = 120) :
    Calls Try.prog 28 #[.string s] w fun e w' => e = .returned (.tuple #[.int .u8 (qdV s), .int .i64 (qdN s)]) ∧ Below w.heap.size w w' := by
  have hl : s.data.toList = 92 :: 120 :: (s.extract 2 s.size).data.toList := by rw [← hc, ← hd]; exact two_of s h
  have hk : mk 120 = false := by decide
  have HK : Hid (_ = _) := hk
  have h' : (1 : Int) < s.size := by omega
  have HC : Hid (∀ w, _) := fun w => cutp_any s _ true w fun w => cut_yes s w h (by unfold maxLen; omega) fun w => has_long s _ true w h (by unfold maxLen; omega) rfl (by rw [ext02 s 92 120 h hc hd]; rfl)
  have MK : Hid (∀ w, Calls Try.prog 43 #[.int .u8 120] w fun e w' => e = .returned (.bool false) ∧ w = w') := fun w => marked_b 120 false w hk
  have hz : (s.extract 2 s.size).size = s.size - 2 := size_cut s h
  obtain ⟨t, ht⟩ : ∃ t, s.extract 2 s.size = t := ⟨_, rfl⟩
  rw [ht] at hl hz
  have HC2 := HC.out
  rw [ht] at HC2
  have HC3 : Hid (∀ w, _) := HC2
  clear HC HC2 ht
  by_cases h4 : s.size < 4
  · have h2 : t.size < 2 := by omega
    obtain ⟨e1, e2⟩ := qd_vn s 0 0 (by
      rw [hl]
      have hlen : t.data.toList.length < 2 := by simpa using h2
      match t.data.toList, hlen with
      | [], _ => simp [qd, hk]
      | [a], _ => simp [qd, hk])
    rw [e1, e2]
    clear e1 e2 hl hk
    go_enter Try.func28, Try.ntmps28
    go_wp2_with (first | (go_at_call 43; refine (MK.out _).mono ?_; rintro e w' ⟨rfl, rfl⟩) | (go_at_call 44; refine (HC3.out _).mono ?_; rintro e w' ⟨rfl, rfl⟩) | (go_at_call 35; refine (hexByte_short _ _ h2).mono ?_; rintro e w' ⟨rfl, rfl⟩))
    go_ret2
    exact ⟨rfl, Below.refl _ _⟩
  · have h2 : 2 ≤ t.size := by omega
    obtain ⟨c0, hc0⟩ : ∃ c, t[0] = c := ⟨_, rfl⟩
    obtain ⟨c1, hc1⟩ : ∃ c, t[1] = c := ⟨_, rfl⟩
    have HB : Hid (∀ w, _) := fun w => hexByte_long t c0 c1 w h2 (by unfold maxLen; omega) hc0 hc1
    rw [two_of t h2, hc0, hc1] at hl
    clear hc0 hc1
    cases hk1 : hbOk c0 c1 with
    | false =>
      obtain ⟨e1, e2⟩ := qd_vn s 0 0 (by rw [hl]; simp [qd, hk, hk1])
      rw [e1, e2]
      have C := HB.out
      rw [hk1] at C
      have HB2 : Hid (∀ w, _) := C
      clear C HB e1 e2 hl hk hk1
      generalize hbV c0 c1 = x at *
      go_enter Try.func28, Try.ntmps28
      go_wp2_with (first | (go_at_call 43; refine (MK.out _).mono ?_; rintro e w' ⟨rfl, rfl⟩) | (go_at_call 44; refine (HC3.out _).mono ?_; rintro e w' ⟨rfl, rfl⟩) | (go_at_call 35; refine (HB2.out _).mono ?_; rintro e w2 ⟨rfl, hb2⟩))
      go_ret2
      exact ⟨rfl, hb2⟩
    | true =>
      have hV : hbV c0 c1 = ((UInt8.ofNat (16 * nib c0 + nib c1)).toNat : Int) := by
        have hk2 : nib c0 < 16 ∧ nib c1 < 16 := by unfold hbOk okV at hk1; simpa using hk1
        unfold hbV
        rw [if_pos hk1, UInt8.toNat_ofNat_of_lt' (show _ < 256 by omega)]
      have C := HB.out
      rw [hk1, hV] at C
      have HB2 : Hid (∀ w, _) := C
      cases hp : okB (UInt8.ofNat (16 * nib c0 + nib c1)) with
      | true =>
        obtain ⟨e1, e2⟩ := qd_vn s 0 0 (by rw [hl]; simp [qd, hk, hk1, hp, -UInt8.ofNat_add, -UInt8.ofNat_mul])
        rw [e1, e2]
        have HP : Hid (_ = _) := hp
        clear C HB e1 e2 hl hk hk1 hV hp
        generalize UInt8.ofNat (16 * nib c0 + nib c1) = x at *
        go_enter Try.func28, Try.ntmps28
        go_wp2_with (first | (go_at_call 43; refine (MK.out _).mono ?_; rintro e w' ⟨rfl, rfl⟩) | (go_at_call 44; refine (HC3.out _).mono ?_; rintro e w' ⟨rfl, rfl⟩) | (go_at_call 35; refine (HB2.out _).mono ?_; rintro e w2 ⟨rfl, hb2⟩) | (go_at_call 42; refine (printable_b _ true _ HP.out).mono ?_; rintro e w' ⟨rfl, rfl⟩))
        go_ret2
        exact ⟨rfl, hb2⟩
      | false =>
        obtain ⟨e1, e2⟩ := qd_vn s (UInt8.ofNat (16 * nib c0 + nib c1)) 4 (by rw [hl]; simp [qd, hk, hk1, hp, -UInt8.ofNat_add, -UInt8.ofNat_mul])
        rw [e1, e2]
        have HP : Hid (_ = _) := hp
        clear C HB e1 e2 hl hk hk1 hV hp
        generalize UInt8.ofNat (16 * nib c0 + nib c1) = x at *
        go_enter Try.func28, Try.ntmps28
        go_wp2_with (first | (go_at_call 43; refine (MK.out _).mono ?_; rintro e w' ⟨rfl, rfl⟩) | (go_at_call 44; refine (HC3.out _).mono ?_; rintro e w' ⟨rfl, rfl⟩) | (go_at_call 35; refine (HB2.out _).mono ?_; rintro e w2 ⟨rfl, hb2⟩) | (go_at_call 42; refine (printable_b _ false _ HP.out).mono ?_; rintro e w' ⟨rfl, rfl⟩))
        go_ret2
        exact ⟨rfl, hb2⟩
theorem quoted_any (s : ByteArray) (w : World) (h : 0 < s.size) (hm : s.size ≤ 8388608) :
    Calls Try.prog 28 #[.string s] w fun e w' => e = .returned (.tuple #[.int .u8 (qdV s), .int .i64 (qdN s)]) ∧ Below w.heap.size w w' := by
  have K : ∀ {e : Ending} {w' : World} {A : Prop}, A ∧ w = w' → A ∧ Below w.heap.size w w' := fun ⟨a, b⟩ => ⟨a, b ▸ Below.refl _ _⟩
  by_cases hc : s[0] = 92
  · by_cases h1 : s.size = 1
    · exact (quoted_b s w h1 hc).mono fun e w' x => K (e := e) x
    · have h2 : 2 ≤ s.size := by omega
      by_cases hd : s[1] = 120
      · exact quoted_d s w h2 hm hc hd
      · exact (quoted_c s _ w h2 hm hc rfl (.inr hd)).mono fun e w' x => K (e := e) x
  · exact (quoted_a s _ w h hm rfl hc).mono fun e w' x => K (e := e) x
end Go.Proofs.Ytncgdbjjlhohiab
