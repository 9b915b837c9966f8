import Derived.Test.YtncgdbjjlhohiaaMath
namespace Go.Proofs.Ytncgdbjjlhohiaa

theorem stp_eq (a : Nat) : stp a = if a >>> 15 = 1 then ((a <<< 1) % 2 ^ 16) ^^^ 4129 else (a <<< 1) % 2 ^ 16 := by
  unfold stp
  rw [Nat.shiftRight_eq_div_pow, Nat.shiftLeft_eq]
theorem stp_xor (a b : Nat) (ha : a < 65536) (hb : b < 65536) : stp (a ^^^ b) = stp a ^^^ stp b := by
  have h1 : a >>> 15 = 0 ∨ a >>> 15 = 1 := by rw [Nat.shiftRight_eq_div_pow]; omega
  have h2 : b >>> 15 = 0 ∨ b >>> 15 = 1 := by rw [Nat.shiftRight_eq_div_pow]; omega
  rw [stp_eq, stp_eq, stp_eq, Nat.shiftRight_xor_distrib, Nat.shiftLeft_xor_distrib, Nat.xor_mod_two_pow]
  generalize (a <<< 1) % 2 ^ 16 = x
  generalize (b <<< 1) % 2 ^ 16 = y
  rcases h1 with h1 | h1 <;> rcases h2 with h2 | h2 <;> rw [h1, h2]
  · simp
  · simp [Nat.xor_assoc]
  · simp only [if_pos, Nat.xor_zero]
    rw [if_neg (by decide), Nat.xor_assoc, Nat.xor_comm y 4129, ← Nat.xor_assoc]
  · rw [Nat.xor_self 1, if_neg (by decide), if_pos rfl, if_pos rfl, Nat.xor_assoc x 4129, Nat.xor_comm 4129, Nat.xor_assoc, Nat.xor_self, Nat.xor_zero]
theorem xor0 (x y : Nat) (h : x ^^^ y = 0) : x = y := by
  have e : (x ^^^ y) ^^^ y = 0 ^^^ y := by rw [h]
  rwa [Nat.xor_assoc, Nat.xor_self, Nat.xor_zero, Nat.zero_xor] at e
theorem stp_zero_of (a : Nat) (ha : a < 65536) (h : stp a = 0) : a = 0 := by
  unfold stp at h
  split at h
  · have h' : a * 2 % 65536 = 4129 := xor0 _ _ h
    omega
  · omega
theorem stps_xor (k a b : Nat) (ha : a < 65536) (hb : b < 65536) : stps k (a ^^^ b) = stps k a ^^^ stps k b := by
  induction k with
  | zero => rfl
  | succ k ih => simp only [stps, ih]; exact stp_xor _ _ (stps_lt k a ha) (stps_lt k b hb)
theorem stps_zero_of (k a : Nat) (ha : a < 65536) (h : stps k a = 0) : a = 0 := by
  induction k with
  | zero => exact h
  | succ k ih => exact ih (stp_zero_of _ (stps_lt k a ha) h)
theorem stps_add (j k a : Nat) : stps (j + k) a = stps j (stps k a) := by
  induction j with
  | zero => simp [stps]
  | succ j ih => rw [Nat.succ_add]; simp only [stps, ih]
theorem sumB_xor (s t x y : Nat) (hs : s < 65536) (ht : t < 65536) (hx : x < 256) (hy : y < 256) : sumB (s ^^^ t) (x ^^^ y) = sumB s x ^^^ sumB t y := by
  unfold sumB
  have e : (x ^^^ y) * 256 = (x * 256) ^^^ (y * 256) := by
    have := Nat.shiftLeft_xor_distrib (i := 8) (a := x) (b := y)
    simpa [Nat.shiftLeft_eq] using this
  rw [e, ← stps_xor 8 _ _ (xor_lt16 _ _ hs (by omega)) (xor_lt16 _ _ ht (by omega))]
  congr 1
  simp only [Nat.xor_assoc]
  congr 1
  simp only [← Nat.xor_assoc]
  congr 1
  exact Nat.xor_comm _ _
theorem sumB_state (s t x : Nat) (hs : s < 65536) (ht : t < 65536) (hx : x < 256) : sumB (s ^^^ t) x = sumB s x ^^^ stps 8 t := by
  have := sumB_xor s t x 0 hs ht hx (by decide)
  rw [Nat.xor_zero] at this
  rw [this]; simp [sumB]
theorem sumB_byte (s x m : Nat) (hs : s < 65536) (hx : x < 256) (hm : m < 256) : sumB s (x ^^^ m) = sumB s x ^^^ stps 8 (m * 256) := by
  have := sumB_xor s 0 x m hs (by decide) hx hm
  rw [Nat.xor_zero] at this
  rw [this]; simp [sumB]
theorem crc_state (s t : Nat) (l : List UInt8) (hs : s < 65536) (ht : t < 65536) : crc (s ^^^ t) l = crc s l ^^^ stps (8 * l.length) t := by
  induction l generalizing s t with
  | nil => rfl
  | cons a l ih =>
    have e : ∀ u, crc u (a :: l) = crc (sumB u a.toNat) l := fun _ => rfl
    rw [e, e, sumB_state s t _ hs ht a.toNat_lt, ih _ _ (sumB_lt _ _) (stps_lt _ _ ht), List.length_cons, Nat.mul_add, stps_add]
theorem bit_byte (t : Nat) (h : t < 8) : stps 8 (128 / 2 ^ t * 256) = stps (8 - t) 32768 := by
  match t, h with
  | 0, _ => decide
  | 1, _ => decide
  | 2, _ => decide
  | 3, _ => decide
  | 4, _ => decide
  | 5, _ => decide
  | 6, _ => decide
  | 7, _ => decide
theorem bit_word (i : Nat) (h : i < 16) : stps i (2 ^ (15 - i)) = 32768 := by
  match i, h with
  | 0, _ => decide
  | 1, _ => decide
  | 2, _ => decide
  | 3, _ => decide
  | 4, _ => decide
  | 5, _ => decide
  | 6, _ => decide
  | 7, _ => decide
  | 8, _ => decide
  | 9, _ => decide
  | 10, _ => decide
  | 11, _ => decide
  | 12, _ => decide
  | 13, _ => decide
  | 14, _ => decide
  | 15, _ => decide
  | n + 16, h => exact absurd h (by omega)

/-- The byte with its bit t (from the highest) turned. -/
def turn (x : UInt8) (t : Nat) : UInt8 := UInt8.ofNat (x.toNat ^^^ (128 / 2 ^ t))
theorem turn_toNat (x : UInt8) (t : Nat) : (turn x t).toNat = x.toNat ^^^ (128 / 2 ^ t) := by
  unfold turn
  have h : x.toNat ^^^ (128 / 2 ^ t) < 256 := Nat.xor_lt_two_pow (n := 8) x.toNat_lt (Nat.lt_of_le_of_lt (Nat.div_le_self _ _) (by decide))
  exact UInt8.toNat_ofNat_of_lt' h
theorem crc_turn (s : Nat) (A Z : List UInt8) (x : UInt8) (t : Nat) (hs : s < 65536) (ht : t < 8) :
    crc s (A ++ turn x t :: Z) = crc s (A ++ x :: Z) ^^^ stps (8 * Z.length + (8 - t)) 32768 := by
  have e : ∀ u (a : UInt8), crc u (a :: Z) = crc (sumB u a.toNat) Z := fun _ _ => rfl
  have hm : 128 / 2 ^ t < 256 := Nat.lt_of_le_of_lt (Nat.div_le_self _ _) (by decide)
  rw [crc_append, crc_append, e, e, turn_toNat, sumB_byte _ _ _ (crc_lt _ _ hs) x.toNat_lt hm, crc_state _ _ _ (sumB_lt _ _) (stps_lt _ _ (by omega)), bit_byte t ht, stps_add]
/-- One bit of the list turned: the one at place p, counted from the highest of each byte on. -/
def turnAt (l : List UInt8) (p : Nat) : List UInt8 := l.set (p / 8) (turn (l.getD (p / 8) 0) (p % 8))
theorem crc_turnAt (s : Nat) (l : List UInt8) (p : Nat) (hs : s < 65536) (hp : p < 8 * l.length) : crc s (turnAt l p) = crc s l ^^^ stps (8 * l.length - p) 32768 := by
  have hq : p / 8 < l.length := by omega
  have e1 : l = l.take (p / 8) ++ l[p / 8] :: l.drop (p / 8 + 1) := by rw [List.getElem_cons_drop, List.take_append_drop]
  have e2 : turnAt l p = l.take (p / 8) ++ turn l[p / 8] (p % 8) :: l.drop (p / 8 + 1) := by
    unfold turnAt
    rw [List.set_eq_take_append_cons_drop, if_pos hq, List.getD_eq_getElem?_getD, List.getElem?_eq_getElem hq]; rfl
  rw [e2, crc_turn _ _ _ _ _ hs (Nat.mod_lt _ (by decide)), ← e1]
  congr 2
  rw [List.length_drop]; omega

/-- Behind i rounds: c is b with bits turned, of which M tells which. -/
structure Burst (b c : List UInt8) (k i M : Nat) : Prop where
  len : c.length = b.length
  lt : M < 65536
  low : ∀ t, t < 16 - i → M.testBit t = false
  sum : crc 65535 c = crc 65535 b ^^^ stps (8 * b.length - k) M
  zero : M = 0 → c = b

theorem Burst.start (b : List UInt8) (k : Nat) : Burst b b k 0 0 := by
  refine ⟨rfl, by decide, fun _ _ => Nat.zero_testBit _, ?_, fun _ => rfl⟩
  have : ∀ n, stps n 0 = 0 := by intro n; induction n with
    | zero => rfl
    | succ n ih => simp only [stps, ih]; decide
  rw [this, Nat.xor_zero]
theorem Burst.skip {b c : List UInt8} {k i M : Nat} (h : Burst b c k i M) : Burst b c k (i + 1) M := ⟨h.len, h.lt, fun t ht => h.low t (by omega), h.sum, h.zero⟩
theorem Burst.step {b c : List UInt8} {k i M : Nat} (h : Burst b c k i M) (hi : i < 16) (hk : k + i < 8 * b.length) : Burst b (turnAt c (k + i)) k (i + 1) (M ^^^ 2 ^ (15 - i)) := by
  have hp : 2 ^ (15 - i) < 65536 := Nat.lt_of_le_of_lt (Nat.pow_le_pow_right (by decide) (show 15 - i ≤ 15 by omega)) (by decide)
  refine ⟨by simp [turnAt, h.len], xor_lt16 _ _ h.lt hp, fun t ht => ?_, ?_, fun e => ?_⟩
  · rw [Nat.testBit_xor, h.low t (by omega), Nat.testBit_two_pow_of_ne (by omega)]; rfl
  · rw [crc_turnAt _ _ _ (by decide) (by rw [h.len]; exact hk), h.sum, stps_xor _ _ _ h.lt hp, h.len, Nat.xor_assoc]
    congr 2
    rw [show 8 * b.length - k = (8 * b.length - (k + i)) + i by omega, stps_add, bit_word i hi]
  · have : (M ^^^ 2 ^ (15 - i)).testBit (15 - i) = true := by
      rw [Nat.testBit_xor, h.low _ (by omega), Nat.testBit_two_pow_self]; rfl
    rw [e, Nat.zero_testBit] at this; cases this
theorem Burst.ends {b c : List UInt8} {k i M : Nat} (h : Burst b c k i M) : (crc 65535 b == crc 65535 c) = (b == c) := by
  rw [Bool.eq_iff_iff, beq_iff_eq, beq_iff_eq]
  constructor
  · intro e
    have := h.sum
    rw [← e] at this
    have h0 : stps (8 * b.length - k) M = 0 := by
      have h2 : crc 65535 b ^^^ crc 65535 b = crc 65535 b ^^^ (crc 65535 b ^^^ stps (8 * b.length - k) M) := congrArg (crc 65535 b ^^^ ·) this
      rw [Nat.xor_self, ← Nat.xor_assoc, Nat.xor_self, Nat.zero_xor] at h2
      exact h2.symm
    exact (h.zero (stps_zero_of _ _ h.lt h0)).symm
  · intro e; rw [e]

end Go.Proofs.Ytncgdbjjlhohiaa
