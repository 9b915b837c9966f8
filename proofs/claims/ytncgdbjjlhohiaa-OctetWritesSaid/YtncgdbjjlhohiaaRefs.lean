import Derived.Test.YtncgdbjjlhohiaaOwnC
import Derived.Test.YtncgdbjjlhohiaaHeads
namespace Go.Proofs.Ytncgdbjjlhohiaa
open Go.RowKit
set_option linter.unusedVariables false

set_option maxHeartbeats 1000000 in
theorem refplain_any (s : ByteArray) (b : Bool) (w : World) (hs : s.size ≤ maxLen) (hb : plainB s.data.toList = b) :
    Calls Try.prog 24 #[.string s] w fun e w' => e = .returned (.bool b) ∧ w = w' := by
  subst hb
  unfold maxLen at hs
  have hlen : s.data.toList.length = s.size := by simp
  go_enter Try.func24, Try.ntmps24
  go_wp2
  go_loop [3] (fun i => ∃ k : Nat, k ≤ s.size ∧ i = .int .i64 k ∧ (s.data.toList.take k).all okB = true) (fun i => s.size - (intOf i).toNat)
  case atStart => exact ⟨0, Nat.zero_le _, rfl, rfl⟩
  case round =>
    obtain ⟨k, hk, rfl, ht⟩ := hrel
    have HT : Hid ((s.data.toList.take k).all okB = true) := ht
    clear ht
    by_cases hlt : k < s.size
    · have HS : Hid (s.data.toList[k]? = some s[k]) := snoc_all s k hlt
      cases hc : okB s[k] with
      | true =>
        have HC : Hid (okB s[k] = true) := hc
        have hc1 : (32 : Int) ≤ s[k].toNat := by simp [okB] at hc; omega
        have hc2 : (s[k].toNat : Int) ≤ 126 := by simp [okB] at hc; omega
        clear hc
        go_wp2
        go_round
        case rel => exact ⟨k + 1, by omega, by go_num, by rw [take_succ' _ _ _ HS.out, List.all_append, HT.out]; simpa using HC.out⟩
        case measure => simp [intOf]; omega
      | false =>
        have HC : Hid (okB s[k] = false) := hc
        have HF : Hid (plainB s.data.toList = false) := by
          show plainB s.data.toList = false
          have hm : s[k] ∈ s.data.toList := List.mem_of_getElem? HS.out
          have : s.data.toList.all okB = false := by
            rw [List.all_eq_false]; exact ⟨_, hm, by rw [HC.out]; simp⟩
          unfold plainB; rw [this]; simp
        have hc' : (s[k].toNat : Int) < 32 ∨ (32 : Int) ≤ s[k].toNat ∧ 126 < (s[k].toNat : Int) := by simp [okB] at hc; omega
        clear hc
        rcases hc' with h | ⟨h1, h2⟩
        · go_wp2
          go_ret
          exact ⟨ret_bool HF.out.symm, rfl⟩
        · go_wp2
          go_ret
          exact ⟨ret_bool HF.out.symm, rfl⟩
    · have HT2 : Hid (plainB s.data.toList = decide (s.size ≤ 255)) := by
        show plainB s.data.toList = decide (s.size ≤ 255)
        have := HT.out
        rw [List.take_of_length_le (by omega)] at this
        unfold plainB; rw [this, hlen]; simp
      go_wp2
      go_ret
      exact ⟨ret_bool (by rw [HT2.out, Bool.eq_iff_iff]; simp; omega), rfl⟩

def okN (v n : Int) : Bool := decide (1 ≤ n ∧ n ≤ 8 ∧ v < 256 ^ n.toNat)
def lN (v n : Int) : List UInt8 := if okN v n = true then leB n.toNat v.toNat else []
def eN (v n : Int) : Int := if okN v n = true then 0 else 2
def lT (s : ByteArray) : List UInt8 := if plainB s.data.toList = true then UInt8.ofNat s.size :: s.data.toList else []
def eT (s : ByteArray) : Int := if plainB s.data.toList = true then 0 else 12
/-- A row of its own, from 'base' on, that holds l. -/
def Own1 (w : World) (base : Nat) (a : Option Addr) (cap : Nat) (l : List UInt8) : Prop := w.ownsRow base 5 1 (.slice a l.length cap) l.length (l.map B)

theorem number_u (v n : Int) (w : World) (hv : 0 ≤ v) (hv2 : v < 18446744073709551616) :
    Calls Try.prog 14 #[.int .u64 v, .int .i64 n] w fun e w' => ∃ a cap, e = .returned (.tuple #[.slice a (lN v n).length cap, .int .i64 (eN v n)]) ∧ Own1 w' w.heap.size a cap (lN v n) ∧ Below w.heap.size w w' := by
  by_cases h : 1 ≤ n ∧ n ≤ 8 ∧ v < 256 ^ n.toNat
  · have hk : okN v n = true := decide_eq_true h
    obtain ⟨h1, h2, h3⟩ := h
    obtain ⟨n', rfl⟩ := Int.eq_ofNat_of_zero_le (show 0 ≤ n by omega)
    obtain ⟨v', rfl⟩ := Int.eq_ofNat_of_zero_le hv
    have h3' : v' < 256 ^ n' := by
      rw [Int.toNat_natCast, show (256 : Int) = ((256 : Nat) : Int) from rfl, ← Int.natCast_pow] at h3
      omega
    have el : lN (v' : Int) (n' : Int) = leB n' v' := by unfold lN; rw [if_pos hk]; simp
    have ee : eN (v' : Int) (n' : Int) = 0 := by unfold eN; rw [if_pos hk]
    rw [el, ee, leB_len]
    refine (number_yes v' n' w (by omega) (by omega) (by omega) h3').mono ?_
    rintro e w' ⟨rfl, ho, hb⟩
    exact ⟨_, _, rfl, by unfold Own1; rw [leB_len]; exact ho, hb⟩
  · have hk : okN v n = false := decide_eq_false h
    have el : lN v n = [] := by unfold lN; rw [if_neg (by rw [hk]; simp)]
    have ee : eN v n = 2 := by unfold eN; rw [if_neg (by rw [hk]; simp)]
    rw [el, ee]
    refine (number_no v n w hv hv2 (by omega)).mono ?_
    rintro e w' ⟨rfl, rfl⟩
    exact ⟨none, 0, rfl, World.ownsRow_nil _ _ _ _, Below.refl _ _⟩
theorem text_u (s : ByteArray) (w : World) (hs : s.size ≤ maxLen) :
    Calls Try.prog 13 #[.string s] w fun e w' => ∃ a cap, e = .returned (.tuple #[.slice a (lT s).length cap, .int .i64 (eT s)]) ∧ Own1 w' w.heap.size a cap (lT s) ∧ Below w.heap.size w w' := by
  cases h : plainB s.data.toList with
  | true =>
    have el : lT s = UInt8.ofNat s.size :: s.data.toList := by unfold lT; rw [if_pos h]
    have ee : eT s = 0 := by unfold eT; rw [if_pos h]
    have hlen : (UInt8.ofNat s.size :: s.data.toList).length = 1 + s.size := by simp; omega
    rw [el, ee, hlen]
    refine (text_yes s w hs h).mono ?_
    rintro e w' ⟨a, cap, rfl, ho, hb⟩
    exact ⟨_, _, rfl, by unfold Own1; rw [hlen]; exact ho, hb⟩
  | false =>
    have el : lT s = [] := by unfold lT; rw [if_neg (by rw [h]; simp)]
    have ee : eT s = 12 := by unfold eT; rw [if_neg (by rw [h]; simp)]
    rw [el, ee]
    refine (text_no s w hs h).mono ?_
    rintro e w' ⟨rfl, rfl⟩
    exact ⟨none, 0, rfl, World.ownsRow_nil _ _ _ _, Below.refl _ _⟩

theorem shr_zero (v n : Int) (h1 : 1 ≤ n) (hv : 0 ≤ v) : (v / 2 ^ (8 * n).toNat != 0) = !decide (v < 256 ^ n.toNat) := by
  rw [← fits_eq v n h1 hv]; rfl

set_option maxHeartbeats 1000000 in
theorem refnumber_no (v n : Int) (w : World) (hv : 0 ≤ v) (hv2 : v < 18446744073709551616) (h : ¬ (1 ≤ n ∧ n ≤ 8 ∧ v < 256 ^ n.toNat)) :
    Calls Try.prog 20 #[.int .u64 v, .int .i64 n] w fun e w' => e = .returned (.tuple #[.slice none 0 0, .int .i64 2]) ∧ w = w' := by
  by_cases hn : n < 1
  · clear h
    go_enter Try.func20, Try.ntmps20
    go_wp2
    go_ret2
    exact ⟨rfl, rfl⟩
  · by_cases hn8 : 8 < n
    · clear h
      go_enter Try.func20, Try.ntmps20
      go_wp2
      go_ret2
      exact ⟨rfl, rfl⟩
    · have hf : decide (v < 256 ^ n.toNat) = false := by simp; omega
      have hlt8 : n < 8 := by
        rcases Int.lt_or_le n 8 with h' | h'
        · exact h'
        · have : n = 8 := by omega
          subst this
          simp at hf
          omega
      have hs : (v / 2 ^ (8 * n).toNat != 0) = true := by rw [shr_zero v n (by omega) hv, hf]; rfl
      clear h hf
      go_enter Try.func20, Try.ntmps20
      go_wp2
      go_ret2
      exact ⟨rfl, rfl⟩
theorem leB_cell (v j : Nat) : B (UInt8.ofNat (v / 256 ^ j % 256)) = .int .u8 ((v : Int) / 2 ^ (8 * j) % 256) := by
  unfold B
  congr 1
  have hp : (256 : Nat) ^ j = 2 ^ (8 * j) := by rw [Nat.pow_mul]
  have e : (UInt8.ofNat (v / 256 ^ j % 256)).toNat = v / 256 ^ j % 256 := by simp
  rw [e, hp]
  simp
theorem leB_take_snoc (n v j : Nat) (h : j < n) : (leB n v).take (j + 1) = (leB n v).take j ++ [UInt8.ofNat (v / 256 ^ j % 256)] := take_succ' _ _ _ (leB_get n v j h)

set_option maxHeartbeats 1000000 in
theorem refnumber_yes (v n : Nat) (w : World) (h1 : 1 ≤ n) (h2 : n ≤ 8) (hv2 : v < 18446744073709551616) (hf : v < 256 ^ n) :
    Calls Try.prog 20 #[.int .u64 v, .int .i64 n] w fun e w' => ∃ a cap, e = .returned (.tuple #[.slice a n cap, .int .i64 0]) ∧ w'.ownsRow w.heap.size 5 1 (.slice a n cap) n ((leB n v).map B) ∧ Below w.heap.size w w' := by
  obtain ⟨i0, hi, hz0, hz1, hz2⟩ := info_parts Try.info5
  have hd : decide ((v : Int) < 256 ^ ((n : Int)).toNat) = true := by
    rw [Int.toNat_natCast]
    exact decide_eq_true (by have := Int.ofNat_lt.mpr hf; rwa [Int.natCast_pow] at this)
  have hs : ((v : Int) / 2 ^ (8 * (n : Int)).toNat != 0) = false := by rw [shr_zero _ _ (by omega) (by omega), hd]; rfl
  have hs' : ((v : Int) / 2 ^ (8 * n) != 0) = false := by
    rw [show (8 * (n : Int)).toNat = 8 * n by omega] at hs; exact hs
  have HL : Hid ((leB n v).length = n) := leB_len n v
  clear hd hf
  by_cases h8 : n < 8
  all_goals
    go_enter Try.func20, Try.ntmps20
    go_wp2
    go_loopw [6, 7] (fun u i wr => ∃ j : Nat, j ≤ n ∧ i = .int .i64 j ∧ wr.ownsRow w.heap.size 5 1 u j (((leB n v).take j).map B) ∧ Below w.heap.size w wr) (fun _ i _ => n - (intOf i).toNat)
    case atStart => exact ⟨0, by omega, rfl, World.ownsRow_nil _ _ _ _, Below.refl _ _⟩
    case round =>
      obtain ⟨j, hj, rfl, ho, hb⟩ := hrel
      obtain ⟨aj, cj, rfl⟩ := owns_shape ho
      by_cases hlt : j < n
      · have HT : Hid (_ = _) := leB_take_snoc n v j hlt
        have hsz := hb.size
        have HB : Hid (_ = _) := leB_cell v j
        go_wp2_with (at_builtin; refine wpList_append_own _ rfl (.tmp 31) (.tmp 38) 23 rfl w.heap.size 5 i0 (.int .u8 0) 1 1 Try.underlying23 hi hz0 hz1 hz2 rfl (by decide) _ _ _ rfl (ho.alloc _) ⟨wr.heap.size, 0, none⟩ 1 1 [.int .u8 ((v : Int) / 2 ^ (8 * j) % 256)] rfl rfl (cell_one_new _ _ _) (by intro u hu; simp at hu; subst hu; rfl) (by unfold maxLen; omega) (by omega) (by simp; omega) ?_)
        intro v2 w2 ho2 hg2 _
        have hb2 : Below w.heap.size w w2 := (hb.alloc hsz _).grown hg2 (by simp; omega) (fun k e => (ho.lt k e).1)
        rw [← HB.out, show [B (UInt8.ofNat (v / 256 ^ j % 256))] = [UInt8.ofNat (v / 256 ^ j % 256)].map B from rfl, ← List.map_take, ← List.map_append, ← HT.out] at ho2
        clear hg2 ho
        go_wp2
        go_roundw
        case rel => exact ⟨j + 1, by omega, by go_num, ho2, hb2⟩
        case measure => simp [intOf]; omega
      · have hjn : j = n := by omega
        subst hjn
        rw [List.take_of_length_le (by rw [HL.out]; omega)] at ho
        go_wp2
        go_ret2
        exact ⟨_, _, rfl, ho, hb⟩

theorem refnumber_u (v n : Int) (w : World) (hv : 0 ≤ v) (hv2 : v < 18446744073709551616) :
    Calls Try.prog 20 #[.int .u64 v, .int .i64 n] w fun e w' => ∃ a cap, e = .returned (.tuple #[.slice a (lN v n).length cap, .int .i64 (eN v n)]) ∧ Own1 w' w.heap.size a cap (lN v n) ∧ Below w.heap.size w w' := by
  by_cases h : 1 ≤ n ∧ n ≤ 8 ∧ v < 256 ^ n.toNat
  · have hk : okN v n = true := decide_eq_true h
    obtain ⟨h1, h2, h3⟩ := h
    obtain ⟨n', rfl⟩ := Int.eq_ofNat_of_zero_le (show 0 ≤ n by omega)
    obtain ⟨v', rfl⟩ := Int.eq_ofNat_of_zero_le hv
    have h3' : v' < 256 ^ n' := by
      rw [Int.toNat_natCast, show (256 : Int) = ((256 : Nat) : Int) from rfl, ← Int.natCast_pow] at h3
      omega
    have el : lN (v' : Int) (n' : Int) = leB n' v' := by unfold lN; rw [if_pos hk]; simp
    have ee : eN (v' : Int) (n' : Int) = 0 := by unfold eN; rw [if_pos hk]
    rw [el, ee, leB_len]
    refine (refnumber_yes v' n' w (by omega) (by omega) (by omega) h3').mono ?_
    rintro e w' ⟨a, cap, rfl, ho, hb⟩
    exact ⟨_, _, rfl, by unfold Own1; rw [leB_len]; exact ho, hb⟩
  · have hk : okN v n = false := decide_eq_false h
    have el : lN v n = [] := by unfold lN; rw [if_neg (by rw [hk]; simp)]
    have ee : eN v n = 2 := by unfold eN; rw [if_neg (by rw [hk]; simp)]
    rw [el, ee]
    refine (refnumber_no v n w hv hv2 h).mono ?_
    rintro e w' ⟨rfl, rfl⟩
    exact ⟨none, 0, rfl, World.ownsRow_nil _ _ _ _, Below.refl _ _⟩

set_option maxHeartbeats 1000000 in
theorem reftext_u (s : ByteArray) (w : World) (hs : s.size ≤ maxLen) :
    Calls Try.prog 21 #[.string s] w fun e w' => ∃ a cap, e = .returned (.tuple #[.slice a (lT s).length cap, .int .i64 (eT s)]) ∧ Own1 w' w.heap.size a cap (lT s) ∧ Below w.heap.size w w' := by
  obtain ⟨i0, hi, hz0, hz1, hz2⟩ := info_parts Try.info5
  cases h : plainB s.data.toList with
  | true =>
    have el : lT s = UInt8.ofNat s.size :: s.data.toList := by unfold lT; rw [if_pos h]
    have ee : eT s = 0 := by unfold eT; rw [if_pos h]
    have hlen : (UInt8.ofNat s.size :: s.data.toList).length = 1 + s.size := by simp; omega
    have h255 : s.size ≤ 255 := by
      have hlen : s.data.toList.length = s.size := by simp
      simp [plainB] at h
      omega
    rw [el, ee, hlen]
    have HP : Hid (plainB s.data.toList = true) := h
    clear h
    have hl0 := World.ownsRow_lit (base := w.heap.size) (e := 5) (size := 1) w #[.int .u8 (s.size : Int)] 1 (Nat.le_refl _) (by unfold maxLen; omega) rfl
    go_enter Try.func21, Try.ntmps21
    go_wp2_with (first | (go_at_call 24; refine (refplain_any _ true _ hs HP.out).mono ?_; rintro e w' ⟨rfl, rfl⟩) | (at_builtin; refine Lib.wpList_append_own_string _ rfl (.tmp 10) (.tmp 11) 23 9 rfl w.heap.size 5 i0 Try.underlying23 Try.underlying9 hi hz0 hz1 hz2 _ _ _ rfl hl0 s rfl ?d1 ?d2 ?d3 ?_))
    case d1 => unfold maxLen; omega
    case d2 => omega
    case d3 => simp
    intro v3 w3 hown3 hg3 _
    have hb3 : Below w.heap.size w w3 := ((Below.refl _ _).alloc (Nat.le_refl _) _).grown hg3 (by simp) (fun k h => (hl0.lt k h).1)
    obtain ⟨a3, cap3, rfl⟩ := owns_shape hown3
    clear hg3 hl0
    go_wp2
    go_ret2
    refine ⟨a3, cap3, rfl, ?_, hb3⟩
    have e : (UInt8.ofNat s.size :: s.data.toList).map B = [.int .u8 (s.size : Int)] ++ Lib.strCells s := by
      simp [B, Lib.strCells]; omega
    unfold Own1
    rw [hlen, e]; exact hown3
  | false =>
    have el : lT s = [] := by unfold lT; rw [if_neg (by rw [h]; simp)]
    have ee : eT s = 12 := by unfold eT; rw [if_neg (by rw [h]; simp)]
    rw [el, ee]
    have HP : Hid (plainB s.data.toList = false) := h
    clear h
    go_enter Try.func21, Try.ntmps21
    go_wp2_with (go_at_call 24; refine (refplain_any _ false _ hs HP.out).mono ?_; rintro e w' ⟨rfl, rfl⟩)
    go_ret2
    exact ⟨none, 0, rfl, World.ownsRow_nil _ _ _ _, Below.refl _ _⟩
end Go.Proofs.Ytncgdbjjlhohiaa
