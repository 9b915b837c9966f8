import Derived.Test.YtncgdbjjlhohiabOwnC
import Derived.Test.YtncgdbjjlhohiabHeads
namespace Go.Proofs.Ytncgdbjjlhohiab
open Go.RowKit
set_option linter.unusedVariables false

set_option maxHeartbeats 1000000 in
theorem refplain_any (s : ByteArray) (b : Bool) (w : World) (hs : s.size ≤ maxLen) (hb : plainB s.data.toList = b) :
    Calls Try.prog 41 #[.string s] w fun e w' => e = .returned (.bool b) ∧ w = w' := by
  subst hb
  unfold maxLen at hs
  have hlen : s.data.toList.length = s.size := by simp
  go_enter Try.func41, Try.ntmps41
  go_wp2
  go_loop [3] (fun i => ∃ k : Nat, k ≤ s.size ∧ i = .int .i64 k ∧ (s.data.toList.take k).all okB = true) (fun i => s.size - (intOf i).toNat)
  case atStart => exact ⟨0, Nat.zero_le _, rfl, rfl⟩
  case round =>
    obtain ⟨k, hk, rfl, ht⟩ := hrel
    have HT : Hid ((s.data.toList.take k).all okB = true) := ht
    clear ht
    by_cases hlt : k < s.size
    · have HS : Hid (s.data.toList[k]? = some s[k]) := snoc_all s k hlt
      cases hc : okB s[k] with
      | true =>
        have HC : Hid (okB s[k] = true) := hc
        have hc1 : (32 : Int) ≤ s[k].toNat := by simp [okB] at hc; omega
        have hc2 : (s[k].toNat : Int) ≤ 126 := by simp [okB] at hc; omega
        clear hc
        go_wp2
        go_round
        case rel => exact ⟨k + 1, by omega, by go_num, by rw [take_succ' _ _ _ HS.out, List.all_append, HT.out]; simpa using HC.out⟩
        case measure => simp [intOf]; omega
      | false =>
        have HC : Hid (okB s[k] = false) := hc
        have HF : Hid (plainB s.data.toList = false) := by
          show plainB s.data.toList = false
          have hm : s[k] ∈ s.data.toList := List.mem_of_getElem? HS.out
          have : s.data.toList.all okB = false := by
            rw [List.all_eq_false]; exact ⟨_, hm, by rw [HC.out]; simp⟩
          unfold plainB; rw [this]; simp
        have hc' : (s[k].toNat : Int) < 32 ∨ (32 : Int) ≤ s[k].toNat ∧ 126 < (s[k].toNat : Int) := by simp [okB] at hc; omega
        clear hc
        rcases hc' with h | ⟨h1, h2⟩
        · go_wp2
          go_ret
          exact ⟨ret_bool HF.out.symm, rfl⟩
        · go_wp2
          go_ret
          exact ⟨ret_bool HF.out.symm, rfl⟩
    · have HT2 : Hid (plainB s.data.toList = decide (s.size ≤ 255)) := by
        show plainB s.data.toList = decide (s.size ≤ 255)
        have := HT.out
        rw [List.take_of_length_le (by omega)] at this
        unfold plainB; rw [this, hlen]; simp
      go_wp2
      go_ret
      exact ⟨ret_bool (by rw [HT2.out, Bool.eq_iff_iff]; simp; omega), rfl⟩

def okN (v n : Int) : Bool := decide (1 ≤ n ∧ n ≤ 8 ∧ v < 256 ^ n.toNat)
def lN (v n : Int) : List UInt8 := if okN v n = true then leB n.toNat v.toNat else []
def eN (v n : Int) : Int := if okN v n = true then 0 else 2
def lT (s : ByteArray) : List UInt8 := if plainB s.data.toList = true then UInt8.ofNat s.size :: s.data.toList else []
def eT (s : ByteArray) : Int := if plainB s.data.toList = true then 0 else 12
/-- A row of its own, from 'base' on, that holds l. -/
def Own1 (w : World) (base : Nat) (a : Option Addr) (cap : Nat) (l : List UInt8) : Prop := w.ownsRow base 5 1 (.slice a l.length cap) l.length (l.map B)

theorem number_u (v n : Int) (w : World) (hv : 0 ≤ v) (hv2 : v < 18446744073709551616) :
    Calls Try.prog 32 #[.int .u64 v, .int .i64 n] w fun e w' => ∃ a cap, e = .returned (.tuple #[.slice a (lN v n).length cap, .int .i64 (eN v n)]) ∧ Own1 w' w.heap.size a cap (lN v n) ∧ Below w.heap.size w w' := by
  by_cases h : 1 ≤ n ∧ n ≤ 8 ∧ v < 256 ^ n.toNat
  · have hk : okN v n = true := decide_eq_true h
    obtain ⟨h1, h2, h3⟩ := h
    obtain ⟨n', rfl⟩ := Int.eq_ofNat_of_zero_le (show 0 ≤ n by omega)
    obtain ⟨v', rfl⟩ := Int.eq_ofNat_of_zero_le hv
    have h3' : v' < 256 ^ n' := by
      rw [Int.toNat_natCast, show (256 : Int) = ((256 : Nat) : Int) from rfl, ← Int.natCast_pow] at h3
      omega
    have el : lN (v' : Int) (n' : Int) = leB n' v' := by unfold lN; rw [if_pos hk]; simp
    have ee : eN (v' : Int) (n' : Int) = 0 := by unfold eN; rw [if_pos hk]
    rw [el, ee, leB_len]
    refine (number_yes v' n' w (by omega) (by omega) (by omega) h3').mono ?_
    rintro e w' ⟨rfl, ho, hb⟩
    exact ⟨_, _, rfl, by unfold Own1; rw [leB_len]; exact ho, hb⟩
  · have hk : okN v n = false := decide_eq_false h
    have el : lN v n = [] := by unfold lN; rw [if_neg (by rw [hk]; simp)]
    have ee : eN v n = 2 := by unfold eN; rw [if_neg (by rw [hk]; simp)]
    rw [el, ee]
    refine (number_no v n w hv hv2 (by omega)).mono ?_
    rintro e w' ⟨rfl, rfl⟩
    exact ⟨none, 0, rfl, World.ownsRow_nil _ _ _ _, Below.refl _ _⟩
theorem text_u (s : ByteArray) (w : World) (hs : s.size ≤ maxLen) :
    Calls Try.prog 33 #[.string s] w fun e w' => ∃ a cap, e = .returned (.tuple #[.slice a (lT s).length cap, .int .i64 (eT s)]) ∧ Own1 w' w.heap.size a cap (lT s) ∧ Below w.heap.size w w' := by
  cases h : plainB s.data.toList with
  | true =>
    have el : lT s = UInt8.ofNat s.size :: s.data.toList := by unfold lT; rw [if_pos h]
    have ee : eT s = 0 := by unfold eT; rw [if_pos h]
    have hlen : (UInt8.ofNat s.size :: s.data.toList).length = 1 + s.size := by simp; omega
    rw [el, ee, hlen]
    refine (text_yes s w hs h).mono ?_
    rintro e w' ⟨a, cap, rfl, ho, hb⟩
    exact ⟨_, _, rfl, by unfold Own1; rw [hlen]; exact ho, hb⟩
  | false =>
    have el : lT s = [] := by unfold lT; rw [if_neg (by rw [h]; simp)]
    have ee : eT s = 12 := by unfold eT; rw [if_neg (by rw [h]; simp)]
    rw [el, ee]
    refine (text_no s w hs h).mono ?_
    rintro e w' ⟨rfl, rfl⟩
    exact ⟨none, 0, rfl, World.ownsRow_nil _ _ _ _, Below.refl _ _⟩

theorem shr_zero (v n : Int) (h1 : 1 ≤ n) (hv : 0 ≤ v) : (v / 2 ^ (8 * n).toNat != 0) = !decide (v < 256 ^ n.toNat) := by
  rw [← fits_eq v n h1 hv]; rfl

theorem leB_cell (v j : Nat) : B (UInt8.ofNat (v / 256 ^ j % 256)) = .int .u8 ((v : Int) / 2 ^ (8 * j) % 256) := by
  unfold B
  congr 1
  have hp : (256 : Nat) ^ j = 2 ^ (8 * j) := by rw [Nat.pow_mul]
  have e : (UInt8.ofNat (v / 256 ^ j % 256)).toNat = v / 256 ^ j % 256 := by simp
  rw [e, hp]
  simp
theorem leB_take_snoc (n v j : Nat) (h : j < n) : (leB n v).take (j + 1) = (leB n v).take j ++ [UInt8.ofNat (v / 256 ^ j % 256)] := take_succ' _ _ _ (leB_get n v j h)

end Go.Proofs.Ytncgdbjjlhohiab
