import Derived.Test.YtnlbdhplpjcgcaaDoorMem
import Derived.Lib.AppendStr
namespace Go.Proofs.YtnlbdhplpjcgcaaDoor
open Go.RowKit
set_option linter.unusedVariables false

def okB (c : UInt8) : Bool := decide (32 ≤ c.toNat ∧ c.toNat ≤ 126)
def plainB (l : List UInt8) : Bool := decide (l.length ≤ 255) && l.all okB
theorem printable_b (c : UInt8) (b : Bool) (w : World) (h : okB c = b) :
    Calls Tryd.prog 29 #[.int .u8 c.toNat] w fun e w' => e = .returned (.bool b) ∧ w = w' := by
  have := printable_any c w
  rw [← h]; exact this
theorem snoc_all (s : ByteArray) (k : Nat) (h : k < s.size) : s.data.toList[k]? = some s[k] := by
  rw [List.getElem?_eq_getElem (by simpa using h)]; rfl

set_option maxHeartbeats 1000000 in
theorem plain_any (s : ByteArray) (w : World) (hs : s.size ≤ maxLen) :
    Calls Tryd.prog 22 #[.string s] w fun e w' => e = .returned (.bool (plainB s.data.toList)) ∧ w = w' := by
  unfold maxLen at hs
  have hlen : s.data.toList.length = s.size := by simp
  by_cases h255 : s.size ≤ 255
  · go_enter Tryd.func22, Tryd.ntmps22
    go_wp2
    go_loop [9] (fun i => ∃ k : Nat, k ≤ s.size ∧ i = .int .i64 k ∧ (s.data.toList.take k).all okB = true) (fun i => s.size - (intOf i).toNat)
    case atStart => exact ⟨0, Nat.zero_le _, rfl, rfl⟩
    case round =>
      obtain ⟨k, hk, rfl, ht⟩ := hrel
      have HT : Hid ((s.data.toList.take k).all okB = true) := ht
      clear ht
      by_cases hlt : k < s.size
      · have HS : Hid (s.data.toList[k]? = some s[k]) := snoc_all s k hlt
        cases hc : okB s[k] with
        | true =>
          have HC : Hid (okB s[k] = true) := hc
          clear hc
          go_wp2_with (go_at_call 29; refine (printable_b _ true _ HC.out).mono ?_; rintro e w' ⟨rfl, rfl⟩)
          go_round
          case rel => exact ⟨k + 1, by omega, by go_num, by rw [take_succ' _ _ _ HS.out, List.all_append, HT.out]; simpa using HC.out⟩
          case measure => simp [intOf]; omega
        | false =>
          have HC : Hid (okB s[k] = false) := hc
          clear hc
          go_wp2_with (go_at_call 29; refine (printable_b _ false _ HC.out).mono ?_; rintro e w' ⟨rfl, rfl⟩)
          go_ret
          refine ⟨ret_bool ?_, rfl⟩
          have hm : s[k] ∈ s.data.toList := List.mem_of_getElem? HS.out
          have : s.data.toList.all okB = false := by
            rw [List.all_eq_false]; exact ⟨_, hm, by rw [HC.out]; simp⟩
          unfold plainB; rw [this]; simp
      · have hkn : k = s.size := by omega
        have HT2 : Hid (s.data.toList.all okB = true) := by
          have := HT.out
          rw [List.take_of_length_le (by omega)] at this
          exact this
        go_wp2
        go_ret
        refine ⟨ret_bool ?_, rfl⟩
        unfold plainB; rw [HT2.out]; simp; omega
  · have h256 : (255 : Int) < s.size := by omega
    go_enter Tryd.func22, Tryd.ntmps22
    go_wp2
    go_ret
    refine ⟨ret_bool ?_, rfl⟩
    unfold plainB
    rw [decide_eq_false (by omega)]; rfl

theorem plain_b (s : ByteArray) (b : Bool) (w : World) (hs : s.size ≤ maxLen) (h : plainB s.data.toList = b) :
    Calls Tryd.prog 22 #[.string s] w fun e w' => e = .returned (.bool b) ∧ w = w' := by
  rw [← h]; exact plain_any s w hs

theorem owns_shape {w : World} {base : Nat} {v : Value} {n : Nat} {xs : List Value} (h : w.ownsRow base 5 1 v n xs) : ∃ a cap, v = .slice a n cap := by
  rcases h.2 with ⟨h1, h2⟩ | ⟨g, cap', cur, hv, _⟩
  · exact ⟨none, 0, by rw [h1, h2]⟩
  · exact ⟨_, _, hv⟩

set_option maxHeartbeats 1000000 in
theorem text_no (s : ByteArray) (w : World) (hs : s.size ≤ maxLen) (h : plainB s.data.toList = false) :
    Calls Tryd.prog 13 #[.string s] w fun e w' => e = .returned (.tuple #[.slice none 0 0, .int .i64 12]) ∧ w = w' := by
  have H : Hid (plainB s.data.toList = false) := h
  clear h
  go_enter Tryd.func13, Tryd.ntmps13
  go_wp2_with (go_at_call 22; refine (plain_b _ false _ hs H.out).mono ?_; rintro e w' ⟨rfl, rfl⟩)
  go_ret2
  exact ⟨rfl, rfl⟩

set_option maxHeartbeats 1000000 in
theorem text_yes (s : ByteArray) (w : World) (hs : s.size ≤ maxLen) (h : plainB s.data.toList = true) :
    Calls Tryd.prog 13 #[.string s] w fun e w' => ∃ a cap, e = .returned (.tuple #[.slice a (1 + s.size) cap, .int .i64 0]) ∧ w'.ownsRow w.heap.size 5 1 (.slice a (1 + s.size) cap) (1 + s.size) ((UInt8.ofNat s.size :: s.data.toList).map B) ∧ Below w.heap.size w w' := by
  obtain ⟨i0, hi, hz0, hz1, hz2⟩ := info_parts Tryd.info5
  have h255 : s.size ≤ 255 := by
    have hlen : s.data.toList.length = s.size := by simp
    simp [plainB] at h
    omega
  have H : Hid (plainB s.data.toList = true) := h
  clear h
  go_enter Tryd.func13, Tryd.ntmps13
  go_wp2_with (first | (go_at_call 22; refine (plain_b _ true _ hs H.out).mono ?_; rintro e w' ⟨rfl, rfl⟩) | (at_make; refine wpList_make_own _ rfl _ _ 35 rfl w.heap.size 5 i0 (.int .u8 0) 1 Tryd.underlying35 hi hz0 hz1 .i64 .i64 _ (1 + s.size) rfl rfl (by omega) (by rw [hz2]; omega) (by unfold maxLen; omega) (Nat.le_refl _) ?_))
  intro w1 hown hg
  have hb1 : Below w.heap.size w w1 := (Below.refl _ _).grown hg (Nat.le_refl _) (fun k h => by cases h)
  have hsz := hb1.size
  clear hg
  go_wp2_with (at_builtin; refine wpList_append_own _ rfl (.tmp 12) (.tmp 16) 35 rfl w.heap.size 5 i0 (.int .u8 0) 1 1 Tryd.underlying35 hi hz0 hz1 hz2 rfl (by decide) _ _ _ rfl (hown.alloc _) ⟨w1.heap.size, 0, none⟩ 1 1 [.int .u8 (s.size : Int)] rfl rfl ?c1 ?c2 ?c3 ?c4 ?c5 ?_)
  case c1 =>
    intro j u hj
    match j, hj with
    | 0, hj => simp at hj; subst hj; simp [Addr.add]
  case c2 => intro u hu; simp at hu; subst hu; rfl
  case c3 => unfold maxLen; omega
  case c4 => omega
  case c5 => simp; omega
  intro v2 w2 hown2 hg2 _
  have hb2 : Below w.heap.size w w2 := ((hb1.alloc (by omega) _).grown hg2 (by simp; omega) (fun k h => by simp [Value.ownBlock] at h; omega))
  have hsz2 := hb2.size
  clear hown hg2 hb1 hsz
  obtain ⟨a2, cap2, rfl⟩ := owns_shape hown2
  go_wp2_with (at_builtin; refine Lib.wpList_append_own_string _ rfl (.tmp 18) (.tmp 19) 35 9 rfl w.heap.size 5 i0 Tryd.underlying35 Tryd.underlying9 hi hz0 hz1 hz2 _ _ _ rfl hown2 s rfl ?d1 ?d2 ?d3 ?_)
  case d1 => unfold maxLen; omega
  case d2 => omega
  case d3 => omega
  intro v3 w3 hown3 hg3 _
  have hb3 : Below w.heap.size w w3 := hb2.grown hg3 (by omega) (fun k h => (hown2.lt k h).1)
  obtain ⟨a3, cap3, rfl⟩ := owns_shape hown3
  clear hown2 hg3 hb2
  go_wp2
  go_ret2
  refine ⟨a3, cap3, rfl, ?_, hb3⟩
  have e : (UInt8.ofNat s.size :: s.data.toList).map B = [.int .u8 (s.size : Int)] ++ Lib.strCells s := by
    simp [B, Lib.strCells]; omega
  rw [e]; exact hown3
end Go.Proofs.YtnlbdhplpjcgcaaDoor
