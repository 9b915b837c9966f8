import Derived.Test.YtncgdbjjlhohiaaBurst
namespace Go.Proofs.Ytncgdbjjlhohiaa
open Go.RowKit
set_option linter.unusedVariables false

theorem and_top (r : Nat) (h : r < 65536) : r &&& 32768 = r / 32768 * 32768 := by
  apply Nat.eq_of_testBit_eq
  intro i
  rw [show (32768 : Nat) = 2 ^ 15 from rfl, Nat.testBit_and]
  by_cases hi : i = 15
  · subst hi
    rw [Nat.testBit_two_pow_self, Bool.and_true, Nat.testBit_eq_decide_div_mod_eq, Nat.testBit_eq_decide_div_mod_eq, Nat.mul_div_cancel _ (by decide)]
  · rw [Nat.testBit_two_pow_of_ne (Ne.symm hi), Bool.and_false]
    have h2 : r / 2 ^ 15 = 0 ∨ r / 2 ^ 15 = 1 := by rw [show (2 : Nat) ^ 15 = 32768 from rfl]; omega
    rcases h2 with h2 | h2 <;> rw [h2]
    · simp
    · rw [Nat.one_mul, Nat.testBit_two_pow_of_ne (Ne.symm hi)]
theorem top_bit (r : Nat) (h : r < 65536) : (bits .and .u16 (r : Int) 32768 != 0) = decide (r / 32768 = 1) := by
  rw [show (32768 : Int) = ((32768 : Nat) : Int) from rfl, u16_and_nat _ _ h (by decide)]
  have e := and_top r h
  rw [e, Bool.eq_iff_iff, bne_iff_ne, decide_eq_true_eq]
  omega
theorem stp_yes (r : Nat) (h : r < 65536) (hy : (bits .and .u16 (r : Int) 32768 != 0) = true) : bits .xor .u16 (IntKind.u16.wrap ((r : Int) * 2)) 4129 = (stp r : Nat) := by
  rw [top_bit r h, decide_eq_true_eq] at hy
  rw [IntKind.wrap_u16]
  exact stp_one r h (by rw [beq_iff_eq]; omega)
theorem stp_no (r : Nat) (h : r < 65536) (hy : (bits .and .u16 (r : Int) 32768 != 0) = false) : IntKind.u16.wrap ((r : Int) * 2) = (stp r : Nat) := by
  rw [top_bit r h, decide_eq_false_iff_not] at hy
  rw [IntKind.wrap_u16]
  exact stp_zero r h (by rw [beq_eq_false_iff_ne]; omega)

set_option maxHeartbeats 1000000 in
theorem refcrc_any (a : Option Addr) (n c x : Nat) (l : List UInt8) (w : World) (ha : Rd w a n c l) (hx : crc 65535 l = x) :
    Calls Try.prog 9 #[.slice a n c] w fun e w' => e = .returned (.int .u16 (x : Nat)) ∧ w = w' := by
  subst hx
  have hs1 := ha.hsmall
  have hl1 := ha.hlen
  go_enter Try.func9, Try.ntmps9
  go_wp2
  go_loop [3, 4] (fun r i => ∃ j : Nat, j ≤ n ∧ i = .int .i64 j ∧ r = .int .u16 ((crc 65535 (l.take j) : Nat) : Int)) (fun _ i => n - (intOf i).toNat)
  case atStart => exact ⟨0, by omega, rfl, rfl⟩
  case round =>
    obtain ⟨j, hj, rfl, rfl⟩ := hrel
    have hr := crc_lt 65535 (l.take j) (by decide)
    by_cases hlt : j < n
    · obtain ⟨b, off, rfl, _, hc⟩ := ha.hcell (by omega)
      obtain ⟨x, hx⟩ : ∃ x, l[j]? = some x := ⟨l[j], List.getElem?_eq_getElem (by omega)⟩
      have hcx := hc j x hx
      have hx8 := x.toNat_lt
      have HN : Hid (crc 65535 (l.take (j + 1)) = stps 8 (crc 65535 (l.take j) ^^^ (x.toNat * 256))) := by
        show crc 65535 (l.take (j + 1)) = stps 8 (crc 65535 (l.take j) ^^^ (x.toNat * 256))
        rw [take_succ' _ _ _ hx, crc_snoc]; rfl
      clear hc hx hl1
      generalize crc 65535 (l.take j) = r at *
      have HX : Hid (bits .xor .u16 (r : Int) ((x.toNat : Int) * 256) = ((r ^^^ (x.toNat * 256) : Nat) : Int)) := by
        show bits .xor .u16 (r : Int) ((x.toNat : Int) * 256) = ((r ^^^ (x.toNat * 256) : Nat) : Int)
        rw [show (x.toNat : Int) * 256 = ((x.toNat * 256 : Nat) : Int) by omega]
        exact u16_xor_nat _ _ hr (by omega)
      have hx0 : r ^^^ (x.toNat * 256) < 65536 := xor_lt16 _ _ hr (by omega)
      go_wp2
      rw [HX.out]
      generalize r ^^^ (x.toNat * 256) = s0 at *
      go_loop [3, 5] (fun r i => ∃ t : Nat, t ≤ 8 ∧ i = .int .i64 t ∧ r = .int .u16 ((stps t s0 : Nat) : Int)) (fun _ i => 8 - (intOf i).toNat)
      case atStart => exact ⟨0, by omega, rfl, rfl⟩
      case round =>
        obtain ⟨t, ht, rfl, rfl⟩ := hrel
        have hr2 := stps_lt t s0 hx0
        by_cases hlt2 : t < 8
        · have HN2 : Hid (stps (t + 1) s0 = stp (stps t s0)) := rfl
          generalize stps t s0 = s at *
          cases hy : (bits .and .u16 (s : Int) 32768 != 0) with
          | true =>
            have HY : Hid (_ = _) := stp_yes s hr2 hy
            go_wp2
            go_round
            case rel => exact ⟨t + 1, by omega, by go_num, by rw [HN2.out, ← HY.out]⟩
            case measure => simp [intOf]; omega
          | false =>
            have HY : Hid (_ = _) := stp_no s hr2 hy
            go_wp2
            go_round
            case rel => exact ⟨t + 1, by omega, by go_num, by rw [HN2.out, ← HY.out]⟩
            case measure => simp [intOf]; omega
        · have htn : t = 8 := by omega
          subst htn
          go_wp2
          go_round
          case rel => exact ⟨j + 1, by omega, by go_num, by rw [HN.out]⟩
          case measure => simp [intOf]; omega
    · have hjn : j = n := by omega
      subst hjn
      go_wp2
      go_ret
      exact ⟨ret_int (by rw [List.take_of_length_le (by omega)]), rfl⟩

theorem RdAll.below {w w' : World} {a : Option Addr} {n c : Nat} {ls : List (List UInt8)} (h : RdAll w a n c ls) (hlt : 0 < n → ∀ b off, a = some ⟨b, off, none⟩ → b < w.heap.size) (hb : Below w.heap.size w w') : RdAll w' a n c ls := by
  refine ⟨h.hlen, h.hsmall, fun hp => ?_⟩
  obtain ⟨b, off, e, hc⟩ := h.hcell hp
  refine ⟨b, off, e, fun i l hl => ?_⟩
  obtain ⟨a', n', c', h1, h2⟩ := hc i l hl
  exact ⟨a', n', c', (hb.cell (p := ⟨b, off + i, none⟩) (hlt hp b off e)).trans h1, h2.below hb⟩
theorem RdAll.blt {w : World} {a : Option Addr} {n c : Nat} {ls : List (List UInt8)} (h : RdAll w a n c ls) : 0 < n → ∀ b off, a = some ⟨b, off, none⟩ → b < w.heap.size := by
  intro hp b off e
  obtain ⟨b', off', e', hc⟩ := h.hcell hp
  rw [e] at e'
  simp only [Option.some.injEq, Addr.mk.injEq, and_true] at e'
  obtain ⟨rfl, rfl⟩ := e'
  have hl := h.hlen
  obtain ⟨a', n', c', h1, _⟩ := hc 0 (ls[0]'(by omega)) (List.getElem?_eq_getElem _)
  exact World.block_lt_of_cell? w _ h1
theorem flat_snoc (ls : List (List UInt8)) (j : Nat) (l : List UInt8) (h : ls[j]? = some l) : (ls.take (j + 1)).flatten = (ls.take j).flatten ++ l := by
  rw [take_succ' _ _ _ h]; simp
theorem flat_take_le (ls : List (List UInt8)) (j : Nat) : (ls.take j).flatten.length ≤ ls.flatten.length := by
  have h : ls.flatten = (ls.take j).flatten ++ (ls.drop j).flatten := by rw [← List.flatten_append, List.take_append_drop]
  rw [h, List.length_append]; omega

set_option maxHeartbeats 1000000 in
theorem sums_walk (a : Option Addr) (n c : Nat) (ls : List (List UInt8)) (w : World) (ha : RdAll w a n c ls) (hT : ls.flatten.length ≤ 1048576) :
    Calls Try.prog 3 #[.slice a n c] w fun e w' => e = .returned (.bool true) ∧ Below w.heap.size w w' := by
  obtain ⟨i0, hi, hz0, hz1, hz2⟩ := info_parts Try.info5
  have hs1 := ha.hsmall
  have hl1 := ha.hlen
  go_enter Try.func3, Try.ntmps3
  go_wp2
  go_loopw [3, 4] (fun v i wr => ∃ j : Nat, j ≤ n ∧ i = .int .i64 j ∧ wr.ownsRow w.heap.size 5 1 v (ls.take j).flatten.length ((ls.take j).flatten.map B) ∧ Below w.heap.size w wr) (fun _ i _ => n - (intOf i).toNat)
  case atStart => exact ⟨0, by omega, rfl, World.ownsRow_nil _ _ _ _, Below.refl _ _⟩
  case round =>
    obtain ⟨j, hj, rfl, ho, hb⟩ := hrel
    obtain ⟨av, cv, rfl⟩ := owns_shape ho
    have hle := flat_take_le ls j
    by_cases hlt : j < n
    · obtain ⟨b, off, rfl, hc⟩ := ha.hcell (by omega)
      obtain ⟨l, hl⟩ : ∃ l, ls[j]? = some l := ⟨ls[j], List.getElem?_eq_getElem (by omega)⟩
      obtain ⟨a', n', c', hcl, hrd⟩ := hc j l hl
      have hcw : wr.cell? ⟨b, off + j, none⟩ = some (.slice a' n' c') := (hb.cell (p := ⟨b, off + j, none⟩) (World.block_lt_of_cell? w _ hcl)).trans hcl
      have hrw := hrd.below hb
      have HF : Hid ((ls.take (j + 1)).flatten = (ls.take j).flatten ++ l) := flat_snoc ls j l hl
      have hle2 : (ls.take j).flatten.length + l.length ≤ 1048576 := by
        have := flat_take_le ls (j + 1)
        rw [flat_snoc ls j l hl, List.length_append] at this
        omega
      have hln := hrd.hlen
      have hsz := hb.size
      clear hc hl hcl hl1
      generalize (ls.take j).flatten = F at *
      cases a' with
      | none =>
        obtain ⟨rfl, rfl⟩ := hrw.hnil rfl
        have hl0 : l = [] := List.eq_nil_of_length_eq_zero hln
        subst hl0
        go_wp2_with (at_builtin; refine wpList_append_own_none rfl _ _ 23 rfl w.heap.size 5 i0 1 Try.underlying23 hi _ _ _ rfl ho rfl ?_)
        go_roundw
        case rel => exact ⟨j + 1, by omega, by go_num, by rw [HF.out, List.append_nil]; exact ho, hb⟩
        case measure => simp [intOf]; omega
      | some ad =>
        have hnews := hrw.news
        have Hnews : Hid (∀ j u, (l.map B)[j]? = some u → wr.cell? (ad.add j) = some u) := hnews
        clear hnews
        go_wp2_with (at_builtin; refine wpList_append_own _ rfl (.tmp 11) (.tmp 15) 23 rfl w.heap.size 5 i0 (.int .u8 0) 1 1 Try.underlying23 hi hz0 hz1 hz2 rfl (by decide) _ _ _ rfl ho ad n' c' (l.map B) rfl ?c0 ?c1 ?c2 ?c3 ?c4 ?c5 ?_)
        case c0 => simp [hln]
        case c1 => exact Hnews.out
        case c2 => exact one_cells l
        case c3 => unfold maxLen; omega
        case c4 => omega
        case c5 => exact hsz
        intro v2 w2 hown2 hg2 _
        have hb2 : Below w.heap.size w w2 := hb.grown hg2 hsz (fun k h => (ho.lt k h).1)
        have R : w2.ownsRow w.heap.size 5 1 v2 (ls.take (j + 1)).flatten.length ((ls.take (j + 1)).flatten.map B) := by
          rw [HF.out, List.length_append, List.map_append, hln]; exact hown2
        clear hown2 hg2 ho
        go_wp2
        go_roundw
        case rel => exact ⟨j + 1, by omega, by go_num, R, hb2⟩
        case measure => simp [intOf]; omega
    · have hjn : j = n := by omega
      subst hjn
      have hLL : (ls.take j).flatten = ls.flatten := by rw [List.take_of_length_le (by omega)]
      have HL : Hid (_ = _) := hLL
      generalize (ls.take j).flatten = F at *
      have rv := rd_of_owns ho (by omega)
      have rall := ha.below ha.blt hb
      have hsz := hb.size
      obtain ⟨x, hx⟩ : ∃ x, crc 65535 F = x := ⟨_, rfl⟩
      have HX : Hid (_ = _) := hx
      have HX2 : Hid (crcs 65535 ls = x) := by show crcs 65535 ls = x; rw [crcs_flatten, ← HL.out]; exact hx
      have rv2 := rv.below ((Below.refl _ _).alloc (Nat.le_refl _) (.cells #[.slice av F.length cv] 23))
      clear hLL hx ho hle
      go_wp2_with fail
      refine (crc_any _ _ _ ls _ rall).mono ?_
      rintro e w1 ⟨rfl, rfl⟩
      rw [HX2.out]
      go_wp2_with fail
      refine (refcrc_any _ _ _ x F _ rv HX.out).mono ?_
      rintro e w1 ⟨rfl, rfl⟩
      go_wp2_with fail
      refine (crc_one _ _ _ _ x F _ rv rfl HX.out).mono ?_
      rintro e w1 ⟨rfl, rfl⟩
      go_wp2_with fail
      refine (refcrc_any _ _ _ x F _ rv2 HX.out).mono ?_
      rintro e w1 ⟨rfl, rfl⟩
      go_wp2_with fail
      refine (crc_any none 0 0 [] _ ⟨rfl, by omega, fun h => by omega⟩).mono ?_
      rintro e w1 ⟨rfl, rfl⟩
      rw [show crcs 65535 [] = 65535 from rfl]
      go_wp2_with fail
      refine (heads_any _).mono ?_
      rintro e w4 ⟨rfl, hb4⟩
      go_wp2
      go_ret
      exact ⟨rfl, (hb.alloc hsz _).trans (hb4.mono (by simp; omega))⟩
end Go.Proofs.Ytncgdbjjlhohiaa
