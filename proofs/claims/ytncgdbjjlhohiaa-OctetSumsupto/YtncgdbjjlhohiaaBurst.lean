import Derived.Test.YtncgdbjjlhohiaaHeads
import Derived.Test.YtncgdbjjlhohiaaBurstMath
namespace Go.Proofs.Ytncgdbjjlhohiaa
open Go.RowKit
set_option linter.unusedVariables false

theorem place_of (at' : Int) (n : Nat) (hn : 0 < n) (hs : n ≤ 140737488351232) : ∃ k : Nat, k < 8 * n ∧ (IntKind.u64.wrap at').tmod (8 * (n : Int)) = k ∧ wrap64 (k : Int) = k := by
  have h0 : 0 ≤ IntKind.u64.wrap at' := by rw [IntKind.wrap_u64]; omega
  have h1 := Int.tmod_nonneg (8 * (n : Int)) h0
  have h2 := Int.tmod_lt_of_pos (IntKind.u64.wrap at') (show (0 : Int) < 8 * n by omega)
  obtain ⟨k, hk⟩ := Int.eq_ofNat_of_zero_le h1
  refine ⟨k, by omega, hk, ?_⟩
  unfold wrap64
  omega

theorem turn_int (x : UInt8) (t : Nat) (ht : t < 8) : bits .xor .u8 (x.toNat : Int) (128 / 2 ^ t) = ((turn x t).toNat : Int) := by
  rw [turn_toNat, show (128 : Int) / 2 ^ t = ((128 / 2 ^ t : Nat) : Int) by simp]
  exact u8_xor_nat _ _ x.toNat_lt (Nat.lt_of_le_of_lt (Nat.div_le_self _ _) (by decide))

theorem same_b (a b : Option Addr) (n m c d : Nat) (l k : List UInt8) (v : Bool) (w : World) (ha : Rd w a n c l) (hb : Rd w b m d k) (hv : (l == k) = v) :
    Calls Try.prog 12 #[.slice a n c, .slice b m d] w fun e w' => e = .returned (.bool v) ∧ Below w.heap.size w w' := by
  refine (same_any a b n m c d l k w ha hb).mono ?_
  rintro e w' ⟨rfl, q, rfl⟩
  exact ⟨ret_bool hv, drewN_below (Below.refl _ _) q⟩
theorem rdAll_one {w : World} {a : Option Addr} {n c : Nat} {l : List UInt8} (h : Rd w a n c l) : RdAll (w.alloc (.cells #[.slice a n c] 23)) (some ⟨w.heap.size, 0, none⟩) 1 1 [l] := by
  refine ⟨rfl, by omega, fun _ => ⟨_, 0, rfl, fun i x hx => ?_⟩⟩
  match i, hx with
  | 0, hx =>
    simp only [List.getElem?_cons_zero, Option.some.injEq] at hx
    subst hx
    refine ⟨a, n, c, ?_, h.below ((Below.refl _ _).alloc (Nat.le_refl _) _)⟩
    rw [cell_of_row _ _ _ _ 23 (0, 0) (heap_alloc_new w _)]; rfl
theorem crc_one (a : Option Addr) (n c N x : Nat) (l : List UInt8) (w : World) (h : Rd w a n c l) (hN : w.heap.size = N) (hx : crc 65535 l = x) :
    Calls Try.prog 8 #[.slice (some ⟨N, 0, none⟩) 1 1] (w.alloc (.cells #[.slice a n c] 23)) fun e w' => e = .returned (.int .u16 (x : Nat)) ∧ w.alloc (.cells #[.slice a n c] 23) = w' := by
  subst hN hx
  exact crc_any _ 1 1 [l] _ (rdAll_one h)

set_option maxHeartbeats 1000000 in
theorem burst_loop (a : Option Addr) (n c : Nat) (l : List UInt8) (at' : Int) (m : Nat) (w : World) (ha : Rd w a n c l) (ht1 : -9223372036854775808 ≤ at') (ht2 : at' ≤ 9223372036854775807) (hm : m < 65536) :
    Calls Try.prog 4 #[.slice a n c, .int .i64 at', .int .u16 m] w fun e w' => e = .returned (.bool true) ∧ Below w.heap.size w w' := by
  have hs1 := ha.hsmall
  have hl1 := ha.hlen
  go_enter Try.func4, Try.ntmps4
  go_wp2_with fail
  refine (copy_any _ _ _ l _ ha).mono ?_
  rintro e w1 ⟨rfl, ho1, hb1⟩
  by_cases hn : n = 0
  · subst hn
    have hz : l = [] := List.eq_nil_of_length_eq_zero hl1
    have r1 := ha.below hb1
    have r2 := rd_of_owns ho1 hs1
    have hb := hb1
    have hsz := hb1.size
    obtain ⟨cl, hcl⟩ : ∃ cl, cl = l := ⟨_, rfl⟩
    have HS : Hid ((crc 65535 l == crc 65535 cl) = (l == cl)) := by
      show _ = _
      rw [hcl]; simp
    rw [← hcl] at r2
    clear hcl hz ho1
    go_wp2_with fail
    obtain ⟨v, hv⟩ : ∃ v, (l == cl) = v := ⟨_, rfl⟩
    refine (same_b _ _ _ _ _ _ l cl v _ r1 r2 hv).mono ?_
    rintro e w2 ⟨rfl, hb2⟩
    have hsz2 := hb2.size
    have r1' := r1.below hb2
    have r2' := (r2.below hb2).below ((Below.refl _ _).alloc (Nat.le_refl _) (.cells #[.slice a 0 c] 23))
    obtain ⟨x, hx⟩ : ∃ x, crc 65535 l = x := ⟨_, rfl⟩
    obtain ⟨y, hy⟩ : ∃ y, crc 65535 cl = y := ⟨_, rfl⟩
    have hxy : ((x : Int) == (y : Int)) = v := by
      rw [← hv, ← HS.out, hx, hy, Bool.eq_iff_iff]; simp; omega
    have HX : Hid (_ = _) := hx
    have HY : Hid (_ = _) := hy
    clear hx hy hv r1 r2 HS
    go_wp2_with fail
    refine (crc_one a 0 c _ x l w2 r1' rfl HX.out).mono ?_
    rintro e w3 ⟨rfl, rfl⟩
    go_wp2_with fail
    refine (crc_one _ 0 0 (w2.heap.size + 1) y cl _ r2' (by simp) HY.out).mono ?_
    rintro e w3 ⟨rfl, rfl⟩
    cases v
    all_goals
      go_wp2_with fail
      refine (heads_any _).mono ?_
      rintro e w4 ⟨rfl, hb4⟩
      go_wp2
      go_ret
      refine ⟨rfl, ?_⟩
      have h5 : Below w.heap.size w w2 := hb.trans (hb2.mono (by omega))
      have h6 := h5.size
      exact ((h5.alloc h6 _).alloc (by simp; omega) _).trans (hb4.mono (by simp; omega))
  · have hn1 : (0 : Int) < n := by omega
    obtain ⟨k, hk, e1, e2⟩ := place_of at' n (by omega) hs1
    have HE : Hid (_ = _) := e1
    have HE2 : Hid (_ = _) := e2
    clear e1 e2
    go_wp2_with fail
    rw [HE.out, HE2.out, show decide (0 < n) = true by simp; omega]
    go_loopw [9] (fun i wr => ∃ (j : Nat) (cl : List UInt8) (M : Nat), j ≤ 16 ∧ i = .int .i64 j ∧ Burst l cl k j M ∧ wr.ownsRow w.heap.size 5 1 (.slice (some ⟨w.heap.size, 0, none⟩) n n) n (cl.map B) ∧ Below w.heap.size w wr) (fun i _ => 16 - (intOf i).toNat)
    case atStart => exact ⟨0, l, 0, by omega, rfl, Burst.start l k, ho1, hb1⟩
    case round =>
      obtain ⟨j, cl, M, hj, rfl, hB, ho, hb⟩ := hrel
      by_cases hlt : j < 16 ∧ k + j < 8 * n
      · obtain ⟨hj16, hkj⟩ := hlt
        have hj16' : (j : Int) < 16 := by omega
        have hkj' : (k : Int) + j < 8 * n := by omega
        clear hj
        have hcl : cl.length = n := by rw [hB.len, hl1]
        have hq : (k + j) / 8 < n := by omega
        obtain ⟨x, hx⟩ : ∃ x, cl[(k + j) / 8]? = some x := ⟨cl[(k + j) / 8], List.getElem?_eq_getElem (by omega)⟩
        have c2 : wr.cell? ⟨w.heap.size, (k + j) / 8, none⟩ = some (.int .u8 (x.toNat : Int)) := by
          rw [ho.cellAt _ (by omega)]; simp [hx, B]
        have f2 := ho.frozenAt ((k + j) / 8)
        have HO : Hid (_ = _) := turn_int x ((k + j) % 8) (Nat.mod_lt _ (by decide))
        have R : (wr.setCell ⟨w.heap.size, (k + j) / 8, none⟩ (.int .u8 ((turn x ((k + j) % 8)).toNat : Int))).ownsRow w.heap.size 5 1 (.slice (some ⟨w.heap.size, 0, none⟩) n n) n ((turnAt cl (k + j)).map B) := by
          have := (ho.stored ((k + j) / 8) (B (turn x ((k + j) % 8)))).1
          rw [← List.map_set] at this
          unfold turnAt
          rw [List.getD_eq_getElem?_getD, hx]
          exact this
        have HR : Hid (World.ownsRow _ _ _ _ _ _ _ ∧ Below w.heap.size w (wr.setCell ⟨w.heap.size, (k + j) / 8, none⟩ (.int .u8 ((turn x ((k + j) % 8)).toNat : Int)))) := ⟨R, hb.setCell (Nat.le_refl _) _⟩
        have HB1 : Hid (Burst _ _ _ _ _) := hB.step hj16 (by rw [hl1]; exact hkj)
        have HB0 : Hid (Burst l cl k (j + 1) M ∧ wr.ownsRow w.heap.size 5 1 (.slice (some ⟨w.heap.size, 0, none⟩) n n) n (cl.map B) ∧ Below w.heap.size w wr) := ⟨hB.skip, ho, hb⟩
        clear R hx hB ho hb hcl
        cases hy : (bits .and .u16 (m : Int) (32768 / 2 ^ j) != 0) with
        | true =>
          go_wp2
          rw [HO.out]
          go_roundw
          case rel => exact ⟨j + 1, _, _, by omega, by go_num, HB1.out, HR.out.1, HR.out.2⟩
          case measure => simp [intOf]; omega
        | false =>
          go_wp2
          go_roundw
          case rel => exact ⟨j + 1, cl, M, by omega, by go_num, HB0.out⟩
          case measure => simp [intOf]; omega
      · have hcl : cl.length = n := by rw [hB.len, hl1]
        have HS : Hid ((crc 65535 l == crc 65535 cl) = (l == cl)) := hB.ends
        have r1 := ha.below hb
        have r2 := rd_of_owns ho hs1
        have hsz := hb.size
        clear ho
        have hout : (decide ((j : Int) < 16) && decide ((k : Int) + j < 8 * n)) = false := by
          simp; omega
        by_cases hj16 : j < 16
        · have hkj : ¬ (k : Int) + j < 8 * n := by omega
          clear hlt hout
          go_wp2_with fail
          obtain ⟨v, hv⟩ : ∃ v, (l == cl) = v := ⟨_, rfl⟩
          refine (same_b _ _ _ _ _ _ l cl v _ r1 r2 hv).mono ?_
          rintro e w2 ⟨rfl, hb2⟩
          have hsz2 := hb2.size
          have r1' := r1.below hb2
          have r2' := (r2.below hb2).below ((Below.refl _ _).alloc (Nat.le_refl _) (.cells #[.slice a n c] 23))
          obtain ⟨x, hx⟩ : ∃ x, crc 65535 l = x := ⟨_, rfl⟩
          obtain ⟨y, hy⟩ : ∃ y, crc 65535 cl = y := ⟨_, rfl⟩
          have hxy : ((x : Int) == (y : Int)) = v := by
            rw [← hv, ← HS.out, hx, hy, Bool.eq_iff_iff]; simp; omega
          have HX : Hid (_ = _) := hx
          have HY : Hid (_ = _) := hy
          clear hx hy hv r1 r2 HS
          go_wp2_with fail
          refine (crc_one a n c _ x l w2 r1' rfl HX.out).mono ?_
          rintro e w3 ⟨rfl, rfl⟩
          go_wp2_with fail
          refine (crc_one _ n n (w2.heap.size + 1) y cl _ r2' (by simp) HY.out).mono ?_
          rintro e w3 ⟨rfl, rfl⟩
          cases v
          all_goals
            go_wp2_with fail
            refine (heads_any _).mono ?_
            rintro e w4 ⟨rfl, hb4⟩
            go_wp2
            go_ret
            refine ⟨rfl, ?_⟩
            have h5 : Below w.heap.size w w2 := hb.trans (hb2.mono (by omega))
            have h6 := h5.size
            exact ((h5.alloc h6 _).alloc (by simp; omega) _).trans (hb4.mono (by simp; omega))
        · have hj16' : ¬ (j : Int) < 16 := by omega
          clear hlt hout
          go_wp2_with fail
          obtain ⟨v, hv⟩ : ∃ v, (l == cl) = v := ⟨_, rfl⟩
          refine (same_b _ _ _ _ _ _ l cl v _ r1 r2 hv).mono ?_
          rintro e w2 ⟨rfl, hb2⟩
          have hsz2 := hb2.size
          have r1' := r1.below hb2
          have r2' := (r2.below hb2).below ((Below.refl _ _).alloc (Nat.le_refl _) (.cells #[.slice a n c] 23))
          obtain ⟨x, hx⟩ : ∃ x, crc 65535 l = x := ⟨_, rfl⟩
          obtain ⟨y, hy⟩ : ∃ y, crc 65535 cl = y := ⟨_, rfl⟩
          have hxy : ((x : Int) == (y : Int)) = v := by
            rw [← hv, ← HS.out, hx, hy, Bool.eq_iff_iff]; simp; omega
          have HX : Hid (_ = _) := hx
          have HY : Hid (_ = _) := hy
          clear hx hy hv r1 r2 HS
          go_wp2_with fail
          refine (crc_one a n c _ x l w2 r1' rfl HX.out).mono ?_
          rintro e w3 ⟨rfl, rfl⟩
          go_wp2_with fail
          refine (crc_one _ n n (w2.heap.size + 1) y cl _ r2' (by simp) HY.out).mono ?_
          rintro e w3 ⟨rfl, rfl⟩
          cases v
          all_goals
            go_wp2_with fail
            refine (heads_any _).mono ?_
            rintro e w4 ⟨rfl, hb4⟩
            go_wp2
            go_ret
            refine ⟨rfl, ?_⟩
            have h5 : Below w.heap.size w w2 := hb.trans (hb2.mono (by omega))
            have h6 := h5.size
            exact ((h5.alloc h6 _).alloc (by simp; omega) _).trans (hb4.mono (by simp; omega))
end Go.Proofs.Ytncgdbjjlhohiaa
