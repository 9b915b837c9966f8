import Derived.Test.YtnlbdhplpjcgcaaDoorProg
import Derived.Test.YtnlbdhplpjcgcaaDoorMath
import Derived.WalkKit
import Derived.WalkSpells
import Derived.WalkLawsBesides
import Derived.BigQuiet
namespace Go.Proofs.YtnlbdhplpjcgcaaDoor
open Go.RowKit
set_option linter.unusedVariables false

theorem ret_int {k : IntKind} {a b : Int} (h : a = b) : Ending.returned (.int k a) = .returned (.int k b) := by rw [h]
theorem ret_bool {a b : Bool} (h : a = b) : Ending.returned (.bool a) = .returned (.bool b) := by rw [h]

set_option maxHeartbeats 400000 in
theorem width_yes (n : Int) (w : World) (h1 : 1 ≤ n) (h2 : n ≤ 8) :
    Calls Tryd.prog 20 #[.int .i64 n] w fun e w' => e = .returned (.bool true) ∧ w = w' := by
  go_enter Tryd.func20, Tryd.ntmps20
  go_wp2
  go_ret
  exact ⟨ret_bool (by simp), rfl⟩
set_option maxHeartbeats 400000 in
theorem width_no (n : Int) (w : World) (h : n < 1 ∨ 8 < n) :
    Calls Tryd.prog 20 #[.int .i64 n] w fun e w' => e = .returned (.bool false) ∧ w = w' := by
  by_cases a : 1 ≤ n
  · have h8 : 8 < n := by omega
    clear h
    go_enter Tryd.func20, Tryd.ntmps20
    go_wp2
    go_ret
    exact ⟨ret_bool (by simp; omega), rfl⟩
  · clear h
    go_enter Tryd.func20, Tryd.ntmps20
    go_wp2
    go_ret
    exact ⟨rfl, rfl⟩
theorem fits_eq (v n : Int) (h1 : 1 ≤ n) (hv : 0 ≤ v) : (v / 2 ^ (8 * n).toNat == 0) = decide (v < 256 ^ n.toNat) := by
  obtain ⟨m, rfl⟩ := Int.eq_ofNat_of_zero_le (show 0 ≤ n by omega)
  obtain ⟨u, rfl⟩ := Int.eq_ofNat_of_zero_le hv
  have e : (8 * (m : Int)).toNat = 8 * m := by omega
  have e2 : ((m : Int)).toNat = m := by omega
  rw [e, e2]
  have : (2 : Int) ^ (8 * m) = (256 : Int) ^ m := by rw [Int.pow_mul]; rfl
  rw [this]
  have hp : (0 : Int) < 256 ^ m := Int.pow_pos (by decide)
  rw [Bool.eq_iff_iff]
  simp only [beq_iff_eq, decide_eq_true_eq]
  constructor
  · intro h
    have := Int.emod_lt_of_pos (u : Int) hp
    have := Int.mul_ediv_add_emod (u : Int) (256 ^ m)
    rw [h] at this
    omega
  · intro h
    exact Int.ediv_eq_zero_of_lt (by omega) h
set_option maxHeartbeats 400000 in
theorem fits_any (v n : Int) (w : World) (h1 : 1 ≤ n) (h2 : n ≤ 8) (hv : 0 ≤ v) (hv2 : v < 18446744073709551616) :
    Calls Tryd.prog 21 #[.int .u64 v, .int .i64 n] w fun e w' => e = .returned (.bool (decide (v < 256 ^ n.toNat))) ∧ w = w' := by
  have H : Hid ((v / 2 ^ (8 * n).toNat == 0) = decide (v < 256 ^ n.toNat)) := fits_eq v n h1 hv
  go_enter Tryd.func21, Tryd.ntmps21
  go_wp2
  go_ret
  exact ⟨ret_bool H.out, rfl⟩
set_option maxHeartbeats 400000 in
theorem printable_any (c : UInt8) (w : World) :
    Calls Tryd.prog 29 #[.int .u8 c.toNat] w fun e w' => e = .returned (.bool (decide (32 ≤ c.toNat ∧ c.toNat ≤ 126))) ∧ w = w' := by
  by_cases a : 32 ≤ c.toNat
  · have a' : (32 : Int) ≤ c.toNat := by omega
    go_enter Tryd.func29, Tryd.ntmps29
    go_wp2
    go_ret
    exact ⟨ret_bool (by simp [a]; omega), rfl⟩
  · have a' : (c.toNat : Int) < 32 := by omega
    have a2 : decide (32 ≤ c.toNat ∧ c.toNat ≤ 126) = false := by simp; omega
    rw [a2]
    go_enter Tryd.func29, Tryd.ntmps29
    go_wp2
    go_ret
    exact ⟨rfl, rfl⟩
set_option maxHeartbeats 400000 in
theorem none_nil (w : World) :
    Calls Tryd.prog 23 #[.pointer none] w fun e w' => e = .returned (.bool true) ∧ w = w' := by
  go_enter Tryd.func23, Tryd.ntmps23
  go_wp2
  go_ret
  exact ⟨rfl, rfl⟩
set_option maxHeartbeats 400000 in
theorem none_any (b o : Nat) (m : Bool) (w : World) (hc : w.cell? ⟨b, o, none⟩ = some (.bool m)) :
    Calls Tryd.prog 23 #[.pointer (some ⟨b, o, none⟩)] w fun e w' => e = .returned (.bool (!m)) ∧ w = w' := by
  go_enter Tryd.func23, Tryd.ntmps23
  go_wp2
  go_ret
  exact ⟨rfl, rfl⟩
theorem stp_one (r : Nat) (h : r < 65536) (hy : ((r : Int) / 32768 == 1) = true) : bits .xor .u16 ((r : Int) * 2 % 65536) 4129 = (stp r : Nat) := by
  have e : r / 32768 = 1 := by simp at hy; omega
  have e2 : ((r : Int) * 2 % 65536) = ((r * 2 % 65536 : Nat) : Int) := by omega
  rw [e2, show (4129 : Int) = ((4129 : Nat) : Int) from rfl, u16_xor_nat _ _ (Nat.mod_lt _ (by decide)) (by decide), stp, if_pos e]
theorem stp_zero (r : Nat) (h : r < 65536) (hn : ((r : Int) / 32768 == 1) = false) : ((r : Int) * 2 % 65536) = (stp r : Nat) := by
  have e : ¬ r / 32768 = 1 := by simp at hn; omega
  have e2 : ((r : Int) * 2 % 65536) = ((r * 2 % 65536 : Nat) : Int) := by omega
  rw [e2, stp, if_neg e]
set_option maxHeartbeats 400000 in
theorem sumByte_any (s : Nat) (c : UInt8) (w : World) (hs : s < 65536) :
    Calls Tryd.prog 24 #[.int .u16 s, .int .u8 c.toNat] w fun e w' => e = .returned (.int .u16 (sumB s c.toNat : Nat)) ∧ w = w' := by
  have hc := c.toNat_lt
  have hx : bits .xor .u16 (s : Int) ((c.toNat : Int) * 256) = ((s ^^^ (c.toNat * 256) : Nat) : Int) := by
    rw [show (c.toNat : Int) * 256 = ((c.toNat * 256 : Nat) : Int) by omega]
    exact u16_xor_nat _ _ hs (by omega)
  have hx0 : s ^^^ (c.toNat * 256) < 65536 := xor_lt16 _ _ hs (by omega)
  have HX := (show Hid (_ = _) from hx)
  clear hx
  go_enter Tryd.func24, Tryd.ntmps24
  go_wp2
  rw [HX.out]
  go_loop [0, 11] (fun r i => ∃ k : Nat, k ≤ 8 ∧ i = .int .i64 k ∧ r = .int .u16 ((stps k (s ^^^ (c.toNat * 256)) : Nat) : Int)) (fun _ i => 8 - (intOf i).toNat)
  case atStart => exact ⟨0, by omega, rfl, rfl⟩
  case round =>
    obtain ⟨k, hk, rfl, rfl⟩ := hrel
    have hl := stps_lt k _ hx0
    have HN : Hid (stps (k + 1) (s ^^^ (c.toNat * 256)) = stp (stps k (s ^^^ (c.toNat * 256)))) := rfl
    by_cases hlt : k < 8
    · generalize stps k (s ^^^ (c.toNat * 256)) = r at *
      cases hy : ((r : Int) / 32768 == 1) with
      | true =>
        have HY : Hid (((r : Int) / 32768 == 1) = true) := hy
        go_wp2
        go_round
        case rel => exact ⟨k + 1, by omega, by go_num, by rw [HN.out, ← stp_one r hl HY.out, IntKind.wrap_u16]⟩
        case measure => simp [intOf]; omega
      | false =>
        have HY : Hid (((r : Int) / 32768 == 1) = false) := hy
        go_wp2
        go_round
        case rel => exact ⟨k + 1, by omega, by go_num, by rw [HN.out, ← stp_zero r hl HY.out, IntKind.wrap_u16]⟩
        case measure => simp [intOf]; omega
    · have hk8 : k = 8 := by omega
      subst hk8
      go_wp2
      go_ret
      exact ⟨rfl, rfl⟩

/-- The slice (a, len, cap) reads as the bytes l. -/
structure Rd (w : World) (a : Option Addr) (len cap : Nat) (l : List UInt8) : Prop where
  hlen : l.length = len
  hle : len ≤ cap
  hsmall : len ≤ 140737488351232
  hnil : a = none → len = 0 ∧ cap = 0
  hcell : 0 < len → ∃ b off, a = some ⟨b, off, none⟩ ∧ b < w.heap.size ∧ ∀ i x, l[i]? = some x → w.cell? ⟨b, off + i, none⟩ = some (.int .u8 (x.toNat : Int))

theorem Rd.below {w w' : World} {a : Option Addr} {len cap : Nat} {l : List UInt8} (h : Rd w a len cap l) (hb : Below w.heap.size w w') : Rd w' a len cap l := by
  refine ⟨h.hlen, h.hle, h.hsmall, h.hnil, fun hp => ?_⟩
  obtain ⟨b, off, e, hlt, hc⟩ := h.hcell hp
  exact ⟨b, off, e, Nat.lt_of_lt_of_le hlt hb.size, fun i x hx => (hb.cell (p := ⟨b, off + i, none⟩) hlt).trans (hc i x hx)⟩

theorem drewN_below {B : Nat} {a w : World} (h : Below B a w) (n : Nat) : Below B a (w.drewN n) := below_drewN h n

set_option maxHeartbeats 400000 in
theorem same_any (a b : Option Addr) (n m c d : Nat) (l k : List UInt8) (w : World) (ha : Rd w a n c l) (hb : Rd w b m d k) :
    Calls Tryd.prog 16 #[.slice a n c, .slice b m d] w fun e w' => e = .returned (.bool (l == k)) ∧ ∃ q, w' = w.drewN q := by
  have hs1 := ha.hsmall
  have hs2 := hb.hsmall
  have hl1 := ha.hlen
  have hl2 := hb.hlen
  by_cases hnm : n = m
  · subst hnm
    go_enter Tryd.func16, Tryd.ntmps16
    go_wp2
    go_loopw [5] (fun i wr => ∃ j : Nat, j ≤ n ∧ i = .int .i64 j ∧ l.take j = k.take j ∧ ∃ q, wr = w.drewN q) (fun i _ => n - (intOf i).toNat)
    case atStart => exact ⟨0, by omega, rfl, rfl, 0, rfl⟩
    case round =>
      obtain ⟨j, hj, rfl, ht, q, rfl⟩ := hrel
      have HT : Hid (l.take j = k.take j) := ht
      clear ht
      by_cases hlt : j < n
      · obtain ⟨b1, o1, rfl, h1, hc1⟩ := ha.hcell (by omega)
        obtain ⟨b2, o2, rfl, h2, hc2⟩ := hb.hcell (by omega)
        obtain ⟨x, hx⟩ : ∃ x, l[j]? = some x := ⟨l[j], List.getElem?_eq_getElem (by omega)⟩
        obtain ⟨y, hy⟩ : ∃ y, k[j]? = some y := ⟨k[j], List.getElem?_eq_getElem (by omega)⟩
        have c1 := hc1 j x hx
        have c2 := hc2 j y hy
        have HX : Hid (l[j]? = some x) := hx
        have HY : Hid (k[j]? = some y) := hy
        clear hc1 hc2 hx hy hl1 hl2
        by_cases hxy : x = y
        · subst hxy
          go_wp2
          go_quiet (fail)
          go_wp2
          go_roundw
          case rel => exact ⟨j + 1, by omega, by go_num, by rw [take_succ' _ _ _ HX.out, take_succ' _ _ _ HY.out, HT.out], _, rfl⟩
          case measure => simp [intOf]; omega
        · have hne : ((x.toNat : Int) != (y.toNat : Int)) = true := by
            rw [bne_iff_ne]; intro h; exact hxy (UInt8.toNat_inj.mp (by omega))
          have HF : Hid ((l == k) = false) := by
            show (l == k) = false
            rw [beq_eq_false_iff_ne]
            intro h
            have := HX.out
            rw [h, HY.out] at this
            exact hxy (Option.some.inj this).symm
          go_wp2
          go_quiet (fail)
          go_wp2
          go_ret
          exact ⟨ret_bool HF.out.symm, _, World.drewN_drewN ..⟩
      · have hjn : j = n := by omega
        subst hjn
        go_wp2
        go_ret
        refine ⟨ret_bool ?_, q, rfl⟩
        have := HT.out
        rw [List.take_of_length_le (by omega), List.take_of_length_le (by omega)] at this
        rw [this]; simp
  · have hne : ((n : Int) != (m : Int)) = true := by rw [bne_iff_ne]; omega
    have HF : Hid ((l == k) = false) := by
      show (l == k) = false
      rw [beq_eq_false_iff_ne]
      intro h
      exact hnm (by rw [← hl1, ← hl2, h])
    go_enter Tryd.func16, Tryd.ntmps16
    go_wp2
    go_ret
    exact ⟨ret_bool HF.out.symm, 0, rfl⟩

/-- The slice of slices (a, len, cap) reads as the rows ls. -/
structure RdAll (w : World) (a : Option Addr) (len cap : Nat) (ls : List (List UInt8)) : Prop where
  hlen : ls.length = len
  hsmall : len ≤ 140737488351232
  hcell : 0 < len → ∃ b off, a = some ⟨b, off, none⟩ ∧ ∀ i l, ls[i]? = some l → ∃ a' n' c', w.cell? ⟨b, off + i, none⟩ = some (.slice a' n' c') ∧ Rd w a' n' c' l

set_option maxHeartbeats 1000000 in
theorem crc_any (a : Option Addr) (n c : Nat) (ls : List (List UInt8)) (w : World) (ha : RdAll w a n c ls) :
    Calls Tryd.prog 18 #[.slice a n c] w fun e w' => e = .returned (.int .u16 (crcs 65535 ls : Nat)) ∧ w = w' := by
  have hs1 := ha.hsmall
  have hl1 := ha.hlen
  go_enter Tryd.func18, Tryd.ntmps18
  go_wp2
  go_loop [3, 10] (fun r i => ∃ j : Nat, j ≤ n ∧ i = .int .i64 j ∧ r = .int .u16 ((crcs 65535 (ls.take j) : Nat) : Int)) (fun _ i => n - (intOf i).toNat)
  case atStart => exact ⟨0, by omega, rfl, rfl⟩
  case round =>
    obtain ⟨j, hj, rfl, rfl⟩ := hrel
    have hr := crcs_lt 65535 (ls.take j) (by decide)
    by_cases hlt : j < n
    · obtain ⟨b, off, rfl, hc⟩ := ha.hcell (by omega)
      obtain ⟨l, hl⟩ : ∃ l, ls[j]? = some l := ⟨ls[j], List.getElem?_eq_getElem (by omega)⟩
      obtain ⟨a', n', c', hcl, hrd⟩ := hc j l hl
      have HN : Hid (crcs 65535 (ls.take (j + 1)) = crc (crcs 65535 (ls.take j)) l) := by
        show crcs 65535 (ls.take (j + 1)) = crc (crcs 65535 (ls.take j)) l
        rw [take_succ' _ _ _ hl, crcs_snoc]
      have hs2 := hrd.hsmall
      have hl2 := hrd.hlen
      clear hc hl hl1
      generalize crcs 65535 (ls.take j) = r at *
      go_wp2
      go_loop [3, 16] (fun x i => ∃ t : Nat, t ≤ n' ∧ i = .int .i64 t ∧ x = .int .u16 ((crc r (l.take t) : Nat) : Int)) (fun _ i => n' - (intOf i).toNat)
      case atStart => exact ⟨0, by omega, rfl, rfl⟩
      case round =>
        obtain ⟨t, ht, rfl, rfl⟩ := hrel
        have hr2 := crc_lt r (l.take t) hr
        by_cases hlt2 : t < n'
        · obtain ⟨b2, o2, rfl, _, hc2⟩ := hrd.hcell (by omega)
          obtain ⟨x, hx⟩ : ∃ x, l[t]? = some x := ⟨l[t], List.getElem?_eq_getElem (by omega)⟩
          have hcx := hc2 t x hx
          have HN2 : Hid (crc r (l.take (t + 1)) = sumB (crc r (l.take t)) x.toNat) := by
            show crc r (l.take (t + 1)) = sumB (crc r (l.take t)) x.toNat
            rw [take_succ' _ _ _ hx, crc_snoc]
          clear hc2 hx hl2
          generalize crc r (l.take t) = s at *
          go_wp2_with (go_at_call 24; refine (sumByte_any _ _ _ hr2).mono ?_; rintro e w' ⟨rfl, rfl⟩)
          go_round
          case rel => exact ⟨t + 1, by omega, by go_num, by rw [HN2.out]⟩
          case measure => simp [intOf]; omega
        · have htn : t = n' := by omega
          subst htn
          have HT : Hid (l.take t = l) := List.take_of_length_le (by omega)
          go_wp2
          go_round
          case rel => exact ⟨j + 1, by omega, by go_num, by rw [HN.out, HT.out]⟩
          case measure => simp [intOf]; omega
    · have hjn : j = n := by omega
      subst hjn
      go_wp2
      go_ret
      exact ⟨ret_int (by rw [List.take_of_length_le (by omega)]), rfl⟩
end Go.Proofs.YtnlbdhplpjcgcaaDoor
