import Derived.Test.YticgikbnlpgnkaaYo
namespace Go.Proofs.Yticgikbnlpgnkaa
open Go.RowKit
set_option linter.unusedVariables false
set_option linter.unusedSimpArgs false

/-! ### The document's queue: Highest, Bits, put, Take -/
theorem u64_of_nat {p : Nat} (hp : p < 64) : IntKind.u64.wrap (p : Int) = p := by rw [IntKind.wrap_u64]; omega
theorem bitsR_snoc : ∀ (t : List Rr) (b : Nat) (y : Rr), bitsR b (t ++ (some y).toList) = if y.l = [] then bitsR b t else bitsR b t ||| 2 ^ y.p
  | [], b, y => by simp [bitsR]
  | r :: t, b, y => by
    show bitsR _ (t ++ (some y).toList) = _
    rw [bitsR_snoc t]
    rfl
section
variable {w : World} {D : Nat} {N Y : Nat → Prop} {rs : List Rr} {vr vl vh : Value} {ls : List Sl}
set_option maxHeartbeats 4000000 in
theorem dHighest_ok (h : DV w D N Y rs vr vl vh ls) {i : Nat} {x : Rr} (hi : rs[i]? = some x) (hl : x.l ≠ []) (hj : ∀ (j : Nat) (b : Rr), j < i → rs[j]? = some b → b.l = []) (hn : rs.length ≤ 64) : Calls Try.prog 41 #[dQ D] w fun e w' => e = .returned (.tuple #[I x.p, .bool true]) ∧ w = w' := by
  obtain ⟨c0, c1, -⟩ := h.cells
  obtain ⟨g, c, hv, hx0, -⟩ := h.rowAt hi
  subst hv
  obtain ⟨g2, c2, s, hv2, -, -, -, -⟩ := h.lAt hi
  subst hv2
  have hlt := (List.getElem?_eq_some_iff.1 hi).1
  have HA : Hid (∀ (k : Nat), k ≤ i → ∃ sa sn sc, w.cell? ⟨g2, k, none⟩ = some (.slice sa sn sc) ∧ (k < i → sn = 0) ∧ (k = i → 0 < sn)) := fun k hk => by
    obtain ⟨y, hy⟩ : ∃ y, rs[k]? = some y := ⟨_, List.getElem?_eq_getElem (by omega)⟩
    obtain ⟨g3, c3, s3, e3, _, k1, _, k2⟩ := h.lAt hy
    cases e3
    refine ⟨s3.a, s3.n, s3.c, k1, fun hki => ?_, fun e => ?_⟩
    · rw [k2.n, hj k y hki hy]; rfl
    · subst e
      rw [hi] at hy
      cases hy
      rw [k2.n]
      exact List.length_pos_iff.2 hl
  clear h hi hj hl
  go_enter Try.func41, Try.ntmps41
  go_wp2
  go_loopw [4] (fun j wr => ∃ k : Nat, k ≤ i ∧ j = .int .i64 k ∧ Hid (w = wr)) (fun j _ => i - (intOf j).toNat)
  case atStart => exact ⟨0, Nat.zero_le _, rfl, rfl⟩
  case round =>
    obtain ⟨k, hk, rfl, HW⟩ := hrel
    obtain rfl := HW.out
    clear HW
    obtain ⟨sa, sn, sc, hc, h1, h2⟩ := HA.out k hk
    have hkI : (k : Int) < rs.length := by omega
    have hk0 : ¬ (k : Int) < 0 := by omega
    by_cases hki : k < i
    · obtain rfl := h1 hki
      clear h1 h2
      go_wp2
      go_roundw
      case rel => exact ⟨k + 1, by omega, by go_num, by first | exact trivial | (show _ = _; rfl)⟩
      case measure => simp [intOf]; omega
    · obtain rfl : k = i := by omega
      have hpos : (0 : Int) < sn := by have := h2 rfl; omega
      clear h1 h2
      go_wp2
      go_ret2
      exact ⟨rfl, rfl⟩
set_option maxHeartbeats 4000000 in
theorem dHighest_no (h : DV w D N Y rs vr vl vh ls) (h0 : ∀ (i : Nat) (r : Rr), rs[i]? = some r → r.l = []) (hn : rs.length ≤ 64) : Calls Try.prog 41 #[dQ D] w fun e w' => e = .returned (.tuple #[I 0, .bool false]) ∧ w = w' := by
  obtain ⟨c0, c1, -⟩ := h.cells
  obtain ⟨a, c, hv⟩ := own_sl2 h.l
  subst hv
  have HA : Hid (∀ (k : Nat), k < rs.length → ∃ (g : Nat) (sa : Option Addr) (sc : Nat), a = some ⟨g, 0, none⟩ ∧ w.cell? ⟨g, k, none⟩ = some (.slice sa 0 sc)) := fun k hk => by
    obtain ⟨y, hy⟩ : ∃ y, rs[k]? = some y := ⟨_, List.getElem?_eq_getElem (by omega)⟩
    obtain ⟨g3, c3, s3, e3, _, k1, _, k2⟩ := h.lAt hy
    cases e3
    have : s3.n = 0 := by rw [k2.n, h0 k y hy]; rfl
    rw [this] at k1
    exact ⟨g3, _, _, rfl, k1⟩
  clear h h0
  go_enter Try.func41, Try.ntmps41
  go_wp2
  go_loopw [4] (fun j wr => ∃ k : Nat, k ≤ rs.length ∧ j = .int .i64 k ∧ Hid (w = wr)) (fun j _ => rs.length - (intOf j).toNat)
  case atStart => exact ⟨0, Nat.zero_le _, rfl, rfl⟩
  case round =>
    obtain ⟨k, hk, rfl, HW⟩ := hrel
    obtain rfl := HW.out
    clear HW
    have hk0 : ¬ (k : Int) < 0 := by omega
    by_cases hlt : k < rs.length
    · obtain ⟨g, sa, sc, rfl, hc⟩ := HA.out k hlt
      have hkI : (k : Int) < rs.length := by omega
      go_wp2
      go_roundw
      case rel => exact ⟨k + 1, by omega, by go_num, by first | exact trivial | (show _ = _; rfl)⟩
      case measure => simp [intOf]; omega
    · obtain rfl : k = rs.length := by omega
      have hge : ¬ ((rs.length : Int) < rs.length) := by omega
      go_wp2
      go_ret2
      exact ⟨rfl, rfl⟩
set_option maxHeartbeats 4000000 in
theorem dBits_any (h : DV w D N Y rs vr vl vh ls) (h64 : ∀ (i : Nat) (r : Rr), rs[i]? = some r → r.p < 64) (hn : rs.length ≤ 64) : Calls Try.prog 45 #[dQ D] w fun e w' => e = .returned (.int .u64 (bitsR 0 rs : Nat)) ∧ w = w' := by
  obtain ⟨c0, c1, -⟩ := h.cells
  obtain ⟨a, c, hv⟩ := own_sl2 h.l
  obtain ⟨a2, c2, hv2⟩ := own_sl2 h.r
  subst hv hv2
  have HA : Hid (∀ (k : Nat), k < rs.length → ∃ (g g2 : Nat) (y : Rr) (sa : Option Addr) (sc : Nat), rs[k]? = some y ∧ a = some ⟨g, 0, none⟩ ∧ a2 = some ⟨g2, 0, none⟩ ∧ w.cell? ⟨g, k, none⟩ = some (.slice sa y.l.length sc) ∧ w.cell? ⟨g2, k * 2, none⟩ = some (I y.p) ∧ y.p < 64) := fun k hk => by
    obtain ⟨y, hy⟩ : ∃ y, rs[k]? = some y := ⟨_, List.getElem?_eq_getElem (by omega)⟩
    obtain ⟨g3, c3, s3, e3, _, k1, _, k2⟩ := h.lAt hy
    obtain ⟨g4, c4, e4, k4, _⟩ := h.rowAt hy
    cases e3
    cases e4
    rw [k2.n] at k1
    exact ⟨g3, g4, y, _, _, hy, rfl, rfl, k1, k4, h64 k y hy⟩
  have HB : Hid (∀ k, bitsR 0 (rs.take k) < 18446744073709551616) := fun k => bitsR_lt _ 0 (by decide) (fun i r hi => by
    rw [List.getElem?_take] at hi
    split at hi
    · exact h64 i r hi
    · cases hi)
  have HS : Hid (∀ (k : Nat) (y : Rr), rs[k]? = some y → bitsR 0 (rs.take (k + 1)) = if y.l = [] then bitsR 0 (rs.take k) else bitsR 0 (rs.take k) ||| 2 ^ y.p) := fun k y hy => by
    rw [List.take_add_one, hy]
    exact bitsR_snoc _ _ _
  have HE : Hid (bitsR 0 (rs.take rs.length) = bitsR 0 rs) := by show _ = _; rw [List.take_length]
  clear h h64
  go_enter Try.func45, Try.ntmps45
  go_wp2
  go_loopw [3, 4] (fun b j wr => ∃ k : Nat, k ≤ rs.length ∧ j = .int .i64 k ∧ b = .int .u64 (bitsR 0 (rs.take k) : Nat) ∧ Hid (w = wr)) (fun _ j _ => rs.length - (intOf j).toNat)
  case atStart => exact ⟨0, Nat.zero_le _, rfl, rfl, rfl⟩
  case round =>
    obtain ⟨k, hk, rfl, rfl, HW⟩ := hrel
    obtain rfl := HW.out
    clear HW
    have hk0 : ¬ (k : Int) < 0 := by omega
    by_cases hlt : k < rs.length
    · obtain ⟨g, g2, y, sa, sc, hy, rfl, rfl, hc, hr, hp⟩ := HA.out k hlt
      have hkI : (k : Int) < rs.length := by omega
      have HS2 := HS.out k y hy
      have hB := HB.out k
      have e1 := shl_two hp
      have e2 := or_one hB hp
      have e3 := u64_of_nat hp
      generalize bitsR 0 (rs.take k) = b at *
      clear hy
      by_cases hl : y.l = []
      · rw [if_pos hl] at HS2
        have HS3 : Hid (bitsR 0 (rs.take (k + 1)) = b) := HS2
        rw [hl] at hc
        clear hl HS2 e1 e2 e3
        simp only [List.length_nil] at hc
        go_wp2
        go_roundw
        case rel => exact ⟨k + 1, by omega, by go_num, by rw [HS3.out], by first | exact trivial | (show _ = _; rfl)⟩
        case measure => simp [intOf]; omega
      · rw [if_neg hl] at HS2
        have HS3 : Hid (bitsR 0 (rs.take (k + 1)) = b ||| 2 ^ y.p) := HS2
        have hpos : (0 : Int) < y.l.length := by have := List.length_pos_iff.2 hl; omega
        clear hl HS2
        have E1 : Hid (IntKind.u64.wrap ((2 : Int) ^ y.p) = ((2 ^ y.p : Nat) : Int) ∧ bits .or .u64 (b : Int) ((2 ^ y.p : Nat) : Int) = ((b ||| 2 ^ y.p : Nat) : Int)) := ⟨e1, e2⟩
        clear e1 e2
        generalize y.p = p at *
        have hp2 : (p : Int) ≤ 64 := by omega
        go_wp2
        go_roundw
        case rel => exact ⟨k + 1, by omega, by go_num, by rw [HS3.out, ← E1.out.2, ← E1.out.1], by first | exact trivial | (show _ = _; rfl)⟩
        case measure => simp [intOf]; omega
    · obtain rfl : k = rs.length := by omega
      have hge : ¬ ((rs.length : Int) < rs.length) := by omega
      go_wp2
      go_ret
      try rw [HE.out]
      exact ⟨rfl, rfl⟩
end
end Go.Proofs.Yticgikbnlpgnkaa
