import Derived.Test.YtlbgppijeoonjaaGreatDoorScaX
import Derived.Lib.ConvBytes
import Derived.Lib.ParseIntBMem
import Derived.Lib.Hide
import Derived.Lib.AtoiErrMem
import Derived.Laws.Closers25
import Derived.Laws.Closers25b
import Derived.BigCall
import Derived.BigGuard
namespace Go.Proofs.YtlbgppijeoonjaaGreatDoor
open Go.RowKit
set_option linter.unusedVariables false

theorem valB_app (b v : Nat) (a c : List UInt8) : valB b v (a ++ c) = valB b (valB b v a) c := by
  induction a generalizing v with
  | nil => rfl
  | cons x t ih => exact ih _
theorem valB_mono (b v : Nat) (hb : 1 ≤ b) (l : List UInt8) : v ≤ valB b v l := by
  induction l generalizing v with
  | nil => exact Nat.le_refl _
  | cons c t ih => exact Nat.le_trans (Nat.le_trans (Nat.le_mul_of_pos_left v hb) (Nat.le_add_right _ _)) (ih _)
theorem valB_take (b : Nat) (l : List UInt8) (k : Nat) (h : k < l.length) : valB b 0 (l.take (k + 1)) = b * valB b 0 (l.take k) + hexV l[k] := by
  rw [List.take_succ_eq_append_getElem h, valB_app]; rfl
theorem valB_take_le (b : Nat) (hb : 1 ≤ b) (l : List UInt8) (k : Nat) : valB b 0 (l.take k) ≤ valB b 0 l := by
  conv => rhs; rw [← List.take_append_drop k l, valB_app]
  exact valB_mono _ _ hb _
theorem digB_take (b : Nat) (l : List UInt8) (k : Nat) (h : k < l.length) (ha : digB b (l.take k) = true) (hd : hexV l[k] < b) : digB b (l.take (k + 1)) = true := by
  unfold digB at *
  rw [List.take_succ_eq_append_getElem h, List.all_append, ha]
  simp [hd]
theorem numB_bad (b : Nat) (l : List UInt8) (k : Nat) (h : k < l.length) (hd : ¬ hexV l[k] < b) : numB b l = none := by
  unfold numB
  rw [if_neg]
  rintro ⟨_, h2, _⟩
  exact hd (of_decide_eq_true (List.all_eq_true.1 h2 _ (List.getElem_mem h)))
theorem numB_big (b : Nat) (hb : 1 ≤ b) (l : List UInt8) (k : Nat) (h : k < l.length) (hd : 4294967295 < b * valB b 0 (l.take k) + hexV l[k]) : numB b l = none := by
  unfold numB
  rw [if_neg]
  rintro ⟨_, _, h3⟩
  rw [← valB_take b l k h] at hd
  have := valB_take_le b hb l (k + 1)
  omega
theorem low1 : ∀ n : Nat, n < 256 → bits .or .u8 (n : Int) 32 = ((n ||| 32 : Nat) : Int) := by decide +kernel
theorem low2 : ∀ n : Nat, n < 256 → (n ||| 32) < 256 := by decide +kernel
theorem low3 : ∀ n : Nat, n < 256 → (n < 48 ∨ 57 < n) → 97 ≤ (n ||| 32) → (n ||| 32) - 87 < 16 → hexV (UInt8.ofNat n) = (n ||| 32) - 87 := by decide +kernel
theorem low4 : ∀ n : Nat, n < 256 → (n < 48 ∨ 57 < n) → 97 ≤ (n ||| 32) → 16 ≤ (n ||| 32) - 87 → hexV (UInt8.ofNat n) = 99 := by decide +kernel
theorem low5 : ∀ n : Nat, n < 256 → (n < 48 ∨ 57 < n) → ((n ||| 32) < 97 ∨ 122 < (n ||| 32)) → hexV (UInt8.ofNat n) = 99 := by decide +kernel
theorem dig_hexV (c : UInt8) (h : 48 ≤ c.toNat ∧ c.toNat ≤ 57) : hexV c = c.toNat - 48 := by
  unfold hexV; rw [if_pos (show isG c = true from decide_eq_true h)]

/-- What ParseUint answers. -/
def PuPost (b : Nat) (l : List UInt8) (e : Ending) : Prop :=
  (∃ v, numB b l = some v ∧ e = .returned (.tuple #[.int .u64 (v : Int), .nilIface])) ∨
  (numB b l = none ∧ ∃ x c : Int, (c = 1 ∨ c = 2) ∧ e = .returned (.tuple #[.int .u64 x, .iface 212 (.int .i64 c)]))

end Go.Proofs.YtlbgppijeoonjaaGreatDoor

namespace Go.Proofs.YtlbgppijeoonjaaGreatDoor
open Go.RowKit
set_option linter.unusedVariables false

set_option maxHeartbeats 8000000 in
set_option maxRecDepth 100000 in
theorem pu_in10 (t : ByteArray) (hne : t.size ≠ 0) (hmax : t.size < 4294967281) (w : World) :
    Calls Tryz.prog 134 #[.string t, .int .i64 10, .int .i64 32] w fun e w' => PuPost 10 t.data.toList e ∧ Below w.heap.size w w' := by
  have hemp : t.toList.isEmpty = false := by
    rw [← decide_eq_emptyBytes]
    exact decide_eq_false (fun h => hne (by rw [h]; rfl))
  have hcv := Lib.run_convert_string_bytes (P := Tryz.prog) w 9 110 5 t (u := .string) Tryz.underlying9 Tryz.underlying110 Tryz.underlying5
  have hB : ∀ j, j < t.size → (Lib.bytesWorld w 5 t).cell? ⟨w.heap.size, j, none⟩ = some (.int .u8 (t.data.toList.getD j 0).toNat) := fun j hj => Lib.bytesWorld_cell w 5 t j hj
  have hBel : Below w.heap.size w (Lib.bytesWorld w 5 t) := Lib.bytesWorld_below _ _ _
  generalize Lib.bytesWorld w 5 t = W1 at *
  have hLn : t.data.toList.length = t.size := len_all t
  generalize t.data.toList = bs at *
  have hmv : IntKind.u64.wrap (IntKind.u64.wrap 4294967296 - 1) = 4294967295 := by
    rw [IntKind.wrap_u64, IntKind.wrap_u64]
    decide
  go_enter Tryz.func134, Tryz.ntmps134
  go_wp2
  go_loop [12, 13, 101] (fun vu vn vi => ∃ (k acc : Nat) (a : Int), vu = .bool false ∧ vn = .int .u64 a ∧ vi = .int .i64 k ∧ k ≤ t.size ∧ Hid (a = (acc : Int) ∧ acc ≤ 4294967295 ∧ valB 10 0 (bs.take k) = acc ∧ digB 10 (bs.take k) = true))
    (fun _ _ vi => t.size - (intOf vi).toNat)
  case atStart => exact ⟨0, 0, 0, rfl, rfl, rfl, by omega, rfl, by omega, rfl, rfl⟩
  case round =>
    obtain ⟨k, acc, a, rfl, rfl, rfl, hk, hh⟩ := hrel
    obtain ⟨ha, hacc, hv, hdg⟩ := hh.out
    clear hh
    have a0 : 0 ≤ a := by omega
    have a1 : a ≤ 4294967295 := by omega
    by_cases hkn : k < t.size
    · have hc := hB k hkn
      have hl : k < bs.length := by omega
      have hget : bs.getD k 0 = bs[k] := by simp [List.getD, List.getElem?_eq_getElem hl]
      rw [hget] at hc
      obtain ⟨c, hcc⟩ : ∃ c, bs[k] = c := ⟨_, rfl⟩
      have HB : Hid (¬ hexV c < 10 → numB 10 bs = none) := fun h => numB_bad 10 bs k hl (by rw [hcc]; exact h)
      have HG : Hid (4294967295 < 10 * acc + hexV c → numB 10 bs = none) := fun h => numB_big 10 (by omega) bs k hl (by rw [hcc, hv]; exact h)
      have HN : Hid (hexV c < 10 → valB 10 0 (bs.take (k + 1)) = 10 * acc + hexV c ∧ digB 10 (bs.take (k + 1)) = true) := fun h =>
        ⟨by rw [valB_take _ _ _ hl, hv, hcc], digB_take _ _ _ hl hdg (by rw [hcc]; exact h)⟩
      rw [hcc] at hc
      have hc256 := c.toNat_lt
      clear hB hcc hget hl hv hdg
      by_cases hdig : 48 ≤ c.toNat ∧ c.toNat ≤ 57
      · have hxv := dig_hexV c hdig
        obtain ⟨hd0, hd1⟩ := hdig
        rw [hxv] at HB HG HN
        clear hxv HB
        by_cases hov : 4294967295 < 10 * acc + (c.toNat - 48)
        · have iov : 4294967295 < a * 10 + ((c.toNat : Int) - 48) := by omega
          have HE : Hid (numB 10 bs = none) := HG.out hov
          clear HG HN hov hacc ha
          go_wp2
          go_ret2
          exact ⟨Or.inr ⟨HE.out, _, _, Or.inl rfl, rfl⟩, hBel⟩
        · have iov : a * 10 + ((c.toNat : Int) - 48) ≤ 4294967295 := by omega
          have HN' : Hid (a * 10 + ((c.toNat : Int) - 48) = ((10 * acc + (c.toNat - 48) : Nat) : Int) ∧ 10 * acc + (c.toNat - 48) ≤ 4294967295 ∧ valB 10 0 (bs.take (k + 1)) = 10 * acc + (c.toNat - 48) ∧ digB 10 (bs.take (k + 1)) = true) :=
            ⟨by omega, by omega, HN.out (by omega)⟩
          clear HG HN hov hacc ha
          go_wp2
          refine ⟨⟨k + 1, 10 * acc + (c.toNat - 48), a * 10 + ((c.toNat : Int) - 48), rfl, (by first | rfl | (congr 1; omega)), (by first | rfl | (congr 1; omega)), by omega, HN'⟩, by simp [intOf]; omega⟩
      · have hdig' : c.toNat < 48 ∨ 57 < c.toNat := by omega
        have hlo := low1 c.toNat hc256
        have hlo2 := low2 c.toNat hc256
        have k3 := low3 c.toNat hc256 hdig'
        have k4 := low4 c.toNat hc256 hdig'
        have k5 := low5 c.toNat hc256 hdig'
        rw [UInt8.ofNat_toNat] at k3 k4 k5
        by_cases h95 : c.toNat = 95
        · have HE : Hid (numB 10 bs = none) := HB.out (by rw [k5 (by rw [h95]; decide)]; decide)
          rw [h95] at hc
          have cl := Tryz.internal_strconv_lower 95
          rw [show bits .or .u8 (95 : Int) 32 = 127 from by decide] at cl
          clear HG HN HB k3 k4 k5 hlo hlo2 hdig hdig' h95 hc256 hacc ha
          go_wp2_with (go_at_call 139; refine (cl _).mono ?_; rintro e w' ⟨rfl, rfl⟩)
          all_goals go_ret2
          all_goals exact ⟨Or.inr ⟨HE.out, _, _, Or.inr rfl, rfl⟩, hBel⟩
        · have i95 : ((c.toNat : Int) == 95) = false := by rw [beq_eq_false_iff_ne]; omega
          have cl := Tryz.internal_strconv_lower (c.toNat : Int)
          rw [hlo] at cl
          generalize (c.toNat ||| 32) = x at *
          clear hlo
          by_cases hlow : 97 ≤ x ∧ x ≤ 122
          · obtain ⟨l1, l2⟩ := hlow
            have g1 := k3 l1
            have g2 : ¬ x - 87 < 16 → hexV c = 99 := fun h => k4 l1 (by omega)
            have i3 : (97 : Int) ≤ x := by omega
            have i4 : (x : Int) ≤ 122 := by omega
            clear k3 k4 k5
            by_cases hbig : (x : Int) - 97 + 10 < 10
            · have hx16 : hexV c = x - 87 := g1 (by omega)
              rw [hx16] at HB HG HN
              clear g1 g2 hx16 HB
              by_cases hov : 4294967295 < 10 * acc + (x - 87)
              · have iov : 4294967295 < a * 10 + ((x : Int) - 97 + 10) := by omega
                have HE : Hid (numB 10 bs = none) := HG.out hov
                clear HG HN hov hacc ha hdig' h95
                go_wp2_with (go_at_call 139; refine (cl _).mono ?_; rintro e w' ⟨rfl, rfl⟩)
                all_goals go_ret2
                all_goals exact ⟨Or.inr ⟨HE.out, _, _, Or.inl rfl, rfl⟩, hBel⟩
              · have iov : a * 10 + ((x : Int) - 97 + 10) ≤ 4294967295 := by omega
                have HN' : Hid (a * 10 + ((x : Int) - 97 + 10) = ((10 * acc + (x - 87) : Nat) : Int) ∧ 10 * acc + (x - 87) ≤ 4294967295 ∧ valB 10 0 (bs.take (k + 1)) = 10 * acc + (x - 87) ∧ digB 10 (bs.take (k + 1)) = true) :=
                  ⟨by omega, by omega, HN.out (by omega)⟩
                clear HG HN hov hacc ha hdig' h95
                go_wp2_with (go_at_call 139; refine (cl _).mono ?_; rintro e w' ⟨rfl, rfl⟩)
                all_goals exact ⟨⟨k + 1, 10 * acc + (x - 87), a * 10 + ((x : Int) - 97 + 10), rfl, (by first | rfl | (congr 1; omega)), (by first | rfl | (congr 1; omega)), by omega, HN'⟩, by simp [intOf]; omega⟩
            · have HE : Hid (numB 10 bs = none) := HB.out (by
                by_cases h16 : x - 87 < 16
                · rw [g1 h16]; omega
                · rw [g2 h16]; omega)
              clear HG HN HB g1 g2 hdig' h95 hacc ha
              go_wp2_with (go_at_call 139; refine (cl _).mono ?_; rintro e w' ⟨rfl, rfl⟩)
              all_goals go_ret2
              all_goals exact ⟨Or.inr ⟨HE.out, _, _, Or.inr rfl, rfl⟩, hBel⟩
          · have HE : Hid (numB 10 bs = none) := HB.out (by rw [k5 (by omega)]; omega)
            have hlow' : (x : Int) < 97 ∨ 122 < (x : Int) := by omega
            clear HG HN HB k3 k4 k5 hlow hdig' h95 hacc ha
            rcases hlow' with hl1 | hl2
            · go_wp2_with (go_at_call 139; refine (cl _).mono ?_; rintro e w' ⟨rfl, rfl⟩)
              all_goals go_ret2
              all_goals exact ⟨Or.inr ⟨HE.out, _, _, Or.inr rfl, rfl⟩, hBel⟩
            · go_wp2_with (go_at_call 139; refine (cl _).mono ?_; rintro e w' ⟨rfl, rfl⟩)
              all_goals go_ret2
              all_goals exact ⟨Or.inr ⟨HE.out, _, _, Or.inr rfl, rfl⟩, hBel⟩
    · have hkk : k = t.size := by omega
      have HE : Hid (numB 10 bs = some acc) := by
        have e : bs.take k = bs := List.take_of_length_le (by omega)
        rw [e] at hv hdg
        show (if _ then _ else _) = _
        rw [if_pos ⟨fun e => hne (by rw [← hLn, e]; rfl), hdg, by omega⟩, hv]
      have hkn' : ¬ (k : Int) < t.size := by omega
      subst ha
      clear hkk hB hv hdg
      go_wp2
      go_ret2
      exact ⟨Or.inl ⟨acc, HE.out, rfl⟩, hBel⟩
end Go.Proofs.YtlbgppijeoonjaaGreatDoor

namespace Go.Proofs.YtlbgppijeoonjaaGreatDoor
open Go.RowKit
set_option linter.unusedVariables false

set_option maxHeartbeats 8000000 in
set_option maxRecDepth 100000 in
theorem pu_in16 (t : ByteArray) (hne : t.size ≠ 0) (hmax : t.size < 4294967281) (w : World) :
    Calls Tryz.prog 134 #[.string t, .int .i64 16, .int .i64 32] w fun e w' => PuPost 16 t.data.toList e ∧ Below w.heap.size w w' := by
  have hemp : t.toList.isEmpty = false := by
    rw [← decide_eq_emptyBytes]
    exact decide_eq_false (fun h => hne (by rw [h]; rfl))
  have hcv := Lib.run_convert_string_bytes (P := Tryz.prog) w 9 110 5 t (u := .string) Tryz.underlying9 Tryz.underlying110 Tryz.underlying5
  have hB : ∀ j, j < t.size → (Lib.bytesWorld w 5 t).cell? ⟨w.heap.size, j, none⟩ = some (.int .u8 (t.data.toList.getD j 0).toNat) := fun j hj => Lib.bytesWorld_cell w 5 t j hj
  have hBel : Below w.heap.size w (Lib.bytesWorld w 5 t) := Lib.bytesWorld_below _ _ _
  generalize Lib.bytesWorld w 5 t = W1 at *
  have hLn : t.data.toList.length = t.size := len_all t
  generalize t.data.toList = bs at *
  have hmv : IntKind.u64.wrap (IntKind.u64.wrap 4294967296 - 1) = 4294967295 := by
    rw [IntKind.wrap_u64, IntKind.wrap_u64]
    decide
  go_enter Tryz.func134, Tryz.ntmps134
  go_wp2
  go_loop [12, 13, 101] (fun vu vn vi => ∃ (k acc : Nat) (a : Int), vu = .bool false ∧ vn = .int .u64 a ∧ vi = .int .i64 k ∧ k ≤ t.size ∧ Hid (a = (acc : Int) ∧ acc ≤ 4294967295 ∧ valB 16 0 (bs.take k) = acc ∧ digB 16 (bs.take k) = true))
    (fun _ _ vi => t.size - (intOf vi).toNat)
  case atStart => exact ⟨0, 0, 0, rfl, rfl, rfl, by omega, rfl, by omega, rfl, rfl⟩
  case round =>
    obtain ⟨k, acc, a, rfl, rfl, rfl, hk, hh⟩ := hrel
    obtain ⟨ha, hacc, hv, hdg⟩ := hh.out
    clear hh
    have a0 : 0 ≤ a := by omega
    have a1 : a ≤ 4294967295 := by omega
    by_cases hkn : k < t.size
    · have hc := hB k hkn
      have hl : k < bs.length := by omega
      have hget : bs.getD k 0 = bs[k] := by simp [List.getD, List.getElem?_eq_getElem hl]
      rw [hget] at hc
      obtain ⟨c, hcc⟩ : ∃ c, bs[k] = c := ⟨_, rfl⟩
      have HB : Hid (¬ hexV c < 16 → numB 16 bs = none) := fun h => numB_bad 16 bs k hl (by rw [hcc]; exact h)
      have HG : Hid (4294967295 < 16 * acc + hexV c → numB 16 bs = none) := fun h => numB_big 16 (by omega) bs k hl (by rw [hcc, hv]; exact h)
      have HN : Hid (hexV c < 16 → valB 16 0 (bs.take (k + 1)) = 16 * acc + hexV c ∧ digB 16 (bs.take (k + 1)) = true) := fun h =>
        ⟨by rw [valB_take _ _ _ hl, hv, hcc], digB_take _ _ _ hl hdg (by rw [hcc]; exact h)⟩
      rw [hcc] at hc
      have hc256 := c.toNat_lt
      clear hB hcc hget hl hv hdg
      by_cases hdig : 48 ≤ c.toNat ∧ c.toNat ≤ 57
      · have hxv := dig_hexV c hdig
        obtain ⟨hd0, hd1⟩ := hdig
        rw [hxv] at HB HG HN
        clear hxv HB
        by_cases hov : 4294967295 < 16 * acc + (c.toNat - 48)
        · have iov : 4294967295 < a * 16 + ((c.toNat : Int) - 48) := by omega
          have HE : Hid (numB 16 bs = none) := HG.out hov
          clear HG HN hov hacc ha
          go_wp2
          go_ret2
          exact ⟨Or.inr ⟨HE.out, _, _, Or.inl rfl, rfl⟩, hBel⟩
        · have iov : a * 16 + ((c.toNat : Int) - 48) ≤ 4294967295 := by omega
          have HN' : Hid (a * 16 + ((c.toNat : Int) - 48) = ((16 * acc + (c.toNat - 48) : Nat) : Int) ∧ 16 * acc + (c.toNat - 48) ≤ 4294967295 ∧ valB 16 0 (bs.take (k + 1)) = 16 * acc + (c.toNat - 48) ∧ digB 16 (bs.take (k + 1)) = true) :=
            ⟨by omega, by omega, HN.out (by omega)⟩
          clear HG HN hov hacc ha
          go_wp2
          refine ⟨⟨k + 1, 16 * acc + (c.toNat - 48), a * 16 + ((c.toNat : Int) - 48), rfl, (by first | rfl | (congr 1; omega)), (by first | rfl | (congr 1; omega)), by omega, HN'⟩, by simp [intOf]; omega⟩
      · have hdig' : c.toNat < 48 ∨ 57 < c.toNat := by omega
        have hlo := low1 c.toNat hc256
        have hlo2 := low2 c.toNat hc256
        have k3 := low3 c.toNat hc256 hdig'
        have k4 := low4 c.toNat hc256 hdig'
        have k5 := low5 c.toNat hc256 hdig'
        rw [UInt8.ofNat_toNat] at k3 k4 k5
        by_cases h95 : c.toNat = 95
        · have HE : Hid (numB 16 bs = none) := HB.out (by rw [k5 (by rw [h95]; decide)]; decide)
          rw [h95] at hc
          have cl := Tryz.internal_strconv_lower 95
          rw [show bits .or .u8 (95 : Int) 32 = 127 from by decide] at cl
          clear HG HN HB k3 k4 k5 hlo hlo2 hdig hdig' h95 hc256 hacc ha
          go_wp2_with (go_at_call 139; refine (cl _).mono ?_; rintro e w' ⟨rfl, rfl⟩)
          all_goals go_ret2
          all_goals exact ⟨Or.inr ⟨HE.out, _, _, Or.inr rfl, rfl⟩, hBel⟩
        · have i95 : ((c.toNat : Int) == 95) = false := by rw [beq_eq_false_iff_ne]; omega
          have cl := Tryz.internal_strconv_lower (c.toNat : Int)
          rw [hlo] at cl
          generalize (c.toNat ||| 32) = x at *
          clear hlo
          by_cases hlow : 97 ≤ x ∧ x ≤ 122
          · obtain ⟨l1, l2⟩ := hlow
            have g1 := k3 l1
            have g2 : ¬ x - 87 < 16 → hexV c = 99 := fun h => k4 l1 (by omega)
            have i3 : (97 : Int) ≤ x := by omega
            have i4 : (x : Int) ≤ 122 := by omega
            clear k3 k4 k5
            by_cases hbig : (x : Int) - 97 + 10 < 16
            · have hx16 : hexV c = x - 87 := g1 (by omega)
              rw [hx16] at HB HG HN
              clear g1 g2 hx16 HB
              by_cases hov : 4294967295 < 16 * acc + (x - 87)
              · have iov : 4294967295 < a * 16 + ((x : Int) - 97 + 10) := by omega
                have HE : Hid (numB 16 bs = none) := HG.out hov
                clear HG HN hov hacc ha hdig' h95
                go_wp2_with (go_at_call 139; refine (cl _).mono ?_; rintro e w' ⟨rfl, rfl⟩)
                all_goals go_ret2
                all_goals exact ⟨Or.inr ⟨HE.out, _, _, Or.inl rfl, rfl⟩, hBel⟩
              · have iov : a * 16 + ((x : Int) - 97 + 10) ≤ 4294967295 := by omega
                have HN' : Hid (a * 16 + ((x : Int) - 97 + 10) = ((16 * acc + (x - 87) : Nat) : Int) ∧ 16 * acc + (x - 87) ≤ 4294967295 ∧ valB 16 0 (bs.take (k + 1)) = 16 * acc + (x - 87) ∧ digB 16 (bs.take (k + 1)) = true) :=
                  ⟨by omega, by omega, HN.out (by omega)⟩
                clear HG HN hov hacc ha hdig' h95
                go_wp2_with (go_at_call 139; refine (cl _).mono ?_; rintro e w' ⟨rfl, rfl⟩)
                all_goals exact ⟨⟨k + 1, 16 * acc + (x - 87), a * 16 + ((x : Int) - 97 + 10), rfl, (by first | rfl | (congr 1; omega)), (by first | rfl | (congr 1; omega)), by omega, HN'⟩, by simp [intOf]; omega⟩
            · have HE : Hid (numB 16 bs = none) := HB.out (by
                by_cases h16 : x - 87 < 16
                · rw [g1 h16]; omega
                · rw [g2 h16]; omega)
              clear HG HN HB g1 g2 hdig' h95 hacc ha
              go_wp2_with (go_at_call 139; refine (cl _).mono ?_; rintro e w' ⟨rfl, rfl⟩)
              all_goals go_ret2
              all_goals exact ⟨Or.inr ⟨HE.out, _, _, Or.inr rfl, rfl⟩, hBel⟩
          · have HE : Hid (numB 16 bs = none) := HB.out (by rw [k5 (by omega)]; omega)
            have hlow' : (x : Int) < 97 ∨ 122 < (x : Int) := by omega
            clear HG HN HB k3 k4 k5 hlow hdig' h95 hacc ha
            rcases hlow' with hl1 | hl2
            · go_wp2_with (go_at_call 139; refine (cl _).mono ?_; rintro e w' ⟨rfl, rfl⟩)
              all_goals go_ret2
              all_goals exact ⟨Or.inr ⟨HE.out, _, _, Or.inr rfl, rfl⟩, hBel⟩
            · go_wp2_with (go_at_call 139; refine (cl _).mono ?_; rintro e w' ⟨rfl, rfl⟩)
              all_goals go_ret2
              all_goals exact ⟨Or.inr ⟨HE.out, _, _, Or.inr rfl, rfl⟩, hBel⟩
    · have hkk : k = t.size := by omega
      have HE : Hid (numB 16 bs = some acc) := by
        have e : bs.take k = bs := List.take_of_length_le (by omega)
        rw [e] at hv hdg
        show (if _ then _ else _) = _
        rw [if_pos ⟨fun e => hne (by rw [← hLn, e]; rfl), hdg, by omega⟩, hv]
      have hkn' : ¬ (k : Int) < t.size := by omega
      subst ha
      clear hkk hB hv hdg
      go_wp2
      go_ret2
      exact ⟨Or.inl ⟨acc, HE.out, rfl⟩, hBel⟩
end Go.Proofs.YtlbgppijeoonjaaGreatDoor

