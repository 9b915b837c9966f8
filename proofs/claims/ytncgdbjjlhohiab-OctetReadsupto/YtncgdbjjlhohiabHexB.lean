import Derived.Test.YtncgdbjjlhohiabHexA
namespace Go.Proofs.Ytncgdbjjlhohiab
open Go.RowKit
set_option linter.unusedVariables false

/-! ### Digits and bytes, without Go -/
def hexL (l : List UInt8) : List UInt8 := l.flatMap fun c => [hi4 c, lo4 c]
def unhexL : List UInt8 → Option (List UInt8)
  | [] => some []
  | [_] => none
  | a :: b :: r => if hbOk a b = true then (unhexL r).map (UInt8.ofNat (16 * nib a + nib b) :: ·) else none
theorem hexL_len (l : List UInt8) : (hexL l).length = 2 * l.length := by
  induction l with
  | nil => rfl
  | cons a l ih => show (hi4 a :: lo4 a :: hexL l).length = _; simp [ih]; omega
theorem hexL_snoc (l : List UInt8) (c : UInt8) : hexL (l ++ [c]) = hexL l ++ [hi4 c, lo4 c] := by simp [hexL]
theorem hb_hi_lo (c : UInt8) : hbOk (hi4 c) (lo4 c) = true ∧ UInt8.ofNat (16 * nib (hi4 c) + nib (lo4 c)) = c := by
  have hc := c.toNat_lt
  have e1 : nib (hi4 c) = c.toNat / 16 := nib_dig _ (by omega)
  have e2 : nib (lo4 c) = c.toNat % 16 := nib_dig _ (by omega)
  refine ⟨?_, ?_⟩
  · unfold hbOk okV; rw [e1, e2]; simp; omega
  · rw [e1, e2, show 16 * (c.toNat / 16) + c.toNat % 16 = c.toNat by omega]
    exact UInt8.ofNat_toNat
theorem unhex_hex (l : List UInt8) : unhexL (hexL l) = some l := by
  induction l with
  | nil => rfl
  | cons a l ih =>
    show unhexL (hi4 a :: lo4 a :: hexL l) = _
    rw [unhexL, if_pos (hb_hi_lo a).1, ih, (hb_hi_lo a).2]; rfl
theorem hex_unhex (s l : List UInt8) (h : unhexL s = some l) : hexL l = s := by
  induction s using unhexL.induct generalizing l with
  | case1 => simp [unhexL] at h; subst h; rfl
  | case2 x => simp [unhexL] at h
  | case3 a b r hk ih =>
    rw [unhexL, if_pos hk] at h
    cases hr : unhexL r with
    | none => rw [hr] at h; cases h
    | some m =>
      rw [hr] at h
      simp only [Option.map_some, Option.some.injEq] at h
      subst h
      show hi4 _ :: lo4 _ :: hexL m = _
      rw [ih m hr]
      have h1 : nib a < 16 ∧ nib b < 16 := by unfold hbOk okV at hk; simpa using hk
      have e : (UInt8.ofNat (16 * nib a + nib b)).toNat = 16 * nib a + nib b := UInt8.toNat_ofNat_of_lt' (show _ < 256 by omega)
      unfold hi4 lo4
      rw [e, show (16 * nib a + nib b) / 16 = nib a by omega, show (16 * nib a + nib b) % 16 = nib b by omega, dig_of_nib a h1.1, dig_of_nib b h1.2]
  | case4 a b r hk => rw [unhexL, if_neg hk] at h; cases h

theorem conv_nil (w : World) : (convert 30 9 (.slice none 0 0)).run Try.prog w = .ok (.string ⟨#[]⟩) w := by kernel_rfl
theorem conv_own {w : World} {base n : Nat} {v : Value} {l : List UInt8} (h : w.ownsRow base 5 1 v n (l.map B)) : (convert 30 9 v).run Try.prog w = .ok (.string ⟨l.toArray⟩) w := by
  have hl : l.length = n := by have := h.1; simpa using this
  rcases h.2 with ⟨rfl, h0⟩ | ⟨g, cap, cur, rfl, _⟩
  · have : l = [] := List.eq_nil_of_length_eq_zero (by omega)
    subst this
    exact conv_nil w
  · subst hl
    refine run_convert_bytes_back w 30 9 5 ⟨g, 0, none⟩ cap l Try.underlying30 Try.underlying5 Try.underlying9 (fun j hj => ?_)
    have := h.cellAt j (by omega)
    have e : ((⟨g, 0, none⟩ : Addr).add j) = ⟨g, j, none⟩ := by unfold Addr.add; by_cases h0 : j = 0 <;> simp [h0]
    rw [e, this]; simp [hj, B]

set_option maxHeartbeats 1000000 in
theorem hex_any (a : Option Addr) (n c : Nat) (l : List UInt8) (w : World) (ha : Rd w a n c l) (hn : n ≤ 1048576) :
    Calls Try.prog 13 #[.slice a n c] w fun e w' => e = .returned (.string ⟨(hexL l).toArray⟩) ∧ Below w.heap.size w w' := by
  obtain ⟨i0, hi, hz0, hz1, hz2⟩ := info_parts Try.info5
  have hl1 := ha.hlen
  go_enter Try.func13, Try.ntmps13
  go_wp2_with (at_make; refine wpList_make_own _ rfl _ _ 30 rfl w.heap.size 5 i0 (.int .u8 0) 1 Try.underlying30 hi hz0 hz1 .i64 .i64 _ (2 * n) rfl rfl (by omega) (by rw [hz2]; omega) (by unfold maxLen; omega) (Nat.le_refl _) ?_)
  intro w1 hown hg
  have hb1 : Below w.heap.size w w1 := (Below.refl _ _).grown hg (Nat.le_refl _) (fun k h => by cases h)
  clear hg
  go_wp2
  go_loopw [3, 12] (fun v i wr => ∃ j : Nat, j ≤ n ∧ i = .int .i64 j ∧ wr.ownsRow w.heap.size 5 1 v (2 * j) ((hexL (l.take j)).map B) ∧ Below w.heap.size w wr) (fun _ i _ => n - (intOf i).toNat)
  case atStart => exact ⟨0, by omega, rfl, hown, hb1⟩
  case round =>
    clear hown hb1
    obtain ⟨j, hj, rfl, ho, hb⟩ := hrel
    obtain ⟨av, cv, rfl⟩ := owns_shape ho
    by_cases hlt : j < n
    · obtain ⟨b, off, rfl, hbw, hc⟩ := ha.hcell (by omega)
      obtain ⟨x, hx⟩ : ∃ x, l[j]? = some x := ⟨l[j], List.getElem?_eq_getElem (by omega)⟩
      have hcx : wr.cell? ⟨b, off + j, none⟩ = some (.int .u8 (x.toNat : Int)) := (hb.cell (p := ⟨b, off + j, none⟩) hbw).trans (hc j x hx)
      have HN : Hid (hexL (l.take (j + 1)) = hexL (l.take j) ++ [hi4 x, lo4 x]) := by
        show hexL (l.take (j + 1)) = _
        rw [take_succ' _ _ _ hx, hexL_snoc]
      have hsz := hb.size
      clear hc hx
      go_wp2_with (go_at_call 36; refine (appendHex_any _ (2 * j) w.heap.size _ x _ ho hsz (by omega)).mono ?_; rintro e w2 ⟨v2, rfl, ho2, hg2⟩)
      have hb2 : Below w.heap.size w w2 := hb.grown hg2 hsz (fun k e => (ho.lt k e).1)
      have R : w2.ownsRow w.heap.size 5 1 v2 (2 * (j + 1)) ((hexL (l.take (j + 1))).map B) := by
        rw [HN.out, List.map_append]; exact ho2
      clear ho2 hg2 ho
      go_wp2
      go_roundw
      case rel => exact ⟨j + 1, by omega, by go_num, R, hb2⟩
      case measure => simp [intOf]; omega
    · have hjn : j = n := by omega
      subst hjn
      rw [List.take_of_length_le (by omega)] at ho
      have hcv := conv_own ho
      go_wp2
      go_ret
      exact ⟨rfl, hb⟩
end Go.Proofs.Ytncgdbjjlhohiab
