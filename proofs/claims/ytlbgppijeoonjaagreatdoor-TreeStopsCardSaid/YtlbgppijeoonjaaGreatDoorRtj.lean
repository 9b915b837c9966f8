import Derived.Test.YtlbgppijeoonjaaGreatDoorRtd
namespace Go.Proofs.YtlbgppijeoonjaaGreatDoor
open Go.RowKit
set_option linter.unusedVariables false


theorem appb (a b : List UInt8) : (⟨a.toArray⟩ : ByteArray) ++ ⟨b.toArray⟩ = ⟨(a ++ b).toArray⟩ := (same_bytes _ _ (by simp [ByteArray.data_append])).symm
set_option maxHeartbeats 4000000 in
set_option maxRecDepth 100000 in
theorem rJoin_any (a : Option Addr) (n cap : Nat) (xs : List Tp) (w : World) (hR : RowT w (.slice a n cap) xs) (hx : ∀ x ∈ xs, TzOk x.z) (hn : n < 4294967296) :
    Calls Tryz.prog 24 #[.slice a n cap] w fun e w' => e = .returned (jnV (xs.map (·.z))) ∧ Below w.heap.size w w' := by
  obtain ⟨r, hr⟩ : ∃ r, jnV (xs.map (·.z)) = r := ⟨_, rfl⟩
  rw [hr]
  have HX : Hid (jnV (xs.map (·.z)) = r) := hr
  have hnx : n = xs.length := by cases hR with | nil => rfl | some _ _ _ => rfl
  have HNN : Hid (n = xs.length) := hnx
  clear hr hnx
  go_enter Tryz.func24, Tryz.ntmps24
  go_wp2
  go_loopw [4, 5] (fun v i wr => ∃ (j : Nat) (out : List UInt8), j ≤ n ∧ i = .int .i64 j ∧ v = .string ⟨out.toArray⟩ ∧ Below w.heap.size w wr ∧ out.length ≤ 600 * j ∧ Hid (joinF true (xs.map (·.z)) = (joinF (decide (j = 0)) ((xs.map (·.z)).drop j)).map (out ++ ·)))
    (fun _ i _ => n - (intOf i).toNat)
  case atStart => exact ⟨0, [], by omega, rfl, rfl, Below.refl _ _, by simp, (by show _ = _; simp)⟩
  case round =>
    obtain ⟨j, out, hj, rfl, rfl, hb, hol, hh⟩ := hrel
    by_cases hlt : j < n
    · have hlt' : (j : Int) < n := by omega
      obtain ⟨x, hxj⟩ : ∃ x, xs[j]? = some x := ⟨xs[j]'(by rw [← HNN.out]; exact hlt), List.getElem?_eq_getElem _⟩
      have hxo := hx x (List.mem_of_getElem? hxj)
      obtain ⟨g, off, rfl, hg, hc0⟩ := rowT_some hR hxj
      have hcell : ∀ i, i < 7 → ∀ u, (tpL x)[i]? = some u → wr.cell? ⟨g, off + (j * 7 + i), none⟩ = some u := fun i hi u hu => by
        rw [cell_below hb _ _ hg]
        exact hc0 _ _ (by rw [tps_at xs j x hxj i hi]; exact hu)
      obtain ⟨⟨kind, text, val, hex⟩, xo, xl, xc⟩ := x
      have x0 : wr.cell? ⟨g, off + j * 7, none⟩ = some (.int .i64 kind) := hcell 0 (by omega) _ rfl
      have x1 : wr.cell? ⟨g, off + j * 7 + 1, none⟩ = some (.int .i64 xo) := hcell 1 (by omega) _ rfl
      have x2 : wr.cell? ⟨g, off + j * 7 + 2, none⟩ = some (.int .i64 xl) := hcell 2 (by omega) _ rfl
      have x3 : wr.cell? ⟨g, off + j * 7 + 3, none⟩ = some (.int .i64 xc) := hcell 3 (by omega) _ rfl
      have x4 : wr.cell? ⟨g, off + j * 7 + 4, none⟩ = some (.string ⟨text.toArray⟩) := hcell 4 (by omega) _ rfl
      have x5 : wr.cell? ⟨g, off + j * 7 + 5, none⟩ = some (.int .u32 (val : Int)) := hcell 5 (by omega) _ rfl
      have x6 : wr.cell? ⟨g, off + j * 7 + 6, none⟩ = some (.bool hex) := hcell 6 (by omega) _ rfl
      have cs := rSpell_any ⟨kind, text, val, hex⟩ xo xl xc wr hxo
      have hdr : (xs.map (·.z)).drop j = ⟨kind, text, val, hex⟩ :: (xs.map (·.z)).drop (j + 1) := by
        have : (xs.map (·.z))[j]? = some ⟨kind, text, val, hex⟩ := by rw [List.getElem?_map, hxj]; rfl
        obtain ⟨q1, q2⟩ := List.getElem?_eq_some_iff.1 this
        rw [List.drop_eq_getElem_cons q1, q2]
      have hrn : (xs.map (·.z)).drop (j + 1) ≠ [] ↔ j + 1 < n := by
        rw [Ne, List.drop_eq_nil_iff, List.length_map, ← HNN.out]; omega
      have hgr : g < wr.heap.size := Nat.lt_of_lt_of_le hg hb.size
      have HGC : Hid (∀ w2, Below wr.heap.size wr w2 → w2.cell? ⟨g, off + j * 7, none⟩ = some (.int .i64 kind)) := fun w2 h2 => (cell_below h2 _ _ hgr).trans x0
      unfold tzV tzC at cs
      simp only at cs
      clear hcell hxj hc0 hR
      cases hsp : spz ⟨kind, text, val, hex⟩ with
      | none =>
        have HY : Hid (jnV (xs.map (·.z)) = .tuple #[.string ⟨#[]⟩, .int .i64 20]) := by
          have hjn : ∀ f r', joinF f ((⟨kind, text, val, hex⟩ : Tz) :: r') = none := fun f r' => by
            rw [joinF]
            split
            · rfl
            · rw [hsp]
          show jnV _ = _
          unfold jnV
          rw [hh.out, hdr, hjn]
          rfl
        have hsv : spV2 ⟨kind, text, val, hex⟩ = .tuple #[.string ⟨#[]⟩, .int .i64 20] := by unfold spV2; rw [hsp]
        rw [hsv] at cs
        clear hsv hsp hh hdr hrn
        go_wp2_with (first
          | (go_at_call 19; refine cs.mono ?_; rintro e w2 ⟨rfl, hb2⟩))
        go_ret2
        exact ⟨by rw [← HX.out, HY.out]; rfl, hb.trans (hb2.mono hb.size)⟩
      | some b =>
        by_cases hE0 : kind = 0 ∧ j + 1 < n
        · have HY : Hid (jnV (xs.map (·.z)) = .tuple #[.string ⟨#[]⟩, .int .i64 20]) := by
            show jnV _ = _
            unfold jnV
            rw [hh.out, hdr, joinF, if_pos ⟨hE0.1, hrn.2 hE0.2⟩]
            rfl
          obtain ⟨e1, e2⟩ := hE0
          subst e1
          have hsv : spV2 ⟨0, text, val, hex⟩ = .tuple #[.string ⟨b.toArray⟩, .int .i64 0] := by unfold spV2; rw [hsp]
          rw [hsv] at cs
          have e2' : (j : Int) + 1 < n := by omega
          clear hsv hsp hh hdr hrn
          go_wp2_with (first
            | (go_at_call 19; refine cs.mono ?_; rintro e w2 ⟨rfl, hb2⟩; have z0 := HGC.out w2 hb2; have hbw2 := hb.trans (hb2.mono hb.size)))
          go_ret2
          exact ⟨by rw [← HX.out, HY.out]; rfl, hbw2⟩
        · by_cases hk0 : kind = 0
          · subst hk0
            have e2' : ¬ (j : Int) + 1 < n := by omega
            have hbl := spz_len hsp hxo.1
            have hsv : spV2 ⟨0, text, val, hex⟩ = .tuple #[.string ⟨b.toArray⟩, .int .i64 0] := by unfold spV2; rw [hsp]
            rw [hsv] at cs
            have HJ : Hid (joinF true (xs.map (·.z)) = (joinF (decide (j + 1 = 0)) ((xs.map (·.z)).drop (j + 1))).map (((if j = 0 then out else out ++ [32]) ++ b) ++ ·)) := by
              show _ = _
              rw [hh.out, hdr, joinF, if_neg (fun e => hE0 ⟨e.1, hrn.1 e.2⟩), hsp]
              simp only [Option.map_map]
              rw [decide_eq_false (by omega : ¬ j + 1 = 0)]
              congr 1
              funext r
              by_cases h0 : j = 0 <;> simp [h0]
            clear hsv hsp hh hdr hrn hE0
            by_cases hj0 : j = 0
            · have hj0' : ¬ (0 : Int) < j := by omega
              rw [if_pos hj0] at HJ
              have ap := appb out b
              have hw1 : ¬ 9223372036854775807 < out.length + b.length := by omega
              clear hj0
              go_wp2_with (first
                | (go_at_call 19; refine cs.mono ?_; rintro e w2 ⟨rfl, hb2⟩; have z0 := HGC.out w2 hb2; have hbw2 := hb.trans (hb2.mono hb.size)))
              go_roundw
              case rel => exact ⟨j + 1, out ++ b, by omega, by go_num, rfl, hbw2, by simp; omega, HJ.out⟩
              case measure => simp [intOf]; omega
            · have hj0' : (0 : Int) < j := by omega
              rw [if_neg hj0] at HJ
              have ap1 := appl out 32
              have ap := appb (out ++ [32]) b
              have hw1 : ¬ 9223372036854775807 < out.length + 1 := by omega
              have hw2 : ¬ 9223372036854775807 < out.length + 1 + b.length := by omega
              clear hj0
              go_wp2_with (first
                | (go_at_call 19; refine cs.mono ?_; rintro e w2 ⟨rfl, hb2⟩; have z0 := HGC.out w2 hb2; have hbw2 := hb.trans (hb2.mono hb.size)))
              go_roundw
              case rel => exact ⟨j + 1, out ++ [32] ++ b, by omega, by go_num, (by simp), hbw2, by simp; omega, HJ.out⟩
              case measure => simp [intOf]; omega
          · have hk0' : (kind == 0) = false := by rw [beq_eq_false_iff_ne]; exact hk0
            have hbl := spz_len hsp hxo.1
            have hsv : spV2 ⟨kind, text, val, hex⟩ = .tuple #[.string ⟨b.toArray⟩, .int .i64 0] := by unfold spV2; rw [hsp]
            rw [hsv] at cs
            have HJ : Hid (joinF true (xs.map (·.z)) = (joinF (decide (j + 1 = 0)) ((xs.map (·.z)).drop (j + 1))).map (((if j = 0 then out else out ++ [32]) ++ b) ++ ·)) := by
              show _ = _
              rw [hh.out, hdr, joinF, if_neg (fun e => hE0 ⟨e.1, hrn.1 e.2⟩), hsp]
              simp only [Option.map_map]
              rw [decide_eq_false (by omega : ¬ j + 1 = 0)]
              congr 1
              funext r
              by_cases h0 : j = 0 <;> simp [h0]
            clear hsv hsp hh hdr hrn hE0
            by_cases hj0 : j = 0
            · have hj0' : ¬ (0 : Int) < j := by omega
              rw [if_pos hj0] at HJ
              have ap := appb out b
              have hw1 : ¬ 9223372036854775807 < out.length + b.length := by omega
              clear hj0
              go_wp2_with (first
                | (go_at_call 19; refine cs.mono ?_; rintro e w2 ⟨rfl, hb2⟩; have z0 := HGC.out w2 hb2; have hbw2 := hb.trans (hb2.mono hb.size)))
              go_roundw
              case rel => exact ⟨j + 1, out ++ b, by omega, by go_num, rfl, hbw2, by simp; omega, HJ.out⟩
              case measure => simp [intOf]; omega
            · have hj0' : (0 : Int) < j := by omega
              rw [if_neg hj0] at HJ
              have ap1 := appl out 32
              have ap := appb (out ++ [32]) b
              have hw1 : ¬ 9223372036854775807 < out.length + 1 := by omega
              have hw2 : ¬ 9223372036854775807 < out.length + 1 + b.length := by omega
              clear hj0
              go_wp2_with (first
                | (go_at_call 19; refine cs.mono ?_; rintro e w2 ⟨rfl, hb2⟩; have z0 := HGC.out w2 hb2; have hbw2 := hb.trans (hb2.mono hb.size)))
              go_roundw
              case rel => exact ⟨j + 1, out ++ [32] ++ b, by omega, by go_num, (by simp), hbw2, by simp; omega, HJ.out⟩
              case measure => simp [intOf]; omega
    · have hlt' : ¬ (j : Int) < n := by omega
      have HY : Hid (jnV (xs.map (·.z)) = .tuple #[.string ⟨out.toArray⟩, .int .i64 0]) := by
        show jnV _ = _
        unfold jnV
        rw [hh.out, List.drop_eq_nil_of_le (by rw [List.length_map, ← HNN.out]; omega)]
        simp [joinF]
      clear hh
      go_wp2
      go_ret2
      exact ⟨by rw [← HX.out, HY.out]; rfl, hb⟩
end Go.Proofs.YtlbgppijeoonjaaGreatDoor
