import Derived.Test.YtiggbnkmggbpiaaGreatDoorRdX
import Derived.Test.YtiggbnkmggbpiaaGreatDoorLbk
namespace Go.Proofs.YtiggbnkmggbpiaaGreatDoor
open Go.RowKit
set_option linter.unusedVariables false

theorem appb (a b : List UInt8) : (⟨a.toArray⟩ : ByteArray) ++ ⟨b.toArray⟩ = ⟨(a ++ b).toArray⟩ := (same_bytes _ _ (by simp [ByteArray.data_append])).symm
set_option maxHeartbeats 4000000 in
set_option maxRecDepth 100000 in
theorem rJoin_any (a : Option Addr) (n cap : Nat) (xs : List Tp) (w : World) (hR : RowT w (.slice a n cap) xs) (hx : ∀ x ∈ xs, TzOk x.z) (hn : n < 4294967296) :
    Calls Tryz.prog 19 #[.slice a n cap] w fun e w' => e = .returned (jnV (xs.map (·.z))) ∧ Below w.heap.size w w' := by
  obtain ⟨r, hr⟩ : ∃ r, jnV (xs.map (·.z)) = r := ⟨_, rfl⟩
  rw [hr]
  have HX : Hid (jnV (xs.map (·.z)) = r) := hr
  have hnx : n = xs.length := by cases hR with | nil => rfl | some _ _ _ => rfl
  have HNN : Hid (n = xs.length) := hnx
  clear hr hnx
  go_enter Tryz.func19, Tryz.ntmps19
  go_wp2
  go_loopw [4, 5] (fun v i wr => ∃ (j : Nat) (out : List UInt8), j ≤ n ∧ i = .int .i64 j ∧ v = .string ⟨out.toArray⟩ ∧ Below w.heap.size w wr ∧ out.length ≤ 600 * j ∧ Hid (joinF true (xs.map (·.z)) = (joinF (decide (j = 0)) ((xs.map (·.z)).drop j)).map (out ++ ·)))
    (fun _ i _ => n - (intOf i).toNat)
  case atStart => exact ⟨0, [], by omega, rfl, rfl, Below.refl _ _, by simp, (by show _ = _; simp)⟩
  case round =>
    obtain ⟨j, out, hj, rfl, rfl, hb, hol, hh⟩ := hrel
    by_cases hlt : j < n
    · have hlt' : (j : Int) < n := by omega
      obtain ⟨x, hxj⟩ : ∃ x, xs[j]? = some x := ⟨xs[j]'(by rw [← HNN.out]; exact hlt), List.getElem?_eq_getElem _⟩
      have hxo := hx x (List.mem_of_getElem? hxj)
      obtain ⟨g, off, rfl, hg, hc0⟩ := rowT_some hR hxj
      have hcell : ∀ i, i < 7 → ∀ u, (tpL x)[i]? = some u → wr.cell? ⟨g, off + (j * 7 + i), none⟩ = some u := fun i hi u hu => by
        rw [cell_below hb _ _ hg]
        exact hc0 _ _ (by rw [tps_at xs j x hxj i hi]; exact hu)
      obtain ⟨⟨kind, text, val, hex⟩, xo, xl, xc⟩ := x
      have x0 : wr.cell? ⟨g, off + j * 7, none⟩ = some (.int .i64 kind) := hcell 0 (by omega) _ rfl
      have x1 : wr.cell? ⟨g, off + j * 7 + 1, none⟩ = some (.int .i64 xo) := hcell 1 (by omega) _ rfl
      have x2 : wr.cell? ⟨g, off + j * 7 + 2, none⟩ = some (.int .i64 xl) := hcell 2 (by omega) _ rfl
      have x3 : wr.cell? ⟨g, off + j * 7 + 3, none⟩ = some (.int .i64 xc) := hcell 3 (by omega) _ rfl
      have x4 : wr.cell? ⟨g, off + j * 7 + 4, none⟩ = some (.string ⟨text.toArray⟩) := hcell 4 (by omega) _ rfl
      have x5 : wr.cell? ⟨g, off + j * 7 + 5, none⟩ = some (.int .u32 (val : Int)) := hcell 5 (by omega) _ rfl
      have x6 : wr.cell? ⟨g, off + j * 7 + 6, none⟩ = some (.bool hex) := hcell 6 (by omega) _ rfl
      have cs := rSpell_any ⟨kind, text, val, hex⟩ xo xl xc wr hxo
      have hdr : (xs.map (·.z)).drop j = ⟨kind, text, val, hex⟩ :: (xs.map (·.z)).drop (j + 1) := by
        have : (xs.map (·.z))[j]? = some ⟨kind, text, val, hex⟩ := by rw [List.getElem?_map, hxj]; rfl
        obtain ⟨q1, q2⟩ := List.getElem?_eq_some_iff.1 this
        rw [List.drop_eq_getElem_cons q1, q2]
      have hrn : (xs.map (·.z)).drop (j + 1) ≠ [] ↔ j + 1 < n := by
        rw [Ne, List.drop_eq_nil_iff, List.length_map, ← HNN.out]; omega
      have hgr : g < wr.heap.size := Nat.lt_of_lt_of_le hg hb.size
      have HGC : Hid (∀ w2, Below wr.heap.size wr w2 → w2.cell? ⟨g, off + j * 7, none⟩ = some (.int .i64 kind)) := fun w2 h2 => (cell_below h2 _ _ hgr).trans x0
      unfold tzV tzC at cs
      simp only at cs
      clear hcell hxj hc0 hR
      cases hsp : spz ⟨kind, text, val, hex⟩ with
      | none =>
        have HY : Hid (jnV (xs.map (·.z)) = .tuple #[.string ⟨#[]⟩, .int .i64 20]) := by
          have hjn : ∀ f r', joinF f ((⟨kind, text, val, hex⟩ : Tz) :: r') = none := fun f r' => by
            rw [joinF]
            split
            · rfl
            · rw [hsp]
          show jnV _ = _
          unfold jnV
          rw [hh.out, hdr, hjn]
          rfl
        have hsv : spV2 ⟨kind, text, val, hex⟩ = .tuple #[.string ⟨#[]⟩, .int .i64 20] := by unfold spV2; rw [hsp]
        rw [hsv] at cs
        clear hsv hsp hh hdr hrn
        go_wp2_with (first
          | (go_at_call 18; refine cs.mono ?_; rintro e w2 ⟨rfl, hb2⟩))
        go_ret2
        exact ⟨by rw [← HX.out, HY.out]; rfl, hb.trans (hb2.mono hb.size)⟩
      | some b =>
        by_cases hE0 : kind = 0 ∧ j + 1 < n
        · have HY : Hid (jnV (xs.map (·.z)) = .tuple #[.string ⟨#[]⟩, .int .i64 20]) := by
            show jnV _ = _
            unfold jnV
            rw [hh.out, hdr, joinF, if_pos ⟨hE0.1, hrn.2 hE0.2⟩]
            rfl
          obtain ⟨e1, e2⟩ := hE0
          subst e1
          have hsv : spV2 ⟨0, text, val, hex⟩ = .tuple #[.string ⟨b.toArray⟩, .int .i64 0] := by unfold spV2; rw [hsp]
          rw [hsv] at cs
          have e2' : (j : Int) + 1 < n := by omega
          clear hsv hsp hh hdr hrn
          go_wp2_with (first
            | (go_at_call 18; refine cs.mono ?_; rintro e w2 ⟨rfl, hb2⟩; have z0 := HGC.out w2 hb2; have hbw2 := hb.trans (hb2.mono hb.size)))
          go_ret2
          exact ⟨by rw [← HX.out, HY.out]; rfl, hbw2⟩
        · by_cases hk0 : kind = 0
          · subst hk0
            have e2' : ¬ (j : Int) + 1 < n := by omega
            have hbl := spz_len hsp hxo.1
            have hsv : spV2 ⟨0, text, val, hex⟩ = .tuple #[.string ⟨b.toArray⟩, .int .i64 0] := by unfold spV2; rw [hsp]
            rw [hsv] at cs
            have HJ : Hid (joinF true (xs.map (·.z)) = (joinF (decide (j + 1 = 0)) ((xs.map (·.z)).drop (j + 1))).map (((if j = 0 then out else out ++ [32]) ++ b) ++ ·)) := by
              show _ = _
              rw [hh.out, hdr, joinF, if_neg (fun e => hE0 ⟨e.1, hrn.1 e.2⟩), hsp]
              simp only [Option.map_map]
              rw [decide_eq_false (by omega : ¬ j + 1 = 0)]
              congr 1
              funext r
              by_cases h0 : j = 0 <;> simp [h0]
            clear hsv hsp hh hdr hrn hE0
            by_cases hj0 : j = 0
            · have hj0' : ¬ (0 : Int) < j := by omega
              rw [if_pos hj0] at HJ
              have ap := appb out b
              have hw1 : ¬ 9223372036854775807 < out.length + b.length := by omega
              clear hj0
              go_wp2_with (first
                | (go_at_call 18; refine cs.mono ?_; rintro e w2 ⟨rfl, hb2⟩; have z0 := HGC.out w2 hb2; have hbw2 := hb.trans (hb2.mono hb.size)))
              go_roundw
              case rel => exact ⟨j + 1, out ++ b, by omega, by go_num, rfl, hbw2, by simp; omega, HJ.out⟩
              case measure => simp [intOf]; omega
            · have hj0' : (0 : Int) < j := by omega
              rw [if_neg hj0] at HJ
              have ap1 := appl out 32
              have ap := appb (out ++ [32]) b
              have hw1 : ¬ 9223372036854775807 < out.length + 1 := by omega
              have hw2 : ¬ 9223372036854775807 < out.length + 1 + b.length := by omega
              clear hj0
              go_wp2_with (first
                | (go_at_call 18; refine cs.mono ?_; rintro e w2 ⟨rfl, hb2⟩; have z0 := HGC.out w2 hb2; have hbw2 := hb.trans (hb2.mono hb.size)))
              go_roundw
              case rel => exact ⟨j + 1, out ++ [32] ++ b, by omega, by go_num, (by simp), hbw2, by simp; omega, HJ.out⟩
              case measure => simp [intOf]; omega
          · have hk0' : (kind == 0) = false := by rw [beq_eq_false_iff_ne]; exact hk0
            have hbl := spz_len hsp hxo.1
            have hsv : spV2 ⟨kind, text, val, hex⟩ = .tuple #[.string ⟨b.toArray⟩, .int .i64 0] := by unfold spV2; rw [hsp]
            rw [hsv] at cs
            have HJ : Hid (joinF true (xs.map (·.z)) = (joinF (decide (j + 1 = 0)) ((xs.map (·.z)).drop (j + 1))).map (((if j = 0 then out else out ++ [32]) ++ b) ++ ·)) := by
              show _ = _
              rw [hh.out, hdr, joinF, if_neg (fun e => hE0 ⟨e.1, hrn.1 e.2⟩), hsp]
              simp only [Option.map_map]
              rw [decide_eq_false (by omega : ¬ j + 1 = 0)]
              congr 1
              funext r
              by_cases h0 : j = 0 <;> simp [h0]
            clear hsv hsp hh hdr hrn hE0
            by_cases hj0 : j = 0
            · have hj0' : ¬ (0 : Int) < j := by omega
              rw [if_pos hj0] at HJ
              have ap := appb out b
              have hw1 : ¬ 9223372036854775807 < out.length + b.length := by omega
              clear hj0
              go_wp2_with (first
                | (go_at_call 18; refine cs.mono ?_; rintro e w2 ⟨rfl, hb2⟩; have z0 := HGC.out w2 hb2; have hbw2 := hb.trans (hb2.mono hb.size)))
              go_roundw
              case rel => exact ⟨j + 1, out ++ b, by omega, by go_num, rfl, hbw2, by simp; omega, HJ.out⟩
              case measure => simp [intOf]; omega
            · have hj0' : (0 : Int) < j := by omega
              rw [if_neg hj0] at HJ
              have ap1 := appl out 32
              have ap := appb (out ++ [32]) b
              have hw1 : ¬ 9223372036854775807 < out.length + 1 := by omega
              have hw2 : ¬ 9223372036854775807 < out.length + 1 + b.length := by omega
              clear hj0
              go_wp2_with (first
                | (go_at_call 18; refine cs.mono ?_; rintro e w2 ⟨rfl, hb2⟩; have z0 := HGC.out w2 hb2; have hbw2 := hb.trans (hb2.mono hb.size)))
              go_roundw
              case rel => exact ⟨j + 1, out ++ [32] ++ b, by omega, by go_num, (by simp), hbw2, by simp; omega, HJ.out⟩
              case measure => simp [intOf]; omega
    · have hlt' : ¬ (j : Int) < n := by omega
      have HY : Hid (jnV (xs.map (·.z)) = .tuple #[.string ⟨out.toArray⟩, .int .i64 0]) := by
        show jnV _ = _
        unfold jnV
        rw [hh.out, List.drop_eq_nil_of_le (by rw [List.length_map, ← HNN.out]; omega)]
        simp [joinF]
      clear hh
      go_wp2
      go_ret2
      exact ⟨by rw [← HX.out, HY.out]; rfl, hb⟩
end Go.Proofs.YtiggbnkmggbpiaaGreatDoor
namespace Go.Proofs.YtiggbnkmggbpiaaGreatDoor
open Go.RowKit
set_option linter.unusedVariables false

set_option maxHeartbeats 4000000 in
set_option maxRecDepth 100000 in
theorem same_eq (w : World) (g off cap g' off' cap' n : Nat) (xs : List Tp) (hR : RowT w (.slice (some ⟨g, off, none⟩) n cap) xs) (hR' : RowT w (.slice (some ⟨g', off', none⟩) n cap') xs) (hx : xs.length = n) (hn : n < 4294967296) (hn0 : 0 < n) :
    Calls Tryz.prog 20 #[.slice (some ⟨g, off, none⟩) n cap, .slice (some ⟨g', off', none⟩) n cap'] w fun e w' => e = .returned (.bool true) ∧ Below w.heap.size w w' := by
  have hg : g < w.heap.size := by cases hR with | nil => omega | some h _ _ => exact h
  have hg' : g' < w.heap.size := by cases hR' with | nil => omega | some h _ _ => exact h
  have ck := alike_eq w g off cap g' off' cap' n xs xs hR hR' rfl hx hn hn0
  have HX : Hid (xs.length = n) := hx
  clear hx
  go_enter Tryz.func20, Tryz.ntmps20
  go_wp2_with (go_at_call 15; refine ck.mono ?_; rintro e w0 ⟨rfl, hb0⟩)
  go_loopw [5] (fun i wr => ∃ j : Nat, j ≤ n ∧ i = .int .i64 j ∧ Below w.heap.size w wr) (fun i _ => n - (intOf i).toNat)
  case atStart => exact ⟨0, by omega, rfl, hb0⟩
  case round =>
    obtain ⟨j, hj, rfl, hb⟩ := hrel
    by_cases hlt : j < n
    · have hlt' : (j : Int) < n := by omega
      obtain ⟨x, hxj⟩ : ∃ x, xs[j]? = some x := ⟨xs[j]'(by rw [HX.out]; exact hlt), List.getElem?_eq_getElem _⟩
      have hc : ∀ i, i < 7 → ∀ u, (tpL x)[i]? = some u → wr.cell? ⟨g, off + (j * 7 + i), none⟩ = some u := fun i hi u hu => by
        rw [cell_below hb _ _ hg]
        exact rowT_at hR _ _ (by rw [tps_at xs j x hxj i hi]; exact hu)
      have hc' : ∀ i, i < 7 → ∀ u, (tpL x)[i]? = some u → wr.cell? ⟨g', off' + (j * 7 + i), none⟩ = some u := fun i hi u hu => by
        rw [cell_below hb _ _ hg']
        exact rowT_at hR' _ _ (by rw [tps_at xs j x hxj i hi]; exact hu)
      obtain ⟨⟨kind, text, val, hex⟩, xo, xl, xc⟩ := x
      have x1 : wr.cell? ⟨g, off + j * 7 + 1, none⟩ = some (.int .i64 xo) := hc 1 (by omega) _ rfl
      have x2 : wr.cell? ⟨g, off + j * 7 + 2, none⟩ = some (.int .i64 xl) := hc 2 (by omega) _ rfl
      have x3 : wr.cell? ⟨g, off + j * 7 + 3, none⟩ = some (.int .i64 xc) := hc 3 (by omega) _ rfl
      have y1 : wr.cell? ⟨g', off' + j * 7 + 1, none⟩ = some (.int .i64 xo) := hc' 1 (by omega) _ rfl
      have y2 : wr.cell? ⟨g', off' + j * 7 + 2, none⟩ = some (.int .i64 xl) := hc' 2 (by omega) _ rfl
      have y3 : wr.cell? ⟨g', off' + j * 7 + 3, none⟩ = some (.int .i64 xc) := hc' 3 (by omega) _ rfl
      clear hc hc' hxj hR hR' ck
      go_wp2
      first
        | (go_quiet (fail)
           have hbq := below_drewN hb nq
           generalize (wr.drewN nq) = w6 at *
           go_wp2
           go_roundw
           case rel => exact ⟨j + 1, by omega, by go_num, hbq⟩
           case measure => simp [intOf]; omega)
        | (go_roundw
           case rel => exact ⟨j + 1, by omega, by go_num, hb⟩
           case measure => simp [intOf]; omega)
    · have hlt' : ¬ (j : Int) < n := by omega
      go_wp2
      go_ret
      exact ⟨rfl, hb⟩
end Go.Proofs.YtiggbnkmggbpiaaGreatDoor
namespace Go.Proofs.YtiggbnkmggbpiaaGreatDoor
open Go.RowKit
set_option linter.unusedVariables false

set_option maxHeartbeats 1000000 in
theorem alike_zero (w : World) (a a' : Option Addr) (cap cap' : Nat) : Calls Tryz.prog 15 #[.slice a 0 cap, .slice a' 0 cap'] w fun e w' => e = .returned (.bool true) ∧ Below w.heap.size w w' := by
  go_enter Tryz.func15, Tryz.ntmps15
  go_wp2
  go_loopw [5] (fun i wr => i = .int .i64 0 ∧ Below w.heap.size w wr) (fun _ _ => 0)
  case atStart => exact ⟨rfl, Below.refl _ _⟩
  case round =>
    obtain ⟨rfl, hb⟩ := hrel
    go_wp2
    go_ret
    exact ⟨rfl, hb⟩
set_option maxHeartbeats 1000000 in
theorem same_zero (w : World) (a a' : Option Addr) (cap cap' : Nat) : Calls Tryz.prog 20 #[.slice a 0 cap, .slice a' 0 cap'] w fun e w' => e = .returned (.bool true) ∧ Below w.heap.size w w' := by
  go_enter Tryz.func20, Tryz.ntmps20
  go_wp2_with (go_at_call 15; refine (alike_zero _ _ _ _ _).mono ?_; rintro e w0 ⟨rfl, hb0⟩)
  go_loopw [5] (fun i wr => i = .int .i64 0 ∧ Below w.heap.size w wr) (fun _ _ => 0)
  case atStart => exact ⟨rfl, hb0⟩
  case round =>
    obtain ⟨rfl, hb⟩ := hrel
    go_wp2
    go_ret
    exact ⟨rfl, hb⟩
theorem one_tps (xs : List Tp) : ∀ u ∈ tpsL xs, u.oneCell' = true := by
  intro u hu
  unfold tpsL at hu
  obtain ⟨x, _, hx⟩ := List.mem_flatMap.1 hu
  exact one7 _ _ _ _ _ _ _ u hx
theorem tps_len (xs : List Tp) : (tpsL xs).length = xs.length * 7 := by
  induction xs with
  | nil => rfl
  | cons x xs ih =>
    have : tpsL (x :: xs) = tpL x ++ tpsL xs := rfl
    rw [this, List.length_append, ih]
    have h7 : (tpL x).length = 7 := rfl
    rw [h7]
    simp
    omega
theorem jnV_any (zs : List Tz) : ∃ (s : ByteArray) (e : Int), jnV zs = .tuple #[.string s, .int .i64 e] := by
  unfold jnV
  split <;> exact ⟨_, _, rfl⟩
set_option maxHeartbeats 4000000 in
set_option maxRecDepth 100000 in
theorem joins_any (B0 : Nat) (p : Nat → Addr) (a : Option Addr) (n cap : Nat) (xs : List Tp) (w : World) (hE : Env B0 p w) (hF : EnvF B0 p w) (hT : EnvT w) (hR : RowT w (.slice a n cap) xs) (hx : ∀ x ∈ xs, TzOk x.z) (hn : xs.length < 16777216) :
    Calls Tryz.prog 8 #[.slice a n cap] w fun e w' => e = .returned (.bool true) ∧ Below w.heap.size w w' := by
  have cal : ∀ W, Below w.heap.size w W → Calls Tryz.prog 12 #[] W fun e w' => e = .returned (.bool true) ∧ Below W.heap.size W w' := fun W hb => alive_any B0 p W (hE.below (hb.mono hE.size)) (hF.below hE (hb.mono hE.size)) (hT.below hb)
  have hnx : n = xs.length := by cases hR with | nil => rfl | some _ _ _ => rfl
  obtain ⟨i0, hi, hz0, hz1, hz2⟩ := info_parts Tryz.info36
  obtain ⟨s1, e1, hse⟩ := jnV_any (xs.map (·.z))
  by_cases h0 : n = 0
  · have hx0 : xs = [] := List.eq_nil_of_length_eq_zero (by omega)
    subst hx0
    subst h0
    clear hnx
    have cr := fun W => rJoin_any a 0 cap [] W .nil hx (by omega)
    have cj := fun W hb => Join_any B0 p (.slice none 0 0) [] W (hE.below ((hb : Below w.heap.size w W).mono hE.size)) (hT.below hb) .nil hx (by decide)
    rw [hse] at cr
    simp only [hse] at cj
    clear hse
    cases a with
    | none =>
      go_enter Tryz.func8, Tryz.ntmps8
      go_wp2_with (first
        | (go_at_call 14; refine (cj _ (Below.refl _ _)).mono ?_; rintro e w1 ⟨rfl, hb1⟩)
        | (go_at_call 19; refine (cr _).mono ?_; rintro e w2 ⟨rfl, hb2⟩; have hbw2 := hb1.trans (hb2.mono hb1.size))
        | (go_at_call 11; refine (num_b _ _).mono ?_; rintro e w3 ⟨rfl, rfl⟩)
        | (go_at_call 20; refine (same_zero _ _ _ _ _).mono ?_; rintro e w4 ⟨rfl, hb4⟩; have hbw4 := hbw2.trans (hb4.mono hbw2.size))
        | (go_at_call 12; refine (cal _ hbw4).mono ?_; rintro e w9 ⟨rfl, hb9⟩))
      go_ret
      exact ⟨rfl, hbw4.trans (hb9.mono hbw4.size)⟩
    | some ad =>
      go_enter Tryz.func8, Tryz.ntmps8
      go_wp2_with (first
        | (go_at_call 14; refine (cj _ (Below.refl _ _)).mono ?_; rintro e w1 ⟨rfl, hb1⟩)
        | (go_at_call 19; refine (cr _).mono ?_; rintro e w2 ⟨rfl, hb2⟩; have hbw2 := hb1.trans (hb2.mono hb1.size))
        | (go_at_call 11; refine (num_b _ _).mono ?_; rintro e w3 ⟨rfl, rfl⟩)
        | (go_at_call 20; refine (same_zero _ _ _ _ _).mono ?_; rintro e w4 ⟨rfl, hb4⟩; have hbw4 := hbw2.trans (hb4.mono hbw2.size))
        | (go_at_call 12; refine (cal _ hbw4).mono ?_; rintro e w9 ⟨rfl, hb9⟩))
      go_ret
      exact ⟨rfl, hbw4.trans (hb9.mono hbw4.size)⟩
  · have hn0 : 0 < n := by omega
    obtain ⟨x0, hx0⟩ : ∃ x, xs[0]? = some x := ⟨xs[0]'(by omega), List.getElem?_eq_getElem _⟩
    obtain ⟨g, off, rfl, hg, hc0⟩ := rowT_some hR hx0
    have hnews : ∀ j u, (tpsL xs)[j]? = some u → w.cell? ((⟨g, off, none⟩ : Addr).add j) = some u := fun j u hj => by
      rw [Lib.add_plain]; exact hc0 j u hj
    have hlen7 : (tpsL xs).length = n * 7 := by rw [tps_len, hnx]
    have hone := one_tps xs
    have hnb : n < 16777216 := by omega
    have HNX : Hid (n = xs.length) := hnx
    clear hnx hc0 hx0 h0
    go_enter Tryz.func8, Tryz.ntmps8
    go_wp2_with (at_builtin; refine wpList_append_own _ rfl (.const (.slice none 0 0)) (.tmp 8) 22 rfl w.heap.size 36 i0 (.agg zero7) 7 56 Tryz.underlying22 hi hz0 hz1 hz2 rfl (by decide) _ 0 [] rfl (World.ownsRow_nil _ _ _ _) ⟨g, off, none⟩ n cap (tpsL xs) rfl hlen7 hnews hone (by unfold maxLen; omega) (by omega) (Nat.le_refl _) ?_)
    intro v1 w1 ho1 hg1 _
    have hb1 : Below w.heap.size w w1 := (Below.refl w.heap.size w).grown hg1 (Nat.le_refl _) (fun k e => by cases e)
    have hR1 := row_own ho1 HNX.out
    obtain ⟨g1, cap1, hv1⟩ : ∃ g cap, v1 = .slice (some ⟨g, 0, none⟩) n cap := by
      rcases ho1.2 with ⟨_, h0⟩ | ⟨g, cap, cur, hv, _⟩
      · omega
      · exact ⟨g, cap, hv⟩
    subst hv1
    have cj := Join_any B0 p _ xs w1 (hE.below (hb1.mono hE.size)) (hT.below hb1) hR1 hx (by omega)
    rw [hse] at cj
    have cr := fun W (hb : Below w.heap.size w W) => rJoin_any (some ⟨g, off, none⟩) n cap xs W (rowT_below hR hb) hx (by omega)
    have cr' : ∀ W, Below w.heap.size w W → Calls Tryz.prog 19 #[.slice (some ⟨g, off, none⟩) n cap] W fun e w' => e = .returned (.tuple #[.string s1, .int .i64 e1]) ∧ Below W.heap.size W w' := fun W hb => by have := cr W hb; rw [hse] at this; exact this
    have csm : ∀ W, Below w1.heap.size w1 W → Below w.heap.size w W → Calls Tryz.prog 20 #[.slice (some ⟨g1, 0, none⟩) n cap1, .slice (some ⟨g, off, none⟩) n cap] W fun e w' => e = .returned (.bool true) ∧ Below W.heap.size W w' := fun W h1 h2 => same_eq W g1 0 cap1 g off cap n xs (rowT_below hR1 h1) (rowT_below hR h2) HNX.out.symm (by omega) hn0
    clear ho1 hg1 cr hse hR hR1 hnews hone hlen7
    go_wp2_with (first
      | (go_at_call 14; refine cj.mono ?_; rintro e w2 ⟨rfl, hb2⟩; have hbw2 := hb1.trans (hb2.mono hb1.size))
      | (go_at_call 19; refine (cr' _ hbw2).mono ?_; rintro e w3 ⟨rfl, hb3⟩; have hbw3 := hbw2.trans (hb3.mono hbw2.size); have hb13 := hb2.trans (hb3.mono hb2.size))
      | (go_at_call 11; refine (num_b _ _).mono ?_; rintro e w5 ⟨rfl, rfl⟩)
      | (go_at_call 20; refine (csm _ hb13 hbw3).mono ?_; rintro e w4 ⟨rfl, hb4⟩; have hbw4 := hbw3.trans (hb4.mono hbw3.size))
      | (go_at_call 12; refine (cal _ hbw4).mono ?_; rintro e w9 ⟨rfl, hb9⟩))
    go_ret
    exact ⟨rfl, hbw4.trans (hb9.mono hbw4.size)⟩
end Go.Proofs.YtiggbnkmggbpiaaGreatDoor
