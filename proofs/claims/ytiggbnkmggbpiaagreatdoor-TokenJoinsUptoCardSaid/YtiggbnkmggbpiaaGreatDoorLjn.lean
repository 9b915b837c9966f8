import Derived.Test.YtiggbnkmggbpiaaGreatDoorSam
namespace Go.Proofs.YtiggbnkmggbpiaaGreatDoor
open Go.RowKit
set_option linter.unusedVariables false

set_option maxHeartbeats 1000000 in
theorem alike_zero (w : World) (a a' : Option Addr) (cap cap' : Nat) : Calls Tryz.prog 15 #[.slice a 0 cap, .slice a' 0 cap'] w fun e w' => e = .returned (.bool true) ∧ Below w.heap.size w w' := by
  go_enter Tryz.func15, Tryz.ntmps15
  go_wp2
  go_loopw [5] (fun i wr => i = .int .i64 0 ∧ Below w.heap.size w wr) (fun _ _ => 0)
  case atStart => exact ⟨rfl, Below.refl _ _⟩
  case round =>
    obtain ⟨rfl, hb⟩ := hrel
    go_wp2
    go_ret
    exact ⟨rfl, hb⟩
set_option maxHeartbeats 1000000 in
theorem same_zero (w : World) (a a' : Option Addr) (cap cap' : Nat) : Calls Tryz.prog 20 #[.slice a 0 cap, .slice a' 0 cap'] w fun e w' => e = .returned (.bool true) ∧ Below w.heap.size w w' := by
  go_enter Tryz.func20, Tryz.ntmps20
  go_wp2_with (go_at_call 15; refine (alike_zero _ _ _ _ _).mono ?_; rintro e w0 ⟨rfl, hb0⟩)
  go_loopw [5] (fun i wr => i = .int .i64 0 ∧ Below w.heap.size w wr) (fun _ _ => 0)
  case atStart => exact ⟨rfl, hb0⟩
  case round =>
    obtain ⟨rfl, hb⟩ := hrel
    go_wp2
    go_ret
    exact ⟨rfl, hb⟩
theorem one_tps (xs : List Tp) : ∀ u ∈ tpsL xs, u.oneCell' = true := by
  intro u hu
  unfold tpsL at hu
  obtain ⟨x, _, hx⟩ := List.mem_flatMap.1 hu
  exact one7 _ _ _ _ _ _ _ u hx
theorem tps_len (xs : List Tp) : (tpsL xs).length = xs.length * 7 := by
  induction xs with
  | nil => rfl
  | cons x xs ih =>
    have : tpsL (x :: xs) = tpL x ++ tpsL xs := rfl
    rw [this, List.length_append, ih]
    have h7 : (tpL x).length = 7 := rfl
    rw [h7]
    simp
    omega
theorem jnV_any (zs : List Tz) : ∃ (s : ByteArray) (e : Int), jnV zs = .tuple #[.string s, .int .i64 e] := by
  unfold jnV
  split <;> exact ⟨_, _, rfl⟩
set_option maxHeartbeats 4000000 in
set_option maxRecDepth 100000 in
theorem joins_any (B0 : Nat) (p : Nat → Addr) (a : Option Addr) (n cap : Nat) (xs : List Tp) (w : World) (hE : Env B0 p w) (hF : EnvF B0 p w) (hT : EnvT w) (hR : RowT w (.slice a n cap) xs) (hx : ∀ x ∈ xs, TzOk x.z) (hn : xs.length < 16777216) :
    Calls Tryz.prog 8 #[.slice a n cap] w fun e w' => e = .returned (.bool true) ∧ Below w.heap.size w w' := by
  have cal : ∀ W, Below w.heap.size w W → Calls Tryz.prog 12 #[] W fun e w' => e = .returned (.bool true) ∧ Below W.heap.size W w' := fun W hb => alive_any B0 p W (hE.below (hb.mono hE.size)) (hF.below hE (hb.mono hE.size)) (hT.below hb)
  have hnx : n = xs.length := by cases hR with | nil => rfl | some _ _ _ => rfl
  obtain ⟨i0, hi, hz0, hz1, hz2⟩ := info_parts Tryz.info36
  obtain ⟨s1, e1, hse⟩ := jnV_any (xs.map (·.z))
  by_cases h0 : n = 0
  · have hx0 : xs = [] := List.eq_nil_of_length_eq_zero (by omega)
    subst hx0
    subst h0
    clear hnx
    have cr := fun W => rJoin_any a 0 cap [] W .nil hx (by omega)
    have cj := fun W hb => Join_any B0 p (.slice none 0 0) [] W (hE.below ((hb : Below w.heap.size w W).mono hE.size)) (hT.below hb) .nil hx (by decide)
    rw [hse] at cr
    simp only [hse] at cj
    clear hse
    cases a with
    | none =>
      go_enter Tryz.func8, Tryz.ntmps8
      go_wp2_with (first
        | (go_at_call 14; refine (cj _ (Below.refl _ _)).mono ?_; rintro e w1 ⟨rfl, hb1⟩)
        | (go_at_call 19; refine (cr _).mono ?_; rintro e w2 ⟨rfl, hb2⟩; have hbw2 := hb1.trans (hb2.mono hb1.size))
        | (go_at_call 11; refine (num_b _ _).mono ?_; rintro e w3 ⟨rfl, rfl⟩)
        | (go_at_call 20; refine (same_zero _ _ _ _ _).mono ?_; rintro e w4 ⟨rfl, hb4⟩; have hbw4 := hbw2.trans (hb4.mono hbw2.size))
        | (go_at_call 12; refine (cal _ hbw4).mono ?_; rintro e w9 ⟨rfl, hb9⟩))
      go_ret
      exact ⟨rfl, hbw4.trans (hb9.mono hbw4.size)⟩
    | some ad =>
      go_enter Tryz.func8, Tryz.ntmps8
      go_wp2_with (first
        | (go_at_call 14; refine (cj _ (Below.refl _ _)).mono ?_; rintro e w1 ⟨rfl, hb1⟩)
        | (go_at_call 19; refine (cr _).mono ?_; rintro e w2 ⟨rfl, hb2⟩; have hbw2 := hb1.trans (hb2.mono hb1.size))
        | (go_at_call 11; refine (num_b _ _).mono ?_; rintro e w3 ⟨rfl, rfl⟩)
        | (go_at_call 20; refine (same_zero _ _ _ _ _).mono ?_; rintro e w4 ⟨rfl, hb4⟩; have hbw4 := hbw2.trans (hb4.mono hbw2.size))
        | (go_at_call 12; refine (cal _ hbw4).mono ?_; rintro e w9 ⟨rfl, hb9⟩))
      go_ret
      exact ⟨rfl, hbw4.trans (hb9.mono hbw4.size)⟩
  · have hn0 : 0 < n := by omega
    obtain ⟨x0, hx0⟩ : ∃ x, xs[0]? = some x := ⟨xs[0]'(by omega), List.getElem?_eq_getElem _⟩
    obtain ⟨g, off, rfl, hg, hc0⟩ := rowT_some hR hx0
    have hnews : ∀ j u, (tpsL xs)[j]? = some u → w.cell? ((⟨g, off, none⟩ : Addr).add j) = some u := fun j u hj => by
      rw [Lib.add_plain]; exact hc0 j u hj
    have hlen7 : (tpsL xs).length = n * 7 := by rw [tps_len, hnx]
    have hone := one_tps xs
    have hnb : n < 16777216 := by omega
    have HNX : Hid (n = xs.length) := hnx
    clear hnx hc0 hx0 h0
    go_enter Tryz.func8, Tryz.ntmps8
    go_wp2_with (at_builtin; refine wpList_append_own _ rfl (.const (.slice none 0 0)) (.tmp 8) 22 rfl w.heap.size 36 i0 (.agg zero7) 7 56 Tryz.underlying22 hi hz0 hz1 hz2 rfl (by decide) _ 0 [] rfl (World.ownsRow_nil _ _ _ _) ⟨g, off, none⟩ n cap (tpsL xs) rfl hlen7 hnews hone (by unfold maxLen; omega) (by omega) (Nat.le_refl _) ?_)
    intro v1 w1 ho1 hg1 _
    have hb1 : Below w.heap.size w w1 := (Below.refl w.heap.size w).grown hg1 (Nat.le_refl _) (fun k e => by cases e)
    have hR1 := row_own ho1 HNX.out
    obtain ⟨g1, cap1, hv1⟩ : ∃ g cap, v1 = .slice (some ⟨g, 0, none⟩) n cap := by
      rcases ho1.2 with ⟨_, h0⟩ | ⟨g, cap, cur, hv, _⟩
      · omega
      · exact ⟨g, cap, hv⟩
    subst hv1
    have cj := Join_any B0 p _ xs w1 (hE.below (hb1.mono hE.size)) (hT.below hb1) hR1 hx (by omega)
    rw [hse] at cj
    have cr := fun W (hb : Below w.heap.size w W) => rJoin_any (some ⟨g, off, none⟩) n cap xs W (rowT_below hR hb) hx (by omega)
    have cr' : ∀ W, Below w.heap.size w W → Calls Tryz.prog 19 #[.slice (some ⟨g, off, none⟩) n cap] W fun e w' => e = .returned (.tuple #[.string s1, .int .i64 e1]) ∧ Below W.heap.size W w' := fun W hb => by have := cr W hb; rw [hse] at this; exact this
    have csm : ∀ W, Below w1.heap.size w1 W → Below w.heap.size w W → Calls Tryz.prog 20 #[.slice (some ⟨g1, 0, none⟩) n cap1, .slice (some ⟨g, off, none⟩) n cap] W fun e w' => e = .returned (.bool true) ∧ Below W.heap.size W w' := fun W h1 h2 => same_eq W g1 0 cap1 g off cap n xs (rowT_below hR1 h1) (rowT_below hR h2) HNX.out.symm (by omega) hn0
    clear ho1 hg1 cr hse hR hR1 hnews hone hlen7
    go_wp2_with (first
      | (go_at_call 14; refine cj.mono ?_; rintro e w2 ⟨rfl, hb2⟩; have hbw2 := hb1.trans (hb2.mono hb1.size))
      | (go_at_call 19; refine (cr' _ hbw2).mono ?_; rintro e w3 ⟨rfl, hb3⟩; have hbw3 := hbw2.trans (hb3.mono hbw2.size); have hb13 := hb2.trans (hb3.mono hb2.size))
      | (go_at_call 11; refine (num_b _ _).mono ?_; rintro e w5 ⟨rfl, rfl⟩)
      | (go_at_call 20; refine (csm _ hb13 hbw3).mono ?_; rintro e w4 ⟨rfl, hb4⟩; have hbw4 := hbw3.trans (hb4.mono hbw3.size))
      | (go_at_call 12; refine (cal _ hbw4).mono ?_; rintro e w9 ⟨rfl, hb9⟩))
    go_ret
    exact ⟨rfl, hbw4.trans (hb9.mono hbw4.size)⟩
end Go.Proofs.YtiggbnkmggbpiaaGreatDoor
