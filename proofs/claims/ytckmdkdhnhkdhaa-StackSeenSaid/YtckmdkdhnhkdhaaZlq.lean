import Derived.Test.YtckmdkdhnhkdhaaZlp
namespace Go.Proofs.Ytckmdkdhnhkdhaa
open Go.RowKit
set_option linter.unusedVariables false
set_option linter.unusedSimpArgs false

/-! ### StackApart -/
theorem Pb.vn {w : World} {B g D : Nat} {v v' : Value} {x : Nat} (h : Pb B g D v' x) (hv : Vn w v v') : Pb B g D v x ∨ w.heap.size ≤ x := by
  rcases h with e | e | e
  · exact .inl (.inl e)
  · exact .inl (.inr (.inl e))
  · rcases hv x e with e1 | e1
    · exact .inl (.inr (.inr e1))
    · exact .inr e1
/-- Two pairs, apart. -/
structure Tw (W wr : World) (B1 g1 D1 B2 g2 D2 n hi1 hi2 : Nat) (v1 v2 : Value) (l1 l2 : List Int) : Prop where
  p : Pr wr B1 g1 D1 n hi1 v1 l1
  q : Pr wr B2 g2 D2 n hi2 v2 l2
  b : Below W.heap.size W wr
  k : ∀ x, Pb B1 g1 D1 v1 x ∨ Pb B2 g2 D2 v2 x → W.heap.size ≤ x
  ne : ∀ x, Pb B1 g1 D1 v1 x → ¬ Pb B2 g2 D2 v2 x
section
variable {W wr w' : World} {B1 g1 D1 B2 g2 D2 n hi1 hi2 : Nat} {v1 v2 : Value} {l1 l2 : List Int}
theorem Tw.below (h : Tw W wr B1 g1 D1 B2 g2 D2 n hi1 hi2 v1 v2 l1 l2) (hb : Below wr.heap.size wr w') : Tw W w' B1 g1 D1 B2 g2 D2 n hi1 hi2 v1 v2 l1 l2 :=
  ⟨h.p.below hb, h.q.below hb, h.b.trans (hb.mono h.b.size), h.k, h.ne⟩
theorem Tw.one (h : Tw W wr B1 g1 D1 B2 g2 D2 n hi1 hi2 v1 v2 l1 l2) (hp : PlayP wr B1 g1 D1 n v1 w') : ∃ hi v l, Tw W w' B1 g1 D1 B2 g2 D2 n hi hi2 v v2 l l2 := by
  obtain ⟨hi, v, l, h1, h2, h3⟩ := hp
  have hs := h.b.size
  refine ⟨hi, v, l, h1, h.q.keptZ h3 (fun b hb e => h.ne b e hb), h.b.trans (h3.below h.b.size (fun x hx => h.k x (.inl hx))), fun x hx => ?_, fun x hx hy => ?_⟩
  · rcases hx with e | e
    · rcases e.vn h2 with e | e
      · exact h.k x (.inl e)
      · omega
    · exact h.k x (.inr e)
  · rcases hx.vn h2 with e | e
    · exact h.ne x e hy
    · have := h.q.lt x hy; omega
theorem Tw.two (h : Tw W wr B1 g1 D1 B2 g2 D2 n hi1 hi2 v1 v2 l1 l2) (hp : PlayP wr B2 g2 D2 n v2 w') : ∃ hi v l, Tw W w' B1 g1 D1 B2 g2 D2 n hi1 hi v1 v l1 l := by
  obtain ⟨hi, v, l, h1, h2, h3⟩ := hp
  have hs := h.b.size
  refine ⟨hi, v, l, h.p.keptZ h3 (fun b hb e => h.ne b hb e), h1, h.b.trans (h3.below h.b.size (fun x hx => h.k x (.inr hx))), fun x hx => ?_, fun x hx hy => ?_⟩
  · rcases hx with e | e
    · exact h.k x (.inl e)
    · rcases e.vn h2 with e | e
      · exact h.k x (.inr e)
      · omega
  · rcases hy.vn h2 with e | e
    · exact h.ne x hx e
    · have := h.p.lt x hx; omega
/-- another pair, laid since, in place of the second -/
theorem Tw.swap (h : Tw W wr B1 g1 D1 B2 g2 D2 n hi1 hi2 v1 v2 l1 l2) {w1 : World} {B3 g3 D3 : Nat} {v3 : Value} (b1 : Below wr.heap.size wr w1) (hq : iQ w1 B3 g3 n hi1 l1) (hB : wr.heap.size ≤ B3) (hg : wr.heap.size ≤ g3) (b2 : Below w1.heap.size w1 w') (hd : Ds w' D3 n hi1 v3 l1) (hk : ∀ b, Db D3 v3 b → w1.heap.size ≤ b) : Tw W w' B1 g1 D1 B3 g3 D3 n hi1 hi1 v1 v3 l1 l1 := by
  have hb := b1.trans (b2.mono b1.size)
  have hl3 := hq.lts
  have hs := h.b.size
  have hs1 := b1.size
  have hn : ∀ x, Pb B3 g3 D3 v3 x → wr.heap.size ≤ x := fun x hx => by
    rcases hx with (e | e) | e
    · omega
    · omega
    · have := hk x e; omega
  refine ⟨h.p.below hb, ⟨hq.below b2, hd, fun b e => by have := hk b e; omega⟩, h.b.trans (hb.mono h.b.size), fun x hx => ?_, fun x hx hy => ?_⟩
  · rcases hx with e | e
    · exact h.k x (.inl e)
    · have := hn x e; omega
  · have := h.p.lt x hx
    have := hn x hy
    omega
end
set_option maxHeartbeats 8000000 in
set_option maxRecDepth 100000 in
theorem apart_any (W : World) (n : Nat) (hn : n < 256) (s1 : Sl) (aa : List (Int × Int)) (h1 : RowsAt W 2 actP s1 aa) (hl1 : aa.length ≤ 17592186043904) (s2 : Sl) (bs : List (Int × Int)) (h2 : RowsAt W 2 actP s2 bs) (hl2 : bs.length ≤ 17592186043904) : Calls Try.prog 8 #[.int .u8 n, .slice s1.a s1.n s1.c, .slice s2.a s2.n s2.c] W fun e w' => e = .returned (.bool true) ∧ Below W.heap.size W w' := by
  obtain ⟨a1, n1, c1⟩ := s1
  obtain ⟨a2, n2, c2⟩ := s2
  have hn1 := h1.n
  have hn2 := h2.n
  simp only at hn1 hn2
  subst hn1
  subst hn2
  have N1 := iNewQ W n (by omega)
  go_enter Try.func8, Try.ntmps8
  go_wp2_with (first
    | (go_at_call 9; refine N1.mono ?_; clear N1; rintro e w1 ⟨rfl, hq1, b1⟩; have N2 := iNewQ w1 n (by omega))
    | (go_at_call 9; refine N2.mono ?_; clear N2; rintro e w2 ⟨rfl, hq2, b2⟩; have N3 := dNew_ok w2 n (by omega))
    | (go_at_call 18; refine N3.mono ?_; clear N3; rintro e w3 ⟨rfl, hd3, b3⟩; have N4 := dNew_ok w3 n (by omega))
    | (go_at_call 18; refine N4.mono ?_; clear N4; rintro e w4 ⟨rfl, hd4, b4⟩))
  have HT : Hid (Tw W w4 (W.heap.size + 1) W.heap.size w2.heap.size (w1.heap.size + 1) w1.heap.size w3.heap.size n 0 0 (.slice none 0 0) (.slice none 0 0) [] []) := by
    have l1 := hq1.lts
    have l2 := hq2.lts
    have l3 := heap_lt hd3.o
    have l4 := heap_lt hd4.o
    have t1 := b1.size
    have t2 := b2.size
    have t3 := b3.size
    have t4 := b4.size
    have bb := b2.trans ((b3.mono b2.size).trans (b4.mono (by omega)))
    refine ⟨Pr.new (hq1.below bb) (hd3.below b4) (fun b e => by cases e), Pr.new (hq2.below (b3.trans (b4.mono b3.size))) hd4 (fun b e => by cases e), b1.trans (bb.mono b1.size), fun x hx => ?_, fun x h1 h2 => ?_⟩
    · rcases hx with ((e | e) | e | e) | ((e | e) | e | e)
      all_goals first | omega | (cases e; done)
    · rcases h1 with (e | e) | e | e <;> rcases h2 with (e2 | e2) | e2 | e2
      all_goals first | omega | (cases e; done) | (cases e2; done)
  clear hq1 hq2 hd3 hd4 b1 b2 b3 b4
  go_loopw [15] (fun vi wr => ∃ (i hi1 hi2 : Nat) (v1 v2 : Value) (l1 l2 : List Int), i ≤ max aa.length bs.length ∧ vi = .int .i64 i ∧ Hid (Tw W wr (W.heap.size + 1) W.heap.size w2.heap.size (w1.heap.size + 1) w1.heap.size w3.heap.size n hi1 hi2 v1 v2 l1 l2)) (fun vi _ => max aa.length bs.length - (intOf vi).toNat)
  case atStart => exact ⟨0, _, _, _, _, _, _, by omega, rfl, HT.out⟩
  case round =>
    clear HT
    obtain ⟨i, hi1, hi2, v1, v2, l1, l2, hi9, rfl, HT⟩ := hrel
    by_cases ha : i < aa.length
    · obtain ⟨⟨kd, vv⟩, hx⟩ : ∃ x, aa[i]? = some x := ⟨_, List.getElem?_eq_getElem ha⟩
      have haI : (i : Int) < aa.length := by omega
      obtain ⟨ga, off, rfl, hcx⟩ := acts_cell h1 hx
      have HX : Hid (∀ Z, Below W.heap.size W Z → Z.cell? ⟨ga, off + i * 2, none⟩ = some (I kd) ∧ Z.cell? ⟨ga, off + i * 2 + 1, none⟩ = some (I vv)) := hcx
      clear hcx hx
      obtain ⟨x0, x1⟩ := HX.out wr HT.out.b
      by_cases hb : i < bs.length
      · obtain ⟨⟨ke, ve⟩, hy⟩ : ∃ x, bs[i]? = some x := ⟨_, List.getElem?_eq_getElem hb⟩
        have hbI : (i : Int) < bs.length := by omega
        obtain ⟨gb, ofb, rfl, hcy⟩ := acts_cell h2 hy
        have HY : Hid (∀ Z, Below W.heap.size W Z → Z.cell? ⟨gb, ofb + i * 2, none⟩ = some (I ke) ∧ Z.cell? ⟨gb, ofb + i * 2 + 1, none⟩ = some (I ve)) := hcy
        clear hcy hy
        have T0 := HT.out
        clear HT
        go_wp2_with (first
            | (go_at_call 26; refine (play_any T0.p kd vv).mono ?_; rintro e w5 ⟨rfl, hp5⟩; obtain ⟨hi5, v5, l5, T1⟩ := T0.one hp5; clear T0 hp5 x0 x1; obtain ⟨y0, y1⟩ := HY.out w5 T1.b)
            | (go_at_call 26; refine (play_any T1.q ke ve).mono ?_; rintro e w6 ⟨rfl, hp6⟩; obtain ⟨hi6, v6, l6, T2⟩ := T1.two hp6; clear T1 hp6 y0 y1)
            | (go_at_call 32; refine (told_any _ _ _ _ _ _ _ _ T2.p).mono ?_; rintro e w7 ⟨rfl, b7⟩; have T3 := T2.below b7; clear T2 b7)
            | (go_at_call 32; refine (told_any _ _ _ _ _ _ _ _ T3.q).mono ?_; rintro e w8 ⟨rfl, b8⟩; have HT9 : Hid (Tw W w8 (W.heap.size + 1) W.heap.size w2.heap.size (w1.heap.size + 1) w1.heap.size w3.heap.size n hi5 hi6 v5 v6 l5 l6) := T3.below b8; clear T3 b8))
        go_roundw
        case rel => exact ⟨i + 1, _, _, _, _, _, _, by omega, by go_num, HT9.out⟩
        case measure => simp [intOf]; omega
      · have hbI : ¬ (i : Int) < bs.length := by omega
        have T0 := HT.out
        clear HT
        go_wp2_with (first
            | (go_at_call 26; refine (play_any T0.p kd vv).mono ?_; rintro e w5 ⟨rfl, hp5⟩; obtain ⟨hi5, v5, l5, T1⟩ := T0.one hp5; clear T0 hp5 x0 x1; have T2 := T1; clear T1)
            | (go_at_call 32; refine (told_any _ _ _ _ _ _ _ _ T2.p).mono ?_; rintro e w7 ⟨rfl, b7⟩; have T3 := T2.below b7; clear T2 b7)
            | (go_at_call 32; refine (told_any _ _ _ _ _ _ _ _ T3.q).mono ?_; rintro e w8 ⟨rfl, b8⟩; have HT9 : Hid (Tw W w8 (W.heap.size + 1) W.heap.size w2.heap.size (w1.heap.size + 1) w1.heap.size w3.heap.size n hi5 hi2 v5 v2 l5 l2) := T3.below b8; clear T3 b8))
        go_roundw
        case rel => exact ⟨i + 1, _, _, _, _, _, _, by omega, by go_num, HT9.out⟩
        case measure => simp [intOf]; omega
    · have haI : ¬ (i : Int) < aa.length := by omega
      by_cases hb : i < bs.length
      · obtain ⟨⟨ke, ve⟩, hy⟩ : ∃ x, bs[i]? = some x := ⟨_, List.getElem?_eq_getElem hb⟩
        have hbI : (i : Int) < bs.length := by omega
        obtain ⟨gb, ofb, rfl, hcy⟩ := acts_cell h2 hy
        have HY : Hid (∀ Z, Below W.heap.size W Z → Z.cell? ⟨gb, ofb + i * 2, none⟩ = some (I ke) ∧ Z.cell? ⟨gb, ofb + i * 2 + 1, none⟩ = some (I ve)) := hcy
        clear hcy hy
        obtain ⟨y0, y1⟩ := HY.out wr HT.out.b
        have T1 := HT.out
        clear HT
        go_wp2_with (first
            | (go_at_call 26; refine (play_any T1.q ke ve).mono ?_; rintro e w6 ⟨rfl, hp6⟩; obtain ⟨hi6, v6, l6, T2⟩ := T1.two hp6; clear T1 hp6 y0 y1)
            | (go_at_call 32; refine (told_any _ _ _ _ _ _ _ _ T2.p).mono ?_; rintro e w7 ⟨rfl, b7⟩; have T3 := T2.below b7; clear T2 b7)
            | (go_at_call 32; refine (told_any _ _ _ _ _ _ _ _ T3.q).mono ?_; rintro e w8 ⟨rfl, b8⟩; have HT9 : Hid (Tw W w8 (W.heap.size + 1) W.heap.size w2.heap.size (w1.heap.size + 1) w1.heap.size w3.heap.size n hi1 hi6 v1 v6 l1 l6) := T3.below b8; clear T3 b8))
        go_roundw
        case rel => exact ⟨i + 1, _, _, _, _, _, _, by omega, by go_num, HT9.out⟩
        case measure => simp [intOf]; omega
      · have hbI : ¬ (i : Int) < bs.length := by omega
        have T4 := HT.out
        have hdv := T4.p.d
        go_wp2_with (first
          | (go_at_call 30; refine (iCopyQ T4.p.q).mono ?_; rintro e w5 ⟨B3, g3, rfl, hq5, hB5, hg5, b5⟩; have D5 := dCopy_any (hdv.below b5))
          | (go_at_call 33; refine D5.mono ?_; clear D5; rintro e w6 ⟨D3, rfl, v6, hd6, hk6, b6⟩; have HT6 : Hid (Tw W w6 (W.heap.size + 1) W.heap.size w2.heap.size B3 g3 D3 n hi1 hi1 v1 v6 l1 l1) := T4.swap b5 hq5 hB5 hg5 b6 hd6 hk6; clear HT T4 hdv hq5 hB5 hg5 b5 hd6 hk6 b6))
        clear hi9 ha hb haI hbI
        go_loopw [18] (fun vi wr => ∃ (j hi1 hi3 : Nat) (v1 v3 : Value) (l1 l3 : List Int), j ≤ bs.length ∧ vi = .int .i64 j ∧ Hid (Tw W wr (W.heap.size + 1) W.heap.size w2.heap.size B3 g3 D3 n hi1 hi3 v1 v3 l1 l3)) (fun vi _ => bs.length - (intOf vi).toNat)
        case atStart => exact ⟨0, _, _, _, _, _, _, by omega, rfl, HT6.out⟩
        case round =>
          clear HT6
          obtain ⟨j, hj1, hj3, v1, v3, l1, l3, hj9, rfl, HT⟩ := hrel
          by_cases hb : j < bs.length
          · obtain ⟨⟨ke, ve⟩, hy⟩ : ∃ x, bs[j]? = some x := ⟨_, List.getElem?_eq_getElem hb⟩
            have hbI : (j : Int) < bs.length := by omega
            obtain ⟨gb, ofb, rfl, hcy⟩ := acts_cell h2 hy
            obtain ⟨y0, y1⟩ := hcy wr HT.out.b
            clear hcy hy
            have T1 := HT.out
            clear HT
            go_wp2_with (first
              | (go_at_call 26; refine (play_any T1.q ke ve).mono ?_; rintro e w7 ⟨rfl, hp7⟩; obtain ⟨hi7, v7, l7, T2⟩ := T1.two hp7; clear T1 hp7 y0 y1)
              | (go_at_call 32; refine (told_any _ _ _ _ _ _ _ _ T2.p).mono ?_; rintro e w8 ⟨rfl, b8⟩; have T3 := T2.below b8; clear T2 b8)
              | (go_at_call 32; refine (told_any _ _ _ _ _ _ _ _ T3.q).mono ?_; rintro e w9 ⟨rfl, b9⟩; have HT9 : Hid (Tw W w9 (W.heap.size + 1) W.heap.size w2.heap.size B3 g3 D3 n hj1 hi7 v1 v7 l1 l7) := T3.below b9; clear T3 b9))
            go_roundw
            case rel => exact ⟨j + 1, _, _, _, _, _, _, by omega, by go_num, HT9.out⟩
            case measure => simp [intOf]; omega
          · have hbI : ¬ (j : Int) < bs.length := by omega
            have T := HT.out
            go_wp2_with (first
              | (go_at_call 16; refine (alive_any _).mono ?_; rintro e w8 ⟨rfl, b8⟩))
            go_ret
            exact ⟨rfl, T.b.trans (b8.mono T.b.size)⟩
end Go.Proofs.Ytckmdkdhnhkdhaa
