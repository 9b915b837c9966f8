import Derived.Test.YtlbkbnhnklaebabRdcp
import Derived.Test.YtlbkbnhnklaebabRtd12
import Derived.Test.YtlbkbnhnklaebabRax
namespace Go.Proofs.Ytlbkbnhnklaebab
open Go.RowKit
set_option linter.unusedVariables false
set_option linter.unusedSimpArgs false

/-! ### RingApart -/
theorem Dg.notO {w : World} {D n hi : Nat} {v : Value} {l : List Int} (h : Dg w D n hi v l) {b k : Nat} {u : Value} {xs : List Value} (hp : w.ownsRow b 3 1 u k xs) : u.ownBlock ≠ some D := fun e => by
  rcases hp.2 with ⟨h2, _⟩ | ⟨g', cap, cur, h2, _, hh, _⟩
  · rw [h2] at e; cases e
  · rw [h2] at e
    obtain rfl : g' = D := by simpa [Value.ownBlock] using e
    rw [h.o] at hh
    simp only [Option.some.injEq, Obj.cells.injEq] at hh
    exact absurd hh.2.1 (by decide)
theorem Pr.away {X X' : Nat → Prop} {w w' : World} {B g D n hi B1 g1 D1 n1 hi1 : Nat} {l l1 : List Int} (h : Pr X w B g D n hi l) (h' : Pr X' w B1 g1 D1 n1 hi1 l1) (hf : Fx [B1, g1, D1] w w') (hB : B ∉ [B1, g1, D1]) (hg : g ∉ [B1, g1, D1]) (hD : D ∉ [B1, g1, D1]) (hx : X g1) : Pr X w' B g D n hi l := by
  obtain ⟨v, hd, hk⟩ := h.d
  obtain ⟨v1, hd1, _⟩ := h'.d
  refine ⟨h.q.kept hf hB hg, ⟨v, ⟨hf.heap hd.o hD, hf.own hd.p (fun k e => ?_), hd.m, hd.y⟩, hk⟩, fun k e => Nat.lt_of_lt_of_le (h.x k e) hf.size⟩
  have a1 : k ≠ B1 := fun e2 => Pr.vB h'.q hd.p (e2 ▸ e)
  have a2 : k ≠ g1 := fun e2 => (hk k e).2 (e2 ▸ hx)
  have a3 : k ≠ D1 := fun e2 => hd1.notO hd.p (e2 ▸ e)
  simp; exact ⟨a1, a2, a3⟩
/-- Two pairs, apart. -/
structure Tw (W wr : World) (B1 g1 D1 B2 g2 D2 n hi1 hi2 : Nat) (l1 l2 : List Int) : Prop where
  p : Pr (fun k => k = g2) wr B1 g1 D1 n hi1 l1
  q : Pr (fun k => k = g1) wr B2 g2 D2 n hi2 l2
  b : Below W.heap.size W wr
  k : ∀ x ∈ [B1, g1, D1, B2, g2, D2], W.heap.size ≤ x
  ne : (B2 ∉ [B1, g1, D1] ∧ g2 ∉ [B1, g1, D1] ∧ D2 ∉ [B1, g1, D1]) ∧ (B1 ∉ [B2, g2, D2] ∧ g1 ∉ [B2, g2, D2] ∧ D1 ∉ [B2, g2, D2])
section
variable {W wr w' : World} {B1 g1 D1 B2 g2 D2 n hi1 hi2 : Nat} {l1 l2 : List Int}
theorem Tw.below (h : Tw W wr B1 g1 D1 B2 g2 D2 n hi1 hi2 l1 l2) (hb : Below wr.heap.size wr w') : Tw W w' B1 g1 D1 B2 g2 D2 n hi1 hi2 l1 l2 :=
  ⟨h.p.below hb, h.q.below hb, h.b.trans (hb.mono h.b.size), h.k, h.ne⟩
theorem Tw.one (h : Tw W wr B1 g1 D1 B2 g2 D2 n hi1 hi2 l1 l2) (hp : PlayP (fun k => k = g2) wr B1 g1 D1 n w') : ∃ hi l, Tw W w' B1 g1 D1 B2 g2 D2 n hi hi2 l l2 := by
  obtain ⟨⟨hi, l, h1⟩, hf⟩ := hp
  exact ⟨hi, l, h1, h.q.away h.p hf h.ne.1.1 h.ne.1.2.1 h.ne.1.2.2 rfl, h.b.trans (hf.below h.b.size (fun x hx => h.k x (by simp at hx ⊢; omega))), h.k, h.ne⟩
theorem Tw.two (h : Tw W wr B1 g1 D1 B2 g2 D2 n hi1 hi2 l1 l2) (hp : PlayP (fun k => k = g1) wr B2 g2 D2 n w') : ∃ hi l, Tw W w' B1 g1 D1 B2 g2 D2 n hi1 hi l1 l := by
  obtain ⟨⟨hi, l, h1⟩, hf⟩ := hp
  exact ⟨hi, l, h.p.away h.q hf h.ne.2.1 h.ne.2.2.1 h.ne.2.2.2 rfl, h1, h.b.trans (hf.below h.b.size (fun x hx => h.k x (by simp at hx ⊢; omega))), h.k, h.ne⟩
/-- another pair, laid since, in place of the second -/
theorem Tw.swap (h : Tw W wr B1 g1 D1 B2 g2 D2 n hi1 hi2 l1 l2) {w1 : World} {B3 g3 D3 : Nat} {v3 : Value} (b1 : Below wr.heap.size wr w1) (hq : iQ w1 B3 g3 n hi1 (intsV l1)) (hB : wr.heap.size ≤ B3) (hg : wr.heap.size ≤ g3) (b2 : Below w1.heap.size w1 w') (hd : Dg w' D3 n hi1 v3 l1) (hD : w1.heap.size ≤ D3) (hk : ∀ k, v3.ownBlock = some k → w1.heap.size ≤ k) : Tw W w' B1 g1 D1 B3 g3 D3 n hi1 hi1 l1 l1 := by
  have hb := b1.trans (b2.mono b1.size)
  obtain ⟨v, hdv, hkv⟩ := h.p.d
  have hl := h.p.q.lts
  have hl3 := hq.lts
  have hDl := heap_lt hdv.o
  have hs := h.b.size
  have hs1 := b1.size
  have hs2 := b2.size
  have hk1 := h.k B1 (by simp)
  have hk2 := h.k g1 (by simp)
  have hk3 := h.k D1 (by simp)
  refine ⟨⟨h.p.q.below hb, ⟨v, hdv.below hb, fun k e => ⟨(hkv k e).1, fun e2 => ?_⟩⟩, fun k e => by subst e; omega⟩, ⟨hq.below b2, ⟨v3, hd, fun k e => ?_⟩, fun k e => by subst e; omega⟩, h.b.trans (hb.mono h.b.size), fun x hx => ?_, ?_⟩
  · have := (hdv.p.lt k e).2
    omega
  · have := hk k e
    exact ⟨by omega, by omega⟩
  · simp at hx
    omega
  · have hne := h.p.ne
    have hqn := hq.ne
    simp
    omega
end
set_option maxHeartbeats 8000000 in
set_option maxRecDepth 100000 in
theorem apart_any (W : World) (n : Nat) (hn : n < 256) (s1 : Sl) (aa : List (Int × Int)) (h1 : RowsAt W 2 actP s1 aa) (hl1 : aa.length ≤ 17592186043904) (s2 : Sl) (bs : List (Int × Int)) (h2 : RowsAt W 2 actP s2 bs) (hl2 : bs.length ≤ 17592186043904) : Calls Try.prog 3 #[.int .u8 n, .slice s1.a s1.n s1.c, .slice s2.a s2.n s2.c] W fun e w' => e = .returned (.bool true) ∧ Below W.heap.size W w' := by
  obtain ⟨a1, n1, c1⟩ := s1
  obtain ⟨a2, n2, c2⟩ := s2
  have hn1 := h1.n
  have hn2 := h2.n
  simp only at hn1 hn2
  subst hn1
  subst hn2
  have N1 := iNewQ W n (by omega)
  go_enter Try.func3, Try.ntmps3
  go_wp2_with (first
    | (go_at_call 4; refine N1.mono ?_; clear N1; rintro e w1 ⟨rfl, hq1, b1⟩; have N2 := iNewQ w1 n (by omega))
    | (go_at_call 4; refine N2.mono ?_; clear N2; rintro e w2 ⟨rfl, hq2, b2⟩; have N3 := dNew_ok w2 n (by omega))
    | (go_at_call 5; refine N3.mono ?_; clear N3; rintro e w3 ⟨rfl, hd3, b3⟩; have N4 := dNew_ok w3 n (by omega))
    | (go_at_call 5; refine N4.mono ?_; clear N4; rintro e w4 ⟨rfl, hd4, b4⟩))
  have HT : Hid (Tw W w4 (W.heap.size + 1) W.heap.size w2.heap.size (w1.heap.size + 1) w1.heap.size w3.heap.size n 0 0 [] []) := by
    have l1 := hq1.lts
    have l2 := hq2.lts
    have l3 := heap_lt hd3.o
    have l4 := heap_lt hd4.o
    have t1 := b1.size
    have t2 := b2.size
    have t3 := b3.size
    have t4 := b4.size
    have bb := b2.trans ((b3.mono b2.size).trans (b4.mono (by omega)))
    refine ⟨⟨hq1.below bb, ⟨_, hd3.below b4, fun k e => by cases e⟩, fun k e => by subst e; omega⟩, ⟨hq2.below (b3.trans (b4.mono b3.size)), ⟨_, hd4, fun k e => by cases e⟩, fun k e => by subst e; omega⟩, b1.trans (bb.mono b1.size), fun x hx => by simp at hx; omega, by simp; omega⟩
  clear hq1 hq2 hd3 hd4 b1 b2 b3 b4
  go_loopw [15] (fun vi wr => ∃ (i hi1 hi2 : Nat) (l1 l2 : List Int), i ≤ max aa.length bs.length ∧ vi = .int .i64 i ∧ Hid (Tw W wr (W.heap.size + 1) W.heap.size w2.heap.size (w1.heap.size + 1) w1.heap.size w3.heap.size n hi1 hi2 l1 l2)) (fun vi _ => max aa.length bs.length - (intOf vi).toNat)
  case atStart => exact ⟨0, _, _, _, _, by omega, rfl, HT.out⟩
  case round =>
    clear HT
    obtain ⟨i, hi1, hi2, l1, l2, hi9, rfl, HT⟩ := hrel
    by_cases ha : i < aa.length
    · obtain ⟨⟨kd, vv⟩, hx⟩ : ∃ x, aa[i]? = some x := ⟨_, List.getElem?_eq_getElem ha⟩
      have haI : (i : Int) < aa.length := by omega
      obtain ⟨ga, off, rfl, hcx⟩ := acts_cell h1 hx
      have HX : Hid (∀ Z, Below W.heap.size W Z → Z.cell? ⟨ga, off + i * 2, none⟩ = some (I kd) ∧ Z.cell? ⟨ga, off + i * 2 + 1, none⟩ = some (I vv)) := hcx
      clear hcx hx
      obtain ⟨x0, x1⟩ := HX.out wr HT.out.b
      by_cases hb : i < bs.length
      · obtain ⟨⟨ke, ve⟩, hy⟩ : ∃ x, bs[i]? = some x := ⟨_, List.getElem?_eq_getElem hb⟩
        have hbI : (i : Int) < bs.length := by omega
        obtain ⟨gb, ofb, rfl, hcy⟩ := acts_cell h2 hy
        have HY : Hid (∀ Z, Below W.heap.size W Z → Z.cell? ⟨gb, ofb + i * 2, none⟩ = some (I ke) ∧ Z.cell? ⟨gb, ofb + i * 2 + 1, none⟩ = some (I ve)) := hcy
        clear hcy hy
        have T0 := HT.out
        clear HT
        go_wp2_with (first
            | (go_at_call 6; refine (play_any T0.p kd vv).mono ?_; rintro e w5 ⟨rfl, hp5⟩; obtain ⟨hi5, l5, T1⟩ := T0.one hp5; clear T0 hp5 x0 x1; obtain ⟨y0, y1⟩ := HY.out w5 T1.b)
            | (go_at_call 6; refine (play_any T1.q ke ve).mono ?_; rintro e w6 ⟨rfl, hp6⟩; obtain ⟨hi6, l6, T2⟩ := T1.two hp6; clear T1 hp6 y0 y1)
            | (go_at_call 7; refine (told_any _ _ _ _ _ _ _ T2.p).mono ?_; rintro e w7 ⟨rfl, b7⟩; have T3 := T2.below b7; clear T2 b7)
            | (go_at_call 7; refine (told_any _ _ _ _ _ _ _ T3.q).mono ?_; rintro e w8 ⟨rfl, b8⟩; have HT9 : Hid (Tw W w8 (W.heap.size + 1) W.heap.size w2.heap.size (w1.heap.size + 1) w1.heap.size w3.heap.size n hi5 hi6 l5 l6) := T3.below b8; clear T3 b8))
        go_roundw
        case rel => exact ⟨i + 1, _, _, _, _, by omega, by go_num, HT9.out⟩
        case measure => simp [intOf]; omega
      · have hbI : ¬ (i : Int) < bs.length := by omega
        have T0 := HT.out
        clear HT
        go_wp2_with (first
            | (go_at_call 6; refine (play_any T0.p kd vv).mono ?_; rintro e w5 ⟨rfl, hp5⟩; obtain ⟨hi5, l5, T1⟩ := T0.one hp5; clear T0 hp5 x0 x1; have T2 := T1; clear T1)
            | (go_at_call 7; refine (told_any _ _ _ _ _ _ _ T2.p).mono ?_; rintro e w7 ⟨rfl, b7⟩; have T3 := T2.below b7; clear T2 b7)
            | (go_at_call 7; refine (told_any _ _ _ _ _ _ _ T3.q).mono ?_; rintro e w8 ⟨rfl, b8⟩; have HT9 : Hid (Tw W w8 (W.heap.size + 1) W.heap.size w2.heap.size (w1.heap.size + 1) w1.heap.size w3.heap.size n hi5 hi2 l5 l2) := T3.below b8; clear T3 b8))
        go_roundw
        case rel => exact ⟨i + 1, _, _, _, _, by omega, by go_num, HT9.out⟩
        case measure => simp [intOf]; omega
    · have haI : ¬ (i : Int) < aa.length := by omega
      by_cases hb : i < bs.length
      · obtain ⟨⟨ke, ve⟩, hy⟩ : ∃ x, bs[i]? = some x := ⟨_, List.getElem?_eq_getElem hb⟩
        have hbI : (i : Int) < bs.length := by omega
        obtain ⟨gb, ofb, rfl, hcy⟩ := acts_cell h2 hy
        have HY : Hid (∀ Z, Below W.heap.size W Z → Z.cell? ⟨gb, ofb + i * 2, none⟩ = some (I ke) ∧ Z.cell? ⟨gb, ofb + i * 2 + 1, none⟩ = some (I ve)) := hcy
        clear hcy hy
        obtain ⟨y0, y1⟩ := HY.out wr HT.out.b
        have T1 := HT.out
        clear HT
        go_wp2_with (first
            | (go_at_call 6; refine (play_any T1.q ke ve).mono ?_; rintro e w6 ⟨rfl, hp6⟩; obtain ⟨hi6, l6, T2⟩ := T1.two hp6; clear T1 hp6 y0 y1)
            | (go_at_call 7; refine (told_any _ _ _ _ _ _ _ T2.p).mono ?_; rintro e w7 ⟨rfl, b7⟩; have T3 := T2.below b7; clear T2 b7)
            | (go_at_call 7; refine (told_any _ _ _ _ _ _ _ T3.q).mono ?_; rintro e w8 ⟨rfl, b8⟩; have HT9 : Hid (Tw W w8 (W.heap.size + 1) W.heap.size w2.heap.size (w1.heap.size + 1) w1.heap.size w3.heap.size n hi1 hi6 l1 l6) := T3.below b8; clear T3 b8))
        go_roundw
        case rel => exact ⟨i + 1, _, _, _, _, by omega, by go_num, HT9.out⟩
        case measure => simp [intOf]; omega
      · have hbI : ¬ (i : Int) < bs.length := by omega
        have T4 := HT.out
        have hl6 : l1.length ≤ 65536 := by have := T4.p.le; omega
        obtain ⟨v, hdv, hkv⟩ := T4.p.d
        go_wp2_with (first
          | (go_at_call 8; refine (iCopyQ T4.p.q).mono ?_; rintro e w5 ⟨B3, g3, rfl, hq5, hB5, hg5, b5⟩; have D5 := dCopy_any (hdv.below b5) hl6)
          | (go_at_call 9; refine D5.mono ?_; clear D5; rintro e w6 ⟨D3, rfl, v6, hd6, hD6, hk6, b6⟩; have HT6 : Hid (Tw W w6 (W.heap.size + 1) W.heap.size w2.heap.size B3 g3 D3 n hi1 hi1 l1 l1) := T4.swap b5 hq5 hB5 hg5 b6 hd6 hD6 hk6; clear HT T4 hdv hkv hq5 hB5 hg5 b5 hd6 hD6 hk6 b6))
        clear hi9 ha hb haI hbI
        go_loopw [18] (fun vi wr => ∃ (j hi1 hi3 : Nat) (l1 l3 : List Int), j ≤ bs.length ∧ vi = .int .i64 j ∧ Hid (Tw W wr (W.heap.size + 1) W.heap.size w2.heap.size B3 g3 D3 n hi1 hi3 l1 l3)) (fun vi _ => bs.length - (intOf vi).toNat)
        case atStart => exact ⟨0, _, _, _, _, by omega, rfl, HT6.out⟩
        case round =>
          clear HT6
          obtain ⟨j, hj1, hj3, l1, l3, hj9, rfl, HT⟩ := hrel
          by_cases hb : j < bs.length
          · obtain ⟨⟨ke, ve⟩, hy⟩ : ∃ x, bs[j]? = some x := ⟨_, List.getElem?_eq_getElem hb⟩
            have hbI : (j : Int) < bs.length := by omega
            obtain ⟨gb, ofb, rfl, hcy⟩ := acts_cell h2 hy
            obtain ⟨y0, y1⟩ := hcy wr HT.out.b
            clear hcy hy
            have T1 := HT.out
            clear HT
            go_wp2_with (first
              | (go_at_call 6; refine (play_any T1.q ke ve).mono ?_; rintro e w7 ⟨rfl, hp7⟩; obtain ⟨hi7, l7, T2⟩ := T1.two hp7; clear T1 hp7 y0 y1)
              | (go_at_call 7; refine (told_any _ _ _ _ _ _ _ T2.p).mono ?_; rintro e w8 ⟨rfl, b8⟩; have T3 := T2.below b8; clear T2 b8)
              | (go_at_call 7; refine (told_any _ _ _ _ _ _ _ T3.q).mono ?_; rintro e w9 ⟨rfl, b9⟩; have HT9 : Hid (Tw W w9 (W.heap.size + 1) W.heap.size w2.heap.size B3 g3 D3 n hj1 hi7 l1 l7) := T3.below b9; clear T3 b9))
            go_roundw
            case rel => exact ⟨j + 1, _, _, _, _, by omega, by go_num, HT9.out⟩
            case measure => simp [intOf]; omega
          · have hbI : ¬ (j : Int) < bs.length := by omega
            have T := HT.out
            go_wp2_with (first
              | (go_at_call 10; refine (alive_any _).mono ?_; rintro e w8 ⟨rfl, b8⟩))
            go_ret
            exact ⟨rfl, T.b.trans (b8.mono T.b.size)⟩
end Go.Proofs.Ytlbkbnhnklaebab
