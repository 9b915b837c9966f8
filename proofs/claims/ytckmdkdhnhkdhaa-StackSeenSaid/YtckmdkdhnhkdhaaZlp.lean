import Derived.Test.YtckmdkdhnhkdhaaZpy
import Derived.Test.YtckmdkdhnhkdhaaZtd
import Derived.Test.YtckmdkdhnhkdhaaZop
namespace Go.Proofs.Ytckmdkdhnhkdhaa
open Go.RowKit
set_option linter.unusedVariables false
set_option linter.unusedSimpArgs false

/-! ### StackPlays -/
structure PlI (W wr : World) (B g D n hi : Nat) (v : Value) (l : List Int) : Prop where
  p : Pr wr B g D n hi v l
  b : Below W.heap.size W wr
  k : ∀ x, Pb B g D v x → W.heap.size ≤ x
section
variable {W wr w' : World} {B g D n hi : Nat} {v : Value} {l : List Int}
theorem PlI.below (h : PlI W wr B g D n hi v l) (hb : Below wr.heap.size wr w') : PlI W w' B g D n hi v l := ⟨h.p.below hb, h.b.trans (hb.mono h.b.size), h.k⟩
theorem PlI.play (h : PlI W wr B g D n hi v l) (hp : PlayP wr B g D n v w') : ∃ hi' v' l', PlI W w' B g D n hi' v' l' := by
  obtain ⟨hi', v', l', h1, h2, h3⟩ := hp
  refine ⟨hi', v', l', h1, h.b.trans (h3.below h.b.size h.k), fun x hx => ?_⟩
  rcases hx with e | e | e
  · exact h.k x (.inl e)
  · exact h.k x (.inr (.inl e))
  · rcases h2 x e with e1 | e1
    · exact h.k x (.inr (.inr e1))
    · have := h.b.size; omega
theorem PlI.new {w1 w2 : World} (hq : iQ w1 (W.heap.size + 1) W.heap.size n 0 []) (hd : Ds w2 w1.heap.size n 0 (.slice none 0 0) []) (b1 : Below W.heap.size W w1) (b2 : Below w1.heap.size w1 w2) : PlI W w2 (W.heap.size + 1) W.heap.size w1.heap.size n 0 (.slice none 0 0) [] := by
  refine ⟨Pr.new (hq.below b2) hd (fun b e => by cases e), b1.trans (b2.mono b1.size), fun x hx => ?_⟩
  have := b1.size
  rcases hx with (e | e) | e | e
  · omega
  · omega
  · omega
  · cases e
/-- calls of a stack of which nothing more is asked -/
theorem iPush_some (h : iQ wr B g n hi l) (x : Int) : Calls Try.prog 10 #[iP B, I x] wr fun e w' => ∃ c : Int, e = .returned (I c) ∧ (∃ hi' l', iQ w' B g n hi' l') ∧ Fx [B, g] wr w' := by
  by_cases hc : l.length < n
  · exact (iPushQ h hc x).mono (fun e w' k => ⟨0, k.1, ⟨_, _, k.2.1⟩, k.2.2⟩)
  · exact (iPushF h (by have := h.le; omega) x).mono (fun e w' k => ⟨141, k.1, ⟨_, _, h.below k.2⟩, Fx.of_below k.2⟩)
theorem iCut_some (h : iQ wr B g n hi l) : Calls Try.prog 12 #[iP B, I 0] wr fun e w' => ∃ u, e = .returned (.tuple #[u, I 0]) ∧ (∃ hi' l', iQ w' B g n hi' l') ∧ Fx [B, g] wr w' := by
  refine (iCutQ h 0 (Nat.zero_le _)).mono ?_
  rintro e w' ⟨X, cap, rfl, o, q, f⟩
  exact ⟨_, rfl, ⟨_, _, q⟩, f⟩
/-- The copy, while the old stack is filled with other things. -/
structure CpI (W wr : World) (B g B' g' D n hi : Nat) (v : Value) (l : List Int) : Prop where
  old : ∃ hi2 l2, iQ wr B g n hi2 l2
  q : iQ wr B' g' n hi l
  d : Ds wr D n hi v l
  ap : ∀ b, Db D v b → b ≠ B ∧ b ≠ g
  b : Below W.heap.size W wr
  k : W.heap.size ≤ B ∧ W.heap.size ≤ g ∧ W.heap.size ≤ B' ∧ W.heap.size ≤ g'
  ne : B' ≠ B ∧ B' ≠ g ∧ g' ≠ B ∧ g' ≠ g
theorem CpI.step {B' g' : Nat} (h : CpI W wr B g B' g' D n hi v l) (ho : ∃ hi2 l2, iQ w' B g n hi2 l2) (hf : Fx [B, g] wr w') : CpI W w' B g B' g' D n hi v l := by
  have hn := h.ne
  have hz : Fz (fun b => b = B ∨ b = g) wr w' := Fz.of_fx hf (fun x hx => by simpa using hx)
  exact ⟨ho, h.q.keptZ hz (by omega) (by omega), h.d.keptZ hz (fun b hb e => by have := h.ap b hb; omega), h.ap, h.b.trans (hf.below h.b.size (by have := h.k; simp; omega)), h.k, hn⟩
theorem PlI.copy (h : PlI W wr B g D n hi v l) {B' g' : Nat} (hq : iQ w' B' g' n hi l) (hB : wr.heap.size ≤ B') (hg : wr.heap.size ≤ g') (hb : Below wr.heap.size wr w') : CpI W w' B g B' g' D n hi v l := by
  have h2 := h.below hb
  have hl := h.p.q.lts
  have hs := h.b.size
  have k1 := h.k B (.inl (.inl rfl))
  have k2 := h.k g (.inl (.inr rfl))
  exact ⟨⟨_, _, h2.p.q⟩, hq, h2.p.d, h.p.ap, h2.b, ⟨k1, k2, by omega, by omega⟩, by omega⟩
theorem CpI.doc {B' g' : Nat} (h : CpI W wr B g B' g' D n hi v l) {D' : Nat} {v' : Value} (hd : Ds w' D' n hi v' l) (hk : ∀ b, Db D' v' b → wr.heap.size ≤ b) (hb : Below wr.heap.size wr w') : PlI W w' B' g' D' n hi v' l := by
  have hl := h.q.lts
  have hs := h.b.size
  refine ⟨⟨h.q.below hb, hd, fun b e => by have := hk b e; omega⟩, h.b.trans (hb.mono h.b.size), fun x hx => ?_⟩
  have := h.k
  rcases hx with (e | e) | e
  · omega
  · omega
  · have := hk x e; omega
end
set_option maxHeartbeats 8000000 in
set_option maxRecDepth 100000 in
theorem plays_no (W : World) (room : Int) (hr : room < 0 ∨ 1024 < room) (u : Value) : Calls Try.prog 7 #[I room, u] W fun e w' => e = .returned (.bool true) ∧ Below W.heap.size W w' := by
  have h1 := iNew_no W room hr
  have h2 := dNew_no W room hr
  clear hr
  go_enter Try.func7, Try.ntmps7
  go_wp2_with (first
    | (go_at_call 11; refine (num_any _ (by decide) _).mono ?_; rintro e w9 ⟨rfl, rfl⟩)
    | (go_at_call 9; refine h1.mono ?_; clear h1; rintro e w1 ⟨rfl, rfl⟩)
    | (go_at_call 18; refine h2.mono ?_; clear h2; rintro e w2 ⟨rfl, c2, b2⟩)
    | (go_at_call 16; refine (alive_any _).mono ?_; rintro e w8 ⟨rfl, b8⟩))
  go_ret
  exact ⟨rfl, b2.trans (b8.mono b2.size)⟩
set_option maxHeartbeats 8000000 in
set_option maxRecDepth 100000 in
theorem plays_ok (W : World) (n : Nat) (hn : n ≤ 1024) (s : Sl) (acts : List (Int × Int)) (h : RowsAt W 2 actP s acts) (hl : acts.length ≤ 17592186043904) : Calls Try.prog 7 #[I n, .slice s.a s.n s.c] W fun e w' => e = .returned (.bool true) ∧ Below W.heap.size W w' := by
  obtain ⟨a1, n1, c1⟩ := s
  have hn1 := h.n
  simp only at hn1
  subst hn1
  have h1 := iNewQ W n hn
  go_enter Try.func7, Try.ntmps7
  go_wp2_with (first
    | (go_at_call 11; refine (num_any _ (by decide) _).mono ?_; rintro e w9 ⟨rfl, rfl⟩)
    | (go_at_call 9; refine h1.mono ?_; clear h1; rintro e w1 ⟨rfl, hq1, b1⟩)
    | (go_at_call 18; refine (dNew_ok w1 n hn).mono ?_; rintro e w2 ⟨rfl, hd2, b2⟩; have c20 := hd2.cells.1; have hI2 : PlI W w2 (W.heap.size + 1) W.heap.size w1.heap.size n 0 (.slice none 0 0) [] := PlI.new hq1 hd2 b1 b2; clear hq1 hd2)
    | (go_at_call 32; refine (told_any _ _ _ _ _ _ _ _ hI2.p).mono ?_; rintro e w3 ⟨rfl, b3⟩; have HI3 : Hid (PlI W w3 (W.heap.size + 1) W.heap.size w1.heap.size n 0 (.slice none 0 0) []) := hI2.below b3; clear hI2 b3))
  go_loopw [5, 7, 9] (fun vr vd vi wr => ∃ (i B g D hi : Nat) (v : Value) (l : List Int), i ≤ acts.length ∧ vr = iP B ∧ vd = dP D ∧ vi = .int .i64 i ∧ Hid (PlI W wr B g D n hi v l)) (fun _ _ vi _ => acts.length - (intOf vi).toNat)
  case atStart => exact ⟨0, _, _, _, _, _, _, by omega, rfl, rfl, rfl, HI3.out⟩
  case round =>
    clear HI3 c20 b1 b2
    obtain ⟨i, B, g, D, hi, v, l, hi1, rfl, rfl, rfl, HJ⟩ := hrel
    by_cases hlt : i < acts.length
    · obtain ⟨⟨kd, vv⟩, hx⟩ : ∃ x, acts[i]? = some x := ⟨_, List.getElem?_eq_getElem hlt⟩
      have hltI : (i : Int) < acts.length := by omega
      obtain ⟨ga, off, rfl, hcx⟩ := acts_cell h hx
      have HX : Hid (∀ Z, Below W.heap.size W Z → Z.cell? ⟨ga, off + i * 2, none⟩ = some (I kd) ∧ Z.cell? ⟨ga, off + i * 2 + 1, none⟩ = some (I vv)) := hcx
      clear hcx hx
      obtain ⟨x0, x1⟩ := HX.out wr HJ.out.b
      by_cases h6 : kd = 5
      · subst h6
        go_wp2_with (first
          | (go_at_call 30; refine (iCopyQ HJ.out.p.q).mono ?_; rintro e w1 ⟨B', g', rfl, hq1, hB1, hg1, b1⟩; have C1 := HJ.out.copy hq1 hB1 hg1 b1; obtain ⟨hi2, l2, ho1⟩ := C1.old; clear HJ hq1 hB1 hg1 b1 x0 x1)
          | (go_at_call 12; refine (iCut_some ho1).mono ?_; rintro e w2 ⟨u2, rfl, ho2, f2⟩; have HC2 : Hid (CpI W w2 B g B' g' D n hi v l) := C1.step ho2 f2; clear C1 ho1 ho2 f2))
        go_loopw [11] (fun vk wr => ∃ k : Nat, k ≤ 3 ∧ vk = .int .i64 k ∧ Hid (CpI W wr B g B' g' D n hi v l)) (fun vk _ => 3 - (intOf vk).toNat)
        case atStart => exact ⟨0, by omega, rfl, HC2.out⟩
        case round =>
          clear HC2
          obtain ⟨k, hk3, rfl, HC⟩ := hrel
          by_cases hk : k < 3
          · have hkI : (k : Int) < 3 := by omega
            obtain ⟨hi2, l2, ho1⟩ := HC.out.old
            obtain ⟨x0, x1⟩ := HX.out wr HC.out.b
            go_wp2_with (first
              | (go_at_call 10; refine (iPush_some ho1 _).mono ?_; rintro e w4 ⟨cc, rfl, ho4, f4⟩; have HC4 : Hid (CpI W w4 B g B' g' D n hi v l) := HC.out.step ho4 f4; clear HC ho1 ho4 f4 x0 x1))
            go_roundw
            case rel => exact ⟨k + 1, by omega, by go_num, HC4.out⟩
            case measure => simp [intOf]; omega
          · have hkI : ¬ (k : Int) < 3 := by omega
            have hd := HC.out.d
            go_wp2_with (first
              | (go_at_call 33; refine (dCopy_any hd).mono ?_; rintro e w5 ⟨D', rfl, v', hd5, hk5, b5⟩; have J5 := HC.out.doc hd5 hk5 b5; obtain ⟨y0, y1⟩ := HX.out w5 J5.b; clear HC hd hd5 hk5 b5)
              | (go_at_call 26; refine (play_any J5.p 5 vv).mono ?_; rintro e w1 ⟨rfl, hp1⟩; obtain ⟨hi', v'', l', J1⟩ := J5.play hp1; clear J5 hp1)
              | (go_at_call 32; refine (told_any _ _ _ _ _ _ _ _ J1.p).mono ?_; rintro e w3 ⟨rfl, b3⟩; have HI3 : Hid (PlI W w3 B' g' D' n hi' v'' l') := J1.below b3; clear J1 b3))
            go_roundw
            case rel => exact ⟨i + 1, _, _, _, _, _, _, by omega, rfl, rfl, by go_num, HI3.out⟩
            case measure => simp [intOf]; omega
      · go_wp2_with (first
          | (go_at_call 26; refine (play_any HJ.out.p kd vv).mono ?_; rintro e w1 ⟨rfl, hp1⟩; obtain ⟨hi', v'', l', J1⟩ := HJ.out.play hp1; clear HJ hp1)
          | (go_at_call 32; refine (told_any _ _ _ _ _ _ _ _ J1.p).mono ?_; rintro e w3 ⟨rfl, b3⟩; have HI3 : Hid (PlI W w3 B g D n hi' v'' l') := J1.below b3; clear J1 b3))
        go_roundw
        case rel => exact ⟨i + 1, _, _, _, _, _, _, by omega, rfl, rfl, by go_num, HI3.out⟩
        case measure => simp [intOf]; omega
    · obtain rfl : i = acts.length := by omega
      have hge : ¬ ((acts.length : Int) < acts.length) := by omega
      have J := HJ.out
      go_wp2_with (first
        | (go_at_call 16; refine (alive_any _).mono ?_; rintro e w8 ⟨rfl, b8⟩))
      go_ret
      exact ⟨rfl, J.b.trans (b8.mono J.b.size)⟩
theorem plays_law (W : World) (room : Int) (_ : (Lit.int .i64 room).wf = true) (s : Sl) (acts : List (Int × Int)) (h : RowsAt W 2 actP s acts) (hl : acts.length ≤ 17592186043904) : Calls Try.prog 7 #[I room, .slice s.a s.n s.c] W fun e w' => e = .returned (.bool true) ∧ Below W.heap.size W w' := by
  by_cases hr : room < 0 ∨ 1024 < room
  · exact plays_no W room hr _
  · obtain ⟨n, rfl⟩ := Int.eq_ofNat_of_zero_le (a := room) (by omega)
    exact plays_ok W n (by omega) s acts h hl
end Go.Proofs.Ytckmdkdhnhkdhaa
