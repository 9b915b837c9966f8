import Derived.Test.YthmecgfbapemjaaDoorDk
namespace Go.Proofs.YthmecgfbapemjaaDoor
open Go.RowKit Go.Shelf Go.Sort
set_option linter.unusedVariables false
set_option linter.unusedSimpArgs false

/-! ### TaskRound -/
abbrev bR (n : Int) (b : Bool) : List Rw := [(1, false), (n, b)]
theorem bv0 (n : Int) (b : Bool) (h1 : 1 ≤ n) (h2 : n ≤ 255) (hb : b = true → n = 1) : mayN (bR n b) = true := by
  cases b with
  | true => rw [hb rfl]; kernel_rfl
  | false => simp [mayN, mayR]; omega
theorem bv1 (n : Int) (b : Bool) (h1 : 1 ≤ n) : actS (bR n b) [(3, 0), (3, 0)] 1 = 0 := by
  have : actS (bR n b) [(3, 0), (3, 0)] 1 = if n ≤ 0 then 4 else 0 := by kernel_rfl
  rw [this, if_neg (by omega)]
theorem bv2 (n : Int) (b : Bool) (h1 : 1 ≤ n) : actL (bR n b) [(3, 0), (3, 0)] 1 = [(3, 0), (2, 1)] := by
  rw [actL, if_pos (bv1 n b h1)]
  kernel_rfl
section
variable {W w : World} {B : Nat} {v u : Value} {n : Int} {b : Bool}
theorem rAct (h : Tb W w B v u (bR n b) [(3, 0), (3, 0)]) (h1 : 1 ≤ n) : Calls Tryd.prog 11 #[cP B, I 1] w fun e w' => e = .returned (.tuple #[.bool true, I 0]) ∧ Tb W w' B v u (bR n b) [(3, 0), (2, 1)] := by
  have R := tActivate h 1
  rw [actB, bv1 n b h1, bv2 n b h1] at R
  refine R.mono ?_
  rintro e w' ⟨rfl, k, -⟩
  exact ⟨rfl, k⟩
theorem rSta (h : Tb W w B v u (bR n b) [(3, 0), (2, 1)]) : Calls Tryd.prog 12 #[cP B, I 1] w fun e w' => e = .returned (I 0) ∧ Tb W w' B v u (bR n b) [(3, 0), (0, 1)] := by
  have R : Calls Tryd.prog 12 #[cP B, I 1] w fun e w' => e = .returned (I 0) ∧ Tb W w' B v u (bR n b) [(3, 0), (0, 1)] ∧ Fz (Cb B v u) w w' := tStart h 1
  refine R.mono ?_
  rintro e w' ⟨rfl, k, -⟩
  exact ⟨rfl, k⟩
theorem rSta0 (h : Tb W w B v u (bR n b) [(3, 0), (2, 1)]) : Calls Tryd.prog 12 #[cP B, I 0] w fun e w' => e = .returned (I 180) ∧ Tb W w' B v u (bR n b) [(3, 0), (2, 1)] := by
  have R : Calls Tryd.prog 12 #[cP B, I 0] w fun e w' => e = .returned (I 180) ∧ Tb W w' B v u (bR n b) [(3, 0), (2, 1)] ∧ Fz (Cb B v u) w w' := tStart h 0
  refine R.mono ?_
  rintro e w' ⟨rfl, k, -⟩
  exact ⟨rfl, k⟩
theorem rRun (h : Tb W w B v u (bR n b) [(3, 0), (0, 1)]) : Calls Tryd.prog 13 #[cP B] w fun e w' => e = .returned (I 1) ∧ Tb W w' B v u (bR n b) [(3, 0), (0, 1)] := by
  have R : Calls Tryd.prog 13 #[cP B] w fun e w' => e = .returned (I 1) ∧ Tb W w' B v u (bR n b) [(3, 0), (0, 1)] ∧ Below w.heap.size w w' := tRunning h
  refine R.mono ?_
  rintro e w' ⟨rfl, k, -⟩
  exact ⟨rfl, k⟩
theorem rRun0 (h : Tb W w B v u (bR n b) [(3, 0), (2, 1)]) : Calls Tryd.prog 13 #[cP B] w fun e w' => e = .returned (I (-1)) ∧ Tb W w' B v u (bR n b) [(3, 0), (2, 1)] := by
  have R : Calls Tryd.prog 13 #[cP B] w fun e w' => e = .returned (I (-1)) ∧ Tb W w' B v u (bR n b) [(3, 0), (2, 1)] ∧ Below w.heap.size w w' := tRunning h
  refine R.mono ?_
  rintro e w' ⟨rfl, k, -⟩
  exact ⟨rfl, k⟩
theorem rWaitT (h : Tb W w B v u (bR n true) [(3, 0), (0, 1)]) : Calls Tryd.prog 14 #[cP B] w fun e w' => e = .returned (.tuple #[I 1, I 0]) ∧ Tb W w' B v u (bR n true) [(3, 0), (1, 1)] := by
  have R : Calls Tryd.prog 14 #[cP B] w fun e w' => e = .returned (.tuple #[I 1, I 0]) ∧ Tb W w' B v u (bR n true) [(3, 0), (1, 1)] ∧ Fz (Cb B v u) w w' := tWait h
  refine R.mono ?_
  rintro e w' ⟨rfl, k, -⟩
  exact ⟨rfl, k⟩
theorem rWaitF (h : Tb W w B v u (bR n false) [(3, 0), (0, 1)]) : Calls Tryd.prog 14 #[cP B] w fun e w' => e = .returned (.tuple #[I (-1), I 180]) ∧ Tb W w' B v u (bR n false) [(3, 0), (0, 1)] := by
  have R : Calls Tryd.prog 14 #[cP B] w fun e w' => e = .returned (.tuple #[I (-1), I 180]) ∧ Tb W w' B v u (bR n false) [(3, 0), (0, 1)] ∧ Fz (Cb B v u) w w' := tWait h
  refine R.mono ?_
  rintro e w' ⟨rfl, k, -⟩
  exact ⟨rfl, k⟩
theorem rRel (h : Tb W w B v u (bR n b) [(3, 0), (1, 1)]) : Calls Tryd.prog 16 #[cP B, I 1] w fun e w' => e = .returned (I 0) ∧ Tb W w' B v u (bR n b) [(3, 0), (2, 1)] := by
  have R : Calls Tryd.prog 16 #[cP B, I 1] w fun e w' => e = .returned (I 0) ∧ Tb W w' B v u (bR n b) [(3, 0), (2, 1)] ∧ Fz (Cb B v u) w w' := tRelease h 1
  refine R.mono ?_
  rintro e w' ⟨rfl, k, -⟩
  exact ⟨rfl, k⟩
theorem rRel2 (h : Tb W w B v u (bR n b) [(3, 0), (2, 1)]) : Calls Tryd.prog 16 #[cP B, I 1] w fun e w' => e = .returned (I 180) ∧ Tb W w' B v u (bR n b) [(3, 0), (2, 1)] := by
  have R : Calls Tryd.prog 16 #[cP B, I 1] w fun e w' => e = .returned (I 180) ∧ Tb W w' B v u (bR n b) [(3, 0), (2, 1)] ∧ Fz (Cb B v u) w w' := tRelease h 1
  refine R.mono ?_
  rintro e w' ⟨rfl, k, -⟩
  exact ⟨rfl, k⟩
theorem rPre (h : Tb W w B v u (bR n b) [(3, 0), (0, 1)]) : Calls Tryd.prog 17 #[cP B] w fun e w' => e = .returned (.tuple #[I 1, I 0]) ∧ Tb W w' B v u (bR n b) [(3, 0), (2, 1)] := by
  have R : Calls Tryd.prog 17 #[cP B] w fun e w' => e = .returned (.tuple #[I 1, I 0]) ∧ Tb W w' B v u (bR n b) [(3, 0), (2, 1)] ∧ Fz (Cb B v u) w w' := tPreempt h
  refine R.mono ?_
  rintro e w' ⟨rfl, k, -⟩
  exact ⟨rfl, k⟩
theorem rAga (h : Tb W w B v u (bR n b) [(3, 0), (0, 1)]) : Calls Tryd.prog 18 #[cP B] w fun e w' => e = .returned (.tuple #[I 1, I 0]) ∧ Tb W w' B v u (bR n b) [(3, 0), (2, 1)] := by
  have R : Calls Tryd.prog 18 #[cP B] w fun e w' => e = .returned (.tuple #[I 1, I 0]) ∧ Tb W w' B v u (bR n b) [(3, 0), (2, 1)] ∧ Fz (Cb B v u) w w' := tAgain h
  refine R.mono ?_
  rintro e w' ⟨rfl, k, -⟩
  exact ⟨rfl, k⟩
theorem rEnd (h : Tb W w B v u (bR n b) [(3, 0), (0, 1)]) : Calls Tryd.prog 20 #[cP B] w fun e w' => e = .returned (.tuple #[I 1, I 3, I 0]) ∧ Tb W w' B v u (bR n b) [(3, 0), (3, 0)] := by
  have R : Calls Tryd.prog 20 #[cP B] w fun e w' => e = .returned (.tuple #[I 1, I 3, I 0]) ∧ Tb W w' B v u (bR n b) [(3, 0), (3, 0)] ∧ Fz (Cb B v u) w w' := tEnd h
  refine R.mono ?_
  rintro e w' ⟨rfl, k, -⟩
  exact ⟨rfl, k⟩
theorem rStX (h : Tb W w B v u (bR n b) [(3, 0), (1, 1)]) : Calls Tryd.prog 15 #[cP B, I 1] w fun e w' => e = .returned (.tuple #[I 1, I 0]) ∧ w = w' := by
  have R : Calls Tryd.prog 15 #[cP B, I 1] w fun e w' => e = .returned (.tuple #[I 1, I 0]) ∧ w = w' := State_any h.c 1
  exact R
theorem rStR (h : Tb W w B v u (bR n b) [(3, 0), (2, 1)]) : Calls Tryd.prog 15 #[cP B, I 1] w fun e w' => e = .returned (.tuple #[I 2, I 0]) ∧ w = w' := by
  have R : Calls Tryd.prog 15 #[cP B, I 1] w fun e w' => e = .returned (.tuple #[I 2, I 0]) ∧ w = w' := State_any h.c 1
  exact R
theorem rAcR (h : Tb W w B v u (bR n b) [(3, 0), (2, 1)]) : Calls Tryd.prog 19 #[cP B, I 1] w fun e w' => e = .returned (I 1) ∧ w = w' := by
  have R : Calls Tryd.prog 19 #[cP B, I 1] w fun e w' => e = .returned (I 1) ∧ w = w' := Active_any h.c 1
  exact R
theorem rAcA (h : Tb W w B v u (bR n b) [(3, 0), (3, 0)]) : Calls Tryd.prog 19 #[cP B, I 1] w fun e w' => e = .returned (I 0) ∧ w = w' := by
  have R : Calls Tryd.prog 19 #[cP B, I 1] w fun e w' => e = .returned (I 0) ∧ w = w' := Active_any h.c 1
  exact R
end
set_option maxHeartbeats 8000000 in
set_option maxRecDepth 100000 in
theorem round_ext (W : World) (hE : EnvR W) (m : Nat) (hm : m < 256) : Calls Tryd.prog 3 #[.int .u8 m, .bool true] W fun e w' => e = .returned (.bool true) ∧ Below W.heap.size W w' := by
  have hb := below_alloc W (.cells #[I 1, .bool false, I 1, .bool true] 27)
  have hO : (W.alloc (.cells #[I 1, .bool false, I 1, .bool true] 27)).ownsRow 0 27 2 (.slice (some ⟨W.heap.size, 0, none⟩) 2 2) 2 (flR (bR 1 true)) := World.ownsRow_lit W _ 2 (Nat.zero_le _) (by unfold maxLen; omega) rfl
  have h0 : Calls Tryd.prog 8 #[.slice (some ⟨W.heap.size, 0, none⟩) 2 2] (W.alloc (.cells #[I 1, .bool false, I 1, .bool true] 27)) _ := tNew (W := W) (rs := bR 1 true) (Src.own hO) hb hE (bv0 1 true (by omega) (by omega) (fun _ => rfl))
  have hA := fun Z (hz : Below W.heap.size W Z) => alive_any Z (hE.up hz)
  skip
  clear hO hb hE
  go_enter Tryd.func3, Tryd.ntmps3
  go_wp2_with (first
    | (go_at_call 8; refine h0.mono ?_; clear h0; rintro e w1 ⟨B, v, u, rfl, T1, -, -⟩; have K1 : Hid (Tb W w1 B v u (bR 1 true) [(3, 0), (3, 0)]) := T1; clear T1)
    | (go_at_call 9; refine (num_any _ _).mono ?_; rintro e w0 ⟨rfl, rfl⟩)
    | (go_at_call 11; refine (rAct K1.out (by omega)).mono ?_; clear K1; rintro e w2 ⟨rfl, T⟩; have K2 : Hid (Tb W w2 B v u (bR 1 true) [(3, 0), (2, 1)]) := T; clear T)
    | (go_at_call 12; refine (rSta K2.out).mono ?_; clear K2; rintro e w3 ⟨rfl, T⟩; have K3 : Hid (Tb W w3 B v u (bR 1 true) [(3, 0), (0, 1)]) := T; clear T)
    | (go_at_call 13; refine (rRun K3.out).mono ?_; clear K3; rintro e w4 ⟨rfl, T⟩; have K4 : Hid (Tb W w4 B v u (bR 1 true) [(3, 0), (0, 1)]) := T; clear T)
    | (go_at_call 14; refine (rWaitT K4.out).mono ?_; clear K4; rintro e w5 ⟨rfl, T⟩; have K5 : Hid (Tb W w5 B v u (bR 1 true) [(3, 0), (1, 1)]) := T; clear T)
    | (go_at_call 15; refine (rStX K5.out).mono ?_; rintro e w55 ⟨rfl, rfl⟩)
    | (go_at_call 16; refine (rRel K5.out).mono ?_; clear K5; rintro e w6 ⟨rfl, T⟩; have K6 : Hid (Tb W w6 B v u (bR 1 true) [(3, 0), (2, 1)]) := T; clear T)
    | (go_at_call 16; refine (rRel2 K6.out).mono ?_; clear K6; rintro e w7 ⟨rfl, T⟩; have K7 : Hid (Tb W w7 B v u (bR 1 true) [(3, 0), (2, 1)]) := T; clear T)
    | (go_at_call 12; refine (rSta K7.out).mono ?_; clear K7; rintro e w8 ⟨rfl, T⟩; have K8 : Hid (Tb W w8 B v u (bR 1 true) [(3, 0), (0, 1)]) := T; clear T)
    | (go_at_call 17; refine (rPre K8.out).mono ?_; clear K8; rintro e w9 ⟨rfl, T⟩; have K9 : Hid (Tb W w9 B v u (bR 1 true) [(3, 0), (2, 1)]) := T; clear T)
    | (go_at_call 13; refine (rRun0 K9.out).mono ?_; clear K9; rintro e w10 ⟨rfl, T⟩; have K10 : Hid (Tb W w10 B v u (bR 1 true) [(3, 0), (2, 1)]) := T; clear T)
    | (go_at_call 12; refine (rSta0 K10.out).mono ?_; clear K10; rintro e w11 ⟨rfl, T⟩; have K11 : Hid (Tb W w11 B v u (bR 1 true) [(3, 0), (2, 1)]) := T; clear T)
    | (go_at_call 12; refine (rSta K11.out).mono ?_; clear K11; rintro e w12 ⟨rfl, T⟩; have K12 : Hid (Tb W w12 B v u (bR 1 true) [(3, 0), (0, 1)]) := T; clear T)
    | (go_at_call 18; refine (rAga K12.out).mono ?_; clear K12; rintro e w13 ⟨rfl, T⟩; have K13 : Hid (Tb W w13 B v u (bR 1 true) [(3, 0), (2, 1)]) := T; clear T)
    | (go_at_call 15; refine (rStR K13.out).mono ?_; rintro e w135 ⟨rfl, rfl⟩)
    | (go_at_call 19; refine (rAcR K13.out).mono ?_; rintro e w136 ⟨rfl, rfl⟩)
    | (go_at_call 12; refine (rSta K13.out).mono ?_; clear K13; rintro e w14 ⟨rfl, T⟩; have K14 : Hid (Tb W w14 B v u (bR 1 true) [(3, 0), (0, 1)]) := T; clear T)
    | (go_at_call 20; refine (rEnd K14.out).mono ?_; clear K14; rintro e w15 ⟨rfl, T⟩; have K15 : Hid (Tb W w15 B v u (bR 1 true) [(3, 0), (3, 0)]) := T; clear T)
    | (go_at_call 19; refine (rAcA K15.out).mono ?_; rintro e w155 ⟨rfl, rfl⟩)
    | (go_at_call 10; refine (hA _ K15.out.b).mono ?_; rintro e w16 ⟨rfl, b16⟩))
  go_ret
  exact ⟨rfl, K15.out.b.trans (b16.mono K15.out.b.size)⟩
set_option maxHeartbeats 8000000 in
set_option maxRecDepth 100000 in
theorem round_bas (W : World) (hE : EnvR W) (m : Nat) (hm : m < 256) (h0 : 1 ≤ m) : Calls Tryd.prog 3 #[.int .u8 m, .bool false] W fun e w' => e = .returned (.bool true) ∧ Below W.heap.size W w' := by
  have hb := below_alloc W (.cells #[I 1, .bool false, I (m : Int), .bool false] 27)
  have hO : (W.alloc (.cells #[I 1, .bool false, I (m : Int), .bool false] 27)).ownsRow 0 27 2 (.slice (some ⟨W.heap.size, 0, none⟩) 2 2) 2 (flR (bR (m : Int) false)) := World.ownsRow_lit W _ 2 (Nat.zero_le _) (by unfold maxLen; omega) rfl
  have h0 : Calls Tryd.prog 8 #[.slice (some ⟨W.heap.size, 0, none⟩) 2 2] (W.alloc (.cells #[I 1, .bool false, I (m : Int), .bool false] 27)) _ := tNew (W := W) (rs := bR (m : Int) false) (Src.own hO) hb hE (bv0 (m : Int) false (by omega) (by omega) (fun h => by cases h))
  have hA := fun Z (hz : Below W.heap.size W Z) => alive_any Z (hE.up hz)
  have h1 : ¬ ((m : Int) < 1) := by omega
  clear hO hb hE
  go_enter Tryd.func3, Tryd.ntmps3
  go_wp2_with (first
    | (go_at_call 8; refine h0.mono ?_; clear h0; rintro e w1 ⟨B, v, u, rfl, T1, -, -⟩; have K1 : Hid (Tb W w1 B v u (bR (m : Int) false) [(3, 0), (3, 0)]) := T1; clear T1)
    | (go_at_call 9; refine (num_any _ _).mono ?_; rintro e w0 ⟨rfl, rfl⟩)
    | (go_at_call 11; refine (rAct K1.out (by omega)).mono ?_; clear K1; rintro e w2 ⟨rfl, T⟩; have K2 : Hid (Tb W w2 B v u (bR (m : Int) false) [(3, 0), (2, 1)]) := T; clear T)
    | (go_at_call 12; refine (rSta K2.out).mono ?_; clear K2; rintro e w3 ⟨rfl, T⟩; have K3 : Hid (Tb W w3 B v u (bR (m : Int) false) [(3, 0), (0, 1)]) := T; clear T)
    | (go_at_call 13; refine (rRun K3.out).mono ?_; clear K3; rintro e w4 ⟨rfl, T⟩; have K4 : Hid (Tb W w4 B v u (bR (m : Int) false) [(3, 0), (0, 1)]) := T; clear T)
    | (go_at_call 14; refine (rWaitF K4.out).mono ?_; clear K4; rintro e w8 ⟨rfl, T⟩; have K8 : Hid (Tb W w8 B v u (bR (m : Int) false) [(3, 0), (0, 1)]) := T; clear T)
    | (go_at_call 17; refine (rPre K8.out).mono ?_; clear K8; rintro e w9 ⟨rfl, T⟩; have K9 : Hid (Tb W w9 B v u (bR (m : Int) false) [(3, 0), (2, 1)]) := T; clear T)
    | (go_at_call 13; refine (rRun0 K9.out).mono ?_; clear K9; rintro e w10 ⟨rfl, T⟩; have K10 : Hid (Tb W w10 B v u (bR (m : Int) false) [(3, 0), (2, 1)]) := T; clear T)
    | (go_at_call 12; refine (rSta0 K10.out).mono ?_; clear K10; rintro e w11 ⟨rfl, T⟩; have K11 : Hid (Tb W w11 B v u (bR (m : Int) false) [(3, 0), (2, 1)]) := T; clear T)
    | (go_at_call 12; refine (rSta K11.out).mono ?_; clear K11; rintro e w12 ⟨rfl, T⟩; have K12 : Hid (Tb W w12 B v u (bR (m : Int) false) [(3, 0), (0, 1)]) := T; clear T)
    | (go_at_call 18; refine (rAga K12.out).mono ?_; clear K12; rintro e w13 ⟨rfl, T⟩; have K13 : Hid (Tb W w13 B v u (bR (m : Int) false) [(3, 0), (2, 1)]) := T; clear T)
    | (go_at_call 15; refine (rStR K13.out).mono ?_; rintro e w135 ⟨rfl, rfl⟩)
    | (go_at_call 19; refine (rAcR K13.out).mono ?_; rintro e w136 ⟨rfl, rfl⟩)
    | (go_at_call 12; refine (rSta K13.out).mono ?_; clear K13; rintro e w14 ⟨rfl, T⟩; have K14 : Hid (Tb W w14 B v u (bR (m : Int) false) [(3, 0), (0, 1)]) := T; clear T)
    | (go_at_call 20; refine (rEnd K14.out).mono ?_; clear K14; rintro e w15 ⟨rfl, T⟩; have K15 : Hid (Tb W w15 B v u (bR (m : Int) false) [(3, 0), (3, 0)]) := T; clear T)
    | (go_at_call 19; refine (rAcA K15.out).mono ?_; rintro e w155 ⟨rfl, rfl⟩)
    | (go_at_call 10; refine (hA _ K15.out.b).mono ?_; rintro e w16 ⟨rfl, b16⟩))
  go_ret
  exact ⟨rfl, K15.out.b.trans (b16.mono K15.out.b.size)⟩
set_option maxHeartbeats 8000000 in
set_option maxRecDepth 100000 in
theorem round_no (W : World) (hE : EnvR W) : Calls Tryd.prog 3 #[.int .u8 0, .bool false] W fun e w' => e = .returned (.bool true) ∧ Below W.heap.size W w' := by
  have hb := below_alloc W (.cells #[I 1, .bool false, I 0, .bool false] 27)
  have hO : (W.alloc (.cells #[I 1, .bool false, I 0, .bool false] 27)).ownsRow 0 27 2 (.slice (some ⟨W.heap.size, 0, none⟩) 2 2) 2 (flR (bR 0 false)) := World.ownsRow_lit W _ 2 (Nat.zero_le _) (by unfold maxLen; omega) rfl
  have h0 : Calls Tryd.prog 8 #[.slice (some ⟨W.heap.size, 0, none⟩) 2 2] (W.alloc (.cells #[I 1, .bool false, I 0, .bool false] 27)) _ := New_no (rs := bR 0 false) (Src.own hO) (by kernel_rfl) (by show 2 ≤ _; omega)
  have hA := fun Z (hz : Below W.heap.size W Z) => alive_any Z (hE.up hz)
  have HB : Hid (Below W.heap.size W (W.alloc (.cells #[I 1, .bool false, I 0, .bool false] 27))) := hb
  clear hO hb hE
  go_enter Tryd.func3, Tryd.ntmps3
  go_wp2_with (first
    | (go_at_call 8; refine h0.mono ?_; clear h0; rintro e w1 ⟨rfl, b1⟩; have H1 : Hid (Below W.heap.size W w1) := HB.out.trans (b1.mono HB.out.size); clear b1)
    | (go_at_call 9; refine (num_any _ _).mono ?_; rintro e w0 ⟨rfl, rfl⟩)
    | (go_at_call 10; refine (hA _ H1.out).mono ?_; rintro e w16 ⟨rfl, b16⟩))
  go_ret
  exact ⟨rfl, H1.out.trans (b16.mono H1.out.size)⟩
theorem round_law (W : World) (hE : EnvR W) (m : Nat) (hm : m < 256) (b : Bool) : Calls Tryd.prog 3 #[.int .u8 m, .bool b] W fun e w' => e = .returned (.bool true) ∧ Below W.heap.size W w' := by
  cases b with
  | true => exact round_ext W hE m hm
  | false =>
    by_cases h0 : 1 ≤ m
    · exact round_bas W hE m hm h0
    · obtain rfl : m = 0 := by omega
      exact round_no W hE
end Go.Proofs.YthmecgfbapemjaaDoor
