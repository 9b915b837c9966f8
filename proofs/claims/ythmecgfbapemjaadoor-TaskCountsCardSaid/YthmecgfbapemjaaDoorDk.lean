import Derived.Test.YthmecgfbapemjaaDoorDj
namespace Go.Proofs.YthmecgfbapemjaaDoor
open Go.RowKit Go.Shelf Go.Sort
set_option linter.unusedVariables false
set_option linter.unusedSimpArgs false

/-! ### A table, and the world that it was made in -/
structure Tb (W w : World) (B : Nat) (v u : Value) (rs : List Rw) (ss : List Sd) : Prop where
  c : Ck w B v u rs ss
  k : OKs rs ss
  b : Below W.heap.size W w
  o : ∀ b, Cb B v u b → W.heap.size ≤ b
  e : EnvR W
section
variable {W w w' : World} {B : Nat} {v u : Value} {rs : List Rw} {ss ss' : List Sd}
theorem Tb.env (h : Tb W w B v u rs ss) : EnvR w := h.e.up h.b
theorem Tb.below (h : Tb W w B v u rs ss) (hb : Below w.heap.size w w') : Tb W w' B v u rs ss := ⟨h.c.below hb, h.k, h.b.trans (hb.mono h.b.size), h.o, h.e⟩
theorem Tb.step (h : Tb W w B v u rs ss) (c : Ck w' B v u rs ss') (k : OKs rs ss') (f : Fz (Cb B v u) w w') : Tb W w' B v u rs ss' := ⟨c, k, h.b.trans (f.below h.b.size h.o), h.o, h.e⟩
theorem Tb.keep (h : Tb W w B v u rs ss) {M : Nat → Prop} (hf : Fz M w w') (hM : ∀ b, Cb B v u b → ¬ M b) (hW : ∀ b, M b → W.heap.size ≤ b) : Tb W w' B v u rs ss := ⟨h.c.keptZ hf hM, h.k, h.b.trans (hf.below h.b.size hW), h.o, h.e⟩
theorem tNew {x : Value} (h : Src w 2 x rs.length (flR rs)) (hb : Below W.heap.size W w) (hE : EnvR W) (hm : mayN rs = true) : Calls Tryd.prog 8 #[x] w fun e w' => ∃ B v u, e = .returned (.tuple #[cP B, I 0]) ∧ Tb W w' B v u rs (rstL rs.length) ∧ (∀ b, Cb B v u b → w.heap.size ≤ b) ∧ Below w.heap.size w w' := by
  refine (New_ok h (hE.up hb) hm).mono ?_
  rintro e w' ⟨B, v, u, rfl, k, o, b⟩
  have hs := hb.size
  exact ⟨B, v, u, rfl, ⟨k, OKs.rst hm, hb.trans (b.mono hs), fun x hx => by have := o x hx; omega, hE⟩, o, b⟩
theorem tActivate (h : Tb W w B v u rs ss) (t : Int) : Calls Tryd.prog 11 #[cP B, I t] w fun e w' => e = .returned (.tuple #[.bool (actB rs ss t), I (actS rs ss t)]) ∧ Tb W w' B v u rs (actL rs ss t) ∧ Fz (Cb B v u) w w' := by
  refine (Activate_any h.c h.k h.env t).mono ?_
  rintro e w' ⟨rfl, k, f⟩
  exact ⟨rfl, h.step k (h.k.act t) f, f⟩
theorem tStart (h : Tb W w B v u rs ss) (t : Int) : Calls Tryd.prog 12 #[cP B, I t] w fun e w' => e = .returned (I (staE rs ss t)) ∧ Tb W w' B v u rs (staL rs ss t) ∧ Fz (Cb B v u) w w' := by
  refine (Start_any h.c h.env t).mono ?_
  rintro e w' ⟨rfl, k, f⟩
  exact ⟨rfl, h.step k (h.k.sta t) f, f⟩
theorem tRelease (h : Tb W w B v u rs ss) (t : Int) : Calls Tryd.prog 16 #[cP B, I t] w fun e w' => e = .returned (I (relE rs ss t)) ∧ Tb W w' B v u rs (relL rs ss t) ∧ Fz (Cb B v u) w w' := by
  refine (Release_any h.c h.k h.env t).mono ?_
  rintro e w' ⟨rfl, k, f⟩
  exact ⟨rfl, h.step k (h.k.rel t) f, f⟩
theorem tPreempt (h : Tb W w B v u rs ss) : Calls Tryd.prog 17 #[cP B] w fun e w' => e = .returned (.tuple #[I (leaI rs ss 2), I (leaE rs ss 2)]) ∧ Tb W w' B v u rs (leaL rs ss 2) ∧ Fz (Cb B v u) w w' := by
  refine (Preempt_any h.c h.env).mono ?_
  rintro e w' ⟨rfl, k, f⟩
  exact ⟨rfl, h.step k (h.k.lea 2 (by omega)) f, f⟩
theorem tAgain (h : Tb W w B v u rs ss) : Calls Tryd.prog 18 #[cP B] w fun e w' => e = .returned (.tuple #[I (leaI rs ss 2), I (leaE rs ss 2)]) ∧ Tb W w' B v u rs (leaL rs ss 2) ∧ Fz (Cb B v u) w w' := by
  refine (Again_any h.c h.env).mono ?_
  rintro e w' ⟨rfl, k, f⟩
  exact ⟨rfl, h.step k (h.k.lea 2 (by omega)) f, f⟩
theorem tWait (h : Tb W w B v u rs ss) : Calls Tryd.prog 14 #[cP B] w fun e w' => e = .returned (.tuple #[I (leaI rs ss 1), I (leaE rs ss 1)]) ∧ Tb W w' B v u rs (leaL rs ss 1) ∧ Fz (Cb B v u) w w' := by
  refine (Wait_any h.c h.env).mono ?_
  rintro e w' ⟨rfl, k, f⟩
  exact ⟨rfl, h.step k (h.k.lea 1 (by omega)) f, f⟩
theorem tEnd (h : Tb W w B v u rs ss) : Calls Tryd.prog 20 #[cP B] w fun e w' => e = .returned (.tuple #[I (runI ss), I (endS ss), I (endE ss)]) ∧ Tb W w' B v u rs (endL ss) ∧ Fz (Cb B v u) w w' := by
  refine (End_any h.c h.k h.env).mono ?_
  rintro e w' ⟨rfl, k, f⟩
  exact ⟨rfl, h.step k h.k.fin f, f⟩
theorem tReset (h : Tb W w B v u rs ss) : Calls Tryd.prog 26 #[cP B] w fun e w' => e = .returned (.tuple #[]) ∧ Tb W w' B v u rs (rstL rs.length) ∧ Fz (Cb B v u) w w' := by
  refine (Reset_any h.c).mono ?_
  rintro e w' ⟨rfl, k, f⟩
  exact ⟨rfl, h.step k (OKs.rst h.k.may) f, f⟩
theorem tRunning (h : Tb W w B v u rs ss) : Calls Tryd.prog 13 #[cP B] w fun e w' => e = .returned (I (runI ss)) ∧ Tb W w' B v u rs ss ∧ Below w.heap.size w w' := by
  refine (Running_any h.c).mono ?_
  rintro e w' ⟨rfl, b⟩
  exact ⟨rfl, h.below b, b⟩
end
/-! ### num, alive -/
theorem num_any (w : World) (n : Int) : Calls Tryd.prog 9 #[I n] w fun e w' => e = .returned (I n) ∧ w = w' := by
  go_enter Tryd.func9, Tryd.ntmps9
  go_wp2
  go_ret
  exact ⟨rfl, rfl⟩
abbrev aR : List Rw := [(2, false), (1, true)]
theorem av0 : mayN aR = true := by kernel_rfl
theorem av1 : actB aR [(3, 0), (3, 0)] 0 = true ∧ actS aR [(3, 0), (3, 0)] 0 = 0 ∧ actL aR [(3, 0), (3, 0)] 0 = [(2, 1), (3, 0)] := by refine ⟨?_, ?_, ?_⟩ <;> kernel_rfl
theorem av2 : actB aR [(2, 1), (3, 0)] 0 = false ∧ actS aR [(2, 1), (3, 0)] 0 = 0 ∧ actL aR [(2, 1), (3, 0)] 0 = [(2, 2), (3, 0)] := by refine ⟨?_, ?_, ?_⟩ <;> kernel_rfl
theorem av3 : actB aR [(2, 2), (3, 0)] 0 = false ∧ actS aR [(2, 2), (3, 0)] 0 = 4 ∧ actL aR [(2, 2), (3, 0)] 0 = [(2, 2), (3, 0)] := by refine ⟨?_, ?_, ?_⟩ <;> kernel_rfl
theorem av4 : staE aR [(2, 2), (3, 0)] 0 = 0 ∧ staL aR [(2, 2), (3, 0)] 0 = [(0, 2), (3, 0)] := by refine ⟨?_, ?_⟩ <;> kernel_rfl
theorem av5 : staE aR [(0, 2), (3, 0)] 1 = 181 ∧ staL aR [(0, 2), (3, 0)] 1 = [(0, 2), (3, 0)] := by refine ⟨?_, ?_⟩ <;> kernel_rfl
theorem av6 : runI [(0, 2), (3, 0)] = 0 ∧ endS [(0, 2), (3, 0)] = 2 ∧ endE [(0, 2), (3, 0)] = 0 ∧ endL [(0, 2), (3, 0)] = [(2, 1), (3, 0)] := by refine ⟨?_, ?_, ?_, ?_⟩ <;> kernel_rfl
theorem av7 : actN aR.length [(2, 1), (3, 0)] 0 = 1 ∧ runI [(2, 1), (3, 0)] = -1 := by refine ⟨?_, ?_⟩ <;> kernel_rfl
set_option maxHeartbeats 8000000 in
set_option maxRecDepth 100000 in
theorem alive_any (W : World) (hE : EnvR W) : Calls Tryd.prog 10 #[] W fun e w' => e = .returned (.bool true) ∧ Below W.heap.size W w' := by
  have hb := below_alloc W (.cells #[I 2, .bool false, I 1, .bool true] 27)
  have hO : (W.alloc (.cells #[I 2, .bool false, I 1, .bool true] 27)).ownsRow 0 27 2 (.slice (some ⟨W.heap.size, 0, none⟩) 2 2) 2 (flR aR) := World.ownsRow_lit W _ 2 (Nat.zero_le _) (by unfold maxLen; omega) rfl
  have h0 : Calls Tryd.prog 8 #[.slice (some ⟨W.heap.size, 0, none⟩) 2 2] (W.alloc (.cells #[I 2, .bool false, I 1, .bool true] 27)) _ := tNew (W := W) (rs := aR) (Src.own hO) hb hE av0
  clear hO hb
  go_enter Tryd.func10, Tryd.ntmps10
  go_wp2_with (first
    | (go_at_call 8; refine h0.mono ?_; clear h0; rintro e w1 ⟨B, v, u, rfl, T1, -, -⟩; have K1 : Hid (Tb W w1 B v u aR [(3, 0), (3, 0)]) := T1; clear T1)
    | (go_at_call 9; refine (num_any _ _).mono ?_; rintro e w9 ⟨rfl, rfl⟩)
    | (go_at_call 11; have R := tActivate K1.out 0; rw [av1.1, av1.2.1, av1.2.2] at R; refine R.mono ?_; clear R K1; rintro e w2 ⟨rfl, T2, -⟩; have K2 : Hid (Tb W w2 B v u aR [(2, 1), (3, 0)]) := T2; clear T2)
    | (go_at_call 11; have R := tActivate K2.out 0; rw [av2.1, av2.2.1, av2.2.2] at R; refine R.mono ?_; clear R K2; rintro e w3 ⟨rfl, T3, -⟩; have K3 : Hid (Tb W w3 B v u aR [(2, 2), (3, 0)]) := T3; clear T3)
    | (go_at_call 11; have R := tActivate K3.out 0; rw [av3.1, av3.2.1, av3.2.2] at R; refine R.mono ?_; clear R K3; rintro e w4 ⟨rfl, T4, -⟩; have K4 : Hid (Tb W w4 B v u aR [(2, 2), (3, 0)]) := T4; clear T4)
    | (go_at_call 12; have R := tStart K4.out 0; rw [av4.1, av4.2] at R; refine R.mono ?_; clear R K4; rintro e w5 ⟨rfl, T5, -⟩; have K5 : Hid (Tb W w5 B v u aR [(0, 2), (3, 0)]) := T5; clear T5)
    | (go_at_call 12; have R := tStart K5.out 1; rw [av5.1, av5.2] at R; refine R.mono ?_; clear R K5; rintro e w6 ⟨rfl, T6, -⟩; have K6 : Hid (Tb W w6 B v u aR [(0, 2), (3, 0)]) := T6; clear T6)
    | (go_at_call 20; have R := tEnd K6.out; rw [av6.1, av6.2.1, av6.2.2.1, av6.2.2.2] at R; refine R.mono ?_; clear R K6; rintro e w7 ⟨rfl, T7, -⟩; have K7 : Hid (Tb W w7 B v u aR [(2, 1), (3, 0)]) := T7; clear T7)
    | (go_at_call 19; have R : Calls Tryd.prog 19 #[cP B, I 0] w7 _ := Active_any K7.out.c 0; rw [av7.1] at R; refine R.mono ?_; clear R; rintro e w8 ⟨rfl, rfl⟩)
    | (go_at_call 13; have R := tRunning K7.out; rw [av7.2] at R; refine R.mono ?_; clear R; rintro e w8 ⟨rfl, T8, -⟩; have K8 : Hid (Tb W w8 B v u aR [(2, 1), (3, 0)]) := T8; clear T8))
  go_ret
  exact ⟨rfl, K8.out.b⟩
end Go.Proofs.YthmecgfbapemjaaDoor
