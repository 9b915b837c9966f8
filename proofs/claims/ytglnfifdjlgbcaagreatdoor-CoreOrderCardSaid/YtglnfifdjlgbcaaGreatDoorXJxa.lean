import Derived.Test.YtglnfifdjlgbcaaGreatDoorXJr
namespace Go.Proofs.YtglnfifdjlgbcaaGreatDoor
open Go.RowKit Go.Maps Go.Shelf Go.Sort
open Go.Proofs.YtglnfifdjlgbcaaGreatDoor.St (Fx Fz iQ iP iV)
set_option linter.unusedVariables false
set_option linter.unusedSimpArgs false
set_option maxRecDepth 100000
set_option maxHeartbeats 8000000
def a0 : Cs := newS exT
def a1 : Cs := actC exT a0 0
def a2 : Cs := actC exT a1 0
def a3 : Cs := actC exT a2 0
def a4 : Cs := runS exT a3
def a5 : Cs := actC exT a4 1
def a6 : Cs := preS a5
def a7 : Cs := offC (asdC 3 exT a6 (Tk.runI a6.ss))
def a8 : Cs := runS exT a7
def a9 : Cs := wevS exT a8 1
def a10 : Cs := offC (waiC exT a9 (Tk.runI a9.ss))
def a11 : Cs := runS exT a10
def a12 : Cs := sevS exT a11 1 1
def okB (s : Cs) : Bool := s.st.all (fun x => decide (0 ≤ x ∧ x < 3)) && s.rq.all (fun r => r.l.all (fun x => decide (0 ≤ x ∧ x < 3)))
theorem okn_of {s : Cs} (h : okB s = true) : OKn exT s := by
  unfold okB at h
  rw [Bool.and_eq_true] at h
  refine ⟨fun x hx => ?_, fun r hr x hx => ?_⟩
  · have := List.all_eq_true.1 h.1 x hx
    exact (by simpa using this : 0 ≤ x ∧ x < (3 : Int))
  · have := List.all_eq_true.1 (List.all_eq_true.1 h.2 r hr) x hx
    exact (by simpa using this : 0 ≤ x ∧ x < (3 : Int))
theorem ea1 : Tk.actS (actR exT) a0.ss 0 = 0 := by kernel_rfl
theorem ea2 : Tk.actS (actR exT) a1.ss 0 = 0 := by kernel_rfl
theorem ea3 : Tk.actS (actR exT) a2.ss 0 = 4 := by kernel_rfl
theorem eo3 : okB a3 = true := by kernel_rfl
theorem er4 : runT exT a3 = 0 ∧ runE a3 = 0 := by constructor <;> kernel_rfl
theorem ea5 : Tk.actS (actR exT) a4.ss 1 = 0 := by kernel_rfl
theorem ed5 : callA a5 = 0 ∧ callO a5 = ((0 : Nat) : Int) ∧ aboveQ a5.rq (prioO exT a5.l ⟨false, ((0 : Nat) : Int)⟩) = true := by refine ⟨?_, ?_, ?_⟩ <;> kernel_rfl
theorem ep6 : preA a5 = 0 := by kernel_rfl
theorem ec7 : a6.lv = 4 ∧ Tk.runI a6.ss = 0 := by constructor <;> kernel_rfl
theorem eo7 : okB a7 = true := by kernel_rfl
theorem er8 : runT exT a7 = 1 ∧ runE a7 = 0 := by constructor <;> kernel_rfl
theorem ew9 : wevA exT a8 = 0 := by kernel_rfl
theorem el9 : a9.lv = 3 ∧ Tk.runI a9.ss = 1 := by constructor <;> kernel_rfl
theorem eo10 : okB a10 = true := by kernel_rfl
theorem er11 : runT exT a10 = 0 ∧ runE a10 = 0 := by constructor <;> kernel_rfl
theorem es12 : hevA exT a11 1 = 0 := by kernel_rfl
theorem ed12 : callA a12 = 0 ∧ callO a12 = ((0 : Nat) : Int) ∧ aboveQ a12.rq (prioO exT a12.l ⟨false, ((0 : Nat) : Int)⟩) = true := by refine ⟨?_, ?_, ?_⟩ <;> kernel_rfl
theorem eq12 : Tk.runI a12.ss = 0 := by kernel_rfl
theorem num20 (w : World) (n : Int) : Calls Tryz.prog 8 #[I n] w fun e w' => e = .returned (I n) ∧ w = w' := by
  go_enter Tryz.func8, Tryz.ntmps8
  go_wp2
  go_ret
  exact ⟨rfl, rfl⟩
theorem alive20 (W : World) (hE : Tk.EnvR W) : Calls Tryz.prog 9 #[] W fun e w' => e = .returned (.bool true) ∧ Below W.heap.size W w' := by
  have hX := example_any W
  have hNum := num20
  have HE : Hid (Tk.EnvR W) := hE
  clear hE
  go_enter Tryz.func9, Tryz.ntmps9
  go_wp2_with (first
    | (go_at_call 8; refine (hNum _ _).mono ?_; rintro e wn ⟨rfl, rfl⟩)
    | (go_at_call 34; refine hX.mono ?_; clear hX; rintro e w0 ⟨v, rfl, ht, b0⟩; have hN := cNew_ok w0 exT v ht ex_wf ex_chk (HE.out.up b0); have B0 : Hid (Below W.heap.size W w0) := b0; clear ht b0)
    | (go_at_call 7; refine hN.mono ?_; clear hN; rintro e w1 ⟨zn, p, rfl, k1, hd, b1⟩; have HD : Hid (p.d = 3) := hd; have C0 : Hid (Co w0 w1 zn exT p a0) := k1; have B1 : Hid (Below W.heap.size W w1) := B0.out.trans (b1.mono B0.out.size); have HZ : Hid (∀ W', Fz (Zn zn) w1 W' → Below W.heap.size W W') := (fun W' hf => B1.out.trans (hf.below B1.out.size (fun x hx => by have := (C0.out.zW x hx).1; have := B0.out.size; omega))); have h1 := cActivate C0.out 0; rw [ea1] at h1; have F0 : Hid (Fz (Zn zn) w1 w1) := Fz.refl _ _; clear hd k1 b1)
    | (go_at_call 10; refine h1.mono ?_; clear h1; rintro e u1 ⟨rfl, kk, ff⟩; have C1 : Hid (Co w0 u1 zn exT p a1) := kk; have F1 : Hid (Fz (Zn zn) w1 u1) := F0.out.trans ff; clear kk ff; have h2 := cActivate C1.out 0; rw [ea2] at h2)
    | (go_at_call 10; refine h2.mono ?_; clear h2; rintro e u2 ⟨rfl, kk, ff⟩; have C2 : Hid (Co w0 u2 zn exT p a2) := kk; have F2 : Hid (Fz (Zn zn) w1 u2) := F1.out.trans ff; clear kk ff; have h3 := cActivate C2.out 0; rw [ea3] at h3)
    | (go_at_call 10; refine h3.mono ?_; clear h3; rintro e u3 ⟨rfl, kk, ff⟩; have C3 : Hid (Co w0 u3 zn exT p a3) := kk; have F3 : Hid (Fz (Zn zn) w1 u3) := F2.out.trans ff; clear kk ff; have h4 := cRun C3.out (okn_of eo3); rw [er4.1, er4.2] at h4)
    | (go_at_call 11; refine h4.mono ?_; clear h4; rintro e u4 ⟨rfl, kk, ff⟩; have C4 : Hid (Co w0 u4 zn exT p a4) := kk; have F4 : Hid (Fz (Zn zn) w1 u4) := F3.out.trans ff; clear kk ff; have h5 := cActivate C4.out 1; rw [ea5] at h5)
    | (go_at_call 10; refine h5.mono ?_; clear h5; rintro e u5 ⟨rfl, kk, ff⟩; have C5 : Hid (Co w0 u5 zn exT p a5) := kk; have F5 : Hid (Fz (Zn zn) w1 u5) := F4.out.trans ff; clear kk ff; have h6 := cDue_full C5.out ed5.1 ed5.2.1 (x := ⟨1, 2, true, 2, 0, -1, [], 0⟩) rfl rfl; rw [ed5.2.2] at h6)
    | (go_at_call 16; refine h6.mono ?_; clear h6; rintro e u6 ⟨rfl, bb⟩; have C6 : Hid (Co w0 u6 zn exT p a5) := C5.out.below bb; have F6 : Hid (Fz (Zn zn) w1 u6) := F5.out.trans (Fz.of_below bb); clear bb; have h7 := cPreempt C6.out; rw [ep6] at h7)
    | (go_at_call 18; refine h7.mono ?_; clear h7; rintro e u7 ⟨rfl, kk, ff⟩; have C7 : Hid (Co w0 u7 zn exT p a6) := kk; have F7 : Hid (Fz (Zn zn) w1 u7) := F6.out.trans ff; clear kk ff; have h8 := cCarry_4 C7.out ec7.1 (by rw [ec7.2]; decide); rw [ec7.2, HD.out] at h8)
    | (go_at_call 13; refine h8.mono ?_; clear h8; rintro e u8 ⟨rfl, kk, ff⟩; have C8 : Hid (Co w0 u8 zn exT p a7) := kk; have F8 : Hid (Fz (Zn zn) w1 u8) := F7.out.trans ff; clear kk ff; have h9 := cRun C8.out (okn_of eo7); rw [er8.1, er8.2] at h9)
    | (go_at_call 11; refine h9.mono ?_; clear h9; rintro e u9 ⟨rfl, kk, ff⟩; have C9 : Hid (Co w0 u9 zn exT p a8) := kk; have F9 : Hid (Fz (Zn zn) w1 u9) := F8.out.trans ff; clear kk ff; have h10 := cWaitEvent C9.out 1; rw [ew9] at h10)
    | (go_at_call 35; refine h10.mono ?_; clear h10; rintro e u10 ⟨rfl, kk, ff⟩; have C10 : Hid (Co w0 u10 zn exT p a9) := kk; have F10 : Hid (Fz (Zn zn) w1 u10) := F9.out.trans ff; clear kk ff; have h11 := cLeaving C10.out; rw [el9.1] at h11)
    | (go_at_call 36; refine h11.mono ?_; clear h11; rintro e u11 ⟨rfl, rfl⟩; have C11 : Hid (Co w0 u10 zn exT p a9) := C10.out; have F11 : Hid (Fz (Zn zn) w1 u10) := F10.out; have h12 := cCarry_3 C11.out el9.1 (by rw [el9.2]; decide); rw [el9.2] at h12)
    | (go_at_call 13; refine h12.mono ?_; clear h12; rintro e u12 ⟨rfl, kk, ff⟩; have C12 : Hid (Co w0 u12 zn exT p a10) := kk; have F12 : Hid (Fz (Zn zn) w1 u12) := F11.out.trans ff; clear kk ff; have h13 := cRun C12.out (okn_of eo10); rw [er11.1, er11.2] at h13)
    | (go_at_call 11; refine h13.mono ?_; clear h13; rintro e u13 ⟨rfl, kk, ff⟩; have C13 : Hid (Co w0 u13 zn exT p a11) := kk; have F13 : Hid (Fz (Zn zn) w1 u13) := F12.out.trans ff; clear kk ff; have h14 := cSetEvent C13.out 1 1; rw [es12] at h14)
    | (go_at_call 37; refine h14.mono ?_; clear h14; rintro e u14 ⟨rfl, kk, ff⟩; have C14 : Hid (Co w0 u14 zn exT p a12) := kk; have F14 : Hid (Fz (Zn zn) w1 u14) := F13.out.trans ff; clear kk ff; have h15 := cDue_full C14.out ed12.1 ed12.2.1 (x := ⟨1, 2, true, 2, 0, -1, [], 0⟩) rfl rfl; rw [ed12.2.2] at h15)
    | (go_at_call 16; refine h15.mono ?_; clear h15; rintro e u15 ⟨rfl, bb⟩; have C15 : Hid (Co w0 u15 zn exT p a12) := C14.out.below bb; have F15 : Hid (Fz (Zn zn) w1 u15) := F14.out.trans (Fz.of_below bb); clear bb; have h16 := cRunning C15.out; rw [eq12] at h16)
    | (go_at_call 17; refine h16.mono ?_; clear h16; rintro e u16 ⟨rfl, bb⟩; have C16 : Hid (Co w0 u16 zn exT p a12) := C15.out.below bb; have F16 : Hid (Fz (Zn zn) w1 u16) := F15.out.trans (Fz.of_below bb); clear bb; skip))
  go_ret
  exact ⟨rfl, HZ.out _ F16.out⟩
end Go.Proofs.YtglnfifdjlgbcaaGreatDoor

namespace Go.Proofs.YtglnfifdjlgbcaaGreatDoor
open Go.RowKit Go.Maps Go.Shelf Go.Sort
open Go.Proofs.YtglnfifdjlgbcaaGreatDoor.St (Fx Fz iQ iP iV)
set_option linter.unusedVariables false
set_option linter.unusedSimpArgs false
set_option maxRecDepth 100000
set_option maxHeartbeats 4000000
/-! ### who is to run, in order -/
def allL : List Re.Rr → List Int
  | [] => []
  | r :: rs => r.l ++ allL rs
def geP (tb : Tb) (p : Int) (y : Int) : Bool := decide (p ≤ prT tb y)
def insW (tb : Tb) (want : List Int) (t : Int) : List Int := want.takeWhile (geP tb (prT tb t)) ++ [t] ++ want.dropWhile (geP tb (prT tb t))
/-- each ring holds tasks of its own priority -/
def OfP (tb : Tb) (rq : List Re.Rr) : Prop := ∀ r ∈ rq, ∀ x ∈ r.l, prT tb x = (r.p : Int) ∧ 0 ≤ x ∧ x < tb.tasks.length
theorem take_all {p : Int → Bool} : ∀ {a b : List Int}, (∀ x ∈ a, p x = true) → (a ++ b).takeWhile p = a ++ b.takeWhile p ∧ (a ++ b).dropWhile p = b.dropWhile p
  | [], b, _ => ⟨rfl, rfl⟩
  | x :: a, b, h => by
    have h0 := h x List.mem_cons_self
    obtain ⟨h1, h2⟩ := take_all (a := a) (b := b) (fun y hy => h y (List.mem_cons_of_mem _ hy))
    constructor
    · rw [List.cons_append, List.takeWhile_cons, h0, if_pos rfl, h1]; rfl
    · rw [List.cons_append, List.dropWhile_cons, h0, if_pos rfl, h2]
theorem take_none {p : Int → Bool} {b : List Int} (h : ∀ x ∈ b, p x = false) : b.takeWhile p = [] ∧ b.dropWhile p = b := by
  cases b with
  | nil => exact ⟨rfl, rfl⟩
  | cons x b =>
    have h0 := h x List.mem_cons_self
    exact ⟨by rw [List.takeWhile_cons, h0]; rfl, by rw [List.dropWhile_cons, h0]; rfl⟩
theorem mem_all {rq : List Re.Rr} {x : Int} : x ∈ allL rq ↔ ∃ r ∈ rq, x ∈ r.l := by
  induction rq with
  | nil => simp [allL]
  | cons r rs ih => simp [allL, ih]
theorem fall_tail {r : Re.Rr} {rs : List Re.Rr} (h : Re.Fall (r :: rs)) : Re.Fall rs ∧ ∀ b ∈ rs, b.p < r.p := by
  refine ⟨fun i j a b hij ha hb => h (i + 1) (j + 1) a b (by omega) (by simpa using ha) (by simpa using hb), fun b hb => ?_⟩
  obtain ⟨i, hi⟩ := List.getElem?_of_mem hb
  exact h 0 (i + 1) r b (by omega) rfl (by simpa using hi)
theorem join_all {tb : Tb} {t : Int} : ∀ {rq : List Re.Rr}, Re.Fall rq → OfP tb rq → (∃ r ∈ rq, (r.p : Int) = prT tb t ∧ r.l.length < r.c) → allL (joinQ rq (prT tb t) t) = insW tb (allL rq) t
  | [], _, _, h => by obtain ⟨r, hr, -⟩ := h; cases hr
  | r :: rs, hf, ho, h => by
    obtain ⟨hf2, hlt⟩ := fall_tail hf
    have ho2 : OfP tb rs := fun b hb => ho b (List.mem_cons_of_mem _ hb)
    by_cases e : (r.p : Int) = prT tb t
    · have hl : r.l.length < r.c := by
        obtain ⟨b, hb, h1, h2⟩ := h
        rcases List.mem_cons.1 hb with rfl | hb
        · exact h2
        · have := hlt b hb; omega
      have hn : joinQ rs (prT tb t) t = rs := by
        apply joinQ_no
        intro i b hi e2
        have := hlt b (List.mem_of_getElem? hi)
        omega
      have e1 : joinQ (r :: rs) (prT tb t) t = putR r t :: rs := by
        show List.map _ (r :: rs) = _
        rw [List.map_cons, if_pos ⟨e, hl⟩]
        exact congrArg _ hn
      rw [e1]
      unfold insW
      show (r.l ++ [t]) ++ allL rs = _
      obtain ⟨a1, a2⟩ := take_all (p := geP tb (prT tb t)) (a := r.l) (b := allL rs) (fun x hx => by unfold geP; rw [(ho r List.mem_cons_self x hx).1]; simp; omega)
      obtain ⟨b1, b2⟩ := take_none (p := geP tb (prT tb t)) (b := allL rs) (fun x hx => by
        obtain ⟨b, hb, hx⟩ := mem_all.1 hx
        unfold geP
        rw [(ho2 b hb x hx).1]
        have := hlt b hb
        simp; omega)
      show _ = (r.l ++ allL rs).takeWhile _ ++ [t] ++ (r.l ++ allL rs).dropWhile _
      rw [a1, a2, b1, b2]
      simp
    · obtain ⟨b, hb, h1, h2⟩ := h
      have hb2 : b ∈ rs := by
        rcases List.mem_cons.1 hb with rfl | hb
        · exact absurd h1 e
        · exact hb
      have ih := join_all (rq := rs) hf2 ho2 ⟨b, hb2, h1, h2⟩
      have e1 : joinQ (r :: rs) (prT tb t) t = r :: joinQ rs (prT tb t) t := by
        show List.map _ (r :: rs) = _
        rw [List.map_cons, if_neg (fun c => e c.1)]
        rfl
      rw [e1]
      unfold insW at ih ⊢
      show r.l ++ allL (joinQ rs (prT tb t) t) = (r.l ++ allL rs).takeWhile _ ++ [t] ++ (r.l ++ allL rs).dropWhile _
      have hp := hlt b hb2
      obtain ⟨a1, a2⟩ := take_all (p := geP tb (prT tb t)) (a := r.l) (b := allL rs) (fun x hx => by unfold geP; rw [(ho r List.mem_cons_self x hx).1]; simp; omega)
      rw [a1, a2, ih]
      simp
theorem take_all_eq {rq : List Re.Rr} : (allL rq = [] ↔ topQ rq = none) ∧ ∀ x l, allL rq = x :: l → (takQ rq).1 = x ∧ allL (takQ rq).2 = l := by
  induction rq with
  | nil => exact ⟨⟨fun _ => rfl, fun _ => rfl⟩, fun x l h => by cases h⟩
  | cons r rs ih =>
    cases hl : r.l with
    | nil =>
      have e1 : allL (r :: rs) = allL rs := by show r.l ++ _ = _; rw [hl]; rfl
      have e2 : topQ (r :: rs) = topQ rs := by unfold topQ; rw [List.find?_cons_of_neg (by simp [hl])]
      have e3 : takQ (r :: rs) = ((takQ rs).1, r :: (takQ rs).2) := by rw [takQ, hl]
      rw [e1, e2, e3]
      refine ⟨ih.1, fun x l h => ?_⟩
      obtain ⟨h1, h2⟩ := ih.2 x l h
      refine ⟨h1, ?_⟩
      show r.l ++ _ = _
      rw [hl, h2]; rfl
    | cons v t =>
      have e1 : allL (r :: rs) = v :: (t ++ allL rs) := by show r.l ++ _ = _; rw [hl]; rfl
      have e2 : topQ (r :: rs) = some r.p := by unfold topQ; rw [List.find?_cons_of_pos (by simp [hl])]; rfl
      have e3 : takQ (r :: rs) = (v, ⟨r.p, r.c, r.h, t⟩ :: rs) := by rw [takQ, hl]
      rw [e1, e2, e3]
      refine ⟨⟨fun h => (by cases h), fun h => (by cases h)⟩, fun x l h => ?_⟩
      cases h
      exact ⟨rfl, rfl⟩
end Go.Proofs.YtglnfifdjlgbcaaGreatDoor

namespace Go.Proofs.YtglnfifdjlgbcaaGreatDoor
open Go.RowKit Go.Maps Go.Shelf Go.Sort
open Go.Proofs.YtglnfifdjlgbcaaGreatDoor.St (Fx Fz iQ iP iV)
set_option linter.unusedVariables false
set_option linter.unusedSimpArgs false
set_option maxRecDepth 100000
set_option maxHeartbeats 4000000
/-! ### no ring is too small -/
def cntF (p : Int) (l : List Int) : List TkR → Nat → Nat
  | [], _ => 0
  | x :: ts, i => (if x.prio = p then l.count (i : Int) else 0) + cntF p l ts (i + 1)
theorem cntF_lo {p y : Int} {l : List Int} : ∀ (ts : List TkR) (i : Nat), y < (i : Int) → cntF p (y :: l) ts i = cntF p l ts i
  | [], _, _ => rfl
  | x :: ts, i, h => by
    unfold cntF
    rw [cntF_lo ts (i + 1) (by omega), List.count_cons_of_ne (by omega)]
theorem cntF_in {p y : Int} {l : List Int} : ∀ (ts : List TkR) (i : Nat), (∃ (j : Nat) (x : TkR), y = ((i + j : Nat) : Int) ∧ ts[j]? = some x ∧ x.prio = p) → cntF p (y :: l) ts i = cntF p l ts i + 1
  | [], _, h => by obtain ⟨j, x, -, h, -⟩ := h; simp at h
  | x :: ts, i, h => by
    obtain ⟨j, z, h1, h2, h3⟩ := h
    unfold cntF
    cases j with
    | zero =>
      simp at h2
      subst h2
      have e : y = (i : Int) := by omega
      subst e
      rw [if_pos h3, if_pos h3, cntF_lo ts (i + 1) (by omega), List.count_cons_self]
      omega
    | succ j =>
      have ih := cntF_in (p := p) (y := y) (l := l) ts (i + 1) ⟨j, z, by omega, by simpa using h2, h3⟩
      rw [ih, List.count_cons_of_ne (by omega)]
      omega
theorem cntF_nil {p : Int} : ∀ (ts : List TkR) (i : Nat), cntF p [] ts i = 0
  | [], _ => rfl
  | x :: ts, i => by unfold cntF; rw [cntF_nil ts (i + 1)]; simp
theorem prT_at {tb : Tb} {k : Nat} {x : TkR} (h : tb.tasks[k]? = some x) : prT tb k = x.prio := by unfold prT; rw [Int.toNat_natCast, h]
theorem len_cnt {tb : Tb} {p : Int} : ∀ {l : List Int}, (∀ y ∈ l, prT tb y = p ∧ 0 ≤ y ∧ y < tb.tasks.length) → l.length = cntF p l tb.tasks 0
  | [], _ => (cntF_nil _ _).symm
  | y :: l, h => by
    obtain ⟨h1, h2, h3⟩ := h y List.mem_cons_self
    obtain ⟨k, rfl⟩ := Int.eq_ofNat_of_zero_le h2
    obtain ⟨x, hx⟩ : ∃ x, tb.tasks[k]? = some x := ⟨_, List.getElem?_eq_getElem (by omega)⟩
    rw [cntF_in tb.tasks 0 ⟨k, x, by simp, hx, by rw [← prT_at hx]; exact h1⟩, List.length_cons, len_cnt (l := l) (fun z hz => h z (List.mem_cons_of_mem _ hz))]
theorem cnt_cap {p : Int} {l : List Int} : ∀ (ts : List TkR) (i : Nat), (∀ (j : Nat) (x : TkR), ts[j]? = some x → x.prio = p → (l.count ((i + j : Nat) : Int) : Int) ≤ x.limit) → (cntF p l ts i : Int) ≤ capN ts p ∧ ((∃ (j : Nat) (x : TkR), ts[j]? = some x ∧ x.prio = p ∧ (l.count ((i + j : Nat) : Int) : Int) < x.limit) → (cntF p l ts i : Int) < capN ts p)
  | [], _, _ => ⟨by simp [cntF, capN], fun ⟨j, x, h, _⟩ => by simp at h⟩
  | x :: ts, i, h => by
    obtain ⟨i1, i2⟩ := cnt_cap (p := p) (l := l) ts (i + 1) (fun j z hz hp => by
      have := h (j + 1) z (by simpa using hz) hp
      rwa [show i + (j + 1) = i + 1 + j by omega] at this)
    have h0 := h 0 x rfl
    rw [Nat.add_zero] at h0
    unfold cntF capN
    by_cases e : x.prio = p
    · rw [if_pos e, if_pos e]
      have h0' := h0 e
      refine ⟨by omega, fun ⟨j, z, a1, a2, a3⟩ => ?_⟩
      cases j with
      | zero => simp at a1; subst a1; rw [Nat.add_zero] at a3; omega
      | succ j =>
        have := i2 ⟨j, z, by simpa using a1, a2, by rwa [show i + 1 + j = i + (j + 1) by omega]⟩
        omega
    · rw [if_neg e, if_neg e]
      refine ⟨by omega, fun ⟨j, z, a1, a2, a3⟩ => ?_⟩
      cases j with
      | zero => simp at a1; subst a1; exact absurd a2 e
      | succ j =>
        have := i2 ⟨j, z, by simpa using a1, a2, by rwa [show i + 1 + j = i + (j + 1) by omega]⟩
        omega
/-! ### while nobody runs -/
def sdW (want : List Int) (k : Nat) : Tk.Sd := (if want.count (k : Int) = 0 then 3 else 2, want.count (k : Int))
structure OI (tb : Tb) (s : Cs) (want : List Int) : Prop where
  lv : s.lv = 0
  st : s.st = []
  L : s.l.L = []
  all : allL s.rq = want
  of : OfP tb s.rq
  fall : Re.Fall s.rq
  rg : s.rq.map (fun r => ((r.p : Int), (r.c : Int))) = rgP tb
  ss : s.ss = (List.range tb.tasks.length).map (sdW want)
section
variable {tb : Tb} {s : Cs} {want : List Int}
theorem OI.at (h : OI tb s want) {k : Nat} (hk : k < tb.tasks.length) : s.ss[k]? = some (sdW want k) := by
  rw [h.ss, List.getElem?_map, List.getElem?_range hk]; rfl
theorem OI.run (h : OI tb s want) : Tk.runI s.ss = -1 := by
  rcases Tk.run_cases s.ss with ⟨h1, -⟩ | ⟨k, n, h1, h2⟩
  · exact h1
  · have hk := (List.getElem?_eq_some_iff.1 h2).1
    rw [h.ss, List.length_map, List.length_range] at hk
    rw [h.at hk] at h2
    unfold sdW at h2
    have := congrArg (fun z => (z.getD (0, 0)).1) h2
    simp at this
    split at this <;> cases this
/-- a task stands in the ring of its own priority alone -/
theorem count_all {tb : Tb} {k : Nat} {x : TkR} (hx : tb.tasks[k]? = some x) : ∀ {rq : List Re.Rr}, OfP tb rq → Re.Fall rq → ∀ r ∈ rq, (r.p : Int) = x.prio → (allL rq).count (k : Int) = r.l.count (k : Int)
  | a :: rs, ho, hf, r, hr, hp => by
    obtain ⟨hf2, hlt⟩ := fall_tail hf
    have ho2 : OfP tb rs := fun b hb => ho b (List.mem_cons_of_mem _ hb)
    show (a.l ++ allL rs).count _ = _
    rw [List.count_append]
    have hpk := prT_at hx
    rcases List.mem_cons.1 hr with rfl | hr
    · have : (allL rs).count (k : Int) = 0 := List.count_eq_zero.2 (fun hm => by
        obtain ⟨b, hb, hxb⟩ := mem_all.1 hm
        have h1 := (ho2 b hb _ hxb).1
        have h2 := hlt b hb
        omega)
      omega
    · have h0 : a.l.count (k : Int) = 0 := List.count_eq_zero.2 (fun hm => by
        have h1 := (ho a List.mem_cons_self _ hm).1
        have h2 := hlt r hr
        omega)
      rw [h0, count_all hx ho2 hf2 r hr hp]
      omega
theorem OI.room (h : OI tb s want) (ck : CkT tb) (hlim : ∀ (k : Nat) (x : TkR), tb.tasks[k]? = some x → (want.count (k : Int) : Int) ≤ x.limit) {k : Nat} {x : TkR} (hx : tb.tasks[k]? = some x) (hk : (want.count (k : Int) : Int) < x.limit) : ∃ r ∈ s.rq, (r.p : Int) = prT tb k ∧ r.l.length < r.c := by
  obtain ⟨q, hq, hq0, hqp⟩ := ck.rng x (List.mem_of_getElem? hx)
  have hm : (rgP tb)[x.ring.toNat]? = some (q.prio, q.cap) := by unfold rgP; rw [List.getElem?_map, hq]; rfl
  rw [← h.rg, List.getElem?_map] at hm
  obtain ⟨r, hr, e⟩ := Option.map_eq_some_iff.1 hm
  have e1 : (r.p : Int) = q.prio := congrArg Prod.fst e
  have e2 : (r.c : Int) = q.cap := congrArg Prod.snd e
  have hrm := List.mem_of_getElem? hr
  refine ⟨r, hrm, by rw [e1, hqp, prT_at hx], ?_⟩
  have hlen := len_cnt (tb := tb) (p := q.prio) (l := r.l) (fun y hy => by obtain ⟨a1, a2⟩ := h.of r hrm y hy; exact ⟨by rw [a1, e1], a2⟩)
  have hc : ∀ (j : Nat) (z : TkR), tb.tasks[j]? = some z → z.prio = q.prio → (r.l.count (j : Int)) = want.count (j : Int) := fun j z hz hp => by
    rw [← h.all]
    exact (count_all hz h.of h.fall r hrm (by rw [e1, hp])).symm
  have := (cnt_cap (p := q.prio) (l := r.l) tb.tasks 0 (fun j z hz hp => by rw [Nat.zero_add, hc j z hz hp]; exact hlim j z hz)).2 ⟨k, x, hx, hqp.symm, by rw [Nat.zero_add, hc k x hx hqp.symm]; exact hk⟩
  rw [← hlen, ← ck.cap q (List.mem_of_getElem? hq), ← e2] at this
  omega
end
end Go.Proofs.YtglnfifdjlgbcaaGreatDoor

namespace Go.Proofs.YtglnfifdjlgbcaaGreatDoor
open Go.RowKit Go.Maps Go.Shelf Go.Sort
open Go.Proofs.YtglnfifdjlgbcaaGreatDoor.St (Fx Fz iQ iP iV)
set_option linter.unusedVariables false
set_option linter.unusedSimpArgs false
set_option maxRecDepth 100000
set_option maxHeartbeats 4000000
def LimW (tb : Tb) (want : List Int) : Prop := ∀ (k : Nat) (x : TkR), tb.tasks[k]? = some x → (want.count (k : Int) : Int) ≤ x.limit
theorem ins_count (tb : Tb) (want : List Int) (t y : Int) : (insW tb want t).count y = want.count y + (if t = y then 1 else 0) := by
  have h := List.takeWhile_append_dropWhile (p := geP tb (prT tb t)) (l := want)
  have h2 := congrArg (List.count y) h
  rw [List.count_append] at h2
  unfold insW
  rw [List.count_append, List.count_append]
  by_cases e : t = y
  · subst e; simp; omega
  · rw [if_neg e, List.count_cons_of_ne e]; simp; omega
theorem join_pc (rq : List Re.Rr) (p t : Int) : (joinQ rq p t).map (fun r => ((r.p : Int), (r.c : Int))) = rq.map (fun r => ((r.p : Int), (r.c : Int))) := by
  unfold joinQ
  rw [List.map_map]
  apply List.map_congr_left
  intro r _
  simp only [Function.comp]
  split <;> rfl
theorem join_of {tb : Tb} {rq : List Re.Rr} (h : OfP tb rq) {t : Int} (ht : 0 ≤ t ∧ t < tb.tasks.length) : OfP tb (joinQ rq (prT tb t) t) := by
  intro r hr x hx
  unfold joinQ at hr
  obtain ⟨b, hb, rfl⟩ := List.mem_map.1 hr
  by_cases e : (b.p : Int) = prT tb t ∧ b.l.length < b.c
  · rw [if_pos e] at hx ⊢
    rcases List.mem_append.1 hx with hx | hx
    · exact h b hb x hx
    · have := List.mem_singleton.1 hx
      subst this
      exact ⟨e.1.symm, ht⟩
  · rw [if_neg e] at hx ⊢
    exact h b hb x hx
theorem tak_pc : ∀ (rq : List Re.Rr), (takQ rq).2.map (fun r => ((r.p : Int), (r.c : Int))) = rq.map (fun r => ((r.p : Int), (r.c : Int)))
  | [] => rfl
  | r :: rs => by
    cases hl : r.l with
    | nil => rw [takQ, hl]; simp only [List.map_cons, tak_pc rs]
    | cons v t => rw [takQ, hl]; rfl
theorem tak_of {tb : Tb} : ∀ {rq : List Re.Rr}, OfP tb rq → OfP tb (takQ rq).2
  | [], h => h
  | r :: rs, h => by
    have h2 : OfP tb rs := fun b hb => h b (List.mem_cons_of_mem _ hb)
    cases hl : r.l with
    | nil =>
      rw [takQ, hl]
      intro b hb x hx
      rcases List.mem_cons.1 hb with rfl | hb
      · exact h b List.mem_cons_self x hx
      · exact tak_of h2 b hb x hx
    | cons v t =>
      rw [takQ, hl]
      intro b hb x hx
      rcases List.mem_cons.1 hb with rfl | hb
      · exact h r List.mem_cons_self x (by rw [hl]; exact List.mem_cons_of_mem _ hx)
      · exact h2 b hb x hx
section
variable {tb : Tb} {s : Cs} {want : List Int}
theorem OI.sd (h : OI tb s want) {k : Nat} (hk : k < tb.tasks.length) : Tk.sdA s.ss k = sdW want k := Tk.sdA_at (h.at hk)
theorem rw_at {k : Nat} {x : TkR} (hx : tb.tasks[k]? = some x) : Tk.rwA (actR tb) k = (x.limit, decide (x.mask ≠ 0)) := by
  unfold Tk.rwA actR
  rw [Int.toNat_natCast, List.getD_eq_getElem?_getD, List.getElem?_map, hx]
  rfl
theorem has_at {k : Nat} {x : TkR} (hx : tb.tasks[k]? = some x) : Tk.hasB (actR tb).length k = true := by
  have := (List.getElem?_eq_some_iff.1 hx).1
  unfold Tk.hasB actR
  simp; omega
theorem OI.act (h : OI tb s want) (ck : CkT tb) (hl : LimW tb want) {k : Nat} {x : TkR} (hx : tb.tasks[k]? = some x) (ha : Tk.actS (actR tb) s.ss k = 0) (hf : Re.Fall (actC tb s k).rq) : OI tb (actC tb s k) (insW tb want k) ∧ LimW tb (insW tb want k) := by
  have hk := (List.getElem?_eq_some_iff.1 hx).1
  have hlt : (want.count (k : Int) : Int) < x.limit := by
    have h2 := ha
    unfold Tk.actS at h2
    rw [if_pos (has_at hx), rw_at hx, h.sd hk] at h2
    by_cases c : x.limit ≤ ((sdW want k).2 : Int)
    · rw [if_pos c] at h2; cases h2
    · unfold sdW at c; simp only at c; omega
  have hroom := h.room ck hl hx hlt
  have e1 : actC tb s k = { s with ss := Tk.actL (actR tb) s.ss k, ef := if Tk.actB (actR tb) s.ss k = true then Ev.freF tb.tasks.length s.ef k else s.ef, rq := joinQ s.rq (prT tb k) k } := by unfold actC; rw [if_pos ha]
  rw [e1] at hf ⊢
  refine ⟨⟨h.lv, h.st, h.L, ?_, join_of h.of (by omega), hf, ?_, ?_⟩, ?_⟩
  · rw [← h.all]; exact join_all h.fall h.of hroom
  · show (joinQ _ _ _).map _ = _
    rw [join_pc]; exact h.rg
  · show Tk.actL (actR tb) s.ss k = _
    unfold Tk.actL
    rw [if_pos ha, h.sd hk, Int.toNat_natCast, h.ss]
    apply List.ext_getElem?
    intro j
    by_cases hj : j < tb.tasks.length
    · rw [List.getElem?_map, List.getElem?_range hj]
      by_cases e : k = j
      · subst e
        rw [List.getElem?_set_self (by simpa using hk), Option.map_some]
        have hc : (insW tb want (k : Int)).count (k : Int) = want.count (k : Int) + 1 := by rw [ins_count, if_pos rfl]
        have e2 : sdW (insW tb want (k : Int)) k = (2, want.count (k : Int) + 1) := by unfold sdW; rw [hc, if_neg (by omega)]
        rw [e2]
        unfold sdW
        by_cases c : want.count (k : Int) = 0
        · rw [if_pos c, if_pos rfl]
        · rw [if_neg c, if_neg (by simp)]
      · rw [List.getElem?_set_ne e, List.getElem?_map, List.getElem?_range hj]
        have hc : (insW tb want (k : Int)).count (j : Int) = want.count (j : Int) := by rw [ins_count, if_neg (by omega)]; rfl
        have e2 : sdW (insW tb want (k : Int)) j = sdW want j := by unfold sdW; rw [hc]
        rw [Option.map_some, Option.map_some, e2]
    · rw [List.getElem?_eq_none (by simp; omega), List.getElem?_eq_none (by simp; omega)]
  · intro j z hz
    rw [ins_count]
    by_cases e : (k : Int) = (j : Int)
    · have : k = j := by omega
      subst this
      rw [hx] at hz
      cases hz
      rw [if_pos rfl]; omega
    · rw [if_neg e]; exact hl j z hz
theorem OI.okn (h : OI tb s want) : OKn tb s := ⟨fun x hx => (by rw [h.st] at hx; cases hx), fun r hr x hx => (h.of r hr x hx).2⟩
theorem OI.waits (h : OI tb s want) : waitQ s = !want.isEmpty := by
  unfold waitQ
  rw [h.st]
  have h1 := (take_all_eq (rq := s.rq)).1
  rw [h.all] at h1
  cases want with
  | nil => rw [h1.1 rfl]; rfl
  | cons t l =>
    cases ht : topQ s.rq with
    | none => have := h1.2 ht; cases this
    | some q => rfl
end
end Go.Proofs.YtglnfifdjlgbcaaGreatDoor

namespace Go.Proofs.YtglnfifdjlgbcaaGreatDoor
open Go.RowKit Go.Maps Go.Shelf Go.Sort
open Go.Proofs.YtglnfifdjlgbcaaGreatDoor.St (Fx Fz iQ iP iV)
set_option linter.unusedVariables false
set_option linter.unusedSimpArgs false
set_option maxRecDepth 100000
set_option maxHeartbeats 4000000
section
variable {tb : Tb} {s : Cs} {want l : List Int}
theorem entL_L (tb : Tb) (l : Ls) (t : Int) : (entL tb l t).L = l.L := by unfold entL; cases obs tb (tkO t) <;> rfl
theorem levL_L (tb : Tb) (l : Ls) (t : Int) : (levL tb l t).L = l.L := by unfold levL; cases obs tb (tkO t) <;> rfl
structure Cyc (tb : Tb) (s : Cs) (k : Nat) (l : List Int) : Prop where
  t : runT tb s = (k : Int)
  e : runE s = 0
  a : freA (runS tb s) = 0
  v : (termS (runS tb s)).lv = 1
  r : Tk.runI (termS (runS tb s)).ss = (k : Int)
  n : Re.Fall (offC (endC tb (termS (runS tb s)) (k : Int))).rq → OI tb (offC (endC tb (termS (runS tb s)) (k : Int))) l
theorem OI.cyc {k : Nat} {x : TkR} (h : OI tb s ((k : Int) :: l)) (hx : tb.tasks[k]? = some x) : Cyc tb s k l := by
  have hk := (List.getElem?_eq_some_iff.1 hx).1
  have h0 := h.run
  have hq : waitQ s = true := by rw [h.waits]; rfl
  have hb : bestT tb s = none := by unfold bestT; rw [h.st]; rfl
  obtain ⟨t1, t2⟩ := (take_all_eq (rq := s.rq)).2 _ _ h.all
  have hbI : bestI tb s = (k : Int) := by unfold bestI; rw [hb]; exact t1
  have hbS : bestS tb s = { s with rq := (takQ s.rq).2 } := by unfold bestS; rw [hb]
  have hcnt : List.count (k : Int) ((k : Int) :: l) = l.count (k : Int) + 1 := List.count_cons_self
  have hsd : Tk.sdA s.ss k = (2, l.count (k : Int) + 1) := by rw [h.sd hk]; unfold sdW; rw [hcnt, if_neg (by omega)]
  have hsta : Tk.staE (actR tb) s.ss k = 0 := by unfold Tk.staE; rw [if_pos (has_at hx), if_pos h0, hsd, if_pos rfl]
  have hstL : Tk.staL (actR tb) s.ss k = s.ss.set k (0, l.count (k : Int) + 1) := by unfold Tk.staL; rw [if_pos hsta, hsd, Int.toNat_natCast]
  have hlen : s.ss.length = tb.tasks.length := by rw [h.ss]; simp
  have e1 : runS tb s = { s with rq := (takQ s.rq).2, ss := s.ss.set k (0, l.count (k : Int) + 1), l := entL tb s.l k } := by
    unfold runS
    rw [if_pos h0, if_pos hq, hbI, hbS]
    unfold goS
    simp only
    rw [hstL]
  have hrun : Tk.runI (s.ss.set k (0, l.count (k : Int) + 1)) = (k : Int) := by
    rcases Tk.run_cases (s.ss.set k (0, l.count (k : Int) + 1)) with ⟨-, c⟩ | ⟨j, m, c1, c2⟩
    · exact absurd rfl (c k _ (List.getElem?_set_self (by omega)))
    · rw [c1]
      by_cases e : k = j
      · rw [e]
      · rw [List.getElem?_set_ne e] at c2
        have hj := (List.getElem?_eq_some_iff.1 c2).1
        rw [h.at (by omega)] at c2
        unfold sdW at c2
        have := congrArg (fun z => (z.getD (0, 0)).1) c2
        simp at this
        split at this <;> cases this
  have hcA : callA (runS tb s) = 0 := by
    unfold callA
    rw [e1]
    simp only
    rw [hrun, if_neg (by rw [h.lv]; omega)]
  have hcO : callO (runS tb s) = (k : Int) := by
    unfold callO
    rw [e1]
    simp only
    rw [hrun, if_neg (by rw [h.lv]; omega)]
  have hfA : freA (runS tb s) = 0 := by
    unfold freA
    rw [if_pos hcA]
    have : heldB (runS tb s) ⟨false, callO (runS tb s)⟩ = false := by
      unfold heldB
      rw [e1]
      simp only
      rw [entL_L, h.L]
      rfl
    rw [this]
    rfl
  have e2 : termS (runS tb s) = { s with rq := (takQ s.rq).2, ss := s.ss.set k (0, l.count (k : Int) + 1), l := entL tb s.l k, lv := 1 } := by
    unfold termS
    rw [if_pos hfA, e1]
  refine ⟨?_, ?_, hfA, ?_, ?_, fun hf => ?_⟩
  · unfold runT; rw [if_pos h0, if_pos hq, hbI]
  · unfold runE; rw [if_pos h0, if_pos hq]
  · rw [e2]
  · rw [e2]; exact hrun
  · rw [e2] at hf ⊢
    have hE : Tk.endL (s.ss.set k (0, l.count (k : Int) + 1)) = s.ss.set k (sdW l k) := by
      have hsd2 : Tk.sdA (s.ss.set k (0, l.count (k : Int) + 1)) k = (0, l.count (k : Int) + 1) := Tk.sdA_at (List.getElem?_set_self (by omega))
      unfold Tk.endL Tk.endS
      rw [hrun, if_neg (by omega), if_neg (by omega), Int.toNat_natCast, hsd2, List.set_set]
      congr 1
      unfold sdW
      simp only
      by_cases c : l.count (k : Int) = 0
      · rw [c]; rfl
      · rw [if_neg (by omega), if_neg c]; rfl
    refine ⟨rfl, h.st, ?_, ?_, ?_, hf, ?_, ?_⟩
    · show (levL tb (entL tb s.l k) k).L = []
      rw [levL_L, entL_L]; exact h.L
    · exact t2
    · exact tak_of h.of
    · show (takQ s.rq).2.map _ = _
      rw [tak_pc]; exact h.rg
    · show Tk.endL (s.ss.set k (0, l.count (k : Int) + 1)) = _
      rw [hE, h.ss]
      apply List.ext_getElem?
      intro j
      by_cases hj : j < tb.tasks.length
      · rw [List.getElem?_map, List.getElem?_range hj]
        by_cases e : k = j
        · subst e
          rw [List.getElem?_set_self (by simpa using hk)]
          rfl
        · rw [List.getElem?_set_ne e, List.getElem?_map, List.getElem?_range hj, Option.map_some, Option.map_some]
          have hc : List.count (j : Int) ((k : Int) :: l) = l.count (j : Int) := List.count_cons_of_ne (by omega)
          have e3 : sdW ((k : Int) :: l) j = sdW l j := by unfold sdW; rw [hc]
          rw [e3]
      · rw [List.getElem?_eq_none (by simp; omega), List.getElem?_eq_none (by simp; omega)]
theorem OI.fin (h : OI tb s []) : runT tb s = -1 ∧ runE s = 180 ∧ runS tb s = s ∧ waitQ s = false := by
  have h0 := h.run
  have hq : waitQ s = false := by rw [h.waits]; rfl
  refine ⟨?_, ?_, ?_, hq⟩
  · unfold runT; rw [if_pos h0, hq]; rfl
  · unfold runE; rw [if_pos h0, hq]; rfl
  · unfold runS; rw [if_pos h0, hq]; rfl
theorem OI.new {W w : World} {zn : Nat → Nat} {p : Pl} (ck : CkT tb) (h : Co W w zn tb p (newS tb)) : OI tb (newS tb) [] ∧ LimW tb [] := by
  have hz : ∀ (i : Nat) (r : Re.Rr), (newS tb).rq[i]? = some r → r.l = [] := fun i r hi => by
    unfold newS Re.newR at hi
    simp only at hi
    rw [List.getElem?_map] at hi
    obtain ⟨q, -, rfl⟩ := Option.map_eq_some_iff.1 hi
    rfl
  refine ⟨⟨rfl, rfl, rfl, ?_, ?_, h.q.fall, ?_, ?_⟩, fun k x hx => ?_⟩
  · rcases top_cases (newS tb).rq with ⟨h1, -⟩ | ⟨i, r, -, h2, h3, -⟩
    · exact (take_all_eq (rq := (newS tb).rq)).1.2 h1
    · exact absurd (hz i r h2) h3
  · intro r hr x hx
    obtain ⟨i, hi⟩ := List.getElem?_of_mem hr
    rw [hz i r hi] at hx
    cases hx
  · unfold newS Re.newR
    simp only
    rw [List.map_map]
    apply List.ext_getElem?
    intro i
    rw [List.getElem?_map]
    cases hi : (rgP tb)[i]? with
    | none => rfl
    | some q =>
      obtain ⟨pq, cq⟩ := q
      have hf := Re.fit_at (rgP tb) 64 ck.fit i pq cq hi
      simp only [Option.map_some, Function.comp]
      congr 2
      · omega
      · omega
  · show Tk.rstL tb.tasks.length = _
    unfold Tk.rstL
    apply List.ext_getElem?
    intro j
    by_cases hj : j < tb.tasks.length
    · rw [List.getElem?_replicate, if_pos hj, List.getElem?_map, List.getElem?_range hj]; rfl
    · rw [List.getElem?_eq_none (by simp; omega), List.getElem?_eq_none (by simp; omega)]
  · have := (ck.lim x (List.mem_of_getElem? hx)).1
    simp; omega
end
end Go.Proofs.YtglnfifdjlgbcaaGreatDoor

namespace Go.Proofs.YtglnfifdjlgbcaaGreatDoor
open Go.RowKit Go.Maps Go.Shelf Go.Sort
open Go.Proofs.YtglnfifdjlgbcaaGreatDoor.St (Fx Fz iQ iP iV)
set_option linter.unusedVariables false
set_option linter.unusedSimpArgs false
set_option maxRecDepth 100000
set_option maxHeartbeats 8000000
section
variable {W w w' : World} {zn : Nat → Nat} {tb : Tb} {p : Pl} {s : Cs}
theorem Co.free (h : Co W w zn tb p s) {M : Nat → Prop} (hf : Fz M w w') (hM : ∀ x, M x → zn x = 0) (hW : ∀ x, M x → W.heap.size ≤ x) : Co W w' zn tb p s where
  o := hf.heap h.o (fun m => by have := hM _ m; have := h.zC; omega)
  r := hf.own h.r (fun x e m => by have := hM _ m; have := h.zr x e; omega)
  g := hf.own h.g (fun x e m => by have := hM _ m; have := h.zg x e; omega)
  l := h.l.kept hf (fun x e m => by have := hM _ m; have := h.zl x e; omega) (fun x e m => by have := hM _ m; have := h.zz x e; omega)
  t := h.t.keep (toT hf) (fun x e m => by have := hM _ m; have := h.zt x e; omega) hW
  q := h.q.kept (toR hf) (fun x e m => by have := hM _ m; have := h.zq x e; omega)
  e := h.e.keptZ (toE hf) (fun m => by have := hM _ m; have := h.ze; omega)
  k := h.k.keptZ hf (fun m => by have := hM _ m; have := h.zs; omega) (fun m => by have := hM _ m; have := h.zs; omega)
  zC := h.zC
  zl := h.zl
  zt := h.zt
  zq := h.zq
  ze := h.ze
  zs := h.zs
  zr := h.zr
  zg := h.zg
  zz := h.zz
  zW := fun x hx => ⟨(h.zW x hx).1, Nat.lt_of_lt_of_le (h.zW x hx).2 hf.size⟩
end
/-- the law's state: the core and the row of who is to run -/
structure Ow (w0 w1 w : World) (zn : Nat → Nat) (tb : Tb) (p : Pl) (s : Cs) (u : Value) (want : List Int) : Prop where
  c : Co w0 w zn tb p s
  i : OI tb s want
  l : LimW tb want
  q : w.ownsRow w1.heap.size 3 1 u want.length (iV want)
  z : ∀ x, zn x ≠ 0 → x < w1.heap.size
  f : Fz (Zn zn) w1 w
  b : w0.heap.size ≤ w1.heap.size
section
variable {w0 w1 w w' : World} {zn : Nat → Nat} {tb : Tb} {p : Pl} {s s' : Cs} {u u' : Value} {want : List Int}
theorem Ow.core (h : Ow w0 w1 w zn tb p s u want) (c : Co w0 w' zn tb p s') (f : Fz (Zn zn) w w') {want' : List Int} (i : OI tb s' want') (l : LimW tb want') (q : w'.ownsRow w1.heap.size 3 1 u' want'.length (iV want')) : Ow w0 w1 w' zn tb p s' u' want' :=
  ⟨c, i, l, q, h.z, h.f.trans f, h.b⟩
theorem Ow.keep (h : Ow w0 w1 w zn tb p s u want) (f : Fz (Zn zn) w w') : w'.ownsRow w1.heap.size 3 1 u want.length (iV want) :=
  f.own h.q (fun x e m => by have := h.z x m; have := (h.q.lt x e).1; omega)
theorem Ow.below (h : Ow w0 w1 w zn tb p s u want) (hb : Below w.heap.size w w') : Ow w0 w1 w' zn tb p s u want :=
  h.core (h.c.below hb) (Fz.of_below hb) h.i h.l (own_below h.q hb)
theorem all_len : ∀ (rq : List Re.Rr), (allL rq).length = (Re.allR rq).length
  | [] => rfl
  | r :: rs => by
    show (r.l ++ allL rs).length = (Re.tag r.p r.l ++ Re.allR rs).length
    rw [List.length_append, List.length_append, all_len rs]
    simp [Re.tag]
theorem Ow.len (h : Ow w0 w1 w zn tb p s u want) : want.length ≤ 4194304 := by
  rw [← h.i.all, all_len]
  exact h.c.q.allLen
end
end Go.Proofs.YtglnfifdjlgbcaaGreatDoor

namespace Go.Proofs.YtglnfifdjlgbcaaGreatDoor
open Go.RowKit Go.Maps Go.Shelf Go.Sort
open Go.Proofs.YtglnfifdjlgbcaaGreatDoor.St (Fx Fz iQ iP iV)
set_option linter.unusedVariables false
set_option linter.unusedSimpArgs false
set_option maxRecDepth 100000
set_option maxHeartbeats 8000000
theorem all_pw20 {tb : Tb} : ∀ {rq : List Re.Rr}, Re.Fall rq → OfP tb rq → (allL rq).Pairwise (fun a b => prT tb b ≤ prT tb a)
  | [], _, _ => List.Pairwise.nil
  | r :: rs, hf, ho => by
    obtain ⟨hf2, hlt⟩ := fall_tail hf
    show (r.l ++ allL rs).Pairwise _
    rw [List.pairwise_append]
    refine ⟨?_, all_pw20 hf2 (fun b hb => ho b (List.mem_cons_of_mem _ hb)), ?_⟩
    · rw [List.pairwise_iff_getElem]
      intro i j hi hj _
      rw [(ho r List.mem_cons_self _ (List.getElem_mem hi)).1, (ho r List.mem_cons_self _ (List.getElem_mem hj)).1]
      exact Int.le_refl _
    · intro a ha b hb
      obtain ⟨b', hb', hb2⟩ := mem_all.1 hb
      rw [(ho r List.mem_cons_self a ha).1, (ho b' (List.mem_cons_of_mem _ hb') b hb2).1]
      have := hlt b' hb'
      omega
theorem insW_cut20 {tb : Tb} {s : Cs} {want : List Int} (h : OI tb s want) {k j : Nat} {x : TkR} (hx : tb.tasks[k]? = some x) (hj : j ≤ want.length) (h1 : ∀ (q : Nat) (y : Int), want[q]? = some y → j ≤ q → prT tb y < x.prio) (h2 : ∀ (j' : Nat) (y : Int), j = j' + 1 → want[j']? = some y → x.prio ≤ prT tb y) : insW tb want k = want.take j ++ [(k : Int)] ++ want.drop j := by
  have hp : want.Pairwise (fun a b => prT tb b ≤ prT tb a) := by rw [← h.all]; exact all_pw20 h.fall h.of
  have ht : ∀ y ∈ want.take j, geP tb (prT tb k) y = true := by
    intro y hy
    obtain ⟨q, hq⟩ := List.mem_iff_getElem?.1 hy
    rw [List.getElem?_take] at hq
    split at hq
    · rename_i hqj
      obtain ⟨j', rfl⟩ : ∃ j', j = j' + 1 := ⟨j - 1, by omega⟩
      have hj' : j' < want.length := by omega
      have e := h2 j' want[j'] rfl (List.getElem?_eq_getElem hj')
      obtain ⟨hql, rfl⟩ := List.getElem?_eq_some_iff.1 hq
      have : prT tb want[j'] ≤ prT tb want[q] := by
        rcases Nat.lt_or_eq_of_le (show q ≤ j' by omega) with h | rfl
        · exact (List.pairwise_iff_getElem.1 hp) q j' hql hj' h
        · exact Int.le_refl _
      unfold geP
      rw [prT_at hx]
      simp
      omega
    · cases hq
  have hd : ∀ y ∈ want.drop j, geP tb (prT tb k) y = false := by
    intro y hy
    obtain ⟨q, hq⟩ := List.mem_iff_getElem?.1 hy
    rw [List.getElem?_drop] at hq
    have := h1 _ y hq (by omega)
    unfold geP
    rw [prT_at hx]
    simp
    omega
  unfold insW
  obtain ⟨a1, a2⟩ := take_all (b := want.drop j) ht
  obtain ⟨b1, b2⟩ := take_none hd
  rw [List.take_append_drop] at a1 a2
  rw [a1, a2, b1, b2, List.append_nil]
theorem bel_alloc20 {w w' : World} (h : Below w.heap.size w w') (o) : Below w.heap.size w (w'.alloc o) := h.alloc h.size o
theorem bel_size20 {w w' : World} (h : Below w.heap.size w w') : w.heap.size ≤ w'.heap.size := h.size
theorem one_iV20 (l : List Int) : ∀ u ∈ iV l, u.oneCell' = true := by
  intro u hu
  obtain ⟨y, -, rfl⟩ := List.mem_map.1 hu
  rfl
end Go.Proofs.YtglnfifdjlgbcaaGreatDoor

