import Derived.Test.YtpoekphebmonnabUw
namespace Go.Proofs.Ytpoekphebmonnab
open Go.RowKit Go.Shelf Go.Sort
set_option linter.unusedVariables false
set_option linter.unusedSimpArgs false

/-! ### The program's clock and the document's -/
def Pb (B : Nat) (v : Value) (D : Nat) (u : Value) (b : Nat) : Prop := Cb B v b ∨ Cb D u b
structure Pd (W wr : World) (B : Nat) (v : Value) (D : Nat) (u : Value) (s : ByteArray) (G bs L V : Nat) (al : List Alm) (V2 : Nat) (al2 : List Alm) : Prop where
  c : Ck wr B v G L V al
  d : Dk wr D u s G bs L V2 al2
  b : Below W.heap.size W wr
  o : ∀ b, Cb B v b → W.heap.size ≤ b ∧ ¬ Cb D u b
  p : ∀ b, Cb D u b → W.heap.size ≤ b
section
variable {W wr w' : World} {B D G bs L V V2 V3 : Nat} {v u : Value} {s : ByteArray} {al al2 al3 : List Alm}
theorem Pd.lt (h : Pd W wr B v D u s G bs L V al V2 al2) {b : Nat} (hb : Pb B v D u b) : b < wr.heap.size := by
  rcases hb with hb | hb
  · exact h.c.lt hb
  · exact h.d.lt hb
theorem Pd.below (h : Pd W wr B v D u s G bs L V al V2 al2) (hb : Below wr.heap.size wr w') : Pd W w' B v D u s G bs L V al V2 al2 :=
  ⟨h.c.below hb, h.d.below hb, h.b.trans (hb.mono h.b.size), h.o, h.p⟩
theorem Pd.keep (h : Pd W wr B v D u s G bs L V al V2 al2) {M : Nat → Prop} (hf : Fz M wr w') (hM : ∀ b, Pb B v D u b → ¬ M b) (hW : ∀ b, M b → W.heap.size ≤ b) : Pd W w' B v D u s G bs L V al V2 al2 :=
  ⟨h.c.keptZ hf (fun b hb => hM b (.inl hb)), h.d.keptZ hf (fun b hb => hM b (.inr hb)), h.b.trans (hf.below h.b.size hW), h.o, h.p⟩
theorem Pd.cst (h : Pd W wr B v D u s G bs L V al V2 al2) (hk : Ck w' B v G L V3 al3) (hf : Fz (Cb B v) wr w') : Pd W w' B v D u s G bs L V3 al3 V2 al2 ∧ Fz (Pb B v D u) wr w' :=
  ⟨⟨hk, h.d.keptZ hf (fun b hb e => (h.o b e).2 hb), h.b.trans (hf.below h.b.size (fun x e => (h.o x e).1)), h.o, h.p⟩, hf.mono (fun _ e => .inl e)⟩
theorem Pd.dst (h : Pd W wr B v D u s G bs L V al V2 al2) (hk : Dk w' D u s G bs L V3 al3) (hf : Fz (Cb D u) wr w') : Pd W w' B v D u s G bs L V al V3 al3 ∧ Fz (Pb B v D u) wr w' :=
  ⟨⟨h.c.keptZ hf (fun b hb e => (h.o b hb).2 e), hk, h.b.trans (hf.below h.b.size (fun x e => h.p x e)), h.o, h.p⟩, hf.mono (fun _ e => .inr e)⟩
theorem xRel (h : Pd W wr B v D u s G bs L V al V2 al2) (t : Int) (f cy : Nat) (hf : f < 4294967296) : Calls Try.prog 13 #[cP B, I t, U f, U cy] wr fun e w' => e = .returned (I (setS al t (relB L G f cy))) ∧ Pd W w' B v D u s G bs L V (setA al t (relB L G f cy) (f, cy)) V2 al2 ∧ Fz (Pb B v D u) wr w' := by
  refine (Rel_any h.c t f cy hf).mono ?_
  rintro e w' ⟨rfl, k1, z1⟩
  exact ⟨rfl, h.cst k1 z1⟩
theorem yRel (h : Pd W wr B v D u s G bs L V al V2 al2) (t : Int) (f cy : Nat) (hf : f < 4294967296) : Calls Try.prog 19 #[cP D, I t, U f, U cy] wr fun e w' => e = .returned (I (setS al2 t (relB L G f cy))) ∧ Pd W w' B v D u s G bs L V al V2 (setA al2 t (relB L G f cy) (f, cy)) ∧ Fz (Pb B v D u) wr w' := by
  refine (dRel_any h.d t f cy hf).mono ?_
  rintro e w' ⟨rfl, k1, z1⟩
  exact ⟨rfl, h.dst k1 z1⟩
theorem xAbs (h : Pd W wr B v D u s G bs L V al V2 al2) (t : Int) (f cy : Nat) (hf : f < 4294967296) : Calls Try.prog 14 #[cP B, I t, U f, U cy] wr fun e w' => e = .returned (I (setS al t (absB L G f cy))) ∧ Pd W w' B v D u s G bs L V (setA al t (absB L G f cy) (untN G V f, cy)) V2 al2 ∧ Fz (Pb B v D u) wr w' := by
  refine (Abs_any h.c t f cy hf).mono ?_
  rintro e w' ⟨rfl, k1, z1⟩
  exact ⟨rfl, h.cst k1 z1⟩
theorem yAbs (h : Pd W wr B v D u s G bs L V al V2 al2) (t : Int) (f cy : Nat) (hf : f < 4294967296) : Calls Try.prog 20 #[cP D, I t, U f, U cy] wr fun e w' => e = .returned (I (setS al2 t (absB L G f cy))) ∧ Pd W w' B v D u s G bs L V al V2 (setA al2 t (absB L G f cy) (untN G V2 f, cy)) ∧ Fz (Pb B v D u) wr w' := by
  refine (dAbs_any h.d t f cy hf).mono ?_
  rintro e w' ⟨rfl, k1, z1⟩
  exact ⟨rfl, h.dst k1 z1⟩
theorem xSet (h : Pd W wr B v D u s G bs L V al V2 al2) (t : Int) (f cy : Nat) (hf : f < 4294967296) : Calls Try.prog 21 #[cP B, I t, U f, U cy] wr fun e w' => e = .returned (I (setS al t (staB G f cy))) ∧ Pd W w' B v D u s G bs L V (setA al t (staB G f cy) (f, cy)) V2 al2 ∧ Fz (Pb B v D u) wr w' := by
  refine (Set_any h.c t f cy hf).mono ?_
  rintro e w' ⟨rfl, k1, z1⟩
  exact ⟨rfl, h.cst k1 z1⟩
theorem ySet (h : Pd W wr B v D u s G bs L V al V2 al2) (t : Int) (f cy : Nat) (hf : f < 4294967296) : Calls Try.prog 22 #[cP D, I t, U f, U cy] wr fun e w' => e = .returned (I (setS al2 t (staB G f cy))) ∧ Pd W w' B v D u s G bs L V al V2 (setA al2 t (staB G f cy) (f, cy)) ∧ Fz (Pb B v D u) wr w' := by
  refine (dSet_any h.d t f cy hf).mono ?_
  rintro e w' ⟨rfl, k1, z1⟩
  exact ⟨rfl, h.dst k1 z1⟩
theorem xCancel (h : Pd W wr B v D u s G bs L V al V2 al2) (t : Int) : Calls Try.prog 23 #[cP B, I t] wr fun e w' => e = .returned (I (getS al t)) ∧ Pd W w' B v D u s G bs L V (canL al t) V2 al2 ∧ Fz (Pb B v D u) wr w' := by
  refine (Cancel_any h.c t).mono ?_
  rintro e w' ⟨rfl, k1, z1⟩
  exact ⟨rfl, h.cst k1 z1⟩
theorem yCancel (h : Pd W wr B v D u s G bs L V al V2 al2) (t : Int) : Calls Try.prog 24 #[cP D, I t] wr fun e w' => e = .returned (I (getS al2 t)) ∧ Pd W w' B v D u s G bs L V al V2 (canL al2 t) ∧ Fz (Pb B v D u) wr w' := by
  refine (dCancel_any h.d t).mono ?_
  rintro e w' ⟨rfl, k1, z1⟩
  exact ⟨rfl, h.dst k1 z1⟩
theorem xTick (h : Pd W wr B v D u s G bs L V al V2 al2) : Calls Try.prog 15 #[cP B] wr fun e w' => ∃ a c, e = .returned (.slice a (dueF 1 0 al).length c) ∧ w'.ownsRow wr.heap.size 3 1 (.slice a (dueF 1 0 al).length c) (dueF 1 0 al).length (inL (dueF 1 0 al)) ∧ Pd W w' B v D u s G bs L (aftN G V 1) (al.map (psA 1)) V2 al2 ∧ Fz (Pb B v D u) wr w' := by
  refine (Tick_any h.c).mono ?_
  rintro e w' ⟨x, rfl, o1, k1, z1⟩
  obtain ⟨a, c, rfl⟩ := own_sl o1
  exact ⟨a, c, rfl, o1, h.cst k1 z1⟩
theorem yTick (h : Pd W wr B v D u s G bs L V al V2 al2) : Calls Try.prog 26 #[cP D] wr fun e w' => ∃ a c, e = .returned (.slice a (dueF 1 0 al2).length c) ∧ w'.ownsRow wr.heap.size 3 1 (.slice a (dueF 1 0 al2).length c) (dueF 1 0 al2).length (inL (dueF 1 0 al2)) ∧ Pd W w' B v D u s G bs L V al (aftN G V2 1) (al2.map (psA 1)) ∧ Fz (Pb B v D u) wr w' := by
  refine (dTick_any h.d).mono ?_
  rintro e w' ⟨x, rfl, o1, k1, z1⟩
  obtain ⟨a, c, rfl⟩ := own_sl o1
  exact ⟨a, c, rfl, o1, h.dst k1 z1⟩
theorem xComing (h : Pd W wr B v D u s G bs L V al V2 al2) (most : Int) : Calls Try.prog 27 #[cP B, I most] wr fun e w' => ∃ a c, e = .returned (.slice a (comL al most).length c) ∧ w'.ownsRow wr.heap.size 63 2 (.slice a (comL al most).length c) (comL al most).length (flE (comL al most)) ∧ Below wr.heap.size wr w' := by
  refine (Coming_any h.c most).mono ?_
  rintro e w' ⟨a, c, rfl, o1, b1⟩
  exact ⟨a, c, rfl, own_base o1 (by omega), b1⟩
theorem yComing (h : Pd W wr B v D u s G bs L V al V2 al2) (most : Int) : Calls Try.prog 28 #[cP D, I most] wr fun e w' => ∃ a c, e = .returned (.slice a (comL al2 most).length c) ∧ w'.ownsRow wr.heap.size 63 2 (.slice a (comL al2 most).length c) (comL al2 most).length (flE (comL al2 most)) ∧ Below wr.heap.size wr w' := dComing_any h.d most
theorem xReset (h : Pd W wr B v D u s G bs L V al V2 al2) : Calls Try.prog 29 #[cP B] wr fun e w' => e = .returned (.tuple #[]) ∧ Pd W w' B v D u s G bs L 0 (List.replicate al.length (0, 0)) V2 al2 ∧ Fz (Pb B v D u) wr w' := by
  refine (Reset_any h.c).mono ?_
  rintro e w' ⟨rfl, k1, z1⟩
  exact ⟨rfl, h.cst k1 z1⟩
theorem yReset (h : Pd W wr B v D u s G bs L V al V2 al2) : Calls Try.prog 30 #[cP D] wr fun e w' => e = .returned (.tuple #[]) ∧ (∃ u', Pd W w' B v D u' s G bs L V al 0 (List.replicate al2.length (0, 0)) ∧ ∀ b, Cb D u' b → Cb D u b ∨ wr.heap.size ≤ b) ∧ Fz (Pb B v D u) wr w' := by
  refine (dReset_any h.d).mono ?_
  rintro e w' ⟨rfl, ⟨u', k1, hk⟩, z1⟩
  have hW := h.b.size
  refine ⟨rfl, ⟨u', ⟨h.c.keptZ z1 (fun b hb e => (h.o b hb).2 (.inl e)), k1, h.b.trans (z1.below h.b.size (fun x e => h.p x (.inl e))), fun b hb => ⟨(h.o b hb).1, fun e => ?_⟩, fun b hb => ?_⟩, fun b hb => ?_⟩, z1.mono (fun b e => .inr (.inl e))⟩
  · rcases hk b e with e1 | e1
    · exact (h.o b hb).2 (.inl e1)
    · have := h.c.lt hb; omega
  · rcases hk b hb with e1 | e1
    · exact h.p b (.inl e1)
    · omega
  · rcases hk b hb with e1 | e1
    · exact .inl (.inl e1)
    · exact .inr e1
end
/-! ### ints, told -/
set_option maxHeartbeats 4000000 in
set_option maxRecDepth 100000 in
theorem ints_any (w : World) (b1 b2 : Nat) (a1 a2 : Option Addr) (c1 c2 : Nat) (l : List Nat) (hl : l.length ≤ 64) (h1 : w.ownsRow b1 3 1 (.slice a1 l.length c1) l.length (inL l)) (h2 : w.ownsRow b2 3 1 (.slice a2 l.length c2) l.length (inL l)) : Calls Try.prog 25 #[.slice a1 l.length c1, .slice a2 l.length c2] w fun e w' => e = .returned (.bool true) ∧ Below w.heap.size w w' := by
  have HI : Hid (Below w.heap.size w w) := Below.refl _ _
  have H1 : Hid (w.ownsRow b1 3 1 (.slice a1 l.length c1) l.length (inL l) ∧ w.ownsRow b2 3 1 (.slice a2 l.length c2) l.length (inL l)) := ⟨h1, h2⟩
  clear h1 h2
  go_enter Try.func25, Try.ntmps25
  go_wp2
  go_loopw [5] (fun v5 wr => ∃ k : Nat, k ≤ l.length ∧ v5 = I k ∧ Hid (Below w.heap.size w wr)) (fun v5 _ => l.length - (intOf v5).toNat)
  case atStart => exact ⟨0, by omega, rfl, HI.out⟩
  case round =>
    clear HI
    obtain ⟨k, hk, rfl, HJ⟩ := hrel
    by_cases hlt : k < l.length
    · have hltI : (k : Int) < l.length := by omega
      obtain ⟨g1, cc1, e1⟩ := own_some H1.out.1 (by omega)
      obtain ⟨g2, cc2, e2⟩ := own_some H1.out.2 (by omega)
      cases e1
      cases e2
      obtain ⟨x, hx⟩ : ∃ x, l[k]? = some x := ⟨_, List.getElem?_eq_getElem hlt⟩
      have q1 : wr.cell? ⟨g1, k, none⟩ = some (I x) := by rw [(own_below H1.out.1 HJ.out).cellAt k (by omega)]; simp [inL, hx]
      have q2 : wr.cell? ⟨g2, k, none⟩ = some (I x) := by rw [(own_below H1.out.2 HJ.out).cellAt k (by omega)]; simp [inL, hx]
      have z1 := cell_regrown q1
      have z2 := cell_regrown q2
      clear q1 q2 hx
      go_wp2
      refine wp_region_quiet_below (by kernel_rfl) (by kernel_rfl) ?_
      repeat (go_big_quiet_step (first | fail))
      refine wpQuiet_nil ?_
      rintro _ ⟨⟨dq, osq⟩, rfl⟩
      dsimp only
      have H7 : Hid (Below w.heap.size w (grow (redrawn wr dq) osq)) := HJ.out.trans ((below_regrown wr dq osq).mono HJ.out.size)
      clear HJ z1 z2
      generalize grow (redrawn wr dq) osq = w7 at *
      go_wp2
      go_roundw
      case rel => exact ⟨k + 1, by omega, by go_num, H7.out⟩
      case measure => simp [intOf]; omega
    · obtain rfl : k = l.length := by omega
      have hge : ¬ ((l.length : Int) < l.length) := by omega
      go_wp2
      go_ret
      exact ⟨rfl, HJ.out⟩
set_option maxHeartbeats 4000000 in
set_option maxRecDepth 100000 in
theorem told_any {W w : World} {B D G bs L V : Nat} {v u : Value} {s : ByteArray} {al : List Alm} (h : Pd W w B v D u s G bs L V al V al) : Calls Try.prog 8 #[cP B, cP D] w fun e w' => e = .returned (.bool true) ∧ Below w.heap.size w w' := by
  have HH : Hid (Pd W w B v D u s G bs L V al V al) := h
  obtain ⟨c0, c1, c2, c3, c4⟩ := h.d.cells
  have hl64 := h.c.n
  have x3 := cell_regrown c3
  have cV : ∀ d os, Calls Try.prog 17 #[cP B] (grow (redrawn w d) os) fun e w'' => e = .returned (U V) ∧ ∃ p : Regrown, w'' = grow (redrawn w p.d) p.os := fun d os => Calls.regrown_of ((Value_any (HH.out.c.below (below_regrown w d os))).mono (fun e w' h => ⟨h.1, by rw [h.2]; exact Below.refl _ _⟩))
  clear h c0 c1 c2 c3 c4
  go_enter Try.func8, Try.ntmps8
  go_wp2
  refine wp_region_quiet_below (by kernel_rfl) (by kernel_rfl) ?_
  repeat (go_big_quiet_step (first | exact cV _ _))
  refine wpQuiet_nil ?_
  rintro _ ⟨⟨dq, osq⟩, rfl⟩
  dsimp only
  have HI : Hid (Below w.heap.size w (grow (redrawn w dq) osq)) := below_regrown w dq osq
  clear x3 cV
  generalize grow (redrawn w dq) osq = w2 at *
  go_wp2
  go_loopw [5, 6, 7, 8, 9, 10, 11] (fun v5 _ _ _ _ _ _ wr => ∃ k : Nat, k ≤ al.length + 2 ∧ v5 = I ((k : Int) - 1) ∧ Hid (Below w.heap.size w wr)) (fun v5 _ _ _ _ _ _ _ => al.length + 2 - (intOf v5 + 1).toNat)
  case atStart => exact ⟨0, by omega, rfl, HI.out⟩
  case round =>
    clear HI
    obtain ⟨k, hk, rfl, HJ⟩ := hrel
    obtain ⟨c0, c1, c2, c3, c4⟩ := (HH.out.below HJ.out).d.cells
    obtain ⟨a4, cc4, hu4⟩ := own_sl HH.out.d.p
    by_cases hlt : k < al.length + 2
    · have hltI : (k : Int) - 1 ≤ al.length := by omega
      have r1 := dGet_any (HH.out.below HJ.out).d ((k : Int) - 1)
      have r2 : ∀ W2, Below wr.heap.size wr W2 → Calls Try.prog 16 #[cP B, I ((k : Int) - 1)] W2 fun e w' => e = .returned (.tuple #[Q (lftN al ((k : Int) - 1) : Nat), I (getS al ((k : Int) - 1))]) ∧ W2 = w' := fun W2 hb => Left_any ((HH.out.below HJ.out).below hb).c _
      have r3 : ∀ W2, Below wr.heap.size wr W2 → Calls Try.prog 32 #[cP B, I ((k : Int) - 1)] W2 fun e w' => e = .returned (.tuple #[U (cycN al ((k : Int) - 1) : Nat), I (getS al ((k : Int) - 1))]) ∧ W2 = w' := fun W2 hb => Cycle_any ((HH.out.below HJ.out).below hb).c _
      rw [hu4] at c4
      generalize getS al ((k : Int) - 1) = st at *
      generalize lftN al ((k : Int) - 1) = ln at *
      generalize cycN al ((k : Int) - 1) = cn at *
      generalize decide (st = 0) = sb at *
      clear c0 c1 c2 c3
      go_upto_region 7 with (first | (go_at_call 31; refine r1.mono ?_; clear r1; rintro e w3 ⟨rfl, b3⟩))
      have b4 : Below wr.heap.size wr (w3.alloc (.cells #[.bool sb, Q ln, U cn] 65)) := b3.trans ((below_alloc w3 _).mono b3.size)
      have y1 : (w3.alloc (.cells #[.bool sb, Q ln, U cn] 65)).cell? ⟨w3.heap.size, 1, none⟩ = some (Q ln) := by rw [cell_of_row _ _ _ _ _ (0, 0) (heap_alloc_new w3 _)]; rfl
      have y2 : (w3.alloc (.cells #[.bool sb, Q ln, U cn] 65)).cell? ⟨w3.heap.size, 2, none⟩ = some (U cn) := by rw [cell_of_row _ _ _ _ _ (0, 0) (heap_alloc_new w3 _)]; rfl
      have H8 : Hid (Below w.heap.size w (w3.alloc (.cells #[.bool sb, Q ln, U cn] 65))) := HJ.out.trans (b4.mono HJ.out.size)
      have r2' := r2 _ b4
      have r3' := r3 _ b4
      clear r2 r3 b3 b4 HJ c4
      generalize (w3.alloc (.cells #[.bool sb, Q ln, U cn] 65)) = w4 at *
      generalize w3.heap.size = X at *
      go_wp2_with (first
        | (go_at_call 16; refine r2'.mono ?_; clear r2'; rintro e w5 ⟨rfl, rfl⟩)
        | (go_at_call 32; refine r3'.mono ?_; clear r3'; rintro e w5 ⟨rfl, rfl⟩))
      go_roundw
      case rel => exact ⟨k + 1, by omega, by go_num, H8.out⟩
      case measure => simp [intOf]; omega
    · obtain rfl : k = al.length + 2 := by omega
      have hge : ¬ (((al.length + 2 : Nat) : Int) - 1 ≤ al.length) := by omega
      rw [hu4] at c4
      go_wp2
      go_ret
      exact ⟨rfl, HJ.out⟩
end Go.Proofs.Ytpoekphebmonnab
