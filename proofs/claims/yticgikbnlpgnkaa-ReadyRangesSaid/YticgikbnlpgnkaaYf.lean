import Derived.Test.YticgikbnlpgnkaaYe
import Derived.Laws.PanicsMore
import Derived.Deep.MidRow
namespace Go.Proofs.Yticgikbnlpgnkaa
open Go.RowKit
set_option linter.unusedVariables false
set_option linter.unusedSimpArgs false

/-! ### Queues: Len, Clear, Copy -/
theorem idx_arr (w : World) (cs : Array Value) (k : Nat) (hk : k < 64) (v : Value) (hv : cs[k]? = some v) : (Instr.index 54 (.agg cs) (I k)).run Try.prog w = .ok v w := by
  have hn : (0 ≤ (k : Int) ∧ (k : Int) < ((64 : Nat) : Int)) := by omega
  simp [Instr.index, run_underlying Try.underlying54, asIntOf, hn, go_sem]
  rw [if_pos hk, hv]
  rfl
theorem wpList_id13 {P : Program} {ops : Array Oper} {Q : Exit → Act → World → Prop} {l : List Oper} {a : Act} {w : World} (h : wpList P ops Q l a w) : wpList P ops Q l a w := h
def ptrsL (f : RS) : List Value := (List.range 64).map fun p => ptrOf (f p)
theorem ptrsL_get (f : RS) {p : Nat} (h : p < 64) : (ptrsL f).toArray[p]? = some (ptrOf (f p)) := by
  simp [ptrsL, h]
section
variable {w : World} {Q F : Nat} {f : RS}
theorem Qm.range (h : Qm w Q F f) : w.rangeAt Q 2 (ptrsL f) := fun j v hv => by
  unfold ptrsL at hv
  rw [List.getElem?_map] at hv
  obtain ⟨i, hi, rfl⟩ := Option.map_eq_some_iff.1 hv
  have hl := (List.getElem?_eq_some_iff.1 hi).1
  simp at hl
  rw [List.getElem?_range hl] at hi
  cases hi
  exact h.cp hl
theorem Qm.len (h : Qm w Q F f) (p : Nat) : (lst f p).length ≤ 65536 := by
  unfold lst
  cases hx : f p with
  | none => simp
  | some x =>
    have h1 := (h.r p x hx).2.2.le
    have h2 := (h.r p x hx).2.2.m
    rw [intsV_len] at h1
    simp
    omega
theorem Qm.sum (h : Qm w Q F f) : ∀ n, sumF f n ≤ n * 65536
  | 0 => by simp [sumF]
  | n + 1 => by have := h.sum n; have := h.len n; simp only [sumF]; omega
theorem qLenAt (h : Qm w Q F f) (p : Nat) : Calls Try.prog 35 #[ptrOf (f p)] w fun e w' => e = .returned (I (lst f p).length) ∧ w = w' := by
  unfold lst
  cases hx : f p with
  | none => exact iLen_nil w
  | some x =>
    have := iLenQ (h.r p x hx).2.2
    rw [intsV_len] at this
    exact this
set_option maxRecDepth 100000 in
set_option maxHeartbeats 4000000 in
theorem qLen_any (h : Qm w Q F f) : Calls Try.prog 15 #[qP Q] w fun e w' => e = .returned (I (sumF f 64)) ∧ w = w' := by
  have H : Hid (Qm w Q F f) := h
  clear h
  go_enter Try.func15, Try.ntmps15
  go_wp2
  go_loopw [3, 5] (fun n i wr => ∃ k : Nat, k ≤ 64 ∧ i = .int .i64 k ∧ n = .int .i64 (sumF f k : Nat) ∧ w = wr) (fun _ i _ => 64 - (intOf i).toNat)
  case atStart => exact ⟨0, by omega, rfl, rfl, rfl⟩
  case round =>
    obtain ⟨k, hk, rfl, rfl, rfl⟩ := hrel
    by_cases hlt : k < 64
    · have hltI : (k : Int) < 64 := by omega
      have hR := qringOf_any H.out (k : Int)
      have hL := qLenAt H.out k
      have HS : Hid (sumF f (k + 1) = sumF f k + (lst f k).length) := rfl
      have s1 := H.out.sum k
      have s2 := H.out.len k
      rw [ringAt_nat f hlt] at hR
      generalize ptrOf (f k) = V at *
      generalize (lst f k).length = m at *
      go_wp2_with (first | (go_at_call 37; refine hR.mono ?_; rintro e w1 ⟨rfl, rfl⟩) | (go_at_call 35; refine hL.mono ?_; rintro e w1 ⟨rfl, rfl⟩))
      go_roundw
      case rel => exact ⟨k + 1, by omega, by go_num, by rw [HS.out]; go_num, by first | rfl | trivial⟩
      case measure => simp [intOf]; omega
    · obtain rfl : k = 64 := by omega
      go_wp2
      go_ret
      exact ⟨rfl, rfl⟩
set_option maxRecDepth 100000 in
set_option maxHeartbeats 4000000 in
theorem qLen_none {v : Value} (hN : Calls Try.prog 33 #[v] w fun e w' => e = .returned (.bool true) ∧ w = w') : Calls Try.prog 15 #[v] w fun e w' => e = .returned (I 0) ∧ w = w' := by
  go_enter Try.func15, Try.ntmps15
  go_wp2
  go_loopw [3, 5] (fun n i wr => ∃ k : Nat, k ≤ 64 ∧ i = .int .i64 k ∧ n = .int .i64 0 ∧ w = wr) (fun _ i _ => 64 - (intOf i).toNat)
  case atStart => exact ⟨0, by omega, rfl, rfl, rfl⟩
  case round =>
    obtain ⟨k, hk, rfl, rfl, rfl⟩ := hrel
    by_cases hlt : k < 64
    · have hltI : (k : Int) < 64 := by omega
      have hR := qringOf_none hN (k : Int)
      have hL := iLen_nil w
      go_wp2_with (first | (go_at_call 37; refine hR.mono ?_; rintro e w1 ⟨rfl, rfl⟩) | (go_at_call 35; refine hL.mono ?_; rintro e w1 ⟨rfl, rfl⟩))
      go_roundw
      case rel => exact ⟨k + 1, by omega, by go_num, by first | rfl | trivial, by first | rfl | trivial⟩
      case measure => simp [intOf]; omega
    · obtain rfl : k = 64 := by omega
      go_wp2
      go_ret
      exact ⟨rfl, rfl⟩
theorem qClear_none {v : Value} (hN : Calls Try.prog 33 #[v] w fun e w' => e = .returned (.bool true) ∧ w = w') : Calls Try.prog 24 #[v] w fun e w' => e = .returned (I 0) ∧ w = w' := by
  go_enter Try.func24, Try.ntmps24
  go_wp2_with (first | (go_at_call 33; refine hN.mono ?_; rintro e w1 ⟨rfl, rfl⟩))
  go_ret
  exact ⟨rfl, rfl⟩
theorem qCopy_none {v : Value} (hN : Calls Try.prog 33 #[v] w fun e w' => e = .returned (.bool true) ∧ w = w') : Calls Try.prog 26 #[v] w fun e w' => e = .returned (.pointer none) ∧ w = w' := by
  go_enter Try.func26, Try.ntmps26
  go_wp2_with (first | (go_at_call 33; refine hN.mono ?_; rintro e w1 ⟨rfl, rfl⟩))
  go_ret
  exact ⟨rfl, rfl⟩
/-- The first k rings are empty. -/
def clrF (f : RS) (k : Nat) : RS := fun p => if p < k then (f p).map (fun x => ⟨x.B, x.g, x.c, x.h, []⟩) else f p
theorem clrF_zero (f : RS) : clrF f 0 = f := by funext p; simp [clrF]
theorem clrF_none {f : RS} {k : Nat} (h : f k = none) : clrF f (k + 1) = clrF f k := by
  funext p
  unfold clrF
  by_cases e : p = k
  · subst e; simp [h]
  · have : p < k + 1 ↔ p < k := by omega
    simp [this]
theorem clrF_some {f : RS} {k : Nat} {x : Ri} (h : f k = some x) : clrF f (k + 1) = upd (clrF f k) k ⟨x.B, x.g, x.c, x.h, []⟩ := by
  funext p
  unfold clrF upd
  by_cases e : p = k
  · subst e; simp [h]
  · have : p < k + 1 ↔ p < k := by omega
    simp [this, e]
theorem clrF_at (f : RS) (k : Nat) : clrF f k k = f k := by simp [clrF]
theorem clrF_all (h : Qm w Q F f) : clrF f 64 = clearF f := by
  funext p
  unfold clrF clearF
  by_cases e : p < 64
  · simp [e]
  · cases hx : f p with
    | none => simp
    | some x => exact absurd (h.r p x hx).1 e
theorem Qb.clr (f : RS) (k b : Nat) : Qb Q (clrF f k) b ↔ Qb Q f b := by
  constructor
  · rintro (e | ⟨p, x, hx, e⟩)
    · exact .inl e
    · unfold clrF at hx
      split at hx
      · obtain ⟨y, hy, rfl⟩ := Option.map_eq_some_iff.1 hx
        exact .inr ⟨p, y, hy, e⟩
      · exact .inr ⟨p, x, hx, e⟩
  · rintro (e | ⟨p, x, hx, e⟩)
    · exact .inl e
    · by_cases hp : p < k
      · exact .inr ⟨p, ⟨x.B, x.g, x.c, x.h, []⟩, by simp [clrF, hp, hx], e⟩
      · exact .inr ⟨p, x, by simp [clrF, hp, hx], e⟩
theorem qClearAt {W : World} {k : Nat} (h : Qm W Q F (clrF f k)) : Calls Try.prog 49 #[ptrOf (f k)] W fun e w' => e = .returned (I (lst f k).length) ∧ Qm w' Q F (clrF f (k + 1)) ∧ Fz (Qb Q f) W w' := by
  unfold lst
  cases hx : f k with
  | none =>
    refine (iClear_nil W).mono ?_
    rintro e w' ⟨rfl, rfl⟩
    rw [clrF_none hx]
    exact ⟨rfl, h, Fz.refl _ _⟩
  | some x =>
    have hx2 : clrF f k k = some x := (clrF_at f k).trans hx
    obtain ⟨fz, R, hq⟩ := (h.r k x hx2).2.2
    refine (iClear_any hq).mono ?_
    rintro e w' ⟨rfl, q1, f1⟩
    rw [intsV_len, clrF_some hx]
    obtain ⟨r1, r2⟩ := h.ring hx2 f1 (l' := []) q1
    exact ⟨rfl, r1, r2.mono (fun b e => (Qb.clr f k b).1 e)⟩
set_option maxRecDepth 100000 in
set_option maxHeartbeats 4000000 in
theorem qClear_any (h : Qm w Q F f) : Calls Try.prog 24 #[qP Q] w fun e w' => e = .returned (I (sumF f 64)) ∧ Qu w' Q 0 (clearF f) ∧ Fz (Qb Q f) w w' := by
  have hN := qnone_any h
  have hr := h.range
  have H : Hid (Qm w Q F f) := h
  clear h
  have HG : Hid (∀ p, p < 64 → (ptrsL f).toArray[p]? = some (ptrOf (f p))) := fun p hp => ptrsL_get f hp
  have hlen : (ptrsL f).length = 64 := by simp [ptrsL]
  generalize ptrsL f = PS at *
  go_enter Try.func24, Try.ntmps24
  go_wp2_with (first
    | (go_at_call 33; refine hN.mono ?_; rintro e w1 ⟨rfl, rfl⟩)
    | (with_reducible refine wpList_id13 ?_; refine wpList_load_mid rfl 54 _ rfl Q 2 rfl PS _ hr Try.underlying54 rfl (by rw [hlen]; kernel_rfl) ?_))
  clear hr hN
  go_loopw [3, 12] (fun n i wr => ∃ k : Nat, k ≤ 64 ∧ i = .int .i64 k ∧ n = .int .i64 (sumF f k : Nat) ∧ Hid (Qm wr Q F (clrF f k) ∧ Fz (Qb Q f) w wr)) (fun _ i _ => 64 - (intOf i).toNat)
  case atStart => exact ⟨0, by omega, rfl, rfl, by rw [clrF_zero]; exact H.out, Fz.refl _ _⟩
  case round =>
    obtain ⟨k, hk, rfl, rfl, HI⟩ := hrel
    by_cases hlt : k < 64
    · have hltI : (k : Int) < 64 := by omega
      have hix := fun w => idx_arr w PS.toArray k hlt _ (HG.out k hlt)
      have hC := (qClearAt HI.out.1).mono (R' := fun e w' => e = .returned (I (lst f k).length) ∧ Hid (Qm w' Q F (clrF f (k + 1)) ∧ Fz (Qb Q f) w w')) (fun e w' ⟨k1, k2, k3⟩ => ⟨k1, k2, HI.out.2.trans k3⟩)
      have HS : Hid (sumF f (k + 1) = sumF f k + (lst f k).length) := rfl
      have s1 := H.out.sum k
      have s2 := H.out.len k
      generalize ptrOf (f k) = V at *
      generalize (lst f k).length = m at *
      go_wp2_with (first | (go_at_call 49; refine hC.mono ?_; rintro e w1 ⟨rfl, HC⟩))
      go_roundw
      case rel => exact ⟨k + 1, by omega, by go_num, by rw [HS.out]; go_num, HC.out⟩
      case measure => simp [intOf]; omega
    · obtain rfl : k = 64 := by omega
      have c1 := HI.out.1.c1
      have z1 := HI.out.1.frz 1
      go_wp2
      go_ret
      obtain ⟨q1, q2⟩ := HI.out
      obtain ⟨s1, s2⟩ := q1.fill 0
      rw [clrF_all H.out] at s1
      exact ⟨rfl, ⟨s1, Bt.zero (fun p x hx => by
        unfold clearF at hx
        obtain ⟨y, _, rfl⟩ := Option.map_eq_some_iff.1 hx
        rfl)⟩, q2.trans (s2.mono (fun b e => (Qb.clr f 64 b).1 e))⟩
end
/-- A copy, up to the ring k. -/
structure CpQ (w wr : World) (Q C F : Nat) (f g : RS) (k : Nat) : Prop where
  m : Qm wr C F g
  no : ∀ p, k ≤ p → g p = none
  eq : ∀ p, p < k → (g p).map (fun x => (x.c, x.h, x.l)) = (f p).map (fun x => (x.c, x.h, x.l))
  n : Nw w.heap.size C g
  b : Below w.heap.size w wr
theorem CpQ.stepN {w wr W : World} {Q C F : Nat} {f g : RS} {k : Nat} (h : CpQ w wr Q C F f g k) (hk : k < 64) (hx : f k = none) (hb : Below wr.heap.size wr W) : CpQ w (W.setCell ⟨C, 2 + k, none⟩ (.pointer none)) Q C F f g (k + 1) := by
  have hm := h.m.below hb
  have hbw : Below w.heap.size w W := h.b.trans (hb.mono h.b.size)
  refine ⟨?_, fun p hp => h.no p (by omega), fun p hp => ?_, h.n, hbw.setCell (p := ⟨C, 2 + k, none⟩) (h.n C (.inl rfl)) _⟩
  · obtain ⟨cs, ho, hs, h0, h1, hpp⟩ := hm.o
    have hF : Fx [C] W (W.setCell ⟨C, 2 + k, none⟩ (.pointer none)) := (Fx.refl _ W).set (.inl (by simp)) _ _
    refine ⟨⟨_, heap_setCell_same W C (2 + k) _ _ (.pointer none) ho, by simpa using hs, ?_, ?_, fun q hq2 => ?_⟩, fun q y hy => ?_, hm.a⟩
    · rw [Array.getElem?_setIfInBounds_ne (by omega)]; exact h0
    · rw [Array.getElem?_setIfInBounds_ne (by omega)]; exact h1
    · by_cases e : q = k
      · subst e
        rw [Array.getElem?_setIfInBounds_self_of_lt (by omega), h.no q (Nat.le_refl _)]
        rfl
      · rw [Array.getElem?_setIfInBounds_ne (by omega)]
        exact hpp q hq2
    · obtain ⟨k1, k2, k3⟩ := hm.r q y hy
      have hne := hm.ne hy
      exact ⟨k1, k2, k3.kept hF (by simp; exact fun e => hne.1 e.symm) (by simp; exact fun e => hne.2 e.symm)⟩
  · by_cases e : p = k
    · subst e
      simp [hx, h.no p (Nat.le_refl _)]
    · exact h.eq p (by omega)
theorem CpQ.stepS {w wr W : World} {Q C F : Nat} {f g : RS} {k : Nat} (h : CpQ w wr Q C F f g k) (hk : k < 64) {x : Ri} (hx : f k = some x) (hc : 1 ≤ x.c) (hb : Below wr.heap.size wr W) {B G : Nat} (hq : iQ W B G x.c x.h (intsV x.l)) (hB : wr.heap.size ≤ B) (hG : wr.heap.size ≤ G) : CpQ w (W.setCell ⟨C, 2 + k, none⟩ (iP B)) Q C F f (upd g k ⟨B, G, x.c, x.h, x.l⟩) (k + 1) := by
  have hm := h.m.below hb
  have hbw : Below w.heap.size w W := h.b.trans (hb.mono h.b.size)
  have hs := h.b.size
  refine ⟨hm.putR hk (h.no k (Nat.le_refl _)) hc hq (fun q y hy => ?_), fun p hp => ?_, fun p hp => ?_, h.n.upd (Nat.le_trans hs hB) (Nat.le_trans hs hG), hbw.setCell (p := ⟨C, 2 + k, none⟩) (h.n C (.inl rfl)) _⟩
  · have := (h.m.r q y hy).2.2.lts
    omega
  · rw [upd_other g _ (by omega)]
    exact h.no p (by omega)
  · by_cases e : p = k
    · subst e
      rw [upd_same, hx]
      rfl
    · rw [upd_other g _ e]
      exact h.eq p (by omega)
theorem qCopyAt {w wr W : World} {Q C F : Nat} {f g : RS} {k : Nat} (hQ : Qm W Q F f) (h : CpQ w wr Q C F f g k) (hk : k < 64) (hb : Below wr.heap.size wr W) : Calls Try.prog 50 #[ptrOf (f k)] W fun e w' => ∃ p g', e = .returned (.pointer p) ∧ Hid (CpQ w (w'.setCell ⟨C, 2 + k, none⟩ (.pointer p)) Q C F f g' (k + 1)) ∧ w'.cell? ⟨C, 2 + k, none⟩ = some (.pointer none) ∧ w'.frozen? ⟨C, 2 + k, none⟩ = false ∧ Below W.heap.size W w' := by
  have hcp : ∀ w', Below W.heap.size W w' → w'.cell? ⟨C, 2 + k, none⟩ = some (.pointer none) ∧ w'.frozen? ⟨C, 2 + k, none⟩ = false := fun w' hb2 => by
    have hm := (h.m.below hb).below hb2
    have := hm.cp hk
    rw [h.no k (Nat.le_refl _)] at this
    exact ⟨this, hm.frz _⟩
  cases hx : f k with
  | none =>
    refine (iCopy_nil W).mono ?_
    rintro e w' ⟨rfl, rfl⟩
    exact ⟨none, g, rfl, h.stepN hk hx hb, (hcp W (Below.refl _ _)).1, (hcp W (Below.refl _ _)).2, Below.refl _ _⟩
  | some x =>
    obtain ⟨h1, h2, fz, R, hq⟩ := hQ.r k x hx
    refine (iCopy_any hq (ones2 _)).mono ?_
    rintro e w' ⟨B, G, rfl, q1, e1, e2, b2⟩
    have hs := hb.size
    have hb3 : Below wr.heap.size wr w' := hb.trans (b2.mono hs)
    exact ⟨some ⟨B, 0, none⟩, _, rfl, h.stepS hk hx h2 hb3 q1 (by omega) (by omega), (hcp w' b2).1, (hcp w' b2).2, b2⟩
set_option maxRecDepth 100000 in
set_option maxHeartbeats 4000000 in
theorem qCopy_any {w : World} {Q F : Nat} {f : RS} (h : Qu w Q F f) : Calls Try.prog 26 #[qP Q] w fun e w' => ∃ C g, e = .returned (qP C) ∧ Qu w' C F g ∧ (∀ p, (g p).map (fun x => (x.c, x.h, x.l)) = (f p).map (fun x => (x.c, x.h, x.l))) ∧ Nw w.heap.size C g ∧ Below w.heap.size w w' := by
  have hN := qnone_any h.m
  have hc1 := h.m.c1
  have H : Hid (Qu w Q F f) := h
  have b1 := below_alloc w (.cells (QZ1 F) 56)
  have hr := (h.m.below b1).range
  have HC : Hid (CpQ w (w.alloc (.cells (QZ1 F) 56)) Q w.heap.size F f (fun _ => none) 0) := ⟨Qm.new1 w F, fun _ _ => rfl, fun p hp => by omega, (by
    rintro b (rfl | ⟨p, x, hx, _⟩)
    · exact Nat.le_refl _
    · cases hx), b1⟩
  clear h b1
  have HG : Hid (∀ p, p < 64 → (ptrsL f).toArray[p]? = some (ptrOf (f p))) := fun p hp => ptrsL_get f hp
  have hlen : (ptrsL f).length = 64 := by simp [ptrsL]
  generalize ptrsL f = PS at *
  unfold QZ1 QZ0 at hr HC
  go_enter Try.func26, Try.ntmps26
  go_wp2_with (first
    | (go_at_call 33; refine hN.mono ?_; rintro e w1 ⟨rfl, rfl⟩)
    | (with_reducible refine wpList_id13 ?_; refine wpList_load_mid rfl 54 _ rfl Q 2 rfl PS _ hr Try.underlying54 rfl (by rw [hlen]; kernel_rfl) ?_))
  clear hr hN hc1
  generalize (Try.zeroCells56.setIfInBounds 0 (.bool true)).setIfInBounds 1 (.int .u64 F) = Z at *
  generalize (w.alloc (.cells Z 56)) = W0 at *
  generalize hC : w.heap.size = C at *
  have HCs : Hid (w.heap.size = C) := hC
  clear hC
  go_loopw [18] (fun i wr => ∃ (k : Nat) (g : RS), k ≤ 64 ∧ i = .int .i64 k ∧ Hid (CpQ w wr Q C F f g k)) (fun i _ => 64 - (intOf i).toNat)
  case atStart => exact ⟨0, _, by omega, rfl, HC.out⟩
  case round =>
    clear HC
    obtain ⟨k, g, hk, rfl, HI⟩ := hrel
    by_cases hlt : k < 64
    · have hltI : (k : Int) < 64 := by omega
      have hk0 : ¬ (k : Int) < 0 := by omega
      have hix := fun w => idx_arr w PS.toArray k hlt _ (HG.out k hlt)
      have hCp := qCopyAt (W := wr.drew) (H.out.m.below HI.out.b.drew) HI.out hlt (Below.refl _ _).drew
      generalize ptrOf (f k) = V at *
      go_wp2
      go_region_held_law (fun _ => True) (trivial)
        (first | (go_at_call 50; refine hCp.mono ?_; rintro e w2 ⟨pp, g', rfl, HC2, hc2, hz2, b2⟩))
      all_goals
        go_wp2
        go_roundw
        case rel => exact ⟨k + 1, g', by omega, by go_num, HC2.out⟩
        case measure => simp [intOf]; omega
    · obtain rfl : k = 64 := by omega
      go_wp2
      go_ret
      have h9 := HI.out
      have heq : ∀ p, (g p).map (fun x => (x.c, x.h, x.l)) = (f p).map (fun x => (x.c, x.h, x.l)) := fun p => by
        by_cases hp : p < 64
        · exact h9.eq p hp
        · rw [h9.no p (by omega)]
          cases hx : f p with
          | none => rfl
          | some x => exact absurd (H.out.m.r p x hx).1 hp
      refine ⟨C, g, rfl, ⟨h9.m, H.out.b.1, fun p => ?_⟩, heq, HCs.out ▸ h9.n, HCs.out ▸ h9.b⟩
      rw [H.out.b.2 p]
      have e := heq p
      constructor
      · rintro ⟨x, hx, hl⟩
        rw [hx] at e
        obtain ⟨y, hy, e2⟩ := Option.map_eq_some_iff.1 e
        simp at e2
        exact ⟨y, hy, by rw [e2.2.2]; exact hl⟩
      · rintro ⟨x, hx, hl⟩
        rw [hx] at e
        obtain ⟨y, hy, e2⟩ := Option.map_eq_some_iff.1 e.symm
        simp at e2
        exact ⟨y, hy, by rw [e2.2.2]; exact hl⟩
end Go.Proofs.Yticgikbnlpgnkaa
