import Derived.Test.YtglnfifdjlgbcaaGreatDoorXYe
import Derived.Laws.PanicsMore
import Derived.Deep.MidRow
import Derived.Sort.LoopGhostIn
namespace Go.Proofs.YtglnfifdjlgbcaaGreatDoor.Re
open Go.RowKit
set_option linter.unusedVariables false
set_option linter.unusedSimpArgs false

/-! ### Queues: Len, Clear, Copy -/
theorem idx_arr (w : World) (cs : Array Value) (k : Nat) (hk : k < 64) (v : Value) (hv : cs[k]? = some v) : (Instr.index 183 (.agg cs) (I k)).run Tryz.prog w = .ok v w := by
  have hn : (0 ≤ (k : Int) ∧ (k : Int) < ((64 : Nat) : Int)) := by omega
  simp [Instr.index, run_underlying Tryz.underlying183, asIntOf, hn, go_sem]
  rw [if_pos hk, hv]
  rfl
theorem wpList_id13 {P : Program} {ops : Array Oper} {Q : Exit → Act → World → Prop} {l : List Oper} {a : Act} {w : World} (h : wpList P ops Q l a w) : wpList P ops Q l a w := h
def ptrsL (f : RS) : List Value := (List.range 64).map fun p => ptrOf (f p)
theorem ptrsL_get (f : RS) {p : Nat} (h : p < 64) : (ptrsL f).toArray[p]? = some (ptrOf (f p)) := by
  simp [ptrsL, h]
section
variable {w : World} {Q F : Nat} {f : RS}
theorem Qm.range (h : Qm w Q F f) : w.rangeAt Q 2 (ptrsL f) := fun j v hv => by
  unfold ptrsL at hv
  rw [List.getElem?_map] at hv
  obtain ⟨i, hi, rfl⟩ := Option.map_eq_some_iff.1 hv
  have hl := (List.getElem?_eq_some_iff.1 hi).1
  simp at hl
  rw [List.getElem?_range hl] at hi
  cases hi
  exact h.cp hl
theorem Qm.len (h : Qm w Q F f) (p : Nat) : (lst f p).length ≤ 65536 := by
  unfold lst
  cases hx : f p with
  | none => simp
  | some x =>
    have h1 := (h.r p x hx).2.2.le
    have h2 := (h.r p x hx).2.2.m
    rw [intsV_len] at h1
    simp
    omega
theorem Qm.sum (h : Qm w Q F f) : ∀ n, sumF f n ≤ n * 65536
  | 0 => by simp [sumF]
  | n + 1 => by have := h.sum n; have := h.len n; simp only [sumF]; omega
theorem qLenAt (h : Qm w Q F f) (p : Nat) : Calls Tryz.prog 170 #[ptrOf (f p)] w fun e w' => e = .returned (I (lst f p).length) ∧ w = w' := by
  unfold lst
  cases hx : f p with
  | none => exact iLen_nil w
  | some x =>
    have := iLenQ (h.r p x hx).2.2
    rw [intsV_len] at this
    exact this
theorem qClear_none {v : Value} (hN : Calls Tryz.prog 129 #[v] w fun e w' => e = .returned (.bool true) ∧ w = w') : Calls Tryz.prog 90 #[v] w fun e w' => e = .returned (I 0) ∧ w = w' := by
  go_enter Tryz.func90, Tryz.ntmps90
  go_wp2_with (first | (go_at_call 129; refine hN.mono ?_; rintro e w1 ⟨rfl, rfl⟩))
  go_ret
  exact ⟨rfl, rfl⟩
theorem qCopy_none {v : Value} (hN : Calls Tryz.prog 129 #[v] w fun e w' => e = .returned (.bool true) ∧ w = w') : Calls Tryz.prog 82 #[v] w fun e w' => e = .returned (.pointer none) ∧ w = w' := by
  go_enter Tryz.func82, Tryz.ntmps82
  go_wp2_with (first | (go_at_call 129; refine hN.mono ?_; rintro e w1 ⟨rfl, rfl⟩))
  go_ret
  exact ⟨rfl, rfl⟩
/-- The first k rings are empty. -/
def clrF (f : RS) (k : Nat) : RS := fun p => if p < k then (f p).map (fun x => ⟨x.B, x.g, x.c, x.h, []⟩) else f p
theorem clrF_zero (f : RS) : clrF f 0 = f := by funext p; simp [clrF]
theorem clrF_none {f : RS} {k : Nat} (h : f k = none) : clrF f (k + 1) = clrF f k := by
  funext p
  unfold clrF
  by_cases e : p = k
  · subst e; simp [h]
  · have : p < k + 1 ↔ p < k := by omega
    simp [this]
theorem clrF_some {f : RS} {k : Nat} {x : Ri} (h : f k = some x) : clrF f (k + 1) = upd (clrF f k) k ⟨x.B, x.g, x.c, x.h, []⟩ := by
  funext p
  unfold clrF upd
  by_cases e : p = k
  · subst e; simp [h]
  · have : p < k + 1 ↔ p < k := by omega
    simp [this, e]
theorem clrF_at (f : RS) (k : Nat) : clrF f k k = f k := by simp [clrF]
theorem clrF_all (h : Qm w Q F f) : clrF f 64 = clearF f := by
  funext p
  unfold clrF clearF
  by_cases e : p < 64
  · simp [e]
  · cases hx : f p with
    | none => simp
    | some x => exact absurd (h.r p x hx).1 e
theorem Qb.clr (f : RS) (k b : Nat) : Qb Q (clrF f k) b ↔ Qb Q f b := by
  constructor
  · rintro (e | ⟨p, x, hx, e⟩)
    · exact .inl e
    · unfold clrF at hx
      split at hx
      · obtain ⟨y, hy, rfl⟩ := Option.map_eq_some_iff.1 hx
        exact .inr ⟨p, y, hy, e⟩
      · exact .inr ⟨p, x, hx, e⟩
  · rintro (e | ⟨p, x, hx, e⟩)
    · exact .inl e
    · by_cases hp : p < k
      · exact .inr ⟨p, ⟨x.B, x.g, x.c, x.h, []⟩, by simp [clrF, hp, hx], e⟩
      · exact .inr ⟨p, x, by simp [clrF, hp, hx], e⟩
theorem qClearAt {W : World} {k : Nat} (h : Qm W Q F (clrF f k)) : Calls Tryz.prog 183 #[ptrOf (f k)] W fun e w' => e = .returned (I (lst f k).length) ∧ Qm w' Q F (clrF f (k + 1)) ∧ Fz (Qb Q f) W w' := by
  unfold lst
  cases hx : f k with
  | none =>
    refine (iClear_nil W).mono ?_
    rintro e w' ⟨rfl, rfl⟩
    rw [clrF_none hx]
    exact ⟨rfl, h, Fz.refl _ _⟩
  | some x =>
    have hx2 : clrF f k k = some x := (clrF_at f k).trans hx
    obtain ⟨fz, R, hq⟩ := (h.r k x hx2).2.2
    refine (iClear_any hq).mono ?_
    rintro e w' ⟨rfl, q1, f1⟩
    rw [intsV_len, clrF_some hx]
    obtain ⟨r1, r2⟩ := h.ring hx2 f1 (l' := []) q1
    exact ⟨rfl, r1, r2.mono (fun b e => (Qb.clr f k b).1 e)⟩
set_option maxRecDepth 100000 in
set_option maxHeartbeats 4000000 in
theorem qClear_any (h : Qm w Q F f) : Calls Tryz.prog 90 #[qP Q] w fun e w' => e = .returned (I (sumF f 64)) ∧ Qu w' Q 0 (clearF f) ∧ Fz (Qb Q f) w w' := by
  have hN := qnone_any h
  have hr := h.range
  have H : Hid (Qm w Q F f) := h
  clear h
  have HG : Hid (∀ p, p < 64 → (ptrsL f).toArray[p]? = some (ptrOf (f p))) := fun p hp => ptrsL_get f hp
  have hlen : (ptrsL f).length = 64 := by simp [ptrsL]
  generalize ptrsL f = PS at *
  go_enter Tryz.func90, Tryz.ntmps90
  go_wp2_with (first
    | (go_at_call 129; refine hN.mono ?_; rintro e w1 ⟨rfl, rfl⟩)
    | (with_reducible refine wpList_id13 ?_; refine wpList_load_mid rfl 183 _ rfl Q 2 rfl PS _ hr Tryz.underlying183 rfl (by rw [hlen]; kernel_rfl) ?_))
  clear hr hN
  go_loopw [3, 12] (fun n i wr => ∃ k : Nat, k ≤ 64 ∧ i = .int .i64 k ∧ n = .int .i64 (sumF f k : Nat) ∧ Hid (Qm wr Q F (clrF f k) ∧ Fz (Qb Q f) w wr)) (fun _ i _ => 64 - (intOf i).toNat)
  case atStart => exact ⟨0, by omega, rfl, rfl, by rw [clrF_zero]; exact H.out, Fz.refl _ _⟩
  case round =>
    obtain ⟨k, hk, rfl, rfl, HI⟩ := hrel
    by_cases hlt : k < 64
    · have hltI : (k : Int) < 64 := by omega
      have hix := fun w => idx_arr w PS.toArray k hlt _ (HG.out k hlt)
      have hC := (qClearAt HI.out.1).mono (R' := fun e w' => e = .returned (I (lst f k).length) ∧ Hid (Qm w' Q F (clrF f (k + 1)) ∧ Fz (Qb Q f) w w')) (fun e w' ⟨k1, k2, k3⟩ => ⟨k1, k2, HI.out.2.trans k3⟩)
      have HS : Hid (sumF f (k + 1) = sumF f k + (lst f k).length) := rfl
      have s1 := H.out.sum k
      have s2 := H.out.len k
      generalize ptrOf (f k) = V at *
      generalize (lst f k).length = m at *
      go_wp2_with (first | (go_at_call 183; refine hC.mono ?_; rintro e w1 ⟨rfl, HC⟩))
      go_roundw
      case rel => exact ⟨k + 1, by omega, by go_num, by rw [HS.out]; go_num, HC.out⟩
      case measure => simp [intOf]; omega
    · obtain rfl : k = 64 := by omega
      have c1 := HI.out.1.c1
      have z1 := HI.out.1.frz 1
      go_wp2
      go_ret
      obtain ⟨q1, q2⟩ := HI.out
      obtain ⟨s1, s2⟩ := q1.fill 0
      rw [clrF_all H.out] at s1
      exact ⟨rfl, ⟨s1, Bt.zero (fun p x hx => by
        unfold clearF at hx
        obtain ⟨y, _, rfl⟩ := Option.map_eq_some_iff.1 hx
        rfl)⟩, q2.trans (s2.mono (fun b e => (Qb.clr f 64 b).1 e))⟩
end
/-- A copy, up to the ring k. -/
structure CpQ (w wr : World) (Q C F : Nat) (f g : RS) (k : Nat) : Prop where
  m : Qm wr C F g
  no : ∀ p, k ≤ p → g p = none
  eq : ∀ p, p < k → (g p).map (fun x => (x.c, x.h, x.l)) = (f p).map (fun x => (x.c, x.h, x.l))
  n : Nw w.heap.size C g
  b : Below w.heap.size w wr
theorem CpQ.stepN {w wr W : World} {Q C F : Nat} {f g : RS} {k : Nat} (h : CpQ w wr Q C F f g k) (hk : k < 64) (hx : f k = none) (hb : Below wr.heap.size wr W) : CpQ w (W.setCell ⟨C, 2 + k, none⟩ (.pointer none)) Q C F f g (k + 1) := by
  have hm := h.m.below hb
  have hbw : Below w.heap.size w W := h.b.trans (hb.mono h.b.size)
  refine ⟨?_, fun p hp => h.no p (by omega), fun p hp => ?_, h.n, hbw.setCell (p := ⟨C, 2 + k, none⟩) (h.n C (.inl rfl)) _⟩
  · obtain ⟨cs, ho, hs, h0, h1, hpp⟩ := hm.o
    have hF : Fx [C] W (W.setCell ⟨C, 2 + k, none⟩ (.pointer none)) := (Fx.refl _ W).set (.inl (by simp)) _ _
    refine ⟨⟨_, heap_setCell_same W C (2 + k) _ _ (.pointer none) ho, by simpa using hs, ?_, ?_, fun q hq2 => ?_⟩, fun q y hy => ?_, hm.a⟩
    · rw [Array.getElem?_setIfInBounds_ne (by omega)]; exact h0
    · rw [Array.getElem?_setIfInBounds_ne (by omega)]; exact h1
    · by_cases e : q = k
      · subst e
        rw [Array.getElem?_setIfInBounds_self_of_lt (by omega), h.no q (Nat.le_refl _)]
        rfl
      · rw [Array.getElem?_setIfInBounds_ne (by omega)]
        exact hpp q hq2
    · obtain ⟨k1, k2, k3⟩ := hm.r q y hy
      have hne := hm.ne hy
      exact ⟨k1, k2, k3.kept hF (by simp; exact fun e => hne.1 e.symm) (by simp; exact fun e => hne.2 e.symm)⟩
  · by_cases e : p = k
    · subst e
      simp [hx, h.no p (Nat.le_refl _)]
    · exact h.eq p (by omega)
theorem CpQ.stepS {w wr W : World} {Q C F : Nat} {f g : RS} {k : Nat} (h : CpQ w wr Q C F f g k) (hk : k < 64) {x : Ri} (hx : f k = some x) (hc : 1 ≤ x.c) (hb : Below wr.heap.size wr W) {B G : Nat} (hq : iQ W B G x.c x.h (intsV x.l)) (hB : wr.heap.size ≤ B) (hG : wr.heap.size ≤ G) : CpQ w (W.setCell ⟨C, 2 + k, none⟩ (iP B)) Q C F f (upd g k ⟨B, G, x.c, x.h, x.l⟩) (k + 1) := by
  have hm := h.m.below hb
  have hbw : Below w.heap.size w W := h.b.trans (hb.mono h.b.size)
  have hs := h.b.size
  refine ⟨hm.putR hk (h.no k (Nat.le_refl _)) hc hq (fun q y hy => ?_), fun p hp => ?_, fun p hp => ?_, h.n.upd (Nat.le_trans hs hB) (Nat.le_trans hs hG), hbw.setCell (p := ⟨C, 2 + k, none⟩) (h.n C (.inl rfl)) _⟩
  · have := (h.m.r q y hy).2.2.lts
    omega
  · rw [upd_other g _ (by omega)]
    exact h.no p (by omega)
  · by_cases e : p = k
    · subst e
      rw [upd_same, hx]
      rfl
    · rw [upd_other g _ e]
      exact h.eq p (by omega)
theorem qCopyAt {w wr W : World} {Q C F : Nat} {f g : RS} {k : Nat} (hQ : Qm W Q F f) (h : CpQ w wr Q C F f g k) (hk : k < 64) (hb : Below wr.heap.size wr W) : Calls Tryz.prog 181 #[ptrOf (f k)] W fun e w' => ∃ p g', e = .returned (.pointer p) ∧ Hid (CpQ w (w'.setCell ⟨C, 2 + k, none⟩ (.pointer p)) Q C F f g' (k + 1)) ∧ w'.cell? ⟨C, 2 + k, none⟩ = some (.pointer none) ∧ w'.frozen? ⟨C, 2 + k, none⟩ = false ∧ Below W.heap.size W w' := by
  have hcp : ∀ w', Below W.heap.size W w' → w'.cell? ⟨C, 2 + k, none⟩ = some (.pointer none) ∧ w'.frozen? ⟨C, 2 + k, none⟩ = false := fun w' hb2 => by
    have hm := (h.m.below hb).below hb2
    have := hm.cp hk
    rw [h.no k (Nat.le_refl _)] at this
    exact ⟨this, hm.frz _⟩
  cases hx : f k with
  | none =>
    refine (iCopy_nil W).mono ?_
    rintro e w' ⟨rfl, rfl⟩
    exact ⟨none, g, rfl, h.stepN hk hx hb, (hcp W (Below.refl _ _)).1, (hcp W (Below.refl _ _)).2, Below.refl _ _⟩
  | some x =>
    obtain ⟨h1, h2, fz, R, hq⟩ := hQ.r k x hx
    refine (iCopy_any hq (ones2 _)).mono ?_
    rintro e w' ⟨B, G, rfl, q1, e1, e2, b2⟩
    have hs := hb.size
    have hb3 : Below wr.heap.size wr w' := hb.trans (b2.mono hs)
    exact ⟨some ⟨B, 0, none⟩, _, rfl, h.stepS hk hx h2 hb3 q1 (by omega) (by omega), (hcp w' b2).1, (hcp w' b2).2, b2⟩
set_option maxRecDepth 100000 in
set_option maxHeartbeats 4000000 in
theorem qCopy_any {w : World} {Q F : Nat} {f : RS} (h : Qu w Q F f) : Calls Tryz.prog 82 #[qP Q] w fun e w' => ∃ C g, e = .returned (qP C) ∧ Qu w' C F g ∧ (∀ p, (g p).map (fun x => (x.c, x.h, x.l)) = (f p).map (fun x => (x.c, x.h, x.l))) ∧ Nw w.heap.size C g ∧ Below w.heap.size w w' := by
  have hN := qnone_any h.m
  have hc1 := h.m.c1
  have H : Hid (Qu w Q F f) := h
  have b1 := below_alloc w (.cells (QZ1 F) 185)
  have hr := (h.m.below b1).range
  have HC : Hid (CpQ w (w.alloc (.cells (QZ1 F) 185)) Q w.heap.size F f (fun _ => none) 0) := ⟨Qm.new1 w F, fun _ _ => rfl, fun p hp => by omega, (by
    rintro b (rfl | ⟨p, x, hx, _⟩)
    · exact Nat.le_refl _
    · cases hx), b1⟩
  clear h b1
  have HG : Hid (∀ p, p < 64 → (ptrsL f).toArray[p]? = some (ptrOf (f p))) := fun p hp => ptrsL_get f hp
  have hlen : (ptrsL f).length = 64 := by simp [ptrsL]
  generalize ptrsL f = PS at *
  unfold QZ1 QZ0 at hr HC
  go_enter Tryz.func82, Tryz.ntmps82
  go_wp2_with (first
    | (go_at_call 129; refine hN.mono ?_; rintro e w1 ⟨rfl, rfl⟩)
    | (with_reducible refine wpList_id13 ?_; refine wpList_load_mid rfl 183 _ rfl Q 2 rfl PS _ hr Tryz.underlying183 rfl (by rw [hlen]; kernel_rfl) ?_))
  clear hr hN hc1
  generalize (Tryz.zeroCells185.setIfInBounds 0 (.bool true)).setIfInBounds 1 (.int .u64 F) = Z at *
  generalize (w.alloc (.cells Z 185)) = W0 at *
  generalize hC : w.heap.size = C at *
  have HCs : Hid (w.heap.size = C) := hC
  clear hC
  go_loopw [18] (fun i wr => ∃ (k : Nat) (g : RS), k ≤ 64 ∧ i = .int .i64 k ∧ Hid (CpQ w wr Q C F f g k)) (fun i _ => 64 - (intOf i).toNat)
  case atStart => exact ⟨0, _, by omega, rfl, HC.out⟩
  case round =>
    clear HC
    obtain ⟨k, g, hk, rfl, HI⟩ := hrel
    by_cases hlt : k < 64
    · have hltI : (k : Int) < 64 := by omega
      have hk0 : ¬ (k : Int) < 0 := by omega
      have hix := fun w => idx_arr w PS.toArray k hlt _ (HG.out k hlt)
      have hCp := qCopyAt (W := wr.drew) (H.out.m.below HI.out.b.drew) HI.out hlt (Below.refl _ _).drew
      generalize ptrOf (f k) = V at *
      go_wp2
      go_region_held_law (fun _ => True) (trivial)
        (first | (go_at_call 181; refine hCp.mono ?_; rintro e w2 ⟨pp, g', rfl, HC2, hc2, hz2, b2⟩))
      all_goals
        go_wp2
        go_roundw
        case rel => exact ⟨k + 1, g', by omega, by go_num, HC2.out⟩
        case measure => simp [intOf]; omega
    · obtain rfl : k = 64 := by omega
      go_wp2
      go_ret
      have h9 := HI.out
      have heq : ∀ p, (g p).map (fun x => (x.c, x.h, x.l)) = (f p).map (fun x => (x.c, x.h, x.l)) := fun p => by
        by_cases hp : p < 64
        · exact h9.eq p hp
        · rw [h9.no p (by omega)]
          cases hx : f p with
          | none => rfl
          | some x => exact absurd (H.out.m.r p x hx).1 hp
      refine ⟨C, g, rfl, ⟨h9.m, H.out.b.1, fun p => ?_⟩, heq, HCs.out ▸ h9.n, HCs.out ▸ h9.b⟩
      rw [H.out.b.2 p]
      have e := heq p
      constructor
      · rintro ⟨x, hx, hl⟩
        rw [hx] at e
        obtain ⟨y, hy, e2⟩ := Option.map_eq_some_iff.1 e
        simp at e2
        exact ⟨y, hy, by rw [e2.2.2]; exact hl⟩
      · rintro ⟨x, hx, hl⟩
        rw [hx] at e
        obtain ⟨y, hy, e2⟩ := Option.map_eq_some_iff.1 e.symm
        simp at e2
        exact ⟨y, hy, by rw [e2.2.2]; exact hl⟩
end Go.Proofs.YtglnfifdjlgbcaaGreatDoor.Re

namespace Go.Proofs.YtglnfifdjlgbcaaGreatDoor.Re
open Go.RowKit Go.Shelf
set_option linter.unusedVariables false
set_option linter.unusedSimpArgs false
attribute [local go_sem] Oper.semAt_some

/-! ### Ranging over a queue's ring -/
def ptrA : Option Ri → Option Addr
  | some x => some ⟨x.B, 0, none⟩
  | none => none
theorem ptrOf_eq (x : Option Ri) : ptrOf x = .pointer (ptrA x) := by cases x <;> rfl
theorem All_ptr (q : Option Addr) (w : World) : Calls Tryz.prog 171 #[.pointer q] w fun e w' => e = .returned (.func (.func 239) #[] #[.pointer (some ⟨w.heap.size, 0, none⟩)]) ∧ w' = w.alloc (.cells #[.pointer q] 182) := by
  go_enter Tryz.func171, Tryz.ntmps171
  go_wp2
  go_ret
  exact ⟨rfl, rfl⟩
set_option maxRecDepth 100000 in
set_option maxHeartbeats 4000000 in
theorem All1_nil (n : Nat) (hn : 1 ≤ n) (l Bn : Nat) (J Jx : List Int → World → Prop) (W : World) (hBn : W.cell? ⟨Bn, 0, none⟩ = some (.pointer none)) (h0 : J [] W) :
    CallsIn Fence.wide n Tryz.prog 239 #[.func (.yield l) #[] #[], .pointer (some ⟨Bn, 0, none⟩)] W fun e W' => (∃ v, e = .returned v) ∧
      ((∃ ys, ys = [] ∧ J ys W') ∨ (∃ pre, pre <+: ([] : List Int) ∧ Jx pre W')) := by
  have hN := inone_nil W
  refine callsIn_of_wp Tryz.func239 rfl trivial ?_ rfl
  simp only [Tryz.ntmps239, List.size_toArray, List.length_cons, List.length_nil, Nat.reduceAdd, Nat.reduceSub, Array.replicate_succ, Array.replicate_zero, List.push_toArray, List.append_toArray, List.nil_append, List.cons_append]
  gi_wp2_with (first
    | (refine ⟨trivial, ?_⟩; gi_at_call 238; refine (callsIn_wide.2 hN).mono ?_; rintro e w1 ⟨rfl, rfl⟩))
  refine bodyPost_ret (results_none rfl _ _ _) rfl ?_
  exact ⟨⟨_, rfl⟩, .inl ⟨[], rfl, h0⟩⟩
theorem AllAt_stops (n : Nat) (hn : 1 ≤ n) (Bn : Nat) (M : World → Nat → Prop) {w : World} {Q F : Nat} {f : RS} (h : Qm w Q F f) (o : Option Ri) (ho : ∀ x, o = some x → ∃ p, f p = some x) (hBl : Bn < w.heap.size) (hBn : w.cell? ⟨Bn, 0, none⟩ = some (.pointer (ptrA o))) (hMW : ∀ W' b, Below w.heap.size w W' → M W' b → b < w.heap.size) :
    SeqStopsK Fence.wide n Tryz.prog 239 #[.pointer (some ⟨Bn, 0, none⟩)] (fun x : Int => #[Value.int .i64 x]) (Kq M) (fun ys => ys = o.elim [] (·.l)) (fun pre => pre <+: o.elim [] (·.l)) (o.elim [] (·.l)).length w := by
  cases o with
  | none => exact fun l J Jx W hW hJ _ hY h0 => All1_nil n hn l Bn J Jx W ((hW.cell (p := ⟨Bn, 0, none⟩) hBl).trans hBn) h0
  | some x =>
    obtain ⟨p, hp⟩ := ho x rfl
    exact All_stops n hn Bn M x.l x.B x.g x.c x.h w hBl hBn (h.r p x hp).2.2 hMW
theorem oLen (w : World) {Q F : Nat} {f : RS} (h : Qm w Q F f) (o : Option Ri) (ho : ∀ x, o = some x → ∃ p, f p = some x) : (Calls Tryz.prog 170 #[.pointer (ptrA o)] w fun e w' => e = .returned (I (o.elim [] (·.l)).length) ∧ w = w') ∧ (o.elim [] (·.l)).length ≤ 65536 := by
  cases o with
  | none => exact ⟨iLen_nil w, by simp⟩
  | some x =>
    obtain ⟨p, hp⟩ := ho x rfl
    have hq := (h.r p x hp).2.2
    have := iLenQ hq
    rw [intsV_len] at this
    have h1 := hq.le
    have h2 := hq.m
    rw [intsV_len] at h1
    exact ⟨this, by simp; omega⟩
set_option maxRecDepth 100000 in
set_option maxHeartbeats 4000000 in
/-- q.Ring(p), wherever ringOf gives this ring. -/
theorem qRing_o (w : World) (u : Value) (p : Int) (o : Option Ri) (hR : Calls Tryz.prog 169 #[u, I p] w fun e w' => e = .returned (.pointer (ptrA o)) ∧ w = w') (hL : Calls Tryz.prog 170 #[.pointer (ptrA o)] w fun e w' => e = .returned (I (o.elim [] (·.l)).length) ∧ w = w') (hle : (o.elim [] (·.l)).length ≤ 65536)
    (hS : ∀ (W : World) (Bn : Nat) (M : World → Nat → Prop), Below w.heap.size w W → Bn < W.heap.size → W.cell? ⟨Bn, 0, none⟩ = some (.pointer (ptrA o)) → (∀ W' b, Below W.heap.size W W' → M W' b → b < W.heap.size) → SeqStopsK Fence.wide (3 - 1) Tryz.prog 239 #[.pointer (some ⟨Bn, 0, none⟩)] (fun x : Int => #[Value.int .i64 x]) (Kq M) (fun ys => ys = o.elim [] (·.l)) (fun pre => pre <+: o.elim [] (·.l)) (o.elim [] (·.l)).length W) :
    Calls Tryz.prog 71 #[u, I p] w fun e w' => ∃ v, e = .returned v ∧ w'.ownsRow w.heap.size 3 1 v (o.elim [] (·.l)).length (intsV (o.elim [] (·.l))) ∧ Below w.heap.size w w' := by
  obtain ⟨i0, hi0, hz0, hz1, hz2⟩ := info_parts iinfo
  generalize (o.elim [] (·.l)) = xs at *
  generalize ptrA o = q at *
  obtain ⟨w2, hmk, hO2, hg2⟩ := run_make_own (P := Tryz.prog) w w.heap.size 31 3 i0 (.int .i64 0) 1 Tryz.underlying31 hi0 hz0 hz1 .i64 .i64 xs.length (by rw [hz2]; omega) (by unfold maxLen; omega) (Nat.le_refl _)
  have b2 : Below w.heap.size w w2 := (Below.refl _ w).grown hg2 (Nat.le_refl _) (fun k e => by cases e)
  have hst := run_storeCells_new (P := Tryz.prog) w2 31 #[.slice none 0 0] #[.slice (some ⟨w.heap.size, 0, none⟩) 0 xs.length] (by kernel_rfl) rfl (by simp [Value.oneCell'])
  refine (callsIn_wide (n := 3)).1 ?_
  refine callsIn_of_wp_marks Tryz.func71 rfl trivial ?_ rfl
  simp only [Tryz.ntmps71, List.size_toArray, List.length_cons, List.length_nil, Nat.reduceAdd, Nat.reduceSub, Array.replicate_succ, Array.replicate_zero, List.push_toArray, List.append_toArray, List.nil_append, List.cons_append]
  gi_wp2_with (first
    | (refine ⟨trivial, ?_⟩; gi_at_call 169; refine (callsIn_wide.2 hR).mono ?_; rintro e w1 ⟨rfl, rfl⟩)
    | (refine ⟨trivial, ?_⟩; gi_at_call 170; refine (callsIn_wide.2 hL).mono ?_; rintro e w1 ⟨rfl, rfl⟩)
    | (refine ⟨trivial, ?_⟩; gi_at_call 171; refine (callsIn_wide.2 (All_ptr q _)).mono ?_; rintro e w1 ⟨rfl, rfl⟩))
  have hs2 : w.heap.size ≤ w2.heap.size := b2.size
  have hX : w.heap.size < w2.heap.size := (hO2.lt w.heap.size rfl).2
  have bO := Boxed.new w2 31 (.slice (some ⟨w.heap.size, 0, none⟩) 0 xs.length)
  have bN := Boxed.new (w2.alloc (.cells #[.slice (some ⟨w.heap.size, 0, none⟩) 0 xs.length] 31)) 182 (.pointer q)
  rw [World.size_alloc] at bN
  have hB0 : Below w.heap.size w ((w2.alloc (.cells #[.slice (some ⟨w.heap.size, 0, none⟩) 0 xs.length] 31)).alloc (.cells #[.pointer q] 182)) := (b2.alloc b2.size _).alloc (by simp; omega) _
  have bO2 := bO.alloc (.cells #[.pointer q] 182)
  have hO3 : ((w2.alloc (.cells #[.slice (some ⟨w.heap.size, 0, none⟩) 0 xs.length] 31)).alloc (.cells #[.pointer q] 182)).ownsRow w.heap.size 3 1 (.slice (some ⟨w.heap.size, 0, none⟩) 0 xs.length) 0 [] := (hO2.alloc _).alloc _
  refine wpIn_rangeFunc_ownG rfl (by omega) (gf := 239) (lb := #[.pointer (some ⟨w2.heap.size + 1, 0, none⟩)]) rfl trivial (enters_of Tryz.func239 (by kernel_rfl) rfl)
    (hS _ (w2.heap.size + 1) (Mbox w2.heap.size) hB0 (by simp) bN.cell (fun W' b hb hm => by
      rcases hm with e | ⟨u, hu, e⟩
      · simp; omega
      · rw [hb.cell (p := ⟨w2.heap.size, 0, none⟩) (by simp; omega), bO2.cell] at hu
        cases hu
        cases e
        simp
        omega)) Kq.trans (Kq.put (fun W l o b hl hm => by
      have hne : w2.heap.size ≠ l := by simp at hl; omega
      rcases hm with e | ⟨u, hu, e⟩
      · exact .inl e
      · exact .inr ⟨u, by rw [← hu]; exact (World.cell?_of_block (World.putObj_heap_other hne)).symm, e⟩)) (Below.refl _ _) (fun _ => rfl)
    (fun pre W => (∃ v, Boxed W w2.heap.size 31 v ∧ W.ownsRow w.heap.size 3 1 v pre.length (intsV pre) ∧ True) ∧ Below w.heap.size w W)
    (fun _ _ _ => False)
    (OwnFrom.and (Own.from (holdsRow_own w.heap.size w2.heap.size 31 3 1 (fun pre => List.length pre) (fun pre => intsV pre) (fun pre v => True)) _) (ownFrom_below (Nat.le_refl _) (by simp; omega)))
    (fun _ _ _ _ _ hs _ _ => hs)
    ⟨⟨_, bO2, hO3, trivial⟩, hB0⟩
    (fun x => { tmps := #[u, I p, undef, undef, .slice none 0 0, .pointer q, .pointer (some ⟨w2.heap.size, 0, none⟩), .int .i64 x, u, I p, .pointer q, .pointer q, I xs.length, .slice (some ⟨w.heap.size, 0, none⟩) 0 xs.length, .pointer q, .func (.func 239) #[] #[.pointer (some ⟨w2.heap.size + 1, 0, none⟩)], .int .i64 x, undef, undef, undef, undef, undef], defers := [] }) ?assign ?body ?done ?stop
  case assign =>
    intro l x W K hK
    gi_wp2
    exact hK
  case body =>
    rintro l pre x W ⟨⟨v, hv, hrow, _⟩, hB⟩ hlt
    have hc := hv.cell
    clear hst hmk
    gi_wp2_with (gi_at_builtin; refine wpListIn_append_own_at _ rfl _ _ 31 rfl w.heap.size 3 i0 (.int .i64 0) 1 8 Tryz.underlying31 hi0 hz0 hz1 hz2 rfl (by decide) _ _ _ rfl (hrow.alloc _) ⟨W.heap.size, 0, none⟩ 1 1 [.int .i64 x] rfl rfl (cell_one_new _ _ _) (by simp [Value.oneCell']) (by unfold maxLen; omega) (by omega) (by have := hB.size; simp; omega) ?_; intro v' w1 hown' hgrow _ hat; obtain ⟨g', cap', rfl⟩ := ownsRow_succ hown'; obtain ⟨hv1, hv2, hr2, hk2, hb2⟩ := hv.appended (by decide) hrow hB.size hs2 hown' hgrow; have hc1 := hv1.cell; have hf1 := hv1.frozen; have hKq := Mbox.app hv hv2 hgrow hat)
    exact ⟨hk2.from _, hKq, ⟨_, hv2, by simpa [intsV] using hr2, trivial⟩, hB.trans hb2⟩
  case done =>
    rintro D ys W hD rfl ⟨⟨v, hv, hrow, _⟩, hB⟩ hK
    have hc := hv.cell
    clear hst hmk
    gi_wp2
    refine ⟨by simp, .inl ⟨_, _, rfl, run_takeDeferred hK, ?_⟩⟩
    exact ⟨_, results_tmp rfl _ _ _, v, rfl, ownsRow_putObj hrow _ hK rfl, hB.trans (belowK_b (w := w) (Nat.le_refl _) W D _ _ (by simp at hD; omega) hK rfl rfl)⟩
  case stop =>
    rintro D c pre W _ _ h _
    exact h.elim
section
variable {w : World} {Q F : Nat} {f : RS}
theorem ringAt_of (f : RS) (p : Int) (x : Ri) (h : ringAt f p = some x) : ∃ n, f n = some x := ⟨_, ringAt_some h⟩
theorem qRing_any (h : Qm w Q F f) (p : Int) : Calls Tryz.prog 71 #[qP Q, I p] w fun e w' => ∃ v, e = .returned v ∧ w'.ownsRow w.heap.size 3 1 v ((ringAt f p).elim [] (·.l)).length (intsV ((ringAt f p).elim [] (·.l))) ∧ Below w.heap.size w w' := by
  have hR := qringOf_any h p
  rw [ptrOf_eq] at hR
  obtain ⟨h1, h2⟩ := oLen w h (ringAt f p) (ringAt_of f p)
  exact qRing_o w (qP Q) p (ringAt f p) hR h1 h2 (fun W Bn M hb hl hc hM => AllAt_stops 2 (by omega) Bn M (h.below hb) (ringAt f p) (ringAt_of f p) hl hc hM)
theorem qRing_none {v : Value} (hN : Calls Tryz.prog 129 #[v] w fun e w' => e = .returned (.bool true) ∧ w = w') (p : Int) : Calls Tryz.prog 71 #[v, I p] w fun e w' => ∃ u, e = .returned u ∧ w'.ownsRow w.heap.size 3 1 u 0 [] ∧ Below w.heap.size w w' :=
  qRing_o w v p none (qringOf_none hN p) (iLen_nil w) (by simp) (fun W Bn M hb hl hc hM l J Jx W2 hW hJ _ hY h0 => All1_nil 2 (by omega) l Bn J Jx W2 ((hW.cell (p := ⟨Bn, 0, none⟩) hl).trans hc) h0)
end
end Go.Proofs.YtglnfifdjlgbcaaGreatDoor.Re

namespace Go.Proofs.YtglnfifdjlgbcaaGreatDoor.Re
open Go.RowKit Go.Shelf
set_option linter.unusedVariables false
set_option linter.unusedSimpArgs false
attribute [local go_sem] Oper.semAt_some

/-! ### Queues: list -/
def pairsC (l : List (Int × Int)) : List Value := l.flatMap fun x => [I x.1, I x.2]
theorem pairsC_app (a b : List (Int × Int)) : pairsC (a ++ b) = pairsC a ++ pairsC b := by simp [pairsC]
theorem pairsC_len (l : List (Int × Int)) : (pairsC l).length = l.length * 2 := by
  induction l with
  | nil => rfl
  | cons x t ih => simp only [pairsC, List.flatMap_cons, List.length_append, List.length_cons, List.length_nil]; simp only [pairsC] at ih; omega
theorem pairsC_one (l : List (Int × Int)) : ∀ u ∈ pairsC l, u.oneCell' = true := fun u hu => by
  unfold pairsC at hu
  obtain ⟨x, _, h⟩ := List.mem_flatMap.1 hu
  simp at h
  rcases h with rfl | rfl <;> rfl
theorem pairsC_get {l : List (Int × Int)} {j : Nat} {p x : Int} (h : l[j]? = some (p, x)) : (pairsC l)[j * 2]? = some (I p) ∧ (pairsC l)[j * 2 + 1]? = some (I x) := by
  induction l generalizing j with
  | nil => simp at h
  | cons y t ih =>
    cases j with
    | zero => simp at h; subst h; exact ⟨rfl, rfl⟩
    | succ j =>
      have := ih (j := j) (by simpa using h)
      have e : pairsC (y :: t) = I y.1 :: I y.2 :: pairsC t := rfl
      rw [e, show (j + 1) * 2 = j * 2 + 1 + 1 by omega]
      simpa using this
theorem cell_two_new (w : World) (x y : Value) (t : TypeId) : ∀ j u, [x, y][j]? = some u → (w.alloc (.cells #[x, y] t)).cell? ((⟨w.heap.size, 0, none⟩ : Addr).add j) = some u := by
  intro j u hj
  rw [addr_add, Nat.zero_add, cell_of_row _ _ _ _ _ (0, 0) (heap_alloc_new w _)]
  simpa using hj
theorem tag_snoc (p : Nat) (l : List Int) (x : Int) : tag p (l ++ [x]) = tag p l ++ [((p : Int), x)] := by simp [tag]
/-- The marks of rangings that are over. -/
def Mks (b0 : Nat) (Ds : List Nat) (W : World) : Prop := Ds.Nodup ∧ ∀ D ∈ Ds, b0 ≤ D ∧ W.heap[D]? = some (.deferred (some []))
def mk1 (D : Nat) : Deferred := { target := .collected D, args := #[] }
theorem leaveN {fn : Func} {tmps : Array Value} {R : Ending → World → Prop} {n : Nat} (b0 : Nat) : ∀ (Ds : List Nat) (W : World), Mks b0 Ds W → (∀ W', W.heap.size = W'.heap.size → (∀ (b : Nat) (o : Obj), W.heap[b]? = some o → o.isCells = true → W'.heap[b]? = some o) → Below b0 W W' → LeavesIn Fence.wide n Tryz.prog fn tmps R [] .returning W') → LeavesInM Fence.wide n Tryz.prog fn tmps R (Ds.map mk1) .returning W
  | [], W, _, h => h W rfl (fun _ _ h _ => h) (Below.refl _ _)
  | D :: Ds, W, hM, h => by
    obtain ⟨hb, hD⟩ := hM.2 D (by simp)
    have hnd := List.nodup_cons.1 hM.1
    have g := grownBy_putObj' W D (.deferred none)
    refine ⟨by simp, .inl ⟨D, _, rfl, run_takeDeferred hD, leaveN b0 Ds (W.putObj D (.deferred none)) ⟨hnd.2, fun E hE => ?_⟩ (fun W' hs hc hb' => h W' ?_ (fun b o ho hoc => hc b o ?_ hoc) ?_)⟩⟩
    · obtain ⟨k1, k2⟩ := hM.2 E (List.mem_cons_of_mem _ hE)
      exact ⟨k1, (g.block E (heap_lt k2) (fun e => by cases e; exact hnd.1 hE)).trans k2⟩
    · rw [← hs]; simp [World.putObj]
    · exact (g.block b (heap_lt ho) (fun e => by cases e; rw [hD] at ho; cases ho; cases hoc)).trans ho
    · exact ((Below.refl b0 W).grown g (by have := heap_lt hD; omega) (fun k e => by cases e; exact hb)).trans hb'
/-- What is no cells and lies below B. -/
def Ko (B : Nat) (W1 W : World) : Prop := ∀ (b : Nat) (o : Obj), b < B → W1.heap[b]? = some o → o.isCells = false → W.heap[b]? = some o
theorem Ko.refl (B : Nat) (W : World) : Ko B W W := fun _ _ _ h _ => h
theorem Ko.own {β : Type} (B : Nat) (W1 : World) : OwnFrom B (fun (_ : β) W => Ko B W1 W) := fun s W W' row hs hg hr b o hb h1 hc =>
  (hg.block b (heap_lt (hs b o hb h1 hc)) (fun e => by have := (hr b e.symm).1; omega)).trans (hs b o hb h1 hc)
theorem Ko.keep {B : Nat} {W1 W W' : World} (h : Ko B W1 W) (k : KeepsOthers W W') : Ko B W1 W' := fun b o hb h1 hc => k.same b o (h b o hb h1 hc) hc
theorem boxed_ownFrom {β : Type} (B b : Nat) (t : TypeId) (v : Value) : OwnFrom B (fun (_ : β) W => Boxed W b t v) := fun s W W' row hs hg hr => hs.kept hg (fun e => by
  obtain ⟨_, o, ho, hc⟩ := hr b e.symm
  rw [show W.heap[b]? = _ from hs] at ho
  cases ho
  cases hc)
theorem Mks.ko {b0 B : Nat} {Ds : List Nat} {W1 W : World} (h : Mks b0 Ds W1) (hB : W1.heap.size ≤ B) (k : Ko B W1 W) : Mks b0 Ds W := ⟨h.1, fun D hD => by
  obtain ⟨h1, h2⟩ := h.2 D hD
  exact ⟨h1, k D _ (by have := heap_lt h2; omega) h2 rfl⟩⟩
theorem Mks.cons {b0 : Nat} {Ds : List Nat} {W : World} {D : Nat} (h : Mks b0 Ds W) (hb : b0 ≤ D) (hD : W.heap[D]? = some (.deferred (some []))) (hn : D ∉ Ds) : Mks b0 (D :: Ds) W :=
  ⟨List.nodup_cons.2 ⟨hn, h.1⟩, fun E hE => by
    rcases List.mem_cons.1 hE with rfl | hE
    · exact ⟨hb, hD⟩
    · exact h.2 E hE⟩
theorem dn_bound {f : RS} {k : Nat} {acc : List (Int × Int)} (h : acc ++ dnF f k = dnF f 64) (hle : sumF f 64 ≤ 4194304) : acc.length ≤ 4194304 := by
  have := congrArg List.length h
  rw [List.length_append, dnF_len f 64] at this
  omega
section
variable {w : World} {Q F : Nat} {f : RS}
theorem dnF_nil : ∀ n, dnF (fun _ => Option.none) n = []
  | 0 => rfl
  | n + 1 => by simp only [dnF, dnF_nil n, tag, lst]; rfl
theorem sumF_nil : ∀ n, sumF (fun _ => Option.none) n = 0
  | 0 => rfl
  | n + 1 => by simp only [sumF, sumF_nil n, lst]; rfl
end
end Go.Proofs.YtglnfifdjlgbcaaGreatDoor.Re

namespace Go.Proofs.YtglnfifdjlgbcaaGreatDoor.Re
open Go.RowKit Go.Shelf
set_option linter.unusedVariables false
set_option linter.unusedSimpArgs false
attribute [local go_sem] Oper.semAt_some

/-! ### Ranging over a queue -/
theorem own_sl2 {w : World} {b E k n : Nat} {v : Value} {xs : List Value} (h : w.ownsRow b E k v n xs) : ∃ a c, v = .slice a n c := by
  rcases h.2 with ⟨rfl, rfl⟩ | ⟨g, cap, cur, rfl, _⟩
  · exact ⟨_, _, rfl⟩
  · exact ⟨_, _, rfl⟩
/-- The cells of a row of pairs. -/
theorem own_pairs {w : World} {b E : Nat} {v : Value} {l : List (Int × Int)} (h : w.ownsRow b E 2 v l.length (pairsC l)) (hne : 0 < l.length) : ∃ g c cur, v = .slice (some ⟨g, 0, none⟩) l.length c ∧ b ≤ g ∧ w.heap[g]? = some (.cells cur E) ∧ ∀ (j : Nat) (p x : Int), l[j]? = some (p, x) → cur[j * 2]? = some (I p) ∧ cur[j * 2 + 1]? = some (I x) := by
  rcases h.2 with ⟨h1, h0⟩ | ⟨g, cap, cur, h1, hb, hh, _⟩
  · omega
  · refine ⟨g, cap, cur, h1, hb, hh, fun j p x hj => ?_⟩
    obtain ⟨k1, k2⟩ := pairsC_get hj
    have e1 := h.cells (g := g) (by rw [h1]; rfl) _ _ k1
    have e2 := h.cells (g := g) (by rw [h1]; rfl) _ _ k2
    rw [addr_add, Nat.zero_add, cell_of_row w g _ _ _ (0, 0) hh] at e1 e2
    exact ⟨e1, e2⟩
end Go.Proofs.YtglnfifdjlgbcaaGreatDoor.Re

namespace Go.Proofs.YtglnfifdjlgbcaaGreatDoor.Re
open Go.RowKit Go.Shelf
set_option linter.unusedVariables false
set_option linter.unusedSimpArgs false
attribute [local go_sem] Oper.semAt_some

/-! ### The law's all -/
theorem Mbox.al {c : Nat} {W : World} {o : Obj} {b : Nat} (hc : c < W.heap.size) (h : Mbox c (W.alloc o) b) : Mbox c W b := by
  rcases h with e | ⟨u, hu, e⟩
  · exact .inl e
  · exact .inr ⟨u, by rw [← hu]; exact (World.cell?_of_block ((below_alloc W o).block c hc)).symm, e⟩
theorem Kq.alloc {M : World → Nat → Prop} {W : World} {o : Obj} (h : ∀ b, M (W.alloc o) b → M W b) : Kq M W (W.alloc o) := ⟨by simp, fun b cs ty hm hb => ⟨heap_over _ _ hb, fun e => hm (h b e)⟩⟩
section
variable {w : World} {Q F : Nat} {f : RS}
theorem dn_le (h : Qm w Q F f) : (dnF f 64).length ≤ 4194304 := by
  rw [dnF_len]
  have := h.sum 64
  omega
end
end Go.Proofs.YtglnfifdjlgbcaaGreatDoor.Re

namespace Go.Proofs.YtglnfifdjlgbcaaGreatDoor.Re
open Go.RowKit
set_option linter.unusedVariables false
set_option linter.unusedSimpArgs false

/-! ### Queues: their face -/
/-- A queue with the rings rs; its blocks are of X. -/
structure QR (w : World) (Q : Nat) (X : Nat → Prop) (rs : List Rr) : Prop where
  ex : ∃ F f, Qu w Q F f ∧ Mt f rs ∧ ∀ b, Qb Q f b → X b
  fall : Fall rs
def Noway (rs : List Rr) (p : Int) : Prop := ∀ (i : Nat) (r : Rr), rs[i]? = some r → (r.p : Int) ≠ p
section
variable {w : World} {Q : Nat} {X : Nat → Prop} {rs : List Rr}
theorem QR.kept (h : QR w Q X rs) {M : Nat → Prop} {w' : World} (hf : Fz M w w') (hM : ∀ b, X b → ¬ M b) : QR w' Q X rs := by
  obtain ⟨F, f, hq, hm, hx⟩ := h.ex
  exact ⟨⟨F, f, hq.kept hf (fun b hb => hM b (hx b hb)), hm, hx⟩, h.fall⟩
theorem QR.below (h : QR w Q X rs) {w' : World} (hf : Below w.heap.size w w') : QR w' Q X rs := h.kept (M := fun _ => False) (Fz.of_below hf) (fun _ _ e => e)
theorem QR.p64 (h : QR w Q X rs) : ∀ (i : Nat) (r : Rr), rs[i]? = some r → r.p < 64 ∧ 1 ≤ r.c ∧ r.c ≤ 65536 ∧ r.l.length ≤ r.h ∧ r.h ≤ r.c := fun i r hi => by
  obtain ⟨F, f, hq, hm, hx⟩ := h.ex
  obtain ⟨x, hxx, e1, e2, e3⟩ := hm.1 i r hi
  obtain ⟨k1, k2, k3⟩ := hq.m.r r.p x hxx
  have k4 := k3.hle
  have k5 := k3.m
  rw [intsV_len] at k4
  rw [e1, e2, e3] at k4
  rw [e1] at k2 k5
  exact ⟨k1, k2, k5, k4.1, k4.2⟩
theorem QR.ring (h : QR w Q X rs) : ∃ F f, Qu w Q F f ∧ Mt f rs ∧ (∀ b, Qb Q f b → X b) ∧ (∀ p : Int, Noway rs p → ringAt f p = none) ∧ (∀ (i : Nat) (r : Rr), rs[i]? = some r → ∃ x, ringAt f r.p = some x ∧ f r.p = some x ∧ x.c = r.c ∧ x.h = r.h ∧ x.l = r.l) := by
  have h64 := h.p64
  obtain ⟨F, f, hq, hm, hx⟩ := h.ex
  refine ⟨F, f, hq, hm, hx, fun p hp => ?_, fun i r hi => ?_⟩
  · unfold ringAt
    split
    · rename_i hr
      refine hm.none (fun i r hi e => hp i r hi ?_)
      omega
    · rfl
  · obtain ⟨x, hxx, e⟩ := hm.1 i r hi
    exact ⟨x, (ringAt_nat f (h64 i r hi).1).trans hxx, hxx, e⟩
theorem rTail_no (h : QR w Q X rs) {p : Int} (hp : Noway rs p) (v : Int) : Calls Tryz.prog 117 #[qP Q, I p, I v] w fun e w' => e = .returned (I 130) ∧ w = w' := by
  obtain ⟨F, f, hq, hm, hx, hn, hs⟩ := h.ring
  exact qTail_no hq.m (hn p hp) v
theorem rTail_full (h : QR w Q X rs) {i : Nat} {r : Rr} (hi : rs[i]? = some r) (hl : r.l.length = r.c) (v : Int) : Calls Tryz.prog 117 #[qP Q, I r.p, I v] w fun e w' => e = .returned (I 131) ∧ QR w' Q X rs ∧ Fz X w w' := by
  obtain ⟨F, f, hq, hm, hx, hn, hs⟩ := h.ring
  obtain ⟨x, e0, e1, e2, e3, e4⟩ := hs i r hi
  refine (qTail_full hq.m e0 (by rw [e4, e2]; exact hl) v).mono ?_
  rintro e w' ⟨rfl, b⟩
  exact ⟨rfl, h.below b, Fz.of_below b⟩
theorem rTail_ok (h : QR w Q X rs) {i : Nat} {r : Rr} (hi : rs[i]? = some r) (hl : r.l.length < r.c) (v : Int) : Calls Tryz.prog 117 #[qP Q, I r.p, I v] w fun e w' => e = .returned (I 0) ∧ QR w' Q X (rs.set i ⟨r.p, r.c, max r.h (r.l.length + 1), r.l ++ [v]⟩) ∧ Fz X w w' := by
  obtain ⟨F, f, hq, hm, hx, hn, hs⟩ := h.ring
  obtain ⟨x, e0, e1, e2, e3, e4⟩ := hs i r hi
  refine (qTail_ok hq e1 (by rw [e4, e2]; exact hl) v).mono ?_
  rintro e w' ⟨rfl, q1, f1⟩
  rw [e4, e3] at q1
  exact ⟨rfl, ⟨⟨_, _, q1, hm.set h.fall hi e1 _ _, fun b hb => hx b ((Qb.upd e1 _ _ b).1 hb)⟩, h.fall.set hi rfl⟩, f1.mono hx⟩
theorem QR.top (h : QR w Q X rs) {i : Nat} {r : Rr} (hi : rs[i]? = some r) (hl : r.l ≠ []) (hj : ∀ (j : Nat) (b : Rr), j < i → rs[j]? = some b → b.l = []) : ∃ F f x, Qu w Q F f ∧ Mt f rs ∧ (∀ b, Qb Q f b → X b) ∧ Lib.bitLen F = r.p + 1 ∧ F ≠ 0 ∧ f r.p = some x ∧ x.c = r.c ∧ x.h = r.h ∧ x.l = r.l := by
  obtain ⟨F, f, hq, hm, hx, hn, hs⟩ := h.ring
  obtain ⟨x, e0, e1, e2, e3, e4⟩ := hs i r hi
  have hF : F ≠ 0 := fun e => hl (by rw [← e4]; exact hq.b.none e r.p x e1)
  obtain ⟨p, y, hp, hy, hyl, hup⟩ := hq.b.top hF
  obtain ⟨k, b, hk, hb, _, _, e5⟩ := hm.get hy
  have hkp : r.p = p := by
    rcases Nat.lt_trichotomy r.p p with c | c | c
    · have hki : k < i := by
        rcases Nat.lt_or_ge k i with d | d
        · exact d
        · rcases Nat.lt_or_ge i k with d2 | d2
          · have := h.fall i k r b d2 hi hk
            omega
          · obtain rfl : i = k := by omega
            rw [hi] at hk
            cases hk
            omega
      exact absurd (hj k b hki hk) (by rw [← e5]; exact hyl)
    · exact c
    · exact absurd (hup r.p x c e1) (by rw [e4]; exact hl)
  rw [← hkp] at hp
  exact ⟨F, f, x, hq, hm, hx, hp, hF, e1, e2, e3, e4⟩
theorem QR.empty (h : QR w Q X rs) (h0 : ∀ (i : Nat) (r : Rr), rs[i]? = some r → r.l = []) : ∃ f, Qu w Q 0 f ∧ Mt f rs ∧ (∀ b, Qb Q f b → X b) := by
  obtain ⟨F, f, hq, hm, hx⟩ := h.ex
  have : Bt 0 f := Bt.zero (fun p x hxx => by
    obtain ⟨i, r, hi, _, _, _, e⟩ := hm.get hxx
    rw [e]
    exact h0 i r hi)
  obtain rfl := hq.b.eq this
  exact ⟨f, hq, hm, hx⟩
theorem rHighest_ok (h : QR w Q X rs) {i : Nat} {r : Rr} (hi : rs[i]? = some r) (hl : r.l ≠ []) (hj : ∀ (j : Nat) (b : Rr), j < i → rs[j]? = some b → b.l = []) : Calls Tryz.prog 136 #[qP Q] w fun e w' => e = .returned (.tuple #[I r.p, .bool true]) ∧ w = w' := by
  obtain ⟨F, f, x, hq, hm, hx, hp, hF, e⟩ := h.top hi hl hj
  exact qHighest_ok hq hp hF
theorem rHighest_no (h : QR w Q X rs) (h0 : ∀ (i : Nat) (r : Rr), rs[i]? = some r → r.l = []) : Calls Tryz.prog 136 #[qP Q] w fun e w' => e = .returned (.tuple #[I 0, .bool false]) ∧ w = w' := by
  obtain ⟨f, hq, _⟩ := h.empty h0
  exact qHighest_no hq rfl
theorem rTake_no (h : QR w Q X rs) (h0 : ∀ (i : Nat) (r : Rr), rs[i]? = some r → r.l = []) : Calls Tryz.prog 122 #[qP Q] w fun e w' => e = .returned (.tuple #[qV 0 0, I 132]) ∧ QR w' Q X rs ∧ Fz X w w' := by
  obtain ⟨f, hq, _⟩ := h.empty h0
  refine (qTake_no hq rfl).mono ?_
  rintro e w' ⟨rfl, b⟩
  exact ⟨rfl, h.below b, Fz.of_below b⟩
theorem rTake_ok (h : QR w Q X rs) {i : Nat} {r : Rr} {v : Int} {t : List Int} (hi : rs[i]? = some r) (hl : r.l = v :: t) (hj : ∀ (j : Nat) (b : Rr), j < i → rs[j]? = some b → b.l = []) : Calls Tryz.prog 122 #[qP Q] w fun e w' => e = .returned (.tuple #[qV r.p v, I 0]) ∧ QR w' Q X (rs.set i ⟨r.p, r.c, r.h, t⟩) ∧ Fz X w w' := by
  obtain ⟨F, f, x, hq, hm, hx, hp, hF, e1, e2, e3, e4⟩ := h.top hi (by rw [hl]; simp) hj
  refine (qTake_ok hq hp hF e1 (e4.trans hl)).mono ?_
  rintro e w' ⟨rfl, ⟨F', q1⟩, f1⟩
  rw [e3] at q1
  exact ⟨rfl, ⟨⟨_, _, q1, hm.set h.fall hi e1 _ _, fun b hb => hx b ((Qb.upd e1 _ _ b).1 hb)⟩, h.fall.set hi rfl⟩, f1.mono hx⟩
theorem rBits (h : QR w Q X rs) : Calls Tryz.prog 48 #[qP Q] w fun e w' => e = .returned (.int .u64 (bitsR 0 rs : Nat)) ∧ w = w' := by
  have h64 := h.p64
  obtain ⟨F, f, hq, hm, hx⟩ := h.ex
  obtain rfl := hq.b.eq (hm.bits (fun i r hi => (h64 i r hi).1))
  exact qBits_any hq.m
theorem QR.dn (h : QR w Q X rs) {F : Nat} {f : RS} (hq : Qu w Q F f) (hm : Mt f rs) : dnF f 64 = allR rs := hm.all h.fall (fun i r hi => (h.p64 i r hi).1)
theorem QR.allLen (h : QR w Q X rs) : (allR rs).length ≤ 4194304 := by
  obtain ⟨F, f, hq, hm, hx⟩ := h.ex
  rw [← h.dn hq hm]
  exact dn_le hq.m
theorem rRing_ok (h : QR w Q X rs) {i : Nat} {r : Rr} (hi : rs[i]? = some r) : Calls Tryz.prog 71 #[qP Q, I r.p] w fun e w' => ∃ v, e = .returned v ∧ w'.ownsRow w.heap.size 3 1 v r.l.length (intsV r.l) ∧ Below w.heap.size w w' := by
  obtain ⟨F, f, hq, hm, hx, hn, hs⟩ := h.ring
  obtain ⟨x, e0, e1, e2, e3, e4⟩ := hs i r hi
  have := qRing_any hq.m (r.p : Int)
  rw [e0] at this
  change Calls Tryz.prog 71 #[qP Q, I r.p] w fun e w' => ∃ v, e = .returned v ∧ w'.ownsRow w.heap.size 3 1 v x.l.length (intsV x.l) ∧ Below w.heap.size w w' at this
  rw [e4] at this
  exact this
theorem rRing_no (h : QR w Q X rs) {p : Int} (hp : Noway rs p) : Calls Tryz.prog 71 #[qP Q, I p] w fun e w' => ∃ v, e = .returned v ∧ w'.ownsRow w.heap.size 3 1 v 0 (intsV []) ∧ Below w.heap.size w w' := by
  obtain ⟨F, f, hq, hm, hx, hn, hs⟩ := h.ring
  have := qRing_any hq.m p
  rw [hn p hp] at this
  exact this
theorem rClear (h : QR w Q X rs) : Calls Tryz.prog 90 #[qP Q] w fun e w' => e = .returned (I (allR rs).length) ∧ QR w' Q X (clearR rs) ∧ Fz X w w' := by
  obtain ⟨F, f, hq, hm, hx⟩ := h.ex
  refine (qClear_any hq.m).mono ?_
  rintro e w' ⟨rfl, q1, f1⟩
  rw [← dnF_len, h.dn hq hm]
  refine ⟨rfl, ⟨⟨0, _, q1, hm.clear, fun b hb => hx b ?_⟩, h.fall.clear⟩, f1.mono hx⟩
  rw [← clrF_all hq.m] at hb
  exact (Qb.clr f 64 b).1 hb
theorem rCopy (h : QR w Q X rs) : Calls Tryz.prog 82 #[qP Q] w fun e w' => ∃ C Y, e = .returned (qP C) ∧ QR w' C Y rs ∧ (∀ b, Y b → w.heap.size ≤ b ∧ b < w'.heap.size) ∧ Below w.heap.size w w' := by
  obtain ⟨F, f, hq, hm, hx⟩ := h.ex
  refine (qCopy_any hq).mono ?_
  rintro e w' ⟨C, g, rfl, q1, heq, hn, b1⟩
  refine ⟨C, Qb C g, rfl, ⟨⟨F, g, q1, ⟨fun i r hi => ?_, fun p x hxx => ?_⟩, fun b hb => hb⟩, h.fall⟩, fun b hb => ⟨hn b hb, Qb.lt q1.m hb⟩, b1⟩
  · obtain ⟨x, hxx, e1, e2, e3⟩ := hm.1 i r hi
    have e := heq r.p
    rw [hxx] at e
    obtain ⟨y, hy, e4⟩ := Option.map_eq_some_iff.1 e
    simp at e4
    exact ⟨y, hy, e4.1.trans e1, e4.2.1.trans e2, e4.2.2.trans e3⟩
  · have e := heq p
    rw [hxx] at e
    obtain ⟨y, hy, e4⟩ := Option.map_eq_some_iff.1 e.symm
    exact hm.2 p y hy
end
theorem rNew (w : World) (s : Sl) (l : List (Int × Int)) (h : RowsAt w 2 rwP s l) (hfit : fitB 64 l = true) : Calls Tryz.prog 31 #[.slice s.a s.n s.c] w fun e w' => ∃ Q X, e = .returned (.tuple #[qP Q, I 0]) ∧ QR w' Q X (newR l) ∧ (∀ b, X b → w.heap.size ≤ b ∧ b < w'.heap.size) ∧ Below w.heap.size w w' := by
  refine (qNew_ok w s l h hfit).mono ?_
  rintro e w' ⟨Q, f, rfl, q1, hm, b1, hn⟩
  exact ⟨Q, Qb Q f, rfl, ⟨⟨0, f, q1, hm, fun b hb => hb⟩, newR_fall hfit⟩, fun b hb => ⟨hn b hb, Qb.lt q1.m hb⟩, b1⟩
end Go.Proofs.YtglnfifdjlgbcaaGreatDoor.Re

