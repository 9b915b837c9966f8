import Derived.Test.YtlbkbnhnklaebaaRpl
namespace Go.Proofs.Ytlbkbnhnklaebaa
open Go.RowKit
set_option linter.unusedVariables false
set_option linter.unusedSimpArgs false

/-! ### play -/
/-- Between the ring's call and the document's. -/
structure Mid (X : Nat → Prop) (w : World) (B g D n hi hi' : Nat) (l l' : List Int) : Prop where
  q : iQ w B g n hi' (intsV l')
  d : ∃ v, Dg w D n hi v l ∧ ∀ k, v.ownBlock = some k → k ≠ g ∧ ¬ X k
  x : ∀ k, X k → k < w.heap.size
  ne : D ≠ B ∧ D ≠ g
section
variable {X : Nat → Prop} {w : World} {B g D n hi hi' : Nat} {l l' : List Int}
theorem Pr.mid {w' : World} (h : Pr X w B g D n hi l) (hf : Fx [B, g] w w') (hq : iQ w' B g n hi' (intsV l')) : Mid X w' B g D n hi hi' l l' := ⟨hq, h.ring hf, fun k e => Nat.lt_of_lt_of_le (h.x k e) hf.size, h.ne⟩
theorem Pr.le (h : Pr X w B g D n hi l) : l.length ≤ n ∧ n ≤ 65536 := ⟨by have := h.q.le; simpa [intsV] using this, h.q.m⟩
theorem intsV_len (l : List Int) : (intsV l).length = l.length := by simp [intsV]
theorem pLast (h : Pr X w B g D n hi l) (hc : l.length < n) (x : Int) : Calls Try.prog 11 #[iP B, I x] w fun e w' => e = .returned (I 0) ∧ Mid X w' B g D n hi (max hi (l.length + 1)) l (l ++ [x]) ∧ Fx [B, g] w w' := by
  refine (iLastQ h.q (by rw [intsV_len]; exact hc) x).mono ?_
  rintro e w' ⟨k, hq, hf⟩
  rw [intsV_len] at hq
  exact ⟨k, h.mid hf (by simpa [intsV] using hq), hf⟩
theorem pLastF (h : Pr X w B g D n hi l) (hc : l.length = n) (x : Int) : Calls Try.prog 11 #[iP B, I x] w fun e w' => e = .returned (I 121) ∧ Pr X w' B g D n hi l ∧ Below w.heap.size w w' := by
  refine (iLastF h.q (by rw [intsV_len]; exact hc) x).mono ?_
  rintro e w' ⟨k, hq, hf⟩
  exact ⟨k, h.below hf, hf⟩
theorem pFirst (h : Pr X w B g D n hi l) (hc : l.length < n) (x : Int) : Calls Try.prog 15 #[iP B, I x] w fun e w' => e = .returned (I 0) ∧ Mid X w' B g D n hi (max hi (l.length + 1)) l (x :: l) ∧ Fx [B, g] w w' := by
  refine (iFirstQ h.q (by rw [intsV_len]; exact hc) x).mono ?_
  rintro e w' ⟨k, hq, hf⟩
  rw [intsV_len] at hq
  exact ⟨k, h.mid hf (by simpa [intsV] using hq), hf⟩
theorem pFirstF (h : Pr X w B g D n hi l) (hc : l.length = n) (x : Int) : Calls Try.prog 15 #[iP B, I x] w fun e w' => e = .returned (I 121) ∧ Pr X w' B g D n hi l ∧ Below w.heap.size w w' := by
  refine (iFirstF h.q (by rw [intsV_len]; exact hc) x).mono ?_
  rintro e w' ⟨k, hq, hf⟩
  exact ⟨k, h.below hf, hf⟩
theorem pPut {x : Int} (h : Mid X w B g D n hi (max hi (l.length + 1)) l (l ++ [x])) (hc : l.length < n) : Calls Try.prog 20 #[dP D, I x, .bool false] w fun e w' => e = .returned (I 0) ∧ Pr X w' B g D n (max hi (l.length + 1)) (l ++ [x]) ∧ Fx [D] w w' := by
  obtain ⟨v, hd, hk⟩ := h.d
  refine (dPut_last hd hc x).mono ?_
  rintro e w' ⟨k, v', hd', hf', fx⟩
  exact ⟨k, Pr.doc h.q h.ne hd' hf' h.x fx, fx⟩
theorem pPutH {x : Int} (h : Mid X w B g D n hi (max hi (l.length + 1)) l (x :: l)) (hc : l.length < n) : Calls Try.prog 20 #[dP D, I x, .bool true] w fun e w' => e = .returned (I 0) ∧ Pr X w' B g D n (max hi (l.length + 1)) (x :: l) ∧ Fx [D] w w' := by
  obtain ⟨v, hd, hk⟩ := h.d
  refine (dPut_first hd hc x).mono ?_
  rintro e w' ⟨k, v', hd', hf', fx⟩
  exact ⟨k, Pr.doc h.q h.ne hd' hf' h.x fx, fx⟩
theorem pPutF (h : Pr X w B g D n hi l) (hc : l.length = n) (x : Int) (b : Bool) : Calls Try.prog 20 #[dP D, I x, .bool b] w fun e w' => e = .returned (I 121) ∧ Pr X w' B g D n hi l ∧ Below w.heap.size w w' := by
  obtain ⟨v, hd, hk⟩ := h.d
  refine (dPut_full hd hc x b).mono ?_
  rintro e w' ⟨k, hf⟩
  exact ⟨k, h.below hf, hf⟩
theorem pTake {x : Int} (h : Pr X w B g D n hi (x :: l)) : Calls Try.prog 12 #[iP B] w fun e w' => e = .returned (.tuple #[I x, I 0]) ∧ Mid X w' B g D n hi hi (x :: l) l ∧ Fx [B, g] w w' := by
  refine (iTakeQ x (l := intsV l) h.q).mono ?_
  rintro e w' ⟨k, hq, hf⟩
  exact ⟨k, h.mid hf hq, hf⟩
theorem pTakeD {x : Int} (h : Mid X w B g D n hi hi (x :: l) l) : Calls Try.prog 23 #[dP D] w fun e w' => e = .returned (.tuple #[I x, I 0]) ∧ Pr X w' B g D n hi l ∧ Fx [D] w w' := by
  obtain ⟨v, hd, hk⟩ := h.d
  refine (dTake_ok x hd (by have h1 := h.q.le; have h2 := h.q.m; rw [intsV_len] at h1; omega)).mono ?_
  rintro e w' ⟨k, v', hd', hf', fx⟩
  exact ⟨k, Pr.doc h.q h.ne hd' hf' h.x fx, fx⟩
theorem pClear (h : Pr X w B g D n hi l) : Calls Try.prog 33 #[iP B] w fun e w' => e = .returned (I l.length) ∧ Mid X w' B g D n hi hi l [] ∧ Fx [B, g] w w' := by
  obtain ⟨f, R, hR⟩ := h.q
  refine (iClear_any hR).mono ?_
  rintro e w' ⟨k, hq, hf⟩
  rw [intsV_len] at k
  exact ⟨k, h.mid hf hq, hf⟩
theorem pClearD (h : Mid X w B g D n hi hi l []) : Calls Try.prog 53 #[dP D] w fun e w' => e = .returned (I l.length) ∧ Pr X w' B g D n hi [] ∧ Fx [D] w w' := by
  obtain ⟨v, hd, hk⟩ := h.d
  refine (dClear_any hd).mono ?_
  rintro e w' ⟨k, v', hd', hf', fx⟩
  exact ⟨k, Pr.doc h.q h.ne hd' hf' h.x fx, fx⟩
/-- What play leaves. -/
def PlayP (X : Nat → Prop) (w : World) (B g D n : Nat) (w' : World) : Prop := (∃ hi' l', Pr X w' B g D n hi' l') ∧ Fx [B, g, D] w w'
end
set_option maxRecDepth 100000 in
set_option maxHeartbeats 4000000 in
theorem play1 {X : Nat → Prop} {w : World} {B g D n hi : Nat} {l : List Int} (h : Pr X w B g D n hi l) (vv : Int) : Calls Try.prog 27 #[iP B, dP D, .agg #[I 1, I vv]] w fun e w' => e = .returned (.bool true) ∧ PlayP X w B g D n w' := by
  have hlt := h.q.lts
  have hD : D < w.heap.size := by obtain ⟨v, hd, _⟩ := h.d; exact heap_lt hd.o
  have hw1 := h.below (below_alloc w (.cells #[I 1, I vv] 49))
  have F1 : Fx [B, g, D] w (w.alloc (.cells #[I 1, I vv] 49)) := (Fx.refl _ _).alloc _
  have cV : (w.alloc (.cells #[I 1, I vv] 49)).cell? ⟨w.heap.size, 1, none⟩ = some (I vv) := by rw [cell_of_row _ _ _ _ _ (0, 0) (heap_alloc_new w _)]; rfl
  have hA1 : w.heap.size ∉ [B, g] := by simp; omega
  have hA2 : w.heap.size ∉ [D] := by simp; omega
  have hle := h.le
  by_cases hc : l.length < n
  · go_enter Try.func27, Try.ntmps27
    go_wp2
    clear h
    generalize (w.alloc (.cells #[I 1, I vv] 49)) = W at *
    have cVd : W.drew.cell? ⟨w.heap.size, 1, none⟩ = some (I vv) := cV
    have Fd : Fx [B, g, D] w W.drew := F1.drewN 1
    have hd1 := hw1.below ((Below.refl W.heap.size W).drew)
    have R1 := pLast hd1 hc vv
    go_region_held_law (fun w' => w'.cell? ⟨w.heap.size, 1, none⟩ = some (I vv))
      (first | exact cV | exact cV3 | exact cV2 | exact cV1 | (go_keep; done))
      (first
        | (go_at_call 10; refine (num_any _ (by decide) _).mono ?_; rintro e w9 ⟨rfl, rfl⟩)
        | (go_at_call 11; refine R1.mono ?_; clear R1; rintro e w1 ⟨rfl, m1, f1⟩; have cV1 := f1.cell cVd hA1; have R2 := pPut m1 hc)
        | (go_at_call 20; refine R2.mono ?_; clear R2; rintro e w3 ⟨rfl, p3, f3⟩; have cV3 := f3.cell cV1 hA2))
    all_goals
      go_wp2
      go_ret
      exact ⟨rfl, ⟨_, _, p3⟩, (Fd.trans (f1.mono (by simp))).trans (f3.mono (by simp))⟩
  · have hc : l.length = n := by omega
    go_enter Try.func27, Try.ntmps27
    go_wp2
    clear h
    generalize (w.alloc (.cells #[I 1, I vv] 49)) = W at *
    have cVd : W.drew.cell? ⟨w.heap.size, 1, none⟩ = some (I vv) := cV
    have Fd : Fx [B, g, D] w W.drew := F1.drewN 1
    have hd1 := hw1.below ((Below.refl W.heap.size W).drew)
    have R1 := pLastF hd1 hc vv
    go_region_held_law (fun w' => w'.cell? ⟨w.heap.size, 1, none⟩ = some (I vv))
      (first | exact cV | exact cV3 | exact cV2 | exact cV1 | (go_keep; done))
      (first
        | (go_at_call 10; refine (num_any _ (by decide) _).mono ?_; rintro e w9 ⟨rfl, rfl⟩)
        | (go_at_call 11; refine R1.mono ?_; clear R1; rintro e w1 ⟨rfl, m1, f1⟩; have cV1 := (f1.cell (p := ⟨w.heap.size, 1, none⟩) (World.block_lt_of_cell? _ _ cVd)).trans cVd; have R2 := pPutF m1 hc vv false)
        | (go_at_call 20; refine R2.mono ?_; clear R2; rintro e w3 ⟨rfl, p3, f3⟩; have cV3 := (f3.cell (p := ⟨w.heap.size, 1, none⟩) (World.block_lt_of_cell? _ _ cV1)).trans cV1))
    all_goals
      go_wp2
      go_ret
      exact ⟨rfl, ⟨_, _, p3⟩, (Fd.trans (Fx.of_below f1)).trans (Fx.of_below f3)⟩
set_option maxRecDepth 100000 in
set_option maxHeartbeats 4000000 in
theorem play2 {X : Nat → Prop} {w : World} {B g D n hi : Nat} {l : List Int} (h : Pr X w B g D n hi l) (vv : Int) : Calls Try.prog 27 #[iP B, dP D, .agg #[I 2, I vv]] w fun e w' => e = .returned (.bool true) ∧ PlayP X w B g D n w' := by
  have hlt := h.q.lts
  have hD : D < w.heap.size := by obtain ⟨v, hd, _⟩ := h.d; exact heap_lt hd.o
  have hw1 := h.below (below_alloc w (.cells #[I 2, I vv] 49))
  have F1 : Fx [B, g, D] w (w.alloc (.cells #[I 2, I vv] 49)) := (Fx.refl _ _).alloc _
  have cV : (w.alloc (.cells #[I 2, I vv] 49)).cell? ⟨w.heap.size, 1, none⟩ = some (I vv) := by rw [cell_of_row _ _ _ _ _ (0, 0) (heap_alloc_new w _)]; rfl
  have hA1 : w.heap.size ∉ [B, g] := by simp; omega
  have hA2 : w.heap.size ∉ [D] := by simp; omega
  have hle := h.le
  by_cases hc : l.length < n
  · go_enter Try.func27, Try.ntmps27
    go_wp2
    clear h
    generalize (w.alloc (.cells #[I 2, I vv] 49)) = W at *
    have cVd : W.drew.cell? ⟨w.heap.size, 1, none⟩ = some (I vv) := cV
    have Fd : Fx [B, g, D] w W.drew := F1.drewN 1
    have hd1 := hw1.below ((Below.refl W.heap.size W).drew)
    have R1 := pFirst hd1 hc vv
    go_region_held_law (fun w' => w'.cell? ⟨w.heap.size, 1, none⟩ = some (I vv))
      (first | exact cV | exact cV3 | exact cV2 | exact cV1 | (go_keep; done))
      (first
        | (go_at_call 10; refine (num_any _ (by decide) _).mono ?_; rintro e w9 ⟨rfl, rfl⟩)
        | (go_at_call 15; refine R1.mono ?_; clear R1; rintro e w1 ⟨rfl, m1, f1⟩; have cV1 := f1.cell cVd hA1; have R2 := pPutH m1 hc)
        | (go_at_call 20; refine R2.mono ?_; clear R2; rintro e w3 ⟨rfl, p3, f3⟩; have cV3 := f3.cell cV1 hA2))
    all_goals
      go_wp2
      go_ret
      exact ⟨rfl, ⟨_, _, p3⟩, (Fd.trans (f1.mono (by simp))).trans (f3.mono (by simp))⟩
  · have hc : l.length = n := by omega
    go_enter Try.func27, Try.ntmps27
    go_wp2
    clear h
    generalize (w.alloc (.cells #[I 2, I vv] 49)) = W at *
    have cVd : W.drew.cell? ⟨w.heap.size, 1, none⟩ = some (I vv) := cV
    have Fd : Fx [B, g, D] w W.drew := F1.drewN 1
    have hd1 := hw1.below ((Below.refl W.heap.size W).drew)
    have R1 := pFirstF hd1 hc vv
    go_region_held_law (fun w' => w'.cell? ⟨w.heap.size, 1, none⟩ = some (I vv))
      (first | exact cV | exact cV3 | exact cV2 | exact cV1 | (go_keep; done))
      (first
        | (go_at_call 10; refine (num_any _ (by decide) _).mono ?_; rintro e w9 ⟨rfl, rfl⟩)
        | (go_at_call 15; refine R1.mono ?_; clear R1; rintro e w1 ⟨rfl, m1, f1⟩; have cV1 := (f1.cell (p := ⟨w.heap.size, 1, none⟩) (World.block_lt_of_cell? _ _ cVd)).trans cVd; have R2 := pPutF m1 hc vv true)
        | (go_at_call 20; refine R2.mono ?_; clear R2; rintro e w3 ⟨rfl, p3, f3⟩; have cV3 := (f3.cell (p := ⟨w.heap.size, 1, none⟩) (World.block_lt_of_cell? _ _ cV1)).trans cV1))
    all_goals
      go_wp2
      go_ret
      exact ⟨rfl, ⟨_, _, p3⟩, (Fd.trans (Fx.of_below f1)).trans (Fx.of_below f3)⟩
set_option maxRecDepth 100000 in
set_option maxHeartbeats 4000000 in
theorem play3 {X : Nat → Prop} {w : World} {B g D n hi : Nat} {l : List Int} (h : Pr X w B g D n hi l) (vv : Int) (hx : ∀ x ∈ l, True) : Calls Try.prog 27 #[iP B, dP D, .agg #[I 3, I vv]] w fun e w' => e = .returned (.bool true) ∧ PlayP X w B g D n w' := by
  have hlt := h.q.lts
  have hD : D < w.heap.size := by obtain ⟨v, hd, _⟩ := h.d; exact heap_lt hd.o
  have hw1 := h.below (below_alloc w (.cells #[I 3, I vv] 49))
  have F1 : Fx [B, g, D] w (w.alloc (.cells #[I 3, I vv] 49)) := (Fx.refl _ _).alloc _
  have cV : (w.alloc (.cells #[I 3, I vv] 49)).cell? ⟨w.heap.size, 1, none⟩ = some (I vv) := by rw [cell_of_row _ _ _ _ _ (0, 0) (heap_alloc_new w _)]; rfl
  have hA1 : w.heap.size ∉ [B, g] := by simp; omega
  have hA2 : w.heap.size ∉ [D] := by simp; omega
  have hle := h.le
  cases l with
  | nil =>
    obtain ⟨v, hd, hk⟩ := hw1.d
    have R1 := iTakeN (hi := hi) (n := n) (B := B) (g := g) (w := w.alloc (.cells #[I 3, I vv] 49)) hw1.q
    have R2 := dTake_no hd
    go_enter Try.func27, Try.ntmps27
    go_wp2_with (first
      | (go_at_call 10; refine (num_any _ (by decide) _).mono ?_; rintro e w9 ⟨rfl, rfl⟩)
      | (go_at_call 12; refine R1.mono ?_; rintro e w1 ⟨rfl, rfl⟩)
      | (go_at_call 23; refine R2.mono ?_; rintro e w1 ⟨rfl, rfl⟩))
    go_ret
    exact ⟨rfl, ⟨_, _, hw1⟩, F1⟩
  | cons x l =>
    have R1 := pTake hw1
    go_enter Try.func27, Try.ntmps27
    go_wp2_with (first
      | (go_at_call 10; refine (num_any _ (by decide) _).mono ?_; rintro e w9 ⟨rfl, rfl⟩)
      | (go_at_call 12; refine R1.mono ?_; rintro e w1 ⟨rfl, m1, f1⟩)
      | (go_at_call 23; refine (pTakeD m1).mono ?_; rintro e w3 ⟨rfl, p3, f3⟩))
    go_ret
    exact ⟨rfl, ⟨_, _, p3⟩, (F1.trans (f1.mono (by simp))).trans (f3.mono (by simp))⟩
set_option maxRecDepth 100000 in
set_option maxHeartbeats 4000000 in
theorem play4 {X : Nat → Prop} {w : World} {B g D n hi : Nat} {l : List Int} (h : Pr X w B g D n hi l) (vv : Int) : Calls Try.prog 27 #[iP B, dP D, .agg #[I 4, I vv]] w fun e w' => e = .returned (.bool true) ∧ PlayP X w B g D n w' := by
  have hlt := h.q.lts
  have hD : D < w.heap.size := by obtain ⟨v, hd, _⟩ := h.d; exact heap_lt hd.o
  have hw1 := h.below (below_alloc w (.cells #[I 4, I vv] 49))
  have F1 : Fx [B, g, D] w (w.alloc (.cells #[I 4, I vv] 49)) := (Fx.refl _ _).alloc _
  have cV : (w.alloc (.cells #[I 4, I vv] 49)).cell? ⟨w.heap.size, 1, none⟩ = some (I vv) := by rw [cell_of_row _ _ _ _ _ (0, 0) (heap_alloc_new w _)]; rfl
  have hA1 : w.heap.size ∉ [B, g] := by simp; omega
  have hA2 : w.heap.size ∉ [D] := by simp; omega
  have hle := h.le
  obtain ⟨v, hd, hk⟩ := hw1.d
  by_cases hr : vv < 0 ∨ (l.length : Int) ≤ vv
  · have R1 := iAtN hw1.q vv (by rw [intsV_len]; exact hr)
    have R2 := dAt_no hd vv hr
    clear hr
    go_enter Try.func27, Try.ntmps27
    go_wp2_with (first
      | (go_at_call 52; refine R1.mono ?_; rintro e w1 ⟨rfl, rfl⟩)
      | (go_at_call 25; refine R2.mono ?_; rintro e w1 ⟨rfl, rfl⟩))
    go_ret
    exact ⟨rfl, ⟨_, _, hw1⟩, F1⟩
  · obtain ⟨k, rfl⟩ := Int.eq_ofNat_of_zero_le (a := vv) (by omega)
    obtain ⟨x, hx⟩ : ∃ x, l[k]? = some x := ⟨_, List.getElem?_eq_getElem (by omega)⟩
    have R1 := iAtQ hw1.q k x (by simp [intsV, hx])
    have R2 : ∀ W, Below (w.alloc (.cells #[I 4, I (k : Int)] 49)).heap.size (w.alloc (.cells #[I 4, I (k : Int)] 49)) W → Calls Try.prog 25 #[dP D, I k] W fun e w' => e = .returned (.tuple #[I x, .bool true]) ∧ W = w' := fun W hb => dAt_ok (hd.below hb) k x hx (by omega)
    have hcv : ∀ W, Below (w.alloc (.cells #[I 4, I (k : Int)] 49)).heap.size (w.alloc (.cells #[I 4, I (k : Int)] 49)) W → W.cell? ⟨w.heap.size, 1, none⟩ = some (I k) := fun W hb => (hb.cell (p := ⟨w.heap.size, 1, none⟩) (World.block_lt_of_cell? _ _ cV)).trans cV
    clear hr hx
    go_enter Try.func27, Try.ntmps27
    go_wp2_with (first
      | (go_at_call 52; refine R1.mono ?_; rintro e w1 ⟨rfl, hq1, b1⟩; have cv1 := hcv w1 b1)
      | (go_at_call 25; refine (R2 _ b1).mono ?_; rintro e w2 ⟨rfl, rfl⟩))
    go_ret
    exact ⟨rfl, ⟨_, _, hw1.below b1⟩, F1.trans (Fx.of_below b1)⟩
set_option maxRecDepth 100000 in
set_option maxHeartbeats 4000000 in
theorem play5 {X : Nat → Prop} {w : World} {B g D n hi : Nat} {l : List Int} (h : Pr X w B g D n hi l) (vv : Int) : Calls Try.prog 27 #[iP B, dP D, .agg #[I 5, I vv]] w fun e w' => e = .returned (.bool true) ∧ PlayP X w B g D n w' := by
  have hlt := h.q.lts
  have hD : D < w.heap.size := by obtain ⟨v, hd, _⟩ := h.d; exact heap_lt hd.o
  have hw1 := h.below (below_alloc w (.cells #[I 5, I vv] 49))
  have F1 : Fx [B, g, D] w (w.alloc (.cells #[I 5, I vv] 49)) := (Fx.refl _ _).alloc _
  have cV : (w.alloc (.cells #[I 5, I vv] 49)).cell? ⟨w.heap.size, 1, none⟩ = some (I vv) := by rw [cell_of_row _ _ _ _ _ (0, 0) (heap_alloc_new w _)]; rfl
  have hA1 : w.heap.size ∉ [B, g] := by simp; omega
  have hA2 : w.heap.size ∉ [D] := by simp; omega
  have hle := h.le
  have R1 := pClear hw1
  go_enter Try.func27, Try.ntmps27
  go_wp2_with (first
    | (go_at_call 33; refine R1.mono ?_; rintro e w1 ⟨rfl, m1, f1⟩)
    | (go_at_call 53; refine (pClearD m1).mono ?_; rintro e w3 ⟨rfl, p3, f3⟩))
  go_ret
  exact ⟨rfl, ⟨_, _, p3⟩, (F1.trans (f1.mono (by simp))).trans (f3.mono (by simp))⟩
set_option maxRecDepth 100000 in
set_option maxHeartbeats 4000000 in
theorem play0 (w : World) (u1 u2 : Value) (kd vv : Int) (h1 : ¬ kd = 1) (h2 : ¬ kd = 2) (h3 : ¬ kd = 3) (h4 : ¬ kd = 4) (h5 : ¬ kd = 5) : Calls Try.prog 27 #[u1, u2, .agg #[I kd, I vv]] w fun e w' => e = .returned (.bool true) ∧ Below w.heap.size w w' := by
  go_enter Try.func27, Try.ntmps27
  go_wp2
  go_ret
  exact ⟨rfl, below_alloc w _⟩
theorem play_any {X : Nat → Prop} {w : World} {B g D n hi : Nat} {l : List Int} (h : Pr X w B g D n hi l) (kd vv : Int) : Calls Try.prog 27 #[iP B, dP D, .agg #[I kd, I vv]] w fun e w' => e = .returned (.bool true) ∧ PlayP X w B g D n w' := by
  by_cases h1 : kd = 1
  · subst h1; exact play1 h vv
  by_cases h2 : kd = 2
  · subst h2; exact play2 h vv
  by_cases h3 : kd = 3
  · subst h3; exact play3 h vv (fun _ _ => trivial)
  by_cases h4 : kd = 4
  · subst h4; exact play4 h vv
  by_cases h5 : kd = 5
  · subst h5; exact play5 h vv
  exact (play0 w _ _ kd vv h1 h2 h3 h4 h5).mono (fun e w' k => ⟨k.1, ⟨_, _, h.below k.2⟩, Fx.of_below k.2⟩)
end Go.Proofs.Ytlbkbnhnklaebaa
