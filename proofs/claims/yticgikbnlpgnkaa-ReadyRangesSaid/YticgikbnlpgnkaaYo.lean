import Derived.Test.YticgikbnlpgnkaaYk
namespace Go.Proofs.Yticgikbnlpgnkaa
open Go.RowKit
set_option linter.unusedVariables false
set_option linter.unusedSimpArgs false

/-! ### The document's queue -/
def inP (x : Int) (_ : Nat) (u : Value) : Prop := u = I x
def slV (s : Sl) : Value := .slice s.a s.n s.c
def rowP (rs : List Rr) : List (Int × Int) := rs.map fun r => ((r.p : Int), (r.c : Int))
def highV (rs : List Rr) : List Value := rs.map fun r => I r.h
structure DV (w : World) (D : Nat) (N Y : Nat → Prop) (rs : List Rr) (vr vl vh : Value) (ls : List Sl) : Prop where
  o : w.heap[D]? = some (.cells #[vr, vl, vh] 78)
  r : w.ownsRow 0 65 2 vr rs.length (pairsC (rowP rs))
  l : w.ownsRow 0 76 1 vl rs.length (ls.map slV)
  h : w.ownsRow 0 3 1 vh rs.length (highV rs)
  n : ls.length = rs.length
  s : ∀ (i : Nat) (x : Rr) (s : Sl), rs[i]? = some x → ls[i]? = some s → RowsAt w 1 inP s x.l ∧ ∀ g off, s.a = some ⟨g, off, none⟩ → ¬ N g ∧ vh.ownBlock ≠ some g ∧ ∃ cs, w.heap[g]? = some (.cells cs 3)
  y : ∀ g, vl.ownBlock = some g ∨ vh.ownBlock = some g → Y g
  yn : ∀ g, Y g → g < w.heap.size ∧ ¬ N g
  f : ¬ N D ∧ ∀ g, vr.ownBlock = some g → ¬ N g
def DQ (w : World) (D : Nat) (N Y : Nat → Prop) (rs : List Rr) : Prop := ∃ vr vl vh ls, DV w D N Y rs vr vl vh ls
abbrev dQ (D : Nat) : Value := .pointer (some ⟨D, 0, none⟩)
theorem inRows_kept {w w' : World} {M : Nat → Prop} {s : Sl} {l : List Int} (h : RowsAt w 1 inP s l) (hf : Fz M w w') (hM : ∀ g off, s.a = some ⟨g, off, none⟩ → ¬ M g) : RowsAt w' 1 inP s l :=
  ⟨h.n, h.c, h.m, fun j x hj => by
    obtain ⟨g, off, e, hg, hr⟩ := h.row j x hj
    refine ⟨g, off, e, Nat.lt_of_lt_of_le hg hf.size, fun i hi => ?_⟩
    obtain ⟨u, hu, hp⟩ := hr i hi
    exact ⟨u, hf.cell hu (hM g off e), hp⟩⟩
section
variable {w : World} {D : Nat} {N Y : Nat → Prop} {rs : List Rr} {vr vl vh : Value} {ls : List Sl}
/-- Where none of the document's blocks is touched. -/
theorem DV.kept (h : DV w D N Y rs vr vl vh ls) {M : Nat → Prop} {w' : World} (hf : Fz M w w') (hD : ¬ M D) (hr : ∀ g, vr.ownBlock = some g → ¬ M g) (hY : ∀ g, Y g → ¬ M g) (hl : ∀ (i : Nat) (s : Sl) g off, ls[i]? = some s → s.a = some ⟨g, off, none⟩ → ¬ M g) : DV w' D N Y rs vr vl vh ls :=
  ⟨hf.heap h.o hD, hf.own h.r hr, hf.own h.l (fun g e => hY g (h.y g (.inl e))), hf.own h.h (fun g e => hY g (h.y g (.inr e))), h.n, fun i x s hx hs => by
    obtain ⟨h1, h2⟩ := h.s i x s hx hs
    refine ⟨inRows_kept h1 hf (fun g off e => hl i s g off hs e), fun g off e => ?_⟩
    obtain ⟨k1, k2, cs, k3⟩ := h2 g off e
    exact ⟨k1, k2, cs, hf.heap k3 (hl i s g off hs e)⟩, h.y, fun g e => ⟨Nat.lt_of_lt_of_le (h.yn g e).1 hf.size, (h.yn g e).2⟩, h.f⟩
theorem DV.ls_of (h : DV w D N Y rs vr vl vh ls) {i : Nat} {s : Sl} (hs : ls[i]? = some s) : ∃ x, rs[i]? = some x := by
  have := (List.getElem?_eq_some_iff.1 hs).1
  exact ⟨_, List.getElem?_eq_getElem (by rw [← h.n]; exact this)⟩
theorem DV.prog (h : DV w D N Y rs vr vl vh ls) {w' : World} (hf : Fz N w w') : DV w' D N Y rs vr vl vh ls :=
  h.kept hf h.f.1 h.f.2 (fun g e => (h.yn g e).2) (fun i s g off hs e => by
    obtain ⟨x, hx⟩ := h.ls_of hs
    exact ((h.s i x s hx hs).2 g off e).1)
theorem DV.below (h : DV w D N Y rs vr vl vh ls) {w' : World} (hb : Below w.heap.size w w') : DV w' D N Y rs vr vl vh ls := h.kept (M := fun _ => False) (Fz.of_below hb) id (fun _ _ e => e) (fun _ _ e => e) (fun _ _ _ _ _ _ e => e)
theorem DQ.prog (h : DQ w D N Y rs) {w' : World} (hf : Fz N w w') : DQ w' D N Y rs := by
  obtain ⟨vr, vl, vh, ls, h⟩ := h
  exact ⟨vr, vl, vh, ls, h.prog hf⟩
theorem DQ.below (h : DQ w D N Y rs) {w' : World} (hb : Below w.heap.size w w') : DQ w' D N Y rs := by
  obtain ⟨vr, vl, vh, ls, h⟩ := h
  exact ⟨vr, vl, vh, ls, h.below hb⟩
theorem DV.cells (h : DV w D N Y rs vr vl vh ls) : w.cell? ⟨D, 0, none⟩ = some vr ∧ w.cell? ⟨D, 1, none⟩ = some vl ∧ w.cell? ⟨D, 2, none⟩ = some vh := by
  refine ⟨?_, ?_, ?_⟩ <;> (rw [cell_of_row w D _ _ _ (0, 0) h.o]; rfl)
theorem DV.rowAt (h : DV w D N Y rs vr vl vh ls) {i : Nat} {x : Rr} (hi : rs[i]? = some x) : ∃ g c, vr = .slice (some ⟨g, 0, none⟩) rs.length c ∧ w.cell? ⟨g, i * 2, none⟩ = some (I x.p) ∧ w.cell? ⟨g, i * 2 + 1, none⟩ = some (I x.c) := by
  have hlen : rs.length = (rowP rs).length := by simp [rowP]
  have hr := h.r
  rw [hlen] at hr
  have hlt := (List.getElem?_eq_some_iff.1 hi).1
  obtain ⟨g, c, cur, h1, _, h2, h3⟩ := own_pairs hr (by omega)
  obtain ⟨k1, k2⟩ := h3 i (x.p : Int) (x.c : Int) (by simp [rowP, hi])
  refine ⟨g, c, by rw [hlen]; exact h1, ?_, ?_⟩
  · rw [cell_of_row w g _ _ _ (0, 0) h2]; exact k1
  · rw [cell_of_row w g _ _ _ (0, 0) h2]; exact k2
theorem own_at1 {w : World} {E n : Nat} {v : Value} {xs : List Value} (h : w.ownsRow 0 E 1 v n xs) {i : Nat} {u : Value} (hi : xs[i]? = some u) : ∃ g c, v = .slice (some ⟨g, 0, none⟩) n c ∧ w.cell? ⟨g, i, none⟩ = some u ∧ ∀ j, w.frozen? ⟨g, j, none⟩ = false := by
  rcases h.2 with ⟨h1, h0⟩ | ⟨g, cap, cur, h1, _, hh, _⟩
  · have := h.1
    have hlt := (List.getElem?_eq_some_iff.1 hi).1
    omega
  · refine ⟨g, cap, h1, ?_, fun j => frozen_of_row w g j _ _ hh⟩
    have := h.cells (g := g) (by rw [h1]; rfl) i u hi
    rw [addr_add, Nat.zero_add] at this
    exact this
theorem DV.lAt (h : DV w D N Y rs vr vl vh ls) {i : Nat} {x : Rr} (hi : rs[i]? = some x) : ∃ g c s, vl = .slice (some ⟨g, 0, none⟩) rs.length c ∧ ls[i]? = some s ∧ w.cell? ⟨g, i, none⟩ = some (.slice s.a s.n s.c) ∧ (∀ j, w.frozen? ⟨g, j, none⟩ = false) ∧ RowsAt w 1 inP s x.l := by
  have hlt := (List.getElem?_eq_some_iff.1 hi).1
  obtain ⟨s, hs⟩ : ∃ s, ls[i]? = some s := ⟨_, List.getElem?_eq_getElem (by rw [h.n]; exact hlt)⟩
  obtain ⟨g, c, h1, h2, h3⟩ := own_at1 h.l (i := i) (u := slV s) (by simp [hs])
  exact ⟨g, c, s, h1, hs, h2, h3, (h.s i x s hi hs).1⟩
theorem DV.hAt (h : DV w D N Y rs vr vl vh ls) {i : Nat} {x : Rr} (hi : rs[i]? = some x) : ∃ g c, vh = .slice (some ⟨g, 0, none⟩) rs.length c ∧ w.cell? ⟨g, i, none⟩ = some (I x.h) ∧ ∀ j, w.frozen? ⟨g, j, none⟩ = false :=
  own_at1 h.h (by simp [highV, hi])
set_option maxHeartbeats 4000000 in
theorem dfind_ok (h : DV w D N Y rs vr vl vh ls) {i : Nat} {x : Rr} (hi : rs[i]? = some x) (hF : Fall rs) (hn : rs.length ≤ 64) : Calls Try.prog 42 #[dQ D, I x.p] w fun e w' => e = .returned (I i) ∧ w = w' := by
  obtain ⟨c0, -, -⟩ := h.cells
  obtain ⟨g, c, hv, -, -⟩ := h.rowAt hi
  subst hv
  have hlt := (List.getElem?_eq_some_iff.1 hi).1
  have HA : Hid (∀ (k : Nat), k ≤ i → ∃ y : Rr, rs[k]? = some y ∧ w.cell? ⟨g, k * 2, none⟩ = some (I y.p) ∧ (k < i → x.p < y.p) ∧ (k = i → y = x)) := fun k hk => by
    obtain ⟨y, hy⟩ : ∃ y, rs[k]? = some y := ⟨_, List.getElem?_eq_getElem (by omega)⟩
    obtain ⟨g2, c2, e2, k1, _⟩ := h.rowAt hy
    cases e2
    refine ⟨y, hy, k1, fun hki => hF k i y x hki hy hi, fun e => ?_⟩
    subst e
    rw [hi] at hy
    exact (Option.some.inj hy).symm
  clear h hi hF
  go_enter Try.func42, Try.ntmps42
  go_wp2
  go_loopw [5] (fun j wr => ∃ k : Nat, k ≤ i ∧ j = .int .i64 k ∧ Hid (w = wr)) (fun j _ => i - (intOf j).toNat)
  case atStart => exact ⟨0, Nat.zero_le _, rfl, rfl⟩
  case round =>
    obtain ⟨k, hk, rfl, HW⟩ := hrel
    obtain rfl := HW.out
    clear HW
    obtain ⟨y, hy, hc, h1, h2⟩ := HA.out k hk
    have hkI : (k : Int) < rs.length := by omega
    have hk0 : ¬ (k : Int) < 0 := by omega
    by_cases hki : k < i
    · have hne : ¬ ((y.p : Int) = x.p) := by have := h1 hki; omega
      clear hy h1 h2
      go_wp2
      go_roundw
      case rel => exact ⟨k + 1, by omega, by go_num, by first | exact trivial | (show _ = _; rfl)⟩
      case measure => simp [intOf]; omega
    · obtain rfl : k = i := by omega
      obtain rfl := h2 rfl
      clear h1 h2
      go_wp2
      go_ret
      exact ⟨rfl, rfl⟩
set_option maxHeartbeats 4000000 in
theorem dfind_no (h : DV w D N Y rs vr vl vh ls) {p : Int} (hp : Noway rs p) (hn : rs.length ≤ 64) : Calls Try.prog 42 #[dQ D, I p] w fun e w' => e = .returned (I (-1)) ∧ w = w' := by
  obtain ⟨c0, -, -⟩ := h.cells
  obtain ⟨a, c, hv⟩ := own_sl2 h.r
  subst hv
  have HA : Hid (∀ (k : Nat), k < rs.length → ∃ (g : Nat) (y : Rr), a = some ⟨g, 0, none⟩ ∧ w.cell? ⟨g, k * 2, none⟩ = some (I y.p) ∧ ¬ (y.p : Int) = p) := fun k hk => by
    obtain ⟨y, hy⟩ : ∃ y, rs[k]? = some y := ⟨_, List.getElem?_eq_getElem (by omega)⟩
    obtain ⟨g2, c2, e2, k1, _⟩ := h.rowAt hy
    cases e2
    exact ⟨g2, y, rfl, k1, hp k y hy⟩
  clear h hp
  go_enter Try.func42, Try.ntmps42
  go_wp2
  go_loopw [5] (fun j wr => ∃ k : Nat, k ≤ rs.length ∧ j = .int .i64 k ∧ Hid (w = wr)) (fun j _ => rs.length - (intOf j).toNat)
  case atStart => exact ⟨0, Nat.zero_le _, rfl, rfl⟩
  case round =>
    obtain ⟨k, hk, rfl, HW⟩ := hrel
    obtain rfl := HW.out
    clear HW
    have hk0 : ¬ (k : Int) < 0 := by omega
    by_cases hlt : k < rs.length
    · obtain ⟨g, y, rfl, hc, hne⟩ := HA.out k hlt
      have hkI : (k : Int) < rs.length := by omega
      go_wp2
      go_roundw
      case rel => exact ⟨k + 1, by omega, by go_num, by first | exact trivial | (show _ = _; rfl)⟩
      case measure => simp [intOf]; omega
    · obtain rfl : k = rs.length := by omega
      have hge : ¬ ((rs.length : Int) < rs.length) := by omega
      go_wp2
      go_ret
      exact ⟨rfl, rfl⟩
theorem dRing_no (h : DV w D N Y rs vr vl vh ls) {p : Int} (hp : Noway rs p) (hn : rs.length ≤ 64) : Calls Try.prog 47 #[dQ D, I p] w fun e w' => e = .returned (.slice none 0 0) ∧ w = w' := by
  have hF := dfind_no h hp hn
  clear h hp
  go_enter Try.func47, Try.ntmps47
  go_wp2_with (first | (go_at_call 42; refine hF.mono ?_; rintro e w1 ⟨rfl, rfl⟩))
  go_ret
  exact ⟨rfl, rfl⟩
theorem dMost_no (h : DV w D N Y rs vr vl vh ls) {p : Int} (hp : Noway rs p) (hn : rs.length ≤ 64) : Calls Try.prog 48 #[dQ D, I p] w fun e w' => e = .returned (I 0) ∧ w = w' := by
  have hF := dfind_no h hp hn
  clear h hp
  go_enter Try.func48, Try.ntmps48
  go_wp2_with (first | (go_at_call 42; refine hF.mono ?_; rintro e w1 ⟨rfl, rfl⟩))
  go_ret
  exact ⟨rfl, rfl⟩
theorem dRing_ok (h : DV w D N Y rs vr vl vh ls) {i : Nat} {x : Rr} (hi : rs[i]? = some x) (hF : Fall rs) (hn : rs.length ≤ 64) : Calls Try.prog 47 #[dQ D, I x.p] w fun e w' => ∃ s : Sl, e = .returned (.slice s.a s.n s.c) ∧ RowsAt w 1 inP s x.l ∧ w = w' := by
  have hf := dfind_ok h hi hF hn
  obtain ⟨-, c1, -⟩ := h.cells
  obtain ⟨g, c, s, rfl, hs, hc, hz, hr⟩ := h.lAt hi
  have hlt := (List.getElem?_eq_some_iff.1 hi).1
  have hi0 : ¬ (i : Int) < 0 := by omega
  have hiI : (i : Int) < rs.length := by omega
  clear h hi hF
  go_enter Try.func47, Try.ntmps47
  go_wp2_with (first | (go_at_call 42; refine hf.mono ?_; rintro e w1 ⟨rfl, rfl⟩))
  go_ret
  exact ⟨s, rfl, hr, rfl⟩
theorem dMost_ok (h : DV w D N Y rs vr vl vh ls) {i : Nat} {x : Rr} (hi : rs[i]? = some x) (hF : Fall rs) (hn : rs.length ≤ 64) : Calls Try.prog 48 #[dQ D, I x.p] w fun e w' => e = .returned (I x.h) ∧ w = w' := by
  have hf := dfind_ok h hi hF hn
  obtain ⟨-, -, c2⟩ := h.cells
  obtain ⟨g, c, rfl, hc, hz⟩ := h.hAt hi
  have hlt := (List.getElem?_eq_some_iff.1 hi).1
  have hi0 : ¬ (i : Int) < 0 := by omega
  have hiI : (i : Int) < rs.length := by omega
  clear h hi hF
  go_enter Try.func48, Try.ntmps48
  go_wp2_with (first | (go_at_call 42; refine hf.mono ?_; rintro e w1 ⟨rfl, rfl⟩))
  go_ret
  exact ⟨rfl, rfl⟩
end
end Go.Proofs.Yticgikbnlpgnkaa
