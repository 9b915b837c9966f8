import Derived.Test.YtpoekphebmonnabUp
namespace Go.Proofs.Ytpoekphebmonnab
open Go.RowKit Go.Shelf Go.Sort
set_option linter.unusedVariables false
set_option linter.unusedSimpArgs false

/-! ### The document's clock -/
theorem dinfo : (Try.prog.info? 65).map (fun i => (i.zero, i.size, i.bytes)) = some (some (.agg #[.bool false, .int .u64 0, .int .u32 0]), 3, 24) := by kernel_rfl
def flD : List Dal → List Value
  | [] => []
  | x :: r => .bool x.1 :: Q x.2.1 :: U x.2.2 :: flD r
theorem flD_len (l : List Dal) : (flD l).length = l.length * 3 := by
  induction l with
  | nil => rfl
  | cons x r ih => simp only [flD, List.length_cons, ih]; omega
theorem flD_at : ∀ {l : List Dal} {i : Nat} {x : Dal}, l[i]? = some x → (flD l)[i * 3]? = some (.bool x.1) ∧ (flD l)[i * 3 + 1]? = some (Q x.2.1) ∧ (flD l)[i * 3 + 2]? = some (U x.2.2)
  | [], i, x, h => by simp at h
  | y :: r, 0, x, h => by simp at h; subst h; exact ⟨rfl, rfl, rfl⟩
  | y :: r, i + 1, x, h => by
    rw [show (i + 1) * 3 = i * 3 + 3 by omega]
    exact flD_at (l := r) (by simpa using h)
theorem flD_set : ∀ (l : List Dal) (i : Nat) (x : Dal), flD (l.set i x) = (((flD l).set (i * 3) (.bool x.1)).set (i * 3 + 1) (Q x.2.1)).set (i * 3 + 2) (U x.2.2)
  | [], i, x => by simp [flD]
  | y :: r, 0, x => by simp [flD]
  | y :: r, i + 1, x => by
    rw [show (i + 1) * 3 = i * 3 + 3 by omega]
    simp only [List.set_cons_succ, flD, flD_set r i x]
theorem flD_one (l : List Dal) : ∀ v ∈ flD l, v.oneCell' = true := by
  induction l with
  | nil => intro v hv; simp [flD] at hv
  | cons x r ih =>
    intro v hv
    simp only [flD, List.mem_cons] at hv
    rcases hv with rfl | rfl | rfl | hv
    · rfl
    · rfl
    · rfl
    · exact ih v hv
theorem flD_zero (n : Nat) : flD (List.replicate n (false, 0, 0)) = (madeCells (Value.agg #[.bool false, .int .u64 0, .int .u32 0]).cells (n * 3)).toList := by
  apply List.ext_getElem?
  intro j
  by_cases hj : j < n * 3
  · have hz : (List.replicate n ((false, 0, 0) : Dal))[j / 3]? = some (false, 0, 0) := by rw [List.getElem?_replicate, if_pos (by omega)]
    obtain ⟨h1, h2, h3⟩ := flD_at hz
    have hr : (madeCells (Value.agg #[.bool false, .int .u64 0, .int .u32 0]).cells (n * 3)).toList[j]? = some ((#[Value.bool false, .int .u64 0, .int .u32 0] : Array Value)[j % 3]!) := by
      simp [madeCells, Value.cells, hj]
    rw [hr]
    rcases (by omega : j = j / 3 * 3 ∨ j = j / 3 * 3 + 1 ∨ j = j / 3 * 3 + 2) with e | e | e
    · rw [e, h1, show j / 3 * 3 % 3 = 0 by omega]; rfl
    · rw [e, h2, show (j / 3 * 3 + 1) % 3 = 1 by omega]; rfl
    · rw [e, h3, show (j / 3 * 3 + 2) % 3 = 2 by omega]; rfl
  · rw [List.getElem?_eq_none (by rw [flD_len, List.length_replicate]; omega), List.getElem?_eq_none (by simp [madeCells]; omega)]
theorem d0L_rep (n : Nat) : d0L (List.replicate n (0, 0)) = List.replicate n (false, 0, 0) := by simp [d0L]
theorem d0L_len (al : List Alm) : (d0L al).length = al.length := by simp [d0L]
theorem d0L_at {al : List Alm} {i : Nat} {x : Alm} (h : al[i]? = some x) : (d0L al)[i]? = some (decide (x.1 ≠ 0), x.1, x.2) := by simp [d0L, h]
theorem d0L_set (al : List Alm) (i : Nat) (y : Alm) : d0L (al.set i y) = (d0L al).set i (decide (y.1 ≠ 0), y.1, y.2) := by simp [d0L, List.map_set]
abbrev dkC (s : ByteArray) (G bs L V : Nat) (v : Value) : Array Value := #[.bool true, .string s, U G, U bs, U L, U V, v]
structure Dk (w : World) (D : Nat) (v : Value) (s : ByteArray) (G bs L V : Nat) (al : List Alm) : Prop where
  o : w.heap[D]? = some (.cells (dkC s G bs L V v) 47)
  p : w.ownsRow 0 65 3 v al.length (flD (d0L al))
  d : v.ownBlock ≠ some D
  b : 1 ≤ G ∧ G ≤ 2147483647 ∧ 1 ≤ L ∧ L ≤ G ∧ V ≤ G
  n : al.length ≤ 64
  x : AlOK G al
section
variable {w w' : World} {D G bs L V : Nat} {v : Value} {s : ByteArray} {al : List Alm}
theorem Dk.lt (h : Dk w D v s G bs L V al) {b : Nat} (hb : Cb D v b) : b < w.heap.size := by
  rcases hb with rfl | e
  · exact heap_lt h.o
  · exact (h.p.lt b e).2
theorem Dk.keptZ (h : Dk w D v s G bs L V al) {M : Nat → Prop} (hf : Fz M w w') (hM : ∀ b, Cb D v b → ¬ M b) : Dk w' D v s G bs L V al :=
  ⟨hf.heap h.o (hM _ (.inl rfl)), hf.own h.p (fun g e => hM g (.inr e)), h.d, h.b, h.n, h.x⟩
theorem Dk.below (h : Dk w D v s G bs L V al) (hb : Below w.heap.size w w') : Dk w' D v s G bs L V al := h.keptZ (M := fun _ => False) (Fz.of_below hb) (fun _ _ e => e)
theorem Dk.cells (h : Dk w D v s G bs L V al) : w.cell? ⟨D, 0, none⟩ = some (.bool true) ∧ w.cell? ⟨D, 2, none⟩ = some (U G) ∧ w.cell? ⟨D, 4, none⟩ = some (U L) ∧ w.cell? ⟨D, 5, none⟩ = some (U V) ∧ w.cell? ⟨D, 6, none⟩ = some v := by
  refine ⟨?_, ?_, ?_, ?_, ?_⟩ <;> (rw [cell_of_row w D _ _ _ (0, 0) h.o]; rfl)
theorem Dk.frz (h : Dk w D v s G bs L V al) (j : Nat) : w.frozen? ⟨D, j, none⟩ = false := frozen_of_row w D j _ _ h.o
theorem drow_at {w : World} {b g n c k : Nat} {D : List Dal} {x : Dal} (h : w.ownsRow b 65 3 (.slice (some ⟨g, 0, none⟩) n c) n (flD D)) (hn : n = D.length) (hx : D[k]? = some x) : w.cell? ⟨g, k * 3, none⟩ = some (.bool x.1) ∧ w.cell? ⟨g, k * 3 + 1, none⟩ = some (Q x.2.1) ∧ w.cell? ⟨g, k * 3 + 2, none⟩ = some (U x.2.2) ∧ ∀ j, w.frozen? ⟨g, j, none⟩ = false := by
  have hk : k < D.length := (List.getElem?_eq_some_iff.1 hx).1
  obtain ⟨e1, e2, e3⟩ := flD_at hx
  exact ⟨by rw [h.cellAt _ (by omega)]; exact e1, by rw [h.cellAt _ (by omega)]; exact e2, by rw [h.cellAt _ (by omega)]; exact e3, h.frozenAt⟩
/-- the world behind a store of an alarm of the document -/
def st3 (w : World) (g k : Nat) (y : Dal) : World := ((w.setCell ⟨g, k * 3, none⟩ (.bool y.1)).setCell ⟨g, k * 3 + 1, none⟩ (Q y.2.1)).setCell ⟨g, k * 3 + 2, none⟩ (U y.2.2)
theorem drow_set {w : World} {b g n c k : Nat} {D : List Dal} (h : w.ownsRow b 65 3 (.slice (some ⟨g, 0, none⟩) n c) n (flD D)) (y : Dal) : (st3 w g k y).ownsRow b 65 3 (.slice (some ⟨g, 0, none⟩) n c) n (flD (D.set k y)) := by
  rw [flD_set]
  exact ((((h.stored (k * 3) (.bool y.1)).1).stored (k * 3 + 1) (Q y.2.1)).1.stored (k * 3 + 2) (U y.2.2)).1
theorem fz_st3 (w : World) (g k : Nat) (y : Dal) : Fz (fun b => b = g) w (st3 w g k y) := (((Fz.refl (fun b => b = g) w).set (.inl rfl) _ _).set (.inl rfl) _ _).set (.inl rfl) _ _
theorem st3_ask {w : World} {g k : Nat} {x y : Dal} (h1 : w.cell? ⟨g, k * 3 + 1, none⟩ = some (Q x.2.1)) (h2 : w.cell? ⟨g, k * 3 + 2, none⟩ = some (U x.2.2)) : (w.setCell ⟨g, k * 3, none⟩ (.bool y.1)).cell? ⟨g, k * 3 + 1, none⟩ = some (Q x.2.1) ∧ ((w.setCell ⟨g, k * 3, none⟩ (.bool y.1)).setCell ⟨g, k * 3 + 1, none⟩ (Q y.2.1)).cell? ⟨g, k * 3 + 2, none⟩ = some (U x.2.2) :=
  ⟨cell_set_off h1 (by omega), cell_set_off (cell_set_off h2 (by omega)) (by omega)⟩
theorem Dk.at (h : Dk w D v s G bs L V al) {k : Nat} {x : Alm} (hx : al[k]? = some x) : ∃ g c, v = .slice (some ⟨g, 0, none⟩) al.length c ∧ w.cell? ⟨g, k * 3, none⟩ = some (.bool (decide (x.1 ≠ 0))) ∧ w.cell? ⟨g, k * 3 + 1, none⟩ = some (Q x.1) ∧ w.cell? ⟨g, k * 3 + 2, none⟩ = some (U x.2) ∧ ∀ j, w.frozen? ⟨g, j, none⟩ = false := by
  have hk : k < al.length := (List.getElem?_eq_some_iff.1 hx).1
  obtain ⟨g, c, rfl⟩ := own_some h.p (by omega)
  obtain ⟨e1, e2, e3, e4⟩ := drow_at h.p (by rw [d0L_len]) (d0L_at hx)
  exact ⟨g, c, rfl, e1, e2, e3, e4⟩
theorem Dk.put {g c : Nat} (h : Dk w D (.slice (some ⟨g, 0, none⟩) al.length c) s G bs L V al) (k : Nat) (y : Alm) (hy : y.1 ≤ G + 1 ∧ y.2 ≤ G) : Dk (st3 w g k (decide (y.1 ≠ 0), y.1, y.2)) D (.slice (some ⟨g, 0, none⟩) al.length c) s G bs L V (al.set k y) := by
  have hf := fz_st3 w g k (decide (y.1 ≠ 0), y.1, y.2)
  have hd : D ≠ g := fun e => h.d (by rw [e]; rfl)
  exact ⟨hf.heap h.o hd, by rw [List.length_set, d0L_set]; exact drow_set h.p _, h.d, h.b, by simpa using h.n, h.x.set hy⟩
theorem has_any (h : Dk w D v s G bs L V al) (t : Int) : Calls Try.prog 48 #[cP D, I t] w fun e w' => e = .returned (.bool (decide (0 ≤ t) && decide (t < al.length))) ∧ w = w' := by
  obtain ⟨c0, c1, c2, c3, c4⟩ := h.cells
  obtain ⟨a, cc, rfl⟩ := own_sl h.p
  by_cases h0 : 0 ≤ t
  · rw [show decide (0 ≤ t) = true by simpa using h0, Bool.true_and]
    go_enter Try.func48, Try.ntmps48
    go_wp2
    go_ret
    exact ⟨rfl, rfl⟩
  · rw [show decide (0 ≤ t) = false by simpa using h0, Bool.false_and]
    go_enter Try.func48, Try.ntmps48
    go_wp2
    go_ret
    exact ⟨rfl, rfl⟩
theorem cycle_any (h : Dk w D v s G bs L V al) (cy : Nat) : Calls Try.prog 43 #[cP D, U cy] w fun e w' => e = .returned (.bool (mcB L G cy)) ∧ w = w' := by
  obtain ⟨c0, c1, c2, c3, c4⟩ := h.cells
  unfold mcB
  by_cases h0 : cy = 0
  · subst h0
    go_enter Try.func43, Try.ntmps43
    go_wp2
    go_ret
    exact ⟨rfl, rfl⟩
  · have h0I : ¬ ((cy : Int) = 0) := by omega
    by_cases h1 : L ≤ cy
    · have h1I : (L : Int) ≤ cy := by omega
      by_cases h2 : cy ≤ G
      · have h2I : (cy : Int) ≤ G := by omega
        go_enter Try.func43, Try.ntmps43
        go_wp2
        go_ret
        exact ⟨ret_bool (by simp [h0, h1, h2]), rfl⟩
      · have h2I : ¬ (cy : Int) ≤ G := by omega
        go_enter Try.func43, Try.ntmps43
        go_wp2
        go_ret
        exact ⟨ret_bool (by simp [h0, h1, h2]), rfl⟩
    · have h1I : ¬ (L : Int) ≤ cy := by omega
      go_enter Try.func43, Try.ntmps43
      go_wp2
      go_ret
      exact ⟨ret_bool (by simp [h0, h1]), rfl⟩
set_option maxRecDepth 100000 in
theorem put_any (h : Dk w D v s G bs L V al) (t : Int) (may : Bool) (lf cy : Nat) (hy : may = true → 1 ≤ lf ∧ lf ≤ G + 1 ∧ cy ≤ G) : Calls Try.prog 42 #[cP D, I t, .bool may, Q lf, U cy] w fun e w' => e = .returned (I (setS al t may)) ∧ Dk w' D v s G bs L V (setA al t may (lf, cy)) ∧ Fz (Cb D v) w w' := by
  have hH := has_any h t
  unfold setA
  by_cases h0 : t < 0 ∨ (al.length : Int) ≤ t
  · have e0 : setS al t may = 3 := by unfold setS; rw [if_pos h0]
    rw [e0, if_neg (by decide)]
    rw [show (decide (0 ≤ t) && decide (t < al.length)) = false by simp; omega] at hH
    clear h0 e0 hy
    go_enter Try.func42, Try.ntmps42
    go_wp2_with (first | (go_at_call 48; refine hH.mono ?_; rintro e w1 ⟨rfl, rfl⟩))
    go_ret
    exact ⟨rfl, h, Fz.refl _ _⟩
  · obtain ⟨k, rfl⟩ := Int.eq_ofNat_of_zero_le (show 0 ≤ t by omega)
    rw [show (decide (0 ≤ (k : Int)) && decide ((k : Int) < al.length)) = true by simp; omega] at hH
    have hk : k < al.length := by omega
    have hkI : (k : Int) < al.length := by omega
    have hx : al[k]? = some al[k] := List.getElem?_eq_getElem hk
    generalize al[k] = x at hx
    rw [setS_at hx, Int.toNat_natCast]
    obtain ⟨c0, c1, c2, c3, c4⟩ := h.cells
    obtain ⟨g, c, rfl, q1, q2, q3, q4⟩ := h.at hx
    by_cases hz : x.1 = 0
    · rw [show (if x.1 ≠ 0 then (7 : Int) else if may = true then 0 else 8) = if may = true then 0 else 8 by rw [if_neg (by omega)]]
      rw [show decide (x.1 ≠ 0) = false by simpa using hz] at q1
      cases may with
      | false =>
        rw [if_neg (by decide : ¬ (false = true)), if_neg (by decide)]
        clear hz h0 hy
        go_enter Try.func42, Try.ntmps42
        go_wp2_with (first | (go_at_call 48; refine hH.mono ?_; rintro e w1 ⟨rfl, rfl⟩))
        go_ret
        exact ⟨rfl, h, Fz.refl _ _⟩
      | true =>
        rw [if_pos rfl, if_pos rfl]
        obtain ⟨y1, y2, y3⟩ := hy rfl
        have hP := h.put k (lf, cy) ⟨y2, y3⟩
        rw [show decide ((lf, cy).1 ≠ 0) = true by simp; omega] at hP
        have hZ : Fz (Cb D (.slice (some ⟨g, 0, none⟩) al.length c)) w (st3 w g k (true, lf, cy)) := (fz_st3 w g k (true, lf, cy)).mono (by rintro b rfl; exact .inr rfl)
        obtain ⟨s1, s2⟩ := st3_ask (x := (false, x.1, x.2)) (y := (true, lf, cy)) q2 q3
        have HP : Hid (Dk (st3 w g k (true, lf, cy)) D (.slice (some ⟨g, 0, none⟩) al.length c) s G bs L V (al.set k (lf, cy)) ∧ Fz (Cb D (.slice (some ⟨g, 0, none⟩) al.length c)) w (st3 w g k (true, lf, cy))) := ⟨hP, hZ⟩
        simp only at s1 s2
        clear hz h0 hy hP hZ hx y1 y2 y3
        go_enter Try.func42, Try.ntmps42
        go_wp2_with (first | (go_at_call 48; refine hH.mono ?_; rintro e w1 ⟨rfl, rfl⟩))
        go_ret
        exact ⟨rfl, HP.out.1, HP.out.2⟩
    · rw [show (if x.1 ≠ 0 then (7 : Int) else if may = true then 0 else 8) = 7 by rw [if_pos hz], if_neg (by decide)]
      rw [show decide (x.1 ≠ 0) = true by simpa using hz] at q1
      clear hz h0 hy
      go_enter Try.func42, Try.ntmps42
      go_wp2_with (first | (go_at_call 48; refine hH.mono ?_; rintro e w1 ⟨rfl, rfl⟩))
      go_ret
      exact ⟨rfl, h, Fz.refl _ _⟩
theorem put_no (h : Dk w D v s G bs L V al) (t : Int) (lf cy : Nat) : Calls Try.prog 42 #[cP D, I t, .bool false, Q lf, U cy] w fun e w' => e = .returned (I (setS al t false)) ∧ w = w' := by
  have hH := has_any h t
  by_cases h0 : t < 0 ∨ (al.length : Int) ≤ t
  · have e0 : setS al t false = 3 := by unfold setS; rw [if_pos h0]
    rw [e0]
    rw [show (decide (0 ≤ t) && decide (t < al.length)) = false by simp; omega] at hH
    clear h0 e0
    go_enter Try.func42, Try.ntmps42
    go_wp2_with (first | (go_at_call 48; refine hH.mono ?_; rintro e w1 ⟨rfl, rfl⟩))
    go_ret
    exact ⟨rfl, rfl⟩
  · obtain ⟨k, rfl⟩ := Int.eq_ofNat_of_zero_le (show 0 ≤ t by omega)
    rw [show (decide (0 ≤ (k : Int)) && decide ((k : Int) < al.length)) = true by simp; omega] at hH
    have hk : k < al.length := by omega
    have hkI : (k : Int) < al.length := by omega
    have hx : al[k]? = some al[k] := List.getElem?_eq_getElem hk
    generalize al[k] = x at hx
    rw [setS_at hx]
    obtain ⟨c0, c1, c2, c3, c4⟩ := h.cells
    obtain ⟨g, c, rfl, q1, q2, q3, q4⟩ := h.at hx
    by_cases hz : x.1 = 0
    · rw [show (if x.1 ≠ 0 then (7 : Int) else if false = true then 0 else 8) = 8 by rw [if_neg (by omega)]; rfl]
      rw [show decide (x.1 ≠ 0) = false by simpa using hz] at q1
      clear hz h0
      go_enter Try.func42, Try.ntmps42
      go_wp2_with (first | (go_at_call 48; refine hH.mono ?_; rintro e w1 ⟨rfl, rfl⟩))
      go_ret
      exact ⟨rfl, rfl⟩
    · rw [show (if x.1 ≠ 0 then (7 : Int) else if false = true then 0 else 8) = 7 by rw [if_pos hz]]
      rw [show decide (x.1 ≠ 0) = true by simpa using hz] at q1
      clear hz h0
      go_enter Try.func42, Try.ntmps42
      go_wp2_with (first | (go_at_call 48; refine hH.mono ?_; rintro e w1 ⟨rfl, rfl⟩))
      go_ret
      exact ⟨rfl, rfl⟩
end
end Go.Proofs.Ytpoekphebmonnab
