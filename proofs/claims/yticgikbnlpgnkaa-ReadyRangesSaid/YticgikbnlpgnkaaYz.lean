import Derived.Test.YticgikbnlpgnkaaYy
import Derived.Test.YticgikbnlpgnkaaYw
import Derived.Laws.OwnMore
namespace Go.Proofs.Yticgikbnlpgnkaa
open Go.RowKit
set_option linter.unusedVariables false
set_option linter.unusedSimpArgs false

/-! ### made -/
theorem run_append_rw {P : Program} (w : World) (base : Nat) (t ty e : TypeId) (i : TypeInfo) (z : Value) (bytes : Nat) (ht : P.underlying t = some (.slice e)) (hi : P.info? e = some i) (hz : i.zero = some z)
    (hsize : i.size = 2) (hby : i.bytes = bytes) (hzs : z.cells.size = 2) (v : Value) (n : Nat) (xs : List Value) (s : Sl) (l : List (Int × Int)) (hown : w.ownsRow base e 2 v n xs) (hs : RowsAt w 2 rwP s l)
    (h63 : n + l.length ≤ maxLen) (hbytes : (n + l.length) * bytes ≤ 140737488355328) (hbase : base ≤ w.heap.size) :
    ∃ v' w', (Builtin.append_ #[t, t] ty #[v, slV s]).run P w = .ok v' w' ∧ w'.ownsRow base e 2 v' (n + l.length) (xs ++ pairsC l) ∧ w.grownBy w' v.ownBlock := by
  obtain ⟨sa, sn, sc⟩ := s
  have hn : sn = l.length := hs.n
  subst hn
  cases sa with
  | none =>
    have hl : l = [] := by
      cases l with
      | nil => rfl
      | cons x t =>
        obtain ⟨g, off, e, _⟩ := hs.row 0 x rfl
        cases e
    subst hl
    exact ⟨v, w, run_append_none_sc w base t ty e i 2 ht hi v n xs hown sc, by simpa [pairsC] using hown, grown_refl _ _⟩
  | some ad =>
    obtain ⟨v', w', hr, h2, h3, _⟩ := run_append_own (P := P) w base t ty e i z 2 bytes ht hi hz hsize hby hzs (by decide) v n xs hown ad l.length sc (pairsC l) (pairsC_len l) (fun j u hj => by
      have hlt := (List.getElem?_eq_some_iff.1 hj).1
      rw [pairsC_len] at hlt
      obtain ⟨⟨p, q⟩, hx⟩ : ∃ x, l[j / 2]? = some x := ⟨_, List.getElem?_eq_getElem (by omega)⟩
      obtain ⟨k1, k2⟩ := pairsC_get hx
      obtain ⟨g, off, e, _, hr⟩ := hs.row (j / 2) _ hx
      cases e
      rw [addr_add]
      rcases Nat.mod_two_eq_zero_or_one j with h0 | h0
      · obtain ⟨u2, hu, hp⟩ := hr 0 (by decide)
        have hj2 : j = j / 2 * 2 := by omega
        rw [← hj2, hj] at k1
        cases k1
        have := hp.1 rfl
        subst this
        rw [Nat.add_zero, ← hj2] at hu
        exact hu
      · obtain ⟨u2, hu, hp⟩ := hr 1 (by decide)
        have hj2 : j = j / 2 * 2 + 1 := by omega
        rw [← hj2, hj] at k2
        cases k2
        have := hp.2 rfl
        subst this
        rw [Nat.add_assoc, ← hj2] at hu
        exact hu) (pairsC_one l) h63 hbytes hbase
    exact ⟨v', w', hr, h2, h3⟩
theorem wpList_append_rw {P : Program} (w : World) {ops : Array Oper} {rest : List Oper} {o : Oper} {a : Act} {Q : Exit → Act → World → Prop} (hgd : o.guard = none) (s x : Operand) (t : TypeId)
    (ho : o.op = .call { callee := .builtin .append, args := #[s, x], argTypes := #[t, t] })
    (base : Nat) (e : TypeId) (i : TypeInfo) (z : Value) (bytes : Nat) (ht : P.underlying t = some (.slice e)) (hi : P.info? e = some i) (hz : i.zero = some z)
    (hsize : i.size = 2) (hby : i.bytes = bytes) (hzs : z.cells.size = 2) (v : Value) (n : Nat) (xs : List Value) (sl : Sl) (l : List (Int × Int)) (hs : a.eval s = v) (hx : a.eval x = .slice sl.a sl.n sl.c) (hown : w.ownsRow base e 2 v n xs) (hr : RowsAt w 2 rwP sl l)
    (h63 : n + l.length ≤ maxLen) (hbytes : (n + l.length) * bytes ≤ 140737488355328) (hbase : base ≤ w.heap.size)
    (h : ∀ v' w', w'.ownsRow base e 2 v' (n + l.length) (xs ++ pairsC l) → w.grownBy w' v.ownBlock → wpList P ops Q rest (a.put o.dst v') w') :
    wpList P ops Q (o :: rest) a w := by
  refine wpList_plain hgd fun K hK => ?_
  obtain ⟨v', w', hru, h2, h3⟩ := run_append_rw (P := P) w base t o.type e i z bytes ht hi hz hsize hby hzs v n xs sl l hown hr h63 hbytes hbase
  change (Builtin.append_ #[t, t] o.type #[v, .slice sl.a sl.n sl.c]).run P w = .ok v' w' at hru
  unfold Oper.wp execOp
  simp only [ho, resolve, invoke, builtin, Sem.run_bind, Sem.run_pure, Result.andThen_ok, List.map_toArray, List.map_cons, List.map_nil, hs, hx, hru]
  exact hK _ _ (h v' w' h2 h3)
theorem own_rw {w : World} {b n : Nat} {v : Value} {l : List (Int × Int)} (h : w.ownsRow b 65 2 v n (pairsC l)) (hn : n = l.length) : ∃ s : Sl, v = .slice s.a s.n s.c ∧ s.n = l.length ∧ RowsAt w 2 rwP s l ∧ (s.a = none ∨ ∃ g cur, s.a = some ⟨g, 0, none⟩ ∧ b ≤ g ∧ w.heap[g]? = some (.cells cur 65) ∧ l.length * 2 ≤ cur.size) := by
  subst hn
  rcases h.2 with ⟨h1, h0⟩ | ⟨g, cap, cur, h1, hb, hh, k1, k2, k3, k4⟩
  · have : l = [] := List.eq_nil_of_length_eq_zero h0
    subst this
    exact ⟨⟨none, 0, 0⟩, h1, rfl, ⟨rfl, Nat.le_refl _, Nat.zero_le _, fun j x hj => by simp at hj⟩, .inl rfl⟩
  · refine ⟨⟨some ⟨g, 0, none⟩, l.length, cap⟩, h1, rfl, ⟨rfl, k1, k2, fun j x hj => ⟨g, 0, rfl, heap_lt hh, fun i hi => ?_⟩⟩, .inr ⟨g, cur, rfl, hb, hh, by omega⟩⟩
    obtain ⟨p, q⟩ := x
    obtain ⟨m1, m2⟩ := pairsC_get hj
    have e1 := h.cells (g := g) (by rw [h1]; rfl) _ _ m1
    have e2 := h.cells (g := g) (by rw [h1]; rfl) _ _ m2
    rw [addr_add, Nat.zero_add] at e1 e2
    have hi2 : i = 0 ∨ i = 1 := by omega
    rcases hi2 with rfl | rfl
    · exact ⟨I p, by simpa using e1, fun _ => rfl, fun e => by cases e⟩
    · exact ⟨I q, by simpa using e2, (fun e => by cases e), fun _ => rfl⟩
theorem rows_below {w w' : World} {s : Sl} {l : List (Int × Int)} (h : RowsAt w 2 rwP s l) (hb : Below w.heap.size w w') : RowsAt w' 2 rwP s l :=
  ⟨h.n, h.c, h.m, fun j x hj => by
    obtain ⟨g, off, e, hg, hr⟩ := h.row j x hj
    refine ⟨g, off, e, Nat.lt_of_lt_of_le hg hb.size, fun i hi => ?_⟩
    obtain ⟨u, hu, hp⟩ := hr i hi
    exact ⟨u, (World.cell?_of_block (hb.block g hg)).trans hu, hp⟩⟩
theorem rowP_new {l : List (Int × Int)} (h : fitB 64 l = true) : rowP (newR l) = l := by
  apply List.ext_getElem?
  intro i
  unfold rowP newR
  rw [List.map_map, List.getElem?_map]
  cases hx : l[i]? with
  | none => rfl
  | some x =>
    obtain ⟨p, c⟩ := x
    have := fit_at l 64 h i p c hx
    simp
    omega
theorem rep_map {α β : Type} (l : List α) (b : β) : List.replicate l.length b = l.map (fun _ => b) := by
  induction l with
  | nil => rfl
  | cons x t ih => simp only [List.length_cons, List.replicate_succ, List.map_cons, ih]
/-- What made answers. -/
def MadeP (w : World) (l : List (Int × Int)) (e : Ending) (w' : World) : Prop := Below w.heap.size w w' ∧ ((fitB 64 l = false ∧ e = .returned (.tuple #[.pointer none, .pointer none, .bool true])) ∨ (fitB 64 l = true ∧ ∃ Q D X Y, e = .returned (.tuple #[qP Q, dQ D, .bool true]) ∧ Cp w' Q D X Y (newR l) ∧ ∀ b, X b ∨ Y b → w.heap.size ≤ b))
set_option maxRecDepth 100000 in
set_option maxHeartbeats 8000000 in
theorem qmade_any (w : World) (s : Sl) (l : List (Int × Int)) (h : RowsAt w 2 rwP s l) (hl : l.length * 16 ≤ 140737488351232) : Calls Try.prog 8 #[.slice s.a s.n s.c] w fun e w' => MadeP w l e w' := by
  obtain ⟨i2, hi2, hx0, hx1, hx2⟩ := info_parts rinfo
  have HH : Hid (RowsAt w 2 rwP s l) := h
  have b0 := below_alloc w (.cells #[] 65)
  have hr0 := rows_below h b0
  have hlit : (w.alloc (.cells #[] 65)).ownsRow w.heap.size 65 2 (.slice (some ⟨w.heap.size, 0, none⟩) 0 0) 0 [] := World.ownsRow_lit (base := w.heap.size) (e := 65) (size := 2) w #[] 0 (Nat.le_refl _) (Nat.zero_le _) rfl
  clear h
  cases hf : fitB 64 l with
  | false =>
    have hfit : Hid (fitB 64 l = false) := hf
    clear hf
    go_enter Try.func8, Try.ntmps8
    go_wp2_with (first
      | (at_builtin; refine wpList_append_rw _ rfl _ _ 22 rfl w.heap.size 65 i2 (.agg #[.int .i64 0, .int .i64 0]) 16 Try.underlying22 hi2 hx0 hx1 hx2 rfl _ 0 [] s l rfl rfl hlit hr0 (by unfold maxLen; omega) (by omega) b0.size ?_
         intro v1 w1 h1 hg1
         have b1 : Below w.heap.size w w1 := b0.grown hg1 b0.size (fun k e => by cases e; exact Nat.le_refl _)
         rw [Nat.zero_add, List.nil_append] at h1
         obtain ⟨⟨sa, sn, sc⟩, e1, hsn, r1, hin⟩ := own_rw h1 rfl
         simp only at e1 hsn
         subst e1 hsn
         have t1 := (qNew_no w1 ⟨sa, l.length, sc⟩ l r1 hfit.out).mono (R' := fun e w' => e = .returned (.tuple #[.pointer none, I 133]) ∧ Hid (Below w1.heap.size w1 w')) (fun e w' k => k)
         have HB1 : Hid (Below w.heap.size w w1 ∧ (sa = none ∨ ∃ g cur, sa = some ⟨g, 0, none⟩ ∧ w.heap.size ≤ g ∧ w1.heap[g]? = some (.cells cur 65) ∧ l.length * 2 ≤ cur.size) ∧ RowsAt w1 2 rwP ⟨sa, l.length, sc⟩ l) := ⟨b1, hin, r1⟩
         clear h1 hg1 hlit hr0 b0 r1 hin b1)
      | (go_at_call 28; refine t1.mono ?_; clear t1; rintro e w2 ⟨rfl, HB2⟩))
    have HI0 : Hid (Below w.heap.size w w2 ∧ Fz (fun b => ∃ off, sa = some ⟨b, off, none⟩) w2 w2 ∧ (0 < l.length → ∃ g cur, sa = some ⟨g, 0, none⟩ ∧ w.heap.size ≤ g ∧ g < w1.heap.size ∧ w2.heap[g]? = some (.cells cur 65) ∧ l.length * 2 ≤ cur.size)) := by
      obtain ⟨b1, hin, r1⟩ := HB1.out
      refine ⟨b1.trans (HB2.out.mono b1.size), Fz.refl _ _, fun hpos => ?_⟩
      rcases hin with e | ⟨g, cur, e, k1, k2, k3⟩
      · obtain ⟨g, off, e2, _⟩ := r1.row 0 l[0] (List.getElem?_eq_getElem hpos)
        rw [e] at e2
        cases e2
      · exact ⟨g, cur, e, k1, heap_lt k2, (HB2.out.block g (heap_lt k2)).trans k2, k3⟩
    have HSA : Hid (∀ b off, sa = some ⟨b, off, none⟩ → b < w1.heap.size) := fun b off e => by
      obtain ⟨b1, hin, r1⟩ := HB1.out
      rcases hin with e2 | ⟨g, cur, e2, k1, k2, k3⟩
      · rw [e2] at e; cases e
      · rw [e2] at e; cases e; exact heap_lt k2
    clear HB1
    go_loopw [8] (fun j wr => ∃ k : Nat, k ≤ l.length ∧ j = .int .i64 k ∧ Hid (Below w.heap.size w wr ∧ Fz (fun b => ∃ off, sa = some ⟨b, off, none⟩) w2 wr ∧ (0 < l.length → ∃ g cur, sa = some ⟨g, 0, none⟩ ∧ w.heap.size ≤ g ∧ g < w1.heap.size ∧ wr.heap[g]? = some (.cells cur 65) ∧ l.length * 2 ≤ cur.size))) (fun j _ => l.length - (intOf j).toNat)
    case atStart => exact ⟨0, Nat.zero_le _, rfl, HI0.out⟩
    case round =>
      clear HI0
      obtain ⟨k, hk, rfl, HI⟩ := hrel
      have hk0 : ¬ (k : Int) < 0 := by omega
      by_cases hlt : k < l.length
      · obtain ⟨bb, ff, hh⟩ := HI.out
        obtain ⟨g, cur, rfl, hg, hg1, hcur, hsz⟩ := hh (by omega)
        have hkI : (k : Int) < l.length := by omega
        obtain ⟨u, hu⟩ : ∃ u, cur[k * 2 + 1]? = some u := ⟨_, Array.getElem?_eq_getElem (by omega)⟩
        have c1 : wr.cell? ⟨g, k * 2 + 1, none⟩ = some u := by rw [cell_of_row _ _ _ _ _ (0, 0) hcur]; exact hu
        have z1 : wr.frozen? ⟨g, k * 2 + 1, none⟩ = false := frozen_of_row _ _ _ _ _ hcur
        have H9 : Hid (Below w.heap.size w (wr.setCell ⟨g, k * 2 + 1, none⟩ (I 1)) ∧ Fz (fun b => ∃ off, some (⟨g, 0, none⟩ : Addr) = some ⟨b, off, none⟩) w2 (wr.setCell ⟨g, k * 2 + 1, none⟩ (I 1)) ∧ (0 < l.length → ∃ g' cur, some (⟨g, 0, none⟩ : Addr) = some ⟨g', 0, none⟩ ∧ w.heap.size ≤ g' ∧ g' < w1.heap.size ∧ (wr.setCell ⟨g, k * 2 + 1, none⟩ (I 1)).heap[g']? = some (.cells cur 65) ∧ l.length * 2 ≤ cur.size)) :=
          ⟨bb.setCell (p := ⟨g, k * 2 + 1, none⟩) hg _, ff.set (b := g) (.inl ⟨0, rfl⟩) _ _, fun _ => ⟨g, _, rfl, hg, hg1, heap_setCell_same wr g _ _ _ (I 1) hcur, by simpa using hsz⟩⟩
        clear HI bb ff hh hcur hu
        go_wp2
        go_roundw
        case rel => exact ⟨k + 1, by omega, by go_num, H9.out⟩
        case measure => simp [intOf]; omega
      · obtain rfl : k = l.length := by omega
        have hge : ¬ ((l.length : Int) < l.length) := by omega
        obtain ⟨bb, ff, hh⟩ := HI.out
        have t2 := eNew wr s l (rows_below HH.out bb)
        have t3 := t2.mono (R' := fun e w' => e = .returned (.tuple #[.pointer none, I 133]) ∧ Hid (Below w.heap.size w w')) (fun e w' k => by
          obtain ⟨k1, k2 | k2⟩ := k
          · exact ⟨k2.2, bb.trans (k1.mono bb.size)⟩
          · rw [hfit.out] at k2
            exact absurd k2.1 (by simp))
        clear t2 HI bb ff hh
        go_wp2_with (first | (go_at_call 29; refine t3.mono ?_; clear t3; rintro e w4 ⟨rfl, B4⟩))
        refine bodyPost_ret (v := .tuple #[.pointer none, .pointer none, .bool true]) (by simp [results, Try.results8, go_sem]) rfl ?_
        exact ⟨B4.out, .inl ⟨hfit.out, rfl⟩⟩
  | true =>
    have hfit : Hid (fitB 64 l = true) := hf
    clear hf
    go_enter Try.func8, Try.ntmps8
    go_wp2_with (first
      | (at_builtin; refine wpList_append_rw _ rfl _ _ 22 rfl w.heap.size 65 i2 (.agg #[.int .i64 0, .int .i64 0]) 16 Try.underlying22 hi2 hx0 hx1 hx2 rfl _ 0 [] s l rfl rfl hlit hr0 (by unfold maxLen; omega) (by omega) b0.size ?_
         intro v1 w1 h1 hg1
         have b1 : Below w.heap.size w w1 := b0.grown hg1 b0.size (fun k e => by cases e; exact Nat.le_refl _)
         rw [Nat.zero_add, List.nil_append] at h1
         obtain ⟨⟨sa, sn, sc⟩, e1, hsn, r1, hin⟩ := own_rw h1 rfl
         simp only at e1 hsn
         subst e1 hsn
         have t1 := (rNew w1 ⟨sa, l.length, sc⟩ l r1 hfit.out).mono (R' := fun e w' => ∃ Q X, e = .returned (.tuple #[qP Q, I 0]) ∧ Hid (Below w1.heap.size w1 w') ∧ Hid (QR w' Q X (newR l) ∧ ∀ b, X b → w1.heap.size ≤ b ∧ b < w'.heap.size) ∧ Hid (w.heap.size ≤ w1.heap.size) ∧ Hid (l.length = 0 → True)) (fun e w' ⟨Q, X, k1, k2, k3, k4⟩ => ⟨Q, X, k1, k4, ⟨k2, k3⟩, b1.size, fun _ => trivial⟩)
         have HB1 : Hid (Below w.heap.size w w1 ∧ (sa = none ∨ ∃ g cur, sa = some ⟨g, 0, none⟩ ∧ w.heap.size ≤ g ∧ w1.heap[g]? = some (.cells cur 65) ∧ l.length * 2 ≤ cur.size) ∧ RowsAt w1 2 rwP ⟨sa, l.length, sc⟩ l) := ⟨b1, hin, r1⟩
         clear h1 hg1 hlit hr0 b0 r1 hin b1)
      | (go_at_call 28; refine t1.mono ?_; clear t1; rintro e w2 ⟨Q, X, rfl, HB2, HQ, HW1, _⟩))
    have HI0 : Hid (Below w.heap.size w w2 ∧ Fz (fun b => ∃ off, sa = some ⟨b, off, none⟩) w2 w2 ∧ (0 < l.length → ∃ g cur, sa = some ⟨g, 0, none⟩ ∧ w.heap.size ≤ g ∧ g < w1.heap.size ∧ w2.heap[g]? = some (.cells cur 65) ∧ l.length * 2 ≤ cur.size)) := by
      obtain ⟨b1, hin, r1⟩ := HB1.out
      refine ⟨b1.trans (HB2.out.mono b1.size), Fz.refl _ _, fun hpos => ?_⟩
      rcases hin with e | ⟨g, cur, e, k1, k2, k3⟩
      · obtain ⟨g, off, e2, _⟩ := r1.row 0 l[0] (List.getElem?_eq_getElem hpos)
        rw [e] at e2
        cases e2
      · exact ⟨g, cur, e, k1, heap_lt k2, (HB2.out.block g (heap_lt k2)).trans k2, k3⟩
    have HSA : Hid (∀ b off, sa = some ⟨b, off, none⟩ → b < w1.heap.size) := fun b off e => by
      obtain ⟨b1, hin, r1⟩ := HB1.out
      rcases hin with e2 | ⟨g, cur, e2, k1, k2, k3⟩
      · rw [e2] at e; cases e
      · rw [e2] at e; cases e; exact heap_lt k2
    clear HB1
    go_loopw [8] (fun j wr => ∃ k : Nat, k ≤ l.length ∧ j = .int .i64 k ∧ Hid (Below w.heap.size w wr ∧ Fz (fun b => ∃ off, sa = some ⟨b, off, none⟩) w2 wr ∧ (0 < l.length → ∃ g cur, sa = some ⟨g, 0, none⟩ ∧ w.heap.size ≤ g ∧ g < w1.heap.size ∧ wr.heap[g]? = some (.cells cur 65) ∧ l.length * 2 ≤ cur.size))) (fun j _ => l.length - (intOf j).toNat)
    case atStart => exact ⟨0, Nat.zero_le _, rfl, HI0.out⟩
    case round =>
      clear HI0
      obtain ⟨k, hk, rfl, HI⟩ := hrel
      have hk0 : ¬ (k : Int) < 0 := by omega
      by_cases hlt : k < l.length
      · obtain ⟨bb, ff, hh⟩ := HI.out
        obtain ⟨g, cur, rfl, hg, hg1, hcur, hsz⟩ := hh (by omega)
        have hkI : (k : Int) < l.length := by omega
        obtain ⟨u, hu⟩ : ∃ u, cur[k * 2 + 1]? = some u := ⟨_, Array.getElem?_eq_getElem (by omega)⟩
        have c1 : wr.cell? ⟨g, k * 2 + 1, none⟩ = some u := by rw [cell_of_row _ _ _ _ _ (0, 0) hcur]; exact hu
        have z1 : wr.frozen? ⟨g, k * 2 + 1, none⟩ = false := frozen_of_row _ _ _ _ _ hcur
        have H9 : Hid (Below w.heap.size w (wr.setCell ⟨g, k * 2 + 1, none⟩ (I 1)) ∧ Fz (fun b => ∃ off, some (⟨g, 0, none⟩ : Addr) = some ⟨b, off, none⟩) w2 (wr.setCell ⟨g, k * 2 + 1, none⟩ (I 1)) ∧ (0 < l.length → ∃ g' cur, some (⟨g, 0, none⟩ : Addr) = some ⟨g', 0, none⟩ ∧ w.heap.size ≤ g' ∧ g' < w1.heap.size ∧ (wr.setCell ⟨g, k * 2 + 1, none⟩ (I 1)).heap[g']? = some (.cells cur 65) ∧ l.length * 2 ≤ cur.size)) :=
          ⟨bb.setCell (p := ⟨g, k * 2 + 1, none⟩) hg _, ff.set (b := g) (.inl ⟨0, rfl⟩) _ _, fun _ => ⟨g, _, rfl, hg, hg1, heap_setCell_same wr g _ _ _ (I 1) hcur, by simpa using hsz⟩⟩
        clear HI bb ff hh hcur hu
        go_wp2
        go_roundw
        case rel => exact ⟨k + 1, by omega, by go_num, H9.out⟩
        case measure => simp [intOf]; omega
      · obtain rfl : k = l.length := by omega
        have hge : ¬ ((l.length : Int) < l.length) := by omega
        obtain ⟨bb, ff, hh⟩ := HI.out
        have t2 := eNew wr s l (rows_below HH.out bb)
        have t3 := t2.mono (R' := fun e w' => ∃ C, e = .returned (.tuple #[dQ C, I 0]) ∧ Hid (Below w.heap.size w w' ∧ ∃ Y, Cp w' Q C X Y (newR l) ∧ ∀ b, X b ∨ Y b → w.heap.size ≤ b)) (fun e w' k => by
          obtain ⟨k1, k2 | k2⟩ := k
          · rw [hfit.out] at k2
            exact absurd k2.1 (by simp)
          · obtain ⟨_, C, e1, vr, vl, vh, ls, hdp⟩ := k2
            have q1 : QR wr Q X (newR l) := HQ.out.1.kept ff (fun b hb ⟨off, e⟩ => by
              have h1 := (HQ.out.2 b hb).1
              have h2 := HSA.out b off e
              omega)
            have xlt : ∀ b, X b → b < wr.heap.size := fun b hb => Nat.lt_of_lt_of_le (HQ.out.2 b hb).2 ff.size
            obtain ⟨Y, hd, hy⟩ := hdp.done (rs := newR l) (rowP_new hfit.out).symm ((rep_map l ([] : List Int)).trans (by unfold newR; rw [List.map_map]; rfl)) ((rep_map l (0 : Int)).trans (by unfold newR; rw [List.map_map]; rfl)) X xlt
            refine ⟨C, e1, bb.trans (k1.mono bb.size), Y, ⟨q1.below k1, hd, fun b hb => Nat.lt_of_lt_of_le (xlt b hb) k1.size, by have := fit_len l hfit.out; simpa [newR] using this⟩, fun b hb => ?_⟩
            rcases hb with hb | hb
            · exact Nat.le_trans HW1.out (HQ.out.2 b hb).1
            · exact Nat.le_trans bb.size (hy b hb))
        clear t2 HI bb ff hh
        go_wp2_with (first | (go_at_call 29; refine t3.mono ?_; clear t3; rintro e w4 ⟨C, rfl, B4⟩))
        refine bodyPost_ret (v := .tuple #[qP Q, dQ C, .bool true]) (by simp [results, Try.results8, go_sem]) rfl ?_
        obtain ⟨k1, Y, k2, k3⟩ := B4.out
        exact ⟨k1, .inr ⟨hfit.out, Q, C, X, Y, rfl, k2, k3⟩⟩
end Go.Proofs.Yticgikbnlpgnkaa
