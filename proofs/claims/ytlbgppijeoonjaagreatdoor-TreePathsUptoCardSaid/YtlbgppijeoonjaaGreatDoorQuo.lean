import Derived.Test.YtlbgppijeoonjaaGreatDoorQua
import Derived.Deep.RegionHeldLaw
namespace Go.Proofs.YtlbgppijeoonjaaGreatDoor
open Go.RowKit
set_option linter.unusedVariables false

theorem drop_cons (l : List UInt8) (k : Nat) (c : UInt8) (h : l[k]? = some c) : l.drop k = c :: l.drop (k + 1) := by
  obtain ⟨h1, h2⟩ := List.getElem?_eq_some_iff.1 h
  rw [List.drop_eq_getElem_cons h1, h2]
/-- The next rune: the byte itself, where it is ASCII. -/
theorem next_rune (w : World) (k pos : Nat) (x : ByteArray) (hk : w.heap[k]? = some (.stringIter x pos)) (h : pos < x.size) (c : UInt8) (hc : x[pos] = c) :
    ∃ (r : Int) (pos' : Nat), (∀ ty, (Instr.next (.pointer (some ⟨k, 0, none⟩)) true ty).run Tryz.prog w = .ok (.tuple #[.bool true, .int .i64 pos, .int .i32 r]) (w.iterAt k x pos')) ∧
      0 ≤ r ∧ r ≤ 2147483647 ∧ ((r = c.toNat ∧ pos' = pos + 1 ∧ c.toNat < 128) ∨ (128 ≤ r ∧ 128 ≤ c.toNat)) := by
  by_cases ha : c.toNat < 128
  · refine ⟨c.toNat, pos + 1, fun ty => ?_, by omega, by omega, Or.inl ⟨rfl, rfl, ha⟩⟩
    have := Lib.run_next_ascii_at (P := Tryz.prog) w k x pos ty hk h (by rw [hc]; exact ha)
    rw [hc] at this
    exact this
  · have hd := decode_high x pos h (by rw [hc]; omega)
    have hl := decode_le x pos
    exact ⟨_, _, fun ty => Lib.run_next_any_at w k x pos ty hk h, by omega, by omega, Or.inr ⟨by omega, by omega⟩⟩
/-- What holds between two rounds. -/
structure QI (w1 wr : World) (k : Nat) (x : ByteArray) (pos : Nat) (v : Value) (said : List UInt8) : Prop where
  it : wr.heap[k]? = some (.stringIter x pos)
  own : wr.ownsRow (k + 1) 5 1 v said.length (said.map B)
  bel : Below k w1 wr
theorem QI.step {w1 wr : World} {k pos : Nat} {x : ByteArray} {v : Value} {said : List UInt8} (h : QI w1 wr k x pos v said) (pos' : Nat) : QI w1 (wr.iterAt k x pos') k x pos' v said :=
  ⟨Lib.iterAt_heap wr k x pos pos' h.it, own_iter h.own (by omega) x pos', Lib.below_iterAt h.bel (Nat.le_refl _) x pos'⟩
theorem cell_set_other (w : World) (b k g i : Nat) (v : Value) (h : g ≠ b) : (w.setCell ⟨b, k, none⟩ v).cell? ⟨g, i, none⟩ = w.cell? ⟨g, i, none⟩ :=
  World.cell?_of_block (heap_setCell_other w ⟨b, k, none⟩ g _ (fun e => h e))
set_option maxHeartbeats 4000000 in
set_option maxRecDepth 100000 in
theorem quoted_any (B0 r off : Nat) (p : Nat → Addr) (s : ByteArray) (w : World) (hE : Env B0 p w) (h : Sc w r s off) (hr : B0 ≤ r) (ho : off < s.size) (hq : s[off] = 34) (hs : s.size < 4294967281) :
    Calls Tryz.prog 100 #[.pointer (some ⟨r, 0, none⟩)] w fun e w' => TokPost p w r s off (quoT (quoL (s.data.toList.drop (off + 1)) [] 0)) e w' := by
  obtain ⟨x, hx⟩ : ∃ x, x = quoT (quoL (s.data.toList.drop (off + 1)) [] 0) := ⟨_, rfl⟩
  rw [← hx]
  have HX : Hid (x = quoT (quoL (s.data.toList.drop (off + 1)) [] 0)) := hx
  clear hx
  have hrl := Sc4.lt h
  have hBs := hE.size
  obtain ⟨i0, hi, hz0, hz1, hz2⟩ := info_parts Tryz.info5
  have hrs := rst_size s off
  have hsl : ∀ w, (Instr.slice 9 (.string (rst s off)) (some (.int .i64 1)) none none).run Tryz.prog w = .ok (.string (rst s (off + 1))) w := fun w => by
    have h1 : (0 : Int) ≤ 1 ∧ (1 : Int) ≤ (rst s off).size := by omega
    rw [run_slice_string_from_if w _ _ _ _ Tryz.underlying9, if_pos h1]
    have e : (rst s off).extract (1 : Int).toNat (rst s off).size = rst s (off + 1) := by
      rw [← same_bytes _ ((rst s off).extract (1 : Int).toNat (rst s off).size) rfl, ← same_bytes _ (rst s (off + 1)) rfl]
      rw [Lib.extract_data, rst_list, rst_list, List.take_of_length_le (by rw [List.length_drop, List.length_drop, len_all, hrs]; omega), List.drop_drop]
      rfl
    rw [e]
  have hxs := rst_size s (off + 1)
  have hxl := rst_list s (off + 1)
  have hE1 : ∀ {w1 : World}, Below (w.alloc (.cells zero7 57)).heap.size (w.alloc (.cells zero7 57)) w1 → Env B0 p w1 := fun hb => hE.below ((below_two _ hb).mono hBs)
  -- the bytes of the text, from the quote on
  have HT0 : Hid (s.data.toList[off]? = some 34) := by show _ = _; rw [snoc_all s off ho, hq]
  have HT : Hid (∀ i : Nat, s.data.toList[off + 1 + i]? = (rst s (off + 1)).data.toList[i]?) := fun i => by rw [hxl, List.getElem?_drop]
  rw [← hxl] at HX
  clear hxl hq
  go_enter Tryz.func100, Tryz.ntmps100
  go_wp2_with fail
  refine (rest_any r off _ _ s _ (Sc4.alloc h _) (by omega) hs).mono ?_
  rintro e w1 ⟨rfl, hb1⟩
  have hS1 : Sc w1 r s off := Sc4.below (Sc4.alloc h _) hb1
  have hv1 := var_in w hb1
  have hb1' := below_two _ hb1
  have hE1' := hE1 hb1
  have hs1 := hb1.size
  simp only [World.size_alloc] at hs1
  generalize rst s (off + 1) = xs at *
  clear hb1 hE1
  have hQ0 : QI w1 (w1.iter xs 0) w1.heap.size xs 0 (.slice none 0 0) [] := ⟨World.iter_heap _ _ _, World.ownsRow_nil _ _ _ _, (Below.refl _ _).alloc (Nat.le_refl _) _⟩
  go_wp2
  go_loopw [4, 5] (fun v b wr => ∃ (pos : Nat) (said : List UInt8) (bh : Bool), pos ≤ xs.size ∧ b = .bool bh ∧ said.length ≤ pos ∧ QI w1 wr w1.heap.size xs pos v said ∧ Hid (quoL xs.data.toList [] 0 = quoS bh (xs.data.toList.drop pos) said pos ∧ (∀ j, j < pos → xs.data.toList[j]? ≠ some 10) ∧ (bh = true → 1 ≤ pos)))
    (fun _ _ wr => xs.size - wr.iterPos w1.heap.size)
  case atStart => exact ⟨0, [], false, by omega, rfl, by simp, hQ0, rfl, fun j hj => absurd hj (Nat.not_lt_zero _), fun h => by cases h⟩
  case round =>
    obtain ⟨pos, said, bh, hp, rfl, hsl2, hQ, hh⟩ := hrel
    obtain ⟨hq1, hno, hbp⟩ := hh.out
    clear hh hQ0 hsl
    have hip : wr.iterPos w1.heap.size = pos := by unfold World.iterPos; rw [hQ.it]
    have HNO : Hid (∀ n, n ≤ pos + 1 → ∀ i, i < n → s.data.toList[off + i]? ≠ some 10) := fun n hn i hi => by
      cases i with
      | zero => rw [Nat.add_zero, HT0.out]; decide
      | succ i => rw [show off + (i + 1) = off + 1 + i by omega, HT.out i]; exact hno i (by omega)
    by_cases hlt : pos < xs.size
    · obtain ⟨c, hc⟩ : ∃ c, xs[pos] = c := ⟨_, rfl⟩
      have hcl : xs.data.toList[pos]? = some c := by rw [snoc_all xs pos hlt, hc]
      rw [drop_cons _ _ _ hcl] at hq1
      obtain ⟨r0, pos', hnx, hr0, hr1, hrc⟩ := next_rune wr w1.heap.size pos xs hQ.it hlt c hc
      have hQ5 := hQ.step pos'
      have hip5 : (wr.iterAt w1.heap.size xs pos').iterPos w1.heap.size = pos' := by unfold World.iterPos; rw [hQ5.it]
      generalize (wr.iterAt w1.heap.size xs pos') = w5 at *
      clear hc hQ
      have ce : ∀ w, Calls Tryz.prog 114 #[.int .i32 r0] w fun e w' => e = .returned (.bool (decide (r0 = 34 ∨ r0 = 92))) ∧ w = w' := fun w => (escaped_any r0 w).mono fun e w' ⟨a, b⟩ => ⟨a, b.symm⟩
      have cs : ∀ w, Calls Tryz.prog 115 #[.int .i32 r0] w fun e w' => e = .returned (.bool (decide (32 ≤ r0 ∧ r0 ≤ 126))) ∧ w = w' := fun w => (sayable_any r0 w).mono fun e w' ⟨a, b⟩ => ⟨a, b.symm⟩
      have HC10 : Hid ((32 ≤ r0 ∧ r0 ≤ 126) → ∀ j, j < pos + 1 → xs.data.toList[j]? ≠ some 10) := fun hr j hj => by
        by_cases e : j < pos
        · exact hno j e
        · have : j = pos := by omega
          subst this
          rw [hcl]
          intro e2
          cases e2
          rcases hrc with ⟨h1, _, _⟩ | ⟨h1, _⟩
          · have : (10 : UInt8).toNat = 10 := rfl
            omega
          · omega
      cases bh with
      | true =>
        have hbp1 := hbp rfl
        have hq2 : quoL xs.data.toList [] 0 = if escB c = true then quoL (xs.data.toList.drop (pos + 1)) (said ++ [c]) (pos + 1) else .bad pos := hq1
        by_cases he : r0 = 34 ∨ r0 = 92
        · rw [decide_eq_true he] at ce
          have hasc : r0 = c.toNat ∧ pos' = pos + 1 := by rcases hrc with ⟨h1, h2, _⟩ | ⟨h1, _⟩ <;> omega
          have hesc : escB c = true := by
            refine decide_eq_true ?_
            rcases he with he | he
            · exact Or.inl (UInt8.toNat_inj.1 (by show c.toNat = 34; omega))
            · exact Or.inr (UInt8.toNat_inj.1 (by show c.toNat = 92; omega))
          rw [if_pos hesc] at hq2
          have hsay : 32 ≤ r0 ∧ r0 ≤ 126 := by omega
          rw [decide_eq_true hsay] at cs
          have HN : Hid (quoL xs.data.toList [] 0 = quoS false (xs.data.toList.drop (pos + 1)) (said ++ [c]) (pos + 1) ∧ (∀ j, j < pos + 1 → xs.data.toList[j]? ≠ some 10) ∧ (false = true → 1 ≤ pos + 1)) := ⟨hq2, HC10.out hsay, fun _ => by omega⟩
          obtain ⟨e1, rfl⟩ := hasc
          subst e1
          have hc8 := c.toNat_lt
          have hw8 : IntKind.u8.wrap (c.toNat : Int) = c.toNat := by rw [IntKind.wrap_u8]; omega
          have hsz := hQ5.bel.size
          have h92 : ((c.toNat : Int) == 92) = ((c.toNat : Int) == 92) := rfl
          have hcc : c = 34 ∨ c = 92 := of_decide_eq_true hesc
          clear hq1 hq2 hno hcl hrc he hesc hsay hbp hr0 hr1 HC10 h92 HNO HX
          rcases hcc with rfl | rfl
          · have ce' : ∀ w, Calls Tryz.prog 114 #[.int .i32 34] w fun e w' => e = .returned (.bool true) ∧ w = w' := ce
            have cs' : ∀ w, Calls Tryz.prog 115 #[.int .i32 34] w fun e w' => e = .returned (.bool true) ∧ w = w' := cs
            have hnx' : ∀ ty, (Instr.next (.pointer (some ⟨w1.heap.size, 0, none⟩)) true ty).run Tryz.prog wr = .ok (.tuple #[.bool true, .int .i64 pos, .int .i32 34]) w5 := hnx
            clear ce cs hnx hw8 hc8
            obtain ⟨av, cv, rfl⟩ := owns_shape hQ5.own
            go_wp2_with (first
              | (go_at_call 114; refine (ce' _).mono ?_; rintro e w' ⟨rfl, rfl⟩)
              | (go_at_call 115; refine (cs' _).mono ?_; rintro e w' ⟨rfl, rfl⟩)
              | (at_builtin; refine wpList_append_own _ rfl (.tmp 67) (.tmp 70) 110 rfl (w1.heap.size + 1) 5 i0 (.int .u8 0) 1 1 Tryz.underlying110 hi hz0 hz1 hz2 rfl (by decide) _ _ _ rfl (hQ5.own.alloc _) ⟨w5.heap.size, 0, none⟩ 1 1 [.int .u8 34] rfl rfl (cell_one_new' _ _ _) (by intro u hu; simp at hu; subst hu; rfl) (by unfold maxLen; omega) (by omega) (by simp; omega) ?_))
            intro v6 w6 ho6 hg6 _
            have hlt5 := heap_lt hQ5.it
            have hQ6 : QI w1 w6 w1.heap.size xs (pos + 1) v6 (said ++ [34]) := by
              refine ⟨((grown_alloc hg6).block _ hlt5 (fun e => ?_)).trans hQ5.it, ?_, ?_⟩
              · have := (hQ5.own.lt _ e.symm).1
                omega
              · rw [List.length_append, List.map_append]; exact ho6
              · exact hQ5.bel.grown (grown_alloc hg6) hsz (fun k e => by have := (hQ5.own.lt k e).1; omega)
            have hip6 : w6.iterPos w1.heap.size = pos + 1 := by unfold World.iterPos; rw [hQ6.it]
            clear ho6 hg6 hQ5 hip5
            go_wp2
            go_roundw
            case rel => exact ⟨pos + 1, said ++ [34], false, by omega, rfl, by simp; omega, hQ6, HN.out⟩
            case measure => rw [hip, hip6]; omega
          · have ce' : ∀ w, Calls Tryz.prog 114 #[.int .i32 92] w fun e w' => e = .returned (.bool true) ∧ w = w' := ce
            have cs' : ∀ w, Calls Tryz.prog 115 #[.int .i32 92] w fun e w' => e = .returned (.bool true) ∧ w = w' := cs
            have hnx' : ∀ ty, (Instr.next (.pointer (some ⟨w1.heap.size, 0, none⟩)) true ty).run Tryz.prog wr = .ok (.tuple #[.bool true, .int .i64 pos, .int .i32 92]) w5 := hnx
            clear ce cs hnx hw8 hc8
            obtain ⟨av, cv, rfl⟩ := owns_shape hQ5.own
            go_wp2_with (first
              | (go_at_call 114; refine (ce' _).mono ?_; rintro e w' ⟨rfl, rfl⟩)
              | (go_at_call 115; refine (cs' _).mono ?_; rintro e w' ⟨rfl, rfl⟩)
              | (at_builtin; refine wpList_append_own _ rfl (.tmp 67) (.tmp 70) 110 rfl (w1.heap.size + 1) 5 i0 (.int .u8 0) 1 1 Tryz.underlying110 hi hz0 hz1 hz2 rfl (by decide) _ _ _ rfl (hQ5.own.alloc _) ⟨w5.heap.size, 0, none⟩ 1 1 [.int .u8 92] rfl rfl (cell_one_new' _ _ _) (by intro u hu; simp at hu; subst hu; rfl) (by unfold maxLen; omega) (by omega) (by simp; omega) ?_))
            intro v6 w6 ho6 hg6 _
            have hlt5 := heap_lt hQ5.it
            have hQ6 : QI w1 w6 w1.heap.size xs (pos + 1) v6 (said ++ [92]) := by
              refine ⟨((grown_alloc hg6).block _ hlt5 (fun e => ?_)).trans hQ5.it, ?_, ?_⟩
              · have := (hQ5.own.lt _ e.symm).1
                omega
              · rw [List.length_append, List.map_append]; exact ho6
              · exact hQ5.bel.grown (grown_alloc hg6) hsz (fun k e => by have := (hQ5.own.lt k e).1; omega)
            have hip6 : w6.iterPos w1.heap.size = pos + 1 := by unfold World.iterPos; rw [hQ6.it]
            clear ho6 hg6 hQ5 hip5
            go_wp2
            go_roundw
            case rel => exact ⟨pos + 1, said ++ [92], false, by omega, rfl, by simp; omega, hQ6, HN.out⟩
            case measure => rw [hip, hip6]; omega
        · rw [decide_eq_false he] at ce
          have hesc : ¬ escB c = true := fun h => by
            have h2 := of_decide_eq_true h
            rcases hrc with ⟨h1, _, _⟩ | ⟨h1, h3⟩
            · rcases h2 with rfl | rfl
              · exact he (Or.inl h1)
              · exact he (Or.inr h1)
            · rcases h2 with rfl | rfl
              · exact absurd h3 (by decide)
              · exact absurd h3 (by decide)
          rw [if_neg hesc] at hq2
          have HB : Hid (x = .bad 22 pos) := by show x = _; rw [HX.out, hq2]; rfl
          clear hq1 hq2 hno hcl hrc he hesc hbp hr0 hr1 HC10 hip cs HX
          have hs5 := hQ5.bel.size
          have lg := (hE1'.below (hQ5.bel.mono (by omega))).string
          go_wp2_with (first
            | (go_at_call 114; refine (ce _).mono ?_; rintro e w' ⟨rfl, rfl⟩)
            | fail)
          have hb6 : Below w.heap.size w w5 := hb1'.trans (hQ5.bel.mono (by omega))
          have hS5 : Sc w5 r s off := ⟨(hQ5.bel.block r (by omega)).trans (Sc4.hheap hS1)⟩
          have hv5 : w5.heap[w.heap.size]? = _ := (hQ5.bel.block _ (by omega)).trans hv1
          refine (wrong_any r off s pos _ hS5 (by omega) (HNO.out _ (by omega)) _ _).mono ?_
          rintro e w6 ⟨q, rfl, hq6, hErr, hb7⟩
          have hv6 : w6.heap[w.heap.size]? = _ := (hb7.block _ (heap_lt hv5)).trans hv5
          obtain ⟨y0, y1, y2, y3, y4, y5, y6, f⟩ := varF hv6
          have hg6 : w.grownBy w6 (some r) := grown_of_below (hb6.trans (hb7.mono hb6.size))
          clear hS5 hv5 hb6 hQ5 lg
          go_wp2
          rw [HB.out]
          exact fin_bad Tryz.results100 p w w6 r s off 22 pos q _ hv6 hg6 (by omega) hErr rfl rfl
      | false =>
        have hq2 : quoL xs.data.toList [] 0 = quoL (c :: xs.data.toList.drop (pos + 1)) said pos := hq1
        by_cases hsay : 32 ≤ r0 ∧ r0 ≤ 126
        · rw [decide_eq_true hsay] at cs
          have hasc : r0 = c.toNat ∧ pos' = pos + 1 := by rcases hrc with ⟨h1, h2, _⟩ | ⟨h1, _⟩ <;> omega
          obtain ⟨e1, rfl⟩ := hasc
          subst e1
          have hC10 := HC10.out hsay
          have hsayB : sayB c = true := decide_eq_true (by omega)
          have hc8 := c.toNat_lt
          have hsz := hQ5.bel.size
          by_cases h92 : c = 92
          · subst h92
            have HN : Hid (quoL xs.data.toList [] 0 = quoS true (xs.data.toList.drop (pos + 1)) said (pos + 1) ∧ (∀ j, j < pos + 1 → xs.data.toList[j]? ≠ some 10) ∧ (true = true → 1 ≤ pos + 1)) := ⟨hq2.trans (quo_bs _ _ _), hC10, fun _ => by omega⟩
            have ce' : ∀ w, Calls Tryz.prog 114 #[.int .i32 92] w fun e w' => e = .returned (.bool true) ∧ w = w' := ce
            have cs' : ∀ w, Calls Tryz.prog 115 #[.int .i32 92] w fun e w' => e = .returned (.bool true) ∧ w = w' := cs
            have hnx' : ∀ ty, (Instr.next (.pointer (some ⟨w1.heap.size, 0, none⟩)) true ty).run Tryz.prog wr = .ok (.tuple #[.bool true, .int .i64 pos, .int .i32 92]) w5 := hnx
            clear hq1 hq2 hno hcl hrc hsay hbp hr0 hr1 HC10 HNO HX hC10 ce cs hnx hsayB hc8
            go_wp2_with (first
              | (go_at_call 115; refine (cs' _).mono ?_; rintro e w' ⟨rfl, rfl⟩))
            go_roundw
            case rel => exact ⟨pos + 1, said, true, by omega, rfl, by omega, hQ5, HN.out.1, HN.out.2.1, fun _ => by omega⟩
            case measure => rw [hip, hip5]; omega
          · have i92 : ((c.toNat : Int) == 92) = false := by rw [beq_eq_false_iff_ne]; intro e2; exact h92 (UInt8.toNat_inj.1 (by show c.toNat = 92; omega))
            by_cases h34 : c = 34
            · subst h34
              have hq3 := hq2.trans (quo_done _ _ _)
              have cs' : ∀ w, Calls Tryz.prog 115 #[.int .i32 34] w fun e w' => e = .returned (.bool true) ∧ w = w' := cs
              have hnx' : ∀ ty, (Instr.next (.pointer (some ⟨w1.heap.size, 0, none⟩)) true ty).run Tryz.prog wr = .ok (.tuple #[.bool true, .int .i64 pos, .int .i32 34]) w5 := hnx
              obtain ⟨av, cv, rfl⟩ := owns_shape hQ5.own
              have hb6 : Below w.heap.size w w5 := hb1'.trans (hQ5.bel.mono (by omega))
              have hS5 : Sc w5 r s off := ⟨(hQ5.bel.block r (by omega)).trans (Sc4.hheap hS1)⟩
              have hv5 : w5.heap[w.heap.size]? = some (.cells zero7 57 (0, 0)) := (hQ5.bel.block _ (by omega)).trans hv1
              by_cases h255 : 255 < said.length
              · have i255 : (255 : Int) < said.length := by omega
                have HB : Hid (x = .bad 24 0) := by show x = _; rw [HX.out, hq3]; show (if _ then _ else _) = _; rw [if_pos h255]
                have lg := (hE1'.below (hQ5.bel.mono (by omega))).long
                clear hq1 hq2 hq3 hno hcl hrc hsay hbp hr0 hr1 HC10 HNO HX hC10 ce cs hnx hsayB hc8 i92 h92
                go_wp2_with (first
                  | (go_at_call 115; refine (cs' _).mono ?_; rintro e w' ⟨rfl, rfl⟩))
                refine (wrong_any r off s 0 _ hS5 (by omega) (fun i hi => absurd hi (Nat.not_lt_zero _)) _ _).mono ?_
                rintro e w6 ⟨q, rfl, hq6, hErr, hb7⟩
                have hv6 : w6.heap[w.heap.size]? = _ := (hb7.block _ (heap_lt hv5)).trans hv5
                obtain ⟨y0, y1, y2, y3, y4, y5, y6, f⟩ := varF hv6
                have hg6 : w.grownBy w6 (some r) := grown_of_below (hb6.trans (hb7.mono hb6.size))
                clear hS5 hv5 hb6 hQ5 lg
                go_wp2
                rw [HB.out]
                exact fin_bad Tryz.results100 p w w6 r s off 24 0 q _ hv6 hg6 (by omega) hErr rfl rfl
              · have i255 : ¬ (255 : Int) < said.length := by omega
                have HB : Hid (x = .ok ⟨3, said, 0, false⟩ (pos + 2)) := by show x = _; rw [HX.out, hq3]; show (if _ then _ else _) = _; rw [if_neg h255]
                have hcv := conv_own hQ5.own
                have ct := take_any r off s (pos + 2) ⟨3, said, 0, false⟩ _ hS5 (by omega) hs
                unfold tkV tkC at ct
                simp only at ct
                have ep : ((pos + 2 : Nat) : Int) = 1 + (pos : Int) + 1 := by omega
                rw [ep] at ct
                clear hq1 hq2 hq3 hno hcl hrc hsay hbp hr0 hr1 HC10 HNO HX hC10 ce cs hnx hsayB hc8 i92 h92
                go_wp2_with (first
                  | (go_at_call 115; refine (cs' _).mono ?_; rintro e w' ⟨rfl, rfl⟩))
                refine ct.mono ?_
                rintro e w6 ⟨rfl, hS6, hg6⟩
                have hv6 := var_grown hv5 hg6 (by omega)
                obtain ⟨y0, y1, y2, y3, y4, y5, y6, f⟩ := varF hv6
                have hg7 : w.grownBy w6 (some r) := grown_trans (grown_of_below hb6) hg6
                clear ct hS5 hv5 hb6 hQ5 hcv
                go_wp2
                rw [HB.out]
                exact fin_ok Tryz.results100 p w w6 r s off (pos + 2) ⟨3, said, 0, false⟩ _ hv6 hg7 hrl hS6 rfl rfl
            · have i34 : ((c.toNat : Int) == 34) = false := by rw [beq_eq_false_iff_ne]; intro e2; exact h34 (UInt8.toNat_inj.1 (by show c.toNat = 34; omega))
              have HN : Hid (quoL xs.data.toList [] 0 = quoS false (xs.data.toList.drop (pos + 1)) (said ++ [c]) (pos + 1) ∧ (∀ j, j < pos + 1 → xs.data.toList[j]? ≠ some 10) ∧ (false = true → 1 ≤ pos + 1)) := ⟨hq2.trans (quo_say c _ _ _ hsayB h34 h92), hC10, fun _ => by omega⟩
              have hw8 : IntKind.u8.wrap (c.toNat : Int) = c.toNat := by rw [IntKind.wrap_u8]; omega
              clear hq1 hq2 hno hcl hrc hsay hbp hr0 hr1 HC10 HNO HX hC10 hsayB
              obtain ⟨av, cv, rfl⟩ := owns_shape hQ5.own
              go_wp2_with (first
                | (go_at_call 114; refine (ce _).mono ?_; rintro e w' ⟨rfl, rfl⟩)
                | (go_at_call 115; refine (cs _).mono ?_; rintro e w' ⟨rfl, rfl⟩)
                | (at_builtin; refine wpList_append_own _ rfl (.tmp 67) (.tmp 70) 110 rfl (w1.heap.size + 1) 5 i0 (.int .u8 0) 1 1 Tryz.underlying110 hi hz0 hz1 hz2 rfl (by decide) _ _ _ rfl (hQ5.own.alloc _) ⟨w5.heap.size, 0, none⟩ 1 1 [.int .u8 (c.toNat : Int)] rfl rfl (cell_one_new' _ _ _) (by intro u hu; simp at hu; subst hu; rfl) (by unfold maxLen; omega) (by omega) (by simp; omega) ?_))
              intro v6 w6 ho6 hg6 _
              have hlt5 := heap_lt hQ5.it
              have hQ6 : QI w1 w6 w1.heap.size xs (pos + 1) v6 (said ++ [c]) := by
                refine ⟨((grown_alloc hg6).block _ hlt5 (fun e => ?_)).trans hQ5.it, ?_, ?_⟩
                · have := (hQ5.own.lt _ e.symm).1
                  omega
                · rw [List.length_append, List.map_append]; exact ho6
                · exact hQ5.bel.grown (grown_alloc hg6) hsz (fun k e => by have := (hQ5.own.lt k e).1; omega)
              have hip6 : w6.iterPos w1.heap.size = pos + 1 := by unfold World.iterPos; rw [hQ6.it]
              clear ho6 hg6 hQ5 hip5
              go_wp2
              go_roundw
              case rel => exact ⟨pos + 1, said ++ [c], false, by omega, rfl, by simp; omega, hQ6, HN.out⟩
              case measure => rw [hip, hip6]; omega
        · rw [decide_eq_false hsay] at cs
          have hsayB : sayB c = false := decide_eq_false (fun h => by rcases hrc with ⟨h1, _, _⟩ | ⟨_, h3⟩ <;> omega)
          have HB : Hid (x = .bad 22 (1 + pos)) := by show x = _; rw [HX.out, hq2, quo_bad c _ _ _ hsayB]; rfl
          clear hq1 hq2 hno hcl hrc hsay hbp hr0 hr1 HC10 hip HX hsayB
          have hs5 := hQ5.bel.size
          have lg := (hE1'.below (hQ5.bel.mono (by omega))).string
          go_wp2_with (first
            | (go_at_call 114; refine (ce _).mono ?_; rintro e w' ⟨rfl, rfl⟩)
            | (go_at_call 115; refine (cs _).mono ?_; rintro e w' ⟨rfl, rfl⟩))
          have hb6 : Below w.heap.size w w5 := hb1'.trans (hQ5.bel.mono (by omega))
          have hS5 : Sc w5 r s off := ⟨(hQ5.bel.block r (by omega)).trans (Sc4.hheap hS1)⟩
          have hv5 : w5.heap[w.heap.size]? = _ := (hQ5.bel.block _ (by omega)).trans hv1
          refine (wrong_any r off s (1 + pos) _ hS5 (by omega) (HNO.out _ (by omega)) _ _).mono ?_
          rintro e w6 ⟨q, rfl, hq6, hErr, hb7⟩
          have hv6 : w6.heap[w.heap.size]? = _ := (hb7.block _ (heap_lt hv5)).trans hv5
          obtain ⟨y0, y1, y2, y3, y4, y5, y6, f⟩ := varF hv6
          have hg6 : w.grownBy w6 (some r) := grown_of_below (hb6.trans (hb7.mono hb6.size))
          clear hS5 hv5 hb6 hQ5 lg
          go_wp2
          rw [HB.out]
          exact fin_bad Tryz.results100 p w w6 r s off 22 (1 + pos) q _ hv6 hg6 (by omega) hErr rfl rfl
    · have hpe : pos = xs.size := by omega
      have hdn : xs.data.toList.drop pos = [] := List.drop_eq_nil_of_le (by rw [len_all]; omega)
      rw [hdn] at hq1
      have hnx : ∀ ty, (Instr.next (.pointer (some ⟨w1.heap.size, 0, none⟩)) true ty).run Tryz.prog wr = .ok (.tuple #[.bool false]) wr := fun ty => Lib.run_next_end_at wr w1.heap.size xs pos ty hQ.it hlt
      have hb6 : Below w.heap.size w wr := hb1'.trans (hQ.bel.mono (by omega))
      have hS5 : Sc wr r s off := ⟨(hQ.bel.block r (by omega)).trans (Sc4.hheap hS1)⟩
      have hv5 : wr.heap[w.heap.size]? = some (.cells zero7 57 (0, 0)) := (hQ.bel.block _ (by omega)).trans hv1
      have hs5 := hQ.bel.size
      have hE5 := hE1'.below (hQ.bel.mono (by omega))
      have lg := hE5.string
      cases bh with
      | false =>
        have HB : Hid (x = .bad 22 0) := by show x = _; rw [HX.out, hq1]; rfl
        clear hq1 hno hbp HX HNO hdn hip
        go_wp2_with fail
        refine (wrong_any r off s 0 _ hS5 (by omega) (fun i hi => absurd hi (Nat.not_lt_zero _)) _ _).mono ?_
        rintro e w6 ⟨q, rfl, hq6, hErr, hb7⟩
        have hv6 : w6.heap[w.heap.size]? = _ := (hb7.block _ (heap_lt hv5)).trans hv5
        obtain ⟨y0, y1, y2, y3, y4, y5, y6, f⟩ := varF hv6
        have hg6 : w.grownBy w6 (some r) := grown_of_below (hb6.trans (hb7.mono hb6.size))
        clear hS5 hv5 hb6 hQ lg
        go_wp2
        rw [HB.out]
        exact fin_bad Tryz.results100 p w w6 r s off 22 0 q _ hv6 hg6 (by omega) hErr rfl rfl
      | true =>
        have HB : Hid (x = .bad 22 pos) := by show x = _; rw [HX.out, hq1]; rfl
        have hglt : 4 < wr.heap.size := by have := hE5.globs; have := hE5.size; omega
        have hgne : 4 ≠ w.heap.size := by have := hE.globs; omega
        have hglt2 : 4 < w.heap.size := by have := hE.globs; omega
        clear hq1 hno hbp HX hdn hip
        go_wp2
        clear hnx
        have cw : ∀ w, Sc w r s off → Calls Tryz.prog 80 #[.pointer (some ⟨r, 0, none⟩), .iface 224 (.pointer (some (p 22))), .int .i64 (IntKind.i64.wrap (((s.size - off : Nat) : Int) - 1))] w fun e w' => ∃ q, e = .returned (.iface 139 (.pointer (some ⟨q, 0, none⟩))) ∧ w.heap.size ≤ q ∧ ErrAt w' q (.iface 224 (.pointer (some (p 22)))) s.data.toList (off + pos) ∧ Below w.heap.size w w' := fun w hS => by
          rw [show IntKind.i64.wrap (((s.size - off : Nat) : Int) - 1) = (pos : Int) from by rw [IntKind.wrap_i64]; omega]
          exact wrong_any r off s pos w hS (by omega) (HNO.out _ (by omega)) _ _
        go_region_held_law (fun w' => w'.cell? ⟨4, 0, none⟩ = some (.iface 224 (.pointer (some (p 22))))) (first | go_keep | (rw [cell_set_other _ _ _ _ _ _ hgne, cell_set_other _ _ _ _ _ _ hgne, cell_set_other _ _ _ _ _ _ hgne, cell_set_other _ _ _ _ _ _ hgne, cell_set_other _ _ _ _ _ _ hgne, cell_set_other _ _ _ _ _ _ hgne, cell_set_other _ _ _ _ _ _ hgne]; exact k1)) (first
          | (go_at_call 92; refine (rest_any r off _ _ s _ (Sc4.below hS5 (below_drewN (Below.refl _ _) 1)) (by omega) hs).mono ?_; rintro e w7 ⟨rfl, hb7⟩; have k0 : w7.cell? ⟨4, 0, none⟩ = some (.iface 224 (.pointer (some (p 22)))) := (hb7.cell (p := ⟨4, 0, none⟩) hglt).trans lg; have hs7 := hb7.size; have hv7 : w7.heap[w.heap.size]? = _ := (hb7.block _ (heap_lt hv5)).trans hv5)
          | (go_at_call 80; refine (cw w7 (Sc4.below (Sc4.below hS5 (below_drewN (Below.refl _ _) 1)) hb7)).mono ?_; rintro e w8 ⟨q, rfl, hq8, hErr, hb8⟩; have k1 : w8.cell? ⟨4, 0, none⟩ = some (.iface 224 (.pointer (some (p 22)))) := (hb8.cell (p := ⟨4, 0, none⟩) (Nat.lt_of_lt_of_le hglt hs7)).trans k0; have hv8 : w8.heap[w.heap.size]? = _ := (hb8.block _ (heap_lt hv7)).trans hv7; obtain ⟨y0, y1, y2, y3, y4, y5, y6, f⟩ := varF hv8))
        all_goals
          have hg8 : w.grownBy w8 (some r) := grown_of_below (hb6.trans (((below_drewN (Below.refl _ _) 1 : Below wr.heap.size wr (wr.drewN 1)).trans (hb7.trans (hb8.mono hs7))).mono hb6.size))
          have hq9 : w.heap.size < q := Nat.lt_of_lt_of_le (heap_lt hv7) hq8
          clear hS5 hv5 hb6 hQ lg hb7 hb8 hv7 k0 k1
          go_wp2
          rw [HB.out]
          exact fin_bad Tryz.results100 p w w8 r s off 22 pos q _ hv8 hg8 hq9 hErr rfl rfl
end Go.Proofs.YtlbgppijeoonjaaGreatDoor
