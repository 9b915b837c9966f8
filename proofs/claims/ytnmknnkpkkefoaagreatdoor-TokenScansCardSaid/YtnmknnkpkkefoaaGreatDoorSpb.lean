import Derived.Test.YtnmknnkpkkefoaaGreatDoorSpa
import Derived.Test.YtnmknnkpkkefoaaGreatDoorQuo
namespace Go.Proofs.YtnmknnkpkkefoaaGreatDoor
open Go.RowKit
set_option linter.unusedVariables false

def mkV (k : Int) : Value := if 4 ≤ k ∧ k ≤ 8 then .tuple #[.string ⟨#[mkB k]⟩, .int .i64 0] else .tuple #[.string ⟨#[]⟩, .int .i64 20]
set_option maxHeartbeats 2000000 in
set_option maxRecDepth 100000 in
theorem spellMark_any (B : Nat) (p : Nat → Addr) (k : Int) (w : World) (hE : Env B p w) :
    Calls Tryz.prog 53 #[.int .i64 k] w fun e w' => e = .returned (mkV k) ∧ Below w.heap.size w w' := by
  obtain ⟨x, hx⟩ : ∃ x, mkV k = x := ⟨_, rfl⟩
  rw [hx]
  have HX : Hid (mkV k = x) := hx
  clear hx
  obtain ⟨-, -, -, -, -, -, -, -, -, -, q0, q1, q2, q3, q4, q5, q6, q7, q8, q9, -, -⟩ := hE
  go_enter Tryz.func53, Tryz.ntmps53
  go_wp2
  go_loopw [7] (fun i wr => ∃ j : Nat, j ≤ 5 ∧ i = .int .i64 j ∧ (∀ i : Nat, i < j → k ≠ 4 + i) ∧ Below w.heap.size w wr) (fun i _ => 5 - (intOf i).toNat)
  case atStart => exact ⟨0, by omega, rfl, fun k h => absurd h (Nat.not_lt_zero _), Below.refl _ _⟩
  case round =>
    obtain ⟨j, hj, rfl, hne, hb⟩ := hrel
    have HNE : Hid (∀ i : Nat, i < j → k ≠ 4 + i) := hne
    have hs1 := hb.size
    clear hne q0 q1 q2 q3 q4 q5 q6 q7 q8 q9
    by_cases h5 : j < 5
    · have h5' : (j : Int) < 5 := by omega
      have hma := marks_at j h5
      unfold marksV at hma
      by_cases hk : k = 4 + (j : Int)
      · have hj5 : j = 0 ∨ j = 1 ∨ j = 2 ∨ j = 3 ∨ j = 4 := by omega
        clear hma HNE h5 h5' hj
        rcases hj5 with rfl | rfl | rfl | rfl | rfl
        · have hma := marks_0
          unfold marksV at hma
          subst hk
          go_wp2
          go_ret2
          exact ⟨by rw [← HX.out]; rfl, hb.alloc hs1 _⟩
        · have hma := marks_1
          unfold marksV at hma
          subst hk
          go_wp2
          go_ret2
          exact ⟨by rw [← HX.out]; rfl, hb.alloc hs1 _⟩
        · have hma := marks_2
          unfold marksV at hma
          subst hk
          go_wp2
          go_ret2
          exact ⟨by rw [← HX.out]; rfl, hb.alloc hs1 _⟩
        · have hma := marks_3
          unfold marksV at hma
          subst hk
          go_wp2
          go_ret2
          exact ⟨by rw [← HX.out]; rfl, hb.alloc hs1 _⟩
        · have hma := marks_4
          unfold marksV at hma
          subst hk
          go_wp2
          go_ret2
          exact ⟨by rw [← HX.out]; rfl, hb.alloc hs1 _⟩
      · have hcc : ((4 + (j : Int)) == k) = false := by rw [beq_eq_false_iff_ne]; exact fun e => hk e.symm
        have HM : Hid (∀ i : Nat, i < j + 1 → k ≠ 4 + i) := fun i hi => by
          by_cases e : i < j
          · exact HNE.out i e
          · have : i = j := by omega
            subst this; exact hk
        generalize sgn j = y at *
        clear hk HNE
        go_wp2
        go_roundw
        case rel => exact ⟨j + 1, by omega, by go_num, HM.out, hb.alloc hs1 _⟩
        case measure => simp [intOf]; omega
    · have h5' : ¬ (j : Int) < 5 := by omega
      have HY : Hid (mkV k = .tuple #[.string ⟨#[]⟩, .int .i64 20]) := by
        show mkV k = _
        unfold mkV
        rw [if_neg]
        rintro ⟨h1, h2⟩
        exact HNE.out (k - 4).toNat (by omega) (by omega)
      clear HNE
      go_wp2
      go_ret2
      exact ⟨by rw [← HX.out, HY.out]; rfl, hb⟩
theorem own_ne {w : World} {base e size n k pos : Nat} {v : Value} {xs : List Value} {x : ByteArray} (h : w.ownsRow base e size v n xs) (hk : w.heap[k]? = some (.stringIter x pos)) : v.ownBlock ≠ some k := by
  obtain ⟨hl, ⟨rfl, h0⟩ | ⟨g, cap, cur, rfl, hb, hh, rr⟩⟩ := h
  · intro e; cases e
  · intro e
    cases e
    rw [hk] at hh
    cases hh
/-- What holds between two rounds. -/
structure QJ (w wr : World) (k : Nat) (x : ByteArray) (pos : Nat) (v : Value) (out : List UInt8) : Prop where
  it : wr.heap[k]? = some (.stringIter x pos)
  own : wr.ownsRow w.heap.size 5 1 v out.length (out.map B)
  bel : Below w.heap.size w wr
theorem QJ.step {w wr : World} {k pos : Nat} {x : ByteArray} {v : Value} {out : List UInt8} (h : QJ w wr k x pos v out) (hk : w.heap.size ≤ k) (pos' : Nat) : QJ w (wr.iterAt k x pos') k x pos' v out := by
  refine ⟨Lib.iterAt_heap wr k x pos pos' h.it, ?_, Lib.below_iterAt h.bel hk x pos'⟩
  have hne := own_ne h.own h.it
  obtain ⟨hl, h0 | ⟨g, cap, cur, rfl, hb, hh, r⟩⟩ := h.own
  · exact ⟨hl, .inl h0⟩
  · exact ⟨hl, .inr ⟨g, cap, cur, rfl, hb, by rw [Lib.iterAt_other wr k g x pos' (fun e => hne (by subst e; rfl))]; exact hh, r⟩⟩
theorem QJ.app {w wr w6 : World} {k pos : Nat} {x : ByteArray} {v v6 : Value} {out : List UInt8} {c : UInt8} (h : QJ w wr k x pos v out) (o : Obj) (ho : w6.ownsRow w.heap.size 5 1 v6 (out.length + 1) (out.map B ++ [.int .u8 (c.toNat : Int)])) (hg : (wr.alloc o).grownBy w6 v.ownBlock) : QJ w w6 k x pos v6 (out ++ [c]) := by
  refine ⟨((grown_alloc hg).block _ (heap_lt h.it) (fun e => own_ne h.own h.it e.symm)).trans h.it, ?_, ?_⟩
  · rw [List.length_append, List.map_append]; exact ho
  · exact h.bel.grown (grown_alloc hg) h.bel.size (fun k e => (h.own.lt k e).1)
def stV (t : ByteArray) : Value := if strL t.data.toList = true then .tuple #[.string ⟨(34 :: (escL t.data.toList ++ [34])).toArray⟩, .int .i64 0] else .tuple #[.string ⟨#[]⟩, .int .i64 20]
set_option maxHeartbeats 4000000 in
set_option maxRecDepth 100000 in
theorem spellString_any (t : ByteArray) (w : World) (hs : t.size < 4611686018427387904) :
    Calls Tryz.prog 52 #[.string t] w fun e w' => e = .returned (stV t) ∧ Below w.heap.size w w' := by
  obtain ⟨x, hx⟩ : ∃ x, stV t = x := ⟨_, rfl⟩
  rw [hx]
  have HX : Hid (stV t = x) := hx
  clear hx
  obtain ⟨i0, hi, hz0, hz1, hz2⟩ := info_parts Tryz.info5
  by_cases hbig : 255 < t.size
  · have hbig' : (255 : Int) < t.size := by omega
    have HY : Hid (stV t = .tuple #[.string ⟨#[]⟩, .int .i64 20]) := by
      show stV t = _
      unfold stV strL
      rw [len_all, decide_eq_false (by omega)]
      rfl
    go_enter Tryz.func52, Tryz.ntmps52
    go_wp2
    go_ret2
    exact ⟨by rw [← HX.out, HY.out]; rfl, Below.refl _ _⟩
  · have hbig' : ¬ (255 : Int) < t.size := by omega
    have hQ0 : QJ w ((w.alloc (.cells #[.int .u8 34] 5)).iter t 0) (w.heap.size + 1) t 0 (.slice (some ⟨w.heap.size, 0, none⟩) 1 1) [34] := by
      have hit : ((w.alloc (.cells #[.int .u8 34] 5)).iter t 0).heap[w.heap.size + 1]? = some (.stringIter t 0) := by
        have := World.iter_heap (w.alloc (.cells #[.int .u8 34] 5)) t 0
        rwa [World.size_alloc] at this
      have hb : Below w.heap.size w ((w.alloc (.cells #[.int .u8 34] 5)).iter t 0) := ((Below.refl w.heap.size w).alloc (Nat.le_refl _) _).alloc (by simp) _
      refine ⟨hit, ⟨rfl, .inr ⟨w.heap.size, 1, #[.int .u8 34], rfl, Nat.le_refl _, ?_, by decide, by decide, rfl, rfl⟩⟩, hb⟩
      have h1 : (w.alloc (.cells #[.int .u8 34] 5)).heap[w.heap.size]? = some (.cells #[.int .u8 34] 5 (0, 0)) := push_at w.heap _
      exact (((Below.refl (w.alloc (.cells #[.int .u8 34] 5)).heap.size (w.alloc (.cells #[.int .u8 34] 5))).alloc (Nat.le_refl _) _).block _ (by simp)).trans h1
    go_enter Tryz.func52, Tryz.ntmps52
    go_wp2
    go_loopw [4] (fun v wr => ∃ (pos : Nat) (out : List UInt8), pos ≤ t.size ∧ out.length ≤ 2 * pos + 1 ∧ QJ w wr (w.heap.size + 1) t pos v out ∧ Hid (out = 34 :: escL (t.data.toList.take pos) ∧ (t.data.toList.take pos).all sayB = true))
      (fun _ wr => t.size - wr.iterPos (w.heap.size + 1))
    case atStart => exact ⟨0, [34], by omega, by simp, hQ0, by simp [escL], by simp⟩
    case round =>
      obtain ⟨pos, out, hp, hol, hQ, hh⟩ := hrel
      clear hQ0
      have hip : wr.iterPos (w.heap.size + 1) = pos := by unfold World.iterPos; rw [hQ.it]
      have hsz := hQ.bel.size
      by_cases hlt : pos < t.size
      · obtain ⟨c, hc⟩ : ∃ c, t[pos] = c := ⟨_, rfl⟩
        have hcl : t.data.toList[pos]? = some c := by rw [snoc_all t pos hlt, hc]
        obtain ⟨r0, pos', hnx, hr0, hr1, hrc⟩ := next_rune wr (w.heap.size + 1) pos t hQ.it hlt c hc
        have hQ5 := hQ.step (by omega) pos'
        have hip5 : (wr.iterAt (w.heap.size + 1) t pos').iterPos (w.heap.size + 1) = pos' := by unfold World.iterPos; rw [hQ5.it]
        generalize (wr.iterAt (w.heap.size + 1) t pos') = w5 at *
        clear hc hQ
        have ce : ∀ w, Calls Tryz.prog 61 #[.int .i32 r0] w fun e w' => e = .returned (.bool (decide (r0 = 34 ∨ r0 = 92))) ∧ w = w' := fun w => (escaped_any r0 w).mono fun e w' ⟨a, b⟩ => ⟨a, b.symm⟩
        have cs : ∀ w, Calls Tryz.prog 62 #[.int .i32 r0] w fun e w' => e = .returned (.bool (decide (32 ≤ r0 ∧ r0 ≤ 126))) ∧ w = w' := fun w => (sayable_any r0 w).mono fun e w' ⟨a, b⟩ => ⟨a, b.symm⟩
        by_cases hsay : 32 ≤ r0 ∧ r0 ≤ 126
        · rw [decide_eq_true hsay] at cs
          have hasc : r0 = c.toNat ∧ pos' = pos + 1 := by rcases hrc with ⟨h1, h2, _⟩ | ⟨h1, _⟩ <;> omega
          obtain ⟨e1, rfl⟩ := hasc
          subst e1
          have hsayB : sayB c = true := decide_eq_true (by omega)
          have hc8 := c.toNat_lt
          have hw8 : IntKind.u8.wrap (c.toNat : Int) = c.toNat := by rw [IntKind.wrap_u8]; omega
          have htk : t.data.toList.take (pos + 1) = t.data.toList.take pos ++ [c] := by rw [List.take_add_one, hcl]; rfl
          obtain ⟨av, cv, rfl⟩ := owns_shape hQ5.own
          by_cases he : escB c = true
          · have hde : ((c.toNat : Int) = 34 ∨ (c.toNat : Int) = 92) := by
              have := of_decide_eq_true he
              rcases this with rfl | rfl <;> decide
            rw [decide_eq_true hde] at ce
            have HN : Hid (out ++ [92] ++ [c] = 34 :: escL (t.data.toList.take (pos + 1)) ∧ (t.data.toList.take (pos + 1)).all sayB = true) := by
              obtain ⟨g1, g2⟩ := hh.out
              constructor
              · rw [htk, g1]; unfold escL; rw [List.flatMap_append]; simp [he]
              · rw [htk, List.all_append, g2]; simp [hsayB]
            clear hh htk hcl hrc hsay hr0 hr1 hde
            go_wp2_with (first
              | (go_at_call 61; refine (ce _).mono ?_; rintro e w' ⟨rfl, rfl⟩)
              | (go_at_call 62; refine (cs _).mono ?_; rintro e w' ⟨rfl, rfl⟩)
              | (at_builtin; refine wpList_append_own _ rfl (.tmp 21) (.tmp 22) 71 rfl w.heap.size 5 i0 (.int .u8 0) 1 1 Tryz.underlying71 hi hz0 hz1 hz2 rfl (by decide) _ _ _ rfl (hQ5.own.alloc _) ⟨w5.heap.size, 0, none⟩ 1 1 [.int .u8 92] rfl rfl (cell_one_new' _ _ _) (by intro u hu; simp at hu; subst hu; rfl) (by unfold maxLen; omega) (by omega) (by have := hQ5.bel.size; simp; omega) ?_))
            intro v6 w6 ho6 hg6 _
            have hQ6 := hQ5.app (c := 92) _ ho6 hg6
            obtain ⟨av6, cv6, rfl⟩ := owns_shape hQ6.own
            have hol6 : (out ++ [92]).length = out.length + 1 := by simp
            clear ho6 hg6 hQ5 hip5
            go_wp2_with (first
              | (at_builtin; refine wpList_append_own _ rfl (.tmp 24) (.tmp 27) 71 rfl w.heap.size 5 i0 (.int .u8 0) 1 1 Tryz.underlying71 hi hz0 hz1 hz2 rfl (by decide) _ _ _ rfl (hQ6.own.alloc _) ⟨w6.heap.size, 0, none⟩ 1 1 [.int .u8 (c.toNat : Int)] rfl rfl (cell_one_new' _ _ _) (by intro u hu; simp at hu; subst hu; rfl) (by unfold maxLen; omega) (by omega) (by have := hQ6.bel.size; simp; omega) ?_))
            intro v7 w7 ho7 hg7 _
            have hQ7 := hQ6.app (w6 := w7) (v6 := v7) (c := c) (.cells #[.int .u8 (c.toNat : Int)] 5) (by rw [hol6, List.map_append, List.append_assoc]; exact ho7) (by rw [hol6]; exact hg7)
            have hip7 : w7.iterPos (w.heap.size + 1) = pos + 1 := by unfold World.iterPos; rw [hQ7.it]
            clear ho7 hg7 hQ6
            go_wp2
            go_roundw
            case rel => exact ⟨pos + 1, out ++ [92] ++ [c], by omega, by simp; omega, hQ7, HN.out⟩
            case measure => rw [hip, hip7]; omega
          · have hde : ¬ ((c.toNat : Int) = 34 ∨ (c.toNat : Int) = 92) := fun h => he (by
              refine decide_eq_true ?_
              rcases h with h | h
              · exact Or.inl (UInt8.toNat_inj.1 (by show c.toNat = 34; omega))
              · exact Or.inr (UInt8.toNat_inj.1 (by show c.toNat = 92; omega)))
            rw [decide_eq_false hde] at ce
            have HN : Hid (out ++ [c] = 34 :: escL (t.data.toList.take (pos + 1)) ∧ (t.data.toList.take (pos + 1)).all sayB = true) := by
              obtain ⟨g1, g2⟩ := hh.out
              constructor
              · rw [htk, g1]; unfold escL; rw [List.flatMap_append]; simp [he]
              · rw [htk, List.all_append, g2]; simp [hsayB]
            clear hh htk hcl hrc hsay hr0 hr1 hde
            go_wp2_with (first
              | (go_at_call 61; refine (ce _).mono ?_; rintro e w' ⟨rfl, rfl⟩)
              | (go_at_call 62; refine (cs _).mono ?_; rintro e w' ⟨rfl, rfl⟩)
              | (at_builtin; refine wpList_append_own _ rfl (.tmp 24) (.tmp 27) 71 rfl w.heap.size 5 i0 (.int .u8 0) 1 1 Tryz.underlying71 hi hz0 hz1 hz2 rfl (by decide) _ _ _ rfl (hQ5.own.alloc _) ⟨w5.heap.size, 0, none⟩ 1 1 [.int .u8 (c.toNat : Int)] rfl rfl (cell_one_new' _ _ _) (by intro u hu; simp at hu; subst hu; rfl) (by unfold maxLen; omega) (by omega) (by have := hQ5.bel.size; simp; omega) ?_))
            intro v7 w7 ho7 hg7 _
            have hQ7 := hQ5.app (c := c) _ ho7 hg7
            have hip7 : w7.iterPos (w.heap.size + 1) = pos + 1 := by unfold World.iterPos; rw [hQ7.it]
            clear ho7 hg7 hQ5 hip5
            go_wp2
            go_roundw
            case rel => exact ⟨pos + 1, out ++ [c], by omega, by simp; omega, hQ7, HN.out⟩
            case measure => rw [hip, hip7]; omega
        · rw [decide_eq_false hsay] at cs
          have hsayB : sayB c = false := decide_eq_false (fun h => by rcases hrc with ⟨h1, _, _⟩ | ⟨_, h3⟩ <;> omega)
          have HY : Hid (stV t = .tuple #[.string ⟨#[]⟩, .int .i64 20]) := by
            show stV t = _
            unfold stV strL
            have : t.data.toList.all sayB = false := by
              rw [List.all_eq_false]
              exact ⟨c, List.mem_of_getElem? hcl, by rw [hsayB]; decide⟩
            rw [this, Bool.and_false]
            rfl
          have hb5 := hQ5.bel
          clear hh hcl hrc hsay hr0 hr1 hsayB hQ5 ce
          go_wp2_with (first
            | (go_at_call 62; refine (cs _).mono ?_; rintro e w' ⟨rfl, rfl⟩))
          go_ret2
          exact ⟨by rw [← HX.out, HY.out]; rfl, hb5⟩
      · have hnx : ∀ ty, (Instr.next (.pointer (some ⟨w.heap.size + 1, 0, none⟩)) true ty).run Tryz.prog wr = .ok (.tuple #[.bool false]) wr := fun ty => Lib.run_next_end_at wr (w.heap.size + 1) t pos ty hQ.it hlt
        have HY : Hid (stV t = .tuple #[.string ⟨(out ++ [34]).toArray⟩, .int .i64 0]) := by
          obtain ⟨g1, g2⟩ := hh.out
          rw [List.take_of_length_le (by rw [len_all]; omega)] at g1 g2
          show stV t = _
          unfold stV strL
          rw [g2, len_all, decide_eq_true (by omega), g1]
          rfl
        obtain ⟨av, cv, rfl⟩ := owns_shape hQ.own
        clear hh hip
        go_wp2_with (first
          | (at_builtin; refine wpList_append_own _ rfl (.tmp 29) (.tmp 30) 71 rfl w.heap.size 5 i0 (.int .u8 0) 1 1 Tryz.underlying71 hi hz0 hz1 hz2 rfl (by decide) _ _ _ rfl (hQ.own.alloc _) ⟨wr.heap.size, 0, none⟩ 1 1 [.int .u8 34] rfl rfl (cell_one_new' _ _ _) (by intro u hu; simp at hu; subst hu; rfl) (by unfold maxLen; omega) (by omega) (by have := hQ.bel.size; simp; omega) ?_))
        intro v7 w7 ho7 hg7 _
        have hQ7 := hQ.app (c := 34) _ ho7 hg7
        have hcv := conv_own hQ7.own
        have hb7 := hQ7.bel
        clear ho7 hg7 hQ hQ7
        go_wp2
        go_ret2
        exact ⟨by rw [← HX.out, HY.out]; rfl, hb7⟩
def spV2 (x : Tz) : Value := match spz x with | some b => .tuple #[.string ⟨b.toArray⟩, .int .i64 0] | none => .tuple #[.string ⟨#[]⟩, .int .i64 20]
/-- What a token must be, to be handed over. -/
def TzOk (x : Tz) : Prop := x.val < 4294967296 ∧ x.text.length < 4611686018427387904
end Go.Proofs.YtnmknnkpkkefoaaGreatDoor
