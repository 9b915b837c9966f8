import Derived.Test.YtpoekphebmonnabUe
namespace Go.Proofs.Ytpoekphebmonnab
open Go.RowKit Go.Shelf Go.Sort
set_option linter.unusedVariables false
set_option linter.unusedSimpArgs false

/-! ### New, Reset, Copy -/
def mayC (mx mn : Nat) : Bool := decide (1 ≤ mx) && (decide (mx ≤ 2147483647) && (decide (1 ≤ mn) && decide (mn ≤ mx)))
theorem mayCount_any (w : World) (s : ByteArray) (mx bs mn : Nat) : Calls Try.prog 11 #[.agg #[.string s, U mx, U bs, U mn]] w fun e w' => e = .returned (.bool (mayC mx mn)) ∧ Below w.heap.size w w' := by
  have hb := fun o => below_alloc w o
  unfold mayC
  by_cases h0 : 1 ≤ mx
  · have h0I : (1 : Int) ≤ mx := by omega
    by_cases h1 : mx ≤ 2147483647
    · have h1I : (mx : Int) ≤ 2147483647 := by omega
      by_cases h2 : 1 ≤ mn
      · have h2I : (1 : Int) ≤ mn := by omega
        by_cases h3 : mn ≤ mx
        · have h3I : (mn : Int) ≤ mx := by omega
          rw [show (decide (1 ≤ mx) && (decide (mx ≤ 2147483647) && (decide (1 ≤ mn) && decide (mn ≤ mx)))) = true by simp [h0, h1, h2, h3]]
          go_enter Try.func11, Try.ntmps11
          go_wp2
          go_ret
          exact ⟨rfl, hb _⟩
        · have h3I : ¬ (mn : Int) ≤ mx := by omega
          have h3N : decide (mn ≤ mx) = false := by simpa using h3
          rw [show (decide (1 ≤ mx) && (decide (mx ≤ 2147483647) && (decide (1 ≤ mn) && decide (mn ≤ mx)))) = false by simp [h0, h1, h2, h3]]
          go_enter Try.func11, Try.ntmps11
          go_wp2
          go_ret
          exact ⟨rfl, hb _⟩
      · have h2I : ¬ (1 : Int) ≤ mn := by omega
        have h2N : decide (1 ≤ mn) = false := by simpa using h2
        rw [show (decide (1 ≤ mx) && (decide (mx ≤ 2147483647) && (decide (1 ≤ mn) && decide (mn ≤ mx)))) = false by simp [h0, h1, h2]]
        go_enter Try.func11, Try.ntmps11
        go_wp2
        go_ret
        exact ⟨rfl, hb _⟩
    · have h1I : ¬ (mx : Int) ≤ 2147483647 := by omega
      have h1N : decide (mx ≤ 2147483647) = false := by simpa using h1
      rw [show (decide (1 ≤ mx) && (decide (mx ≤ 2147483647) && (decide (1 ≤ mn) && decide (mn ≤ mx)))) = false by simp [h0, h1]]
      go_enter Try.func11, Try.ntmps11
      go_wp2
      go_ret
      exact ⟨rfl, hb _⟩
  · have h0I : ¬ (1 : Int) ≤ mx := by omega
    have h0N : decide (1 ≤ mx) = false := by simpa using h0
    rw [show (decide (1 ≤ mx) && (decide (mx ≤ 2147483647) && (decide (1 ≤ mn) && decide (mn ≤ mx)))) = false by simp [h0]]
    go_enter Try.func11, Try.ntmps11
    go_wp2
    go_ret
    exact ⟨rfl, hb _⟩
def newB (mx mn : Nat) (n : Int) : Bool := mayC mx mn && (decide (0 ≤ n) && decide (n ≤ 64))
theorem New_no (w : World) (s : ByteArray) (mx bs mn : Nat) (n : Int) (hn : newB mx mn n = false) : Calls Try.prog 4 #[.agg #[.string s, U mx, U bs, U mn], I n] w fun e w' => e = .returned (.tuple #[.pointer none, I 160]) ∧ Below w.heap.size w w' := by
  have hM := fun W => mayCount_any W s mx bs mn
  have hb := fun o => below_alloc w o
  unfold newB at hn
  cases hm : mayC mx mn with
  | false =>
    rw [hm] at hM
    clear hn hm
    go_enter Try.func4, Try.ntmps4
    go_wp2_with (first | (go_at_call 11; refine (hM _).mono ?_; rintro e w1 ⟨rfl, b1⟩))
    go_ret2
    exact ⟨rfl, (hb _).trans (b1.mono (hb _).size)⟩
  | true =>
    rw [hm] at hM hn
    clear hm
    by_cases h0 : n < 0
    · clear hn
      go_enter Try.func4, Try.ntmps4
      go_wp2_with (first | (go_at_call 11; refine (hM _).mono ?_; rintro e w1 ⟨rfl, b1⟩))
      go_ret2
      exact ⟨rfl, (hb _).trans (b1.mono (hb _).size)⟩
    · have h1 : 64 < n := by simp at hn; omega
      clear hn
      go_enter Try.func4, Try.ntmps4
      go_wp2_with (first | (go_at_call 11; refine (hM _).mono ?_; rintro e w1 ⟨rfl, b1⟩))
      go_ret2
      exact ⟨rfl, (hb _).trans (b1.mono (hb _).size)⟩
set_option maxRecDepth 100000 in
theorem New_ok (w : World) (s : ByteArray) (mx bs mn n : Nat) (hn : newB mx mn n = true) : Calls Try.prog 4 #[.agg #[.string s, U mx, U bs, U mn], I n] w fun e w' => ∃ B v, e = .returned (.tuple #[cP B, I 0]) ∧ Ck w' B v mx mn 0 (List.replicate n (0, 0)) ∧ (∀ b, Cb B v b → w.heap.size < b) ∧ Below w.heap.size w w' := by
  obtain ⟨i0, hi0, hz0, hz1, hz2⟩ := info_parts sinfo
  have hM := fun W => mayCount_any W s mx bs mn
  have hb := below_alloc w (.cells #[.string s, U mx, U bs, U mn] 24)
  have hB := heap_alloc_new w (.cells #[.string s, U mx, U bs, U mn] 24)
  have hlt : w.heap.size < (w.alloc (.cells #[.string s, U mx, U bs, U mn] 24)).heap.size := by simp
  unfold newB at hn
  have hm : mayC mx mn = true := by cases h : mayC mx mn <;> simp_all
  have h1 : ¬ ((n : Int) < 0) := by omega
  have h2 : ¬ ((64 : Int) < n) := by rw [hm] at hn; simp at hn; omega
  have HM : Hid (mayC mx mn = true) := hm
  rw [hm] at hM
  clear hn hm
  obtain ⟨ZZ, hZZ⟩ : ∃ Z : Array Value, Z = madeCells (Value.agg #[.int .u64 0, .int .u32 0]).cells (n * 2) := ⟨_, rfl⟩
  have HZ : Hid (ZZ = madeCells (Value.agg #[.int .u64 0, .int .u32 0]).cells (n * 2)) := hZZ
  clear hZZ
  have hmk : ∀ W : World, (Instr.makeSlice 42 (I n) (I n)).run Try.prog W = .ok (.slice (some ⟨W.heap.size, 0, none⟩) n n) (W.alloc (.cells ZZ 79)) := fun W => by
    have hmk := run_make (P := Try.prog) W 42 79 i0 _ Try.underlying42 hi0 hz0 .i64 .i64 (n : Int) (n : Int) (by omega) (Int.le_refl _) (by rw [hz2]; omega) (by omega)
    rw [hz1, Int.toNat_natCast] at hmk
    rw [HZ.out]
    exact hmk
  go_enter Try.func4, Try.ntmps4
  go_wp2_with (first | (go_at_call 11; refine (hM _).mono ?_; rintro e w1 ⟨rfl, b1⟩))
  have b2 := hb.trans (b1.mono hb.size)
  have hq := (b1.block _ hlt).trans hB
  have c1 : w1.cell? ⟨w.heap.size, 1, none⟩ = some (U mx) := by rw [cell_of_row _ _ _ _ _ (0, 0) hq]; rfl
  have c3 : w1.cell? ⟨w.heap.size, 3, none⟩ = some (U mn) := by rw [cell_of_row _ _ _ _ _ (0, 0) hq]; rfl
  have hlt2 : w.heap.size < w1.heap.size := by have := b1.size; omega
  clear hM hb hB hlt b1 hq
  go_region_held_law (fun w' => w'.cell? ⟨w.heap.size, 1, none⟩ = some (U mx) ∧ w'.cell? ⟨w.heap.size, 3, none⟩ = some (U mn)) (first | exact ⟨c1, c3⟩ | (go_keep; done)) (fail)
  all_goals
    go_wp2
    go_ret2
    have hs1 : (w1.alloc (.cells ZZ 79)).heap.size = w1.heap.size + 1 := by simp
    have q1 := heap_alloc_new (w1.alloc (.cells ZZ 79)) (.cells #[U mx, U mn, U 0, .slice (some ⟨w1.heap.size, 0, none⟩) n n] 44)
    rw [hs1] at q1
    have q2 : ((w1.alloc (.cells ZZ 79)).alloc (.cells #[U mx, U mn, U 0, .slice (some ⟨w1.heap.size, 0, none⟩) n n] 44)).ownsRow 0 79 2 (.slice (some ⟨w1.heap.size, 0, none⟩) n n) n (flP (List.replicate n (0, 0))) := by
      rw [flP_zero, ← HZ.out]
      refine own_below (World.ownsRow_lit w1 ZZ n (Nat.zero_le _) (by unfold maxLen; omega) ?_) (below_alloc _ _)
      rw [HZ.out, size_madeCells]
    have hmm : 1 ≤ mx ∧ mx ≤ 2147483647 ∧ 1 ≤ mn ∧ mn ≤ mx := by have := HM.out; unfold mayC at this; simpa using this
    refine ⟨w1.heap.size + 1, .slice (some ⟨w1.heap.size, 0, none⟩) n n, rfl, ⟨q1, ?_, ?_, ⟨hmm.1, hmm.2.1, hmm.2.2.1, hmm.2.2.2, Nat.zero_le _⟩, ?_, ?_, ⟨_, _, by rw [List.length_replicate]⟩⟩, ?_, ?_⟩
    · rw [List.length_replicate]; exact q2
    · intro e; simp [Value.ownBlock] at e
    · simp; omega
    · intro x hx
      rw [List.eq_of_mem_replicate hx]
      exact ⟨Nat.zero_le _, Nat.zero_le _⟩
    · rintro b (rfl | e)
      · omega
      · cases e; exact hlt2
    · exact b2.trans ((((Below.refl _ w1).alloc (by omega) _).alloc (by simp; omega) _).drew)
theorem Ck.setV {w : World} {B G L V : Nat} {v : Value} {al : List Alm} (h : Ck w B v G L V al) (V2 : Nat) (hV : V2 ≤ G) : Ck (w.setCell ⟨B, 2, none⟩ (U V2)) B v G L V2 al := by
  have hf : Fz (fun b => b = B) w (w.setCell ⟨B, 2, none⟩ (U V2)) := (Fz.refl (fun b => b = B) w).set (.inl rfl) 2 (U V2)
  exact ⟨heap_setCell_same w B 2 _ _ (U V2) h.o, hf.own h.p (fun g e e2 => h.d (by rw [e, e2])), h.d, ⟨h.b.1, h.b.2.1, h.b.2.2.1, h.b.2.2.2.1, hV⟩, h.n, h.x, h.a⟩
section
variable {w w' : World} {B G L V : Nat} {v : Value} {al : List Alm}
theorem Reset_any (h : Ck w B v G L V al) : Calls Try.prog 29 #[cP B] w fun e w' => e = .returned (.tuple #[]) ∧ Ck w' B v G L 0 (List.replicate al.length (0, 0)) ∧ Fz (Cb B v) w w' := by
  obtain ⟨c0, c1, c2, c3⟩ := h.cells
  have hN := none_any h
  have fz := h.frz 2
  have h1 : Ck (w.setCell ⟨B, 2, none⟩ (U 0)) B v G L 0 al := h.setV 0 (Nat.zero_le _)
  obtain ⟨e0, e1, e2, e3⟩ := h1.cells
  have f1 : Fz (fun b => b = B) w (w.setCell ⟨B, 2, none⟩ (U 0)) := (Fz.refl (fun b => b = B) w).set (.inl rfl) 2 (U 0)
  obtain ⟨w2, hc, ho, hf⟩ := run_clear_own h1.p
  obtain ⟨a, c, rfl⟩ := own_sl h.p
  have HR : Hid (Ck w2 B (.slice a al.length c) G L 0 (List.replicate al.length (0, 0)) ∧ Fz (Cb B (.slice a al.length c)) w w2) := by
    refine ⟨⟨hf.heap h1.o h.d, by rw [List.length_replicate]; exact ho, h.d, h1.b, by simpa using h.n, fun x hx => ?_, by rw [List.length_replicate]; exact h.a⟩, (f1.mono (by rintro b rfl; exact .inl rfl)).trans (hf.mono (fun b e => .inr e))⟩
    rw [List.eq_of_mem_replicate hx]
    exact ⟨Nat.zero_le _, Nat.zero_le _⟩
  clear ho hf f1 h1
  go_enter Try.func29, Try.ntmps29
  go_wp2_with (first | (go_at_call 33; refine hN.mono ?_; rintro e w1 ⟨rfl, rfl⟩))
  refine bodyPost_end (v := .tuple #[]) (by simp [results, Try.results29, go_sem]) rfl ?_
  exact ⟨rfl, HR.out.1, HR.out.2⟩
set_option maxRecDepth 100000 in
theorem Copy_any (h : Ck w B v G L V al) : Calls Try.prog 9 #[cP B] w fun e w' => ∃ B2 v2, e = .returned (cP B2) ∧ Ck w' B2 v2 G L V al ∧ (∀ b, Cb B2 v2 b → w.heap.size ≤ b) ∧ Below w.heap.size w w' := by
  obtain ⟨c0, c1, c2, c3⟩ := h.cells
  have hN := none_any h
  have hd := h.below ((Below.refl _ w).drew)
  have hC := copied_any al.length rfl h.n hd.p
  have HH : Hid (Ck w B v G L V al) := h
  have hl := h.n
  obtain ⟨a, c, rfl⟩ := own_sl h.p
  have hsd : w.drew.heap.size = w.heap.size := rfl
  rw [hsd] at hC
  clear h hd hsd
  go_enter Try.func9, Try.ntmps9
  go_wp2_with (first | (go_at_call 33; refine hN.mono ?_; rintro e w1 ⟨rfl, rfl⟩))
  go_region_held_law (fun w' => w'.cell? ⟨B, 0, none⟩ = some (U G) ∧ w'.cell? ⟨B, 1, none⟩ = some (U L) ∧ w'.cell? ⟨B, 2, none⟩ = some (U V) ∧ w'.cell? ⟨B, 3, none⟩ = some (.slice a al.length c)) (first | exact ⟨c0, c1, c2, c3⟩ | exact ⟨k0, k1, k2, k3⟩ | (go_keep; done)) (first | (go_at_call 34; refine hC.mono ?_; clear hC; rintro e w3 ⟨rfl, o3, b3⟩; have H3 : Hid (w3.ownsRow w.heap.size 79 2 (.slice (some ⟨w.heap.size, 0, none⟩) al.length al.length) al.length (flP al) ∧ Below w.heap.size w w3) := ⟨o3, ((Below.refl _ w).drew).trans b3⟩; clear o3 b3; obtain ⟨k0, k1, k2, k3⟩ := (HH.out.below H3.out.2).cells))
  all_goals
    go_wp2
    go_ret
    have hlt : w.heap.size < w3.heap.size := (H3.out.1.lt _ rfl).2
    refine ⟨w3.heap.size, _, rfl, ⟨heap_alloc_new w3 _, own_base (own_below H3.out.1 (below_alloc _ _)) (Nat.zero_le _), ?_, HH.out.b, HH.out.n, HH.out.x, ⟨_, _, rfl⟩⟩, ?_, H3.out.2.trans (((Below.refl _ w3).alloc (by omega) _))⟩
    · intro e; simp [Value.ownBlock] at e; omega
    · rintro b (rfl | e)
      · omega
      · cases e; exact Nat.le_refl _
end
end Go.Proofs.Ytpoekphebmonnab
