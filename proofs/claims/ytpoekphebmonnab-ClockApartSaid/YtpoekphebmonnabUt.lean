import Derived.Test.YtpoekphebmonnabUs
namespace Go.Proofs.Ytpoekphebmonnab
open Go.RowKit Go.Shelf Go.Sort
set_option linter.unusedVariables false
set_option linter.unusedSimpArgs false

theorem dNew_no (w : World) (s : ByteArray) (mx bs mn : Nat) (n : Int) (hn : newB mx mn n = false) : Calls Try.prog 5 #[.agg #[.string s, U mx, U bs, U mn], I n] w fun e w' => ∃ D, e = .returned (.tuple #[cP D, I 160]) ∧ w'.cell? ⟨D, 0, none⟩ = some (.bool false) ∧ w.heap.size ≤ D ∧ Below w.heap.size w w' := by
  have hq : ∀ o : Obj, ((w.alloc (.cells #[.string s, U mx, U bs, U mn] 24)).alloc o).heap[w.heap.size + 1]? = some o := fun o => by
    have := heap_alloc_new (w.alloc (.cells #[.string s, U mx, U bs, U mn] 24)) o
    simpa using this
  have hbb : ∀ o : Obj, Below w.heap.size w ((w.alloc (.cells #[.string s, U mx, U bs, U mn] 24)).alloc o) := fun o => ((Below.refl _ w).alloc (Nat.le_refl _) _).alloc (by simp) _
  have hc : ¬ 1 ≤ mx ∨ (1 ≤ mx ∧ ¬ mx ≤ 2147483647) ∨ (1 ≤ mx ∧ mx ≤ 2147483647 ∧ ¬ 1 ≤ mn) ∨ (1 ≤ mx ∧ mx ≤ 2147483647 ∧ 1 ≤ mn ∧ ¬ mn ≤ mx) ∨ (1 ≤ mx ∧ mx ≤ 2147483647 ∧ 1 ≤ mn ∧ mn ≤ mx ∧ n < 0) ∨ (1 ≤ mx ∧ mx ≤ 2147483647 ∧ 1 ≤ mn ∧ mn ≤ mx ∧ ¬ n < 0 ∧ 64 < n) := by
    unfold newB mayC at hn
    simp at hn
    omega
  clear hn
  rcases hc with h1 | ⟨h1, h2⟩ | ⟨h1, h2, h3⟩ | ⟨h1, h2, h3, h4⟩ | ⟨h1, h2, h3, h4, h5⟩ | ⟨h1, h2, h3, h4, h5, h6⟩
  · have d1 : decide ((mx : Int) < 1) = true := by simp; omega
    go_enter Try.func5, Try.ntmps5
    go_wp2
    go_ret2
    exact ⟨_, rfl, by rw [cell_of_row _ _ _ _ _ (0, 0) (hq _)]; rfl, by omega, hbb _⟩
  · have d1 : decide ((mx : Int) < 1) = false := by simp; omega
    have d2 : decide ((2147483647 : Int) < mx) = true := by simp; omega
    go_enter Try.func5, Try.ntmps5
    go_wp2
    go_ret2
    exact ⟨_, rfl, by rw [cell_of_row _ _ _ _ _ (0, 0) (hq _)]; rfl, by omega, hbb _⟩
  · have d1 : decide ((mx : Int) < 1) = false := by simp; omega
    have d2 : decide ((2147483647 : Int) < mx) = false := by simp; omega
    have d3 : decide ((mn : Int) < 1) = true := by simp; omega
    go_enter Try.func5, Try.ntmps5
    go_wp2
    go_ret2
    exact ⟨_, rfl, by rw [cell_of_row _ _ _ _ _ (0, 0) (hq _)]; rfl, by omega, hbb _⟩
  · have d1 : decide ((mx : Int) < 1) = false := by simp; omega
    have d2 : decide ((2147483647 : Int) < mx) = false := by simp; omega
    have d3 : decide ((mn : Int) < 1) = false := by simp; omega
    have d4 : decide ((mx : Int) < mn) = true := by simp; omega
    have d4n : decide (mx < mn) = true := by simp; omega
    go_enter Try.func5, Try.ntmps5
    go_wp2
    go_ret2
    exact ⟨_, rfl, by rw [cell_of_row _ _ _ _ _ (0, 0) (hq _)]; rfl, by omega, hbb _⟩
  · have d1 : decide ((mx : Int) < 1) = false := by simp; omega
    have d2 : decide ((2147483647 : Int) < mx) = false := by simp; omega
    have d3 : decide ((mn : Int) < 1) = false := by simp; omega
    have d4 : decide ((mx : Int) < mn) = false := by simp; omega
    have d4n : decide (mx < mn) = false := by simp; omega
    go_enter Try.func5, Try.ntmps5
    go_wp2
    go_ret2
    exact ⟨_, rfl, by rw [cell_of_row _ _ _ _ _ (0, 0) (hq _)]; rfl, by omega, hbb _⟩
  · have d1 : decide ((mx : Int) < 1) = false := by simp; omega
    have d2 : decide ((2147483647 : Int) < mx) = false := by simp; omega
    have d3 : decide ((mn : Int) < 1) = false := by simp; omega
    have d4 : decide ((mx : Int) < mn) = false := by simp; omega
    have d4n : decide (mx < mn) = false := by simp; omega
    go_enter Try.func5, Try.ntmps5
    go_wp2
    go_ret2
    exact ⟨_, rfl, by rw [cell_of_row _ _ _ _ _ (0, 0) (hq _)]; rfl, by omega, hbb _⟩
set_option maxRecDepth 100000 in
theorem dNew_ok (w : World) (s : ByteArray) (mx bs mn n : Nat) (hn : newB mx mn n = true) : Calls Try.prog 5 #[.agg #[.string s, U mx, U bs, U mn], I n] w fun e w' => ∃ D v, e = .returned (.tuple #[cP D, I 0]) ∧ Dk w' D v s mx bs mn 0 (List.replicate n (0, 0)) ∧ (∀ b, Cb D v b → w.heap.size < b) ∧ Below w.heap.size w w' := by
  obtain ⟨i0, hi0, hz0, hz1, hz2⟩ := info_parts dinfo
  have hmm : 1 ≤ mx ∧ mx ≤ 2147483647 ∧ 1 ≤ mn ∧ mn ≤ mx ∧ n ≤ 64 := by unfold newB mayC at hn; simp at hn; omega
  have HM : Hid (1 ≤ mx ∧ mx ≤ 2147483647 ∧ 1 ≤ mn ∧ mn ≤ mx ∧ n ≤ 64) := hmm
  have d1 : decide ((mx : Int) < 1) = false := by simp; omega
  have d2 : decide ((2147483647 : Int) < mx) = false := by simp; omega
  have d3 : decide ((mn : Int) < 1) = false := by simp; omega
  have d4 : decide ((mx : Int) < mn) = false := by simp; omega
  have d4n : decide (mx < mn) = false := by simp; omega
  have d5 : ¬ ((n : Int) < 0) := by omega
  have d6 : ¬ ((64 : Int) < n) := by omega
  have hn64 : n ≤ 64 := hmm.2.2.2.2
  clear hn hmm
  obtain ⟨ZZ, hZZ⟩ : ∃ Z : Array Value, Z = madeCells (Value.agg #[.bool false, .int .u64 0, .int .u32 0]).cells (n * 3) := ⟨_, rfl⟩
  have HZ : Hid (ZZ = madeCells (Value.agg #[.bool false, .int .u64 0, .int .u32 0]).cells (n * 3)) := hZZ
  clear hZZ
  have hmk : ∀ W : World, (Instr.makeSlice 45 (I n) (I n)).run Try.prog W = .ok (.slice (some ⟨W.heap.size, 0, none⟩) n n) (W.alloc (.cells ZZ 65)) := fun W => by
    have hmk := run_make (P := Try.prog) W 45 65 i0 _ Try.underlying45 hi0 hz0 .i64 .i64 (n : Int) (n : Int) (by omega) (Int.le_refl _) (by rw [hz2]; omega) (by omega)
    rw [hz1, Int.toNat_natCast] at hmk
    rw [HZ.out]
    exact hmk
  have hb := below_alloc w (.cells #[.string s, U mx, U bs, U mn] 24)
  have hB := heap_alloc_new w (.cells #[.string s, U mx, U bs, U mn] 24)
  have hs0 : (w.alloc (.cells #[.string s, U mx, U bs, U mn] 24)).heap.size = w.heap.size + 1 := by simp
  go_enter Try.func5, Try.ntmps5
  go_upto_region 3 with (first | fail)
  have c0 : (w.alloc (.cells #[.string s, U mx, U bs, U mn] 24)).cell? ⟨w.heap.size, 0, none⟩ = some (.string s) := by rw [cell_of_row _ _ _ _ _ (0, 0) hB]; rfl
  have c1 : (w.alloc (.cells #[.string s, U mx, U bs, U mn] 24)).cell? ⟨w.heap.size, 1, none⟩ = some (U mx) := by rw [cell_of_row _ _ _ _ _ (0, 0) hB]; rfl
  have c2 : (w.alloc (.cells #[.string s, U mx, U bs, U mn] 24)).cell? ⟨w.heap.size, 2, none⟩ = some (U bs) := by rw [cell_of_row _ _ _ _ _ (0, 0) hB]; rfl
  have c3 : (w.alloc (.cells #[.string s, U mx, U bs, U mn] 24)).cell? ⟨w.heap.size, 3, none⟩ = some (U mn) := by rw [cell_of_row _ _ _ _ _ (0, 0) hB]; rfl
  have HS : Hid (w.heap.size < (w.alloc (.cells #[.string s, U mx, U bs, U mn] 24)).heap.size ∧ Below w.heap.size w (w.alloc (.cells #[.string s, U mx, U bs, U mn] 24))) := ⟨by simp, hb⟩
  clear hb hB hs0
  generalize (w.alloc (.cells #[.string s, U mx, U bs, U mn] 24)) = w1 at *
  go_region_held_law (fun w' => w'.cell? ⟨w.heap.size, 0, none⟩ = some (.string s) ∧ w'.cell? ⟨w.heap.size, 1, none⟩ = some (U mx) ∧ w'.cell? ⟨w.heap.size, 2, none⟩ = some (U bs) ∧ w'.cell? ⟨w.heap.size, 3, none⟩ = some (U mn)) (first | exact ⟨c0, c1, c2, c3⟩ | (go_keep; done)) (fail)
  all_goals
    go_wp2
    go_ret2
    have hs1 : (w1.alloc (.cells ZZ 65)).heap.size = w1.heap.size + 1 := by simp
    have q1 := heap_alloc_new (w1.alloc (.cells ZZ 65)) (.cells (dkC s mx bs mn 0 (.slice (some ⟨w1.heap.size, 0, none⟩) n n)) 47)
    rw [hs1] at q1
    have q2 : ((w1.alloc (.cells ZZ 65)).alloc (.cells (dkC s mx bs mn 0 (.slice (some ⟨w1.heap.size, 0, none⟩) n n)) 47)).ownsRow 0 65 3 (.slice (some ⟨w1.heap.size, 0, none⟩) n n) n (flD (d0L (List.replicate n (0, 0)))) := by
      rw [d0L_rep, flD_zero, ← HZ.out]
      refine own_below (World.ownsRow_lit w1 ZZ n (Nat.zero_le _) (by unfold maxLen; omega) ?_) (below_alloc _ _)
      rw [HZ.out, size_madeCells]
    obtain ⟨m1, m2, m3, m4, m5⟩ := HM.out
    refine ⟨w1.heap.size + 1, rfl, .slice (some ⟨w1.heap.size, 0, none⟩) n n, ⟨q1, ?_, ?_, ⟨m1, m2, m3, m4, Nat.zero_le _⟩, ?_, ?_⟩, ?_, ?_⟩
    · rw [List.length_replicate]; exact q2
    · intro e; simp [Value.ownBlock] at e
    · simp; omega
    · intro x hx
      rw [List.eq_of_mem_replicate hx]
      exact ⟨Nat.zero_le _, Nat.zero_le _⟩
    · have := HS.out.1
      rintro b (rfl | e)
      · omega
      · cases e; exact this
    · have := HS.out.1
      exact HS.out.2.trans ((((Below.refl _ w1).alloc (by omega) _).alloc (by simp; omega) _).drew)
section
variable {w w' : World} {D G bs L V : Nat} {v : Value} {s : ByteArray} {al : List Alm}
theorem Dk.setV (h : Dk w D v s G bs L V al) (V2 : Nat) (hV : V2 ≤ G) : Dk (w.setCell ⟨D, 5, none⟩ (U V2)) D v s G bs L V2 al := by
  have hf : Fz (fun b => b = D) w (w.setCell ⟨D, 5, none⟩ (U V2)) := (Fz.refl (fun b => b = D) w).set (.inl rfl) 5 (U V2)
  exact ⟨heap_setCell_same w D 5 _ _ (U V2) h.o, hf.own h.p (fun g e e2 => h.d (by rw [e, e2])), h.d, ⟨h.b.1, h.b.2.1, h.b.2.2.1, h.b.2.2.2.1, hV⟩, h.n, h.x⟩
set_option maxRecDepth 100000 in
theorem dReset_any (h : Dk w D v s G bs L V al) : Calls Try.prog 30 #[cP D] w fun e w' => e = .returned (.tuple #[]) ∧ (∃ v', Dk w' D v' s G bs L 0 (List.replicate al.length (0, 0)) ∧ ∀ b, Cb D v' b → b = D ∨ w.heap.size ≤ b) ∧ Fz (fun b => b = D) w w' := by
  obtain ⟨i0, hi0, hz0, hz1, hz2⟩ := info_parts dinfo
  have hn64 := h.n
  obtain ⟨c0, c1, c2, c3, c4⟩ := h.cells
  have fz := h.frz 5
  have h1 : Dk (w.setCell ⟨D, 5, none⟩ (U 0)) D v s G bs L 0 al := h.setV 0 (Nat.zero_le _)
  have f1 : Fz (fun b => b = D) w (w.setCell ⟨D, 5, none⟩ (U 0)) := (Fz.refl (fun b => b = D) w).set (.inl rfl) 5 (U 0)
  obtain ⟨e0, e1, e2, e3, e4⟩ := h1.cells
  obtain ⟨a, c, rfl⟩ := own_sl h.p
  have hD : D < w.heap.size := heap_lt h.o
  have hs1 : (w.setCell ⟨D, 5, none⟩ (U 0)).heap.size = w.heap.size := by simp
  obtain ⟨w2, hmk, ho2, hg2⟩ := run_make_full (P := Try.prog) (w.setCell ⟨D, 5, none⟩ (U 0)) 0 45 65 i0 _ 3 Try.underlying45 hi0 hz0 hz1 .i64 .i64 al.length (by rw [hz2]; omega) (by unfold maxLen; omega) (Nat.zero_le _)
  rw [hs1] at hmk ho2
  have f2 : Fz (fun b => b = D) w w2 := f1.trans (fz_none hg2 _)
  have o2 := (fz_none hg2 (fun _ => False)).heap h1.o id
  have z6 : w2.cell? ⟨D, 6, none⟩ = some (.slice a al.length c) := by rw [cell_of_row w2 D _ _ _ (0, 0) o2]; rfl
  have z7 : w2.frozen? ⟨D, 6, none⟩ = false := frozen_of_row w2 D 6 _ _ o2
  have f3 : Fz (fun b => b = D) w2 (w2.setCell ⟨D, 6, none⟩ (.slice (some ⟨w.heap.size, 0, none⟩) al.length al.length)) := (Fz.refl (fun b => b = D) w2).set (.inl rfl) 6 _
  have HR : Hid ((∃ v', Dk (w2.setCell ⟨D, 6, none⟩ (.slice (some ⟨w.heap.size, 0, none⟩) al.length al.length)) D v' s G bs L 0 (List.replicate al.length (0, 0)) ∧ ∀ b, Cb D v' b → b = D ∨ w.heap.size ≤ b) ∧ Fz (fun b => b = D) w (w2.setCell ⟨D, 6, none⟩ (.slice (some ⟨w.heap.size, 0, none⟩) al.length al.length))) := by
    refine ⟨⟨.slice (some ⟨w.heap.size, 0, none⟩) al.length al.length, ⟨heap_setCell_same w2 D 6 _ _ _ o2, ?_, ?_, h1.b, by simpa using h.n, fun x hx => ?_⟩, ?_⟩, f2.trans f3⟩
    · rw [List.length_replicate, d0L_rep, flD_zero]
      exact f3.own ho2 (fun g e e2 => by cases e; exact absurd (show w.heap.size = D from e2) (by omega))
    · intro e; simp [Value.ownBlock] at e; omega
    · rw [List.eq_of_mem_replicate hx]
      exact ⟨Nat.zero_le _, Nat.zero_le _⟩
    · rintro b (rfl | e)
      · exact .inl rfl
      · cases e; exact .inr (Nat.le_refl _)
  clear ho2 hg2 f1 f2 f3 h1 h o2
  go_enter Try.func30, Try.ntmps30
  go_wp2
  refine bodyPost_end (v := .tuple #[]) (by simp [results, Try.results30, go_sem]) rfl ?_
  exact ⟨rfl, HR.out.1, HR.out.2⟩
end
end Go.Proofs.Ytpoekphebmonnab
