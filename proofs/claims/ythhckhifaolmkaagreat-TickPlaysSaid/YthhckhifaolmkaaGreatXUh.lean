import Derived.Test.YthhckhifaolmkaaGreatXUe
namespace Go.Proofs.YthhckhifaolmkaaGreat.Cl
open Go.RowKit Go.Shelf Go.Sort
set_option linter.unusedVariables false
set_option linter.unusedSimpArgs false

/-! ### New, Reset, Copy -/
def mayC (mx mn : Nat) : Bool := decide (1 ≤ mx) && (decide (mx ≤ 2147483647) && (decide (1 ≤ mn) && decide (mn ≤ mx)))
theorem mayCount_any (w : World) (s : ByteArray) (mx bs mn : Nat) : Calls Tryz.prog 114 #[.agg #[.string s, U mx, U bs, U mn]] w fun e w' => e = .returned (.bool (mayC mx mn)) ∧ Below w.heap.size w w' := by
  have hb := fun o => below_alloc w o
  unfold mayC
  by_cases h0 : 1 ≤ mx
  · have h0I : (1 : Int) ≤ mx := by omega
    by_cases h1 : mx ≤ 2147483647
    · have h1I : (mx : Int) ≤ 2147483647 := by omega
      by_cases h2 : 1 ≤ mn
      · have h2I : (1 : Int) ≤ mn := by omega
        by_cases h3 : mn ≤ mx
        · have h3I : (mn : Int) ≤ mx := by omega
          rw [show (decide (1 ≤ mx) && (decide (mx ≤ 2147483647) && (decide (1 ≤ mn) && decide (mn ≤ mx)))) = true by simp [h0, h1, h2, h3]]
          go_enter Tryz.func114, Tryz.ntmps114
          go_wp2
          go_ret
          exact ⟨rfl, hb _⟩
        · have h3I : ¬ (mn : Int) ≤ mx := by omega
          have h3N : decide (mn ≤ mx) = false := by simpa using h3
          rw [show (decide (1 ≤ mx) && (decide (mx ≤ 2147483647) && (decide (1 ≤ mn) && decide (mn ≤ mx)))) = false by simp [h0, h1, h2, h3]]
          go_enter Tryz.func114, Tryz.ntmps114
          go_wp2
          go_ret
          exact ⟨rfl, hb _⟩
      · have h2I : ¬ (1 : Int) ≤ mn := by omega
        have h2N : decide (1 ≤ mn) = false := by simpa using h2
        rw [show (decide (1 ≤ mx) && (decide (mx ≤ 2147483647) && (decide (1 ≤ mn) && decide (mn ≤ mx)))) = false by simp [h0, h1, h2]]
        go_enter Tryz.func114, Tryz.ntmps114
        go_wp2
        go_ret
        exact ⟨rfl, hb _⟩
    · have h1I : ¬ (mx : Int) ≤ 2147483647 := by omega
      have h1N : decide (mx ≤ 2147483647) = false := by simpa using h1
      rw [show (decide (1 ≤ mx) && (decide (mx ≤ 2147483647) && (decide (1 ≤ mn) && decide (mn ≤ mx)))) = false by simp [h0, h1]]
      go_enter Tryz.func114, Tryz.ntmps114
      go_wp2
      go_ret
      exact ⟨rfl, hb _⟩
  · have h0I : ¬ (1 : Int) ≤ mx := by omega
    have h0N : decide (1 ≤ mx) = false := by simpa using h0
    rw [show (decide (1 ≤ mx) && (decide (mx ≤ 2147483647) && (decide (1 ≤ mn) && decide (mn ≤ mx)))) = false by simp [h0]]
    go_enter Tryz.func114, Tryz.ntmps114
    go_wp2
    go_ret
    exact ⟨rfl, hb _⟩
def newB (mx mn : Nat) (n : Int) : Bool := mayC mx mn && (decide (0 ≤ n) && decide (n ≤ 64))
theorem New_no (w : World) (s : ByteArray) (mx bs mn : Nat) (n : Int) (hn : newB mx mn n = false) : Calls Tryz.prog 69 #[.agg #[.string s, U mx, U bs, U mn], I n] w fun e w' => e = .returned (.tuple #[.pointer none, I 160]) ∧ Below w.heap.size w w' := by
  have hM := fun W => mayCount_any W s mx bs mn
  have hb := fun o => below_alloc w o
  unfold newB at hn
  cases hm : mayC mx mn with
  | false =>
    rw [hm] at hM
    clear hn hm
    go_enter Tryz.func69, Tryz.ntmps69
    go_wp2_with (first | (go_at_call 114; refine (hM _).mono ?_; rintro e w1 ⟨rfl, b1⟩))
    go_ret2
    exact ⟨rfl, (hb _).trans (b1.mono (hb _).size)⟩
  | true =>
    rw [hm] at hM hn
    clear hm
    by_cases h0 : n < 0
    · clear hn
      go_enter Tryz.func69, Tryz.ntmps69
      go_wp2_with (first | (go_at_call 114; refine (hM _).mono ?_; rintro e w1 ⟨rfl, b1⟩))
      go_ret2
      exact ⟨rfl, (hb _).trans (b1.mono (hb _).size)⟩
    · have h1 : 64 < n := by simp at hn; omega
      clear hn
      go_enter Tryz.func69, Tryz.ntmps69
      go_wp2_with (first | (go_at_call 114; refine (hM _).mono ?_; rintro e w1 ⟨rfl, b1⟩))
      go_ret2
      exact ⟨rfl, (hb _).trans (b1.mono (hb _).size)⟩
set_option maxRecDepth 100000 in
theorem New_ok (w : World) (s : ByteArray) (mx bs mn n : Nat) (hn : newB mx mn n = true) : Calls Tryz.prog 69 #[.agg #[.string s, U mx, U bs, U mn], I n] w fun e w' => ∃ B v, e = .returned (.tuple #[cP B, I 0]) ∧ Ck w' B v mx mn 0 (List.replicate n (0, 0)) ∧ (∀ b, Cb B v b → w.heap.size < b) ∧ Below w.heap.size w w' := by
  obtain ⟨i0, hi0, hz0, hz1, hz2⟩ := info_parts sinfo
  have hM := fun W => mayCount_any W s mx bs mn
  have hb := below_alloc w (.cells #[.string s, U mx, U bs, U mn] 140)
  have hB := heap_alloc_new w (.cells #[.string s, U mx, U bs, U mn] 140)
  have hlt : w.heap.size < (w.alloc (.cells #[.string s, U mx, U bs, U mn] 140)).heap.size := by simp
  unfold newB at hn
  have hm : mayC mx mn = true := by cases h : mayC mx mn <;> simp_all
  have h1 : ¬ ((n : Int) < 0) := by omega
  have h2 : ¬ ((64 : Int) < n) := by rw [hm] at hn; simp at hn; omega
  have HM : Hid (mayC mx mn = true) := hm
  rw [hm] at hM
  clear hn hm
  obtain ⟨ZZ, hZZ⟩ : ∃ Z : Array Value, Z = madeCells (Value.agg #[.int .u64 0, .int .u32 0]).cells (n * 2) := ⟨_, rfl⟩
  have HZ : Hid (ZZ = madeCells (Value.agg #[.int .u64 0, .int .u32 0]).cells (n * 2)) := hZZ
  clear hZZ
  have hmk : ∀ W : World, (Instr.makeSlice 156 (I n) (I n)).run Tryz.prog W = .ok (.slice (some ⟨W.heap.size, 0, none⟩) n n) (W.alloc (.cells ZZ 147)) := fun W => by
    have hmk := run_make (P := Tryz.prog) W 156 147 i0 _ Tryz.underlying156 hi0 hz0 .i64 .i64 (n : Int) (n : Int) (by omega) (Int.le_refl _) (by rw [hz2]; omega) (by omega)
    rw [hz1, Int.toNat_natCast] at hmk
    rw [HZ.out]
    exact hmk
  go_enter Tryz.func69, Tryz.ntmps69
  go_wp2_with (first | (go_at_call 114; refine (hM _).mono ?_; rintro e w1 ⟨rfl, b1⟩))
  have b2 := hb.trans (b1.mono hb.size)
  have hq := (b1.block _ hlt).trans hB
  have c1 : w1.cell? ⟨w.heap.size, 1, none⟩ = some (U mx) := by rw [cell_of_row _ _ _ _ _ (0, 0) hq]; rfl
  have c3 : w1.cell? ⟨w.heap.size, 3, none⟩ = some (U mn) := by rw [cell_of_row _ _ _ _ _ (0, 0) hq]; rfl
  have hlt2 : w.heap.size < w1.heap.size := by have := b1.size; omega
  clear hM hb hB hlt b1 hq
  go_region_held_law (fun w' => w'.cell? ⟨w.heap.size, 1, none⟩ = some (U mx) ∧ w'.cell? ⟨w.heap.size, 3, none⟩ = some (U mn)) (first | exact ⟨c1, c3⟩ | (go_keep; done)) (fail)
  all_goals
    go_wp2
    go_ret2
    have hs1 : (w1.alloc (.cells ZZ 147)).heap.size = w1.heap.size + 1 := by simp
    have q1 := heap_alloc_new (w1.alloc (.cells ZZ 147)) (.cells #[U mx, U mn, U 0, .slice (some ⟨w1.heap.size, 0, none⟩) n n] 158)
    rw [hs1] at q1
    have q2 : ((w1.alloc (.cells ZZ 147)).alloc (.cells #[U mx, U mn, U 0, .slice (some ⟨w1.heap.size, 0, none⟩) n n] 158)).ownsRow 0 147 2 (.slice (some ⟨w1.heap.size, 0, none⟩) n n) n (flP (List.replicate n (0, 0))) := by
      rw [flP_zero, ← HZ.out]
      refine own_below (World.ownsRow_lit w1 ZZ n (Nat.zero_le _) (by unfold maxLen; omega) ?_) (below_alloc _ _)
      rw [HZ.out, size_madeCells]
    have hmm : 1 ≤ mx ∧ mx ≤ 2147483647 ∧ 1 ≤ mn ∧ mn ≤ mx := by have := HM.out; unfold mayC at this; simpa using this
    refine ⟨w1.heap.size + 1, .slice (some ⟨w1.heap.size, 0, none⟩) n n, rfl, ⟨q1, ?_, ?_, ⟨hmm.1, hmm.2.1, hmm.2.2.1, hmm.2.2.2, Nat.zero_le _⟩, ?_, ?_, ⟨_, _, by rw [List.length_replicate]⟩⟩, ?_, ?_⟩
    · rw [List.length_replicate]; exact q2
    · intro e; simp [Value.ownBlock] at e
    · simp; omega
    · intro x hx
      rw [List.eq_of_mem_replicate hx]
      exact ⟨Nat.zero_le _, Nat.zero_le _⟩
    · rintro b (rfl | e)
      · omega
      · cases e; exact hlt2
    · exact b2.trans ((((Below.refl _ w1).alloc (by omega) _).alloc (by simp; omega) _).drew)
theorem Ck.setV {w : World} {B G L V : Nat} {v : Value} {al : List Alm} (h : Ck w B v G L V al) (V2 : Nat) (hV : V2 ≤ G) : Ck (w.setCell ⟨B, 2, none⟩ (U V2)) B v G L V2 al := by
  have hf : Fz (fun b => b = B) w (w.setCell ⟨B, 2, none⟩ (U V2)) := (Fz.refl (fun b => b = B) w).set (.inl rfl) 2 (U V2)
  exact ⟨heap_setCell_same w B 2 _ _ (U V2) h.o, hf.own h.p (fun g e e2 => h.d (by rw [e, e2])), h.d, ⟨h.b.1, h.b.2.1, h.b.2.2.1, h.b.2.2.2.1, hV⟩, h.n, h.x, h.a⟩
section
variable {w w' : World} {B G L V : Nat} {v : Value} {al : List Alm}
set_option maxRecDepth 100000 in
theorem Copy_any (h : Ck w B v G L V al) : Calls Tryz.prog 83 #[cP B] w fun e w' => ∃ B2 v2, e = .returned (cP B2) ∧ Ck w' B2 v2 G L V al ∧ (∀ b, Cb B2 v2 b → w.heap.size ≤ b) ∧ Below w.heap.size w w' := by
  obtain ⟨c0, c1, c2, c3⟩ := h.cells
  have hN := none_any h
  have hd := h.below ((Below.refl _ w).drew)
  have hC := copied_any al.length rfl h.n hd.p
  have HH : Hid (Ck w B v G L V al) := h
  have hl := h.n
  obtain ⟨a, c, rfl⟩ := own_sl h.p
  have hsd : w.drew.heap.size = w.heap.size := rfl
  rw [hsd] at hC
  clear h hd hsd
  go_enter Tryz.func83, Tryz.ntmps83
  go_wp2_with (first | (go_at_call 85; refine hN.mono ?_; rintro e w1 ⟨rfl, rfl⟩))
  go_region_held_law (fun w' => w'.cell? ⟨B, 0, none⟩ = some (U G) ∧ w'.cell? ⟨B, 1, none⟩ = some (U L) ∧ w'.cell? ⟨B, 2, none⟩ = some (U V) ∧ w'.cell? ⟨B, 3, none⟩ = some (.slice a al.length c)) (first | exact ⟨c0, c1, c2, c3⟩ | exact ⟨k0, k1, k2, k3⟩ | (go_keep; done)) (first | (go_at_call 126; refine hC.mono ?_; clear hC; rintro e w3 ⟨rfl, o3, b3⟩; have H3 : Hid (w3.ownsRow w.heap.size 147 2 (.slice (some ⟨w.heap.size, 0, none⟩) al.length al.length) al.length (flP al) ∧ Below w.heap.size w w3) := ⟨o3, ((Below.refl _ w).drew).trans b3⟩; clear o3 b3; obtain ⟨k0, k1, k2, k3⟩ := (HH.out.below H3.out.2).cells))
  all_goals
    go_wp2
    go_ret
    have hlt : w.heap.size < w3.heap.size := (H3.out.1.lt _ rfl).2
    refine ⟨w3.heap.size, _, rfl, ⟨heap_alloc_new w3 _, own_base (own_below H3.out.1 (below_alloc _ _)) (Nat.zero_le _), ?_, HH.out.b, HH.out.n, HH.out.x, ⟨_, _, rfl⟩⟩, ?_, H3.out.2.trans (((Below.refl _ w3).alloc (by omega) _))⟩
    · intro e; simp [Value.ownBlock] at e; omega
    · rintro b (rfl | e)
      · omega
      · cases e; exact Nat.le_refl _
end
end Go.Proofs.YthhckhifaolmkaaGreat.Cl

namespace Go.Proofs.YthhckhifaolmkaaGreat.Cl
open Go.RowKit Go.Shelf Go.Sort
set_option linter.unusedVariables false
set_option linter.unusedSimpArgs false

/-! ### Ticks that go by -/
attribute [local go_sem 5000] min_two
theorem row_at {w : World} {b g n c k : Nat} {al : List Alm} {x : Alm} (h : w.ownsRow b 147 2 (.slice (some ⟨g, 0, none⟩) n c) n (flP al)) (hn : n = al.length) (hx : al[k]? = some x) : w.cell? ⟨g, k * 2, none⟩ = some (Q x.1) ∧ w.cell? ⟨g, k * 2 + 1, none⟩ = some (U x.2) ∧ ∀ j, w.frozen? ⟨g, j, none⟩ = false := by
  have hk : k < al.length := (List.getElem?_eq_some_iff.1 hx).1
  obtain ⟨e1, e2⟩ := flP_at hx
  exact ⟨by rw [h.cellAt _ (by omega)]; exact e1, by rw [h.cellAt _ (by omega)]; exact e2, h.frozenAt⟩
/-- one alarm: so many ticks go by -/
theorem spass_any (w : World) (b g n c k : Nat) (al : List Alm) (x : Alm) (t : Nat) (h : w.ownsRow b 147 2 (.slice (some ⟨g, 0, none⟩) n c) n (flP al)) (hn : n = al.length) (hx : al[k]? = some x) (ht : x.1 ≠ 0 → t ≤ x.1) (h1 : x.1 < 18446744073709551616) (h2 : x.2 < 4294967296) :
    Calls Tryz.prog 147 #[.pointer (some ⟨g, k * 2, none⟩), Q t] w fun e w' => e = .returned (.bool (dueA t x)) ∧ w'.ownsRow b 147 2 (.slice (some ⟨g, 0, none⟩) n c) n (flP (al.set k (psA t x))) ∧ Fz (fun b => b = g) w w' := by
  obtain ⟨c0, c1, fz⟩ := row_at h hn hx
  have hS := snone_any w g (k * 2) x.1 c0
  by_cases hz : x.1 = 0
  · rw [show decide (x.1 = 0) = true by simpa using hz] at hS
    rw [show dueA t x = false by simp [dueA, hz], show psA t x = x by simp [psA, hz], set_self hx]
    have H : Hid (w.ownsRow b 147 2 (.slice (some ⟨g, 0, none⟩) n c) n (flP al)) := h
    clear ht h1 hz h hn hx
    go_enter Tryz.func147, Tryz.ntmps147
    go_wp2_with (first | (go_at_call 118; refine hS.mono ?_; rintro e w1 ⟨rfl, rfl⟩))
    go_ret
    exact ⟨rfl, H.out, Fz.refl _ _⟩
  · rw [show decide (x.1 = 0) = false by simpa using hz] at hS
    have htx := ht hz
    clear ht
    by_cases hd : x.1 - t = 0
    · obtain rfl : t = x.1 := by omega
      rw [show dueA x.1 x = true by simp [dueA, hz], show psA x.1 x = (x.2, x.2) by simp [psA, hz]]
      have r1 : (w.setCell ⟨g, k * 2, none⟩ (Q 0)).ownsRow b 147 2 (.slice (some ⟨g, 0, none⟩) n c) n (flP (al.set k (0, x.2))) := row_left hx h 0
      have hk : k < al.length := (List.getElem?_eq_some_iff.1 hx).1
      have r2 := row_left (k := k) (x := (0, x.2)) (by rw [List.getElem?_set_self hk]) r1 x.2
      rw [List.set_set] at r2
      obtain ⟨d0, d1, fz1⟩ := row_at (k := k) (x := (0, x.2)) r1 (by simpa using hn) (by rw [List.getElem?_set_self hk])
      have d0' : (w.setCell ⟨g, k * 2, none⟩ (Q 0)).cell? ⟨g, k * 2, none⟩ = some (Q 0) := d0
      have HS : Hid (((w.setCell ⟨g, k * 2, none⟩ (Q 0)).setCell ⟨g, k * 2, none⟩ (Q x.2)).ownsRow b 147 2 (.slice (some ⟨g, 0, none⟩) n c) n (flP (al.set k (x.2, x.2)))) := r2
      clear hd hz htx r1 r2 h hn hx hk d0
      go_enter Tryz.func147, Tryz.ntmps147
      go_wp2_with (first | (go_at_call 118; refine hS.mono ?_; rintro e w1 ⟨rfl, rfl⟩))
      go_ret
      exact ⟨rfl, HS.out, fz_set2 _ _ _ _ _ _⟩
    · rw [show dueA t x = false by simp only [dueA, hd]; simp, show psA t x = (x.1 - t, x.2) by simp [psA, hz, hd]]
      have e1 : (x.1 : Int) - t = ((x.1 - t : Nat) : Int) := by omega
      have r1 := row_left hx h (x.1 - t)
      rw [← e1] at r1
      have d0 : (w.setCell ⟨g, k * 2, none⟩ (Q ((x.1 : Int) - t))).cell? ⟨g, k * 2, none⟩ = some (Q ((x.1 : Int) - t)) := cell_set_on c0
      have hp : (0 : Int) < (x.1 : Int) - t := by omega
      have HS : Hid ((w.setCell ⟨g, k * 2, none⟩ (Q ((x.1 : Int) - t))).ownsRow b 147 2 (.slice (some ⟨g, 0, none⟩) n c) n (flP (al.set k (x.1 - t, x.2)))) := r1
      clear hd hz e1 r1 h hn hx
      go_enter Tryz.func147, Tryz.ntmps147
      go_wp2_with (first | (go_at_call 118; refine hS.mono ?_; rintro e w1 ⟨rfl, rfl⟩))
      go_ret
      exact ⟨rfl, HS.out, (Fz.refl (fun b => b = g) w).set (.inl rfl) _ _⟩
def inL (l : List Nat) : List Value := l.map fun (i : Nat) => I (i : Int)
theorem cell_one_new (w : World) (v : Value) (t : TypeId) : ∀ (j : Nat) (u : Value), [v][j]? = some u → (w.alloc (.cells #[v] t)).cell? ((⟨w.heap.size, 0, none⟩ : Addr).add j) = some u := by
  intro j u hu
  match j, hu with
  | 0, hu => cases hu; rw [addr_add]; rw [cell_of_row _ _ _ _ _ (0, 0) (heap_alloc_new w _)]; rfl
set_option maxHeartbeats 4000000 in
set_option maxRecDepth 100000 in
theorem pass_any (w : World) (b g n c : Nat) (al : List Alm) (t G : Nat) (h : w.ownsRow b 147 2 (.slice (some ⟨g, 0, none⟩) n c) n (flP al)) (hn : n = al.length) (hl : al.length ≤ 64) (hG : G ≤ 2147483647) (hx : AlOK G al) (ht : ∀ x ∈ al, x.1 ≠ 0 → t ≤ x.1) :
    Calls Tryz.prog 116 #[.slice (some ⟨g, 0, none⟩) n c, Q t] w fun e w' => ∃ v, e = .returned v ∧ w'.ownsRow w.heap.size 3 1 v (dueF t 0 al).length (inL (dueF t 0 al)) ∧ w'.ownsRow b 147 2 (.slice (some ⟨g, 0, none⟩) n c) n (flP (al.map (psA t))) ∧ Fz (fun b => b = g) w w' := by
  obtain ⟨i0, hi0, hz0, hz1, hz2⟩ := info_parts iinfo
  have hgw : g < w.heap.size := (h.lt g rfl).2
  have HI : Hid (w.ownsRow w.heap.size 3 1 (.slice none 0 0) (dueF t 0 (al.take 0)).length (inL (dueF t 0 (al.take 0))) ∧ w.ownsRow b 147 2 (.slice (some ⟨g, 0, none⟩) n c) n (flP (mixL t al 0)) ∧ Fz (fun b => b = g) w w) := ⟨by simpa [dueF, inL] using World.ownsRow_nil w _ _ _, by rw [mixL_zero]; exact h, Fz.refl _ _⟩
  have HX : Hid (∀ (k : Nat) (x : Alm), al[k]? = some x → (x.1 ≠ 0 → t ≤ x.1) ∧ x.1 < 18446744073709551616 ∧ x.2 < 4294967296) := fun k x hk => by
    have hm := List.mem_of_getElem? hk
    have := hx x hm
    exact ⟨ht x hm, by omega, by omega⟩
  have HN : Hid (n = al.length) := hn
  have hn64 : n ≤ 64 := by omega
  clear h ht hx hG hn
  go_enter Tryz.func116, Tryz.ntmps116
  go_wp2
  go_loopw [4, 5, 8] (fun v4 _ v8 wr => ∃ k : Nat, k ≤ n ∧ v8 = I k ∧ Hid (wr.ownsRow w.heap.size 3 1 v4 (dueF t 0 (al.take k)).length (inL (dueF t 0 (al.take k))) ∧ wr.ownsRow b 147 2 (.slice (some ⟨g, 0, none⟩) n c) n (flP (mixL t al k)) ∧ Fz (fun b => b = g) w wr)) (fun _ _ v8 _ => n - (intOf v8).toNat)
  case atStart => exact ⟨0, by omega, rfl, HI.out⟩
  case round =>
    clear HI
    obtain ⟨k, hk, rfl, HJ⟩ := hrel
    by_cases hlt : k < n
    · have hltI : (k : Int) < n := by omega
      obtain ⟨x, hx⟩ : ∃ x, al[k]? = some x := ⟨_, List.getElem?_eq_getElem (by rw [← HN.out]; exact hlt)⟩
      obtain ⟨q1, q2, q3⟩ := HX.out k x hx
      have hS := spass_any wr b g n c k (mixL t al k) x t HJ.out.2.1 (by rw [mixL_len]; exact HN.out) (mixL_at hx) q1 q2 q3
      rw [← mixL_succ hx] at hS
      have HD : Hid (dueF t 0 (al.take (k + 1)) = dueF t 0 (al.take k) ++ (if dueA t x then [k] else [])) := by
        show _ = _
        rw [take_snoc hx, dueF_snoc, List.length_take, show min k al.length = k by have := HN.out; omega, Nat.zero_add]
      have H1 : Hid (wr.ownsRow w.heap.size 3 1 u4 (dueF t 0 (al.take k)).length (inL (dueF t 0 (al.take k))) ∧ Fz (fun b => b = g) w wr) := ⟨HJ.out.1, HJ.out.2.2⟩
      have hlen : (dueF t 0 (al.take k)).length ≤ 64 := by
        have := dueF_len (t := t) (al.take k) 0
        rw [List.length_take] at this
        omega
      clear HJ q1 q2 q3 hx
      cases hd : dueA t x with
      | false =>
        rw [hd] at hS HD
        have HD2 : Hid (dueF t 0 (al.take (k + 1)) = dueF t 0 (al.take k)) := by show _ = _; rw [HD.out]; simp
        clear HD hd
        go_wp2_with (first | (go_at_call 147; refine hS.mono ?_; clear hS; rintro e w1 ⟨rfl, o1, f1⟩; have H2 : Hid (w1.ownsRow b 147 2 (.slice (some ⟨g, 0, none⟩) n c) n (flP (mixL t al (k + 1))) ∧ Fz (fun b => b = g) wr w1) := ⟨o1, f1⟩; clear o1 f1))
        go_roundw
        case rel => exact ⟨k + 1, by omega, by go_num, by rw [HD2.out]; exact H2.out.2.own H1.out.1 (fun y e e2 => by have := (H1.out.1.lt y e).1; omega), H2.out.1, H1.out.2.trans H2.out.2⟩
        case measure => simp [intOf]; omega
      | true =>
        rw [hd] at hS HD
        have HD2 : Hid (dueF t 0 (al.take (k + 1)) = dueF t 0 (al.take k) ++ [k]) := by show _ = _; rw [HD.out]; simp
        clear HD hd
        go_wp2_with (first
          | (go_at_call 147; refine hS.mono ?_; clear hS; rintro e w1 ⟨rfl, o1, f1⟩; have H2 : Hid (w1.ownsRow b 147 2 (.slice (some ⟨g, 0, none⟩) n c) n (flP (mixL t al (k + 1))) ∧ Fz (fun b => b = g) wr w1) := ⟨o1, f1⟩; have hO2 := (f1.own H1.out.1 (fun y e e2 => by have := (H1.out.1.lt y e).1; omega)).alloc (.cells #[I (k : Int)] 3); have hsz : w.heap.size ≤ w1.heap.size := Nat.le_trans H1.out.2.size f1.size; clear o1 f1)
          | (at_builtin; refine wpList_append_own _ rfl (.tmp 16) (.tmp 18) 40 rfl w.heap.size 3 i0 (.int .i64 0) 1 8 Tryz.underlying40 hi0 hz0 hz1 hz2 rfl (by decide) _ _ _ rfl hO2 ⟨w1.heap.size, 0, none⟩ 1 1 [I (k : Int)] rfl rfl (cell_one_new _ _ _) (by intro u hu; simp at hu; subst hu; rfl) (by unfold maxLen; omega) (by omega) (by simp; omega) ?_))
        intro v6 w6 ho6 hg6 _
        have f6 : Fz (fun b => b = g) w w6 := ((H1.out.2.trans H2.out.2).alloc _).step (N := fun x => u4.ownBlock = some x) ⟨hg6.os, hg6.tape, hg6.output, hg6.size, fun i hi hne => hg6.block i hi (fun e => hne e.symm)⟩ (fun x e => .inr (H1.out.1.lt x e).1)
        have o6 := (H2.out.1.alloc (.cells #[I (k : Int)] 3)).kept hg6 (.inr (fun e => by have := (H1.out.1.lt g e.symm).1; omega))
        have H6 : Hid (w6.ownsRow w.heap.size 3 1 v6 (dueF t 0 (al.take (k + 1))).length (inL (dueF t 0 (al.take (k + 1)))) ∧ w6.ownsRow b 147 2 (.slice (some ⟨g, 0, none⟩) n c) n (flP (mixL t al (k + 1))) ∧ Fz (fun b => b = g) w w6) := by
          refine ⟨?_, o6, f6⟩
          rw [HD2.out, List.length_append]
          unfold inL
          rw [List.map_append]
          exact ho6
        clear ho6 hg6 f6 o6 hO2 H1 H2 HD2
        go_wp2
        go_roundw
        case rel => exact ⟨k + 1, by omega, by go_num, H6.out⟩
        case measure => simp [intOf]; omega
    · obtain rfl : k = n := by omega
      have hge : ¬ ((k : Int) < k) := by omega
      go_wp2
      go_ret
      refine ⟨_, rfl, ?_, ?_, HJ.out.2.2⟩
      · have := HJ.out.1
        rw [List.take_of_length_le (by rw [← HN.out]; exact Nat.le_refl _)] at this
        exact this
      · have := HJ.out.2.1
        rw [HN.out, mixL_all, ← HN.out] at this
        exact this
end Go.Proofs.YthhckhifaolmkaaGreat.Cl

namespace Go.Proofs.YthhckhifaolmkaaGreat.Cl
open Go.RowKit Go.Shelf Go.Sort
set_option linter.unusedVariables false
set_option linter.unusedSimpArgs false

attribute [local go_sem 5000] min_two
theorem soon_bound (l : List Alm) : soonL l ≤ 18446744073709551615 := soon_ge l nvr
section
variable {w w' : World} {B G L V : Nat} {v : Value} {al : List Alm}
theorem psA_ok {G t : Nat} {x : Alm} (h : x.1 ≤ G + 1 ∧ x.2 ≤ G) : (psA t x).1 ≤ G + 1 ∧ (psA t x).2 ≤ G := by
  unfold psA
  split
  · exact h
  · split
    · exact ⟨by omega, h.2⟩
    · exact ⟨by omega, h.2⟩
theorem AlOK.ps {G : Nat} {al : List Alm} (h : AlOK G al) (t : Nat) : AlOK G (al.map (psA t)) := fun x hx => by
  obtain ⟨y, hy, rfl⟩ := List.mem_map.1 hx
  exact psA_ok (h y hy)
set_option maxHeartbeats 4000000 in
set_option maxRecDepth 100000 in
theorem Tick_any (h : Ck w B v G L V al) : Calls Tryz.prog 70 #[cP B] w fun e w' => ∃ u, e = .returned u ∧ w'.ownsRow w.heap.size 3 1 u (dueF 1 0 al).length (inL (dueF 1 0 al)) ∧ Ck w' B v G L (aftN G V 1) (al.map (psA 1)) ∧ Fz (Cb B v) w w' := by
  obtain ⟨c0, c1, c2, c3⟩ := h.cells
  have hb := h.b
  have hN := none_any h
  have hX := fun W => Next_any W G V (by omega) (by omega)
  have HH : Hid (Ck w B v G L V al) := h
  have hV2 := aftN_le G V 1
  generalize hVV : aftN G V 1 = V2 at *
  have fz := h.frz 2
  clear hVV
  obtain ⟨g, c, rfl⟩ := h.a
  clear h
  go_enter Tryz.func70, Tryz.ntmps70
  go_wp2_with (first | (go_at_call 85; refine hN.mono ?_; rintro e w1 ⟨rfl, rfl⟩))
  go_region_with (first | (go_at_call 115; refine (hX _).mono ?_; rintro e w3 ⟨rfl, b3⟩; have H3 : Hid (Below w.heap.size w w3) := ((Below.refl _ w).drew).trans b3; clear b3; obtain ⟨k0, k1, k2, k3⟩ := (HH.out.below H3.out).cells; have fz3 := (HH.out.below H3.out).frz 2))
  all_goals
    have K4 := (HH.out.below H3.out).setV V2 hV2
    have f4 : Fz (Cb B (.slice (some ⟨g, 0, none⟩) al.length c)) w (w3.setCell ⟨B, 2, none⟩ (U V2)) := (Fz.of_below H3.out).set (.inl (.inl rfl)) 2 (U V2)
    obtain ⟨m0, m1, m2, m3⟩ := K4.cells
    have hP := pass_any (w3.setCell ⟨B, 2, none⟩ (U V2)) 0 g al.length c al 1 G K4.p rfl K4.n (by omega) K4.x (fun x hx h0 => by omega)
    have HK : Hid (Ck (w3.setCell ⟨B, 2, none⟩ (U V2)) B (.slice (some ⟨g, 0, none⟩) al.length c) G L V2 al ∧ Fz (Cb B (.slice (some ⟨g, 0, none⟩) al.length c)) w (w3.setCell ⟨B, 2, none⟩ (U V2))) := ⟨K4, f4⟩
    clear K4 f4 hX hN c0 c1 c2 c3 fz k0 k1 k2 k3 fz3
    generalize w3.setCell ⟨B, 2, none⟩ (U V2) = w4 at *
    go_wp2_with (first | (go_at_call 116; refine hP.mono ?_; clear hP; rintro e w5 ⟨u, rfl, o5, p5, f5⟩))
    go_ret
    have hgB : B ≠ g := fun e => HK.out.1.d (by rw [e]; rfl)
    refine ⟨u, rfl, own_base o5 HK.out.2.size, ⟨f5.heap HK.out.1.o hgB, by rw [List.length_map]; exact p5, HK.out.1.d, HK.out.1.b, by rw [List.length_map]; exact HK.out.1.n, HK.out.1.x.ps 1, by rw [List.length_map]; exact HK.out.1.a⟩, HK.out.2.trans (f5.mono (by rintro b rfl; exact .inr rfl))⟩
end
end Go.Proofs.YthhckhifaolmkaaGreat.Cl

