import Derived.Test.YthmecgfbapemjaaDoorDg
namespace Go.Proofs.YthmecgfbapemjaaDoor
open Go.RowKit Go.Shelf Go.Sort
set_option linter.unusedVariables false
set_option linter.unusedSimpArgs false

/-! ### Rows that are made and copied -/
theorem rinfo : (Tryd.prog.info? 27).map (fun i => (i.zero, i.size, i.bytes)) = some (some (.agg #[.int .i64 0, .bool false]), 2, 16) := by kernel_rfl
theorem sinfo : (Tryd.prog.info? 71).map (fun i => (i.zero, i.size, i.bytes)) = some (some (.agg #[.int .i64 0, .int .i64 0]), 2, 16) := by kernel_rfl
theorem fz_none {w w' : World} (h : w.grownBy w' none) (M : Nat → Prop) : Fz M w w' := ⟨h.os, h.tape, h.output, h.size, fun b hb _ => h.block b hb (by simp)⟩
theorem own_base {w : World} {b b' e k n : Nat} {v : Value} {xs : List Value} (h : w.ownsRow b e k v n xs) (hb : b' ≤ b) : w.ownsRow b' e k v n xs := by
  obtain ⟨hl, h0 | ⟨g, cap, cur, hv, hb1, hh, rr⟩⟩ := h
  · exact ⟨hl, .inl h0⟩
  · exact ⟨hl, .inr ⟨g, cap, cur, hv, by omega, hh, rr⟩⟩
/-- a row that can be read -/
def Src (w : World) (k : Nat) (v : Value) (n : Nat) (ys : List Value) : Prop := ys.length = n * k ∧ ((∃ a c, v = .slice a 0 c ∧ n = 0) ∨ ∃ g off c, v = .slice (some ⟨g, off, none⟩) n c ∧ g < w.heap.size ∧ ∀ (j : Nat) (y : Value), ys[j]? = some y → w.cell? ⟨g, off + j, none⟩ = some y)
theorem Src.own {w : World} {b e k n : Nat} {v : Value} {ys : List Value} (h : w.ownsRow b e k v n ys) : Src w k v n ys := by
  refine ⟨h.1, ?_⟩
  rcases h.2 with ⟨h1, h0⟩ | ⟨g, cap, cur, h1, _⟩
  · exact .inl ⟨none, 0, h1, h0⟩
  · subst h1
    refine .inr ⟨g, 0, cap, rfl, (h.lt g rfl).2, fun j y hy => ?_⟩
    have hj : j < n * k := by have := (List.getElem?_eq_some_iff.1 hy).1; have := h.1; omega
    rw [Nat.zero_add, h.cellAt j hj]
    exact hy
theorem Src.up {w w' : World} {k n : Nat} {v : Value} {ys : List Value} (h : Src w k v n ys) (hb : Below w.heap.size w w') : Src w' k v n ys := by
  refine ⟨h.1, ?_⟩
  rcases h.2 with h1 | ⟨g, off, c, e, hg, hc⟩
  · exact .inl h1
  · exact .inr ⟨g, off, c, e, Nat.lt_of_lt_of_le hg hb.size, fun j y hy => (World.cell?_of_block (hb.block g hg)).trans (hc j y hy)⟩
theorem Src.sl {w : World} {k n : Nat} {v : Value} {ys : List Value} (h : Src w k v n ys) : ∃ a c, v = .slice a n c := by
  rcases h.2 with ⟨a, c, h1, h0⟩ | ⟨g, off, c, e, _⟩
  · exact ⟨a, c, by rw [h0]; exact h1⟩
  · exact ⟨_, _, e⟩
theorem Src.at {w : World} {v : Value} {rs : List Rw} (h : Src w 2 v rs.length (flR rs)) {k : Nat} {r : Rw} (hr : rs[k]? = some r) : ∃ g off c, v = .slice (some ⟨g, off, none⟩) rs.length c ∧ w.cell? ⟨g, off + k * 2, none⟩ = some (I r.1) ∧ w.cell? ⟨g, off + k * 2 + 1, none⟩ = some (.bool r.2) := by
  have hk : k < rs.length := (List.getElem?_eq_some_iff.1 hr).1
  obtain ⟨e1, e2⟩ := flR_at hr
  rcases h.2 with ⟨a, c, h1, h0⟩ | ⟨g, off, c, e, hg, hc⟩
  · omega
  · exact ⟨g, off, c, e, hc _ _ e1, hc _ _ e2⟩
/-- a store over all of a row that is one's own -/
theorem own_over {P : Program} {w : World} {b e k g n cap : Nat} {xs vs : List Value} (h : w.ownsRow b e k (.slice (some ⟨g, 0, none⟩) n cap) n xs) (hl : vs.length = n * k) (h1 : ∀ v ∈ vs, v.oneCell' = true) :
    ∃ w', (storeCells ⟨g, 0, none⟩ vs 0).run P w = .ok () w' ∧ w'.ownsRow b e k (.slice (some ⟨g, 0, none⟩) n cap) n vs ∧ Fz (fun x => x = g) w w' := by
  rcases h.2 with ⟨h', _⟩ | ⟨g', cap', cur, h', hb, hg, hnc, hcm, hcs, htake⟩
  · simp at h'
  · simp only [Value.slice.injEq, Option.some.injEq, Addr.mk.injEq, and_true, true_and] at h'
    obtain ⟨rfl, rfl⟩ := h'
    have hle : n * k ≤ cap * k := Nat.mul_le_mul_right _ hnc
    have hr := run_storeCells_at P g 0 e vs 0 cur w hg (by rw [hl, hcs]; omega) h1
    refine ⟨_, hr, ⟨hl, .inr ⟨g, cap, _, rfl, hb, setRow_heap w g cur _ e _ hg, hnc, hcm, ?_, ?_⟩⟩, ⟨rfl, rfl, rfl, by simp [World.setRow], fun i _ hi => setRow_other w g i _ hi⟩⟩
    · simp only [List.size_toArray, List.length_append, List.length_take, List.length_drop, Array.length_toList]
      rw [hl, hcs]; omega
    · simp only [Nat.add_zero, List.take_zero, List.nil_append]
      rw [← hl]
      exact List.take_left
theorem run_copy_src {P : Program} {w : World} {b e k g n cap : Nat} {v : Value} {xs ys : List Value} (dT ty : TypeId) (hu : P.underlying dT = some (.slice e)) (hs : (P.info? e).map (·.size) = some k)
    (h : w.ownsRow b e k (.slice (some ⟨g, 0, none⟩) n cap) n xs) (hv : Src w k v n ys) (h1 : ∀ v ∈ ys, v.oneCell' = true) :
    ∃ w', (Builtin.copy_ #[dT, dT] ty #[.slice (some ⟨g, 0, none⟩) n cap, v]).run P w = .ok (goInt n) w' ∧ w'.ownsRow b e k (.slice (some ⟨g, 0, none⟩) n cap) n ys ∧ Fz (fun x => x = g) w w' := by
  obtain ⟨w', hst, ho, hf⟩ := own_over (P := P) h hv.1 h1
  refine ⟨w', ?_, ho, hf⟩
  cases hq : P.info? e with
  | none => simp [hq] at hs
  | some i =>
    have hi : i.size = k := by simpa [hq] using hs
    rcases hv.2 with ⟨av, cv, rfl, rfl⟩ | ⟨gv, off, capv, rfl, hgv, hcv⟩
    · have hy : ys = [] := List.eq_nil_of_length_eq_zero (by have := hv.1; simpa using this)
      subst hy
      have e1 : w' = w := by simp [storeCells] at hst; exact hst.symm
      subst e1
      cases av with
      | none => simp [Builtin.copy_, run_underlying hu, Builtin.lenOf, Builtin.firstCells, sizeOf, typeInfo, hq, storeCells]
      | some ad =>
        have hl0 : (loadCells ad 0).run P w' = .ok #[] w' := run_loadCells_list (P := P) w' ad [] (fun j y hy => by simp at hy)
        simp [Builtin.copy_, run_underlying hu, Builtin.lenOf, Builtin.firstCells, sizeOf, typeInfo, hq, storeCells, hl0]
    · have hl := run_loadCells_list (P := P) w ⟨gv, off, none⟩ ys (fun j y hy => by rw [addr_add]; exact hcv j y hy)
      rw [hv.1] at hl
      simp [Builtin.copy_, run_underlying hu, Builtin.lenOf, Builtin.firstCells, sizeOf, typeInfo, hq, hi, hl, hst]
set_option maxRecDepth 100000 in
theorem copiedR_any {w : World} {v : Value} {rs : List Rw} (hl : rs.length ≤ 256) (h : Src w 2 v rs.length (flR rs)) : Calls Tryd.prog 29 #[v] w fun e w' => e = .returned (.slice (some ⟨w.heap.size, 0, none⟩) rs.length rs.length) ∧ w'.ownsRow w.heap.size 27 2 (.slice (some ⟨w.heap.size, 0, none⟩) rs.length rs.length) rs.length (flR rs) ∧ Below w.heap.size w w' := by
  obtain ⟨i0, hi0, hz0, hz1, hz2⟩ := info_parts rinfo
  obtain ⟨w1, hmk, ho1, hg1⟩ := run_make_full (P := Tryd.prog) w w.heap.size 28 27 i0 _ 2 Tryd.underlying28 hi0 hz0 hz1 .i64 .i64 rs.length (by rw [hz2]; omega) (by unfold maxLen; omega) (Nat.le_refl _)
  have hsz : (Tryd.prog.info? 27).map (·.size) = some 2 := by rw [hi0]; simp [hz1]
  have b1 : Below w.heap.size w w1 := ⟨hg1.os, hg1.tape, hg1.output, hg1.size, fun i hi => hg1.block i hi (by simp)⟩
  have h2 := h.up b1
  obtain ⟨a, c, rfl⟩ := h.sl
  obtain ⟨w2, hcp, ho2, hf2⟩ := run_copy_src (P := Tryd.prog) 28 3 Tryd.underlying28 hsz ho1 h2 (flR_one rs)
  have b2 := b1.trans (hf2.below b1.size (by rintro x rfl; exact Nat.le_refl _))
  have HO : Hid (w2.ownsRow w.heap.size 27 2 (.slice (some ⟨w.heap.size, 0, none⟩) rs.length rs.length) rs.length (flR rs) ∧ Below w.heap.size w w2) := ⟨ho2, b2⟩
  clear ho1 hg1 h2 b1 h ho2 hf2 b2
  generalize rs.length = n at *
  go_enter Tryd.func29, Tryd.ntmps29
  go_wp2
  go_ret
  exact ⟨rfl, HO.out.1, HO.out.2⟩
set_option maxRecDepth 100000 in
theorem copiedS_any {w : World} {v : Value} {ss : List Sd} (hl : ss.length ≤ 256) (h : Src w 2 v ss.length (flS ss)) : Calls Tryd.prog 42 #[v] w fun e w' => e = .returned (.slice (some ⟨w.heap.size, 0, none⟩) ss.length ss.length) ∧ w'.ownsRow w.heap.size 71 2 (.slice (some ⟨w.heap.size, 0, none⟩) ss.length ss.length) ss.length (flS ss) ∧ Below w.heap.size w w' := by
  obtain ⟨i0, hi0, hz0, hz1, hz2⟩ := info_parts sinfo
  obtain ⟨w1, hmk, ho1, hg1⟩ := run_make_full (P := Tryd.prog) w w.heap.size 51 71 i0 _ 2 Tryd.underlying51 hi0 hz0 hz1 .i64 .i64 ss.length (by rw [hz2]; omega) (by unfold maxLen; omega) (Nat.le_refl _)
  have hsz : (Tryd.prog.info? 71).map (·.size) = some 2 := by rw [hi0]; simp [hz1]
  have b1 : Below w.heap.size w w1 := ⟨hg1.os, hg1.tape, hg1.output, hg1.size, fun i hi => hg1.block i hi (by simp)⟩
  have h2 := h.up b1
  obtain ⟨a, c, rfl⟩ := h.sl
  obtain ⟨w2, hcp, ho2, hf2⟩ := run_copy_src (P := Tryd.prog) 51 3 Tryd.underlying51 hsz ho1 h2 (flS_one ss)
  have b2 := b1.trans (hf2.below b1.size (by rintro x rfl; exact Nat.le_refl _))
  have HO : Hid (w2.ownsRow w.heap.size 71 2 (.slice (some ⟨w.heap.size, 0, none⟩) ss.length ss.length) ss.length (flS ss) ∧ Below w.heap.size w w2) := ⟨ho2, b2⟩
  clear ho1 hg1 h2 b1 h ho2 hf2 b2
  generalize ss.length = n at *
  go_enter Tryd.func42, Tryd.ntmps42
  go_wp2
  go_ret
  exact ⟨rfl, HO.out.1, HO.out.2⟩
theorem mayBe_any (w : World) (x : Rw) : Calls Tryd.prog 28 #[.agg #[I x.1, .bool x.2]] w fun e w' => e = .returned (.bool (mayR x)) ∧ Below w.heap.size w w' := by
  have hb := fun o => below_alloc w o
  obtain ⟨l, b⟩ := x
  unfold mayR
  dsimp only
  cases b with
  | true =>
    rw [if_pos rfl]
    go_enter Tryd.func28, Tryd.ntmps28
    go_wp2
    go_ret
    exact ⟨rfl, hb _⟩
  | false =>
    rw [if_neg (by decide)]
    by_cases h0 : 1 ≤ l
    · have h0b : decide (1 ≤ l) = true := by simpa using h0
      rw [h0b, Bool.true_and]
      go_enter Tryd.func28, Tryd.ntmps28
      go_wp2
      go_ret
      exact ⟨rfl, hb _⟩
    · have h0b : decide (1 ≤ l) = false := by simpa using h0
      rw [h0b, Bool.false_and]
      go_enter Tryd.func28, Tryd.ntmps28
      go_wp2
      go_ret
      exact ⟨rfl, hb _⟩
end Go.Proofs.YthmecgfbapemjaaDoor
