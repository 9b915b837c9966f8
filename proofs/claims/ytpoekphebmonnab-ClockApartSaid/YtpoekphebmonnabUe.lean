import Derived.Test.YtpoekphebmonnabUd
namespace Go.Proofs.Ytpoekphebmonnab
open Go.RowKit Go.Shelf Go.Sort
set_option linter.unusedVariables false
set_option linter.unusedSimpArgs false

/-! ### Rows that are made, copied, cleared -/
theorem sinfo : (Try.prog.info? 79).map (fun i => (i.zero, i.size, i.bytes)) = some (some (.agg #[.int .u64 0, .int .u32 0]), 2, 16) := by kernel_rfl
theorem iinfo : (Try.prog.info? 3).map (fun i => (i.zero, i.size, i.bytes)) = some (some (.int .i64 0), 1, 8) := by kernel_rfl
theorem fz_none {w w' : World} (h : w.grownBy w' none) (M : Nat → Prop) : Fz M w w' := ⟨h.os, h.tape, h.output, h.size, fun b hb _ => h.block b hb (by simp)⟩
theorem own_base {w : World} {b b' e k n : Nat} {v : Value} {xs : List Value} (h : w.ownsRow b e k v n xs) (hb : b' ≤ b) : w.ownsRow b' e k v n xs := by
  obtain ⟨hl, h0 | ⟨g, cap, cur, hv, hb1, hh, rr⟩⟩ := h
  · exact ⟨hl, .inl h0⟩
  · exact ⟨hl, .inr ⟨g, cap, cur, hv, by omega, hh, rr⟩⟩
theorem flP_one (l : List Alm) : ∀ v ∈ flP l, v.oneCell' = true := by
  induction l with
  | nil => intro v hv; simp [flP] at hv
  | cons x r ih =>
    intro v hv
    simp only [flP, List.mem_cons] at hv
    rcases hv with rfl | rfl | hv
    · rfl
    · rfl
    · exact ih v hv
theorem flP_zero (n : Nat) : flP (List.replicate n (0, 0)) = (madeCells (Value.agg #[.int .u64 0, .int .u32 0]).cells (n * 2)).toList := by
  apply List.ext_getElem?
  intro j
  by_cases hj : j < n * 2
  · have hz : (List.replicate n ((0, 0) : Alm))[j / 2]? = some (0, 0) := by rw [List.getElem?_replicate, if_pos (by omega)]
    obtain ⟨h1, h2⟩ := flP_at hz
    have hr : (madeCells (Value.agg #[.int .u64 0, .int .u32 0]).cells (n * 2)).toList[j]? = some ((#[Value.int .u64 0, .int .u32 0] : Array Value)[j % 2]!) := by
      simp [madeCells, Value.cells, hj]
    rw [hr]
    rcases (by omega : j = j / 2 * 2 ∨ j = j / 2 * 2 + 1) with e | e
    · rw [e, h1, show j / 2 * 2 % 2 = 0 by omega]; rfl
    · rw [e, h2, show (j / 2 * 2 + 1) % 2 = 1 by omega]; rfl
  · rw [List.getElem?_eq_none (by rw [flP_len, List.length_replicate]; omega), List.getElem?_eq_none (by simp [madeCells]; omega)]
/-- a store over all of a row that is one's own -/
theorem own_over {P : Program} {w : World} {b e k g n cap : Nat} {xs vs : List Value} (h : w.ownsRow b e k (.slice (some ⟨g, 0, none⟩) n cap) n xs) (hl : vs.length = n * k) (h1 : ∀ v ∈ vs, v.oneCell' = true) :
    ∃ w', (storeCells ⟨g, 0, none⟩ vs 0).run P w = .ok () w' ∧ w'.ownsRow b e k (.slice (some ⟨g, 0, none⟩) n cap) n vs ∧ Fz (fun x => x = g) w w' := by
  rcases h.2 with ⟨h', _⟩ | ⟨g', cap', cur, h', hb, hg, hnc, hcm, hcs, htake⟩
  · simp at h'
  · simp only [Value.slice.injEq, Option.some.injEq, Addr.mk.injEq, and_true, true_and] at h'
    obtain ⟨rfl, rfl⟩ := h'
    have hle : n * k ≤ cap * k := Nat.mul_le_mul_right _ hnc
    have hr := run_storeCells_at P g 0 e vs 0 cur w hg (by rw [hl, hcs]; omega) h1
    refine ⟨_, hr, ⟨hl, .inr ⟨g, cap, _, rfl, hb, setRow_heap w g cur _ e _ hg, hnc, hcm, ?_, ?_⟩⟩, ⟨rfl, rfl, rfl, by simp [World.setRow], fun i _ hi => setRow_other w g i _ hi⟩⟩
    · simp only [List.size_toArray, List.length_append, List.length_take, List.length_drop, Array.length_toList]
      rw [hl, hcs]; omega
    · simp only [Nat.add_zero, List.take_zero, List.nil_append]
      rw [← hl]
      exact List.take_left
theorem run_copy_own {P : Program} {w : World} {b b2 e k g n cap : Nat} {v : Value} {xs ys : List Value} (dT ty : TypeId) (hu : P.underlying dT = some (.slice e)) (hs : (P.info? e).map (·.size) = some k)
    (h : w.ownsRow b e k (.slice (some ⟨g, 0, none⟩) n cap) n xs) (hv : w.ownsRow b2 e k v n ys) (h1 : ∀ v ∈ ys, v.oneCell' = true) :
    ∃ w', (Builtin.copy_ #[dT, dT] ty #[.slice (some ⟨g, 0, none⟩) n cap, v]).run P w = .ok (goInt n) w' ∧ w'.ownsRow b e k (.slice (some ⟨g, 0, none⟩) n cap) n ys ∧ Fz (fun x => x = g) w w' := by
  obtain ⟨w', hst, ho, hf⟩ := own_over (P := P) h hv.1 h1
  refine ⟨w', ?_, ho, hf⟩
  cases hq : P.info? e with
  | none => simp [hq] at hs
  | some i =>
    have hi : i.size = k := by simpa [hq] using hs
    rcases hv.2 with ⟨rfl, rfl⟩ | ⟨gv, capv, curv, rfl, _⟩
    · have hy : ys = [] := List.eq_nil_of_length_eq_zero (by have := hv.1; simpa using this)
      subst hy
      have e1 : w' = w := by simp [storeCells] at hst; exact hst.symm
      subst e1
      simp [Builtin.copy_, run_underlying hu, Builtin.lenOf, Builtin.firstCells, sizeOf, typeInfo, hq, storeCells]
    · have hl := run_loadCells_list (P := P) w ⟨gv, 0, none⟩ ys (hv.cells rfl)
      rw [hv.1] at hl
      simp [Builtin.copy_, run_underlying hu, Builtin.lenOf, Builtin.firstCells, sizeOf, typeInfo, hq, hi, hl, hst]
theorem zero_made (z : Array Value) (n : Nat) : Builtin.zeroCells z n = madeCells z (n * z.size) := rfl
theorem run_clear_own {w : World} {b n : Nat} {v : Value} {xs : List Value} (h : w.ownsRow b 79 2 v n xs) :
    ∃ w', (∀ ty, (Builtin.clear_ #[42] ty #[v]).run Try.prog w = .ok (.tuple #[]) w') ∧ w'.ownsRow b 79 2 v n (flP (List.replicate n (0, 0))) ∧ Fz (fun x => v.ownBlock = some x) w w' := by
  have ht := Try.underlying42
  have hz : ∀ w, (zeroValue 79).run Try.prog w = .ok (.agg #[.int .u64 0, .int .u32 0]) w := by
    obtain ⟨i, hi, h0, h1, h2⟩ := info_parts sinfo
    intro w
    simp [zeroValue, typeInfo, hi, h0]
  rcases Nat.eq_zero_or_pos n with rfl | hn
  · refine ⟨w, fun ty => ?_, ?_, Fz.refl _ _⟩
    · obtain ⟨a, c, rfl⟩ := own_sl h
      cases a <;> simp [Builtin.clear_, run_underlying ht]
    · have hx : xs = [] := List.eq_nil_of_length_eq_zero (by have := h.1; simpa using this)
      subst hx
      exact h
  · obtain ⟨g, c, rfl⟩ := own_some h hn
    obtain ⟨w', hst, ho, hf⟩ := own_over (P := Try.prog) (vs := flP (List.replicate n (0, 0))) h (by rw [flP_len, List.length_replicate]) (flP_one _)
    refine ⟨w', fun ty => ?_, ho, hf.mono (by rintro x rfl; rfl)⟩
    have hzc : (Builtin.zeroCells (Value.agg #[.int .u64 0, .int .u32 0]).cells n).toList = flP (List.replicate n (0, 0)) := by rw [zero_made, flP_zero]; rfl
    obtain ⟨m, rfl⟩ : ∃ m, n = m + 1 := ⟨n - 1, by omega⟩
    simp [Builtin.clear_, run_underlying ht, hz, hzc, hst]
section
variable {w w' : World} {B G L V : Nat} {v : Value} {al : List Alm}
set_option maxRecDepth 100000 in
theorem copied_any (n : Nat) (hn : n = al.length) (hl : al.length ≤ 64) (h : w.ownsRow 0 79 2 v n (flP al)) : Calls Try.prog 34 #[v] w fun e w' => e = .returned (.slice (some ⟨w.heap.size, 0, none⟩) n n) ∧ w'.ownsRow w.heap.size 79 2 (.slice (some ⟨w.heap.size, 0, none⟩) n n) n (flP al) ∧ Below w.heap.size w w' := by
  obtain ⟨i0, hi0, hz0, hz1, hz2⟩ := info_parts sinfo
  obtain ⟨w1, hmk, ho1, hg1⟩ := run_make_full (P := Try.prog) w w.heap.size 42 79 i0 _ 2 Try.underlying42 hi0 hz0 hz1 .i64 .i64 n (by rw [hz2]; omega) (by unfold maxLen; omega) (Nat.le_refl _)
  have hsz : (Try.prog.info? 79).map (·.size) = some 2 := by rw [hi0]; simp [hz1]
  have h2 := (fz_none hg1 (fun _ => False)).own h (fun _ _ e => e)
  have b1 : Below w.heap.size w w1 := ⟨hg1.os, hg1.tape, hg1.output, hg1.size, fun i hi => hg1.block i hi (by simp)⟩
  obtain ⟨a, c, rfl⟩ := own_sl h
  obtain ⟨w2, hcp, ho2, hf2⟩ := run_copy_own (P := Try.prog) 42 3 Try.underlying42 hsz ho1 h2 (flP_one al)
  have b2 := b1.trans (hf2.below b1.size (by rintro x rfl; exact Nat.le_refl _))
  have HO : Hid (w2.ownsRow w.heap.size 79 2 (.slice (some ⟨w.heap.size, 0, none⟩) n n) n (flP al) ∧ Below w.heap.size w w2) := ⟨ho2, b2⟩
  clear ho1 hg1 h2 b1 h hn ho2 hf2 b2
  go_enter Try.func34, Try.ntmps34
  go_wp2
  go_ret
  exact ⟨rfl, HO.out.1, HO.out.2⟩
end
end Go.Proofs.Ytpoekphebmonnab
