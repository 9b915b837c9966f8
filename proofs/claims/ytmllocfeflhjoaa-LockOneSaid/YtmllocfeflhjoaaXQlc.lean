import Derived.Test.YtmllocfeflhjoaaXQy
import Derived.Deep.CutBlock
import Derived.Deep.CutRange
namespace Go.Proofs.Ytmllocfeflhjoaa
open Go.RowKit Go.Maps Go.Shelf Go.Sort
open Go.Proofs.Ytmllocfeflhjoaa.St (Fx Fz iQ iP iV)
set_option linter.unusedVariables false
set_option linter.unusedSimpArgs false

/-! ### LockOne: what is asked of a lock -/
section
variable {w w' : World} {tb : Tb} {Z : Nat → Prop} {y : Ly} {B : Nat} {s : Ls}
theorem Release_some (h : Lk w tb Z y B s) (o : Own) (ho : o.wf) (r : Int) : Calls Try.prog 6 #[lp B, .agg #[.bool o.isr, I o.id], I r] w fun e w' => (∃ v, e = .returned (I v)) ∧ (∃ s', Lk w' tb Z y B s') ∧ Fz (y.M B) w w' := by
  cases hr : asks tb o r with
  | false => exact (Release_no h o ho r hr).mono (fun e w' k => ⟨⟨_, k.1⟩, ⟨s, h.below k.2⟩, Fz.of_below k.2⟩)
  | true =>
    by_cases hl : (hld s.L o).getLast? = some r
    · obtain ⟨xs, hx⟩ : ∃ xs, hld s.L o = xs ++ [r] := by
        rcases List.eq_nil_or_concat (hld s.L o) with hn | ⟨xs, x, hn⟩
        · rw [hn] at hl; cases hl
        · rw [List.concat_eq_append] at hn
          rw [hn] at hl
          simp at hl
          exact ⟨xs, by rw [hn, hl]⟩
      exact (Release_ok h o ho r hr xs hx).mono (fun e w' k => ⟨⟨_, k.1⟩, ⟨_, k.2.1⟩, k.2.2⟩)
    · exact (Release_bar h o ho r hr hl).mono (fun e w' k => ⟨⟨_, k.1⟩, ⟨s, h.below k.2⟩, Fz.of_below k.2⟩)
theorem Enter_some (h : Lk w tb Z y B s) (i : Int) (hi : (tkO i).wf) : Calls Try.prog 7 #[lp B, I i] w fun e w' => (∃ v, e = .returned (I v)) ∧ (∃ s', Lk w' tb Z y B s') ∧ Fz (y.M B) w w' := by
  cases hob : obs tb (tkO i) with
  | none => exact (Enter_no h i hi hob).mono (fun e w' k => ⟨⟨_, k.1⟩, ⟨s, h.below k.2⟩, Fz.of_below k.2⟩)
  | some b => exact (Enter_ok h i hi b hob).mono (fun e w' k => ⟨⟨_, k.1⟩, ⟨_, k.2.1⟩, k.2.2⟩)
theorem Get_some (h : Lk w tb Z y B s) (o : Own) (ho : o.wf) (r : Int) (hw : (Lit.int .i64 r).wf = true) : Calls Try.prog 9 #[lp B, .agg #[.bool o.isr, I o.id], I r] w fun e w' => ((∃ v, e = .returned (I v) ∧ v ≠ 0 ∧ Lk w' tb Z y B s) ∨ (e = .returned (I 0) ∧ asks tb o r = true ∧ hdr s.L r = none ∧ Lk w' tb Z y B ⟨s.L ++ [(o, r)], s.i, s.g⟩)) ∧ Fz (y.M B) w w' := by
  cases hr : asks tb o r with
  | false => exact (Get_no h o ho r hr).mono (fun e w' k => ⟨.inl ⟨3, k.1, by decide, h.below k.2⟩, Fz.of_below k.2⟩)
  | true =>
    cases hg : gets tb s o r with
    | false => exact (Get_bar h o ho r hw hr hg).mono (fun e w' k => ⟨.inl ⟨1, k.1, by decide, h.below k.2⟩, Fz.of_below k.2⟩)
    | true =>
      have hn : hdr s.L r = none := by
        unfold gets at hg
        simp only [Bool.and_eq_true, Option.isNone_iff_eq_none] at hg
        exact hg.1
      exact (Get_ok h o ho r hw hr hg).mono (fun e w' k => ⟨.inr ⟨k.1, rfl, hn, k.2.1⟩, k.2.2⟩)
/-- Release of what Get took. -/
theorem Back_ok {o : Own} {r : Int} (h : Lk w tb Z y B ⟨s.L ++ [(o, r)], s.i, s.g⟩) (ho : o.wf) (hr : asks tb o r = true) (hn : hdr s.L r = none) : Calls Try.prog 6 #[lp B, .agg #[.bool o.isr, I o.id], I r] w fun e w' => e = .returned (I 0) ∧ Lk w' tb Z y B s ∧ Fz (y.M B) w w' := by
  refine (Release_ok h o ho r hr (hld s.L o) (by show hld (s.L ++ [(o, r)]) o = _; rw [hld_snoc, if_pos rfl])).mono (fun e w' k => ⟨k.1, ?_, k.2.2⟩)
  have := k.2.1
  have e1 : nodR (s.L ++ [(o, r)]) r = s.L := by
    unfold nodR
    rw [List.filter_append]
    have : s.L.filter (fun t => decide (t.2 ≠ r)) = s.L := List.filter_eq_self.2 (fun t ht => by
      simp only [decide_eq_true_eq]
      intro e
      exact hdr_none.1 hn t.1 (by rw [← e]; exact ht))
    rw [this]
    simp
  rw [show (⟨nodR (s.L ++ [(o, r)]) r, s.i, s.g⟩ : Ls) = s by rw [e1]] at this
  exact this
theorem prio_ge {o : Own} {b : Ob} (hob : obs tb o = some b) : b.prio ≤ prioO tb s o ∧ ∀ r ∈ hld s.L o, ceilOf tb r ≤ prioO tb s o := by
  have h := (topC_le tb (hld s.L o) b.prio (topC tb b.prio (hld s.L o))).1 (Int.le_refl _)
  unfold prioO
  rw [hob]
  dsimp only
  split
  · exact ⟨by omega, fun r hr => by have := h.2 r hr; omega⟩
  · exact h
end
/-! ### The owners, one after another -/
def ownK (tb : Tb) (k : Nat) : Own := if k < tb.tasks.length then ⟨false, (k : Int)⟩ else ⟨true, (k : Int) - tb.tasks.length⟩
theorem ownK_inj {tb : Tb} {i k : Nat} (h : ownK tb i = ownK tb k) : i = k := by
  unfold ownK at h
  split at h <;> split at h
  · injection h with _ h; omega
  · injection h with h; cases h
  · injection h with h; cases h
  · injection h with _ h; omega
def seenK (tb : Tb) (L : Tks) (k : Nat) : List Int := (List.range k).flatMap fun i => hld L (ownK tb i)
theorem seen_succ (tb : Tb) (L : Tks) (k : Nat) : seenK tb L (k + 1) = seenK tb L k ++ hld L (ownK tb k) := by
  unfold seenK
  rw [List.range_succ, List.flatMap_append]
  simp
theorem seen_new {tb : Tb} {L : Tks} (hn : (L.map (·.2)).Nodup) {k j : Nat} {r : Int} (hr : (hld L (ownK tb k))[j]? = some r) : r ∉ seenK tb L k ++ (hld L (ownK tb k)).take j := by
  intro hm
  rcases List.mem_append.1 hm with hm | hm
  · unfold seenK at hm
    rw [List.mem_flatMap] at hm
    obtain ⟨i, hi, hm⟩ := hm
    have h1 := hdr_mem hn (mem_hld.1 hm)
    have h2 := hdr_mem hn (mem_hld.1 (List.mem_of_getElem? hr))
    rw [h1] at h2
    injection h2 with h2
    have := ownK_inj h2
    rw [List.mem_range] at hi
    omega
  · obtain ⟨i, hi⟩ := List.getElem?_of_mem hm
    have hlt := (List.getElem?_eq_some_iff.1 hi).1
    rw [List.length_take] at hlt
    rw [List.getElem?_take_of_lt (by omega)] at hi
    have := (List.getElem?_inj (i := i) (j := j) (by omega) (hld_nodup hn (ownK tb k))).1 (hi.trans hr.symm)
    omega
/-- how often it was met -/
def cntK (D : List Int) (i : Nat) : Int := if (i : Int) ∈ D then 1 else 0
theorem ownK_obs {tb : Tb} {k : Nat} (hk : k < tb.tasks.length + tb.isrs.length) : ∃ b, obs tb (ownK tb k) = some b := by
  unfold ownK
  split
  · rename_i h
    exact ⟨_, obs_task (List.getElem?_eq_getElem h)⟩
  · rename_i h
    have h2 : k - tb.tasks.length < tb.isrs.length := by omega
    have := obs_isr (List.getElem?_eq_getElem h2)
    rw [show ((k - tb.tasks.length : Nat) : Int) = (k : Int) - tb.tasks.length by omega] at this
    exact ⟨_, this⟩
end Go.Proofs.Ytmllocfeflhjoaa

namespace Go.Proofs.Ytmllocfeflhjoaa
open Go.RowKit Go.Maps Go.Shelf Go.Sort
open Go.Proofs.Ytmllocfeflhjoaa.St (Fx Fz iQ iP iV)
set_option linter.unusedVariables false
set_option linter.unusedSimpArgs false
set_option maxRecDepth 100000
set_option maxHeartbeats 16000000

/-- A lock, and what came in is as it was. -/
structure One (w1 w : World) (N1 : Nat) (tb : Tb) (Z : Nat → Prop) (y : Ly) (B : Nat) (s : Ls) : Prop where
  l : Lk w tb Z y B s
  b : Below N1 w1 w
  n : N1 ≤ w1.heap.size
  m : ∀ b, y.M B b → N1 ≤ b
  z : ∀ b, Z b → b < w.heap.size
section
variable {w1 w w' : World} {N1 : Nat} {tb : Tb} {Z : Nat → Prop} {y : Ly} {B : Nat} {s s' : Ls}
theorem One.sz (h : One w1 w N1 tb Z y B s) : N1 ≤ w.heap.size := Nat.le_trans h.n h.b.size
theorem One.step (h : One w1 w N1 tb Z y B s) (hl : Lk w' tb Z y B s') (hf : Fz (y.M B) w w') : One w1 w' N1 tb Z y B s' := ⟨hl, h.b.trans (hf.below h.sz h.m), h.n, h.m, fun b hb => Nat.lt_of_lt_of_le (h.z b hb) hf.size⟩
theorem One.below (h : One w1 w N1 tb Z y B s) (hb : Below w.heap.size w w') : One w1 w' N1 tb Z y B s := ⟨h.l.below hb, h.b.trans (hb.mono h.sz), h.n, h.m, fun b hz => Nat.lt_of_lt_of_le (h.z b hz) hb.size⟩
theorem One.kept {N : Nat → Prop} (h : One w1 w N1 tb Z y B s) (hf : Fz N w w') (h1 : ∀ b, N b → N1 ≤ b) (hM : ∀ b, y.M B b → ¬ N b) (hZ : ∀ b, Z b → ¬ N b) : One w1 w' N1 tb Z y B s := ⟨h.l.kept hf hM hZ, h.b.trans (hf.below h.sz h1), h.n, h.m, fun b hz => Nat.lt_of_lt_of_le (h.z b hz) hf.size⟩
theorem call_at {w : World} {sc : Sl} {l : List Cl} (h : RowsAt w 8 clP sc l) {k : Nat} {x : Cl} (hx : l[k]? = some x) : ∃ g off, sc.a = some ⟨g, off, none⟩ ∧ g < w.heap.size ∧ w.cell? ⟨g, off + k * 8, none⟩ = some (I x.kind) ∧ w.cell? ⟨g, off + k * 8 + 1, none⟩ = some (.bool x.o.isr) ∧ w.cell? ⟨g, off + k * 8 + 2, none⟩ = some (I x.o.id) ∧ w.cell? ⟨g, off + k * 8 + 3, none⟩ = some (I x.n) ∧ w.cell? ⟨g, off + k * 8 + 4, none⟩ = some (.bool x.all) ∧ w.cell? ⟨g, off + k * 8 + 5, none⟩ = some (.bool x.g.shut) ∧ w.cell? ⟨g, off + k * 8 + 6, none⟩ = some (I x.g.all) ∧ w.cell? ⟨g, off + k * 8 + 7, none⟩ = some (I x.g.os) ∧ x.o.wf ∧ (Lit.int .i64 x.n).wf = true := by
  obtain ⟨g, off, e, hg, hr⟩ := h.row k x hx
  obtain ⟨u0, a0, b0, b8, b9⟩ := hr 0 (by omega)
  obtain ⟨u1, a1, b1, -⟩ := hr 1 (by omega)
  obtain ⟨u2, a2, b2, -⟩ := hr 2 (by omega)
  obtain ⟨u3, a3, b3, -⟩ := hr 3 (by omega)
  obtain ⟨u4, a4, b4, -⟩ := hr 4 (by omega)
  obtain ⟨u5, a5, b5, -⟩ := hr 5 (by omega)
  obtain ⟨u6, a6, b6, -⟩ := hr 6 (by omega)
  obtain ⟨u7, a7, b7, -⟩ := hr 7 (by omega)
  have c0 : u0 = I x.kind := b0
  have c1 : u1 = .bool x.o.isr := b1
  have c2 : u2 = I x.o.id := b2
  have c3 : u3 = I x.n := b3
  have c4 : u4 = .bool x.all := b4
  have c5 : u5 = .bool x.g.shut := b5
  have c6 : u6 = I x.g.all := b6
  have c7 : u7 = I x.g.os := b7
  subst c0 c1 c2 c3 c4 c5 c6 c7
  exact ⟨g, off, e, hg, a0, a1, a2, a3, a4, a5, a6, a7, b8, b9⟩
abbrev clA (x : Cl) : Array Value := #[I x.kind, .bool x.o.isr, I x.o.id, I x.n, .bool x.all, .bool x.g.shut, I x.g.all, I x.g.os]
/-- The cells of a call's box. -/
theorem call_box {w : World} {Q : Nat} {x : Cl} (h : w.heap[Q]? = some (.cells (clA x) 42)) : w.cell? ⟨Q, 0, none⟩ = some (I x.kind) ∧ w.cell? ⟨Q, 1, none⟩ = some (.bool x.o.isr) ∧ w.cell? ⟨Q, 2, none⟩ = some (I x.o.id) ∧ w.cell? ⟨Q, 3, none⟩ = some (I x.n) ∧ w.cell? ⟨Q, 4, none⟩ = some (.bool x.all) ∧ w.cell? ⟨Q, 5, none⟩ = some (.bool x.g.shut) ∧ w.cell? ⟨Q, 6, none⟩ = some (I x.g.all) ∧ w.cell? ⟨Q, 7, none⟩ = some (I x.g.os) := by
  have a1 := fun i => cell_of_row _ _ i _ _ (0, 0) h
  exact ⟨a1 0, a1 1, a1 2, a1 3, a1 4, a1 5, a1 6, a1 7⟩
end
def rowC (D : List Int) (n : Nat) : List Value := (List.range n).map fun i => I (cntK D i)
theorem rowC_at (D : List Int) {n i : Nat} (h : i < n) : (rowC D n)[i]? = some (I (cntK D i)) := by simp [rowC, h]
theorem rowC_set (D : List Int) {n i : Nat} (h : i < n) (hn : (i : Int) ∉ D) : (rowC D n).set i (I (cntK D i + 1)) = rowC (D ++ [(i : Int)]) n := by
  apply List.ext_getElem?
  intro j
  by_cases hj : j < n
  · rw [rowC_at _ hj]
    by_cases e : i = j
    · subst e
      rw [List.getElem?_set_self (by simp [rowC]; exact hj)]
      simp [cntK, hn]
    · rw [List.getElem?_set_ne e, rowC_at _ hj]
      have : ¬ ((j : Int) = i) := by omega
      simp [cntK, this]
  · rw [List.getElem?_eq_none (by simp [rowC]; omega), List.getElem?_eq_none (by simp [rowC]; omega)]
theorem rowC_zero (n : Nat) : rowC [] n = (madeCells (Value.int .i64 0).cells (n * 1)).toList := by
  apply List.ext_getElem?
  intro j
  by_cases hj : j < n
  · rw [rowC_at _ hj]
    simp [cntK, madeCells, Value.cells, hj]
    first | done | (rw [Nat.mod_one]; rfl) | rfl
  · rw [List.getElem?_eq_none (by simp [rowC]; omega), List.getElem?_eq_none (by simp [madeCells]; omega)]
end Go.Proofs.Ytmllocfeflhjoaa

namespace Go.Proofs.Ytmllocfeflhjoaa
open Go.RowKit Go.Maps Go.Shelf Go.Sort
open Go.Proofs.Ytmllocfeflhjoaa.St (Fx Fz iQ iP iV)
set_option linter.unusedVariables false
set_option linter.unusedSimpArgs false
set_option maxRecDepth 100000
set_option maxHeartbeats 16000000

/-! ### LockOne -/
theorem one_bar (w : World) (tb : Tb) (v : Ts) (ht : TbAt w tb v) (hw : WfT tb) (u : Value) (hc : chkP tb = false) : Calls Try.prog 3 #[.agg (tbC tb v), u] w fun e w' => e = .returned (.bool true) ∧ Below w.heap.size w w' := by
  have hb0 := below_alloc w (.cells (tbC tb v) 30)
  have hV := heap_alloc_new w (.cells (tbC tb v) 30)
  have hN := New_no _ tb v (ht.below hb0) hw hc
  have hH := heads_any
  obtain ⟨c0, c1, c2, c3, c4, c5, c6, c7, c8, c9, c10, c11, c12⟩ := var13 hV
  have HB : Hid (∀ w', Below (w.alloc (.cells (tbC tb v) 30)).heap.size (w.alloc (.cells (tbC tb v) 30)) w' → Below w.heap.size w w') := fun w' hb => hb0.trans (hb.mono hb0.size)
  clear ht hb0 hV hw hc
  unfold tbC at *
  go_enter Try.func3, Try.ntmps3
  go_upto_region 1 with fail
  generalize w.alloc (.cells #[I tb.uses, I tb.modes, .slice v.t.a v.t.n v.t.c, .slice v.g.a v.g.n v.g.c, .slice v.r.a v.r.n v.r.c, .slice v.k.a v.k.n v.k.c, .slice v.a.a v.a.n v.a.c, .slice v.i.a v.i.n v.i.c, .slice v.s.a v.s.n v.s.c, I tb.depth, I tb.frames, I tb.errors, I tb.calls] 30) = w1 at *
  go_wp2_with (first | (go_at_call 4; refine hN.mono ?_; clear hN; rintro e w2 ⟨rfl, hb2⟩) | (go_at_call 5; refine (hH _).mono ?_; rintro e w3 ⟨rfl, hb3⟩))
  go_ret
  exact ⟨rfl, HB.out _ (hb2.trans (hb3.mono hb2.size))⟩
theorem one_law (w : World) (tb : Tb) (v : Ts) (ht : TbAt w tb v) (hw : WfT tb) (sc : Sl) (l : List Cl) (hl : RowsAt w 8 clP sc l) : Calls Try.prog 3 #[.agg (tbC tb v), .slice sc.a sc.n sc.c] w fun e w' => e = .returned (.bool true) ∧ Below w.heap.size w w' := by
  cases hc : chkP tb with
  | false => exact one_bar w tb v ht hw _ hc
  | true =>
  obtain ⟨ii, hii, hi0, hi1, hi2⟩ := info_parts iinfo9
  have hb0 := below_alloc w (.cells (tbC tb v) 30)
  have hV := heap_alloc_new w (.cells (tbC tb v) 30)
  have hN := New_ok _ tb v (ht.below hb0) hw hc
  have hH := heads_any
  have ok := okt_of hc
  obtain ⟨c0, c1, c2, c3, c4, c5, c6, c7, c8, c9, c10, c11, c12⟩ := var13 hV
  have HT : Hid (∀ w', Below (w.alloc (.cells (tbC tb v) 30)).heap.size (w.alloc (.cells (tbC tb v) 30)) w' → Below w.heap.size w w' ∧ TbAt w' tb v ∧ RowsAt w' 8 clP sc l ∧ w'.cell? ⟨w.heap.size, 2, none⟩ = some (.slice v.t.a v.t.n v.t.c) ∧ w'.cell? ⟨w.heap.size, 4, none⟩ = some (.slice v.r.a v.r.n v.r.c) ∧ w'.cell? ⟨w.heap.size, 7, none⟩ = some (.slice v.i.a v.i.n v.i.c)) := fun w' hb => by
    have hlt := heap_lt hV
    exact ⟨hb0.trans (hb.mono hb0.size), (ht.below hb0).below hb, (hl.below hb0 (fun _ _ _ _ h => h)).below hb (fun _ _ _ _ h => h), (cell_below hb _ 2 hlt).trans c2, (cell_below hb _ 4 hlt).trans c4, (cell_below hb _ 7 hlt).trans c7⟩
  have HOK : Hid (OKt tb) := ok
  have HNN : Hid (v.t.n = tb.tasks.length ∧ v.r.n = tb.ress.length ∧ v.i.n = tb.isrs.length ∧ sc.n = l.length ∧ sc.n ≤ sc.c) := ⟨ht.t.n, ht.r.n, ht.i.n, hl.n, hl.c⟩
  have hsc : sc.c ≤ maxLen := hl.m
  have hrc : v.r.n ≤ v.r.c ∧ v.r.c ≤ 9223372036854775807 := ⟨ht.r.c, ht.r.m⟩
  have htc : v.t.n ≤ v.t.c ∧ v.t.c ≤ 9223372036854775807 := ⟨ht.t.c, ht.t.m⟩
  have hic : v.i.n ≤ v.i.c ∧ v.i.c ≤ 9223372036854775807 := ⟨ht.i.c, ht.i.m⟩
  have hn1 : v.t.n ≤ 256 := by rw [ht.t.n]; exact ok.tasks
  have hn2 : v.r.n ≤ 65 := by rw [ht.r.n]; exact ok.ress
  have hn3 : v.i.n ≤ 32 := by rw [ht.i.n]; exact ok.isrs
  have hsn : sc.n ≤ 9223372036854775807 := by have := hl.c; unfold maxLen at hsc; omega
  clear ht hb0 hV hw hc hl ok
  unfold tbC at *
  go_enter Try.func3, Try.ntmps3
  go_upto_region 1 with fail
  generalize w.alloc (.cells #[I tb.uses, I tb.modes, .slice v.t.a v.t.n v.t.c, .slice v.g.a v.g.n v.g.c, .slice v.r.a v.r.n v.r.c, .slice v.k.a v.k.n v.k.c, .slice v.a.a v.a.n v.a.c, .slice v.i.a v.i.n v.i.c, .slice v.s.a v.s.n v.s.c, I tb.depth, I tb.frames, I tb.errors, I tb.calls] 30) = w1 at *
  go_upto_region 6 with (first | (go_at_call 4; refine hN.mono ?_; clear hN; rintro e w2 ⟨B, Z, y, rfl, hl2, hb2, hM, hZ⟩) | (go_at_call 5; refine (hH _).mono ?_; rintro e w3 ⟨rfl, hb3⟩))
  have HI : Hid (One w1 w3 w1.heap.size tb Z y B zeroL) := ⟨hl2.below hb3, hb2.trans (hb3.mono hb2.size), Nat.le_refl _, hM, fun b hb => Nat.lt_of_lt_of_le (hZ b hb).2 hb3.size⟩
  clear c0 c1 c2 c3 c4 c5 c6 c7 c8 c9 c10 c11 c12 hl2 hb2 hM hZ hb3 hH
  go_wp2
  go_loopw [7, 8, 9, 10, 11, 12, 13, 14, 15, 16, 17, 18] (fun v7 _ _ _ _ _ _ _ _ _ _ _ wr => ∃ k : Nat, k ≤ sc.n ∧ v7 = I k ∧ Hid (∃ s, One w1 wr w1.heap.size tb Z y B s)) (fun v7 _ _ _ _ _ _ _ _ _ _ _ _ => sc.n - (intOf v7).toNat)
  case atStart => exact ⟨0, by omega, rfl, _, HI.out⟩
  case round =>
    clear HI
    obtain ⟨k, hk, rfl, HJ⟩ := hrel
    by_cases hlt : k < sc.n
    · have hltI : (k : Int) < sc.n := by omega
      obtain ⟨s, hJ⟩ := HJ.out
      obtain ⟨x, hx⟩ : ∃ x, l[k]? = some x := ⟨_, List.getElem?_eq_getElem (by rw [← HNN.out.2.2.2.1]; exact hlt)⟩
      obtain ⟨-, -, hrow, -, -, -⟩ := HT.out wr hJ.b
      obtain ⟨g, off, f1, f2, q0, q1, q2, q3, q4, q5, q6, q7, hwo, hwn⟩ := call_at hrow hx
      rw [f1]
      have hV2 := heap_alloc_new wr (.cells (clA x) 42)
      have HJ2 : Hid (One w1 (wr.alloc (.cells (clA x) 42)) w1.heap.size tb Z y B s ∧ (wr.alloc (.cells (clA x) 42)).heap[wr.heap.size]? = some (.cells (clA x) 42) ∧ (∀ b, y.M B b → b < wr.heap.size)) := ⟨hJ.below (below_alloc _ _), hV2, fun b => hJ.l.lts⟩
      have HW : Hid (x.o.wf ∧ (Lit.int .i64 x.n).wf = true) := ⟨hwo, hwn⟩
      clear HJ hJ hrow hx hV2 hwo hwn f1
      go_upto_region 10 with fail
      clear q0 q1 q2 q3 q4 q5 q6 q7
      unfold clA at HJ2
      generalize (wr.alloc (.cells #[I x.kind, .bool x.o.isr, I x.o.id, I x.n, .bool x.all, .bool x.g.shut, I x.g.all, I x.g.os] 42)) = w4 at *
      generalize wr.heap.size = Q at *
      obtain ⟨p0, p1, p2, p3, p4, p5, p6, p7⟩ := call_box (x := x) HJ2.out.2.1
      go_upto_block 2 with fail
      go_cut [9] from 42 to 87 (fun _ wz => ∃ s, Hid (One w1 wz w1.heap.size tb Z y B s))
      case first =>
        by_cases k2 : x.kind = 2
        · have hR := Release_some HJ2.out.1.l x.o HW.out.1 x.n
          have kb : (x.kind == 2) = true := beq_iff_eq.2 k2
          clear k2
          go_wp2_with (first | (go_at_call 6; refine hR.mono ?_; clear hR; rintro e w5 ⟨⟨vv, rfl⟩, ⟨s', h5⟩, hf5⟩; have HK : Hid (One w1 w5 w1.heap.size tb Z y B s') := HJ2.out.1.step h5 hf5; clear h5 hf5))
          go_meet
          case rel => exact ⟨_, HK.out⟩
        · have k2b : (x.kind == 2) = false := beq_eq_false_iff_ne.2 k2
          by_cases k4 : x.kind = 4
          · have hR := Enter_some HJ2.out.1.l x.n HW.out.2
            have kb : (x.kind == 4) = true := beq_iff_eq.2 k4
            clear k2 k4
            go_wp2_with (first | (go_at_call 7; refine hR.mono ?_; clear hR; rintro e w5 ⟨⟨vv, rfl⟩, ⟨s', h5⟩, hf5⟩; have HK : Hid (One w1 w5 w1.heap.size tb Z y B s') := HJ2.out.1.step h5 hf5; clear h5 hf5))
            go_meet
            case rel => exact ⟨_, HK.out⟩
          · have k4b : (x.kind == 4) = false := beq_eq_false_iff_ne.2 k4
            by_cases k1 : x.kind = 1
            · have hP := Priority_any HJ2.out.1.l x.o HW.out.1
              have kb : (x.kind == 1) = true := beq_iff_eq.2 k1
              clear k2 k4 k1
              go_upto_region 17 with (first | (go_at_call 8; refine hP.mono ?_; clear hP; rintro e w5 ⟨rfl, hb5⟩))
              have HK : Hid (One w1 w5 w1.heap.size tb Z y B s ∧ w5.heap[Q]? = some (.cells (clA x) 42)) := ⟨HJ2.out.1.below hb5, (hb5.block _ (heap_lt HJ2.out.2.1)).trans HJ2.out.2.1⟩
              clear p0 p1 p2 p3 p4 p5 p6 p7 hb5
              obtain ⟨p0, p1, p2, p3, p4, p5, p6, p7⟩ := call_box (x := x) HK.out.2
              have hG := Get_some HK.out.1.l x.o HW.out.1 x.n HW.out.2
              clear p0
              go_wp2_with (first | (go_at_call 9; refine hG.mono ?_; clear hG))
              rintro e w6 ⟨hor, hf6⟩
              have hQ6 := hf6.heap HK.out.2 (fun e => by have := HJ2.out.2.2 Q e; omega)
              clear p1 p2 p3 p4 p5 p6 p7
              obtain ⟨p0, p1, p2, p3, p4, p5, p6, p7⟩ := call_box (x := x) hQ6
              rcases hor with ⟨vv, rfl, hv0, h6⟩ | ⟨rfl, ha6, hn6, h6⟩
              · have hvb : (vv == 0) = false := beq_eq_false_iff_ne.2 hv0
                have HK6 : Hid (One w1 w6 w1.heap.size tb Z y B s) := HK.out.1.step h6 hf6
                clear h6 hf6 hQ6 hv0 p0
                go_wp2
                go_meet
                case rel => exact ⟨_, HK6.out⟩
              · have HK6 : Hid (One w1 w6 w1.heap.size tb Z y B ⟨s.L ++ [(x.o, x.n)], s.i, s.g⟩) := HK.out.1.step h6 hf6
                have HA6 : Hid (asks tb x.o x.n = true ∧ hdr s.L x.n = none ∧ Lk w6 tb Z y B ⟨s.L ++ [(x.o, x.n)], s.i, s.g⟩ ∧ w6.heap[Q]? = some (.cells (clA x) 42)) := ⟨ha6, hn6, h6, hQ6⟩
                clear h6 hf6 hQ6 p0 ha6 hn6
                rcases Bool.eq_false_or_eq_true x.all with ha | ha
                · have hB6 := Back_ok HA6.out.2.2.1 HW.out.1 HA6.out.1 HA6.out.2.1
                  rw [ha] at p4
                  clear ha
                  go_wp2_with (first
                    | (go_at_call 6; refine hB6.mono ?_; clear hB6; rintro e w7 ⟨rfl, h7, hf7⟩; have HK7 : Hid (One w1 w7 w1.heap.size tb Z y B s) := HK6.out.step h7 hf7; have hQ7 := hf7.heap HA6.out.2.2.2 (fun e => by have := HJ2.out.2.2 Q e; omega); have hP7 := Priority_any h7 x.o HW.out.1; clear p1 p2 p3 p4 p5 p6 p7 h7 hf7; obtain ⟨-, p1, p2, p3, p4, p5, p6, p7⟩ := call_box (x := x) hQ7; clear hQ7)
                    | (go_at_call 8; refine hP7.mono ?_; clear hP7; rintro e w8 ⟨rfl, hb8⟩; have HK8 : Hid (One w1 w8 w1.heap.size tb Z y B s) := HK7.out.below hb8; clear hb8))
                  go_meet
                  case rel => exact ⟨_, HK8.out⟩
                · rw [ha] at p4
                  clear ha
                  go_wp2
                  go_meet
                  case rel => exact ⟨_, HK6.out⟩
            · have k1b : (x.kind == 1) = false := beq_eq_false_iff_ne.2 k1
              clear k1 k2 k4
              go_wp2
              go_meet
              case rel => exact ⟨_, HJ2.out.1⟩
      case rest =>
        obtain ⟨s5, HK⟩ := hcut
        clear p0 p1 p2 p3 p4 p5 p6 p7 HJ2 HW
        obtain ⟨-, -, -, t2, t4, t7⟩ := HT.out wc HK.out.b
        obtain ⟨w6, hmk, ho6, hg6⟩ := run_make_full (P := Try.prog) wc wc.heap.size 47 3 ii _ 1 Try.underlying47 hii hi0 hi1 .i64 .i64 v.r.n (by rw [hi2]; omega) (by unfold maxLen; omega) (Nat.le_refl _)
        have b6 : Below wc.heap.size wc w6 := ⟨hg6.os, hg6.tape, hg6.output, hg6.size, fun i hi => hg6.block i hi (by simp)⟩
        have HC : Hid (One w1 w6 w1.heap.size tb Z y B s5 ∧ w6.ownsRow wc.heap.size 3 1 (.slice (some ⟨wc.heap.size, 0, none⟩) v.r.n v.r.n) v.r.n (rowC (seenK tb s5.L 0) v.r.n)) := ⟨HK.out.below b6, by rw [show seenK tb s5.L 0 = [] from rfl, rowC_zero]; exact ho6⟩
        have HCC : Hid (w1.heap.size ≤ wc.heap.size ∧ (∀ b, y.M B b → b < wc.heap.size) ∧ ∀ b, Z b → b < wc.heap.size) := ⟨HK.out.sz, fun b hb => HK.out.l.lts hb, HK.out.z⟩
        clear ho6 hg6 b6 HK
        generalize wc.heap.size = C at *
        go_upto_region 21 with fail
        clear t2 t4 t7 hmk
        go_wp2
        go_loopw [11, 12, 13, 14, 15, 16, 17, 18] (fun v11 _ _ _ _ _ _ _ wr => ∃ k2 : Nat, k2 ≤ v.t.n + v.i.n ∧ v11 = I k2 ∧ Hid (One w1 wr w1.heap.size tb Z y B s5 ∧ wr.ownsRow C 3 1 (.slice (some ⟨C, 0, none⟩) v.r.n v.r.n) v.r.n (rowC (seenK tb s5.L k2) v.r.n))) (fun v11 _ _ _ _ _ _ _ _ => v.t.n + v.i.n - (intOf v11).toNat)
        case atStart => exact ⟨0, by omega, rfl, HC.out⟩
        case round =>
          clear HC
          obtain ⟨k2, hk2, rfl, HL⟩ := hrel
          obtain ⟨-, htt, -, t2, t4, t7⟩ := HT.out wr HL.out.1.b
          by_cases hlt2 : k2 < v.t.n + v.i.n
          · have hlt2I : (k2 : Int) < (v.t.n : Int) + v.i.n := by omega
            have hV3 := heap_alloc_new wr (.cells #[.bool false, I k2] 38)
            have HM : Hid (One w1 (wr.alloc (.cells #[.bool false, I k2] 38)) w1.heap.size tb Z y B s5 ∧ (wr.alloc (.cells #[.bool false, I k2] 38)).ownsRow C 3 1 (.slice (some ⟨C, 0, none⟩) v.r.n v.r.n) v.r.n (rowC (seenK tb s5.L k2) v.r.n) ∧ (wr.alloc (.cells #[.bool false, I k2] 38)).heap[wr.heap.size]? = some (.cells #[.bool false, I k2] 38)) := ⟨HL.out.1.below (below_alloc _ _), own_below HL.out.2 (below_alloc _ _), hV3⟩
            have HO : Hid (C < wr.heap.size ∧ (∀ b, y.M B b → b < wr.heap.size) ∧ (∀ b, Z b → b < wr.heap.size) ∧ w1.heap.size ≤ wr.heap.size) := ⟨(HL.out.2.lt C rfl).2, fun b hb => HL.out.1.l.lts hb, HL.out.1.z, HL.out.1.sz⟩
            clear hV3 HL htt
            go_upto_region 25 with fail
            clear t2 t4 t7
            generalize wr.alloc (.cells #[.bool false, I k2] 38) = w7 at *
            generalize wr.heap.size = O at *
            obtain ⟨-, htt, -, t2, t4, t7⟩ := HT.out w7 HM.out.1.b
            go_upto_if 109 with fail
            go_cut [] from 105 to 115 (fun wx => Hid (One w1 wx w1.heap.size tb Z y B s5 ∧ wx.ownsRow C 3 1 (.slice (some ⟨C, 0, none⟩) v.r.n v.r.n) v.r.n (rowC (seenK tb s5.L k2) v.r.n) ∧ wx.heap[O]? = some (.cells #[.bool (ownK tb k2).isr, I (ownK tb k2).id] 38)))
            case first =>
              by_cases hT : k2 < v.t.n
              · have hge : ¬ ((v.t.n : Int) ≤ k2) := by omega
                have HOK2 : Hid (ownK tb k2 = ⟨false, (k2 : Int)⟩) := by show _ = _; unfold ownK; rw [if_pos (by rw [← HNN.out.1]; exact hT)]
                clear htt hT
                go_wp2
                go_meet
                case rel => rw [HOK2.out]; exact HM.out
              · have hge : (v.t.n : Int) ≤ k2 := by omega
                have HOK2 : Hid (ownK tb k2 = ⟨true, (k2 : Int) - v.t.n⟩) := by show _ = _; unfold ownK; rw [if_neg (by rw [← HNN.out.1]; exact hT), HNN.out.1]
                have o0 : w7.cell? ⟨O, 0, none⟩ = some (.bool false) := by rw [cell_of_row _ _ _ _ _ (0, 0) HM.out.2.2]; rfl
                have o1 : w7.cell? ⟨O, 1, none⟩ = some (I k2) := by rw [cell_of_row _ _ _ _ _ (0, 0) HM.out.2.2]; rfl
                have o2 : ∀ j, w7.frozen? ⟨O, j, none⟩ = false := fun j => frozen_of_row _ _ j _ _ HM.out.2.2
                have hF : Fz (fun b => b = O) w7 ((w7.setCell ⟨O, 0, none⟩ (.bool true)).setCell ⟨O, 1, none⟩ (I ((k2 : Int) - v.t.n))) := ((Fz.refl (fun b => b = O) w7).set (.inl rfl) _ _).set (.inl rfl) _ _
                have HM2 : Hid (One w1 ((w7.setCell ⟨O, 0, none⟩ (.bool true)).setCell ⟨O, 1, none⟩ (I ((k2 : Int) - v.t.n))) w1.heap.size tb Z y B s5 ∧ ((w7.setCell ⟨O, 0, none⟩ (.bool true)).setCell ⟨O, 1, none⟩ (I ((k2 : Int) - v.t.n))).ownsRow C 3 1 (.slice (some ⟨C, 0, none⟩) v.r.n v.r.n) v.r.n (rowC (seenK tb s5.L k2) v.r.n) ∧ ((w7.setCell ⟨O, 0, none⟩ (.bool true)).setCell ⟨O, 1, none⟩ (I ((k2 : Int) - v.t.n))).heap[O]? = some (.cells #[.bool true, I ((k2 : Int) - v.t.n)] 38)) := ⟨HM.out.1.kept hF (fun b e => by rw [e]; exact HO.out.2.2.2) (fun b hb e => by have := HO.out.2.1 b hb; omega) (fun b hb e => by have := HO.out.2.2.1 b hb; omega), hF.own HM.out.2.1 (fun g e e2 => by have := HO.out.1; simp [Value.ownBlock] at e; omega), heap_setCell_same _ _ 1 _ _ _ (heap_setCell_same _ _ 0 _ _ _ HM.out.2.2)⟩
                clear htt hT hF
                go_wp2
                go_meet
                case rel => rw [HOK2.out]; exact HM2.out
            case rest =>
              have HX := hcut
              clear hcut HM t2 t4 t7 htt
              obtain ⟨bo, hbo⟩ := ownK_obs (tb := tb) (k := k2) (by have := HNN.out; omega)
              have hwo := (HX.out.1.l.ps _ bo hbo).1
              have HPR : Hid (bo.prio ≤ prioO tb s5 (ownK tb k2) ∧ ∀ r ∈ hld s5.L (ownK tb k2), ceilOf tb r ≤ prioO tb s5 (ownK tb k2)) := prio_ge hbo
              have HBO : Hid (obs tb (ownK tb k2) = some bo ∧ (ownK tb k2).wf) := ⟨hbo, hwo⟩
              have b0 : wc.cell? ⟨O, 0, none⟩ = some (.bool (ownK tb k2).isr) := by rw [cell_of_row _ _ _ _ _ (0, 0) HX.out.2.2]; rfl
              have b1 : wc.cell? ⟨O, 1, none⟩ = some (I (ownK tb k2).id) := by rw [cell_of_row _ _ _ _ _ (0, 0) HX.out.2.2]; rfl
              have hP := Priority_any HX.out.1.l (ownK tb k2) hwo
              clear hbo hwo
              go_upto_region 28 with (first | (go_at_call 8; refine hP.mono ?_; clear hP; rintro e w8 ⟨rfl, hb8⟩))
              have HX8 : Hid (One w1 w8 w1.heap.size tb Z y B s5 ∧ w8.ownsRow C 3 1 (.slice (some ⟨C, 0, none⟩) v.r.n v.r.n) v.r.n (rowC (seenK tb s5.L k2) v.r.n) ∧ w8.heap[O]? = some (.cells #[.bool (ownK tb k2).isr, I (ownK tb k2).id] 38)) := ⟨HX.out.1.below hb8, own_below HX.out.2.1 hb8, (hb8.block _ (heap_lt HX.out.2.2)).trans HX.out.2.2⟩
              clear HX b0 b1 hb8
              have b0 : w8.cell? ⟨O, 0, none⟩ = some (.bool (ownK tb k2).isr) := by rw [cell_of_row _ _ _ _ _ (0, 0) HX8.out.2.2]; rfl
              have b1 : w8.cell? ⟨O, 1, none⟩ = some (I (ownK tb k2).id) := by rw [cell_of_row _ _ _ _ _ (0, 0) HX8.out.2.2]; rfl
              have hP := Held_any HX8.out.1.l (ownK tb k2) HBO.out.2
              go_upto_region 29 with (first | (go_at_call 10; refine hP.mono ?_; clear hP; rintro e w9 ⟨hv, rfl, hO9, hb9⟩; obtain ⟨ha, hcap, rfl⟩ := own_slk19 hO9))
              obtain ⟨N5, hN5⟩ : ∃ N5, N5 = (hld s5.L (ownK tb k2)).length := ⟨_, rfl⟩
              rw [← hN5] at hO9 ⊢
              have HN5 : Hid (N5 = (hld s5.L (ownK tb k2)).length) := hN5
              have hN65 : N5 ≤ 1024 := by
                obtain ⟨_, _, _, hB5, _⟩ := HX8.out.1.l.ps _ bo HBO.out.1
                obtain ⟨hi5, hk5⟩ := hB5.k
                have h1 := hk5.le
                have h2 := hk5.m
                omega
              have HX9 : Hid (One w1 w9 w1.heap.size tb Z y B s5 ∧ w9.ownsRow C 3 1 (.slice (some ⟨C, 0, none⟩) v.r.n v.r.n) v.r.n (rowC (seenK tb s5.L k2 ++ (hld s5.L (ownK tb k2)).take 0) v.r.n) ∧ w9.heap[O]? = some (.cells #[.bool (ownK tb k2).isr, I (ownK tb k2).id] 38) ∧ w9.ownsRow w8.heap.size 3 1 (.slice ha N5 hcap) N5 (iV (hld s5.L (ownK tb k2)))) := ⟨HX8.out.1.below hb9, by rw [List.take_zero, List.append_nil]; exact own_below HX8.out.2.1 hb9, (hb9.block _ (heap_lt HX8.out.2.2)).trans HX8.out.2.2, hO9⟩
              have HLT : Hid (C < w8.heap.size ∧ O < w8.heap.size ∧ C < O) := ⟨(HX8.out.2.1.lt C rfl).2, heap_lt HX8.out.2.2, HO.out.1⟩
              clear HX8 b0 b1 hb9 hO9 hN5
              generalize w8.heap.size = S8 at *
              go_wp2
              go_loopw [15, 16, 17, 18] (fun v15 _ _ _ wr => ∃ j : Nat, j ≤ N5 ∧ v15 = I j ∧ Hid (One w1 wr w1.heap.size tb Z y B s5 ∧ wr.ownsRow C 3 1 (.slice (some ⟨C, 0, none⟩) v.r.n v.r.n) v.r.n (rowC (seenK tb s5.L k2 ++ (hld s5.L (ownK tb k2)).take j) v.r.n) ∧ wr.heap[O]? = some (.cells #[.bool (ownK tb k2).isr, I (ownK tb k2).id] 38) ∧ wr.ownsRow S8 3 1 (.slice ha N5 hcap) N5 (iV (hld s5.L (ownK tb k2))))) (fun v15 _ _ _ _ => N5 - (intOf v15).toNat)
              case atStart => exact ⟨0, by omega, rfl, HX9.out⟩
              case round =>
                clear HX9
                obtain ⟨j, hj, rfl, HY⟩ := hrel
                by_cases hj2 : j < N5
                · have hj2I : (j : Int) < N5 := by omega
                  obtain ⟨r, hr⟩ : ∃ r, (hld s5.L (ownK tb k2))[j]? = some r := ⟨_, List.getElem?_eq_getElem (by rw [← HN5.out]; exact hj2)⟩
                  have hrm := List.mem_of_getElem? hr
                  obtain ⟨b', hb', hro⟩ := HY.out.1.l.ok.own _ r (mem_hld.1 hrm)
                  obtain ⟨hr0, x5, hx5, -, -⟩ := (HOK.out.own _ b' hb').2 r hro
                  obtain ⟨rn, rfl⟩ := Int.eq_ofNat_of_zero_le hr0
                  rw [Int.toNat_natCast] at hx5
                  have hrn : rn < v.r.n := by rw [HNN.out.2.1]; exact (List.getElem?_eq_some_iff.1 hx5).1
                  have hce : ¬ (prioO tb s5 (ownK tb k2) < x5.ceil) := by
                    have := HPR.out.2 _ hrm
                    unfold ceilOf at this
                    rw [Int.toNat_natCast, hx5] at this
                    have h2 : x5.ceil ≤ prioO tb s5 (ownK tb k2) := this
                    omega
                  have hnew := seen_new HY.out.1.l.ok.nd hr
                  obtain ⟨-, htt, -, t2, t4, t7⟩ := HT.out wr HY.out.1.b
                  obtain ⟨g6, off6, e6, -, z0, z1⟩ := rsr_at htt hx5
                  rw [e6] at t4
                  obtain ⟨g5, c5, e5⟩ : ∃ g c, Value.slice ha N5 hcap = .slice (some ⟨g, 0, none⟩) N5 c := by
                    rcases HY.out.2.2.2.2 with ⟨h1, h2⟩ | ⟨g, cap, cur, h1, _⟩
                    · omega
                    · exact ⟨g, cap, h1⟩
                  cases e5
                  have y5 : wr.cell? ⟨g5, j, none⟩ = some (I (rn : Int)) := by rw [HY.out.2.2.2.cellAt j (by omega)]; simp [iV, hr]
                  have hg5 := HY.out.2.2.2.lt g5 rfl
                  have yC : wr.cell? ⟨C, rn, none⟩ = some (I 0) := by
                    rw [HY.out.2.1.cellAt rn (by simp [rowC]; exact hrn), rowC_at _ hrn]
                    simp only [cntK, if_neg hnew]
                  have yF := HY.out.2.1.frozenAt rn
                  have HFz : Hid (Fz (fun b => b = C) wr (wr.setCell ⟨C, rn, none⟩ (I 1))) := (Fz.refl (fun b => b = C) wr).set (.inl rfl) _ _
                  have HY2 : Hid (One w1 (wr.setCell ⟨C, rn, none⟩ (I 1)) w1.heap.size tb Z y B s5 ∧ (wr.setCell ⟨C, rn, none⟩ (I 1)).ownsRow C 3 1 (.slice (some ⟨C, 0, none⟩) v.r.n v.r.n) v.r.n (rowC (seenK tb s5.L k2 ++ (hld s5.L (ownK tb k2)).take (j + 1)) v.r.n) ∧ (wr.setCell ⟨C, rn, none⟩ (I 1)).heap[O]? = some (.cells #[.bool (ownK tb k2).isr, I (ownK tb k2).id] 38) ∧ (wr.setCell ⟨C, rn, none⟩ (I 1)).ownsRow S8 3 1 (.slice (some ⟨g5, 0, none⟩) N5 hcap) N5 (iV (hld s5.L (ownK tb k2))) ∧ (wr.setCell ⟨C, rn, none⟩ (I 1)).cell? ⟨C, rn, none⟩ = some (I 1)) := by
                    have hs1 := (HY.out.2.1.stored rn (I 1)).1
                    have hset := rowC_set (seenK tb s5.L k2 ++ (hld s5.L (ownK tb k2)).take j) hrn hnew
                    have hc0 : cntK (seenK tb s5.L k2 ++ (hld s5.L (ownK tb k2)).take j) rn = 0 := by unfold cntK; rw [if_neg hnew]
                    rw [hc0] at hset
                    have hset2 : (rowC (seenK tb s5.L k2 ++ (hld s5.L (ownK tb k2)).take j) v.r.n).set rn (I 1) = rowC (seenK tb s5.L k2 ++ (hld s5.L (ownK tb k2)).take (j + 1)) v.r.n := by
                      rw [List.take_add_one, hr, Option.toList_some, ← List.append_assoc]
                      exact hset
                    rw [hset2] at hs1
                    refine ⟨HY.out.1.kept HFz.out (fun b e => by rw [e]; exact HCC.out.1) (fun b hb e => by have := HCC.out.2.1 b hb; omega) (fun b hb e => by have := HCC.out.2.2 b hb; omega), hs1, HFz.out.heap HY.out.2.2.1 (fun e => by have := HLT.out.2.2; omega), HFz.out.own HY.out.2.2.2 (fun g e e2 => by have h1 := (HY.out.2.2.2.lt g e).1; have h2 := HLT.out.1; omega), ?_⟩
                    rw [hs1.cellAt rn (by simp [rowC]; exact hrn), rowC_at _ hrn]
                    have : ((rn : Nat) : Int) ∈ seenK tb s5.L k2 ++ (hld s5.L (ownK tb k2)).take (j + 1) := by
                      rw [List.take_add_one, hr, Option.toList_some]
                      simp
                    unfold cntK
                    rw [if_pos this]
                  have HHd : Hid (hdr s5.L (rn : Int) = some (ownK tb k2)) := hdr_mem HY.out.1.l.ok.nd (mem_hld.1 hrm)
                  have hrnI : (rn : Int) < v.r.n := by omega
                  have hrnN : ¬ ((rn : Int) < 0) := by omega
                  have hrnG : ¬ ((v.r.n : Int) ≤ rn) := by omega
                  have hwr : (Lit.int .i64 (rn : Int)).wf = true := WalkArith.wf_i64 (by omega)
                  have hHo := Holder_any HY2.out.1.l (rn : Int) hwr
                  rw [HHd.out] at hHo
                  simp only [ozV, ov, Option.isSome_some] at hHo
                  clear hr hrm hb' hro hr0 hx5 hnew htt t2 t7 e6 HY HHd hwr hg5
                  go_upto_region 36 with fail
                  clear z0 z1 t4 y5 yC yF
                  have hY5 := HY2.out
                  have HY5 : Hid _ := hY5
                  clear HY2 HFz hY5
                  generalize wr.setCell ⟨C, rn, none⟩ (I 1) = w10 at *
                  go_upto_region 37 with (first | (go_at_call 11; refine hHo.mono ?_; clear hHo; rintro e w11 ⟨rfl, hb11⟩))
                  have hb12 := below_alloc w11 (.cells #[.bool (ownK tb k2).isr, I (ownK tb k2).id] 38)
                  have hb13 : Below w10.heap.size w10 (w11.alloc (.cells #[.bool (ownK tb k2).isr, I (ownK tb k2).id] 38)) := hb11.trans (hb12.mono hb11.size)
                  have HY6 : Hid (One w1 (w11.alloc (.cells #[.bool (ownK tb k2).isr, I (ownK tb k2).id] 38)) w1.heap.size tb Z y B s5 ∧ (w11.alloc (.cells #[.bool (ownK tb k2).isr, I (ownK tb k2).id] 38)).ownsRow C 3 1 (.slice (some ⟨C, 0, none⟩) v.r.n v.r.n) v.r.n (rowC (seenK tb s5.L k2 ++ (hld s5.L (ownK tb k2)).take (j + 1)) v.r.n) ∧ (w11.alloc (.cells #[.bool (ownK tb k2).isr, I (ownK tb k2).id] 38)).heap[O]? = some (.cells #[.bool (ownK tb k2).isr, I (ownK tb k2).id] 38) ∧ (w11.alloc (.cells #[.bool (ownK tb k2).isr, I (ownK tb k2).id] 38)).ownsRow S8 3 1 (.slice (some ⟨g5, 0, none⟩) N5 hcap) N5 (iV (hld s5.L (ownK tb k2)))) := ⟨HY5.out.1.below hb13, own_below HY5.out.2.1 hb13, (hb13.block _ (heap_lt HY5.out.2.2.1)).trans HY5.out.2.2.1, own_below HY5.out.2.2.2.1 hb13⟩
                  have yC : (w11.alloc (.cells #[.bool (ownK tb k2).isr, I (ownK tb k2).id] 38)).cell? ⟨C, rn, none⟩ = some (I 1) := (cell_below hb13 _ _ (World.block_lt_of_cell? _ _ HY5.out.2.2.2.2)).trans HY5.out.2.2.2.2
                  obtain ⟨m0, m1⟩ := box_own w11 (ownK tb k2)
                  have b0 : (w11.alloc (.cells #[.bool (ownK tb k2).isr, I (ownK tb k2).id] 38)).cell? ⟨O, 0, none⟩ = some (.bool (ownK tb k2).isr) := by rw [cell_of_row _ _ _ _ _ (0, 0) HY6.out.2.2.1]; rfl
                  have b1 : (w11.alloc (.cells #[.bool (ownK tb k2).isr, I (ownK tb k2).id] 38)).cell? ⟨O, 1, none⟩ = some (I (ownK tb k2).id) := by rw [cell_of_row _ _ _ _ _ (0, 0) HY6.out.2.2.1]; rfl
                  clear hb11 hb12 hb13 HY5
                  generalize w11.alloc (.cells #[.bool (ownK tb k2).isr, I (ownK tb k2).id] 38) = w12 at *
                  generalize w11.heap.size = Hx at *
                  go_wp2
                  go_roundw
                  case rel => exact ⟨j + 1, by omega, by go_num, HY6.out⟩
                  case measure => simp [intOf]; omega
                · obtain rfl : j = N5 := by omega
                  have hge5 : ¬ ((j : Int) < j) := by omega
                  have HZ : Hid (One w1 wr w1.heap.size tb Z y B s5 ∧ wr.ownsRow C 3 1 (.slice (some ⟨C, 0, none⟩) v.r.n v.r.n) v.r.n (rowC (seenK tb s5.L (k2 + 1)) v.r.n)) := ⟨HY.out.1, by rw [seen_succ, ← List.take_of_length_le (l := hld s5.L (ownK tb k2)) (i := j) (by rw [HN5.out]; exact Nat.le_refl _)]; exact HY.out.2.1⟩
                  have o0 : wr.cell? ⟨O, 0, none⟩ = some (.bool (ownK tb k2).isr) := by rw [cell_of_row _ _ _ _ _ (0, 0) HY.out.2.2.1]; rfl
                  have o1 : wr.cell? ⟨O, 1, none⟩ = some (I (ownK tb k2).id) := by rw [cell_of_row _ _ _ _ _ (0, 0) HY.out.2.2.1]; rfl
                  obtain ⟨-, htt, -, t2, t4, t7⟩ := HT.out wr HY.out.1.b
                  by_cases hT : k2 < v.t.n
                  · have hO2 : ownK tb k2 = ⟨false, (k2 : Int)⟩ := by unfold ownK; rw [if_pos (by rw [← HNN.out.1]; exact hT)]
                    rw [hO2] at o0 o1
                    obtain ⟨x6, hx6⟩ : ∃ x, tb.tasks[k2]? = some x := ⟨_, List.getElem?_eq_getElem (by rw [← HNN.out.1]; exact hT)⟩
                    have hpp : ¬ (prioO tb s5 (ownK tb k2) < x6.prio) := by
                      have h1 := HPR.out.1
                      have h2 := HBO.out.1
                      rw [hO2, obs_task hx6] at h2
                      cases h2
                      have h3 : x6.prio ≤ prioO tb s5 (ownK tb k2) := h1
                      omega
                    obtain ⟨g7, off7, s7, e7, -, z0, -, -, -, -, -, -, -, -⟩ := tkr_at htt hx6
                    rw [e7] at t2
                    have hTI : (k2 : Int) < v.t.n := by omega
                    clear hO2 hx6 htt e7 HY hT t4 t7
                    go_wp2
                    go_roundw
                    case rel => exact ⟨k2 + 1, by omega, by go_num, HZ.out⟩
                    case measure => simp [intOf]; omega
                  · obtain ⟨m, hm⟩ : ∃ m : Nat, m = k2 - v.t.n := ⟨_, rfl⟩
                    have hO2 : ownK tb k2 = ⟨true, (m : Int)⟩ := by unfold ownK; rw [if_neg (by rw [← HNN.out.1]; exact hT)]; congr 1; have := HNN.out.1; omega
                    rw [hO2] at o0 o1
                    have hmi : m < v.i.n := by omega
                    obtain ⟨x6, hx6⟩ : ∃ x, tb.isrs[m]? = some x := ⟨_, List.getElem?_eq_getElem (by rw [← HNN.out.2.2.1]; exact hmi)⟩
                    have hpp : ¬ (prioO tb s5 (ownK tb k2) < x6.prio) := by
                      have h1 := HPR.out.1
                      have h2 := HBO.out.1
                      rw [hO2, obs_isr hx6] at h2
                      cases h2
                      have h3 : x6.prio ≤ prioO tb s5 (ownK tb k2) := h1
                      omega
                    obtain ⟨g7, off7, s7, e7, -, -, z0, -, -⟩ := isr_at htt hx6
                    rw [e7] at t7
                    have hTI : (m : Int) < v.i.n := by omega
                    clear hO2 hx6 htt e7 HY hT t4 t2 hm
                    go_wp2
                    go_roundw
                    case rel => exact ⟨k2 + 1, by omega, by go_num, HZ.out⟩
                    case measure => simp [intOf]; omega
          · obtain rfl : k2 = v.t.n + v.i.n := by omega
            have hge2 : ¬ (((v.t.n + v.i.n : Nat) : Int) < (v.t.n : Int) + v.i.n) := by omega
            have HZ : Hid (One w1 wr w1.heap.size tb Z y B s5) := HL.out.1
            clear htt t4 HL
            go_wp2
            go_roundw
            case rel => exact ⟨k + 1, by omega, by go_num, _, HZ.out⟩
            case measure => simp [intOf]; omega
    · obtain rfl : k = sc.n := by omega
      have hge : ¬ ((sc.n : Int) < sc.n) := by omega
      obtain ⟨s, hJ⟩ := HJ.out
      have HZ : Hid (Below w.heap.size w wr) := (HT.out wr hJ.b).1
      clear HJ hJ
      go_wp2
      go_ret
      exact ⟨rfl, HZ.out⟩
end Go.Proofs.Ytmllocfeflhjoaa

