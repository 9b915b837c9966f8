import Derived.Test.YtapfbinaocaclaaEgX
import Derived.Test.YtapfbinaocaclaaErk8
import Derived.Test.YtapfbinaocaclaaEcy8
import Derived.Test.YtapfbinaocaclaaEez
namespace Go.Proofs.Ytapfbinaocaclaa
open Go.RowKit Go.Maps
set_option linter.unusedVariables false
set_option linter.unusedSimpArgs false

/-! ### CeilOwn: rows of their own that are written over -/
abbrev slV (s : Sl) : Value := .slice s.a s.n s.c
structure Frm (us : List Sl) (W0 W : World) : Prop where
  os : W.os = W0.os
  tape : W.tape = W0.tape
  output : W.output = W0.output
  size : W0.heap.size ≤ W.heap.size
  block : ∀ b, b < W0.heap.size → (∀ s ∈ us, (slV s).ownBlock ≠ some b) → W.heap[b]? = W0.heap[b]?
theorem Frm.refl (us : List Sl) (W : World) : Frm us W W := ⟨rfl, rfl, rfl, Nat.le_refl _, fun _ _ _ => rfl⟩
theorem Frm.grown {us : List Sl} {W0 W W' : World} (h : Frm us W0 W) {r : Option Nat} (hg : W.grownBy W' r) (hr : ∀ g, r = some g → g < W0.heap.size → ∃ s ∈ us, (slV s).ownBlock = some g) : Frm us W0 W' := by
  refine ⟨hg.os.trans h.os, hg.tape.trans h.tape, hg.output.trans h.output, Nat.le_trans h.size hg.size, fun b hb hne => ?_⟩
  refine (hg.block b (Nat.lt_of_lt_of_le hb h.size) (fun e => ?_)).trans (h.block b hb hne)
  obtain ⟨s, hs, e2⟩ := hr b e.symm hb
  exact hne s hs e2
theorem Frm.below {us : List Sl} {W0 W W' : World} (h : Frm us W0 W) (hb : Below W.heap.size W W') : Frm us W0 W' := h.grown (r := none) (grown_of_below hb) (fun g e => by cases e)
/-- Rows of their own, apart. -/
structure Sev (base : Nat) (us : List Sl) (ls : List (List Int)) (W0 W : World) : Prop where
  f : Frm us W0 W
  o : ∀ (i : Nat) (s : Sl) (l : List Int), us[i]? = some s → ls[i]? = some l → W.ownsRow base 3 1 (slV s) l.length (l.map fun x => I x)
  a : ∀ (i j : Nat) (s t : Sl), i ≠ j → us[i]? = some s → us[j]? = some t → Apt (slV s) (slV t)
  lt : ∀ s ∈ us, ∀ g, (slV s).ownBlock = some g → g < W0.heap.size
theorem Sev.store {base : Nat} {us : List Sl} {ls : List (List Int)} {W0 W : World} (h : Sev base us ls W0 W) {i : Nat} {s : Sl} {l : List Int} (hs : us[i]? = some s) (hl : ls[i]? = some l) {g : Nat} (hg : s.a = some ⟨g, 0, none⟩) (hn : s.n = l.length) (k : Nat) (x : Int) : Sev base us (ls.set i (l.set k x)) W0 (W.setCell ⟨g, k, none⟩ (I x)) := by
  have gs := grown_set W g k (I x)
  have hob : (slV s).ownBlock = some g := by unfold slV; rw [hg]; rfl
  refine ⟨h.f.grown gs (fun b e _ => by cases e; exact ⟨s, List.mem_of_getElem? hs, hob⟩), fun j t m ht hm => ?_, h.a, h.lt⟩
  by_cases hij : i = j
  · subst hij
    rw [hs] at ht
    cases ht
    rw [List.getElem?_set_self (List.getElem?_eq_some_iff.1 hl).1] at hm
    cases hm
    have ho := h.o i s l hs hl
    unfold slV at ho ⊢
    rw [hg, hn] at ho ⊢
    have h2 := (ho.stored k (I x)).1
    rw [List.length_set, List.map_set]
    exact h2
  · rw [List.getElem?_set_ne hij] at hm
    have h2 := own_kept_apt (W' := W.setCell ⟨g, k, none⟩ (I x)) (h.o j t m ht hm) (h.a j i t s (fun e => hij e.symm) ht hs) (by rw [hob]; exact gs)
    exact h2
/-- Once rows are grown: what they hold stands. -/
structure Hld (us : List Sl) (ls : List (List Int)) (W0 W : World) : Prop where
  f : Frm us W0 W
  c : ∀ (i : Nat) (s : Sl) (l : List Int), us[i]? = some s → ls[i]? = some l → ∀ (b : Nat), (slV s).ownBlock = some b → ∀ (j : Nat) (a : Int), l[j]? = some a → W.cell? ⟨b, j, none⟩ = some (I a)
/-- The first i rows are grown, the others still one's own. -/
structure Mx (base : Nat) (us : List Sl) (ls : List (List Int)) (i : Nat) (W0 W : World) : Prop where
  h : Hld us ls W0 W
  o : ∀ (j : Nat) (s : Sl) (l : List Int), i ≤ j → us[j]? = some s → ls[j]? = some l → W.ownsRow base 3 1 (slV s) l.length (l.map fun x => I x)
  a : ∀ (i j : Nat) (s t : Sl), i ≠ j → us[i]? = some s → us[j]? = some t → Apt (slV s) (slV t)
theorem Sev.mx {base : Nat} {us : List Sl} {ls : List (List Int)} {W0 W : World} (h : Sev base us ls W0 W) : Mx base us ls 0 W0 W := by
  refine ⟨⟨h.f, fun i s l hs hl b hb j a hj => ?_⟩, fun j s l _ hs hl => h.o j s l hs hl, h.a⟩
  have h7 := (h.o i s l hs hl).cells hb j (I a) (by rw [List.getElem?_map, hj]; rfl)
  rw [addr_add, Nat.zero_add] at h7
  exact h7
theorem Mx.step {base : Nat} {us : List Sl} {ls : List (List Int)} {i : Nat} {W0 W W' : World} (h : Mx base us ls i W0 W) {s : Sl} {l : List Int} (hs : us[i]? = some s) (hl : ls[i]? = some l) (hw : Gw W W' (slV s) (l.map fun x => I x)) : Mx base us ls (i + 1) W0 W' := by
  refine ⟨⟨h.h.f.grown hw.g (fun g e _ => ⟨s, List.mem_of_getElem? hs, e⟩), fun j t m ht hm b hb k a hk => ?_⟩, fun j t m hij ht hm => own_kept_apt (h.o j t m (by omega) ht hm) (h.a j i t s (by omega) ht hs) hw.g, h.a⟩
  by_cases hij : i = j
  · subst hij
    rw [hs] at ht
    cases ht
    rw [hl] at hm
    cases hm
    exact hw.c b hb k (I a) (by rw [List.getElem?_map, hk]; rfl)
  · exact hw.g.cell (h.h.c j t m ht hm b hb k a hk) (fun e => h.a j i t s (fun e2 => hij e2.symm) ht hs b hb e.symm)
/-- What lies in other blocks is kept. -/
theorem Frm.rows {us : List Sl} {W0 W : World} (h : Frm us W0 W) {base k n : Nat} {E : TypeId} {u : Value} {xs : List Value} (ho : W0.ownsRow base E k u n xs) (ha : ∀ s ∈ us, Apt u (slV s)) : W.ownsRow base E k u n xs := by
  refine ⟨ho.1, ?_⟩
  rcases ho.2 with h0 | ⟨g, cap, cur, hv, hb, hh, rest⟩
  · exact .inl h0
  · refine .inr ⟨g, cap, cur, hv, hb, ?_, rest⟩
    rw [h.block g (heap_lt hh) (fun s hs e => ha s hs g (by rw [hv]; rfl) e)]
    exact hh
end Go.Proofs.Ytapfbinaocaclaa

namespace Go.Proofs.Ytapfbinaocaclaa
open Go.RowKit Go.Maps
set_option linter.unusedVariables false
set_option linter.unusedSimpArgs false

/-! ### CeilOwn: what is written into the rows -/
def stR (j i k : Nat) (l : List Int) : List Int := l.mapIdx (fun m x => if j < i ∨ (j = i ∧ m < k) then 1000 * (j : Int) + (m : Int) else x)
def stL (ls : List (List Int)) (i k : Nat) : List (List Int) := ls.mapIdx (fun j l => stR j i k l)
theorem stR_len (j i k : Nat) (l : List Int) : (stR j i k l).length = l.length := by simp [stR]
theorem stR_at (j i k : Nat) (l : List Int) (m : Nat) : (stR j i k l)[m]? = l[m]?.map (fun x => if j < i ∨ (j = i ∧ m < k) then 1000 * (j : Int) + (m : Int) else x) := by unfold stR; rw [List.getElem?_mapIdx]
theorem stL_get (ls : List (List Int)) (i k j : Nat) : (stL ls i k)[j]? = ls[j]?.map (stR j i k) := by unfold stL; rw [List.getElem?_mapIdx]
theorem stL_at {ls : List (List Int)} {j : Nat} {l : List Int} (h : ls[j]? = some l) (i k : Nat) : (stL ls i k)[j]? = some (stR j i k l) := by rw [stL_get, h]; rfl
theorem stR_same {j i k i' k' : Nat} {l : List Int} (h : ∀ m, m < l.length → ((j < i ∨ (j = i ∧ m < k)) ↔ (j < i' ∨ (j = i' ∧ m < k')))) : stR j i k l = stR j i' k' l := by
  apply List.ext_getElem?
  intro m
  rw [stR_at, stR_at]
  cases hm : l[m]? with
  | none => rfl
  | some x =>
    have := h m (List.getElem?_eq_some_iff.1 hm).1
    simp only [Option.map_some, this]
theorem stL_zero (ls : List (List Int)) : stL ls 0 0 = ls := by
  apply List.ext_getElem?
  intro j
  rw [stL_get]
  cases ls[j]? with
  | none => rfl
  | some l =>
    rw [Option.map_some]
    congr 1
    apply List.ext_getElem?
    intro m
    rw [stR_at]
    cases l[m]? with
    | none => rfl
    | some x => simp
theorem stL_set {ls : List (List Int)} {i k : Nat} {l : List Int} (h : ls[i]? = some l) (hk : k < l.length) : (stL ls i k).set i ((stR i i k l).set k (1000 * (i : Int) + (k : Int))) = stL ls i (k + 1) := by
  have hi : i < (stL ls i k).length := (List.getElem?_eq_some_iff.1 (stL_at h i k)).1
  apply List.ext_getElem?
  intro j
  by_cases hj : i = j
  · subst hj
    rw [List.getElem?_set_self hi, stL_at h]
    congr 1
    apply List.ext_getElem?
    intro m
    by_cases hm : k = m
    · subst hm
      rw [List.getElem?_set_self (by rw [stR_len]; exact hk), stR_at, List.getElem?_eq_getElem hk]
      simp
    · rw [List.getElem?_set_ne hm, stR_at, stR_at]
      have : (m < k) ↔ (m < k + 1) := by omega
      simp [this]
  · rw [List.getElem?_set_ne hj, stL_get, stL_get]
    cases ls[j]? with
    | none => rfl
    | some l' => rw [Option.map_some, Option.map_some, stR_same (i' := i) (k' := k + 1) (fun m _ => by omega)]
theorem stL_next {ls : List (List Int)} {i : Nat} {l : List Int} (h : ls[i]? = some l) : stL ls i l.length = stL ls (i + 1) 0 := by
  apply List.ext_getElem?
  intro j
  rw [stL_get, stL_get]
  cases hl : ls[j]? with
  | none => rfl
  | some l' =>
    rw [Option.map_some, Option.map_some, stR_same (i' := i + 1) (k' := 0) (fun m hm => ?_)]
    by_cases hj : j = i
    · subst hj
      rw [h] at hl
      cases hl
      omega
    · omega
theorem stL_full {ls : List (List Int)} {i j k : Nat} {l : List Int} (h : (stL ls i 0)[j]? = some l) (hj : j < i) (hk : k < l.length) : l[k]? = some (1000 * (j : Int) + (k : Int)) := by
  rw [stL_get] at h
  obtain ⟨l', h1, rfl⟩ := Option.map_eq_some_iff.1 h
  rw [stR_len] at hk
  rw [stR_at, List.getElem?_eq_getElem hk, Option.map_some, if_pos (.inl hj)]

/-! ### CeilOwn: memory, where each answer lies in a window of its own -/
theorem own_same {W W' : World} {base k n : Nat} {E : TypeId} {u : Value} {xs : List Value} (ho : W.ownsRow base E k u n xs) (h : ∀ g, u.ownBlock = some g → W'.heap[g]? = W.heap[g]?) : W'.ownsRow base E k u n xs := by
  refine ⟨ho.1, ?_⟩
  rcases ho.2 with h0 | ⟨g, cap, cur, hv, hb, hh, rest⟩
  · exact .inl h0
  · exact .inr ⟨g, cap, cur, hv, hb, (h g (by rw [hv]; rfl)).trans hh, rest⟩
def Rng (u : Value) (lo hi : Nat) : Prop := ∀ g, u.ownBlock = some g → lo ≤ g ∧ g < hi
theorem rng_own {W : World} {base k n : Nat} {E : TypeId} {u : Value} {xs : List Value} (ho : W.ownsRow base E k u n xs) : Rng u base W.heap.size := fun g e => ho.lt g e
theorem Rng.apt {u v : Value} {a b c d : Nat} (h : Rng u a b) (k : Rng v c d) (hl : b ≤ c) : Apt u v := fun g e e' => by
  have := h g e
  have := k g e'
  omega
theorem OwnC.win {w w' W : World} {x : Ce} {s0 s2 s3 s4 : Sl} (h : OwnC w w' x s0 s2 s3 s4) (hb : ∀ b, w.heap.size ≤ b → b < w'.heap.size → W.heap[b]? = w'.heap[b]?) : OwnC w W x s0 s2 s3 s4 := by
  have e : ∀ {u : Value} {n : Nat} {xs : List Value}, w'.ownsRow w.heap.size 3 1 u n xs → W.ownsRow w.heap.size 3 1 u n xs := fun {u n xs} ho => own_same ho (fun g hg => hb g (ho.lt g hg).1 (ho.lt g hg).2)
  exact ⟨e h.a, e h.b, e h.c, e h.d, h.ap⟩
theorem CpO.win {w : World} {c : Cf} {tt tr ti : Sl} {W W' : World} (h : CpO w c tt tr ti W) (hb : ∀ b, w.heap.size ≤ b → b < W.heap.size → W'.heap[b]? = W.heap[b]?) : CpO w c tt tr ti W' := by
  obtain ⟨xt, t1, t2⟩ := h.t
  obtain ⟨xr, r1, r2⟩ := h.r
  obtain ⟨xi, i1, i2⟩ := h.i
  have e : ∀ (E k : Nat) (n : Nat) (u : Value) (xs : List Value), W.ownsRow w.heap.size E k u n xs → W'.ownsRow w.heap.size E k u n xs := fun E k n u xs ho => own_same ho (fun g hg => hb g (ho.lt g hg).1 (ho.lt g hg).2)
  exact ⟨⟨xt, e _ _ _ _ _ t1, t2.mono (tkO_mono (e _ _))⟩, ⟨xr, e _ _ _ _ _ r1, r2⟩, ⟨xi, e _ _ _ _ _ i1, i2.mono (isO_mono (e _ _))⟩⟩
/-- The answers of the calls, each world after a call and what it laid. -/
structure OwA (A0 A1 A2 A3 A4 A5 A6 A7 A8 A9 : World) (c : Cf) (X : Ce) (L1 L2 L3 : List Int) (s0 s2 s3 s4 y0 y2 y3 y4 t0 t2 t3 t4 sa sb st su sg tt tr ti : Sl) : Prop where
  b1 : Below A0.heap.size A0 A1
  x : OwnC A0 A1 X s0 s2 s3 s4
  b2 : Below A1.heap.size A1 A2
  y : OwnC A1 A2 X y0 y2 y3 y4
  b3 : Below A2.heap.size A2 A3
  a : A3.ownsRow A2.heap.size 3 1 (slV sa) L1.length (L1.map fun x => I x)
  b4 : Below A3.heap.size A3 A4
  b : A4.ownsRow A3.heap.size 3 1 (slV sb) L1.length (L1.map fun x => I x)
  b5 : Below A4.heap.size A4 A5
  t : A5.ownsRow A4.heap.size 3 1 (slV st) L2.length (L2.map fun x => I x)
  u : A5.ownsRow A4.heap.size 3 1 (slV su) L3.length (L3.map fun x => I x)
  tu : Apt (slV st) (slV su)
  b6 : Below A5.heap.size A5 A6
  w : OwnC A5 A6 X t0 t2 t3 t4
  b7 : Below A6.heap.size A6 A7
  g : A7.ownsRow A6.heap.size 3 1 (slV sg) L1.length (L1.map fun x => I x)
  b8 : Below A7.heap.size A7 A8
  cp : CpO A7 c tt tr ti A8
  b9 : Below A8.heap.size A8 A9
abbrev owU (s0 s2 s3 s4 sa st su : Sl) : List Sl := [s0, s2, s3, s4, sa, st, su]
abbrev owL (X : Ce) (L1 L2 L3 : List Int) : List (List Int) := [X.res, X.run, X.tks, X.isr, L1, L2, L3]
theorem rows_of {w : World} {b : Nat} {s : Sl} {l : List Int} (h : w.ownsRow b 3 1 (slV s) l.length (l.map fun x => I x)) : RowsAt w 1 intP s l := by
  obtain ⟨q, hq, hR⟩ := rows_ints h (l := l) rfl rfl
  injection hq with p1 p2 p3
  have : s = q := by cases s; cases q; simp_all
  rw [this]
  exact hR
section
variable {A0 A1 A2 A3 A4 A5 A6 A7 A8 A9 : World} {c : Cf} {X : Ce} {L1 L2 L3 : List Int} {s0 s2 s3 s4 y0 y2 y3 y4 t0 t2 t3 t4 sa sb st su sg tt tr ti : Sl}
theorem OwA.sizes (h : OwA A0 A1 A2 A3 A4 A5 A6 A7 A8 A9 c X L1 L2 L3 s0 s2 s3 s4 y0 y2 y3 y4 t0 t2 t3 t4 sa sb st su sg tt tr ti) : A0.heap.size ≤ A1.heap.size ∧ A1.heap.size ≤ A2.heap.size ∧ A2.heap.size ≤ A3.heap.size ∧ A3.heap.size ≤ A4.heap.size ∧ A4.heap.size ≤ A5.heap.size ∧ A5.heap.size ≤ A6.heap.size ∧ A6.heap.size ≤ A7.heap.size ∧ A7.heap.size ≤ A8.heap.size ∧ A8.heap.size ≤ A9.heap.size :=
  ⟨h.b1.size, h.b2.size, h.b3.size, h.b4.size, h.b5.size, h.b6.size, h.b7.size, h.b8.size, h.b9.size⟩
/-- From each world to the last. -/
theorem OwA.to (h : OwA A0 A1 A2 A3 A4 A5 A6 A7 A8 A9 c X L1 L2 L3 s0 s2 s3 s4 y0 y2 y3 y4 t0 t2 t3 t4 sa sb st su sg tt tr ti) : Below A0.heap.size A0 A9 ∧ Below A1.heap.size A1 A9 ∧ Below A2.heap.size A2 A9 ∧ Below A3.heap.size A3 A9 ∧ Below A4.heap.size A4 A9 ∧ Below A5.heap.size A5 A9 ∧ Below A6.heap.size A6 A9 ∧ Below A7.heap.size A7 A9 ∧ Below A8.heap.size A8 A9 := by
  have q8 := h.b9
  have q7 := h.b8.trans (q8.mono h.b8.size)
  have q6 := h.b7.trans (q7.mono h.b7.size)
  have q5 := h.b6.trans (q6.mono h.b6.size)
  have q4 := h.b5.trans (q5.mono h.b5.size)
  have q3 := h.b4.trans (q4.mono h.b4.size)
  have q2 := h.b3.trans (q3.mono h.b3.size)
  have q1 := h.b2.trans (q2.mono h.b2.size)
  have q0 := h.b1.trans (q1.mono h.b1.size)
  exact ⟨q0, q1, q2, q3, q4, q5, q6, q7, q8⟩
/-- Where the rows lie that are written over. -/
theorem OwA.rng (h : OwA A0 A1 A2 A3 A4 A5 A6 A7 A8 A9 c X L1 L2 L3 s0 s2 s3 s4 y0 y2 y3 y4 t0 t2 t3 t4 sa sb st su sg tt tr ti) : ∀ s ∈ owU s0 s2 s3 s4 sa st su, ∀ g, (slV s).ownBlock = some g → (A0.heap.size ≤ g ∧ g < A1.heap.size) ∨ (A2.heap.size ≤ g ∧ g < A3.heap.size) ∨ (A4.heap.size ≤ g ∧ g < A5.heap.size) := by
  intro s hs g hg
  simp only [owU, List.mem_cons, List.not_mem_nil, or_false] at hs
  rcases hs with rfl | rfl | rfl | rfl | rfl | rfl | rfl
  · exact .inl (h.x.a.lt g hg)
  · exact .inl (h.x.b.lt g hg)
  · exact .inl (h.x.c.lt g hg)
  · exact .inl (h.x.d.lt g hg)
  · exact .inr (.inl (h.a.lt g hg))
  · exact .inr (.inr (h.t.lt g hg))
  · exact .inr (.inr (h.u.lt g hg))
theorem OwA.apts (h : OwA A0 A1 A2 A3 A4 A5 A6 A7 A8 A9 c X L1 L2 L3 s0 s2 s3 s4 y0 y2 y3 y4 t0 t2 t3 t4 sa sb st su sg tt tr ti) : List.Pairwise (fun s t : Sl => Apt (slV s) (slV t)) (owU s0 s2 s3 s4 sa st su) := by
  obtain ⟨z1, z2, z3, z4, z5, z6, z7, z8, z9⟩ := h.sizes
  have ap := h.x.ap
  simp only [List.pairwise_cons, List.mem_cons, List.not_mem_nil, or_false, forall_eq_or_imp, forall_eq, false_implies, implies_true, List.Pairwise.nil, and_true] at ap
  obtain ⟨⟨a1, a2, a3⟩, ⟨a4, a5⟩, a6⟩ := ap
  have r0 := rng_own h.x.a
  have r2 := rng_own h.x.b
  have r3 := rng_own h.x.c
  have r4 := rng_own h.x.d
  have ra := rng_own h.a
  have rt := rng_own h.t
  have ru := rng_own h.u
  simp only [owU, List.pairwise_cons, List.mem_cons, List.not_mem_nil, or_false, forall_eq_or_imp, forall_eq, false_implies, implies_true, List.Pairwise.nil, and_true]
  exact ⟨⟨a1, a2, a3, r0.apt ra (by omega), r0.apt rt (by omega), r0.apt ru (by omega)⟩, ⟨a4, a5, r2.apt ra (by omega), r2.apt rt (by omega), r2.apt ru (by omega)⟩, ⟨a6, r3.apt ra (by omega), r3.apt rt (by omega), r3.apt ru (by omega)⟩, ⟨r4.apt ra (by omega), r4.apt rt (by omega), r4.apt ru (by omega)⟩, ⟨ra.apt rt (by omega), ra.apt ru (by omega)⟩, h.tu⟩
theorem OwA.sev (h : OwA A0 A1 A2 A3 A4 A5 A6 A7 A8 A9 c X L1 L2 L3 s0 s2 s3 s4 y0 y2 y3 y4 t0 t2 t3 t4 sa sb st su sg tt tr ti) : Sev A0.heap.size (owU s0 s2 s3 s4 sa st su) (owL X L1 L2 L3) A9 A9 := by
  obtain ⟨z1, z2, z3, z4, z5, z6, z7, z8, z9⟩ := h.sizes
  obtain ⟨q0, q1, q2, q3, q4, q5, q6, q7, q8⟩ := h.to
  refine ⟨Frm.refl _ _, fun i s l hs hl => ?_, fun i j s t hij hs ht => ?_, fun s hs g hg => ?_⟩
  · match i, hs, hl with
    | 0, hs, hl => cases hs; cases hl; exact own_below h.x.a q1
    | 1, hs, hl => cases hs; cases hl; exact own_below h.x.b q1
    | 2, hs, hl => cases hs; cases hl; exact own_below h.x.c q1
    | 3, hs, hl => cases hs; cases hl; exact own_below h.x.d q1
    | 4, hs, hl => cases hs; cases hl; exact own_mono (own_below h.a q3) (by omega)
    | 5, hs, hl => cases hs; cases hl; exact own_mono (own_below h.t q5) (by omega)
    | 6, hs, hl => cases hs; cases hl; exact own_mono (own_below h.u q5) (by omega)
    | n + 7, hs, hl => simp at hs
  · have hp := List.pairwise_iff_getElem.1 h.apts
    obtain ⟨hi, e1⟩ := List.getElem?_eq_some_iff.1 hs
    obtain ⟨hj, e2⟩ := List.getElem?_eq_some_iff.1 ht
    rcases Nat.lt_or_ge i j with hlt | hge
    · have := hp i j hi hj hlt
      rw [e1, e2] at this
      exact this
    · have := hp j i hj hi (by omega)
      rw [e1, e2] at this
      exact this.symm
  · have := h.rng s hs g hg
    omega
theorem OwA.win (h : OwA A0 A1 A2 A3 A4 A5 A6 A7 A8 A9 c X L1 L2 L3 s0 s2 s3 s4 y0 y2 y3 y4 t0 t2 t3 t4 sa sb st su sg tt tr ti) {W : World} (hf : Frm (owU s0 s2 s3 s4 sa st su) A9 W) : ∀ b, b < A9.heap.size → (b < A0.heap.size ∨ (A1.heap.size ≤ b ∧ b < A2.heap.size) ∨ (A3.heap.size ≤ b ∧ b < A4.heap.size) ∨ A5.heap.size ≤ b) → W.heap[b]? = A9.heap[b]? := fun b hb hP => hf.block b hb (fun s hs e => by
  obtain ⟨z1, z2, z3, z4, z5, z6, z7, z8, z9⟩ := h.sizes
  have := h.rng s hs b e
  omega)
theorem OwA.keep (h : OwA A0 A1 A2 A3 A4 A5 A6 A7 A8 A9 c X L1 L2 L3 s0 s2 s3 s4 y0 y2 y3 y4 t0 t2 t3 t4 sa sb st su sg tt tr ti) {W : World} (hf : Frm (owU s0 s2 s3 s4 sa st su) A9 W) : Below A0.heap.size A0 W ∧ CeAt W X y0 y2 y3 y4 ∧ CeAt W X t0 t2 t3 t4 ∧ RowsAt W 1 intP sb L1 ∧ RowsAt W 1 intP sg L1 ∧ CfAt W (cpyC c) (cpV tt tr ti) ∧ (∀ b, A1.heap.size ≤ b → b < A2.heap.size → W.heap[b]? = A2.heap[b]?) ∧ (∀ b, A5.heap.size ≤ b → b < A6.heap.size → W.heap[b]? = A6.heap[b]?) ∧ (∀ b, A7.heap.size ≤ b → b < A8.heap.size → W.heap[b]? = A8.heap[b]?) ∧ (∀ b, A8.heap.size ≤ b → b < A9.heap.size → W.heap[b]? = A9.heap[b]?) := by
  obtain ⟨z1, z2, z3, z4, z5, z6, z7, z8, z9⟩ := h.sizes
  obtain ⟨q0, q1, q2, q3, q4, q5, q6, q7, q8⟩ := h.to
  have wi := h.win hf
  have w2 : ∀ b, A1.heap.size ≤ b → b < A2.heap.size → W.heap[b]? = A2.heap[b]? := fun b h1 h2 => (wi b (by omega) (by omega)).trans (q2.block b h2)
  have w4 : ∀ b, A3.heap.size ≤ b → b < A4.heap.size → W.heap[b]? = A4.heap[b]? := fun b h1 h2 => (wi b (by omega) (by omega)).trans (q4.block b h2)
  have w6 : ∀ b, A5.heap.size ≤ b → b < A6.heap.size → W.heap[b]? = A6.heap[b]? := fun b h1 h2 => (wi b (by omega) (by omega)).trans (q6.block b h2)
  have w7 : ∀ b, A6.heap.size ≤ b → b < A7.heap.size → W.heap[b]? = A7.heap[b]? := fun b h1 h2 => (wi b (by omega) (by omega)).trans (q7.block b h2)
  have w8 : ∀ b, A7.heap.size ≤ b → b < A8.heap.size → W.heap[b]? = A8.heap[b]? := fun b h1 h2 => (wi b (by omega) (by omega)).trans (q8.block b h2)
  refine ⟨⟨hf.os.trans q0.os, hf.tape.trans q0.tape, hf.output.trans q0.output, Nat.le_trans q0.size hf.size, fun b hb => (wi b (by omega) (.inl hb)).trans (q0.block b hb)⟩, (h.y.win w2).at, (h.w.win w6).at, rows_of (own_same h.b (fun g e => w4 g (h.b.lt g e).1 (h.b.lt g e).2)), rows_of (own_same h.g (fun g e => w7 g (h.g.lt g e).1 (h.g.lt g e).2)), (h.cp.win w8).cf, w2, w6, w8, fun b h1 h2 => wi b h2 (by omega)⟩
end
end Go.Proofs.Ytapfbinaocaclaa

namespace Go.Proofs.Ytapfbinaocaclaa
open Go.RowKit Go.Maps
set_option linter.unusedVariables false
set_option linter.unusedSimpArgs false

/-! ### CeilOwn: lengths; all that the walk asks of memory -/
theorem idxL_len8 {α : Type} (f : α → Bool) (l : List α) (j : Nat) : (idxL f l j).length ≤ l.length := by
  unfold idxL
  rw [List.length_map]
  refine Nat.le_trans (List.length_filter_le _ _) ?_
  rw [List.length_take, List.length_range]
  exact Nat.min_le_right _ _
theorem own_lens (c : Cf) (r : Int) (hn : c.ress.length ≤ 8796093022208) (hnt : c.tasks.length ≤ 8796093022208) (hni : c.isrs.length ≤ 8796093022208) : ∀ (i : Nat) (l : List Int), (owL (rckX c) (grpL c r) (usrT c r) (usrI c r))[i]? = some l → l.length ≤ 8796093022208 := by
  have h1 : (rckX c).res.length ≤ 8796093022208 := by unfold rckX; split <;> simp [ceilL]; exact hn
  have h2 : (rckX c).run.length ≤ 8796093022208 := by unfold rckX; split <;> simp; exact hnt
  have h3 : (rckX c).tks.length ≤ 8796093022208 := by unfold rckX; split <;> simp [cntT]; exact hnt
  have h4 : (rckX c).isr.length ≤ 8796093022208 := by unfold rckX; split <;> simp [cntI]; exact hni
  have h5 : (grpL c r).length ≤ 8796093022208 := by
    unfold grpL
    split
    · unfold grpN
      rw [List.length_map]
      refine Nat.le_trans (List.length_filter_le _ _) ?_
      rw [List.length_take, List.length_range]
      exact Nat.le_trans (Nat.min_le_right _ _) hn
    · simp
  have h6 : (usrT c r).length ≤ 8796093022208 := by
    unfold usrT
    split
    · exact Nat.le_trans (idxL_len8 _ _ _) hnt
    · simp
  have h7 : (usrI c r).length ≤ 8796093022208 := by
    unfold usrI
    split
    · exact Nat.le_trans (idxL_len8 _ _ _) hni
    · simp
  intro i l hl
  match i, hl with
  | 0, hl => cases hl; exact h1
  | 1, hl => cases hl; exact h2
  | 2, hl => cases hl; exact h3
  | 3, hl => cases hl; exact h4
  | 4, hl => cases hl; exact h5
  | 5, hl => cases hl; exact h6
  | 6, hl => cases hl; exact h7
  | n + 7, hl => simp at hl
theorem OwnC.alloc {w w' : World} {x : Ce} {s0 s2 s3 s4 : Sl} (h : OwnC w w' x s0 s2 s3 s4) (o : Obj) : OwnC w (w'.alloc o) x s0 s2 s3 s4 := h.win (fun b _ hb => (below_alloc w' o).block b hb)
theorem Own2.own {w : World} {l : List Int} {k : Int} {e : Ending} {w' : World} (h : Own2 w l k e w') : ∃ s : Sl, e = .returned (.tuple #[.slice s.a s.n s.c, I k]) ∧ w'.ownsRow w.heap.size 3 1 (slV s) l.length (l.map fun x => I x) ∧ Below w.heap.size w w' := by
  obtain ⟨u, rfl, hO, hb⟩ := h
  obtain ⟨s, rfl, _⟩ := slice_of_own hO
  exact ⟨s, rfl, hO, hb⟩
theorem Own3.own {w : World} {l m : List Int} {k : Int} {e : Ending} {w' : World} (h : Own3 w l m k e w') : ∃ s t : Sl, e = .returned (.tuple #[.slice s.a s.n s.c, .slice t.a t.n t.c, I k]) ∧ w'.ownsRow w.heap.size 3 1 (slV s) l.length (l.map fun x => I x) ∧ w'.ownsRow w.heap.size 3 1 (slV t) m.length (m.map fun x => I x) ∧ Apt (slV s) (slV t) ∧ Below w.heap.size w w' := by
  obtain ⟨u, v, rfl, hO, hP, ha, hb⟩ := h
  obtain ⟨s, rfl, _⟩ := slice_of_own hO
  obtain ⟨t, rfl, _⟩ := slice_of_own hP
  exact ⟨s, t, rfl, hO, hP, ha, hb⟩
theorem Sev.cellAt {base : Nat} {us : List Sl} {ls : List (List Int)} {W0 W : World} (h : Sev base us ls W0 W) {i : Nat} {s : Sl} {l : List Int} (hs : us[i]? = some s) (hl : ls[i]? = some l) {g : Nat} (hg : s.a = some ⟨g, 0, none⟩) (hn : s.n = l.length) {k : Nat} (hk : k < l.length) : (∃ u, W.cell? ⟨g, k, none⟩ = some u) ∧ W.frozen? ⟨g, k, none⟩ = false := by
  have ho := h.o i s l hs hl
  unfold slV at ho
  rw [hg, hn] at ho
  refine ⟨?_, ho.frozenAt k⟩
  rw [ho.cellAt k (by omega)]
  exact ⟨_, List.getElem?_eq_getElem (by simpa using hk)⟩
section
variable {w A0 A1 A2 A3 A4 A5 A6 A7 A8 A9 : World} {c : Cf} {X : Ce} {L1 L2 L3 : List Int} {s0 s2 s3 s4 y0 y2 y3 y4 t0 t2 t3 t4 sa sb st su sg tt tr ti : Sl} {C CI : Array Value} {X2 X6 X8 : Nat}
theorem ow_all (hF : ∀ W, Below A0.heap.size A0 W → W.heap[w.heap.size]? = some (.cells C 33 (0, 0)) ∧ Below w.heap.size w W) (h : OwA A0 A1 A2 A3 A4 A5 A6 A7 A8 A9 c X L1 L2 L3 s0 s2 s3 s4 y0 y2 y3 y4 t0 t2 t3 t4 sa sb st su sg tt tr ti)
    (h2 : A2.heap[X2]? = some (.cells #[.slice y0.a y0.n y0.c, I X.sch, .slice y2.a y2.n y2.c, .slice y3.a y3.n y3.c, .slice y4.a y4.n y4.c] 36 (0, 0)) ∧ A1.heap.size ≤ X2) (h6 : A6.heap[X6]? = some (.cells #[.slice t0.a t0.n t0.c, I X.sch, .slice t2.a t2.n t2.c, .slice t3.a t3.n t3.c, .slice t4.a t4.n t4.c] 36 (0, 0)) ∧ A5.heap.size ≤ X6) (h8 : A8.heap[X8]? = some (.cells CI 33 (0, 0)) ∧ A7.heap.size ≤ X8)
    (hD : A9.heap[A8.heap.size]? = some (.cells #[slV s0, slV s2, slV s3, slV s4, slV sa, slV st, slV su] 34 (0, 0))) :
    Hid (∀ W, Frm (owU s0 s2 s3 s4 sa st su) A9 W → (W.heap[w.heap.size]? = some (.cells C 33 (0, 0)) ∧ Below w.heap.size w W) ∧ W.heap[X2]? = some (.cells #[.slice y0.a y0.n y0.c, I X.sch, .slice y2.a y2.n y2.c, .slice y3.a y3.n y3.c, .slice y4.a y4.n y4.c] 36 (0, 0)) ∧ W.heap[X6]? = some (.cells #[.slice t0.a t0.n t0.c, I X.sch, .slice t2.a t2.n t2.c, .slice t3.a t3.n t3.c, .slice t4.a t4.n t4.c] 36 (0, 0)) ∧ W.heap[X8]? = some (.cells CI 33 (0, 0)) ∧ CeAt W X y0 y2 y3 y4 ∧ CeAt W X t0 t2 t3 t4 ∧ RowsAt W 1 intP sb L1 ∧ RowsAt W 1 intP sg L1 ∧ CfAt W (cpyC c) (cpV tt tr ti) ∧ ∀ i s, (owU s0 s2 s3 s4 sa st su)[i]? = some s → W.cell? ⟨A8.heap.size, i, none⟩ = some (slV s)) := by
  intro W hf
  obtain ⟨k0, k1, k2, k3, k4, k5, w2, w6, w8, w9⟩ := h.keep hf
  refine ⟨hF W k0, (w2 _ h2.2 (heap_lt h2.1)).trans h2.1, (w6 _ h6.2 (heap_lt h6.1)).trans h6.1, (w8 _ h8.2 (heap_lt h8.1)).trans h8.1, k1, k2, k3, k4, k5, fun i s hs => ?_⟩
  have hd := (w9 _ (Nat.le_refl _) (heap_lt hD)).trans hD
  rw [cell_of_row W _ i _ _ (0, 0) hd]
  match i, hs with
  | 0, hs => cases hs; rfl
  | 1, hs => cases hs; rfl
  | 2, hs => cases hs; rfl
  | 3, hs => cases hs; rfl
  | 4, hs => cases hs; rfl
  | 5, hs => cases hs; rfl
  | 6, hs => cases hs; rfl
  | n + 7, hs => simp at hs
theorem ow_us (h : OwA A0 A1 A2 A3 A4 A5 A6 A7 A8 A9 c X L1 L2 L3 s0 s2 s3 s4 y0 y2 y3 y4 t0 t2 t3 t4 sa sb st su sg tt tr ti) (hL : ∀ (i : Nat) (l : List Int), (owL X L1 L2 L3)[i]? = some l → l.length ≤ 8796093022208) :
    Hid (∀ i, i < 7 → ∃ s l, (owU s0 s2 s3 s4 sa st su)[i]? = some s ∧ (owL X L1 L2 L3)[i]? = some l ∧ s.n = l.length ∧ s.n ≤ s.c ∧ s.c ≤ maxLen ∧ l.length ≤ 8796093022208 ∧ (0 < s.n → ∃ g, s.a = some ⟨g, 0, none⟩)) := by
  intro i hi
  obtain ⟨s, hs⟩ : ∃ s, (owU s0 s2 s3 s4 sa st su)[i]? = some s := ⟨_, List.getElem?_eq_getElem (by simpa using hi)⟩
  obtain ⟨l, hl⟩ : ∃ l, (owL X L1 L2 L3)[i]? = some l := ⟨_, List.getElem?_eq_getElem (by simpa using hi)⟩
  refine ⟨s, l, hs, hl, ?_⟩
  have ho := h.sev.o i s l hs hl
  rcases ho.2 with ⟨e, h0⟩ | ⟨g, cap, cur, e, hb, hg, hnc, hcm, hcs, htk⟩
  · injection e with e1 e2 e3
    exact ⟨by rw [e2, h0], by rw [e2]; exact Nat.zero_le _, by rw [e3]; exact Nat.zero_le _, hL i l hl, fun hp => by omega⟩
  · injection e with e1 e2 e3
    exact ⟨e2, by rw [e2, e3]; exact hnc, by rw [e3]; exact hcm, hL i l hl, fun _ => ⟨g, e1⟩⟩
end
end Go.Proofs.Ytapfbinaocaclaa

