import Derived.Test.YtpoekphebmonnabUa
namespace Go.Proofs.Ytpoekphebmonnab
open Go.RowKit
set_option linter.unusedVariables false
set_option linter.unusedSimpArgs false

/-! ### Alarms on lists: how many ticks are left (0: not set), the cycle -/
abbrev Alm := Nat × Nat
def psA (t : Nat) (x : Alm) : Alm := if x.1 = 0 then x else if x.1 - t = 0 then (x.2, x.2) else (x.1 - t, x.2)
def dueA (t : Nat) (x : Alm) : Bool := decide (x.1 ≠ 0) && decide (x.1 - t = 0)
def dueF (t : Nat) : Nat → List Alm → List Nat
  | _, [] => []
  | o, x :: r => if dueA t x then o :: dueF t (o + 1) r else dueF t (o + 1) r
theorem dueF_snoc (t : Nat) (x : Alm) : ∀ (l : List Alm) (o : Nat), dueF t o (l ++ [x]) = dueF t o l ++ (if dueA t x then [o + l.length] else [])
  | [], o => by simp [dueF]
  | y :: r, o => by
    simp only [List.cons_append, dueF, dueF_snoc t x r (o + 1), List.length_cons]
    rw [show o + 1 + r.length = o + (r.length + 1) by omega]
    split <;> simp
theorem take_snoc {α : Type} {l : List α} {k : Nat} {x : α} (h : l[k]? = some x) : l.take (k + 1) = l.take k ++ [x] := by
  rw [List.take_add_one, h]; rfl
def mixL (t : Nat) (al : List Alm) (k : Nat) : List Alm := (al.take k).map (psA t) ++ al.drop k
theorem mixL_zero (t : Nat) (al : List Alm) : mixL t al 0 = al := by simp [mixL]
theorem mixL_all (t : Nat) (al : List Alm) : mixL t al al.length = al.map (psA t) := by simp [mixL]
theorem mixL_len (t : Nat) (al : List Alm) (k : Nat) : (mixL t al k).length = al.length := by simp [mixL]; omega
theorem mixL_at {t : Nat} {al : List Alm} {k : Nat} {x : Alm} (h : al[k]? = some x) : (mixL t al k)[k]? = some x := by
  have hk : k < al.length := (List.getElem?_eq_some_iff.1 h).1
  unfold mixL
  rw [List.getElem?_append_right (by simp; omega)]
  simp only [List.length_map, List.length_take, List.getElem?_drop]
  rw [show k + (k - min k al.length) = k by omega]
  exact h
theorem mixL_succ {t : Nat} {al : List Alm} {k : Nat} {x : Alm} (h : al[k]? = some x) : mixL t al (k + 1) = (mixL t al k).set k (psA t x) := by
  have hk : k < al.length := (List.getElem?_eq_some_iff.1 h).1
  have hx : al.drop k = x :: al.drop (k + 1) := by
    rw [List.drop_eq_getElem_cons hk]
    congr 1
    exact (List.getElem?_eq_some_iff.1 h).2
  unfold mixL
  rw [take_snoc h, List.map_append, hx, List.set_append_right _ _ (by simp; omega)]
  simp only [List.length_map, List.length_take]
  rw [show k - min k al.length = 0 by omega]
  simp
theorem set_self {α : Type} {l : List α} {k : Nat} {a : α} (h : l[k]? = some a) : l.set k a = l := by
  apply List.ext_getElem?
  intro i
  rw [List.getElem?_set]
  by_cases e : k = i
  · subst e
    have := (List.getElem?_eq_some_iff.1 h).1
    rw [if_pos rfl, if_pos this, h]
  · simp [e]
theorem mixL_skip {t : Nat} {al : List Alm} {k : Nat} {x : Alm} (h : al[k]? = some x) (hp : psA t x = x) : mixL t al (k + 1) = mixL t al k := by
  rw [mixL_succ h, hp]; exact set_self (mixL_at h)
/-! soonest -/
def nvr : Nat := 18446744073709551615
def soonA (m : Nat) (x : Alm) : Nat := if x.1 = 0 then m else min m x.1
def soonL (al : List Alm) : Nat := al.foldl soonA nvr
theorem soon_snoc (l : List Alm) (x : Alm) : soonL (l ++ [x]) = soonA (soonL l) x := by simp [soonL]
theorem soon_ge (l : List Alm) (m : Nat) : l.foldl soonA m ≤ m := by
  induction l generalizing m with
  | nil => exact Nat.le_refl _
  | cons x r ih =>
    refine Nat.le_trans (ih _) ?_
    unfold soonA
    split
    · exact Nat.le_refl _
    · exact Nat.min_le_left _ _
theorem soon_le' (l : List Alm) (m : Nat) : ∀ x ∈ l, x.1 ≠ 0 → l.foldl soonA m ≤ x.1 := by
  induction l generalizing m with
  | nil => intro x hx; simp at hx
  | cons y r ih =>
    intro x hx h0
    rcases List.mem_cons.1 hx with rfl | hx
    · refine Nat.le_trans (soon_ge r _) ?_
      unfold soonA
      rw [if_neg h0]
      exact Nat.min_le_right _ _
    · exact ih _ x hx h0
theorem soon_le {l : List Alm} : ∀ x ∈ l, x.1 ≠ 0 → soonL l ≤ x.1 := soon_le' l nvr
theorem soon_mem' (l : List Alm) (m : Nat) : l.foldl soonA m = m ∨ ∃ x ∈ l, x.1 ≠ 0 ∧ x.1 = l.foldl soonA m := by
  induction l generalizing m with
  | nil => exact .inl rfl
  | cons y r ih =>
    rcases ih (soonA m y) with h | ⟨x, hx, h0, h1⟩
    · simp only [List.foldl_cons]
      rw [h]
      unfold soonA
      split
      · exact .inl rfl
      · rename_i h0
        rcases Nat.le_total m y.1 with h2 | h2
        · exact .inl (Nat.min_eq_left h2)
        · exact .inr ⟨y, List.mem_cons_self .., h0, (Nat.min_eq_right h2).symm⟩
    · exact .inr ⟨x, List.mem_cons_of_mem _ hx, h0, h1⟩
theorem soon_mem {l : List Alm} (h : soonL l ≠ nvr) : ∃ x ∈ l, x.1 ≠ 0 ∧ x.1 = soonL l := by
  rcases soon_mem' l nvr with h1 | h1
  · exact absurd h1 h
  · exact h1
theorem soon_pos {l : List Alm} : 1 ≤ soonL l := by
  by_cases h : soonL l = nvr
  · rw [h]; decide
  · obtain ⟨x, _, h0, h1⟩ := soon_mem h
    omega
theorem dueF_pos {t : Nat} : ∀ (l : List Alm) (o : Nat), (∃ x ∈ l, x.1 ≠ 0 ∧ x.1 = t) → dueF t o l ≠ []
  | [], _, h => by obtain ⟨x, hx, _⟩ := h; simp at hx
  | y :: r, o, h => by
    obtain ⟨x, hx, h0, h1⟩ := h
    unfold dueF
    split
    · simp
    · rename_i hd
      rcases List.mem_cons.1 hx with rfl | hx
      · exfalso; apply hd; rw [show dueA t x = (decide (x.1 ≠ 0) && decide (x.1 - t = 0)) from rfl]; simp [h0]; omega
      · exact dueF_pos r (o + 1) ⟨x, hx, h0, h1⟩
theorem dueF_len {t : Nat} : ∀ (l : List Alm) (o : Nat), (dueF t o l).length ≤ l.length
  | [], _ => Nat.le_refl _
  | y :: r, o => by
    have := dueF_len (t := t) r (o + 1)
    unfold dueF
    split <;> simp <;> omega
/-- each that expires is at least o, below o + length, and they rise -/
theorem dueF_mem {t : Nat} : ∀ (l : List Alm) (o i : Nat), i ∈ dueF t o l ↔ o ≤ i ∧ ∃ x, l[i - o]? = some x ∧ dueA t x = true
  | [], o, i => by simp [dueF]
  | y :: r, o, i => by
    have ih := dueF_mem (t := t) r (o + 1) i
    unfold dueF
    by_cases e : i = o
    · subst e
      have hn : ¬ i ∈ dueF t (i + 1) r := fun h => by have := (ih.1 h).1; omega
      by_cases hd : dueA t y = true
      · simp [hd]
      · simp [hd, hn]
    · have h1 : o ≤ i ↔ o + 1 ≤ i := by omega
      have h2 : o ≤ i → (y :: r)[i - o]? = r[i - (o + 1)]? := fun h => by
        rw [show i - o = (i - (o + 1)) + 1 by omega]; rfl
      by_cases hd : dueA t y = true
      · rw [if_pos hd, List.mem_cons, ih]
        constructor
        · rintro (h | ⟨h, h3⟩)
          · exact absurd h e
          · exact ⟨h1.2 h, by rw [h2 (h1.2 h)]; exact h3⟩
        · rintro ⟨h, h3⟩
          exact .inr ⟨h1.1 h, by rw [← h2 h]; exact h3⟩
      · rw [if_neg hd, ih]
        constructor
        · rintro ⟨h, h3⟩
          exact ⟨h1.2 h, by rw [h2 (h1.2 h)]; exact h3⟩
        · rintro ⟨h, h3⟩
          exact ⟨h1.1 h, by rw [← h2 h]; exact h3⟩
theorem dueF_rise {t : Nat} : ∀ (l : List Alm) (o : Nat), (dueF t o l).Pairwise (· < ·)
  | [], _ => List.Pairwise.nil
  | y :: r, o => by
    have ih := dueF_rise (t := t) r (o + 1)
    unfold dueF
    split
    · refine List.Pairwise.cons (fun i hi => ?_) ih
      have := ((dueF_mem r (o + 1) i).1 hi).1
      omega
    · exact ih
/-! ### The next expirings, as the document finds them -/
abbrev Dal := Bool × Nat × Nat
def pickTo (D : List Dal) : Nat → Option Nat
  | 0 => none
  | i + 1 => match D[i]? with
    | some x => if x.1 then (match pickTo D i with | none => some i | some k => if x.2.1 < (D.getD k (false, 0, 0)).2.1 then some i else some k) else pickTo D i
    | none => pickTo D i
def pick (D : List Dal) : Option Nat := pickTo D D.length
theorem pickTo_some {D : List Dal} : ∀ {n k : Nat}, pickTo D n = some k → k < n ∧ ∃ x, D[k]? = some x ∧ x.1 = true
  | 0, k, h => by simp [pickTo] at h
  | i + 1, k, h => by
    unfold pickTo at h
    cases hx : D[i]? with
    | none =>
      rw [hx] at h
      have := pickTo_some (n := i) h
      exact ⟨by omega, this.2⟩
    | some x =>
      rw [hx] at h
      simp only at h
      by_cases h1 : x.1 = true
      · rw [if_pos h1] at h
        cases hp : pickTo D i with
        | none => rw [hp] at h; simp at h; subst h; exact ⟨by omega, x, hx, h1⟩
        | some k2 =>
          rw [hp] at h
          simp only at h
          split at h
          · simp at h; subst h; exact ⟨by omega, x, hx, h1⟩
          · simp at h; subst h
            have := pickTo_some (n := i) hp
            exact ⟨by omega, this.2⟩
      · rw [if_neg h1] at h
        have := pickTo_some (n := i) h
        exact ⟨by omega, this.2⟩
theorem pickTo_none {D : List Dal} : ∀ {n : Nat}, (∀ i x, i < n → D[i]? = some x → x.1 = false) → pickTo D n = none
  | 0, _ => rfl
  | i + 1, h => by
    have ih := pickTo_none (n := i) (fun j x hj hx => h j x (by omega) hx)
    unfold pickTo
    cases hx : D[i]? with
    | none => exact ih
    | some x => simp only [h i x (by omega) hx]; exact ih
theorem pickTo_get {D : List Dal} {j : Nat} {y : Dal} (hj : D[j]? = some y) (hy : y.1 = true) : ∀ {n : Nat},
    (∀ i x, i < n → i < j → D[i]? = some x → x.1 = true → y.2.1 < x.2.1) → (∀ i x, i < n → j < i → D[i]? = some x → x.1 = true → y.2.1 ≤ x.2.1) → j < n → pickTo D n = some j
  | 0, _, _, h => by omega
  | i + 1, h1, h2, hn => by
    unfold pickTo
    by_cases e : i = j
    · subst e
      rw [hj]
      simp only [hy, if_true]
      cases hp : pickTo D i with
      | none => rfl
      | some k =>
        obtain ⟨hk, x, hx, hx1⟩ := pickTo_some hp
        have := h1 k x (by omega) hk hx hx1
        simp only
        rw [List.getD_eq_getElem?_getD, hx, Option.getD_some, if_pos this]
    · have ih := pickTo_get hj hy (n := i) (fun i x hi => h1 i x (by omega)) (fun i x hi => h2 i x (by omega)) (by omega)
      cases hx : D[i]? with
      | none => exact ih
      | some x =>
        simp only [ih]
        by_cases hx1 : x.1 = true
        · rw [if_pos hx1, List.getD_eq_getElem?_getD, hj, Option.getD_some, if_neg]
          have := h2 i x (by omega) (by omega) hx hx1
          omega
        · rw [if_neg hx1]
def dstep (D : List Dal) (k : Nat) : List Dal := D.set k (decide (0 < (D.getD k (false, 0, 0)).2.2), (D.getD k (false, 0, 0)).2.1 + (D.getD k (false, 0, 0)).2.2, (D.getD k (false, 0, 0)).2.2)
def dseq : Nat → List Dal → List (Nat × Nat)
  | 0, _ => []
  | n + 1, D => match pick D with
    | none => []
    | some k => ((D.getD k (false, 0, 0)).2.1, k) :: dseq n (dstep D k)
theorem dseq_len : ∀ (n : Nat) (D : List Dal), (dseq n D).length ≤ n
  | 0, _ => Nat.le_refl _
  | n + 1, D => by
    unfold dseq
    split
    · simp
    · have := dseq_len n (dstep D ‹_›)
      simp only [List.length_cons]; omega
theorem dseq_take : ∀ (n m : Nat) (D : List Dal), n ≤ m → (dseq m D).take n = dseq n D
  | 0, _, _, _ => by simp [dseq]
  | n + 1, 0, _, h => by omega
  | n + 1, m + 1, D, h => by
    unfold dseq
    split
    · rfl
    · simp only [List.take_succ_cons]
      rw [dseq_take n m _ (by omega)]
/-- alarms at a time, and as the document reckons them -/
structure AtT (t : Nat) (al : List Alm) (D : List Dal) : Prop where
  l : D.length = al.length
  e : ∀ (i : Nat) (x : Alm), al[i]? = some x → ∃ y : Dal, D[i]? = some y ∧ y.1 = decide (x.1 ≠ 0) ∧ (x.1 ≠ 0 → y.2 = (t + x.1, x.2))
theorem AtT.start (al : List Alm) : AtT 0 al (al.map fun x => (decide (x.1 ≠ 0), x.1, x.2)) :=
  ⟨by simp, fun i x h => ⟨(decide (x.1 ≠ 0), x.1, x.2), by simp [h], rfl, fun _ => by simp⟩⟩
theorem AtT.nil {t : Nat} {al : List Alm} {D : List Dal} (h : AtT t al D) (ha : ∀ x ∈ al, x.1 = 0) (n : Nat) : dseq n D = [] := by
  cases n with
  | zero => rfl
  | succ n =>
    have hp : pick D = none := pickTo_none (fun i x hi hx => by
      have hi2 : i < al.length := by rw [← h.l]; exact hi
      obtain ⟨y, h1, h2, _⟩ := h.e i al[i] (List.getElem?_eq_getElem hi2)
      rw [hx] at h1
      cases h1
      rw [h2, ha _ (List.getElem_mem hi2)]
      rfl)
    unfold dseq
    rw [hp]
/-- those ahead of j have gone on, those from j on not yet -/
structure Mix (t s j : Nat) (al : List Alm) (D : List Dal) : Prop where
  l : D.length = al.length
  a : ∀ (i : Nat) (x : Alm), i < j → al[i]? = some x → ∃ y : Dal, D[i]? = some y ∧ y.1 = decide ((psA s x).1 ≠ 0) ∧ ((psA s x).1 ≠ 0 → y.2 = (t + s + (psA s x).1, (psA s x).2))
  b : ∀ (i : Nat) (x : Alm), j ≤ i → al[i]? = some x → ∃ y : Dal, D[i]? = some y ∧ y.1 = decide (x.1 ≠ 0) ∧ (x.1 ≠ 0 → y.2 = (t + x.1, x.2))
theorem mix_run {t s : Nat} {al : List Alm} (hs : 1 ≤ s) (hm : ∀ x ∈ al, x.1 ≠ 0 → s ≤ x.1) : ∀ (m j : Nat) (D : List Dal), j + m = al.length → Mix t s j al D →
    ∃ D', AtT (t + s) (al.map (psA s)) D' ∧ ∀ n, dseq n D = ((dueF s j (al.drop j)).map fun i => (t + s, i)).take n ++ dseq (n - (dueF s j (al.drop j)).length) D'
  | 0, j, D, hj, h => by
    refine ⟨D, ⟨by simp [h.l], fun i x hx => ?_⟩, fun n => ?_⟩
    · rw [List.getElem?_map] at hx
      obtain ⟨x0, h0, rfl⟩ := Option.map_eq_some_iff.1 hx
      have hi := (List.getElem?_eq_some_iff.1 h0).1
      exact h.a i x0 (by omega) h0
    · rw [List.drop_eq_nil_of_le (by omega)]
      simp [dueF]
  | m + 1, j, D, hj, h => by
    have hjl : j < al.length := by omega
    have hx : al[j]? = some al[j] := List.getElem?_eq_getElem hjl
    generalize al[j] = x at hx
    have hd : al.drop j = x :: al.drop (j + 1) := by
      rw [List.drop_eq_getElem_cons hjl]
      congr 1
      exact (List.getElem?_eq_some_iff.1 hx).2
    have hxm : x ∈ al := List.mem_of_getElem? hx
    rw [hd]
    unfold dueF
    obtain ⟨y, y1, y2, y3⟩ := h.b j x (Nat.le_refl _) hx
    by_cases hdue : dueA s x = true
    · rw [if_pos hdue]
      have hx0 : x.1 ≠ 0 := by simp [dueA] at hdue; exact hdue.1
      have hxs : x.1 = s := by
        have := hm x hxm hx0
        simp [dueA] at hdue
        omega
      have hyt : y.1 = true := by rw [y2]; simp [hx0]
      have hyv := y3 hx0
      have hps : psA s x = (x.2, x.2) := by unfold psA; rw [if_neg hx0, if_pos (by omega)]
      have hp : pick D = some j := by
        refine pickTo_get y1 hyt (fun i z hi hij hz hz1 => ?_) (fun i z hi hij hz hz1 => ?_) (by rw [h.l]; exact hjl)
        · obtain ⟨z', q1, q2, q3⟩ := h.a i al[i] hij (List.getElem?_eq_getElem (by omega))
          rw [hz] at q1
          cases q1
          have hne : (psA s al[i]).1 ≠ 0 := by rw [q2] at hz1; simpa using hz1
          rw [q3 hne, hyv]
          simp only
          omega
        · have hil : i < al.length := by rw [← h.l]; exact hi
          obtain ⟨z', q1, q2, q3⟩ := h.b i al[i] (by omega) (List.getElem?_eq_getElem hil)
          rw [hz] at q1
          cases q1
          have hne : al[i].1 ≠ 0 := by rw [q2] at hz1; simpa using hz1
          have := hm _ (List.getElem_mem hil) hne
          rw [q3 hne, hyv]
          simp only
          omega
      have hg : D.getD j (false, 0, 0) = y := by rw [List.getD_eq_getElem?_getD, y1]; rfl
      have hM : Mix t s (j + 1) al (dstep D j) := by
        unfold dstep
        rw [hg, hyv]
        refine ⟨by simp [h.l], fun i z hi hz => ?_, fun i z hi hz => ?_⟩
        · by_cases e : i = j
          · subst e
            rw [hx] at hz
            cases hz
            refine ⟨_, List.getElem?_set_self (by rw [h.l]; exact hjl), ?_, fun h9 => ?_⟩
            · rw [hps]; simp only; congr 1; simp only [eq_iff_iff]; omega
            · rw [hps]; simp only; rw [hxs]
          · obtain ⟨z', q1, q2⟩ := h.a i z (by omega) hz
            exact ⟨z', by rw [List.getElem?_set_ne (fun e2 => e e2.symm)]; exact q1, q2⟩
        · obtain ⟨z', q1, q2⟩ := h.b i z (by omega) hz
          exact ⟨z', by rw [List.getElem?_set_ne (by omega)]; exact q1, q2⟩
      obtain ⟨D', hA, hD⟩ := mix_run hs hm m (j + 1) (dstep D j) (by omega) hM
      refine ⟨D', hA, fun n => ?_⟩
      cases n with
      | zero => simp [dseq]
      | succ n =>
        have e1 : dseq (n + 1) D = ((D.getD j (false, 0, 0)).2.1, j) :: dseq n (dstep D j) := by
          rw [dseq, hp]
        rw [e1, hg, hyv, hD n]
        simp only [List.map_cons, List.take_succ_cons, List.length_cons, List.cons_append, hxs, Nat.add_sub_add_right]
    · rw [if_neg hdue]
      have hps : (psA s x).1 = (if x.1 = 0 then 0 else x.1 - s) ∧ (psA s x).2 = x.2 := by
        unfold psA
        by_cases h0 : x.1 = 0
        · simp [h0]
        · have : x.1 - s ≠ 0 := by
            intro e
            apply hdue
            simp [dueA, h0, e]
          simp [h0, this]
      have hM : Mix t s (j + 1) al D := by
        refine ⟨h.l, fun i z hi hz => ?_, fun i z hi hz => h.b i z (by omega) hz⟩
        by_cases e : i = j
        · subst e
          rw [hx] at hz
          cases hz
          refine ⟨y, y1, ?_, fun h9 => ?_⟩
          · rw [y2, hps.1]
            congr 1
            by_cases h0 : x.1 = 0
            · simp [h0]
            · have := hm x hxm h0
              have h5 : x.1 - s ≠ 0 := by
                intro e
                apply hdue
                simp [dueA, h0, e]
              simp [h0, h5]
          · have h0 : x.1 ≠ 0 := by
              intro e
              rw [hps.1, if_pos e] at h9
              exact h9 rfl
            rw [y3 h0, hps.1, hps.2, if_neg h0]
            have := hm x hxm h0
            rw [show t + s + (x.1 - s) = t + x.1 by omega]
        · exact h.a i z (by omega) hz
      exact mix_run hs hm m (j + 1) D (by omega) hM
theorem AtT.run {t s : Nat} {al : List Alm} {D : List Dal} (h : AtT t al D) (hs : 1 ≤ s) (hm : ∀ x ∈ al, x.1 ≠ 0 → s ≤ x.1) :
    ∃ D', AtT (t + s) (al.map (psA s)) D' ∧ ∀ n, dseq n D = ((dueF s 0 al).map fun i => (t + s, i)).take n ++ dseq (n - (dueF s 0 al).length) D' := by
  obtain ⟨D', h1, h2⟩ := mix_run hs hm al.length 0 D (by omega) ⟨h.l, fun i x hi => by omega, fun i x _ hx => h.e i x hx⟩
  rw [List.drop_zero] at h2
  exact ⟨D', h1, h2⟩
/-- what comes first comes later than now -/
theorem AtT.later {t : Nat} {al : List Alm} {D : List Dal} (h : AtT t al D) {n : Nat} {x : Nat × Nat} {r : List (Nat × Nat)} (he : dseq n D = x :: r) : t < x.1 := by
  cases n with
  | zero => simp [dseq] at he
  | succ n =>
    unfold dseq at he
    cases hp : pick D with
    | none => rw [hp] at he; simp at he
    | some k =>
      rw [hp] at he
      simp only [List.cons.injEq] at he
      obtain ⟨hk, y, hy, hy1⟩ := pickTo_some hp
      have hkl : k < al.length := by rw [← h.l]; exact hk
      obtain ⟨z, q1, q2, q3⟩ := h.e k al[k] (List.getElem?_eq_getElem hkl)
      rw [hy] at q1
      cases q1
      have hne : al[k].1 ≠ 0 := by rw [q2] at hy1; simpa using hy1
      rw [← he.1, List.getD_eq_getElem?_getD, hy, Option.getD_some, q3 hne]
      simp only
      omega
/-- where nothing comes no alarm is set -/
theorem AtT.unset {t : Nat} {al : List Alm} {D : List Dal} (h : AtT t al D) {n : Nat} (hn : 0 < n) (he : dseq n D = []) : ∀ x ∈ al, x.1 = 0 := by
  intro x hx
  obtain ⟨i, hi, rfl⟩ := List.getElem_of_mem hx
  by_cases h0 : al[i].1 = 0
  · exact h0
  · exfalso
    cases n with
    | zero => omega
    | succ n =>
      unfold dseq at he
      cases hp : pick D with
      | some k => rw [hp] at he; simp at he
      | none =>
        obtain ⟨y, q1, q2, q3⟩ := h.e i al[i] (List.getElem?_eq_getElem hi)
        have hy : y.1 = true := by rw [q2]; simp [h0]
        have key : ∀ m, i < m → pickTo D m ≠ none := by
          intro m
          induction m with
          | zero => intro h; omega
          | succ m ih =>
            intro hm
            unfold pickTo
            by_cases e : m = i
            · subst e
              rw [q1]
              simp only [hy, if_true]
              split
              · simp
              · split <;> simp
            · have := ih (by omega)
              split
              · split
                · split
                  · simp
                  · split <;> simp
                · exact this
              · exact this
        exact key D.length (by rw [h.l]; exact hi) hp
end Go.Proofs.Ytpoekphebmonnab
