import Derived.Test.YtapfbinaocaclaaEen
import Derived.Test.YtapfbinaocaclaaEeh
namespace Go.Proofs.Ytapfbinaocaclaa
open Go.RowKit
set_option linter.unusedVariables false
set_option linter.unusedSimpArgs false

/-! ### Lists: a ceiling is the greatest of its users' priorities -/
theorem fold_spec {α : Type} (f : α → Bool) (g : α → Int) : ∀ (l : List α) (t : Option Int),
    (∀ p, t = some p → ∃ m, l.foldl (fun t x => if f x = true then topAdd t (g x) else t) t = some m ∧ p ≤ m) ∧
    (∀ x ∈ l, f x = true → ∃ m, l.foldl (fun t x => if f x = true then topAdd t (g x) else t) t = some m ∧ g x ≤ m) ∧
    (∀ m, l.foldl (fun t x => if f x = true then topAdd t (g x) else t) t = some m → t = some m ∨ ∃ x ∈ l, f x = true ∧ g x = m) := by
  intro l
  induction l with
  | nil => intro t; exact ⟨fun p hp => ⟨p, hp, Int.le_refl _⟩, (fun x hx => by cases hx), fun m hm => .inl hm⟩
  | cons y r ih =>
    intro t
    rw [List.foldl_cons]
    obtain ⟨i1, i2, i3⟩ := ih (if f y = true then topAdd t (g y) else t)
    by_cases hf : f y = true
    · rw [if_pos hf] at i1 i2 i3 ⊢
      refine ⟨fun p hp => ?_, fun x hx hfx => ?_, fun m hm => ?_⟩
      · subst hp
        obtain ⟨m, h1, h2⟩ := i1 (max (g y) p) rfl
        exact ⟨m, h1, by omega⟩
      · rcases List.mem_cons.1 hx with rfl | hx
        · cases t with
          | none =>
            obtain ⟨m, h1, h2⟩ := i1 (g x) rfl
            exact ⟨m, h1, h2⟩
          | some p =>
            obtain ⟨m, h1, h2⟩ := i1 (max (g x) p) rfl
            exact ⟨m, h1, by omega⟩
        · exact i2 x hx hfx
      · rcases i3 m hm with h | ⟨x, hx, h1, h2⟩
        · cases t with
          | none =>
            have : g y = m := by simpa [topAdd] using h
            exact .inr ⟨y, List.mem_cons_self .., hf, this⟩
          | some p =>
            have h' : max (g y) p = m := by simpa [topAdd] using h
            by_cases hm2 : m = p
            · exact .inl (by rw [hm2])
            · exact .inr ⟨y, List.mem_cons_self .., hf, by omega⟩
        · exact .inr ⟨x, List.mem_cons_of_mem _ hx, h1, h2⟩
    · rw [if_neg hf] at i1 i2 i3 ⊢
      refine ⟨i1, fun x hx hfx => ?_, fun m hm => ?_⟩
      · rcases List.mem_cons.1 hx with rfl | hx
        · exact absurd hfx hf
        · exact i2 x hx hfx
      · rcases i3 m hm with h | ⟨x, hx, h1, h2⟩
        · exact .inl h
        · exact .inr ⟨x, List.mem_cons_of_mem _ hx, h1, h2⟩
structure TopS (c : Cf) (q : Int) (T : Option Int) : Prop where
  t : ∀ x ∈ c.tasks, usesB c x.res q = true → ∃ m, T = some m ∧ x.prio ≤ m
  i : ∀ x ∈ c.isrs, usesB c x.res q = true → ∃ m, T = some m ∧ x.prio ≤ m
  m : ∀ m, T = some m → (∃ x ∈ c.tasks, usesB c x.res q = true ∧ x.prio = m) ∨ (∃ x ∈ c.isrs, usesB c x.res q = true ∧ x.prio = m)
theorem top_spec (c : Cf) (q : Int) : TopS c q (useI c q c.isrs.length) := by
  unfold useI useT
  rw [List.take_of_length_le (Nat.le_refl _), List.take_of_length_le (Nat.le_refl _)]
  obtain ⟨a1, a2, a3⟩ := fold_spec (fun x : Tk => usesB c x.res q) (fun x : Tk => x.prio) c.tasks none
  obtain ⟨b1, b2, b3⟩ := fold_spec (fun x : Is => usesB c x.res q) (fun x : Is => x.prio) c.isrs (c.tasks.foldl (fun t x => if usesB c x.res q = true then topAdd t x.prio else t) none)
  refine ⟨fun x hx hu => ?_, fun x hx hu => b2 x hx hu, fun m hm => ?_⟩
  · obtain ⟨m, h1, h2⟩ := a2 x hx hu
    obtain ⟨m', h3, h4⟩ := b1 m h1
    exact ⟨m', h3, Int.le_trans h2 h4⟩
  · rcases b3 m hm with h | ⟨x, hx, h1, h2⟩
    · rcases a3 m h with h' | ⟨x, hx, h1, h2⟩
      · cases h'
      · exact .inl ⟨x, hx, h1, h2⟩
    · exact .inr ⟨x, hx, h1, h2⟩
theorem mem_grp {c : Cf} {q : Nat} (hg : grpE c (q : Int) = 0) {k : Int} : k ∈ grpL c (q : Int) ↔ ∃ i : Nat, k = (i : Int) ∧ i < c.ress.length ∧ rootN c (i : Int) = rootN c (q : Int) := by
  unfold grpL grpN
  rw [if_pos hg, List.take_of_length_le (by simp), List.mem_map]
  constructor
  · rintro ⟨i, hi, rfl⟩
    obtain ⟨h1, h2⟩ := List.mem_filter.1 hi
    exact ⟨i, rfl, List.mem_range.1 h1, by simpa using h2⟩
  · rintro ⟨i, rfl, hi, hr⟩
    exact ⟨i, List.mem_filter.2 ⟨List.mem_range.2 hi, by simpa using hr⟩, rfl⟩
theorem ceil_grp {c : Cf} {i q : Nat} (h : rootN c (i : Int) = rootN c (q : Int)) : ceilE c i = ceilE c q := by
  unfold ceilE
  rw [h]
def hasB (l : List Int) (k : Int) : Bool := l.any (fun z => z == k)
theorem use_of {c : Cf} {q : Nat} (hg : grpE c (q : Int) = 0) {k : Int} (hk : k ∈ grpL c (q : Int)) {l : List Int} (h : hasB l k = true) : usesB c l (q : Int) = true := by
  obtain ⟨i, rfl, hi, hr⟩ := (mem_grp hg).1 hk
  obtain ⟨z, hz, he⟩ := List.any_eq_true.1 h
  have : z = (i : Int) := by simpa using he
  subst this
  exact List.any_eq_true.2 ⟨_, hz, by simpa using hr⟩
theorem use_to {c : Cf} {q : Nat} (hg : grpE c (q : Int) = 0) {l : List Int} (hid : ∀ z ∈ l, isId z c.ress.length = true) (h : usesB c l (q : Int) = true) : ∃ k ∈ grpL c (q : Int), hasB l k = true := by
  obtain ⟨z, hz, he⟩ := List.any_eq_true.1 h
  have hbd : 0 ≤ z ∧ z < c.ress.length := by simpa [isId] using hid z hz
  obtain ⟨i, rfl⟩ := Int.eq_ofNat_of_zero_le hbd.1
  exact ⟨(i : Int), (mem_grp hg).2 ⟨i, rfl, by omega, by simpa using he⟩, List.any_eq_true.2 ⟨_, hz, by simp⟩⟩
def PtB (top k : Int) (x : Tk) : Bool := hasB x.res k && (x.prio == top)
def PiB (top k : Int) (x : Is) : Bool := hasB x.res k && (x.prio == top)
def MkB (c : Cf) (top k : Int) : Bool := c.tasks.any (PtB top k) || c.isrs.any (PiB top k)
theorem ceil_told {c : Cf} {q : Nat} (hg : grpE c (q : Int) = 0) : ceilE c q = toldI (useI c (q : Int) c.isrs.length) := by
  obtain ⟨hl, hid⟩ := grp_zero hg
  have hbd : 0 ≤ (q : Int) ∧ (q : Int) < c.ress.length := by simpa [isId] using hid
  exact ceilE_use c q (endsB_at (look_lk hl).2.2 (by omega))
theorem least_t {c : Cf} {q : Nat} (hg : grpE c (q : Int) = 0) {k : Int} (hk : k ∈ grpL c (q : Int)) {x : Tk} (hx : x ∈ c.tasks) (h : hasB x.res k = true) : x.prio ≤ ceilE c q := by
  obtain ⟨m, h1, h2⟩ := (top_spec c (q : Int)).t x hx (use_of hg hk h)
  rw [ceil_told hg, h1]
  exact h2
theorem least_i {c : Cf} {q : Nat} (hg : grpE c (q : Int) = 0) {k : Int} (hk : k ∈ grpL c (q : Int)) {x : Is} (hx : x ∈ c.isrs) (h : hasB x.res k = true) : x.prio ≤ ceilE c q := by
  obtain ⟨m, h1, h2⟩ := (top_spec c (q : Int)).i x hx (use_of hg hk h)
  rw [ceil_told hg, h1]
  exact h2
theorem idxL_pos {α : Type} (f : α → Bool) (l : List α) : 0 < (idxL f l l.length).length ↔ ∃ x ∈ l, f x = true := by
  unfold idxL
  rw [List.length_map, List.take_of_length_le (by simp), List.length_pos_iff_exists_mem]
  constructor
  · rintro ⟨i, hi⟩
    obtain ⟨h1, h2⟩ := List.mem_filter.1 hi
    have hl := List.mem_range.1 h1
    rw [List.getElem?_eq_getElem hl] at h2
    exact ⟨_, List.getElem_mem hl, h2⟩
  · rintro ⟨x, hx, hf⟩
    obtain ⟨i, hi⟩ := List.getElem?_of_mem hx
    have hl := (List.getElem?_eq_some_iff.1 hi).1
    exact ⟨i, List.mem_filter.2 ⟨List.mem_range.2 hl, by rw [hi]; exact hf⟩⟩
theorem meet_ids {c : Cf} (h : meetB c = true) : (∀ x ∈ c.tasks, ∀ z ∈ x.res, isId z c.ress.length = true) ∧ (∀ x ∈ c.isrs, ∀ z ∈ x.res, isId z c.ress.length = true) := by
  unfold meetB at h
  obtain ⟨h1, h2⟩ := Bool.and_eq_true_iff.1 h
  exact ⟨fun x hx z hz => ris_mem (List.all_eq_true.1 h1 x hx) hz, fun x hx z hz => ris_mem (List.all_eq_true.1 h2 x hx) hz⟩
theorem least_met {c : Cf} {q : Nat} (hg : grpE c (q : Int) = 0) : (grpL c (q : Int)).any (MkB c (ceilE c q)) = decide (0 < (usrT c (q : Int)).length + (usrI c (q : Int)).length) := by
  have hids := meet_ids (look_lk (grp_zero hg).1).1
  have ht : 0 < (usrT c (q : Int)).length ↔ ∃ x ∈ c.tasks, usesB c x.res (q : Int) = true := by unfold usrT; rw [if_pos hg]; exact idxL_pos _ _
  have hi : 0 < (usrI c (q : Int)).length ↔ ∃ x ∈ c.isrs, usesB c x.res (q : Int) = true := by unfold usrI; rw [if_pos hg]; exact idxL_pos _ _
  by_cases hu : 0 < (usrT c (q : Int)).length + (usrI c (q : Int)).length
  · rw [decide_eq_true hu]
    have hT : ∃ m, useI c (q : Int) c.isrs.length = some m := by
      rcases Nat.lt_or_ge 0 (usrT c (q : Int)).length with h | h
      · obtain ⟨x, hx, hb⟩ := ht.1 h
        obtain ⟨m, h1, _⟩ := (top_spec c (q : Int)).t x hx hb
        exact ⟨m, h1⟩
      · obtain ⟨x, hx, hb⟩ := hi.1 (by omega)
        obtain ⟨m, h1, _⟩ := (top_spec c (q : Int)).i x hx hb
        exact ⟨m, h1⟩
    obtain ⟨m, hm⟩ := hT
    have hc : ceilE c q = m := by rw [ceil_told hg, hm]; rfl
    rw [hc]
    rcases (top_spec c (q : Int)).m m hm with ⟨x, hx, hb, hp⟩ | ⟨x, hx, hb, hp⟩
    · obtain ⟨k, hk, hh⟩ := use_to hg (hids.1 x hx) hb
      exact List.any_eq_true.2 ⟨k, hk, Bool.or_eq_true_iff.2 (.inl (List.any_eq_true.2 ⟨x, hx, by unfold PtB; rw [hh, hp]; simp⟩))⟩
    · obtain ⟨k, hk, hh⟩ := use_to hg (hids.2 x hx) hb
      exact List.any_eq_true.2 ⟨k, hk, Bool.or_eq_true_iff.2 (.inr (List.any_eq_true.2 ⟨x, hx, by unfold PiB; rw [hh, hp]; simp⟩))⟩
  · rw [decide_eq_false hu, List.any_eq_false]
    intro k hk hM
    rcases Bool.or_eq_true_iff.1 hM with h | h
    · obtain ⟨x, hx, hP⟩ := List.any_eq_true.1 h
      have hh : hasB x.res k = true := (Bool.and_eq_true_iff.1 hP).1
      have := ht.2 ⟨x, hx, use_of hg hk hh⟩
      omega
    · obtain ⟨x, hx, hP⟩ := List.any_eq_true.1 h
      have hh : hasB x.res k = true := (Bool.and_eq_true_iff.1 hP).1
      have := hi.2 ⟨x, hx, use_of hg hk hh⟩
      omega
theorem least_neg {c : Cf} {q : Nat} (hg : grpE c (q : Int) = 0) (h : (grpL c (q : Int)).any (MkB c (ceilE c q)) = false) : ceilE c q = -1 := by
  rw [least_met hg] at h
  have h0 : ¬ 0 < (usrT c (q : Int)).length + (usrI c (q : Int)).length := of_decide_eq_false h
  have ht : 0 < (usrT c (q : Int)).length ↔ ∃ x ∈ c.tasks, usesB c x.res (q : Int) = true := by unfold usrT; rw [if_pos hg]; exact idxL_pos _ _
  have hi : 0 < (usrI c (q : Int)).length ↔ ∃ x ∈ c.isrs, usesB c x.res (q : Int) = true := by unfold usrI; rw [if_pos hg]; exact idxL_pos _ _
  rw [ceil_told hg]
  cases hT : useI c (q : Int) c.isrs.length with
  | none => rfl
  | some m =>
    rcases (top_spec c (q : Int)).m m hT with ⟨x, hx, hb, _⟩ | ⟨x, hx, hb, _⟩
    · have := ht.2 ⟨x, hx, hb⟩; omega
    · have := hi.2 ⟨x, hx, hb⟩; omega
theorem has_own {c : Cf} {q : Nat} (hg : grpE c (q : Int) = 0) : hasB (grpL c (q : Int)) (q : Int) = true := by
  have hid := (grp_zero hg).2
  have hbd : 0 ≤ (q : Int) ∧ (q : Int) < c.ress.length := by simpa [isId] using hid
  exact List.any_eq_true.2 ⟨(q : Int), (mem_grp hg).2 ⟨q, rfl, by omega, rfl⟩, by simp⟩
end Go.Proofs.Ytapfbinaocaclaa
