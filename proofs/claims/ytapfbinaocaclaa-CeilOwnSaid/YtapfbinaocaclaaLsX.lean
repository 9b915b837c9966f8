import Derived.Test.YtapfbinaocaclaaEen
import Derived.Test.YtapfbinaocaclaaEeh
import Derived.Test.YtapfbinaocaclaaEco
import Derived.Test.YtapfbinaocaclaaEcy8
namespace Go.Proofs.Ytapfbinaocaclaa
open Go.RowKit
set_option linter.unusedVariables false
set_option linter.unusedSimpArgs false

/-! ### Lists: a ceiling is the greatest of its users' priorities -/
theorem fold_spec {α : Type} (f : α → Bool) (g : α → Int) : ∀ (l : List α) (t : Option Int),
    (∀ p, t = some p → ∃ m, l.foldl (fun t x => if f x = true then topAdd t (g x) else t) t = some m ∧ p ≤ m) ∧
    (∀ x ∈ l, f x = true → ∃ m, l.foldl (fun t x => if f x = true then topAdd t (g x) else t) t = some m ∧ g x ≤ m) ∧
    (∀ m, l.foldl (fun t x => if f x = true then topAdd t (g x) else t) t = some m → t = some m ∨ ∃ x ∈ l, f x = true ∧ g x = m) := by
  intro l
  induction l with
  | nil => intro t; exact ⟨fun p hp => ⟨p, hp, Int.le_refl _⟩, (fun x hx => by cases hx), fun m hm => .inl hm⟩
  | cons y r ih =>
    intro t
    rw [List.foldl_cons]
    obtain ⟨i1, i2, i3⟩ := ih (if f y = true then topAdd t (g y) else t)
    by_cases hf : f y = true
    · rw [if_pos hf] at i1 i2 i3 ⊢
      refine ⟨fun p hp => ?_, fun x hx hfx => ?_, fun m hm => ?_⟩
      · subst hp
        obtain ⟨m, h1, h2⟩ := i1 (max (g y) p) rfl
        exact ⟨m, h1, by omega⟩
      · rcases List.mem_cons.1 hx with rfl | hx
        · cases t with
          | none =>
            obtain ⟨m, h1, h2⟩ := i1 (g x) rfl
            exact ⟨m, h1, h2⟩
          | some p =>
            obtain ⟨m, h1, h2⟩ := i1 (max (g x) p) rfl
            exact ⟨m, h1, by omega⟩
        · exact i2 x hx hfx
      · rcases i3 m hm with h | ⟨x, hx, h1, h2⟩
        · cases t with
          | none =>
            have : g y = m := by simpa [topAdd] using h
            exact .inr ⟨y, List.mem_cons_self .., hf, this⟩
          | some p =>
            have h' : max (g y) p = m := by simpa [topAdd] using h
            by_cases hm2 : m = p
            · exact .inl (by rw [hm2])
            · exact .inr ⟨y, List.mem_cons_self .., hf, by omega⟩
        · exact .inr ⟨x, List.mem_cons_of_mem _ hx, h1, h2⟩
    · rw [if_neg hf] at i1 i2 i3 ⊢
      refine ⟨i1, fun x hx hfx => ?_, fun m hm => ?_⟩
      · rcases List.mem_cons.1 hx with rfl | hx
        · exact absurd hfx hf
        · exact i2 x hx hfx
      · rcases i3 m hm with h | ⟨x, hx, h1, h2⟩
        · exact .inl h
        · exact .inr ⟨x, List.mem_cons_of_mem _ hx, h1, h2⟩
structure TopS (c : Cf) (q : Int) (T : Option Int) : Prop where
  t : ∀ x ∈ c.tasks, usesB c x.res q = true → ∃ m, T = some m ∧ x.prio ≤ m
  i : ∀ x ∈ c.isrs, usesB c x.res q = true → ∃ m, T = some m ∧ x.prio ≤ m
  m : ∀ m, T = some m → (∃ x ∈ c.tasks, usesB c x.res q = true ∧ x.prio = m) ∨ (∃ x ∈ c.isrs, usesB c x.res q = true ∧ x.prio = m)
theorem top_spec (c : Cf) (q : Int) : TopS c q (useI c q c.isrs.length) := by
  unfold useI useT
  rw [List.take_of_length_le (Nat.le_refl _), List.take_of_length_le (Nat.le_refl _)]
  obtain ⟨a1, a2, a3⟩ := fold_spec (fun x : Tk => usesB c x.res q) (fun x : Tk => x.prio) c.tasks none
  obtain ⟨b1, b2, b3⟩ := fold_spec (fun x : Is => usesB c x.res q) (fun x : Is => x.prio) c.isrs (c.tasks.foldl (fun t x => if usesB c x.res q = true then topAdd t x.prio else t) none)
  refine ⟨fun x hx hu => ?_, fun x hx hu => b2 x hx hu, fun m hm => ?_⟩
  · obtain ⟨m, h1, h2⟩ := a2 x hx hu
    obtain ⟨m', h3, h4⟩ := b1 m h1
    exact ⟨m', h3, Int.le_trans h2 h4⟩
  · rcases b3 m hm with h | ⟨x, hx, h1, h2⟩
    · rcases a3 m h with h' | ⟨x, hx, h1, h2⟩
      · cases h'
      · exact .inl ⟨x, hx, h1, h2⟩
    · exact .inr ⟨x, hx, h1, h2⟩
theorem mem_grp {c : Cf} {q : Nat} (hg : grpE c (q : Int) = 0) {k : Int} : k ∈ grpL c (q : Int) ↔ ∃ i : Nat, k = (i : Int) ∧ i < c.ress.length ∧ rootN c (i : Int) = rootN c (q : Int) := by
  unfold grpL grpN
  rw [if_pos hg, List.take_of_length_le (by simp), List.mem_map]
  constructor
  · rintro ⟨i, hi, rfl⟩
    obtain ⟨h1, h2⟩ := List.mem_filter.1 hi
    exact ⟨i, rfl, List.mem_range.1 h1, by simpa using h2⟩
  · rintro ⟨i, rfl, hi, hr⟩
    exact ⟨i, List.mem_filter.2 ⟨List.mem_range.2 hi, by simpa using hr⟩, rfl⟩
theorem ceil_grp {c : Cf} {i q : Nat} (h : rootN c (i : Int) = rootN c (q : Int)) : ceilE c i = ceilE c q := by
  unfold ceilE
  rw [h]
def hasB (l : List Int) (k : Int) : Bool := l.any (fun z => z == k)
theorem use_of {c : Cf} {q : Nat} (hg : grpE c (q : Int) = 0) {k : Int} (hk : k ∈ grpL c (q : Int)) {l : List Int} (h : hasB l k = true) : usesB c l (q : Int) = true := by
  obtain ⟨i, rfl, hi, hr⟩ := (mem_grp hg).1 hk
  obtain ⟨z, hz, he⟩ := List.any_eq_true.1 h
  have : z = (i : Int) := by simpa using he
  subst this
  exact List.any_eq_true.2 ⟨_, hz, by simpa using hr⟩
theorem use_to {c : Cf} {q : Nat} (hg : grpE c (q : Int) = 0) {l : List Int} (hid : ∀ z ∈ l, isId z c.ress.length = true) (h : usesB c l (q : Int) = true) : ∃ k ∈ grpL c (q : Int), hasB l k = true := by
  obtain ⟨z, hz, he⟩ := List.any_eq_true.1 h
  have hbd : 0 ≤ z ∧ z < c.ress.length := by simpa [isId] using hid z hz
  obtain ⟨i, rfl⟩ := Int.eq_ofNat_of_zero_le hbd.1
  exact ⟨(i : Int), (mem_grp hg).2 ⟨i, rfl, by omega, by simpa using he⟩, List.any_eq_true.2 ⟨_, hz, by simp⟩⟩
def PtB (top k : Int) (x : Tk) : Bool := hasB x.res k && (x.prio == top)
def PiB (top k : Int) (x : Is) : Bool := hasB x.res k && (x.prio == top)
def MkB (c : Cf) (top k : Int) : Bool := c.tasks.any (PtB top k) || c.isrs.any (PiB top k)
theorem ceil_told {c : Cf} {q : Nat} (hg : grpE c (q : Int) = 0) : ceilE c q = toldI (useI c (q : Int) c.isrs.length) := by
  obtain ⟨hl, hid⟩ := grp_zero hg
  have hbd : 0 ≤ (q : Int) ∧ (q : Int) < c.ress.length := by simpa [isId] using hid
  exact ceilE_use c q (endsB_at (look_lk hl).2.2 (by omega))
theorem least_t {c : Cf} {q : Nat} (hg : grpE c (q : Int) = 0) {k : Int} (hk : k ∈ grpL c (q : Int)) {x : Tk} (hx : x ∈ c.tasks) (h : hasB x.res k = true) : x.prio ≤ ceilE c q := by
  obtain ⟨m, h1, h2⟩ := (top_spec c (q : Int)).t x hx (use_of hg hk h)
  rw [ceil_told hg, h1]
  exact h2
theorem least_i {c : Cf} {q : Nat} (hg : grpE c (q : Int) = 0) {k : Int} (hk : k ∈ grpL c (q : Int)) {x : Is} (hx : x ∈ c.isrs) (h : hasB x.res k = true) : x.prio ≤ ceilE c q := by
  obtain ⟨m, h1, h2⟩ := (top_spec c (q : Int)).i x hx (use_of hg hk h)
  rw [ceil_told hg, h1]
  exact h2
theorem idxL_pos {α : Type} (f : α → Bool) (l : List α) : 0 < (idxL f l l.length).length ↔ ∃ x ∈ l, f x = true := by
  unfold idxL
  rw [List.length_map, List.take_of_length_le (by simp), List.length_pos_iff_exists_mem]
  constructor
  · rintro ⟨i, hi⟩
    obtain ⟨h1, h2⟩ := List.mem_filter.1 hi
    have hl := List.mem_range.1 h1
    rw [List.getElem?_eq_getElem hl] at h2
    exact ⟨_, List.getElem_mem hl, h2⟩
  · rintro ⟨x, hx, hf⟩
    obtain ⟨i, hi⟩ := List.getElem?_of_mem hx
    have hl := (List.getElem?_eq_some_iff.1 hi).1
    exact ⟨i, List.mem_filter.2 ⟨List.mem_range.2 hl, by rw [hi]; exact hf⟩⟩
theorem meet_ids {c : Cf} (h : meetB c = true) : (∀ x ∈ c.tasks, ∀ z ∈ x.res, isId z c.ress.length = true) ∧ (∀ x ∈ c.isrs, ∀ z ∈ x.res, isId z c.ress.length = true) := by
  unfold meetB at h
  obtain ⟨h1, h2⟩ := Bool.and_eq_true_iff.1 h
  exact ⟨fun x hx z hz => ris_mem (List.all_eq_true.1 h1 x hx) hz, fun x hx z hz => ris_mem (List.all_eq_true.1 h2 x hx) hz⟩
theorem least_met {c : Cf} {q : Nat} (hg : grpE c (q : Int) = 0) : (grpL c (q : Int)).any (MkB c (ceilE c q)) = decide (0 < (usrT c (q : Int)).length + (usrI c (q : Int)).length) := by
  have hids := meet_ids (look_lk (grp_zero hg).1).1
  have ht : 0 < (usrT c (q : Int)).length ↔ ∃ x ∈ c.tasks, usesB c x.res (q : Int) = true := by unfold usrT; rw [if_pos hg]; exact idxL_pos _ _
  have hi : 0 < (usrI c (q : Int)).length ↔ ∃ x ∈ c.isrs, usesB c x.res (q : Int) = true := by unfold usrI; rw [if_pos hg]; exact idxL_pos _ _
  by_cases hu : 0 < (usrT c (q : Int)).length + (usrI c (q : Int)).length
  · rw [decide_eq_true hu]
    have hT : ∃ m, useI c (q : Int) c.isrs.length = some m := by
      rcases Nat.lt_or_ge 0 (usrT c (q : Int)).length with h | h
      · obtain ⟨x, hx, hb⟩ := ht.1 h
        obtain ⟨m, h1, _⟩ := (top_spec c (q : Int)).t x hx hb
        exact ⟨m, h1⟩
      · obtain ⟨x, hx, hb⟩ := hi.1 (by omega)
        obtain ⟨m, h1, _⟩ := (top_spec c (q : Int)).i x hx hb
        exact ⟨m, h1⟩
    obtain ⟨m, hm⟩ := hT
    have hc : ceilE c q = m := by rw [ceil_told hg, hm]; rfl
    rw [hc]
    rcases (top_spec c (q : Int)).m m hm with ⟨x, hx, hb, hp⟩ | ⟨x, hx, hb, hp⟩
    · obtain ⟨k, hk, hh⟩ := use_to hg (hids.1 x hx) hb
      exact List.any_eq_true.2 ⟨k, hk, Bool.or_eq_true_iff.2 (.inl (List.any_eq_true.2 ⟨x, hx, by unfold PtB; rw [hh, hp]; simp⟩))⟩
    · obtain ⟨k, hk, hh⟩ := use_to hg (hids.2 x hx) hb
      exact List.any_eq_true.2 ⟨k, hk, Bool.or_eq_true_iff.2 (.inr (List.any_eq_true.2 ⟨x, hx, by unfold PiB; rw [hh, hp]; simp⟩))⟩
  · rw [decide_eq_false hu, List.any_eq_false]
    intro k hk hM
    rcases Bool.or_eq_true_iff.1 hM with h | h
    · obtain ⟨x, hx, hP⟩ := List.any_eq_true.1 h
      have hh : hasB x.res k = true := (Bool.and_eq_true_iff.1 hP).1
      have := ht.2 ⟨x, hx, use_of hg hk hh⟩
      omega
    · obtain ⟨x, hx, hP⟩ := List.any_eq_true.1 h
      have hh : hasB x.res k = true := (Bool.and_eq_true_iff.1 hP).1
      have := hi.2 ⟨x, hx, use_of hg hk hh⟩
      omega
theorem least_neg {c : Cf} {q : Nat} (hg : grpE c (q : Int) = 0) (h : (grpL c (q : Int)).any (MkB c (ceilE c q)) = false) : ceilE c q = -1 := by
  rw [least_met hg] at h
  have h0 : ¬ 0 < (usrT c (q : Int)).length + (usrI c (q : Int)).length := of_decide_eq_false h
  have ht : 0 < (usrT c (q : Int)).length ↔ ∃ x ∈ c.tasks, usesB c x.res (q : Int) = true := by unfold usrT; rw [if_pos hg]; exact idxL_pos _ _
  have hi : 0 < (usrI c (q : Int)).length ↔ ∃ x ∈ c.isrs, usesB c x.res (q : Int) = true := by unfold usrI; rw [if_pos hg]; exact idxL_pos _ _
  rw [ceil_told hg]
  cases hT : useI c (q : Int) c.isrs.length with
  | none => rfl
  | some m =>
    rcases (top_spec c (q : Int)).m m hT with ⟨x, hx, hb, _⟩ | ⟨x, hx, hb, _⟩
    · have := ht.2 ⟨x, hx, hb⟩; omega
    · have := hi.2 ⟨x, hx, hb⟩; omega
theorem has_own {c : Cf} {q : Nat} (hg : grpE c (q : Int) = 0) : hasB (grpL c (q : Int)) (q : Int) = true := by
  have hid := (grp_zero hg).2
  have hbd : 0 ≤ (q : Int) ∧ (q : Int) < c.ress.length := by simpa [isId] using hid
  exact List.any_eq_true.2 ⟨(q : Int), (mem_grp hg).2 ⟨q, rfl, by omega, rfl⟩, by simp⟩
end Go.Proofs.Ytapfbinaocaclaa

namespace Go.Proofs.Ytapfbinaocaclaa
open Go.RowKit
set_option linter.unusedVariables false
set_option linter.unusedSimpArgs false

/-! ### Lists: configurations that name the same resources -/
structure AlikeC (c d : Cf) : Prop where
  r : d.ress = c.ress
  t : d.tasks.map (fun x => x.res) = c.tasks.map (fun x => x.res)
  i : d.isrs.map (fun x => x.res) = c.isrs.map (fun x => x.res)
theorem rkind_al {c d : Cf} (h : d.ress = c.ress) (r : Int) : rkind d r = rkind c r := by unfold rkind; rw [h]
theorem rlink_al {c d : Cf} (h : d.ress = c.ress) (r : Int) : rlink d r = rlink c r := by unfold rlink; rw [h]
theorem rootF_al {c d : Cf} (h : d.ress = c.ress) : ∀ (f : Nat) (r : Int), rootF d f r = rootF c f r
  | 0, r => rfl
  | f + 1, r => by rw [rootF, rootF, rkind_al h, rlink_al h, rootF_al h f, h]
theorem rootN_al {c d : Cf} (h : d.ress = c.ress) (r : Int) : rootN d r = rootN c r := by
  unfold rootN
  rw [rootF_al h, h]
theorem all_al {α β : Type} {l : List α} {m : List β} (f : α → List Int) (g : β → List Int) (h : l.map f = m.map g) (p : List Int → Bool) : l.all (fun x => p (f x)) = m.all (fun x => p (g x)) := by
  have h1 : (l.map f).all p = (m.map g).all p := by rw [h]
  rw [List.all_map, List.all_map] at h1
  exact h1
theorem look_al {c d : Cf} (h : AlikeC c d) : lookE d = lookE c := by
  have m1 : meetB d = meetB c := by
    unfold meetB risT risI
    rw [all_al (fun x : Tk => x.res) (fun x : Tk => x.res) h.t (fun l => risF (-1) l d.ress.length), all_al (fun x : Is => x.res) (fun x : Is => x.res) h.i (fun l => risF (-1) l d.ress.length), h.r]
  have m2 : lkB d = lkB c := by unfold lkB; rw [h.r]
  have m3 : endsB d = endsB c := by
    unfold endsB
    rw [h.r]
    congr 1
    funext i
    rw [rootN_al h.r]
  have m4 : linksB d = linksB c := by
    unfold linksB
    rw [h.r]
    congr 1
    funext i
    unfold lfB
    rw [rkind_al h.r, rootN_al h.r, rkind_al h.r]
  have m5 : fitB d = fitB c := by
    have e : ∀ b l, fitU d b l = fitU c b l := fun b l => by
      unfold fitU takenL
      rw [show (fun x => rkind d x != 3) = (fun x => rkind c x != 3) from funext fun x => by rw [rkind_al h.r]]
    unfold fitB
    have e1 : d.tasks.all (fun x => fitU d false x.res) = c.tasks.all (fun x => fitU c false x.res) := by
      rw [all_al (fun x : Tk => x.res) (fun x : Tk => x.res) h.t (fun l => fitU d false l)]
      congr 1
      funext x
      exact e _ _
    have e2 : d.isrs.all (fun x => fitU d true x.res) = c.isrs.all (fun x => fitU c true x.res) := by
      rw [all_al (fun x : Is => x.res) (fun x : Is => x.res) h.i (fun l => fitU d true l)]
      congr 1
      funext x
      exact e _ _
    rw [e1, e2]
  unfold lookE
  rw [m1, m2, m3, m4, m5]
theorem uses_al {c d : Cf} (h : d.ress = c.ress) (l : List Int) (r : Int) : usesB d l r = usesB c l r := by
  unfold usesB
  congr 1
  funext x
  rw [rootN_al h, rootN_al h]
structure GrowC (c d : Cf) (k : Nat) : Prop where
  al : AlikeC c d
  t1 : ∀ (j : Nat) (x : Tk), c.tasks[j]? = some x → ∃ y, d.tasks[j]? = some y ∧ y.res = x.res ∧ y.full = x.full ∧ x.prio ≤ y.prio ∧ (j ≠ k → y.prio = x.prio)
  t2 : ∀ (j : Nat) (y : Tk), d.tasks[j]? = some y → ∃ x, c.tasks[j]? = some x
  i1 : ∀ x ∈ c.isrs, ∃ y ∈ d.isrs, y.res = x.res ∧ y.prio = x.prio
  i2 : ∀ y ∈ d.isrs, ∃ x ∈ c.isrs, y.res = x.res ∧ y.prio = x.prio
theorem GrowC.back {c d : Cf} {k : Nat} (h : GrowC c d k) {j : Nat} {y : Tk} (hy : d.tasks[j]? = some y) : ∃ x, c.tasks[j]? = some x ∧ y.res = x.res ∧ y.full = x.full ∧ x.prio ≤ y.prio ∧ (j ≠ k → y.prio = x.prio) := by
  obtain ⟨x, hx⟩ := h.t2 j y hy
  obtain ⟨y', hy', r⟩ := h.t1 j x hx
  rw [hy] at hy'
  cases hy'
  exact ⟨x, hx, r⟩
theorem use_le {c d : Cf} {k : Nat} (h : GrowC c d k) (q : Int) : (∀ m, useI c q c.isrs.length = some m → ∃ m', useI d q d.isrs.length = some m' ∧ m ≤ m') ∧ (useI c q c.isrs.length = none → useI d q d.isrs.length = none) := by
  have s1 := top_spec c q
  have s2 := top_spec d q
  constructor
  · intro m hm
    rcases s1.m m hm with ⟨x, hx, hu, hp⟩ | ⟨x, hx, hu, hp⟩
    · obtain ⟨j, hj⟩ := List.getElem?_of_mem hx
      obtain ⟨y, hy, hr, _, hle, _⟩ := h.t1 j x hj
      obtain ⟨m', h1, h2⟩ := s2.t y (List.mem_of_getElem? hy) (by rw [uses_al h.al.r, hr]; exact hu)
      exact ⟨m', h1, by omega⟩
    · obtain ⟨y, hy, hr, hp2⟩ := h.i1 x hx
      obtain ⟨m', h1, h2⟩ := s2.i y hy (by rw [uses_al h.al.r, hr]; exact hu)
      exact ⟨m', h1, by omega⟩
  · intro hn
    cases hd : useI d q d.isrs.length with
    | none => rfl
    | some m' =>
      rcases s2.m m' hd with ⟨y, hy, hu, hp⟩ | ⟨y, hy, hu, hp⟩
      · obtain ⟨j, hj⟩ := List.getElem?_of_mem hy
        obtain ⟨x, hx, hr, _⟩ := h.back hj
        obtain ⟨m, h1, _⟩ := s1.t x (List.mem_of_getElem? hx) (by rw [← hr, ← uses_al h.al.r]; exact hu)
        rw [hn] at h1; cases h1
      · obtain ⟨x, hx, hr, _⟩ := h.i2 y hy
        obtain ⟨m, h1, _⟩ := s1.i x hx (by rw [← hr, ← uses_al h.al.r]; exact hu)
        rw [hn] at h1; cases h1
theorem use_eq {c d : Cf} {k : Nat} (h : GrowC c d k) (q : Int) {xk : Tk} (hk : c.tasks[k]? = some xk) (hn : usesB c xk.res q = false) : useI d q d.isrs.length = useI c q c.isrs.length := by
  have s1 := top_spec c q
  have s2 := top_spec d q
  obtain ⟨l1, l2⟩ := use_le h q
  cases hc : useI c q c.isrs.length with
  | none => exact l2 hc
  | some m =>
    obtain ⟨m', hm', hle⟩ := l1 m hc
    rw [hm']
    have : m' ≤ m := by
      rcases s2.m m' hm' with ⟨y, hy, hu, hp⟩ | ⟨y, hy, hu, hp⟩
      · obtain ⟨j, hj⟩ := List.getElem?_of_mem hy
        obtain ⟨x, hx, hr, _, _, heq⟩ := h.back hj
        have hux : usesB c x.res q = true := by rw [← hr, ← uses_al h.al.r]; exact hu
        have hjk : j ≠ k := fun e => by subst e; rw [hk] at hx; cases hx; rw [hn] at hux; cases hux
        obtain ⟨m2, h1, h2⟩ := s1.t x (List.mem_of_getElem? hx) hux
        rw [hc] at h1; cases h1
        have := heq hjk
        omega
      · obtain ⟨x, hx, hr, hp2⟩ := h.i2 y hy
        obtain ⟨m2, h1, h2⟩ := s1.i x hx (by rw [← hr, ← uses_al h.al.r]; exact hu)
        rw [hc] at h1; cases h1
        omega
    congr 1
    omega
theorem ceil_use2 {c : Cf} (hl : lookE c = 0) {q : Nat} (hq : q < c.ress.length) : ceilE c q = toldI (useI c (q : Int) c.isrs.length) := ceilE_use c q (endsB_at (look_lk hl).2.2 hq)
theorem ceil_mono {c d : Cf} {k : Nat} (h : GrowC c d k) (hl : lookE c = 0) {q : Nat} (hq : q < c.ress.length) : ceilE c q ≤ ceilE d q := by
  rw [ceil_use2 hl hq, ceil_use2 (by rw [look_al h.al]; exact hl) (by rw [h.al.r]; exact hq)]
  obtain ⟨l1, l2⟩ := use_le h (q : Int)
  cases hc : useI c (q : Int) c.isrs.length with
  | none => rw [l2 hc]; exact Int.le_refl _
  | some m =>
    obtain ⟨m', hm', hle⟩ := l1 m hc
    rw [hm']
    exact hle
theorem ceil_same {c d : Cf} {k : Nat} (h : GrowC c d k) (hl : lookE c = 0) {q : Nat} (hq : q < c.ress.length) {xk : Tk} (hk : c.tasks[k]? = some xk) (hn : usesB c xk.res (q : Int) = false) : ceilE d q = ceilE c q := by
  rw [ceil_use2 hl hq, ceil_use2 (by rw [look_al h.al]; exact hl) (by rw [h.al.r]; exact hq), use_eq h _ hk hn]
theorem sch_spec (c : Cf) : (∀ x ∈ c.tasks, x.prio ≤ schE c) ∧ (c.tasks ≠ [] → ∃ x ∈ c.tasks, x.prio = schE c) := by
  refine ⟨fun x hx => prio_le hx, fun hne => ?_⟩
  obtain ⟨_, _, h3⟩ := fold_spec (fun _ : Tk => true) (fun x : Tk => x.prio) c.tasks none
  unfold schE schT
  rw [List.take_of_length_le (Nat.le_refl _)]
  have e : ∀ t, c.tasks.foldl (fun t (x : Tk) => if true = true then topAdd t x.prio else t) t = c.tasks.foldl (fun t x => topAdd t x.prio) t := fun t => by simp
  cases hT : c.tasks.foldl (fun t x => topAdd t x.prio) none with
  | none =>
    obtain ⟨x, hx⟩ := List.exists_mem_of_ne_nil _ hne
    exact absurd hT (fold_top_some (fun x : Tk => x.prio) c.tasks x hx)
  | some m =>
    rcases h3 m (by rw [e]; exact hT) with h | ⟨x, hx, _, hp⟩
    · cases h
    · exact ⟨x, hx, hp⟩
theorem sch_mono {c d : Cf} {k : Nat} (h : GrowC c d k) (hne : c.tasks ≠ []) : schE c ≤ schE d := by
  obtain ⟨x, hx, hp⟩ := (sch_spec c).2 hne
  obtain ⟨j, hj⟩ := List.getElem?_of_mem hx
  obtain ⟨y, hy, _, _, hle, _⟩ := h.t1 j x hj
  have := (sch_spec d).1 y (List.mem_of_getElem? hy)
  omega
theorem runF_ge (c : Cf) : ∀ (l : List Int) (m : Int), m ≤ runF c l m := by
  intro l
  induction l with
  | nil => intro m; exact Int.le_refl _
  | cons x r ih =>
    intro m
    unfold runF
    rw [List.foldl_cons]
    have := ih (if rkind c x == 3 then max m (ceilE c x.toNat) else m)
    unfold runF at this
    refine Int.le_trans ?_ this
    split <;> omega
theorem runF_mono {c d : Cf} (hr : d.ress = c.ress) : ∀ (l : List Int) (m m' : Int), (∀ z ∈ l, ceilE c z.toNat ≤ ceilE d z.toNat) → m ≤ m' → runF c l m ≤ runF d l m' := by
  intro l
  induction l with
  | nil => intro m m' _ h; exact h
  | cons x r ih =>
    intro m m' hc h
    unfold runF
    rw [List.foldl_cons, List.foldl_cons, rkind_al hr]
    have hx := hc x (List.mem_cons_self ..)
    refine ih _ _ (fun z hz => hc z (List.mem_cons_of_mem _ hz)) ?_
    split <;> omega
theorem run_mono {c d : Cf} {k : Nat} (h : GrowC c d k) (hl : lookE c = 0) {j : Nat} {x y : Tk} (hx : c.tasks[j]? = some x) (hy : d.tasks[j]? = some y) : runP c x ≤ runP d y := by
  obtain ⟨x', hx', hr, hf, hle, _⟩ := h.back hy
  rw [hx] at hx'
  cases hx'
  have hs := sch_mono h (fun e => by rw [e] at hx; simp at hx)
  unfold runP
  rw [hr, hf]
  refine runF_mono h.al.r _ _ _ (fun z hz => ?_) (by split <;> omega)
  have hid := (meet_ids (look_lk hl).1).1 x (List.mem_of_getElem? hx) z hz
  have hbd : 0 ≤ z ∧ z < c.ress.length := by simpa [isId] using hid
  exact ceil_mono h hl (by omega)
theorem run_own (c : Cf) (x : Tk) : x.prio ≤ runP c x := by
  unfold runP
  have := runF_ge c x.res (if x.full = true then x.prio else max x.prio (schE c))
  refine Int.le_trans ?_ this
  split <;> omega
theorem usr_has {c : Cf} {q k : Nat} (hg : grpE c (q : Int) = 0) {x : Tk} (hx : c.tasks[k]? = some x) (h : hasB (usrT c (q : Int)) (k : Int) = false) : usesB c x.res (q : Int) = false := by
  cases hu : usesB c x.res (q : Int) with
  | false => rfl
  | true =>
    have hkl := (List.getElem?_eq_some_iff.1 hx).1
    have : hasB (usrT c (q : Int)) (k : Int) = true := by
      unfold hasB usrT idxL
      rw [if_pos hg, List.take_of_length_le (by simp)]
      exact List.any_eq_true.2 ⟨(k : Int), List.mem_map.2 ⟨k, List.mem_filter.2 ⟨List.mem_range.2 hkl, by rw [hx]; exact hu⟩, rfl⟩, by simp⟩
    rw [this] at h
    cases h
/-- The copy, one task's priority greater. -/
def growD (c : Cf) (k : Nat) (m : Int) : Cf := { cpyC c with tasks := (cpyC c).tasks.mapIdx (fun j x => if j = k then { x with prio := x.prio + m } else x) }
theorem grow_tasks (c : Cf) (k : Nat) (m : Int) (j : Nat) : (growD c k m).tasks[j]? = (c.tasks[j]?).map (fun x => if j = k then { cpT x with prio := x.prio + m } else cpT x) := by
  unfold growD cpyC
  simp only [List.getElem?_mapIdx, List.getElem?_map, Option.map_map]
  rfl
theorem grow_is (c : Cf) (k : Nat) (m : Int) (hm : 0 ≤ m) : GrowC c (growD c k m) k := by
  refine ⟨⟨rfl, ?_, ?_⟩, fun j x hx => ?_, fun j y hy => ?_, fun x hx => ?_, fun y hy => ?_⟩
  · apply List.ext_getElem?
    intro j
    rw [List.getElem?_map, List.getElem?_map, grow_tasks]
    cases c.tasks[j]? with
    | none => rfl
    | some x => simp only [Option.map_some]; split <;> rfl
  · show ((cpyC c).isrs).map _ = _
    unfold cpyC
    simp only [List.map_map]
    rfl
  · rw [grow_tasks, hx]
    refine ⟨_, rfl, ?_, ?_, ?_, ?_⟩
    · split <;> rfl
    · split <;> rfl
    · split
      · show x.prio ≤ x.prio + m; omega
      · exact Int.le_refl _
    · intro hjk; dsimp only; rw [if_neg hjk]; rfl
  · rw [grow_tasks] at hy
    obtain ⟨x, hx, _⟩ := Option.map_eq_some_iff.1 hy
    exact ⟨x, hx⟩
  · exact ⟨cpI x, List.mem_map.2 ⟨x, hx, rfl⟩, rfl, rfl⟩
  · obtain ⟨x, hx, rfl⟩ := List.mem_map.1 hy
    exact ⟨x, hx, rfl, rfl⟩
end Go.Proofs.Ytapfbinaocaclaa

namespace Go.Proofs.Ytapfbinaocaclaa
open Go.RowKit Go.Maps
set_option linter.unusedVariables false
set_option linter.unusedSimpArgs false

/-! ### The copy, one task's priority greater: memory -/
theorem grow_map (c : Cf) (k : Nat) (m : Int) : (growD c k m).tasks = (c.tasks.mapIdx (fun j x => if j = k then { x with prio := x.prio + m } else x)).map cpT := by
  apply List.ext_getElem?
  intro j
  rw [grow_tasks, List.getElem?_map, List.getElem?_mapIdx, Option.map_map]
  cases c.tasks[j]? with
  | none => rfl
  | some x =>
    simp only [Option.map_some, Function.comp]
    by_cases h : j = k
    · rw [if_pos h, if_pos h]; rfl
    · rw [if_neg h, if_neg h]
theorem CpO.grow {w : World} {c : Cf} {tt tr ti : Sl} {W : World} (h : CpO w c tt tr ti W) {k : Nat} {xk : Tk} (hk : c.tasks[k]? = some xk) (m : Int) :
    ∃ g, tt.a = some ⟨g, 0, none⟩ ∧ w.heap.size ≤ g ∧ g < W.heap.size ∧ tt.n = c.tasks.length ∧ tt.n ≤ tt.c ∧ tt.c ≤ maxLen ∧ W.cell? ⟨g, k * 8 + 1, none⟩ = some (I xk.prio) ∧ W.frozen? ⟨g, k * 8 + 1, none⟩ = false ∧ W.heap[g]? ≠ none ∧ (∃ cur, W.heap[g]? = some (.cells cur 47 (0, 0))) ∧ CfAt (W.setCell ⟨g, k * 8 + 1, none⟩ (I (xk.prio + m))) (growD c k m) (cpV tt tr ti) := by
  obtain ⟨xt, t1, t2⟩ := h.t
  obtain ⟨xr, r1, r2⟩ := h.r
  obtain ⟨xi, i1, i2⟩ := h.i
  have hkl := (List.getElem?_eq_some_iff.1 hk).1
  rcases t1.2 with ⟨_, h0⟩ | ⟨g, cap, cur, hv, hb, hg, hnc, hcm, hcs, htk⟩
  · omega
  injection hv with e1 e2 e3
  have t1' := t1
  rw [e1, e2, e3] at t1'
  obtain ⟨u1, hu1, hp1⟩ := t2.at' k xk hk 1 (by omega)
  have hp1' : u1 = I xk.prio := hp1
  subst hp1'
  have hlt : k * 8 + 1 < c.tasks.length * 8 := by have := (List.getElem?_eq_some_iff.1 hu1).1; rw [t2.n] at this; exact this
  have st := t1'.stored (k * 8 + 1) (I (xk.prio + m))
  have hgb : W.grownBy (W.setCell ⟨g, k * 8 + 1, none⟩ (I (xk.prio + m))) (Value.slice tt.a tt.n tt.c).ownBlock := by rw [e1]; exact st.2
  have ki : ∀ (n : Nat) (u : Value) (ys : List Value), W.ownsRow w.heap.size 3 1 u n ys → (W.setCell ⟨g, k * 8 + 1, none⟩ (I (xk.prio + m))).ownsRow w.heap.size 3 1 u n ys := fun n u ys ho => own_kept_ty ho t1 (by decide) hgb
  refine ⟨g, e1, hb, heap_lt hg, e2, by rw [e2, e3]; exact hnc, by rw [e3]; exact hcm, by rw [t1'.cellAt _ hlt]; exact hu1, t1'.frozenAt _, by rw [hg]; simp, ⟨cur, hg⟩, rows_nil _ _ _, ?_, RowsX.rows (own_kept_ty r1 t1 (by decide) hgb) r2, rows_nil _ _ _, rows_nil _ _ _, rows_nil _ _ _, ?_, rows_nil _ _ _⟩
  · rw [grow_map]
    refine RowsX.rows (xs := xt.set (k * 8 + 1) (I (xk.prio + m))) (by rw [List.length_map, List.length_mapIdx, show (cpV tt tr ti).t = tt from rfl, e1, e2, e3]; exact st.1) (RowsX.map cpT (P := tkO (W.setCell ⟨g, k * 8 + 1, none⟩ (I (xk.prio + m))) w.heap.size) ⟨by rw [List.length_set, t2.n, List.length_mapIdx], fun j y hj i hi => ?_⟩ (fun x i u hu => tkO_P hu))
    rw [List.getElem?_mapIdx] at hj
    obtain ⟨x, hx, rfl⟩ := Option.map_eq_some_iff.1 hj
    obtain ⟨u, h1, h2⟩ := t2.at' j x hx i hi
    by_cases hji : j = k ∧ i = 1
    · obtain ⟨rfl, rfl⟩ := hji
      rw [hx] at hk
      cases hk
      refine ⟨I (xk.prio + m), by rw [List.getElem?_set, if_pos rfl, if_pos (by rw [t2.n]; exact hlt)], ?_⟩
      rw [if_pos rfl]
      rfl
    · refine ⟨u, by rw [List.getElem?_set, if_neg (fun e => hji (by omega))]; exact h1, ?_⟩
      have h3 := tkO_mono ki x i u h2
      by_cases hjk : j = k
      · rw [if_pos hjk]
        have hi1 : i ≠ 1 := fun e => hji ⟨hjk, e⟩
        unfold tkO at h3 ⊢
        split at h3 <;> first | exact h3 | exact absurd rfl hi1
      · rw [if_neg hjk]
        exact h3
  · exact RowsX.rows (l := c.isrs.map cpI) (by rw [List.length_map]; exact own_kept_ty i1 t1 (by decide) hgb) ((i2.mono (isO_mono ki)).map cpI (fun x i u hu => isO_P hu))
end Go.Proofs.Ytapfbinaocaclaa

