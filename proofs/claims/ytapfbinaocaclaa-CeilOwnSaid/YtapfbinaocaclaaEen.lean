import Derived.Test.YtapfbinaocaclaaEem
namespace Go.Proofs.Ytapfbinaocaclaa
open Go.RowKit
set_option linter.unusedVariables false
set_option linter.unusedSimpArgs false

/-! ### Running: the program's and the document's answer are one (lists) -/
theorem ris_mem {n : Int} : ∀ {l : List Int} {a : Int}, risF a l n = true → ∀ {z : Int}, z ∈ l → isId z n = true := by
  intro l
  induction l with
  | nil => intro a _ z hz; cases hz
  | cons x r ih =>
    intro a h z hz
    rw [risF] at h
    obtain ⟨h1, h2⟩ := Bool.and_eq_true_iff.1 h
    rcases List.mem_cons.1 hz with rfl | hz
    · exact (Bool.and_eq_true_iff.1 h1).1
    · exact ih h2 hz
theorem fold_le {α : Type} (f : α → Bool) (g : α → Int) (B : Int) : ∀ (l : List α) (t : Option Int), (∀ p, t = some p → p ≤ B) → (∀ y ∈ l, g y ≤ B) → ∀ q, l.foldl (fun t x => if f x = true then topAdd t (g x) else t) t = some q → q ≤ B := by
  intro l
  induction l with
  | nil => intro t h _ q hq; exact h q hq
  | cons x r ih =>
    intro t h hl q hq
    rw [List.foldl_cons] at hq
    refine ih _ ?_ (fun y hy => hl y (List.mem_cons_of_mem _ hy)) q hq
    intro p hp
    have hx := hl x (List.mem_cons_self ..)
    by_cases hf : f x = true
    · rw [if_pos hf] at hp
      cases t with
      | none => simp [topAdd] at hp; omega
      | some a =>
        have ha := h a rfl
        simp [topAdd] at hp
        omega
    · rw [if_neg hf] at hp
      exact h p hp
theorem fold_keep {α : Type} (f : α → Bool) (g : α → Int) : ∀ (l : List α) (t : Option Int), t ≠ none → l.foldl (fun t x => if f x = true then topAdd t (g x) else t) t ≠ none := by
  intro l
  induction l with
  | nil => intro t h; exact h
  | cons x r ih =>
    intro t h
    rw [List.foldl_cons]
    refine ih _ ?_
    by_cases hf : f x = true
    · rw [if_pos hf]
      cases t <;> simp [topAdd]
    · rw [if_neg hf]
      exact h
theorem fold_some {α : Type} (f : α → Bool) (g : α → Int) : ∀ (l : List α) (t : Option Int) (x : α), x ∈ l → f x = true → l.foldl (fun t x => if f x = true then topAdd t (g x) else t) t ≠ none := by
  intro l
  induction l with
  | nil => intro t x hx; cases hx
  | cons y r ih =>
    intro t x hx hf
    rw [List.foldl_cons]
    rcases List.mem_cons.1 hx with rfl | hx
    · rw [if_pos hf]
      exact fold_keep f g r _ (by cases t <;> simp [topAdd])
    · exact ih _ x hx hf
theorem fold_none {α : Type} (f : α → Bool) (g : α → Int) : ∀ (l : List α) (t : Option Int), (∀ x ∈ l, f x = false) → l.foldl (fun t x => if f x = true then topAdd t (g x) else t) t = t := by
  intro l
  induction l with
  | nil => intro t _; rfl
  | cons y r ih =>
    intro t h
    rw [List.foldl_cons, if_neg (by rw [h y (List.mem_cons_self ..)]; decide)]
    exact ih t (fun x hx => h x (List.mem_cons_of_mem _ hx))
/-- A bound that is reached from below: each is at most the greatest. -/
theorem fold_ge {α : Type} (g : α → Int) : ∀ (l : List α) (t : Option Int) (q : Int), l.foldl (fun t x => topAdd t (g x)) t = some q → (∀ p, t = some p → p ≤ q) ∧ ∀ x ∈ l, g x ≤ q := by
  intro l
  induction l with
  | nil => intro t q h; exact ⟨fun p hp => by rw [List.foldl_nil, hp] at h; cases h; exact Int.le_refl _, fun x hx => by cases hx⟩
  | cons y r ih =>
    intro t q h
    rw [List.foldl_cons] at h
    obtain ⟨h1, h2⟩ := ih _ q h
    have hy : g y ≤ q ∧ ∀ p, t = some p → p ≤ q := by
      cases t with
      | none => exact ⟨h1 (g y) rfl, fun p hp => by cases hp⟩
      | some a =>
        have := h1 (max (g y) a) rfl
        exact ⟨by omega, fun p hp => by cases hp; omega⟩
    exact ⟨hy.2, fun x hx => by
      rcases List.mem_cons.1 hx with rfl | hx
      · exact hy.1
      · exact h2 x hx⟩
theorem fold_top_some {α : Type} (g : α → Int) (l : List α) (x : α) (hx : x ∈ l) : l.foldl (fun t x => topAdd t (g x)) none ≠ none := by
  have := fold_some (fun _ => true) g l none x hx rfl
  simpa using this
theorem prio_le {c : Cf} {x : Tk} (hx : x ∈ c.tasks) : x.prio ≤ schE c := by
  unfold schE schT
  rw [List.take_of_length_le (Nat.le_refl _)]
  cases h : c.tasks.foldl (fun t x => topAdd t x.prio) none with
  | none => exact absurd h (fold_top_some (fun x : Tk => x.prio) c.tasks x hx)
  | some q => exact (fold_ge (fun x : Tk => x.prio) c.tasks none q h).2 x hx
theorem look_fit {c : Cf} (h : lookE c = 0) : linksB c = true ∧ fitB c = true := by
  obtain ⟨h1, h2, h3⟩ := look_lk h
  unfold lookE at h
  rw [h1, h2, h3] at h
  cases h4 : linksB c with
  | false => rw [h4] at h; simp at h
  | true =>
    cases h5 : fitB c with
    | false => rw [h4, h5] at h; simp at h
    | true => exact ⟨rfl, rfl⟩
/-- No interrupt's routine uses an internal resource. -/
theorem isr_not {c : Cf} (h : lookE c = 0) {r : Nat} (hr : r < c.ress.length) (hk : rkind c (r : Int) = 3) {y : Is} (hy : y ∈ c.isrs) : usesB c y.res (r : Int) = false := by
  obtain ⟨hm, _, _⟩ := look_lk h
  obtain ⟨hl, hf⟩ := look_fit h
  have hrr : rootN c (r : Int) = r := root_end (isId_nat hr) (by rw [hk]; decide)
  unfold usesB
  rw [List.any_eq_false]
  intro z hz hzz
  have hzr : rootN c z = r := by rw [hrr] at hzz; simpa using hzz
  have hid : isId z c.ress.length = true := by
    have := hm
    unfold meetB at this
    have h2 := (Bool.and_eq_true_iff.1 this).2
    have h3 := List.all_eq_true.1 h2 y hy
    exact ris_mem h3 hz
  have hzb : 0 ≤ z ∧ z < c.ress.length := by simpa [isId] using hid
  obtain ⟨zn, rfl⟩ := Int.eq_ofNat_of_zero_le hzb.1
  by_cases hkz : rkind c (zn : Int) = 2
  · have h1 := List.all_eq_true.1 hl zn (List.mem_range.2 (by omega))
    unfold lfB at h1
    rw [hkz, hzr, hk] at h1
    simp at h1
  · have hzz2 : rootN c (zn : Int) = zn := root_end hid hkz
    have hze : (zn : Int) = r := by rw [← hzz2]; exact hzr
    unfold fitB at hf
    have h2 := List.all_eq_true.1 (Bool.and_eq_true_iff.1 hf).2 y hy
    rw [fitU_isr] at h2
    have h3 := List.all_eq_true.1 h2 (zn : Int) hz
    rw [hze, hk] at h3
    simp at h3
theorem ceil_le {c : Cf} (h : lookE c = 0) {r : Nat} (hr : r < c.ress.length) (hk : rkind c (r : Int) = 3) {x : Tk} (hx : x ∈ c.tasks) (hxr : (r : Int) ∈ x.res) : ceilE c r ≤ schE c := by
  obtain ⟨hm, _, he⟩ := look_lk h
  rw [ceilE_use c r (endsB_at he hr)]
  unfold useI
  rw [List.take_of_length_le (Nat.le_refl _), fold_none (fun y : Is => usesB c y.res (r : Int)) (fun y : Is => y.prio) c.isrs _ (fun y hy => isr_not h hr hk hy)]
  unfold useT
  rw [List.take_of_length_le (Nat.le_refl _)]
  have hu : usesB c x.res (r : Int) = true := List.any_eq_true.2 ⟨_, hxr, by simp⟩
  cases hq : c.tasks.foldl (fun t x => if usesB c x.res (r : Int) = true then topAdd t x.prio else t) none with
  | none => exact absurd hq (fold_some (fun y : Tk => usesB c y.res (r : Int)) (fun y : Tk => y.prio) c.tasks none x hx hu)
  | some q => exact fold_le (fun y : Tk => usesB c y.res (r : Int)) (fun y : Tk => y.prio) (schE c) c.tasks none (fun p hp => by cases hp) (fun y hy => prio_le hy) q hq
def runF (c : Cf) (l : List Int) (m : Int) : Int := l.foldl (fun m r => if rkind c r == 3 then max m (ceilE c r.toNat) else m) m
/-- What the program reckons. -/
def runP (c : Cf) (x : Tk) : Int := runF c x.res (if x.full = true then x.prio else max x.prio (schE c))
/-- What the document says. -/
def runD (c : Cf) (x : Tk) : Int := if x.full = true then runF c x.res x.prio else schE c
theorem run_same {c : Cf} (h : lookE c = 0) {x : Tk} (hx : x ∈ c.tasks) : runP c x = runD c x := by
  unfold runP runD
  cases hf : x.full with
  | true => rfl
  | false =>
    simp only [Bool.false_eq_true, if_false]
    rw [show max x.prio (schE c) = schE c by have := prio_le hx; omega]
    have hm := (look_lk h).1
    unfold meetB at hm
    have h3 := List.all_eq_true.1 (Bool.and_eq_true_iff.1 hm).1 x hx
    have hid : ∀ z ∈ x.res, isId z c.ress.length = true := fun z hz => ris_mem h3 hz
    have gen : ∀ l : List Int, (∀ z ∈ l, z ∈ x.res) → runF c l (schE c) = schE c := by
      intro l
      induction l with
      | nil => intro _; rfl
      | cons z r ih =>
        intro hz
        unfold runF
        rw [List.foldl_cons]
        have hzx := hz z (List.mem_cons_self ..)
        have hzb : 0 ≤ z ∧ z < c.ress.length := by simpa [isId] using hid z hzx
        obtain ⟨zn, rfl⟩ := Int.eq_ofNat_of_zero_le hzb.1
        have hrest := ih (fun y hy => hz y (List.mem_cons_of_mem _ hy))
        unfold runF at hrest
        by_cases hk : rkind c (zn : Int) = 3
        · have hle : ceilE c zn ≤ schE c := ceil_le h (by omega) hk hx hzx
          rw [hk]
          simp only [Int.toNat_natCast]
          rw [show max (schE c) (ceilE c zn) = schE c by omega]
          simpa using hrest
        · rw [if_neg (by simpa using hk)]
          exact hrest
    exact gen x.res (fun z hz => hz)
end Go.Proofs.Ytapfbinaocaclaa
