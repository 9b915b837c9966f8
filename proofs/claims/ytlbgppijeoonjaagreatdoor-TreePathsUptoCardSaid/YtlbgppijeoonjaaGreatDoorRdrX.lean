import Derived.Test.YtlbgppijeoonjaaGreatDoorScaX
import Derived.Test.YtlbgppijeoonjaaGreatDoorTreX
namespace Go.Proofs.YtlbgppijeoonjaaGreatDoor
open Go
set_option linter.unusedVariables false

/-! ### The document's reader, on rows of tokens: it goes on behind a fault and keeps the first one -/
inductive Rs where
  | live (xs : List Tp)
  | dead (c : Nat) (x : Tp)
def isS (k : Int) : Rs → Bool
  | .live xs => comesL k xs
  | .dead _ _ => false
def failS (c : Nat) : Rs → Rs
  | .live xs => .dead c (xs.headD tp0)
  | .dead c' x => .dead c' x
def takeS (k : Int) : Rs → Tp × Rs
  | .live xs => if comesL k xs = true then (xs.headD tp0, if k = 0 then .live xs else .live xs.tail) else (tp0, .dead 30 (xs.headD tp0))
  | .dead c x => (tp0, .dead c x)
def wordS (t : List UInt8) : Rs → Rs
  | .live xs => if comesL 1 xs = true ∧ (xs.headD tp0).z.text = t then .live xs.tail else .dead 30 (xs.headD tp0)
  | .dead c x => .dead c x
theorem wordS_live (t : List UInt8) (xs : List Tp) : wordS t (.live xs) = if comesL 1 xs = true ∧ (xs.headD tp0).z.text = t then .live xs.tail else .dead 30 (xs.headD tp0) := rfl
theorem takeS_live (k : Int) (xs : List Tp) : takeS k (.live xs) = if comesL k xs = true then (xs.headD tp0, if k = 0 then .live xs else .live xs.tail) else (tp0, .dead 30 (xs.headD tp0)) := rfl
def skipS : Rs → Rs
  | .live xs => .live xs.tail
  | .dead c x => .dead c x
def noteS (σ : Rs) : Option (List UInt8) × Rs := if isS 8 σ = true then (some (takeS 3 (skipS σ)).1.z.text, (takeS 3 (skipS σ)).2) else (none, σ)
def valueS (σ : Rs) : Vl × Rs :=
  if isS 1 σ = true then (⟨1, (takeS 1 σ).1.z.text, 0, false⟩, (takeS 1 σ).2)
  else if isS 2 σ = true then (⟨2, [], (takeS 2 σ).1.z.val, (takeS 2 σ).1.z.hex⟩, (takeS 2 σ).2)
  else if isS 3 σ = true then (⟨3, (takeS 3 σ).1.z.text, 0, false⟩, (takeS 3 σ).2)
  else (⟨0, [], 0, false⟩, failS 30 σ)
/-- What comes behind a value and its braces. -/
def tailS (n : Tp) (v : Vl) (br : Bool) (ps : List At) (σ : Rs) : At × Rs := (.mk n.z.text n.o n.l n.c v br ps (noteB (noteS σ).1) (noteT (noteS σ).1), (takeS 7 (noteS σ).2).2)
mutual
def attrS : Nat → Nat → Rs → At × Rs
  | 0, _, σ => (.mk [] 0 0 0 ⟨0, [], 0, false⟩ false [] false [], σ)
  | 1, _, σ => (.mk [] 0 0 0 ⟨0, [], 0, false⟩ false [] false [], σ)
  | f + 2, d, σ =>
    if isS 4 (valueS (takeS 6 (takeS 1 σ).2).2).2 = true then
      (if d = 4 then tailS (takeS 1 σ).1 (valueS (takeS 6 (takeS 1 σ).2).2).1 false [] (failS 31 (valueS (takeS 6 (takeS 1 σ).2).2).2)
      else tailS (takeS 1 σ).1 (valueS (takeS 6 (takeS 1 σ).2).2).1 true (rowS f (d + 1) [] (skipS (valueS (takeS 6 (takeS 1 σ).2).2).2)).1 (takeS 5 (rowS f (d + 1) [] (skipS (valueS (takeS 6 (takeS 1 σ).2).2).2)).2).2)
    else tailS (takeS 1 σ).1 (valueS (takeS 6 (takeS 1 σ).2).2).1 false [] (valueS (takeS 6 (takeS 1 σ).2).2).2
def rowS : Nat → Nat → List At → Rs → List At × Rs
  | 0, _, l, σ => (l, σ)
  | f + 1, d, l, σ => if isS 1 σ = true then rowS f d (l ++ [(attrS f d σ).1]) (attrS f d σ).2 else (l, σ)
end
def objS (f : Nat) (σ : Rs) : Ob × Rs :=
  let k := takeS 1 σ
  let n := takeS 1 k.2
  let a := rowS (f - 1) 0 [] (takeS 4 n.2).2
  let t := noteS (takeS 5 a.2).2
  (⟨k.1.z.text, n.1.z.text, k.1.o, k.1.l, k.1.c, a.1, noteB t.1, noteT t.1⟩, (takeS 7 t.2).2)
def objsS (f : Nat) : Nat → List Ob → Rs → List Ob × Rs
  | 0, l, σ => (l, σ)
  | g + 1, l, σ => if isS 1 σ = true then objsS f g (l ++ [(objS f σ).1]) (objS f σ).2 else (l, σ)

/-! ### A state that may be; how much is left of it -/
def OkS : Rs → Prop
  | .live xs => EndL xs
  | .dead c _ => c = 30 ∨ c = 31
def szS : Rs → Nat
  | .live xs => xs.length
  | .dead _ _ => 0
theorem endL_tail {x : Tp} {r : List Tp} (h : EndL (x :: r)) (hk : x.z.kind ≠ 0) : EndL r := by
  cases h with
  | one h0 => exact absurd h0 hk
  | more _ h => exact h
theorem endL_pos {xs : List Tp} (h : EndL xs) : 0 < xs.length := by obtain ⟨x, r, rfl⟩ := endL_ne h; simp
theorem comes_cons {k : Int} {x : Tp} {r : List Tp} : comesL k (x :: r) = decide (x.z.kind = k) := rfl
theorem take_okS {σ : Rs} (h : OkS σ) (k : Int) : OkS (takeS k σ).2 ∧ szS (takeS k σ).2 ≤ szS σ ∧ (k ≠ 0 → isS k σ = true → szS (takeS k σ).2 + 1 ≤ szS σ) := by
  cases σ with
  | dead c x => exact ⟨h, Nat.le_refl _, fun _ e => by cases e⟩
  | live xs =>
    obtain ⟨x, r, rfl⟩ := endL_ne h
    unfold takeS
    by_cases hc : comesL k (x :: r) = true
    · simp only [hc, if_true]
      by_cases hk : k = 0
      · simp only [hk, if_true]
        exact ⟨h, Nat.le_refl _, fun e => absurd rfl e⟩
      · simp only [hk, if_false]
        have : x.z.kind = k := of_decide_eq_true hc
        exact ⟨endL_tail h (by omega), by simp [szS], fun _ _ => by simp [szS]⟩
    · have hc' : comesL k (x :: r) = false := by simpa using hc
      simp only [hc', Bool.false_eq_true, if_false]
      exact ⟨.inl rfl, Nat.zero_le _, fun _ e => absurd e hc⟩
theorem word_okS {σ : Rs} (h : OkS σ) (t : List UInt8) : OkS (wordS t σ) ∧ szS (wordS t σ) ≤ szS σ := by
  cases σ with
  | dead c x => exact ⟨h, Nat.le_refl _⟩
  | live xs =>
    obtain ⟨x, r, rfl⟩ := endL_ne h
    unfold wordS
    by_cases hc : comesL 1 (x :: r) = true ∧ ((x :: r).headD tp0).z.text = t
    · simp only [hc]
      have : x.z.kind = 1 := of_decide_eq_true hc.1
      exact ⟨endL_tail h (by omega), by simp [szS]⟩
    · simp only [hc, if_false]
      exact ⟨.inl rfl, Nat.zero_le _⟩
theorem fail_okS {σ : Rs} (h : OkS σ) (c : Nat) (hc : c = 30 ∨ c = 31) : OkS (failS c σ) ∧ szS (failS c σ) ≤ szS σ := by
  cases σ with
  | dead c x => exact ⟨h, Nat.le_refl _⟩
  | live xs => exact ⟨hc, Nat.zero_le _⟩
theorem skip_okS {σ : Rs} (h : OkS σ) (k : Int) (hk : k ≠ 0) (hi : isS k σ = true) : OkS (skipS σ) ∧ szS (skipS σ) + 1 ≤ szS σ := by
  cases σ with
  | dead c x => cases hi
  | live xs =>
    obtain ⟨x, r, rfl⟩ := endL_ne h
    have : x.z.kind = k := of_decide_eq_true hi
    exact ⟨endL_tail h (by omega), by simp [szS, skipS]⟩
theorem note_okS {σ : Rs} (h : OkS σ) : OkS (noteS σ).2 ∧ szS (noteS σ).2 ≤ szS σ := by
  unfold noteS
  by_cases hi : isS 8 σ = true
  · simp only [hi, if_true]
    have h1 := skip_okS h 8 (by decide) hi
    have h2 := take_okS h1.1 3
    exact ⟨h2.1, by omega⟩
  · simp only [hi]
    exact ⟨h, Nat.le_refl _⟩
theorem value_okS {σ : Rs} (h : OkS σ) : OkS (valueS σ).2 ∧ szS (valueS σ).2 ≤ szS σ := by
  unfold valueS
  by_cases h1 : isS 1 σ = true
  · simp only [h1, if_true]
    have := take_okS h 1
    exact ⟨this.1, this.2.1⟩
  · simp only [h1]
    by_cases h2 : isS 2 σ = true
    · simp only [h2, if_true]
      have := take_okS h 2
      exact ⟨this.1, this.2.1⟩
    · simp only [h2]
      by_cases h3 : isS 3 σ = true
      · simp only [h3, if_true]
        have := take_okS h 3
        exact ⟨this.1, this.2.1⟩
      · simp only [h3]
        exact fail_okS h 30 (.inl rfl)
theorem tail_okS {σ : Rs} (h : OkS σ) (n : Tp) (v : Vl) (br : Bool) (ps : List At) : OkS (tailS n v br ps σ).2 ∧ szS (tailS n v br ps σ).2 ≤ szS σ := by
  have h1 := note_okS h
  have h2 := take_okS h1.1 7
  exact ⟨h2.1, Nat.le_trans h2.2.1 h1.2⟩
theorem attr_okS (f : Nat) : (∀ d σ, OkS σ → OkS (attrS f d σ).2 ∧ szS (attrS f d σ).2 ≤ szS σ ∧ (2 ≤ f → isS 1 σ = true → szS (attrS f d σ).2 + 1 ≤ szS σ)) ∧ (∀ d l σ, OkS σ → OkS (rowS f d l σ).2 ∧ szS (rowS f d l σ).2 ≤ szS σ) := by
  induction f using Nat.strongRecOn with
  | _ f ih =>
    refine ⟨fun d σ h => ?_, fun d l σ h => ?_⟩
    · match f, ih with
      | 0, _ => rw [attrS]; exact ⟨h, Nat.le_refl _, fun e => by omega⟩
      | 1, _ => rw [attrS]; exact ⟨h, Nat.le_refl _, fun e => by omega⟩
      | f + 2, ih =>
        have h1 := take_okS h 1
        have h2 := take_okS h1.1 6
        have h3 := value_okS h2.1
        rw [attrS]
        split
        · rename_i h4
          split
          · have h5 := fail_okS h3.1 31 (.inr rfl)
            have h6 := tail_okS h5.1 (takeS 1 σ).1 (valueS (takeS 6 (takeS 1 σ).2).2).1 false []
            exact ⟨h6.1, by omega, fun _ e => by have := h1.2.2 (by decide) e; omega⟩
          · have h5 := skip_okS h3.1 4 (by decide) h4
            have h6 := (ih f (by omega)).2 (d + 1) [] _ h5.1
            have h7 := take_okS h6.1 5
            have h8 := tail_okS h7.1 (takeS 1 σ).1 (valueS (takeS 6 (takeS 1 σ).2).2).1 true (rowS f (d + 1) [] (skipS (valueS (takeS 6 (takeS 1 σ).2).2).2)).1
            exact ⟨h8.1, by omega, fun _ e => by have := h1.2.2 (by decide) e; omega⟩
        · have h6 := tail_okS h3.1 (takeS 1 σ).1 (valueS (takeS 6 (takeS 1 σ).2).2).1 false []
          exact ⟨h6.1, by omega, fun _ e => by have := h1.2.2 (by decide) e; omega⟩
    · match f, ih with
      | 0, _ => rw [rowS]; exact ⟨h, Nat.le_refl _⟩
      | f + 1, ih =>
        rw [rowS]
        split
        · have h1 := (ih f (by omega)).1 d σ h
          have h2 := (ih f (by omega)).2 d (l ++ [(attrS f d σ).1]) _ h1.1
          exact ⟨h2.1, by omega⟩
        · exact ⟨h, Nat.le_refl _⟩
theorem obj_okS (f : Nat) (σ : Rs) (h : OkS σ) : OkS (objS f σ).2 ∧ szS (objS f σ).2 ≤ szS σ ∧ (isS 1 σ = true → szS (objS f σ).2 + 1 ≤ szS σ) := by
  have h1 := take_okS h 1
  have h2 := take_okS h1.1 1
  have h3 := take_okS h2.1 4
  have h4 := (attr_okS (f - 1)).2 0 [] _ h3.1
  have h5 := take_okS h4.1 5
  have h6 := note_okS h5.1
  have h7 := take_okS h6.1 7
  refine ⟨h7.1, ?_, fun e => ?_⟩
  · show szS (takeS 7 _).2 ≤ _
    omega
  · have := h1.2.2 (by decide) e
    show szS (takeS 7 _).2 + 1 ≤ _
    omega

/-! ### Behind a fault nothing turns -/
theorem take_dead (k : Int) (c : Nat) (x : Tp) : takeS k (.dead c x) = (tp0, .dead c x) := rfl
theorem note_dead (c : Nat) (x : Tp) : noteS (.dead c x) = (none, .dead c x) := rfl
theorem value_dead (c : Nat) (x : Tp) : (valueS (.dead c x)).2 = .dead c x := rfl
theorem tail_dead (n : Tp) (v : Vl) (br : Bool) (ps : List At) (c : Nat) (x : Tp) : (tailS n v br ps (.dead c x)).2 = .dead c x := rfl
theorem row_dead (f d : Nat) (l : List At) (c : Nat) (x : Tp) : rowS f d l (.dead c x) = (l, .dead c x) := by cases f <;> rfl
theorem objs_dead (f g : Nat) (l : List Ob) (c : Nat) (x : Tp) : objsS f g l (.dead c x) = (l, .dead c x) := by cases g <;> rfl

/-! ### The reader's answers are the grammar's -/
def Lk {α : Type} (m : PR α) (a : α) (σ : Rs) : Prop := match m with
  | .ok b r => a = b ∧ σ = .live r
  | .bad c x => σ = .dead c x
theorem take_lk {xs : List Tp} (h : EndL xs) (k : Int) (hk : k ≠ 0) : Lk (takeL k xs) (takeS k (.live xs)).1 (takeS k (.live xs)).2 := by
  obtain ⟨x, r, rfl⟩ := endL_ne h
  rw [takeL_cons]
  unfold takeS
  by_cases e : x.z.kind = k
  · have hc : comesL k (x :: r) = true := by rw [comes_cons]; exact decide_eq_true e
    simp only [e, hc, hk, if_true, if_false]
    exact ⟨rfl, rfl⟩
  · have hc : comesL k (x :: r) = false := by rw [comes_cons]; exact decide_eq_false e
    simp only [e, hc, Bool.false_eq_true, if_false]
    rfl
theorem word_lk {xs : List Tp} (h : EndL xs) (t : List UInt8) : Lk (wordL t xs) () (wordS t (.live xs)) := by
  obtain ⟨x, r, rfl⟩ := endL_ne h
  have hW : wordL t (x :: r) = if x.z.text = t ∧ x.z.kind = 1 then .ok () r else .bad 30 x := rfl
  rw [hW, wordS_live]
  by_cases e : x.z.text = t ∧ x.z.kind = 1
  · have hc : comesL 1 (x :: r) = true ∧ ((x :: r).headD tp0).z.text = t := ⟨by rw [comes_cons]; exact decide_eq_true e.2, e.1⟩
    rw [if_pos e, if_pos hc]
    exact ⟨rfl, rfl⟩
  · have hc : ¬ (comesL 1 (x :: r) = true ∧ ((x :: r).headD tp0).z.text = t) := fun k => e ⟨k.2, of_decide_eq_true k.1⟩
    rw [if_neg e, if_neg hc]
    rfl
theorem skp_take {xs : List Tp} {k : Int} (hk : k ≠ 0) (hc : comesL k xs = true) : takeL k xs = .ok (xs.headD tp0) xs.tail := by
  cases xs with
  | nil => cases hc
  | cons x r => rw [takeL_cons, if_pos (of_decide_eq_true hc)]; rfl
theorem lk_ok {α : Type} {m : PR α} {a b : α} {r : List Tp} {σ : Rs} (h : Lk m a σ) (e : m = .ok b r) : a = b ∧ σ = .live r := by subst e; exact h
theorem lk_bad {α : Type} {m : PR α} {a : α} {c : Nat} {x : Tp} {σ : Rs} (h : Lk m a σ) (e : m = .bad c x) : σ = .dead c x := by subst e; exact h
theorem note_lk {xs : List Tp} (h : EndL xs) : Lk (noteL xs) (noteS (.live xs)).1 (noteS (.live xs)).2 := by
  unfold noteL noteS
  by_cases hc : comesL 8 xs = true
  · have hi : isS 8 (.live xs) = true := hc
    have ht := skp_take (by decide) hc
    have h1 := (take_left h (by decide) _ _ ht).1
    rw [if_pos hc, if_pos hi, ht, PR.bind_ok]
    have h2 := take_lk h1 3 (by decide)
    show Lk _ (some (takeS 3 (.live xs.tail)).1.z.text) (takeS 3 (.live xs.tail)).2
    cases e : takeL 3 xs.tail with
    | ok y s => obtain ⟨e1, e2⟩ := lk_ok h2 e; rw [PR.bind_ok]; exact ⟨by rw [e1], e2⟩
    | bad c y => rw [PR.bind_bad]; exact lk_bad h2 e
  · have hi : ¬ isS 8 (.live xs) = true := hc
    rw [if_neg hc, if_neg hi]
    exact ⟨rfl, rfl⟩
theorem comes_two {k j : Int} {xs : List Tp} (h : comesL k xs = true) (hj : comesL j xs = true) : k = j := by
  cases xs with
  | nil => cases h
  | cons x r => exact (of_decide_eq_true h : x.z.kind = k).symm.trans (of_decide_eq_true hj)
theorem value_lk {xs : List Tp} (h : EndL xs) : Lk (valueL xs) (valueS (.live xs)).1 (valueS (.live xs)).2 := by
  have a1 := take_lk h 1 (by decide)
  have a2 := take_lk h 2 (by decide)
  have a3 := take_lk h 3 (by decide)
  have i1 : isS 1 (.live xs) = comesL 1 xs := rfl
  have i2 : isS 2 (.live xs) = comesL 2 xs := rfl
  have i3 : isS 3 (.live xs) = comesL 3 xs := rfl
  unfold valueL valueS
  rw [i1, i2, i3]
  by_cases h2 : comesL 2 xs = true
  · have h1 : ¬ comesL 1 xs = true := fun e => absurd (comes_two e h2) (by decide)
    rw [if_pos h2, if_neg h1, if_pos h2]
    cases e : takeL 2 xs with
    | ok y s => obtain ⟨e1, e2⟩ := lk_ok a2 e; rw [PR.bind_ok]; exact ⟨by rw [e1], e2⟩
    | bad c y => rw [PR.bind_bad]; exact lk_bad a2 e
  · rw [if_neg h2]
    by_cases h3 : comesL 3 xs = true
    · have h1 : ¬ comesL 1 xs = true := fun e => absurd (comes_two e h3) (by decide)
      rw [if_pos h3, if_neg h1, if_neg h2, if_pos h3]
      cases e : takeL 3 xs with
      | ok y s => obtain ⟨e1, e2⟩ := lk_ok a3 e; rw [PR.bind_ok]; exact ⟨by rw [e1], e2⟩
      | bad c y => rw [PR.bind_bad]; exact lk_bad a3 e
    · rw [if_neg h3]
      by_cases h1 : comesL 1 xs = true
      · rw [if_pos h1]
        cases e : takeL 1 xs with
        | ok y s => obtain ⟨e1, e2⟩ := lk_ok a1 e; rw [PR.bind_ok]; exact ⟨by rw [e1], e2⟩
        | bad c y => rw [PR.bind_bad]; exact lk_bad a1 e
      · rw [if_neg h1, if_neg h2, if_neg h3]
        have e : takeL 1 xs = .bad 30 (xs.headD tp0) := by
          obtain ⟨x, r, rfl⟩ := endL_ne h
          rw [takeL_cons, if_neg (fun e => h1 (decide_eq_true e))]; rfl
        rw [e, PR.bind_bad]
        rfl
/-- What is behind a value and its braces, in both. -/
theorem tail_lk {xs : List Tp} (h : EndL xs) (n : Tp) (v : Vl) (br : Bool) (ps : List At) :
    Lk ((noteL xs).bind fun nt r => (takeL 7 r).bind fun _ r => .ok (.mk n.z.text n.o n.l n.c v br ps (noteB nt) (noteT nt)) r : PR At) (tailS n v br ps (.live xs)).1 (tailS n v br ps (.live xs)).2 := by
  have h1 := note_lk h
  unfold tailS
  cases e : noteL xs with
  | bad c x =>
    have := lk_bad h1 e
    rw [PR.bind_bad, this]
    rfl
  | ok nt r =>
    obtain ⟨e1, e2⟩ := lk_ok h1 e
    rw [PR.bind_ok, e1, e2]
    have h2 := take_lk (note_left h _ _ e).1 7 (by decide)
    cases e3 : takeL 7 r with
    | bad c x => rw [PR.bind_bad]; exact lk_bad h2 e3
    | ok y s => rw [PR.bind_ok]; exact ⟨rfl, (lk_ok h2 e3).2⟩
theorem attr_lk (n : Nat) : (∀ f d xs, xs.length ≤ n → 2 * xs.length ≤ f → EndL xs → Lk (attrL f d xs) (attrS f d (.live xs)).1 (attrS f d (.live xs)).2) ∧
    (∀ f d l xs, xs.length ≤ n → 2 * xs.length + 1 ≤ f → EndL xs → Lk (rowL f d l xs) (rowS f d l (.live xs)).1 (takeS 5 (rowS f d l (.live xs)).2).2) := by
  induction n with
  | zero =>
    exact ⟨fun f d xs hn _ hE => absurd (endL_pos hE) (by omega), fun f d l xs hn _ hE => absurd (endL_pos hE) (by omega)⟩
  | succ n ih =>
    have A : ∀ f d xs, xs.length ≤ n + 1 → 2 * xs.length ≤ f → EndL xs → Lk (attrL f d xs) (attrS f d (.live xs)).1 (attrS f d (.live xs)).2 := by
      intro f d xs hn hf hE
      have hp := endL_pos hE
      obtain ⟨f, rfl⟩ : ∃ g, f = g + 2 := ⟨f - 2, by omega⟩
      rw [attrL, attrS]
      have a1 := take_lk hE 1 (by decide)
      cases e1 : takeL 1 xs with
      | bad c x =>
        rw [PR.bind_bad, lk_bad a1 e1]
        have hv : (valueS (takeS 6 (.dead c x)).2).2 = .dead c x := rfl
        rw [hv]
        rfl
      | ok x1 s1 =>
        obtain ⟨j1, j2⟩ := lk_ok a1 e1
        have l1 := take_left hE (by decide) _ _ e1
        rw [PR.bind_ok, j1, j2]
        have a2 := take_lk l1.1 6 (by decide)
        cases e2 : takeL 6 s1 with
        | bad c x =>
          rw [PR.bind_bad, lk_bad a2 e2]
          have hv : (valueS (.dead c x)).2 = .dead c x := rfl
          rw [hv]
          rfl
        | ok x2 s2 =>
          rw [PR.bind_ok, (lk_ok a2 e2).2]
          have l2 := take_left l1.1 (by decide) _ _ e2
          have a3 := value_lk l2.1
          cases e3 : valueL s2 with
          | bad c x =>
            rw [PR.bind_bad, lk_bad a3 e3]
            rfl
          | ok v s3 =>
            obtain ⟨j3, j4⟩ := lk_ok a3 e3
            have l3 := value_left l2.1 _ _ e3
            rw [PR.bind_ok, j3, j4]
            have hi : isS 4 (.live s3) = comesL 4 s3 := rfl
            rw [hi]
            by_cases hc : comesL 4 s3 = true
            · rw [if_pos hc, if_pos hc]
              by_cases hd : d = 4
              · rw [if_pos hd, if_pos hd, PR.bind_bad]
                rfl
              · rw [if_neg hd, if_neg hd, attrsL, skp_take (by decide) hc, PR.bind_ok]
                have l4 := take_left l3.1 (by decide) _ _ (skp_take (k := 4) (by decide) hc)
                have a4 := ih.2 f (d + 1) [] s3.tail (by omega) (by omega) l4.1
                show Lk _ (tailS x1 v true (rowS f (d + 1) [] (.live s3.tail)).1 (takeS 5 (rowS f (d + 1) [] (.live s3.tail)).2).2).1 (tailS x1 v true (rowS f (d + 1) [] (.live s3.tail)).1 (takeS 5 (rowS f (d + 1) [] (.live s3.tail)).2).2).2
                cases e4 : rowL f (d + 1) [] s3.tail with
                | bad c x =>
                  rw [PR.bind_bad, PR.bind_bad, lk_bad a4 e4]
                  rfl
                | ok ps s4 =>
                  obtain ⟨j5, j6⟩ := lk_ok a4 e4
                  rw [PR.bind_ok, PR.bind_ok, j5, j6]
                  exact tail_lk ((attrs_left f).2.2 _ _ _ l4.1 _ _ e4).1 x1 v true ps
            · rw [if_neg hc, if_neg hc, PR.bind_ok]
              exact tail_lk l3.1 x1 v false []
    refine ⟨A, ?_⟩
    intro f
    induction f with
    | zero => intro d l xs hn hf hE; omega
    | succ f ihf =>
      intro d l xs hn hf hE
      rw [rowL, rowS]
      have hi : isS 1 (.live xs) = comesL 1 xs := rfl
      rw [hi]
      by_cases h5 : comesL 5 xs = true
      · have h1 : ¬ comesL 1 xs = true := fun e => absurd (comes_two e h5) (by decide)
        rw [if_pos h5, if_neg h1, skp_take (by decide) h5, PR.bind_ok]
        refine ⟨rfl, ?_⟩
        have := take_lk hE 5 (by decide)
        exact (lk_ok this (skp_take (by decide) h5)).2
      · rw [if_neg h5]
        have aa := A f d xs hn (by omega) hE
        by_cases h1 : comesL 1 xs = true
        · rw [if_pos h1]
          cases e : attrL f d xs with
          | bad c x =>
            rw [PR.bind_bad, lk_bad aa e, row_dead]
            rfl
          | ok a s =>
            obtain ⟨j1, j2⟩ := lk_ok aa e
            have l1 := (attrs_left f).1 d xs hE _ _ e
            rw [PR.bind_ok, j1, j2]
            exact ihf d (l ++ [a]) s (by omega) (by omega) l1.1
        · rw [if_neg h1]
          have e : attrL f d xs = .bad 30 (xs.headD tp0) := by
            obtain ⟨x, r, rfl⟩ := endL_ne hE
            obtain ⟨g, rfl⟩ : ∃ g, f = g + 1 := ⟨f - 1, by simp at hf; omega⟩
            rw [attrL, takeL_cons, if_neg (fun e => h1 (decide_eq_true e)), PR.bind_bad]; rfl
          rw [e, PR.bind_bad]
          show (takeS 5 (.live xs)).2 = _
          unfold takeS
          simp only [h5, Bool.false_eq_true, if_false]
theorem obj_lk (f : Nat) (xs : List Tp) (hf : 2 * xs.length ≤ f) (hE : EndL xs) : Lk (objectL f xs) (objS f (.live xs)).1 (objS f (.live xs)).2 := by
  have hp := endL_pos hE
  obtain ⟨f, rfl⟩ : ∃ g, f = g + 1 := ⟨f - 1, by omega⟩
  unfold objectL objS
  dsimp only
  have a1 := take_lk hE 1 (by decide)
  rw [Nat.add_sub_cancel]
  cases e1 : takeL 1 xs with
  | bad c x =>
    rw [PR.bind_bad, lk_bad a1 e1, take_dead, take_dead, row_dead]
    rfl
  | ok x1 s1 =>
    obtain ⟨j1, j2⟩ := lk_ok a1 e1
    have l1 := take_left hE (by decide) _ _ e1
    rw [PR.bind_ok, j1, j2]
    have a2 := take_lk l1.1 1 (by decide)
    cases e2 : takeL 1 s1 with
    | bad c x =>
      rw [PR.bind_bad, lk_bad a2 e2, take_dead, row_dead]
      rfl
    | ok x2 s2 =>
      obtain ⟨j3, j4⟩ := lk_ok a2 e2
      have l2 := take_left l1.1 (by decide) _ _ e2
      rw [PR.bind_ok, j3, j4, attrsL]
      have a3 := take_lk l2.1 4 (by decide)
      cases e3 : takeL 4 s2 with
      | bad c x =>
        rw [PR.bind_bad, PR.bind_bad, lk_bad a3 e3, row_dead]
        rfl
      | ok x3 s3 =>
        have l3 := take_left l2.1 (by decide) _ _ e3
        rw [PR.bind_ok, (lk_ok a3 e3).2]
        have a4 := (attr_lk s3.length).2 f 0 [] s3 (Nat.le_refl _) (by omega) l3.1
        cases e4 : rowL f 0 [] s3 with
        | bad c x =>
          rw [PR.bind_bad, lk_bad a4 e4]
          rfl
        | ok ats s4 =>
          obtain ⟨j5, j6⟩ := lk_ok a4 e4
          have l4 := (attrs_left f).2.2 _ _ _ l3.1 _ _ e4
          rw [PR.bind_ok, j5, j6]
          have a5 := note_lk l4.1
          cases e5 : noteL s4 with
          | bad c x =>
            rw [PR.bind_bad, lk_bad a5 e5]
            rfl
          | ok nt s5 =>
            obtain ⟨j7, j8⟩ := lk_ok a5 e5
            rw [PR.bind_ok, j7, j8]
            have a6 := take_lk (note_left l4.1 _ _ e5).1 7 (by decide)
            cases e6 : takeL 7 s5 with
            | bad c x => rw [PR.bind_bad]; exact lk_bad a6 e6
            | ok y s6 => rw [PR.bind_ok]; exact ⟨rfl, (lk_ok a6 e6).2⟩
theorem object_left0 {f : Nat} {xs : List Tp} (h : EndL xs) : Lft 1 xs (objectL f xs) := by
  intro a r e
  unfold objectL at e
  obtain ⟨x1, s1, e1, e⟩ := bind_okE e
  obtain ⟨x2, s2, e2, e⟩ := bind_okE e
  obtain ⟨x3, s3, e3, e⟩ := bind_okE e
  obtain ⟨x4, s4, e4, e⟩ := bind_okE e
  obtain ⟨x5, s5, e5, e⟩ := bind_okE e
  cases e
  have h1 := take_left h (by decide) _ _ e1
  have h2 := take_left h1.1 (by decide) _ _ e2
  have h3 := (attrs_left f).2.1 _ _ h2.1 _ _ e3
  have h4 := note_left h3.1 _ _ e4
  have h5 := take_left h4.1 (by decide) _ _ e5
  exact ⟨h5.1, by omega⟩
/-- The objects, and the brace behind them. -/
theorem objs_lk (f g : Nat) (l : List Ob) (xs : List Tp) (hf : 2 * xs.length ≤ f) (hg : xs.length + 1 ≤ g) (hE : EndL xs) :
    Lk ((objsL f g l xs).bind fun os r => (takeL 5 r).bind fun _ r => .ok os r) (objsS f g l (.live xs)).1 (takeS 5 (objsS f g l (.live xs)).2).2 := by
  induction g generalizing l xs with
  | zero => omega
  | succ g ih =>
    rw [objsL, objsS]
    have hi : isS 1 (.live xs) = comesL 1 xs := rfl
    rw [hi]
    by_cases h5 : comesL 5 xs = true
    · have h1 : ¬ comesL 1 xs = true := fun e => absurd (comes_two e h5) (by decide)
      rw [if_pos h5, if_neg h1, PR.bind_ok, skp_take (by decide) h5, PR.bind_ok]
      exact ⟨rfl, (lk_ok (take_lk hE 5 (by decide)) (skp_take (by decide) h5)).2⟩
    · rw [if_neg h5]
      have aa := obj_lk f xs hf hE
      by_cases h1 : comesL 1 xs = true
      · rw [if_pos h1]
        cases e : objectL f xs with
        | bad c x =>
          rw [PR.bind_bad, PR.bind_bad, lk_bad aa e, objs_dead]
          rfl
        | ok a s =>
          obtain ⟨j1, j2⟩ := lk_ok aa e
          have l1 := object_left0 hE _ _ e
          rw [PR.bind_ok, j1, j2]
          exact ih (l ++ [a]) s (by omega) (by omega) l1.1
      · rw [if_neg h1]
        have e : objectL f xs = .bad 30 (xs.headD tp0) := by
          obtain ⟨x, r, rfl⟩ := endL_ne hE
          unfold objectL
          rw [takeL_cons, if_neg (fun e => h1 (decide_eq_true e)), PR.bind_bad]; rfl
        rw [e, PR.bind_bad, PR.bind_bad]
        show (takeS 5 (.live xs)).2 = _
        unfold takeS
        simp only [h5, Bool.false_eq_true, if_false]
theorem objs_end (f g : Nat) (l : List Ob) (xs : List Tp) (hE : EndL xs) : ∀ a r, objsL f g l xs = .ok a r → EndL r := by
  induction g generalizing l xs with
  | zero => intro a r e; cases e
  | succ g ih =>
    intro a r e
    rw [objsL] at e
    split at e
    · cases e; exact hE
    · obtain ⟨o, s, e1, e2⟩ := bind_okE e
      exact ih _ s (object_left0 hE _ _ e1).1 _ _ e2
/-- The whole text. -/
def textS (f : Nat) (σ : Rs) : Tr × Rs :=
  let v := takeS 3 (takeS 6 (wordS oilV σ)).2
  let c := takeS 1 (wordS cpuW (takeS 7 v.2).2)
  let os := objsS f f [] (takeS 4 c.2).2
  let nt := noteS (takeS 5 os.2).2
  (⟨v.1.z.text, c.1.z.text, os.1, noteB nt.1, noteT nt.1⟩, (takeS 0 (takeS 7 nt.2).2).2)
/-- What is answered of the text, where all went well. -/
def LkT (m : PR Tr) (t : Tr) (σ : Rs) : Prop := match m with
  | .ok b _ => t = b ∧ ∃ xs, σ = .live xs
  | .bad c x => σ = .dead c x
theorem word_left0 {t : List UInt8} {xs : List Tp} (h : EndL xs) : Lft 1 xs (wordL t xs) := by
  intro a r e
  cases h with
  | @one x h0 =>
    have hW : wordL t [x] = if x.z.text = t ∧ x.z.kind = 1 then .ok () [] else .bad 30 x := rfl
    rw [hW, if_neg (fun k => by rw [h0] at k; exact absurd k.2 (by decide))] at e
    cases e
  | @more x s h0 hs =>
    have hW : wordL t (x :: s) = if x.z.text = t ∧ x.z.kind = 1 then .ok () s else .bad 30 x := rfl
    rw [hW] at e
    split at e
    · cases e; exact ⟨hs, by simp⟩
    · cases e
theorem text_lk (f : Nat) (xs : List Tp) (hf : 2 * xs.length ≤ f) (hE : EndL xs) : LkT (textL f xs) (textS f (.live xs)).1 (textS f (.live xs)).2 := by
  unfold textL textS
  dsimp only
  have a1 := word_lk hE oilV
  cases e1 : wordL oilV xs with
  | bad c x => rw [PR.bind_bad, lk_bad a1 e1]; show (takeS 0 (takeS 7 (noteS (takeS 5 (objsS f f [] (.dead c x)).2).2).2).2).2 = .dead c x; rw [objs_dead]; rfl
  | ok x1 s1 =>
  have l1 := word_left0 hE _ _ e1
  rw [PR.bind_ok, (lk_ok a1 e1).2]
  have a2 := take_lk l1.1 6 (by decide)
  cases e2 : takeL 6 s1 with
  | bad c x => rw [PR.bind_bad, lk_bad a2 e2]; show (takeS 0 (takeS 7 (noteS (takeS 5 (objsS f f [] (.dead c x)).2).2).2).2).2 = .dead c x; rw [objs_dead]; rfl
  | ok x2 s2 =>
  have l2 := take_left l1.1 (by decide) _ _ e2
  rw [PR.bind_ok, (lk_ok a2 e2).2]
  have a3 := take_lk l2.1 3 (by decide)
  cases e3 : takeL 3 s2 with
  | bad c x => rw [PR.bind_bad, lk_bad a3 e3]; show (takeS 0 (takeS 7 (noteS (takeS 5 (objsS f f [] (.dead c x)).2).2).2).2).2 = .dead c x; rw [objs_dead]; rfl
  | ok x3 s3 =>
  have l3 := take_left l2.1 (by decide) _ _ e3
  rw [PR.bind_ok, (lk_ok a3 e3).1, (lk_ok a3 e3).2]
  have a4 := take_lk l3.1 7 (by decide)
  cases e4 : takeL 7 s3 with
  | bad c x => rw [PR.bind_bad, lk_bad a4 e4]; show (takeS 0 (takeS 7 (noteS (takeS 5 (objsS f f [] (.dead c x)).2).2).2).2).2 = .dead c x; rw [objs_dead]; rfl
  | ok x4 s4 =>
  have l4 := take_left l3.1 (by decide) _ _ e4
  rw [PR.bind_ok, (lk_ok a4 e4).2]
  have a5 := word_lk l4.1 cpuW
  cases e5 : wordL cpuW s4 with
  | bad c x => rw [PR.bind_bad, lk_bad a5 e5]; show (takeS 0 (takeS 7 (noteS (takeS 5 (objsS f f [] (.dead c x)).2).2).2).2).2 = .dead c x; rw [objs_dead]; rfl
  | ok x5 s5 =>
  have l5 := word_left0 l4.1 _ _ e5
  rw [PR.bind_ok, (lk_ok a5 e5).2]
  have a6 := take_lk l5.1 1 (by decide)
  cases e6 : takeL 1 s5 with
  | bad c x => rw [PR.bind_bad, lk_bad a6 e6]; show (takeS 0 (takeS 7 (noteS (takeS 5 (objsS f f [] (.dead c x)).2).2).2).2).2 = .dead c x; rw [objs_dead]; rfl
  | ok x6 s6 =>
  have l6 := take_left l5.1 (by decide) _ _ e6
  rw [PR.bind_ok, (lk_ok a6 e6).1, (lk_ok a6 e6).2]
  have a7 := take_lk l6.1 4 (by decide)
  cases e7 : takeL 4 s6 with
  | bad c x => rw [PR.bind_bad, lk_bad a7 e7]; show (takeS 0 (takeS 7 (noteS (takeS 5 (objsS f f [] (.dead c x)).2).2).2).2).2 = .dead c x; rw [objs_dead]; rfl
  | ok x7 s7 =>
  have l7 := take_left l6.1 (by decide) _ _ e7
  rw [PR.bind_ok, (lk_ok a7 e7).2]
  have a8 := objs_lk f f [] s7 (by omega) (by omega) l7.1
  cases e8 : objsL f f [] s7 with
  | bad c x =>
    rw [e8, PR.bind_bad] at a8
    rw [PR.bind_bad, a8]
    rfl
  | ok os s8 =>
  rw [e8, PR.bind_ok] at a8
  rw [PR.bind_ok]
  cases e9 : takeL 5 s8 with
  | bad c x =>
    rw [e9, PR.bind_bad] at a8
    rw [PR.bind_bad, a8]
    rfl
  | ok x9 s9 =>
  rw [e9, PR.bind_ok] at a8
  obtain ⟨j1, j2⟩ := a8
  rw [PR.bind_ok, j1, j2]
  have l9 : EndL s9 := by
    have := objs_end f f [] s7 l7.1 _ _ e8
    exact (take_left this (by decide) _ _ e9).1
  have b1 := note_lk l9
  cases f1 : noteL s9 with
  | bad c x => rw [PR.bind_bad, lk_bad b1 f1]; rfl
  | ok nt t1 =>
  have m1 := note_left l9 _ _ f1
  rw [PR.bind_ok, (lk_ok b1 f1).1, (lk_ok b1 f1).2]
  have b2 := take_lk m1.1 7 (by decide)
  cases f2 : takeL 7 t1 with
  | bad c x => rw [PR.bind_bad, lk_bad b2 f2]; rfl
  | ok y2 t2 =>
  have m2 := take_left m1.1 (by decide) _ _ f2
  rw [PR.bind_ok, (lk_ok b2 f2).2]
  obtain ⟨x, r, rfl⟩ := endL_ne m2.1
  rw [takeL_cons]
  by_cases hk : x.z.kind = 0
  · have hc : comesL 0 (x :: r) = true := by rw [comes_cons]; exact decide_eq_true hk
    rw [if_pos hk, PR.bind_ok]
    refine ⟨rfl, x :: r, ?_⟩
    show (takeS 0 (.live (x :: r))).2 = _
    unfold takeS
    simp only [hc, if_true]
  · have hc : comesL 0 (x :: r) = false := by rw [comes_cons]; exact decide_eq_false hk
    rw [if_neg hk, PR.bind_bad]
    show (takeS 0 (.live (x :: r))).2 = _
    unfold takeS
    simp only [hc, Bool.false_eq_true, if_false]
    rfl
end Go.Proofs.YtlbgppijeoonjaaGreatDoor

namespace Go.Proofs.YtlbgppijeoonjaaGreatDoor
open Go.RowKit
set_option linter.unusedVariables false

/-! ### The document's reader in memory -/
def rdC (tb n cap N c : Nat) (o l k : Int) : Array Value := #[.slice (some ⟨tb, 0, none⟩) n cap, .int .i64 (N : Int), .int .i64 (c : Int), .int .i64 o, .int .i64 l, .int .i64 k, .string ⟨#[]⟩]
def RdH (w : World) (r tb n cap : Nat) (ts : List Tp) : Rs → Prop
  | .live xs => ∃ N, N < n ∧ xs = ts.drop N ∧ w.heap[r]? = some (.cells (rdC tb n cap N 0 0 0 0) 101 (0, 0))
  | .dead c x => ∃ N, 0 < c ∧ w.heap[r]? = some (.cells (rdC tb n cap N c x.o x.l x.c) 101 (0, 0))
structure Rd (w : World) (r tb n cap : Nat) (ts : List Tp) (σ : Rs) : Prop where
  row : ∀ j u, (tpsL ts)[j]? = some u → w.cell? ⟨tb, j, none⟩ = some u
  ne : tb ≠ r
  tlt : tb < w.heap.size
  len : ts.length = n
  lim : n ≤ 262145
  hh : RdH w r tb n cap ts σ
theorem RdH.keep {w w' : World} {r tb n cap : Nat} {ts : List Tp} {σ : Rs} (h : RdH w r tb n cap ts σ) (e : ∀ c, w.heap[r]? = some c → w'.heap[r]? = some c) : RdH w' r tb n cap ts σ := by
  cases σ with
  | live xs => obtain ⟨N, h1, h2, h3⟩ := h; exact ⟨N, h1, h2, e _ h3⟩
  | dead c x => obtain ⟨N, h1, h2⟩ := h; exact ⟨N, h1, e _ h2⟩
theorem Rd.lt {w : World} {r tb n cap : Nat} {ts : List Tp} {σ : Rs} (h : Rd w r tb n cap ts σ) : r < w.heap.size := by
  have := h.hh
  cases σ with
  | live xs => obtain ⟨N, _, _, h3⟩ := this; exact heap_lt h3
  | dead c x => obtain ⟨N, _, h3⟩ := this; exact heap_lt h3
theorem Rd.below {w w' : World} {r tb n cap : Nat} {ts : List Tp} {σ : Rs} (h : Rd w r tb n cap ts σ) (hb : Below w.heap.size w w') : Rd w' r tb n cap ts σ :=
  ⟨fun j u hj => by rw [cell_below hb _ _ h.tlt]; exact h.row j u hj, h.ne, Nat.lt_of_lt_of_le h.tlt hb.size, h.len, h.lim, h.hh.keep (fun c e => (hb.block _ h.lt).trans e)⟩
theorem Rd.alloc {w : World} {r tb n cap : Nat} {ts : List Tp} {σ : Rs} (h : Rd w r tb n cap ts σ) (o : Obj) : Rd (w.alloc o) r tb n cap ts σ := h.below ((Below.refl _ _).alloc (Nat.le_refl _) o)
/-- The reader beside a block that is written. -/
theorem Rd.grownO {w w' : World} {r tb n cap : Nat} {o : Option Nat} {ts : List Tp} {σ : Rs} (h : Rd w r tb n cap ts σ) (hg : w.grownBy w' o) (hb : some r ≠ o) (hv : some tb ≠ o) : Rd w' r tb n cap ts σ :=
  ⟨fun j u hj => by rw [World.cell?_of_block (hg.block tb h.tlt hv)]; exact h.row j u hj, h.ne, Nat.lt_of_lt_of_le h.tlt hg.size, h.len, h.lim, h.hh.keep (fun c e => (hg.block r h.lt hb).trans e)⟩
theorem Rd.grown {w w' : World} {r tb n cap b : Nat} {ts : List Tp} {σ : Rs} (h : Rd w r tb n cap ts σ) (hg : w.grownBy w' (some b)) (hb : r ≠ b) (hv : tb ≠ b) : Rd w' r tb n cap ts σ :=
  h.grownO hg (fun e => hb (Option.some.inj e)) (fun e => hv (Option.some.inj e))
/-- The reader's block is written. -/
theorem Rd.set {w w' : World} {r tb n cap : Nat} {ts : List Tp} {σ σ' : Rs} (h : Rd w r tb n cap ts σ) (hg : w.grownBy w' (some r)) (h' : RdH w' r tb n cap ts σ') : Rd w' r tb n cap ts σ' :=
  ⟨fun j u hj => by rw [World.cell?_of_block (hg.block tb h.tlt (fun e => h.ne (Option.some.inj e)))]; exact h.row j u hj, h.ne, Nat.lt_of_lt_of_le h.tlt hg.size, h.len, h.lim, h'⟩
theorem Rd.drew {w : World} {r tb n cap : Nat} {ts : List Tp} {σ : Rs} (h : Rd w r tb n cap ts σ) : Rd w.drew r tb n cap ts σ := h.below (Below.refl w.heap.size w).drew
theorem grown_drew {w w' : World} {r : Nat} (h : w.grownBy w' (some r)) : w.grownBy w'.drew (some r) := grown_trans h (grown_of_below (Below.refl w'.heap.size w').drew)
theorem rd7 {w : World} {r tb n cap N c : Nat} {o l k : Int} (h : w.heap[r]? = some (.cells (rdC tb n cap N c o l k) 101 (0, 0))) :
    (w.cell? ⟨r, 0, none⟩ = some (.slice (some ⟨tb, 0, none⟩) n cap) ∧ w.cell? ⟨r, 1, none⟩ = some (.int .i64 (N : Int)) ∧ w.cell? ⟨r, 2, none⟩ = some (.int .i64 (c : Int)) ∧ w.cell? ⟨r, 3, none⟩ = some (.int .i64 o) ∧ w.cell? ⟨r, 4, none⟩ = some (.int .i64 l) ∧ w.cell? ⟨r, 5, none⟩ = some (.int .i64 k) ∧ w.cell? ⟨r, 6, none⟩ = some (.string ⟨#[]⟩)) ∧ ∀ i, w.frozen? ⟨r, i, none⟩ = false := var7 h
/-- The next token's cells. -/
theorem Rd.head {w : World} {r tb n cap N : Nat} {ts : List Tp} {σ : Rs} (h : Rd w r tb n cap ts σ) {x : Tp} {ys : List Tp} (hx : x :: ys = ts.drop N) :
    N < n ∧ ys = ts.drop (N + 1) ∧ ∀ i u, (tpL x)[i]? = some u → w.cell? ⟨tb, N * 7 + i, none⟩ = some u := by
  have hN : N < ts.length := by
    rcases Nat.lt_or_ge N ts.length with h1 | h1
    · exact h1
    · rw [List.drop_eq_nil_of_le h1] at hx; cases hx
  have e := List.drop_eq_getElem_cons hN
  rw [e] at hx
  injection hx with h1 h2
  refine ⟨by rw [← h.len]; exact hN, h2, fun i u hu => h.row _ u ?_⟩
  have hi : i < 7 := (List.getElem?_eq_some_iff.1 hu).1
  rw [tps_at ts N x (by rw [h1]; exact List.getElem?_eq_getElem hN) i hi]
  exact hu
def liveS : Rs → Bool
  | .live _ => true
  | .dead _ _ => false
set_option maxHeartbeats 1000000 in
theorem rok_any {w : World} {r tb n cap : Nat} {ts : List Tp} {σ : Rs} (h : Rd w r tb n cap ts σ) :
    Calls Tryz.prog 58 #[.pointer (some ⟨r, 0, none⟩)] w fun e w' => e = .returned (.bool (liveS σ)) ∧ w' = w := by
  have hh := h.hh
  cases σ with
  | live xs =>
    obtain ⟨N, _, _, h3⟩ := hh
    obtain ⟨⟨_, _, c2, _⟩, _⟩ := rd7 h3
    clear h3 h
    go_enter Tryz.func58, Tryz.ntmps58
    go_wp2
    go_ret
    exact ⟨rfl, rfl⟩
  | dead c x =>
    obtain ⟨N, hc, h3⟩ := hh
    obtain ⟨⟨_, _, c2, _⟩, _⟩ := rd7 h3
    have hc0 : ((c : Int) == 0) = false := by rw [beq_eq_false_iff_ne]; omega
    clear h3 h
    go_enter Tryz.func58, Tryz.ntmps58
    go_wp2
    go_ret
    exact ⟨ret_bool (by first | exact hc0 | rfl), rfl⟩
set_option maxHeartbeats 1000000 in
theorem ris_any {w : World} {r tb n cap : Nat} {ts : List Tp} {σ : Rs} (h : Rd w r tb n cap ts σ) (hO : OkS σ) (k : Int) :
    Calls Tryz.prog 55 #[.pointer (some ⟨r, 0, none⟩), .int .i64 k] w fun e w' => e = .returned (.bool (isS k σ)) ∧ ∃ m, w' = w.drewN m := by
  have ck : ∀ m, Calls Tryz.prog 58 #[.pointer (some ⟨r, 0, none⟩)] (w.drewN m) fun e w' => e = .returned (.bool (liveS σ)) ∧ w' = w.drewN m := fun m => rok_any (h.below (below_drewN (Below.refl _ _) m))
  have hh := h.hh
  cases σ with
  | live xs =>
    obtain ⟨N, _, hx, h3⟩ := hh
    obtain ⟨x, ys, rfl⟩ := endL_ne hO
    obtain ⟨hN, _, hc⟩ := h.head hx
    have c0 : w.cell? ⟨tb, N * 7, none⟩ = some (.int .i64 x.z.kind) := hc 0 _ rfl
    obtain ⟨⟨q0, q1, _, _⟩, _⟩ := rd7 h3
    have hN' : (N : Int) < (n : Int) := by omega
    have hN0 : (0 : Int) ≤ (N : Int) := by omega
    have ck' : ∀ m, Calls Tryz.prog 58 #[.pointer (some ⟨r, 0, none⟩)] (w.drewN m) fun e w' => e = .returned (.bool true) ∧ w' = w.drewN m := ck
    clear hc h3 h hx ck hO
    go_enter Tryz.func55, Tryz.ntmps55
    go_wp2
    go_quiet (first | (go_at_call 58; refine Calls.quiet_of_same (ck' _)))
    go_wp2
    go_ret
    exact ⟨ret_bool (beq_dec _ _), _, rfl⟩
  | dead c x =>
    have ck' : ∀ m, Calls Tryz.prog 58 #[.pointer (some ⟨r, 0, none⟩)] (w.drewN m) fun e w' => e = .returned (.bool false) ∧ w' = w.drewN m := ck
    clear hh h ck hO
    go_enter Tryz.func55, Tryz.ntmps55
    go_wp2
    go_quiet (first | (go_at_call 58; refine Calls.quiet_of_same (ck' _)))
    go_wp2
    go_ret
    exact ⟨rfl, _, rfl⟩
theorem failH {w w' : World} {r tb n cap N c : Nat} {ts : List Tp} {x : Tp} (h : w.heap[r]? = some (.cells (rdC tb n cap N 0 0 0 0) 101 (0, 0))) (hc : 0 < c)
    (e : w' = (((((w.setCell ⟨r, 2, none⟩ (.int .i64 (c : Int))).setCell ⟨r, 3, none⟩ (.int .i64 x.o)).setCell ⟨r, 4, none⟩ (.int .i64 x.l)).setCell ⟨r, 5, none⟩ (.int .i64 x.c)).setCell ⟨r, 6, none⟩ (.string ⟨#[]⟩))) :
    RdH w' r tb n cap ts (.dead c x) ∧ w.grownBy w' (some r) := by
  subst e
  refine ⟨⟨N, hc, ?_⟩, grown_trans (grown_set _ _ _ _) (grown_trans (grown_set _ _ _ _) (grown_trans (grown_set _ _ _ _) (grown_trans (grown_set _ _ _ _) (grown_set _ _ _ _))))⟩
  have h0 : (w.setCell ⟨r, 2, none⟩ (.int .i64 (c : Int))).heap[r]? = some (.cells (rdC tb n cap N c 0 0 0) 101 (0, 0)) := heap_setCell_same _ r 2 _ _ _ h
  generalize w.setCell ⟨r, 2, none⟩ (.int .i64 (c : Int)) = w0 at *
  have h1 : (w0.setCell ⟨r, 3, none⟩ (.int .i64 x.o)).heap[r]? = some (.cells (rdC tb n cap N c x.o 0 0) 101 (0, 0)) := heap_setCell_same _ r 3 _ _ _ h0
  generalize w0.setCell ⟨r, 3, none⟩ (.int .i64 x.o) = w1 at *
  have h2 : (w1.setCell ⟨r, 4, none⟩ (.int .i64 x.l)).heap[r]? = some (.cells (rdC tb n cap N c x.o x.l 0) 101 (0, 0)) := heap_setCell_same _ r 4 _ _ _ h1
  generalize w1.setCell ⟨r, 4, none⟩ (.int .i64 x.l) = w2 at *
  have h3 : (w2.setCell ⟨r, 5, none⟩ (.int .i64 x.c)).heap[r]? = some (.cells (rdC tb n cap N c x.o x.l x.c) 101 (0, 0)) := heap_setCell_same _ r 5 _ _ _ h2
  generalize w2.setCell ⟨r, 5, none⟩ (.int .i64 x.c) = w3 at *
  exact heap_setCell_same _ r 6 _ _ _ h3
/-- What a rule of the reader leaves. -/
def RPost (w : World) (r tb n cap : Nat) (ts : List Tp) (u : Value) (σ : Rs) (e : Ending) (w' : World) : Prop := e = .returned u ∧ Rd w' r tb n cap ts σ ∧ w.grownBy w' (some r)
set_option maxHeartbeats 2000000 in
set_option maxRecDepth 100000 in
theorem rfail_any {w : World} {r tb n cap : Nat} {ts : List Tp} {σ : Rs} (h : Rd w r tb n cap ts σ) (hO : OkS σ) (c : Nat) (hc : c = 30 ∨ c = 31) :
    Calls Tryz.prog 77 #[.pointer (some ⟨r, 0, none⟩), .int .i64 (c : Int)] w fun e w' => RPost w r tb n cap ts (.tuple #[]) (failS c σ) e w' := by
  have ck := rok_any h
  have hh := h.hh
  cases σ with
  | dead c' x =>
    have ck' : Calls Tryz.prog 58 #[.pointer (some ⟨r, 0, none⟩)] w fun e w' => e = .returned (.bool false) ∧ w' = w := ck
    clear ck
    go_enter Tryz.func77, Tryz.ntmps77
    go_wp2_with (go_at_call 58; refine ck'.mono ?_; rintro e w1 ⟨rfl, rfl⟩)
    go_end0
    exact ⟨rfl, h, grown_refl _ _⟩
  | live xs =>
    have ck' : Calls Tryz.prog 58 #[.pointer (some ⟨r, 0, none⟩)] w fun e w' => e = .returned (.bool true) ∧ w' = w := ck
    obtain ⟨N, _, hx, h3⟩ := hh
    obtain ⟨x, ys, rfl⟩ := endL_ne hO
    obtain ⟨hN, _, hcl⟩ := h.head hx
    have c1 : w.cell? ⟨tb, N * 7 + 1, none⟩ = some (.int .i64 x.o) := hcl 1 _ rfl
    have c2 : w.cell? ⟨tb, N * 7 + 2, none⟩ = some (.int .i64 x.l) := hcl 2 _ rfl
    have c3 : w.cell? ⟨tb, N * 7 + 3, none⟩ = some (.int .i64 x.c) := hcl 3 _ rfl
    obtain ⟨⟨q0, q1, q2, q3, q4, q5, q6⟩, fq⟩ := rd7 h3
    have hN' : (N : Int) < (n : Int) := by omega
    have hN0 : (0 : Int) ≤ (N : Int) := by omega
    obtain ⟨a1, a2⟩ := failH (ts := ts) (x := x) (c := c) h3 (by omega) rfl
    have hR := (h.set a2 a1).drew
    have hG := grown_drew a2
    clear a1 a2 h3 hx
    have hcv : (IntKind.i64).wrap (c : Int) = (c : Int) := by rcases hc with rfl | rfl <;> rfl
    clear hcl ck
    go_enter Tryz.func77, Tryz.ntmps77
    go_wp2_with (go_at_call 58; refine ck'.mono ?_; rintro e w1 ⟨rfl, rfl⟩)
    go_region
    all_goals
      go_wp2
      go_end0
      exact ⟨rfl, hR, hG⟩
end Go.Proofs.YtlbgppijeoonjaaGreatDoor

namespace Go.Proofs.YtlbgppijeoonjaaGreatDoor
open Go.RowKit
set_option linter.unusedVariables false

theorem ris_b {w : World} {r tb n cap : Nat} {ts : List Tp} {σ : Rs} (h : Rd w r tb n cap ts σ) (hO : OkS σ) (k : Int) :
    Calls Tryz.prog 55 #[.pointer (some ⟨r, 0, none⟩), .int .i64 k] w fun e w' => e = .returned (.bool (isS k σ)) ∧ Below w.heap.size w w' :=
  (ris_any h hO k).mono fun e w' ⟨h1, m, h2⟩ => ⟨h1, by rw [h2]; exact below_drewN (Below.refl _ _) m⟩
def tpV (x : Tp) : Value := tzV x.z x.o x.l x.c
theorem isS_live {k : Int} {σ : Rs} (hO : OkS σ) (hi : isS k σ = true) : ∃ x ys, σ = .live (x :: ys) ∧ x.z.kind = k := by
  cases σ with
  | dead c x => cases hi
  | live xs =>
    obtain ⟨x, ys, rfl⟩ := endL_ne hO
    exact ⟨x, ys, rfl, of_decide_eq_true hi⟩
theorem take_no {k : Int} {σ : Rs} (hi : isS k σ = false) : takeS k σ = (tp0, failS 30 σ) := by
  cases σ with
  | dead c x => rfl
  | live xs => rw [takeS_live, if_neg (by rw [show comesL k xs = false from hi]; decide)]; rfl
theorem take_yes {k : Int} {x : Tp} {ys : List Tp} (hk : x.z.kind = k) : takeS k (.live (x :: ys)) = (x, if k = 0 then .live (x :: ys) else skipS (.live (x :: ys))) := by
  rw [takeS_live, if_pos (show comesL k (x :: ys) = true from decide_eq_true hk)]
  rfl
/-- The place is moved on by one. -/
theorem Rd.next {w : World} {r tb n cap : Nat} {ts : List Tp} {σ : Rs} (h : Rd w r tb n cap ts σ) (hO : OkS σ) (k : Int) (hk : k ≠ 0) (hi : isS k σ = true) :
    ∃ N : Nat, w.cell? ⟨r, 1, none⟩ = some (.int .i64 (N : Int)) ∧ (N : Int) + 1 < (n : Int) ∧ (n : Int) ≤ 262145 ∧ (∀ i, w.frozen? ⟨r, i, none⟩ = false) ∧
      ∀ w', w' = w.setCell ⟨r, 1, none⟩ (.int .i64 ((N : Int) + 1)) → Rd w' r tb n cap ts (skipS σ) ∧ w.grownBy w' (some r) := by
  obtain ⟨x, ys, rfl, hx⟩ := isS_live hO hi
  obtain ⟨N, _, hd, h3⟩ := h.hh
  obtain ⟨hN, hy, _⟩ := h.head hd
  obtain ⟨⟨_, q1, _⟩, fz⟩ := rd7 h3
  have hE : EndL ys := endL_tail hO (by omega)
  have hlen : N + 1 < n := by
    have := endL_pos hE
    rw [hy, List.length_drop, h.len] at this
    omega
  refine ⟨N, q1, by omega, by have := h.lim; omega, fz, fun w' e => ?_⟩
  subst e
  refine ⟨h.set (grown_set _ _ _ _) ⟨N + 1, hlen, hy, ?_⟩, grown_set _ _ _ _⟩
  have := heap_setCell_same w r 1 (rdC tb n cap N 0 0 0 0) 101 (.int .i64 ((N : Int) + 1)) h3
  exact this
set_option maxHeartbeats 2000000 in
set_option maxRecDepth 100000 in
theorem rtake_no {w : World} {r tb n cap : Nat} {ts : List Tp} {σ : Rs} (h : Rd w r tb n cap ts σ) (hO : OkS σ) (k : Int) (hi : isS k σ = false) :
    Calls Tryz.prog 54 #[.pointer (some ⟨r, 0, none⟩), .int .i64 k] w fun e w' => RPost w r tb n cap ts (tpV tp0) (failS 30 σ) e w' := by
  have hrl := h.lt
  have htl := h.tlt
  have hv1 : (w.alloc (.cells #[.int .i64 0, .int .i64 0, .int .i64 0, .int .i64 0, .string ⟨#[]⟩, .int .u32 0, .bool false] 57)).heap[w.heap.size]? = some (.cells #[.int .i64 0, .int .i64 0, .int .i64 0, .int .i64 0, .string ⟨#[]⟩, .int .u32 0, .bool false] 57 (0, 0)) := heap_alloc_new w _
  have hb1 := (Below.refl w.heap.size w).alloc (Nat.le_refl _) (.cells #[.int .i64 0, .int .i64 0, .int .i64 0, .int .i64 0, .string ⟨#[]⟩, .int .u32 0, .bool false] 57)
  have hR1 := h.below hb1
  go_enter Tryz.func54, Tryz.ntmps54
  go_wp2_with fail
  generalize (w.alloc (.cells #[.int .i64 0, .int .i64 0, .int .i64 0, .int .i64 0, .string ⟨#[]⟩, .int .u32 0, .bool false] 57)) = w1 at *
  have ci := ris_b hR1 hO k
  rw [hi] at ci
  refine ci.mono ?_
  rintro e w2 ⟨rfl, hb2⟩
  have hv2 := (hb2.block _ (heap_lt hv1)).trans hv1
  have hR2 := hR1.below hb2
  have hg2 : w.grownBy w2 (some r) := grown_trans (grown_of_below hb1) (grown_of_below hb2)
  clear hv1 hb1 hR1 hb2 ci
  go_wp2_with fail
  refine (rfail_any hR2 hO 30 (.inl rfl)).mono ?_
  rintro e w3 ⟨rfl, hR3, hg3⟩
  have hv3 := (hg3.block _ (heap_lt hv2) (fun e => by cases e; omega)).trans hv2
  have hg4 := grown_trans hg2 hg3
  obtain ⟨⟨y0, y1, y2, y3, y4, y5, y6⟩, fy⟩ := var7 hv3
  have g7 := set7_grown w3 w.heap.size (.int .i64 0) (.int .i64 0) (.int .i64 0) (.int .i64 0) (.string ⟨#[]⟩) (.int .u32 0) (.bool false)
  clear hv2 hR2 hg2 hg3
  go_wp2
  refine bodyPost_ret (v := tpV tp0) (res_tok1 Tryz.results54 _ w.heap.size _ _ _ _ _ _ _ _ rfl (set7_at _ _ _ _ _ _ _ _ _ _ _ _ _ _ _ _ _ hv3)) rfl ⟨rfl, hR3.grown g7 (by omega) (by omega), grown_new hg4 g7 (Nat.le_refl _)⟩
set_option maxHeartbeats 2000000 in
set_option maxRecDepth 100000 in
theorem rtake_yes {w : World} {r tb n cap : Nat} {ts : List Tp} {x : Tp} {ys : List Tp} (h : Rd w r tb n cap ts (.live (x :: ys))) (hO : OkS (.live (x :: ys))) (k : Int) (hk : x.z.kind = k) :
    Calls Tryz.prog 54 #[.pointer (some ⟨r, 0, none⟩), .int .i64 k] w fun e w' => RPost w r tb n cap ts (tpV x) (if k = 0 then .live (x :: ys) else skipS (.live (x :: ys))) e w' := by
  subst hk
  obtain ⟨σ', hσ⟩ : ∃ s, s = (if x.z.kind = 0 then .live (x :: ys) else skipS (.live (x :: ys)) : Rs) := ⟨_, rfl⟩
  rw [← hσ]
  have hi : isS x.z.kind (.live (x :: ys)) = true := decide_eq_true rfl
  have hrl := h.lt
  have htl := h.tlt
  have hv1 : (w.alloc (.cells #[.int .i64 0, .int .i64 0, .int .i64 0, .int .i64 0, .string ⟨#[]⟩, .int .u32 0, .bool false] 57)).heap[w.heap.size]? = some (.cells #[.int .i64 0, .int .i64 0, .int .i64 0, .int .i64 0, .string ⟨#[]⟩, .int .u32 0, .bool false] 57 (0, 0)) := heap_alloc_new w _
  have hb1 := (Below.refl w.heap.size w).alloc (Nat.le_refl _) (.cells #[.int .i64 0, .int .i64 0, .int .i64 0, .int .i64 0, .string ⟨#[]⟩, .int .u32 0, .bool false] 57)
  have hR1 := h.below hb1
  go_enter Tryz.func54, Tryz.ntmps54
  go_wp2_with fail
  generalize (w.alloc (.cells #[.int .i64 0, .int .i64 0, .int .i64 0, .int .i64 0, .string ⟨#[]⟩, .int .u32 0, .bool false] 57)) = w1 at *
  have ci := ris_b hR1 hO x.z.kind
  rw [hi] at ci
  refine ci.mono ?_
  rintro e w2 ⟨rfl, hb2⟩
  have hv2 := (hb2.block _ (heap_lt hv1)).trans hv1
  have hR2 := hR1.below hb2
  have hg2 : w.grownBy w2 (some r) := grown_trans (grown_of_below hb1) (grown_of_below hb2)
  have hs2 := heap_lt hv2
  clear hv1 hb1 hR1 hb2 ci h
  obtain ⟨N, _, hd, h3⟩ := hR2.hh
  obtain ⟨hN, hy, hc⟩ := hR2.head hd
  obtain ⟨⟨q0, q1, _⟩, _⟩ := rd7 h3
  have hN' : (N : Int) < (n : Int) := by omega
  have hN0 : (0 : Int) ≤ (N : Int) := by omega
  obtain ⟨⟨kk, kt, kv, kh⟩, xo, xl, xc⟩ := x
  have c0 : w2.cell? ⟨tb, N * 7, none⟩ = some (.int .i64 kk) := hc 0 _ rfl
  have c1 : w2.cell? ⟨tb, N * 7 + 1, none⟩ = some (.int .i64 xo) := hc 1 _ rfl
  have c2 : w2.cell? ⟨tb, N * 7 + 2, none⟩ = some (.int .i64 xl) := hc 2 _ rfl
  have c3 : w2.cell? ⟨tb, N * 7 + 3, none⟩ = some (.int .i64 xc) := hc 3 _ rfl
  have c4 : w2.cell? ⟨tb, N * 7 + 4, none⟩ = some (.string ⟨kt.toArray⟩) := hc 4 _ rfl
  have c5 : w2.cell? ⟨tb, N * 7 + 5, none⟩ = some (.int .u32 (kv : Int)) := hc 5 _ rfl
  have c6 : w2.cell? ⟨tb, N * 7 + 6, none⟩ = some (.bool kh) := hc 6 _ rfl
  have al : ∀ o a j u, a < w2.heap.size → w2.cell? ⟨a, j, none⟩ = some u → (w2.alloc o).cell? ⟨a, j, none⟩ = some u := fun o a j u hl hu => by rw [cell_below ((Below.refl w2.heap.size w2).alloc (Nat.le_refl _) o) _ _ hl]; exact hu
  have hrl2 := hR2.lt
  have htl2 := hR2.tlt
  have q0' := fun o => al o r 0 _ hrl2 q0
  have q1' := fun o => al o r 1 _ hrl2 q1
  have c0' := fun o => al o tb (N * 7) _ htl2 c0
  have c1' := fun o => al o tb (N * 7 + 1) _ htl2 c1
  have c2' := fun o => al o tb (N * 7 + 2) _ htl2 c2
  have c3' := fun o => al o tb (N * 7 + 3) _ htl2 c3
  have c4' := fun o => al o tb (N * 7 + 4) _ htl2 c4
  have c5' := fun o => al o tb (N * 7 + 5) _ htl2 c5
  have c6' := fun o => al o tb (N * 7 + 6) _ htl2 c6
  clear al
  have hb3 := ((Below.refl w2.heap.size w2).alloc (Nat.le_refl _) (.cells #[.int .i64 kk, .int .i64 xo, .int .i64 xl, .int .i64 xc, .string ⟨kt.toArray⟩, .int .u32 (kv : Int), .bool kh] 57)).drew
  have hv3 := (hb3.block _ hs2).trans hv2
  have hR3 := hR2.below hb3
  have hg3 : w.grownBy _ (some r) := grown_trans hg2 (grown_of_below hb3)
  have ht3 : (w2.alloc (.cells #[.int .i64 kk, .int .i64 xo, .int .i64 xl, .int .i64 xc, .string ⟨kt.toArray⟩, .int .u32 (kv : Int), .bool kh] 57)).drew.heap[w2.heap.size]? = some (.cells #[.int .i64 kk, .int .i64 xo, .int .i64 xl, .int .i64 xc, .string ⟨kt.toArray⟩, .int .u32 (kv : Int), .bool kh] 57 (0, 0)) := heap_alloc_new w2 _
  dsimp only at hi hO hσ
  clear hc hd hy hN hb3 hv2 hR2 hg2 h3
  generalize hw3 : (w2.alloc (.cells #[.int .i64 kk, .int .i64 xo, .int .i64 xl, .int .i64 xc, .string ⟨kt.toArray⟩, .int .u32 (kv : Int), .bool kh] 57)).drew = w3 at hv3 hR3 hg3 ht3
  obtain ⟨⟨z0, z1, z2, z3, z4, z5, z6⟩, fz⟩ := var7 ht3
  by_cases hk0 : kk = 0
  · subst hk0
    rw [if_pos rfl] at hσ
    subst hσ
    obtain ⟨⟨y0, y1, y2, y3, y4, y5, y6⟩, fy⟩ := var7 hv3
    have g7 := set7_grown w3 w.heap.size (.int .i64 0) (.int .i64 xo) (.int .i64 xl) (.int .i64 xc) (.string ⟨kt.toArray⟩) (.int .u32 (kv : Int)) (.bool kh)
    clear ht3
    go_wp2
    go_region
    all_goals
      go_wp2
      refine bodyPost_ret (v := tpV ⟨⟨0, kt, kv, kh⟩, xo, xl, xc⟩) (res_tok1 Tryz.results54 _ w.heap.size _ _ _ _ _ _ _ _ rfl (set7_at _ _ _ _ _ _ _ _ _ _ _ _ _ _ _ _ _ hv3)) rfl ⟨rfl, hR3.grown g7 (by omega) (by omega), grown_new hg3 g7 (Nat.le_refl _)⟩
  · have hkb : (kk == 0) = false := by rw [beq_eq_false_iff_ne]; exact hk0
    have hkn : (kk != 0) = true := by unfold bne; rw [hkb]; rfl
    rw [if_neg hk0] at hσ
    subst hσ
    obtain ⟨M, p1, hM1, hM2, fp, hnx⟩ := hR3.next hO kk hk0 hi
    obtain ⟨hR4, hg4⟩ := hnx _ rfl
    have hv4 := (hg4.block _ (heap_lt hv3) (fun e => by cases e; omega)).trans hv3
    have ht4 := (hg4.block _ (heap_lt ht3) (fun e => by cases e; omega)).trans ht3
    have hg5 := grown_trans hg3 hg4
    generalize hw4 : w3.setCell ⟨r, 1, none⟩ (.int .i64 ((M : Int) + 1)) = w4 at hR4 hg4 hv4 ht4 hg5
    obtain ⟨⟨y0, y1, y2, y3, y4, y5, y6⟩, fy⟩ := var7 hv4
    obtain ⟨⟨t0, t1, t2, t3, t4, t5, t6⟩, ft⟩ := var7 ht4
    have g7 := set7_grown w4 w.heap.size (.int .i64 kk) (.int .i64 xo) (.int .i64 xl) (.int .i64 xc) (.string ⟨kt.toArray⟩) (.int .u32 (kv : Int)) (.bool kh)
    clear ht3 hv3 hnx hg3 hg4 hk0
    go_wp2
    go_region
    all_goals
      go_wp2
      refine bodyPost_ret (v := tpV ⟨⟨kk, kt, kv, kh⟩, xo, xl, xc⟩) (res_tok1 Tryz.results54 _ w.heap.size _ _ _ _ _ _ _ _ rfl (set7_at _ _ _ _ _ _ _ _ _ _ _ _ _ _ _ _ _ hv4)) rfl ⟨rfl, hR4.grown g7 (by omega) (by omega), grown_new hg5 g7 (Nat.le_refl _)⟩
theorem rtake_any {w : World} {r tb n cap : Nat} {ts : List Tp} {σ : Rs} (h : Rd w r tb n cap ts σ) (hO : OkS σ) (k : Int) :
    Calls Tryz.prog 54 #[.pointer (some ⟨r, 0, none⟩), .int .i64 k] w fun e w' => RPost w r tb n cap ts (tpV (takeS k σ).1) (takeS k σ).2 e w' := by
  cases hi : isS k σ with
  | false => rw [take_no hi]; exact rtake_no h hO k hi
  | true =>
    obtain ⟨x, ys, rfl, hx⟩ := isS_live hO hi
    rw [take_yes hx]
    exact rtake_yes h hO k hx
end Go.Proofs.YtlbgppijeoonjaaGreatDoor

namespace Go.Proofs.YtlbgppijeoonjaaGreatDoor
open Go.RowKit
set_option linter.unusedVariables false

theorem word_no {t : List UInt8} {σ : Rs} (hi : isS 1 σ = false) : wordS t σ = failS 30 σ := by
  cases σ with
  | dead c x => rfl
  | live xs => rw [wordS_live, if_neg (fun k => by rw [show comesL 1 xs = false from hi] at k; exact absurd k.1 (by decide))]; rfl
set_option maxHeartbeats 2000000 in
set_option maxRecDepth 100000 in
theorem rdword_any {w : World} {r tb n cap : Nat} {ts : List Tp} {σ : Rs} (h : Rd w r tb n cap ts σ) (hO : OkS σ) (t : List UInt8) :
    Calls Tryz.prog 53 #[.pointer (some ⟨r, 0, none⟩), .string ⟨t.toArray⟩] w fun e w' => RPost w r tb n cap ts (.tuple #[]) (wordS t σ) e w' := by
  have ci := fun m => ris_any (h.below (below_drewN (Below.refl _ _) m)) hO 1
  cases hi : isS 1 σ with
  | false =>
    rw [word_no hi]
    rw [hi] at ci
    go_enter Tryz.func53, Tryz.ntmps53
    go_wp2
    go_quiet (first | (go_at_call 55; refine Calls.quiet_of (ci _)))
    have hb : Below w.heap.size w (w.drewN nq) := below_drewN (Below.refl _ _) nq
    generalize (w.drewN nq) = w1 at *
    have hR1 := h.below hb
    clear ci h
    go_wp2_with fail
    refine (rfail_any hR1 hO 30 (.inl rfl)).mono ?_
    rintro e w3 ⟨rfl, hR3, hg3⟩
    have hg4 := grown_trans (grown_of_below (r := some r) hb) hg3
    go_wp2
    go_end0
    exact ⟨rfl, hR3, hg4⟩
  | true =>
    rw [hi] at ci
    obtain ⟨x, ys, rfl, hk⟩ := isS_live hO hi
    obtain ⟨N, _, hd, h3⟩ := h.hh
    obtain ⟨hN, _, hc⟩ := h.head hd
    obtain ⟨⟨q0, q1, _⟩, _⟩ := rd7 h3
    have c4 : w.cell? ⟨tb, N * 7 + 4, none⟩ = some (.string ⟨x.z.text.toArray⟩) := hc 4 _ rfl
    have hN' : (N : Int) < (n : Int) := by omega
    have hN0 : (0 : Int) ≤ (N : Int) := by omega
    clear hc hd h3
    by_cases ht : x.z.text = t
    · have hW : wordS t (.live (x :: ys)) = skipS (.live (x :: ys)) := by rw [wordS_live, if_pos ⟨hi, ht⟩]; rfl
      rw [hW]
      rw [ht] at c4
      clear ht hW
      go_enter Tryz.func53, Tryz.ntmps53
      go_wp2
      go_quiet (first | (go_at_call 55; refine Calls.quiet_of (ci _)))
      have hb : Below w.heap.size w (w.drewN nq) := below_drewN (Below.refl _ _) nq
      generalize (w.drewN nq) = w1 at *
      have hR1 := h.below hb
      obtain ⟨M, p1, hM1, hM2, fp, hnx⟩ := hR1.next hO 1 (by decide) hi
      obtain ⟨hR4, hg4⟩ := hnx _ rfl
      have hg5 := grown_trans (grown_of_below (r := some r) hb) hg4
      clear ci h hnx c4 q0 q1 hN' hN0
      go_wp2
      go_end0
      exact ⟨rfl, hR4, hg5⟩
    · have hW : wordS t (.live (x :: ys)) = failS 30 (.live (x :: ys)) := by rw [wordS_live, if_neg (fun k => ht k.2)]; rfl
      rw [hW]
      have hb2 : (x.z.text == t) = false := by simpa using ht
      clear ht hW
      go_enter Tryz.func53, Tryz.ntmps53
      go_wp2
      go_quiet (first | (go_at_call 55; refine Calls.quiet_of (ci _)))
      have hb : Below w.heap.size w (w.drewN nq) := below_drewN (Below.refl _ _) nq
      generalize (w.drewN nq) = w1 at *
      have hR1 := h.below hb
      clear ci h c4 q0 q1 hN' hN0
      go_wp2_with fail
      refine (rfail_any hR1 hO 30 (.inl rfl)).mono ?_
      rintro e w3 ⟨rfl, hR3, hg3⟩
      have hg4 := grown_trans (grown_of_below (r := some r) hb) hg3
      go_wp2
      go_end0
      exact ⟨rfl, hR3, hg4⟩
def ntV (o : Option (List UInt8)) : Value := .tuple #[.bool (noteB o), .string ⟨(noteT o).toArray⟩]
set_option maxHeartbeats 2000000 in
set_option maxRecDepth 100000 in
theorem rnote_any {w : World} {r tb n cap : Nat} {ts : List Tp} {σ : Rs} (h : Rd w r tb n cap ts σ) (hO : OkS σ) :
    Calls Tryz.prog 57 #[.pointer (some ⟨r, 0, none⟩)] w fun e w' => RPost w r tb n cap ts (ntV (noteS σ).1) (noteS σ).2 e w' := by
  have ci := ris_b h hO 8
  cases hi : isS 8 σ with
  | false =>
    have hS : noteS σ = (none, σ) := by unfold noteS; rw [if_neg (by rw [hi]; decide)]
    rw [hS]
    rw [hi] at ci
    go_enter Tryz.func57, Tryz.ntmps57
    go_wp2_with fail
    refine ci.mono ?_
    rintro e w1 ⟨rfl, hb1⟩
    have hR1 := h.below hb1
    have hg1 : w.grownBy w1 (some r) := grown_of_below hb1
    clear h hb1
    go_wp2
    go_ret2
    exact ⟨rfl, hR1, hg1⟩
  | true =>
    have hS : noteS σ = (some (takeS 3 (skipS σ)).1.z.text, (takeS 3 (skipS σ)).2) := by unfold noteS; rw [if_pos hi]
    rw [hS]
    rw [hi] at ci
    have hsk := (skip_okS hO 8 (by decide) hi).1
    have ct := fun (w : World) (hR : Rd w r tb n cap ts (skipS σ)) => rtake_any hR hsk 3
    generalize takeS 3 (skipS σ) = p at *
    obtain ⟨⟨⟨kk, kt, kv, kh⟩, xo, xl, xc⟩, σ'⟩ := p
    dsimp only at ct ⊢
    unfold tpV tzV tzC at ct
    go_enter Tryz.func57, Tryz.ntmps57
    go_wp2_with fail
    refine ci.mono ?_
    rintro e w1 ⟨rfl, hb1⟩
    have hR1 := h.below hb1
    have hg1 : w.grownBy w1 (some r) := grown_of_below hb1
    obtain ⟨M, p1, hM1, hM2, fp, hnx⟩ := hR1.next hO 8 (by decide) hi
    obtain ⟨hR2, hg2⟩ := hnx _ rfl
    have hg3 := grown_trans hg1 hg2
    clear h hb1 ci hS hnx hR1
    go_wp2_with fail
    generalize (w1.setCell ⟨r, 1, none⟩ (.int .i64 ((M : Int) + 1))) = w2 at *
    refine (ct w2 hR2).mono ?_
    rintro e w3 ⟨rfl, hR3, hg4⟩
    have hg5 := grown_trans hg3 hg4
    have hb6 := (Below.refl w3.heap.size w3).alloc (Nat.le_refl _) (.cells #[.int .i64 kk, .int .i64 xo, .int .i64 xl, .int .i64 xc, .string ⟨kt.toArray⟩, .int .u32 (kv : Int), .bool kh] 57)
    have hR6 := hR3.below hb6
    have hg6 := grown_trans hg5 (grown_of_below (r := some r) hb6)
    have ht6 : (w3.alloc (.cells #[.int .i64 kk, .int .i64 xo, .int .i64 xl, .int .i64 xc, .string ⟨kt.toArray⟩, .int .u32 (kv : Int), .bool kh] 57)).heap[w3.heap.size]? = some (.cells #[.int .i64 kk, .int .i64 xo, .int .i64 xl, .int .i64 xc, .string ⟨kt.toArray⟩, .int .u32 (kv : Int), .bool kh] 57 (0, 0)) := heap_alloc_new w3 _
    generalize hw6 : (w3.alloc (.cells #[.int .i64 kk, .int .i64 xo, .int .i64 xl, .int .i64 xc, .string ⟨kt.toArray⟩, .int .u32 (kv : Int), .bool kh] 57)) = w6 at hR6 hg6 ht6
    obtain ⟨⟨_, _, _, _, z4, _, _⟩, fz⟩ := var7 ht6
    clear ct hR2 hg2 hg3 hR3 hg4 hg5 hb6 ht6 p1 fp
    go_wp2
    go_quiet (fail)
    have hb7 : Below w6.heap.size w6 (w6.drewN nq) := below_drewN (Below.refl _ _) nq
    have hR7 := hR6.below hb7
    have hg7 := grown_trans hg6 (grown_of_below (r := some r) hb7)
    clear hb7
    go_wp2
    go_ret2
    exact ⟨rfl, hR7, hg7⟩
end Go.Proofs.YtlbgppijeoonjaaGreatDoor

namespace Go.Proofs.YtlbgppijeoonjaaGreatDoor
open Go.RowKit
set_option linter.unusedVariables false

set_option maxHeartbeats 2000000 in
set_option maxRecDepth 100000 in
theorem rvalue_1 {w : World} {r tb n cap : Nat} {ts : List Tp} {σ : Rs} (h : Rd w r tb n cap ts σ) (hO : OkS σ) (h1 : isS 1 σ = true) :
    Calls Tryz.prog 78 #[.pointer (some ⟨r, 0, none⟩)] w fun e w' => RPost w r tb n cap ts (vlV ⟨1, (takeS 1 σ).1.z.text, 0, false⟩) (takeS 1 σ).2 e w' := by
  have hrl := h.lt
  have htl := h.tlt
  have hvw1 : (w.alloc (.cells #[.int .i64 0, .string ⟨#[]⟩, .int .u32 0, .bool false] 31)).heap[w.heap.size]? = some (.cells #[.int .i64 0, .string ⟨#[]⟩, .int .u32 0, .bool false] 31 (0, 0)) := heap_alloc_new w _
  have hb1 := (Below.refl w.heap.size w).alloc (Nat.le_refl _) (.cells #[.int .i64 0, .string ⟨#[]⟩, .int .u32 0, .bool false] 31)
  have hRw1 := h.below hb1
  have hgw1 : w.grownBy _ (some r) := grown_of_below hb1
  clear hb1
  have ct := fun (w : World) (hR : Rd w r tb n cap ts σ) => rtake_any hR hO 1
  generalize takeS 1 σ = p at *
  obtain ⟨⟨⟨kk, kt, kv, kh⟩, xo, xl, xc⟩, σ'⟩ := p
  dsimp only at ct ⊢
  unfold tpV tzV tzC at ct
  go_enter Tryz.func78, Tryz.ntmps78
  go_wp2_with fail
  generalize (w.alloc (.cells #[.int .i64 0, .string ⟨#[]⟩, .int .u32 0, .bool false] 31)) = w1 at *
  have ci := ris_b hRw1 hO 1
  rw [h1] at ci
  refine ci.mono ?_
  rintro e w2 ⟨rfl, hb⟩
  have hvw2 := (hb.block _ (heap_lt hvw1)).trans hvw1
  have hRw2 := hRw1.below hb
  have hgw2 := grown_trans hgw1 (grown_of_below (r := some r) hb)
  clear hb ci hRw1 hvw1 hgw1
  go_wp2_with fail
  refine (ct w2 hRw2).mono ?_
  rintro e w8 ⟨rfl, hR8, hg8⟩
  have hv8 := (hg8.block _ (heap_lt hvw2) (fun e => by cases e; omega)).trans hvw2
  have hal := (Below.refl w8.heap.size w8).alloc (Nat.le_refl _) (.cells #[.int .i64 kk, .int .i64 xo, .int .i64 xl, .int .i64 xc, .string ⟨kt.toArray⟩, .int .u32 (kv : Int), .bool kh] 57)
  have hv9 := (hal.block _ (heap_lt hv8)).trans hv8
  have hR9 := hR8.below hal
  have hg9 := grown_trans (grown_trans hgw2 hg8) (grown_of_below (r := some r) hal)
  have ht9 : (w8.alloc (.cells #[.int .i64 kk, .int .i64 xo, .int .i64 xl, .int .i64 xc, .string ⟨kt.toArray⟩, .int .u32 (kv : Int), .bool kh] 57)).heap[w8.heap.size]? = some (.cells #[.int .i64 kk, .int .i64 xo, .int .i64 xl, .int .i64 xc, .string ⟨kt.toArray⟩, .int .u32 (kv : Int), .bool kh] 57 (0, 0)) := heap_alloc_new w8 _
  generalize hw9 : (w8.alloc (.cells #[.int .i64 kk, .int .i64 xo, .int .i64 xl, .int .i64 xc, .string ⟨kt.toArray⟩, .int .u32 (kv : Int), .bool kh] 57)) = w9 at hv9 hR9 hg9 ht9
  obtain ⟨⟨y0, y1, y2, y3⟩, fy⟩ := var4 hv9
  obtain ⟨⟨_, _, _, _, z4, z5, z6⟩, _⟩ := var7 ht9
  have g4 := set4_grown w9 w.heap.size (.int .i64 1) (.string ⟨kt.toArray⟩) (.int .u32 0) (.bool false)
  clear hal hv8 hR8 hg8 hgw2 hvw2 hRw2 ct
  go_wp2
  refine bodyPost_ret (v := vlV ⟨1, kt, 0, false⟩) (res_val Tryz.results78 _ w.heap.size _ _ _ _ _ rfl (set4_at _ _ _ _ _ _ _ _ _ _ _ hv9)) rfl ⟨rfl, hR9.grown g4 (by omega) (by omega), grown_new hg9 g4 (Nat.le_refl _)⟩
set_option maxHeartbeats 2000000 in
set_option maxRecDepth 100000 in
theorem rvalue_2 {w : World} {r tb n cap : Nat} {ts : List Tp} {σ : Rs} (h : Rd w r tb n cap ts σ) (hO : OkS σ) (h1 : isS 1 σ = false) (h2 : isS 2 σ = true) :
    Calls Tryz.prog 78 #[.pointer (some ⟨r, 0, none⟩)] w fun e w' => RPost w r tb n cap ts (vlV ⟨2, [], (takeS 2 σ).1.z.val, (takeS 2 σ).1.z.hex⟩) (takeS 2 σ).2 e w' := by
  have hrl := h.lt
  have htl := h.tlt
  have hvw1 : (w.alloc (.cells #[.int .i64 0, .string ⟨#[]⟩, .int .u32 0, .bool false] 31)).heap[w.heap.size]? = some (.cells #[.int .i64 0, .string ⟨#[]⟩, .int .u32 0, .bool false] 31 (0, 0)) := heap_alloc_new w _
  have hb1 := (Below.refl w.heap.size w).alloc (Nat.le_refl _) (.cells #[.int .i64 0, .string ⟨#[]⟩, .int .u32 0, .bool false] 31)
  have hRw1 := h.below hb1
  have hgw1 : w.grownBy _ (some r) := grown_of_below hb1
  clear hb1
  have ct := fun (w : World) (hR : Rd w r tb n cap ts σ) => rtake_any hR hO 2
  generalize takeS 2 σ = p at *
  obtain ⟨⟨⟨kk, kt, kv, kh⟩, xo, xl, xc⟩, σ'⟩ := p
  dsimp only at ct ⊢
  unfold tpV tzV tzC at ct
  go_enter Tryz.func78, Tryz.ntmps78
  go_wp2_with fail
  generalize (w.alloc (.cells #[.int .i64 0, .string ⟨#[]⟩, .int .u32 0, .bool false] 31)) = w1 at *
  have ci := ris_b hRw1 hO 1
  rw [h1] at ci
  refine ci.mono ?_
  rintro e w2 ⟨rfl, hb⟩
  have hvw2 := (hb.block _ (heap_lt hvw1)).trans hvw1
  have hRw2 := hRw1.below hb
  have hgw2 := grown_trans hgw1 (grown_of_below (r := some r) hb)
  clear hb ci hRw1 hvw1 hgw1
  go_wp2_with fail
  have ci := ris_b hRw2 hO 2
  rw [h2] at ci
  refine ci.mono ?_
  rintro e w3 ⟨rfl, hb⟩
  have hvw3 := (hb.block _ (heap_lt hvw2)).trans hvw2
  have hRw3 := hRw2.below hb
  have hgw3 := grown_trans hgw2 (grown_of_below (r := some r) hb)
  clear hb ci hRw2 hvw2 hgw2
  go_wp2_with fail
  refine (ct w3 hRw3).mono ?_
  rintro e w8 ⟨rfl, hR8, hg8⟩
  have hv8 := (hg8.block _ (heap_lt hvw3) (fun e => by cases e; omega)).trans hvw3
  have hal := (Below.refl w8.heap.size w8).alloc (Nat.le_refl _) (.cells #[.int .i64 kk, .int .i64 xo, .int .i64 xl, .int .i64 xc, .string ⟨kt.toArray⟩, .int .u32 (kv : Int), .bool kh] 57)
  have hv9 := (hal.block _ (heap_lt hv8)).trans hv8
  have hR9 := hR8.below hal
  have hg9 := grown_trans (grown_trans hgw3 hg8) (grown_of_below (r := some r) hal)
  have ht9 : (w8.alloc (.cells #[.int .i64 kk, .int .i64 xo, .int .i64 xl, .int .i64 xc, .string ⟨kt.toArray⟩, .int .u32 (kv : Int), .bool kh] 57)).heap[w8.heap.size]? = some (.cells #[.int .i64 kk, .int .i64 xo, .int .i64 xl, .int .i64 xc, .string ⟨kt.toArray⟩, .int .u32 (kv : Int), .bool kh] 57 (0, 0)) := heap_alloc_new w8 _
  generalize hw9 : (w8.alloc (.cells #[.int .i64 kk, .int .i64 xo, .int .i64 xl, .int .i64 xc, .string ⟨kt.toArray⟩, .int .u32 (kv : Int), .bool kh] 57)) = w9 at hv9 hR9 hg9 ht9
  obtain ⟨⟨y0, y1, y2, y3⟩, fy⟩ := var4 hv9
  obtain ⟨⟨_, _, _, _, z4, z5, z6⟩, _⟩ := var7 ht9
  have g4 := set4_grown w9 w.heap.size (.int .i64 2) (.string ⟨#[]⟩) (.int .u32 (kv : Int)) (.bool kh)
  clear hal hv8 hR8 hg8 hgw3 hvw3 hRw3 ct
  go_wp2
  refine bodyPost_ret (v := vlV ⟨2, [], kv, kh⟩) (res_val Tryz.results78 _ w.heap.size _ _ _ _ _ rfl (set4_at _ _ _ _ _ _ _ _ _ _ _ hv9)) rfl ⟨rfl, hR9.grown g4 (by omega) (by omega), grown_new hg9 g4 (Nat.le_refl _)⟩
set_option maxHeartbeats 2000000 in
set_option maxRecDepth 100000 in
theorem rvalue_3 {w : World} {r tb n cap : Nat} {ts : List Tp} {σ : Rs} (h : Rd w r tb n cap ts σ) (hO : OkS σ) (h1 : isS 1 σ = false) (h2 : isS 2 σ = false) (h3 : isS 3 σ = true) :
    Calls Tryz.prog 78 #[.pointer (some ⟨r, 0, none⟩)] w fun e w' => RPost w r tb n cap ts (vlV ⟨3, (takeS 3 σ).1.z.text, 0, false⟩) (takeS 3 σ).2 e w' := by
  have hrl := h.lt
  have htl := h.tlt
  have hvw1 : (w.alloc (.cells #[.int .i64 0, .string ⟨#[]⟩, .int .u32 0, .bool false] 31)).heap[w.heap.size]? = some (.cells #[.int .i64 0, .string ⟨#[]⟩, .int .u32 0, .bool false] 31 (0, 0)) := heap_alloc_new w _
  have hb1 := (Below.refl w.heap.size w).alloc (Nat.le_refl _) (.cells #[.int .i64 0, .string ⟨#[]⟩, .int .u32 0, .bool false] 31)
  have hRw1 := h.below hb1
  have hgw1 : w.grownBy _ (some r) := grown_of_below hb1
  clear hb1
  have ct := fun (w : World) (hR : Rd w r tb n cap ts σ) => rtake_any hR hO 3
  generalize takeS 3 σ = p at *
  obtain ⟨⟨⟨kk, kt, kv, kh⟩, xo, xl, xc⟩, σ'⟩ := p
  dsimp only at ct ⊢
  unfold tpV tzV tzC at ct
  go_enter Tryz.func78, Tryz.ntmps78
  go_wp2_with fail
  generalize (w.alloc (.cells #[.int .i64 0, .string ⟨#[]⟩, .int .u32 0, .bool false] 31)) = w1 at *
  have ci := ris_b hRw1 hO 1
  rw [h1] at ci
  refine ci.mono ?_
  rintro e w2 ⟨rfl, hb⟩
  have hvw2 := (hb.block _ (heap_lt hvw1)).trans hvw1
  have hRw2 := hRw1.below hb
  have hgw2 := grown_trans hgw1 (grown_of_below (r := some r) hb)
  clear hb ci hRw1 hvw1 hgw1
  go_wp2_with fail
  have ci := ris_b hRw2 hO 2
  rw [h2] at ci
  refine ci.mono ?_
  rintro e w3 ⟨rfl, hb⟩
  have hvw3 := (hb.block _ (heap_lt hvw2)).trans hvw2
  have hRw3 := hRw2.below hb
  have hgw3 := grown_trans hgw2 (grown_of_below (r := some r) hb)
  clear hb ci hRw2 hvw2 hgw2
  go_wp2_with fail
  have ci := ris_b hRw3 hO 3
  rw [h3] at ci
  refine ci.mono ?_
  rintro e w4 ⟨rfl, hb⟩
  have hvw4 := (hb.block _ (heap_lt hvw3)).trans hvw3
  have hRw4 := hRw3.below hb
  have hgw4 := grown_trans hgw3 (grown_of_below (r := some r) hb)
  clear hb ci hRw3 hvw3 hgw3
  go_wp2_with fail
  refine (ct w4 hRw4).mono ?_
  rintro e w8 ⟨rfl, hR8, hg8⟩
  have hv8 := (hg8.block _ (heap_lt hvw4) (fun e => by cases e; omega)).trans hvw4
  have hal := (Below.refl w8.heap.size w8).alloc (Nat.le_refl _) (.cells #[.int .i64 kk, .int .i64 xo, .int .i64 xl, .int .i64 xc, .string ⟨kt.toArray⟩, .int .u32 (kv : Int), .bool kh] 57)
  have hv9 := (hal.block _ (heap_lt hv8)).trans hv8
  have hR9 := hR8.below hal
  have hg9 := grown_trans (grown_trans hgw4 hg8) (grown_of_below (r := some r) hal)
  have ht9 : (w8.alloc (.cells #[.int .i64 kk, .int .i64 xo, .int .i64 xl, .int .i64 xc, .string ⟨kt.toArray⟩, .int .u32 (kv : Int), .bool kh] 57)).heap[w8.heap.size]? = some (.cells #[.int .i64 kk, .int .i64 xo, .int .i64 xl, .int .i64 xc, .string ⟨kt.toArray⟩, .int .u32 (kv : Int), .bool kh] 57 (0, 0)) := heap_alloc_new w8 _
  generalize hw9 : (w8.alloc (.cells #[.int .i64 kk, .int .i64 xo, .int .i64 xl, .int .i64 xc, .string ⟨kt.toArray⟩, .int .u32 (kv : Int), .bool kh] 57)) = w9 at hv9 hR9 hg9 ht9
  obtain ⟨⟨y0, y1, y2, y3⟩, fy⟩ := var4 hv9
  obtain ⟨⟨_, _, _, _, z4, z5, z6⟩, _⟩ := var7 ht9
  have g4 := set4_grown w9 w.heap.size (.int .i64 3) (.string ⟨kt.toArray⟩) (.int .u32 0) (.bool false)
  clear hal hv8 hR8 hg8 hgw4 hvw4 hRw4 ct
  go_wp2
  refine bodyPost_ret (v := vlV ⟨3, kt, 0, false⟩) (res_val Tryz.results78 _ w.heap.size _ _ _ _ _ rfl (set4_at _ _ _ _ _ _ _ _ _ _ _ hv9)) rfl ⟨rfl, hR9.grown g4 (by omega) (by omega), grown_new hg9 g4 (Nat.le_refl _)⟩
set_option maxHeartbeats 2000000 in
set_option maxRecDepth 100000 in
theorem rvalue_0 {w : World} {r tb n cap : Nat} {ts : List Tp} {σ : Rs} (h : Rd w r tb n cap ts σ) (hO : OkS σ) (h1 : isS 1 σ = false) (h2 : isS 2 σ = false) (h3 : isS 3 σ = false) :
    Calls Tryz.prog 78 #[.pointer (some ⟨r, 0, none⟩)] w fun e w' => RPost w r tb n cap ts (vlV ⟨0, [], 0, false⟩) (failS 30 σ) e w' := by
  have hrl := h.lt
  have htl := h.tlt
  have hvw1 : (w.alloc (.cells #[.int .i64 0, .string ⟨#[]⟩, .int .u32 0, .bool false] 31)).heap[w.heap.size]? = some (.cells #[.int .i64 0, .string ⟨#[]⟩, .int .u32 0, .bool false] 31 (0, 0)) := heap_alloc_new w _
  have hb1 := (Below.refl w.heap.size w).alloc (Nat.le_refl _) (.cells #[.int .i64 0, .string ⟨#[]⟩, .int .u32 0, .bool false] 31)
  have hRw1 := h.below hb1
  have hgw1 : w.grownBy _ (some r) := grown_of_below hb1
  clear hb1
  go_enter Tryz.func78, Tryz.ntmps78
  go_wp2_with fail
  generalize (w.alloc (.cells #[.int .i64 0, .string ⟨#[]⟩, .int .u32 0, .bool false] 31)) = w1 at *
  have ci := ris_b hRw1 hO 1
  rw [h1] at ci
  refine ci.mono ?_
  rintro e w2 ⟨rfl, hb⟩
  have hvw2 := (hb.block _ (heap_lt hvw1)).trans hvw1
  have hRw2 := hRw1.below hb
  have hgw2 := grown_trans hgw1 (grown_of_below (r := some r) hb)
  clear hb ci hRw1 hvw1 hgw1
  go_wp2_with fail
  have ci := ris_b hRw2 hO 2
  rw [h2] at ci
  refine ci.mono ?_
  rintro e w3 ⟨rfl, hb⟩
  have hvw3 := (hb.block _ (heap_lt hvw2)).trans hvw2
  have hRw3 := hRw2.below hb
  have hgw3 := grown_trans hgw2 (grown_of_below (r := some r) hb)
  clear hb ci hRw2 hvw2 hgw2
  go_wp2_with fail
  have ci := ris_b hRw3 hO 3
  rw [h3] at ci
  refine ci.mono ?_
  rintro e w4 ⟨rfl, hb⟩
  have hvw4 := (hb.block _ (heap_lt hvw3)).trans hvw3
  have hRw4 := hRw3.below hb
  have hgw4 := grown_trans hgw3 (grown_of_below (r := some r) hb)
  clear hb ci hRw3 hvw3 hgw3
  go_wp2_with fail
  refine (rfail_any hRw4 hO 30 (.inl rfl)).mono ?_
  rintro e w9 ⟨rfl, hR9, hg8⟩
  have hv9 := (hg8.block _ (heap_lt hvw4) (fun e => by cases e; omega)).trans hvw4
  have hg9 := grown_trans hgw4 hg8
  obtain ⟨⟨y0, y1, y2, y3⟩, fy⟩ := var4 hv9
  have g4 := set4_grown w9 w.heap.size (.int .i64 0) (.string ⟨#[]⟩) (.int .u32 0) (.bool false)
  clear hg8 hgw4 hvw4 hRw4
  go_wp2
  refine bodyPost_ret (v := vlV ⟨0, [], 0, false⟩) (res_val Tryz.results78 _ w.heap.size _ _ _ _ _ rfl (set4_at _ _ _ _ _ _ _ _ _ _ _ hv9)) rfl ⟨rfl, hR9.grown g4 (by omega) (by omega), grown_new hg9 g4 (Nat.le_refl _)⟩
theorem rvalue_any {w : World} {r tb n cap : Nat} {ts : List Tp} {σ : Rs} (h : Rd w r tb n cap ts σ) (hO : OkS σ) :
    Calls Tryz.prog 78 #[.pointer (some ⟨r, 0, none⟩)] w fun e w' => RPost w r tb n cap ts (vlV (valueS σ).1) (valueS σ).2 e w' := by
  unfold valueS
  cases h1 : isS 1 σ with
  | true => rw [if_pos rfl]; exact rvalue_1 h hO h1
  | false =>
    rw [if_neg (by decide)]
    cases h2 : isS 2 σ with
    | true => rw [if_pos rfl]; exact rvalue_2 h hO h1 h2
    | false =>
      rw [if_neg (by decide)]
      cases h3 : isS 3 σ with
      | true => rw [if_pos rfl]; exact rvalue_3 h hO h1 h2 h3
      | false => rw [if_neg (by decide)]; exact rvalue_0 h hO h1 h2 h3
end Go.Proofs.YtlbgppijeoonjaaGreatDoor

