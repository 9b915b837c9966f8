import Derived.Test.YticgikbnlpgnkaaYd
namespace Go.Proofs.Yticgikbnlpgnkaa
open Go.RowKit
set_option linter.unusedVariables false
set_option linter.unusedSimpArgs false

/-! ### Queues on lists -/
structure Rr where
  p : Nat
  c : Nat
  h : Nat
  l : List Int
def Mt (f : RS) (rs : List Rr) : Prop := (∀ (i : Nat) (r : Rr), rs[i]? = some r → ∃ x, f r.p = some x ∧ x.c = r.c ∧ x.h = r.h ∧ x.l = r.l) ∧ (∀ p x, f p = some x → ∃ (i : Nat) (r : Rr), rs[i]? = some r ∧ r.p = p)
def Fall (rs : List Rr) : Prop := ∀ (i j : Nat) (a b : Rr), i < j → rs[i]? = some a → rs[j]? = some b → b.p < a.p
theorem Fall.inj {rs : List Rr} (h : Fall rs) {i j : Nat} {a b : Rr} (hi : rs[i]? = some a) (hj : rs[j]? = some b) (e : a.p = b.p) : i = j := by
  rcases Nat.lt_trichotomy i j with k | k | k
  · have := h i j a b k hi hj; omega
  · exact k
  · have := h j i b a k hj hi; omega
theorem Mt.get {f : RS} {rs : List Rr} (h : Mt f rs) {p : Nat} {x : Ri} (hx : f p = some x) : ∃ (i : Nat) (r : Rr), rs[i]? = some r ∧ r.p = p ∧ x.c = r.c ∧ x.h = r.h ∧ x.l = r.l := by
  obtain ⟨i, r, hi, hp⟩ := h.2 p x hx
  obtain ⟨y, hy, e1, e2, e3⟩ := h.1 i r hi
  rw [hp, hx] at hy
  cases hy
  exact ⟨i, r, hi, hp, e1, e2, e3⟩
theorem set_get {rs : List Rr} {i : Nat} {r' : Rr} (j : Nat) {b : Rr} (h : (rs.set i r')[j]? = some b) : (j = i ∧ b = r' ∧ i < rs.length) ∨ (j ≠ i ∧ rs[j]? = some b) := by
  by_cases e : i = j
  · subst e
    by_cases hl : i < rs.length
    · rw [List.getElem?_set_self hl] at h
      exact .inl ⟨rfl, (Option.some.inj h).symm, hl⟩
    · rw [List.getElem?_eq_none (by simp; omega)] at h
      cases h
  · rw [List.getElem?_set_ne e] at h
    exact .inr ⟨fun e2 => e e2.symm, h⟩
theorem Fall.set {rs : List Rr} (h : Fall rs) {i : Nat} {r r' : Rr} (hi : rs[i]? = some r) (e : r'.p = r.p) : Fall (rs.set i r') := fun j k a b hjk ha hb => by
  rcases set_get j ha with ⟨rfl, rfl, _⟩ | ⟨h1, h2⟩
  · rcases set_get k hb with ⟨rfl, rfl, _⟩ | ⟨h3, h4⟩
    · omega
    · rw [e]; exact h _ _ _ _ hjk hi h4
  · rcases set_get k hb with ⟨rfl, rfl, _⟩ | ⟨h3, h4⟩
    · rw [e]; exact h _ _ _ _ hjk h2 hi
    · exact h _ _ _ _ hjk h2 h4
theorem Mt.set {f : RS} {rs : List Rr} (h : Mt f rs) (hF : Fall rs) {i : Nat} {r : Rr} (hi : rs[i]? = some r) {x : Ri} (hx : f r.p = some x) (h' : Nat) (l' : List Int) : Mt (upd f r.p ⟨x.B, x.g, x.c, h', l'⟩) (rs.set i ⟨r.p, r.c, h', l'⟩) := by
  have hlt := (List.getElem?_eq_some_iff.1 hi).1
  obtain ⟨y, hy, e1, e2, e3⟩ := h.1 i r hi
  rw [hx] at hy
  cases hy
  refine ⟨fun j b hb => ?_, fun p y hy => ?_⟩
  · rcases set_get j hb with ⟨rfl, rfl, _⟩ | ⟨h1, h2⟩
    · exact ⟨_, upd_same _ _ _, e1, rfl, rfl⟩
    · obtain ⟨y, hy, e⟩ := h.1 j b h2
      refine ⟨y, ?_, e⟩
      rw [upd_other f _ (fun e2 => h1 (hF.inj h2 hi e2))]
      exact hy
  · by_cases e : p = r.p
    · exact ⟨i, _, List.getElem?_set_self hlt, e.symm⟩
    · rw [upd_other f _ e] at hy
      obtain ⟨j, b, hb, hp⟩ := h.2 p y hy
      refine ⟨j, b, ?_, hp⟩
      rw [List.getElem?_set_ne (fun e2 => e ?_)]
      · exact hb
      · subst e2
        rw [hi] at hb
        cases hb
        exact hp.symm
def newR (l : List (Int × Int)) : List Rr := l.map fun x => ⟨x.1.toNat, x.2.toNat, 0, []⟩
theorem fit_at : ∀ (l : List (Int × Int)) (a : Int), fitB a l = true → ∀ (k : Nat) (p c : Int), l[k]? = some (p, c) → (0 ≤ p ∧ p ≤ 63) ∧ p < a ∧ (1 ≤ c ∧ c ≤ 65536)
  | [], a, h, k, p, c, hk => by simp at hk
  | (p0, c0) :: t, a, h, k, p, c, hk => by
    simp only [fitB, Bool.and_eq_true, decide_eq_true_eq] at h
    obtain ⟨⟨⟨h1, h2⟩, h3⟩, h4⟩ := h
    cases k with
    | zero => simp at hk; obtain ⟨rfl, rfl⟩ := hk; exact ⟨h1, h2, h3⟩
    | succ k =>
      have := fit_at t p0 h4 k p c (by simpa using hk)
      exact ⟨this.1, by omega, this.2.2⟩
theorem fit_fall : ∀ (l : List (Int × Int)) (a : Int), fitB a l = true → ∀ (i j : Nat) (p c q d : Int), i < j → l[i]? = some (p, c) → l[j]? = some (q, d) → q < p
  | [], a, h, i, j, p, c, q, d, _, hi, _ => by simp at hi
  | (p0, c0) :: t, a, h, i, j, p, c, q, d, hij, hi, hj => by
    simp only [fitB, Bool.and_eq_true, decide_eq_true_eq] at h
    obtain ⟨_, h4⟩ := h
    obtain ⟨j, rfl⟩ : ∃ m, j = m + 1 := ⟨j - 1, by omega⟩
    simp only [List.getElem?_cons_succ] at hj
    cases i with
    | zero => simp at hi; obtain ⟨rfl, rfl⟩ := hi; exact (fit_at t p0 h4 j q d hj).2.1
    | succ i => exact fit_fall t p0 h4 i j p c q d (by omega) (by simpa using hi) hj
theorem fit_len (l : List (Int × Int)) (h : fitB 64 l = true) : l.length ≤ 64 := by
  by_cases hl : l.length ≤ 64
  · exact hl
  · have key : ∀ k, k < l.length → ∃ (p c : Int), l[k]? = some (p, c) ∧ p ≤ 63 - (k : Int) ∧ 0 ≤ p := by
      intro k
      induction k with
      | zero =>
        intro hk
        obtain ⟨⟨p, c⟩, hx⟩ : ∃ x, l[0]? = some x := ⟨_, List.getElem?_eq_getElem hk⟩
        have := fit_at l 64 h 0 p c hx
        exact ⟨p, c, hx, by omega, this.1.1⟩
      | succ k ih =>
        intro hk
        obtain ⟨p0, c0, hx0, h1, _⟩ := ih (by omega)
        obtain ⟨⟨p, c⟩, hx⟩ : ∃ x, l[k + 1]? = some x := ⟨_, List.getElem?_eq_getElem hk⟩
        have h2 := fit_fall l 64 h k (k + 1) p0 c0 p c (by omega) hx0 hx
        have h3 := fit_at l 64 h (k + 1) p c hx
        exact ⟨p, c, hx, by omega, h3.1.1⟩
    obtain ⟨p, c, _, h1, h2⟩ := key 64 (by omega)
    omega
theorem newR_get {l : List (Int × Int)} {i : Nat} {r : Rr} (h : (newR l)[i]? = some r) : ∃ (p c : Int), l[i]? = some (p, c) ∧ r = ⟨p.toNat, c.toNat, 0, []⟩ := by
  unfold newR at h
  rw [List.getElem?_map] at h
  obtain ⟨⟨p, c⟩, h1, h2⟩ := Option.map_eq_some_iff.1 h
  exact ⟨p, c, h1, h2.symm⟩
theorem newR_fall {l : List (Int × Int)} (h : fitB 64 l = true) : Fall (newR l) := fun i j a b hij ha hb => by
  obtain ⟨p, c, h1, rfl⟩ := newR_get ha
  obtain ⟨q, d, h2, rfl⟩ := newR_get hb
  have h3 := fit_fall l 64 h i j p c q d hij h1 h2
  have h4 := fit_at l 64 h i p c h1
  have h5 := fit_at l 64 h j q d h2
  show q.toNat < p.toNat
  omega
/-- The row of a priority. -/
def lst (f : RS) (p : Nat) : List Int := (f p).elim [] (·.l)
def tag (p : Nat) (l : List Int) : List (Int × Int) := l.map fun x => ((p : Int), x)
def dnF (f : RS) : Nat → List (Int × Int)
  | 0 => []
  | p + 1 => tag p (lst f p) ++ dnF f p
def allR : List Rr → List (Int × Int)
  | [] => []
  | r :: t => tag r.p r.l ++ allR t
def sumF (f : RS) : Nat → Nat
  | 0 => 0
  | p + 1 => sumF f p + (lst f p).length
theorem dnF_len (f : RS) : ∀ n, (dnF f n).length = sumF f n
  | 0 => rfl
  | n + 1 => by simp only [dnF, sumF, List.length_append, dnF_len f n, tag, List.length_map]; omega
theorem dn_all (f : RS) : ∀ (n : Nat) (rs : List Rr), Fall rs → (∀ (i : Nat) (r : Rr), rs[i]? = some r → r.p < n ∧ lst f r.p = r.l) → (∀ p, p < n → (∀ (i : Nat) (r : Rr), rs[i]? = some r → r.p ≠ p) → lst f p = []) → dnF f n = allR rs
  | 0, [], _, _, _ => rfl
  | 0, r :: t, _, h, _ => by have := (h 0 r rfl).1; omega
  | n + 1, [], hF, h, k => by
    have := k n (by omega) (fun i r hi => by simp at hi)
    simp only [dnF, this, tag, List.map_nil, List.nil_append]
    exact dn_all f n [] hF (fun i r hi => by simp at hi) (fun p hp _ => k p (by omega) (fun i r hi => by simp at hi))
  | n + 1, r :: t, hF, h, k => by
    have hFt : Fall t := fun i j a b hij ha hb => hF (i + 1) (j + 1) a b (by omega) (by simpa using ha) (by simpa using hb)
    have hr := h 0 r rfl
    have hlt : ∀ (i : Nat) (b : Rr), t[i]? = some b → b.p < r.p := fun i b hb => hF 0 (i + 1) r b (by omega) rfl (by simpa using hb)
    by_cases e : r.p = n
    · have := dn_all f n t hFt (fun i b hb => ⟨by have := hlt i b hb; omega, (h (i + 1) b (by simpa using hb)).2⟩) (fun p hp hno => k p (by omega) (fun i b hb => by
        cases i with
        | zero => simp at hb; subst hb; omega
        | succ i => exact hno i b (by simpa using hb)))
      simp only [dnF, allR, this]
      rw [← e, hr.2]
    · have h0 : lst f n = [] := k n (by omega) (fun i b hb => by
        cases i with
        | zero => simp at hb; subst hb; exact e
        | succ i => have := hlt i b (by simpa using hb); omega)
      have := dn_all f n (r :: t) hF (fun i b hb => ⟨by
        cases i with
        | zero => simp at hb; subst hb; omega
        | succ i => have := hlt i b (by simpa using hb); omega, (h i b hb).2⟩) (fun p hp hno => k p (by omega) hno)
      simp only [dnF, h0, tag, List.map_nil, List.nil_append]
      exact this
theorem Mt.lstE {f : RS} {rs : List Rr} (h : Mt f rs) {i : Nat} {r : Rr} (hi : rs[i]? = some r) : lst f r.p = r.l := by
  obtain ⟨x, hx, _, _, e⟩ := h.1 i r hi
  unfold lst
  rw [hx]
  exact e
theorem Mt.lstN {f : RS} {rs : List Rr} (h : Mt f rs) {p : Nat} (hp : ∀ (i : Nat) (r : Rr), rs[i]? = some r → r.p ≠ p) : lst f p = [] := by
  unfold lst
  cases hx : f p with
  | none => rfl
  | some x =>
    obtain ⟨i, r, hi, e⟩ := h.2 p x hx
    exact absurd e (hp i r hi)
theorem Mt.none {f : RS} {rs : List Rr} (h : Mt f rs) {p : Nat} (hp : ∀ (i : Nat) (r : Rr), rs[i]? = some r → r.p ≠ p) : f p = Option.none := by
  cases hx : f p with
  | none => rfl
  | some x =>
    obtain ⟨i, r, hi, e⟩ := h.2 p x hx
    exact absurd e (hp i r hi)
theorem Mt.all {f : RS} {rs : List Rr} (h : Mt f rs) (hF : Fall rs) (h64 : ∀ (i : Nat) (r : Rr), rs[i]? = some r → r.p < 64) : dnF f 64 = allR rs :=
  dn_all f 64 rs hF (fun i r hi => ⟨h64 i r hi, h.lstE hi⟩) (fun p _ hno => h.lstN hno)
/-- The bits. -/
def bitsR : Nat → List Rr → Nat
  | b, [] => b
  | b, r :: t => bitsR (if r.l = [] then b else b ||| 2 ^ r.p) t
theorem bitsR_bit : ∀ (rs : List Rr) (b q : Nat), (bitsR b rs).testBit q = true ↔ b.testBit q = true ∨ ∃ (i : Nat) (r : Rr), rs[i]? = some r ∧ r.p = q ∧ r.l ≠ []
  | [], b, q => by simp [bitsR]
  | r :: t, b, q => by
    rw [bitsR, bitsR_bit t]
    constructor
    · rintro (h | ⟨i, r', h1, h2⟩)
      · split at h
        · exact .inl h
        · rename_i hne
          rw [Nat.testBit_or, Nat.testBit_two_pow] at h
          simp only [Bool.or_eq_true, decide_eq_true_eq] at h
          rcases h with h | h
          · exact .inl h
          · exact .inr ⟨0, r, rfl, h, hne⟩
      · exact .inr ⟨i + 1, r', by simpa using h1, h2⟩
    · rintro (h | ⟨i, r', h1, h2, h3⟩)
      · left
        split
        · exact h
        · rw [Nat.testBit_or, h]; rfl
      · cases i with
        | zero =>
          simp at h1
          subst h1
          left
          rw [if_neg h3, Nat.testBit_or, Nat.testBit_two_pow]
          simp [h2]
        | succ i => exact .inr ⟨i, r', by simpa using h1, h2, h3⟩
theorem bitsR_lt : ∀ (rs : List Rr) (b : Nat), b < 18446744073709551616 → (∀ (i : Nat) (r : Rr), rs[i]? = some r → r.p < 64) → bitsR b rs < 18446744073709551616
  | [], b, h, _ => h
  | r :: t, b, h, k => by
    rw [bitsR]
    refine bitsR_lt t _ ?_ (fun i r' hi => k (i + 1) r' (by simpa using hi))
    split
    · exact h
    · exact Nat.or_lt_two_pow (n := 64) h (Nat.pow_lt_pow_right (by decide) (k 0 r rfl))
theorem Mt.bits {f : RS} {rs : List Rr} (h : Mt f rs) (h64 : ∀ (i : Nat) (r : Rr), rs[i]? = some r → r.p < 64) : Bt (bitsR 0 rs) f := by
  refine ⟨bitsR_lt rs 0 (by decide) h64, fun p => ?_⟩
  rw [bitsR_bit]
  constructor
  · rintro (e | ⟨i, r, hi, rfl, hl⟩)
    · simp at e
    · obtain ⟨x, hx, _, _, e⟩ := h.1 i r hi
      exact ⟨x, hx, by rw [e]; exact hl⟩
  · rintro ⟨x, hx, hl⟩
    obtain ⟨i, r, hi, hp, _, _, e⟩ := h.get hx
    exact .inr ⟨i, r, hi, hp, by rw [← e]; exact hl⟩
def clearR (rs : List Rr) : List Rr := rs.map fun r => ⟨r.p, r.c, r.h, []⟩
theorem clearR_get {rs : List Rr} {i : Nat} {r : Rr} (h : (clearR rs)[i]? = some r) : ∃ r0 : Rr, rs[i]? = some r0 ∧ r = ⟨r0.p, r0.c, r0.h, []⟩ := by
  unfold clearR at h
  rw [List.getElem?_map] at h
  obtain ⟨r0, h1, h2⟩ := Option.map_eq_some_iff.1 h
  exact ⟨r0, h1, h2.symm⟩
theorem Fall.clear {rs : List Rr} (h : Fall rs) : Fall (clearR rs) := fun i j a b hij ha hb => by
  obtain ⟨a0, h1, rfl⟩ := clearR_get ha
  obtain ⟨b0, h2, rfl⟩ := clearR_get hb
  exact h i j a0 b0 hij h1 h2
def clearF (f : RS) : RS := fun p => (f p).map fun x => ⟨x.B, x.g, x.c, x.h, []⟩
theorem Mt.clear {f : RS} {rs : List Rr} (h : Mt f rs) : Mt (clearF f) (clearR rs) := by
  refine ⟨fun i r hi => ?_, fun p x hx => ?_⟩
  · obtain ⟨r0, h1, rfl⟩ := clearR_get hi
    obtain ⟨x, hx, e1, e2, _⟩ := h.1 i r0 h1
    exact ⟨⟨x.B, x.g, x.c, x.h, []⟩, by simp [clearF, hx], e1, e2, rfl⟩
  · unfold clearF at hx
    obtain ⟨y, hy, _⟩ := Option.map_eq_some_iff.1 hx
    obtain ⟨i, r, hi, e⟩ := h.2 p y hy
    exact ⟨i, ⟨r.p, r.c, r.h, []⟩, by simp [clearR, hi], e⟩
end Go.Proofs.Yticgikbnlpgnkaa
