import Derived.Test.YticgikbnlpgnkaaYlm
namespace Go.Proofs.Yticgikbnlpgnkaa
open Go.RowKit
set_option linter.unusedVariables false
set_option linter.unusedSimpArgs false

/-! ### One call of both queues -/
/-- Between the program's call and the document's. -/
structure Md (w : World) (Q D : Nat) (X Y : Nat → Prop) (rs rs' : List Rr) : Prop where
  q : QR w Q X rs'
  d : DQ w D X Y rs
  x : ∀ b, X b → b < w.heap.size
  n : rs.length ≤ 64
  f : Fall rs
  k : ∀ (i : Nat) (r : Rr), rs[i]? = some r → r.c ≤ 65536 ∧ r.h ≤ 65536 ∧ r.l.length ≤ 65536
  a : (allR rs).length ≤ 4194304
section
variable {w : World} {Q D : Nat} {X Y : Nat → Prop} {rs rs' : List Rr}
theorem Cp.md (h : Cp w Q D X Y rs) {w' : World} (hq : QR w' Q X rs') (hf : Fz X w w') : Md w' Q D X Y rs rs' :=
  ⟨hq, h.d.prog hf, fun b e => Nat.lt_of_lt_of_le (h.x b e) hf.size, h.n, h.q.fall, fun i r hi => by have := h.q.p64 i r hi; omega, h.q.allLen⟩
theorem Md.below (h : Md w Q D X Y rs rs') {w' : World} (hb : Below w.heap.size w w') : Md w' Q D X Y rs rs' :=
  ⟨h.q.below hb, h.d.below hb, fun b e => Nat.lt_of_lt_of_le (h.x b e) hb.size, h.n, h.f, h.k, h.a⟩
theorem Md.cp (h : Md w Q D X Y rs rs') {w' : World} (hd : DQ w' D X Y rs') (hf : Fz Y w w') (hn : rs'.length ≤ 64) : Cp w' Q D X Y rs' :=
  ⟨h.q.kept hf (fun b hx hy => (h.d.yx b hy).2 hx), hd, fun b e => Nat.lt_of_lt_of_le (h.x b e) hf.size, hn⟩
theorem bothTail (h : Cp w Q D X Y rs) (p v : Int) : ∃ c rs', (∀ W, Below w.heap.size w W → Calls Try.prog 10 #[qP Q, I p, I v] W fun e w' => e = .returned (I c) ∧ Md w' Q D X Y rs rs' ∧ Fz X W w') ∧ (∀ W, Md W Q D X Y rs rs' → Calls Try.prog 17 #[dQ D, I p, I v] W fun e w' => e = .returned (I c) ∧ Cp w' Q D X Y rs' ∧ Fz Y W w') := by
  cases e : atR rs p with
  | none =>
    have hp := atR_none e
    refine ⟨130, rs, fun W hb => (rTail_no (h.q.below hb) hp v).mono ?_, fun W hm => (dTail_no hm.d hp hm.n v).mono ?_⟩
    · rintro e w' ⟨rfl, rfl⟩
      exact ⟨rfl, (h.below hb).md (h.q.below hb) (Fz.refl _ _), Fz.refl _ _⟩
    · rintro e w' ⟨rfl, rfl⟩
      exact ⟨rfl, hm.cp hm.d (Fz.refl _ _) hm.n, Fz.refl _ _⟩
  | some r =>
    obtain ⟨i, hi, rfl⟩ := atR_some e
    have hk := h.q.p64 i r hi
    by_cases hl : r.l.length < r.c
    · refine ⟨0, rs.set i ⟨r.p, r.c, max r.h (r.l.length + 1), r.l ++ [v]⟩, fun W hb => (rTail_ok (h.q.below hb) hi hl v).mono ?_, fun W hm => (dTail_ok hm.d hi hm.f hm.n hm.x hl hk.2.2.1 (by omega) v).mono ?_⟩
      · rintro e w' ⟨rfl, q1, f1⟩
        exact ⟨rfl, (h.below hb).md q1 f1, f1⟩
      · rintro e w' ⟨rfl, d1, f1⟩
        exact ⟨rfl, hm.cp d1 f1 (by rw [List.length_set]; exact hm.n), f1⟩
    · have hl2 : r.l.length = r.c := by omega
      refine ⟨131, rs, fun W hb => (rTail_full (h.q.below hb) hi hl2 v).mono ?_, fun W hm => (dTail_full hm.d hi hm.f hm.n hl2 v).mono ?_⟩
      · rintro e w' ⟨rfl, q1, f1⟩
        exact ⟨rfl, (h.below hb).md q1 f1, f1⟩
      · rintro e w' ⟨rfl, b1⟩
        exact ⟨rfl, (hm.below b1).cp (hm.below b1).d (Fz.refl _ _) hm.n, Fz.of_below b1⟩
theorem bothHead (h : Cp w Q D X Y rs) (p v : Int) : ∃ c rs', (∀ W, Below w.heap.size w W → Calls Try.prog 13 #[qP Q, I p, I v] W fun e w' => e = .returned (I c) ∧ Md w' Q D X Y rs rs' ∧ Fz X W w') ∧ (∀ W, Md W Q D X Y rs rs' → Calls Try.prog 23 #[dQ D, I p, I v] W fun e w' => e = .returned (I c) ∧ Cp w' Q D X Y rs' ∧ Fz Y W w') := by
  cases e : atR rs p with
  | none =>
    have hp := atR_none e
    refine ⟨130, rs, fun W hb => (rHead_no (h.q.below hb) hp v).mono ?_, fun W hm => (dHead_no hm.d hp hm.n v).mono ?_⟩
    · rintro e w' ⟨rfl, rfl⟩
      exact ⟨rfl, (h.below hb).md (h.q.below hb) (Fz.refl _ _), Fz.refl _ _⟩
    · rintro e w' ⟨rfl, rfl⟩
      exact ⟨rfl, hm.cp hm.d (Fz.refl _ _) hm.n, Fz.refl _ _⟩
  | some r =>
    obtain ⟨i, hi, rfl⟩ := atR_some e
    have hk := h.q.p64 i r hi
    by_cases hl : r.l.length < r.c
    · refine ⟨0, rs.set i ⟨r.p, r.c, max r.h (r.l.length + 1), v :: r.l⟩, fun W hb => (rHead_ok (h.q.below hb) hi hl v).mono ?_, fun W hm => (dHead_ok hm.d hi hm.f hm.n hm.x hl hk.2.2.1 (by omega) v).mono ?_⟩
      · rintro e w' ⟨rfl, q1, f1⟩
        exact ⟨rfl, (h.below hb).md q1 f1, f1⟩
      · rintro e w' ⟨rfl, d1, f1⟩
        exact ⟨rfl, hm.cp d1 f1 (by rw [List.length_set]; exact hm.n), f1⟩
    · have hl2 : r.l.length = r.c := by omega
      refine ⟨131, rs, fun W hb => (rHead_full (h.q.below hb) hi hl2 v).mono ?_, fun W hm => (dHead_full hm.d hi hm.f hm.n hl2 v).mono ?_⟩
      · rintro e w' ⟨rfl, q1, f1⟩
        exact ⟨rfl, (h.below hb).md q1 f1, f1⟩
      · rintro e w' ⟨rfl, b1⟩
        exact ⟨rfl, (hm.below b1).cp (hm.below b1).d (Fz.refl _ _) hm.n, Fz.of_below b1⟩
/-- What is left behind a Take. -/
theorem allR_cons : ∀ (rs : List Rr) (i : Nat) (r : Rr) (v : Int) (t : List Int), rs[i]? = some r → r.l = v :: t → (∀ (j : Nat) (b : Rr), j < i → rs[j]? = some b → b.l = []) → allR rs = ((r.p : Int), v) :: allR (rs.set i ⟨r.p, r.c, r.h, t⟩)
  | [], i, r, v, t, hi, _, _ => by simp at hi
  | a :: s, 0, r, v, t, hi, hl, _ => by
    simp at hi
    subst hi
    simp [allR, hl, tag]
  | a :: s, i + 1, r, v, t, hi, hl, hj => by
    have ha : a.l = [] := hj 0 a (by omega) rfl
    have := allR_cons s i r v t (by simpa using hi) hl (fun j b hb hs => hj (j + 1) b (by omega) (by simpa using hs))
    simp [allR, ha, tag, this]
theorem allR_nil {rs : List Rr} (h : ∀ (i : Nat) (r : Rr), rs[i]? = some r → r.l = []) : allR rs = [] := by
  induction rs with
  | nil => rfl
  | cons a s ih =>
    have ha : a.l = [] := h 0 a rfl
    simp [allR, ha, tag, ih (fun i r hi => h (i + 1) r (by simpa using hi))]
theorem bothTake (h : Cp w Q D X Y rs) : ∃ (a b c : Int) (rs' : List Rr), (∀ W, Below w.heap.size w W → Calls Try.prog 12 #[qP Q] W fun e w' => e = .returned (.tuple #[qV a b, I c]) ∧ Md w' Q D X Y rs rs' ∧ Fz X W w') ∧ (∀ W, Md W Q D X Y rs rs' → Calls Try.prog 20 #[dQ D] W fun e w' => e = .returned (.tuple #[qV a b, I c]) ∧ Cp w' Q D X Y rs' ∧ Fz Y W w') ∧ ((c = 132 ∧ allR rs = [] ∧ rs' = rs) ∨ (c = 0 ∧ allR rs = (a, b) :: allR rs')) := by
  rcases first_row rs with h0 | ⟨i, r, hi, hl, hj⟩
  · refine ⟨0, 0, 132, rs, fun W hb => (rTake_no (h.q.below hb) h0).mono ?_, fun W hm => (eTake_no hm.d h0 hm.n).mono ?_, .inl ⟨rfl, allR_nil h0, rfl⟩⟩
    · rintro e w' ⟨rfl, q1, f1⟩
      exact ⟨rfl, (h.below hb).md q1 f1, f1⟩
    · rintro e w' ⟨rfl, b1⟩
      exact ⟨rfl, (hm.below b1).cp (hm.below b1).d (Fz.refl _ _) hm.n, Fz.of_below b1⟩
  · obtain ⟨v, t, ht⟩ := List.exists_cons_of_ne_nil hl
    refine ⟨r.p, v, 0, rs.set i ⟨r.p, r.c, r.h, t⟩, fun W hb => (rTake_ok (h.q.below hb) hi ht hj).mono ?_, fun W hm => (eTake_ok hm.d hi ht hj hm.f hm.n).mono ?_, .inr ⟨rfl, allR_cons rs i r v t hi ht hj⟩⟩
    · rintro e w' ⟨rfl, q1, f1⟩
      exact ⟨rfl, (h.below hb).md q1 f1, f1⟩
    · rintro e w' ⟨rfl, d1, f1⟩
      exact ⟨rfl, hm.cp d1 f1 (by rw [List.length_set]; exact hm.n), f1⟩
theorem bothClear (h : Cp w Q D X Y rs) : (∀ W, Below w.heap.size w W → Calls Try.prog 24 #[qP Q] W fun e w' => e = .returned (I (allR rs).length) ∧ Md w' Q D X Y rs (clearR rs) ∧ Fz X W w') ∧ (∀ W, Md W Q D X Y rs (clearR rs) → Calls Try.prog 25 #[dQ D] W fun e w' => e = .returned (I (allR rs).length) ∧ Cp w' Q D X Y (clearR rs) ∧ Fz Y W w') := by
  refine ⟨fun W hb => (rClear (h.q.below hb)).mono ?_, fun W hm => (eClear hm.d hm.n hm.a (fun i r hi => (hm.k i r hi).2.2)).mono ?_⟩
  · rintro e w' ⟨rfl, q1, f1⟩
    exact ⟨rfl, (h.below hb).md q1 f1, f1⟩
  · rintro e w' ⟨rfl, d1, f1⟩
    exact ⟨rfl, hm.cp d1 f1 (by simpa [clearR] using hm.n), f1⟩
theorem DQ.less {N N' : Nat → Prop} (h : DQ w D N Y rs) (hs : ∀ b, N' b → N b) : DQ w D N' Y rs := by
  obtain ⟨vr, vl, vh, ls, h⟩ := h
  exact ⟨vr, vl, vh, ls, h.o, h.r, h.l, h.h, h.n, fun i x s hx hs2 => ⟨(h.s i x s hx hs2).1, fun g off e => by
    obtain ⟨k1, k2⟩ := (h.s i x s hx hs2).2 g off e
    exact ⟨fun hn => k1 (hs g hn), k2⟩⟩, h.y, fun g e => ⟨(h.yn g e).1, fun hn => (h.yn g e).2 (hs g hn)⟩, ⟨fun hn => h.f.1 (hs D hn), fun g e hn => h.f.2 g e (hs g hn)⟩⟩
/-- A put of which nothing more is asked. -/
theorem rTail_some (h : QR w Q X rs) (p v : Int) : Calls Try.prog 10 #[qP Q, I p, I v] w fun e w' => ∃ c : Int, e = .returned (I c) ∧ (∃ rs', QR w' Q X rs') ∧ Fz X w w' := by
  cases e : atR rs p with
  | none =>
    refine (rTail_no h (atR_none e) v).mono ?_
    rintro e w' ⟨rfl, rfl⟩
    exact ⟨_, rfl, ⟨rs, h⟩, Fz.refl _ _⟩
  | some r =>
    obtain ⟨i, hi, rfl⟩ := atR_some e
    have hk := h.p64 i r hi
    by_cases hl : r.l.length < r.c
    · refine (rTail_ok h hi hl v).mono ?_
      rintro e w' ⟨rfl, q1, f1⟩
      exact ⟨_, rfl, ⟨_, q1⟩, f1⟩
    · refine (rTail_full h hi (by omega) v).mono ?_
      rintro e w' ⟨rfl, q1, f1⟩
      exact ⟨_, rfl, ⟨_, q1⟩, f1⟩
/-- Both copied, the old queue of the program still at hand. -/
structure C2 (w : World) (Q Q' D' : Nat) (X X' Y' : Nat → Prop) (rs : List Rr) : Prop where
  old : ∃ rs0, QR w Q X rs0
  q : QR w Q' X' rs
  d : DQ w D' (fun b => X b ∨ X' b) Y' rs
  x : ∀ b, X b ∨ X' b → b < w.heap.size
  a : ∀ b, X b → ¬ X' b
  n : rs.length ≤ 64
theorem C2.step {Q' D' : Nat} {X' Y' : Nat → Prop} (h : C2 w Q Q' D' X X' Y' rs) {w' : World} (ho : ∃ rs0, QR w' Q X rs0) (hf : Fz X w w') : C2 w' Q Q' D' X X' Y' rs :=
  ⟨ho, h.q.kept hf (fun b hb hx => h.a b hx hb), h.d.prog (hf.mono (fun b e => .inl e)), fun b e => Nat.lt_of_lt_of_le (h.x b e) hf.size, h.a, h.n⟩
theorem C2.cp {Q' D' : Nat} {X' Y' : Nat → Prop} (h : C2 w Q Q' D' X X' Y' rs) : Cp w Q' D' X' Y' rs := ⟨h.q, h.d.less (fun b e => .inr e), fun b e => h.x b (.inr e), h.n⟩
theorem pCopy (h : Cp w Q D X Y rs) : Calls Try.prog 26 #[qP Q] w fun e w' => ∃ Q' X', e = .returned (qP Q') ∧ QR w' Q' X' rs ∧ (∀ b, X' b → w.heap.size ≤ b ∧ b < w'.heap.size) ∧ Below w.heap.size w w' := rCopy h.q
theorem dCopyC (h : Cp w Q D X Y rs) {w1 : World} {Q' : Nat} {X' : Nat → Prop} (hq : QR w1 Q' X' rs) (hx : ∀ b, X' b → w.heap.size ≤ b ∧ b < w1.heap.size) (hb : Below w.heap.size w w1) : Calls Try.prog 27 #[dQ D] w1 fun e w' => ∃ D' Y', e = .returned (dQ D') ∧ C2 w' Q Q' D' X X' Y' rs ∧ (∀ b, Y' b → w1.heap.size ≤ b) ∧ Below w1.heap.size w1 w' := by
  have h1 := h.below hb
  refine (eCopy h1.d h1.n h1.h16).mono ?_
  rintro e w' ⟨C, vr, vl, vh, ls, rfl, hd⟩
  have hlt : ∀ b, X b ∨ X' b → b < w1.heap.size := fun b e => by
    rcases e with e | e
    · exact h1.x b e
    · exact (hx b e).2
  obtain ⟨Y', d1, y1⟩ := hd.done (rs := rs) rfl rfl rfl (fun b => X b ∨ X' b) hlt
  exact ⟨C, Y', rfl, ⟨⟨rs, h1.q.below hd.b⟩, hq.below hd.b, d1, fun b e => Nat.lt_of_lt_of_le (hlt b e) hd.b.size, fun b e e2 => by have := h.x b e; have := (hx b e2).1; omega, h.n⟩, y1, hd.b⟩
end
end Go.Proofs.Yticgikbnlpgnkaa
