import Derived.Test.YticgikbnlpgnkaaYca
import Derived.Maps.AppendAt
namespace Go.Proofs.Yticgikbnlpgnkaa
open Go.RowKit
set_option linter.unusedVariables false
set_option linter.unusedSimpArgs false

/-! ### ReadyFirst: on lists -/
def sel (l : List (Int × Int)) (p : Nat) : List Int := (l.filter fun x => decide (x.1 = (p : Int))).map (·.2)
def PF (rs : List Rr) (l : List (Int × Int)) : Prop := ∀ (i : Nat) (r : Rr), rs[i]? = some r → r.l = sel l r.p
def Cov (rs : List Rr) (l : List (Int × Int)) : Prop := ∀ (k : Nat) (a b : Int), l[k]? = some (a, b) → ∃ (i : Nat) (r : Rr), rs[i]? = some r ∧ (r.p : Int) = a
def PT (rs : List Rr) (l : List (Int × Int)) (p : Int) (k : Nat) : Prop := ∀ (i : Nat) (r : Rr), rs[i]? = some r → (p < r.p → r.l = []) ∧ ((r.p : Int) = p → r.l = sel (l.drop k) r.p) ∧ ((r.p : Int) < p → r.l = sel l r.p)
theorem sel_app (l : List (Int × Int)) (a v : Int) (p : Nat) : sel (l ++ [(a, v)]) p = if a = (p : Int) then sel l p ++ [v] else sel l p := by
  unfold sel
  rw [List.filter_append, List.map_append]
  by_cases e : a = (p : Int)
  · simp [e]
  · simp [e]
theorem sel_drop_yes {l : List (Int × Int)} {k : Nat} {v : Int} {p : Nat} (h : l[k]? = some ((p : Int), v)) : sel (l.drop k) p = v :: sel (l.drop (k + 1)) p := by
  obtain ⟨hk, e⟩ := List.getElem?_eq_some_iff.1 h
  rw [List.drop_eq_getElem_cons hk, e]
  simp [sel]
theorem sel_drop_no {l : List (Int × Int)} {k : Nat} {a v : Int} {p : Nat} (h : l[k]? = some (a, v)) (hn : a ≠ (p : Int)) : sel (l.drop k) p = sel (l.drop (k + 1)) p := by
  obtain ⟨hk, e⟩ := List.getElem?_eq_some_iff.1 h
  rw [List.drop_eq_getElem_cons hk, e]
  simp [sel, hn]
theorem sel_nil (p : Nat) : sel [] p = [] := rfl
theorem PF.new (l : List (Int × Int)) : PF (newR l) [] := fun i r hi => by
  obtain ⟨p, c, h1, rfl⟩ := newR_get hi
  rfl
theorem Cov.nil (rs : List Rr) : Cov rs [] := fun k a b h => by simp at h
theorem Cov.set {rs : List Rr} {l : List (Int × Int)} (h : Cov rs l) {i : Nat} {r r' : Rr} (hi : rs[i]? = some r) (e : r'.p = r.p) : Cov (rs.set i r') l := fun k a b hk => by
  obtain ⟨j, b, hj, hp⟩ := h k a b hk
  by_cases he : i = j
  · subst he
    rw [hi] at hj
    cases hj
    exact ⟨i, r', List.getElem?_set_self (List.getElem?_eq_some_iff.1 hi).1, by rw [e]; exact hp⟩
  · exact ⟨j, b, by rw [List.getElem?_set_ne he]; exact hj, hp⟩
theorem Cov.app {rs : List Rr} {l : List (Int × Int)} (h : Cov rs l) {i : Nat} {r : Rr} (hi : rs[i]? = some r) (v : Int) : Cov rs (l ++ [((r.p : Int), v)]) := fun k a b hk => by
  by_cases hl : k < l.length
  · rw [List.getElem?_append_left hl] at hk
    exact h k a b hk
  · rw [List.getElem?_append_right (by omega)] at hk
    have h2 := (List.getElem?_eq_some_iff.1 hk).1
    simp at h2
    have : k - l.length = 0 := by omega
    rw [this] at hk
    simp at hk
    exact ⟨i, r, hi, hk.1⟩
theorem PF.app {rs : List Rr} {l : List (Int × Int)} (h : PF rs l) (hF : Fall rs) {i : Nat} {r : Rr} (hi : rs[i]? = some r) (v : Int) (m : Nat) : PF (rs.set i ⟨r.p, r.c, m, r.l ++ [v]⟩) (l ++ [((r.p : Int), v)]) := fun j b hb => by
  rw [sel_app]
  rcases set_get j hb with ⟨rfl, rfl, _⟩ | ⟨h1, h2⟩
  · rw [if_pos rfl, h _ r hi]
  · rw [if_neg, h j b h2]
    intro e
    exact h1 (hF.inj h2 hi (by omega))
theorem PT.first {rs : List Rr} {l : List (Int × Int)} (h : PF rs l) (h64 : ∀ (i : Nat) (r : Rr), rs[i]? = some r → r.p < 64) : PT rs l 63 0 := fun i r hi => by
  have := h64 i r hi
  exact ⟨fun e => by omega, fun _ => h i r hi, fun _ => h i r hi⟩
theorem PT.next {rs : List Rr} {l : List (Int × Int)} {p : Int} (h : PT rs l p l.length) : PT rs l (p - 1) 0 := fun i r hi => by
  obtain ⟨h1, h2, h3⟩ := h i r hi
  rw [List.drop_length] at h2
  refine ⟨fun e => ?_, fun e => h3 (by omega), fun e => h3 (by omega)⟩
  by_cases e2 : (r.p : Int) = p
  · exact h2 e2
  · exact h1 (by omega)
theorem PT.skip {rs : List Rr} {l : List (Int × Int)} {p : Int} {k : Nat} (h : PT rs l p k) {a v : Int} (hk : l[k]? = some (a, v)) (hn : a ≠ p) : PT rs l p (k + 1) := fun i r hi => by
  obtain ⟨h1, h2, h3⟩ := h i r hi
  exact ⟨h1, fun e => by rw [h2 e]; exact sel_drop_no hk (by rw [e]; exact hn), h3⟩
theorem PT.take {rs : List Rr} {l : List (Int × Int)} {p : Int} {k : Nat} (h : PT rs l p k) (hF : Fall rs) (hC : Cov rs l) {v : Int} (hk : l[k]? = some (p, v)) : ∃ (i : Nat) (r : Rr) (t : List Int), rs[i]? = some r ∧ (r.p : Int) = p ∧ r.l = v :: t ∧ (∀ (j : Nat) (b : Rr), j < i → rs[j]? = some b → b.l = []) ∧ PT (rs.set i ⟨r.p, r.c, r.h, t⟩) l p (k + 1) := by
  obtain ⟨i, r, hi, hp⟩ := hC k p v hk
  have hl := (h i r hi).2.1 hp
  rw [sel_drop_yes (p := r.p) (by rw [hp]; exact hk)] at hl
  refine ⟨i, r, _, hi, hp, hl, fun j b hj hb => (h j b hb).1 ?_, fun j b hb => ?_⟩
  · have := hF j i b r hj hb hi
    omega
  · rcases set_get j hb with ⟨rfl, rfl, _⟩ | ⟨h1, h2⟩
    · exact ⟨fun e => absurd e (by simp only; omega), fun _ => rfl, fun e => absurd e (by simp only; omega)⟩
    · obtain ⟨k1, k2, k3⟩ := h j b h2
      refine ⟨k1, fun e => absurd (hF.inj h2 hi (by omega)) h1, k3⟩
theorem PT.last {rs : List Rr} {l : List (Int × Int)} (h : PT rs l (-1) 0) : ∀ (i : Nat) (r : Rr), rs[i]? = some r → r.l = [] := fun i r hi => (h i r hi).1 (by omega)
theorem bitsR_nil : ∀ (rs : List Rr), (∀ (i : Nat) (r : Rr), rs[i]? = some r → r.l = []) → bitsR 0 rs = 0
  | [], _ => rfl
  | r :: t, h => by
    rw [bitsR, if_pos (h 0 r rfl)]
    exact bitsR_nil t (fun i b hb => h (i + 1) b (by simpa using hb))
/-- Taken and put back. -/
theorem set_back {rs : List Rr} {i : Nat} {r : Rr} {v : Int} {t : List Int} (hi : rs[i]? = some r) (hl : r.l = v :: t) (hh : r.l.length ≤ r.h) : (rs.set i ⟨r.p, r.c, r.h, t⟩).set i ⟨r.p, r.c, max r.h (t.length + 1), v :: t⟩ = rs := by
  rw [List.set_set]
  have e : (⟨r.p, r.c, max r.h (t.length + 1), v :: t⟩ : Rr) = r := by
    have : max r.h (t.length + 1) = r.h := by rw [hl] at hh; simp at hh; omega
    rw [this, ← hl]
  rw [e]
  obtain ⟨h1, h2⟩ := List.getElem?_eq_some_iff.1 hi
  rw [← h2, List.set_getElem_self]
structure FI (w wr : World) (Q : Nat) (X : Nat → Prop) (rs : List Rr) (l : List (Int × Int)) (v : Value) : Prop where
  q : QR wr Q X rs
  x : ∀ b, X b → w.heap.size ≤ b ∧ b < wr.heap.size
  b : Below w.heap.size w wr
  o : wr.ownsRow w.heap.size 35 2 v l.length (pairsC l)
  a : ∀ g, v.ownBlock = some g → ¬ X g
  c : Cov rs l
section
variable {w wr : World} {Q : Nat} {X : Nat → Prop} {rs : List Rr} {l : List (Int × Int)} {v : Value}
theorem FI.step (h : FI w wr Q X rs l v) {w' : World} {rs' : List Rr} (hq : QR w' Q X rs') (hf : Fz X wr w') (hc : Cov rs' l) : FI w w' Q X rs' l v :=
  ⟨hq, fun b e => ⟨(h.x b e).1, Nat.lt_of_lt_of_le (h.x b e).2 hf.size⟩, h.b.trans (hf.below h.b.size (fun b e => (h.x b e).1)), hf.own h.o h.a, h.a, hc⟩
theorem FI.below (h : FI w wr Q X rs l v) {w' : World} (hb : Below wr.heap.size wr w') : FI w w' Q X rs l v := h.step (h.q.below hb) (Fz.of_below hb) h.c
theorem FI.cells {a : Option Addr} {n c : Nat} (h : FI w wr Q X rs l (.slice a n c)) {k : Nat} {p x : Int} (hk : l[k]? = some (p, x)) : ∃ g, a = some ⟨g, 0, none⟩ ∧ wr.cell? ⟨g, k * 2, none⟩ = some (I p) ∧ wr.cell? ⟨g, k * 2 + 1, none⟩ = some (I x) ∧ ¬ X g := by
  have hlt := (List.getElem?_eq_some_iff.1 hk).1
  obtain ⟨g, d, cur, e, _, k1, r1⟩ := own_pairs h.o (by omega)
  cases e
  refine ⟨g, rfl, ?_, ?_, h.a g rfl⟩
  · rw [cell_of_row wr g _ _ _ (0, 0) k1]; exact (r1 k p x hk).1
  · rw [cell_of_row wr g _ _ _ (0, 0) k1]; exact (r1 k p x hk).2
theorem FI.app (h : FI w wr Q X rs l v) {O : Obj} {p x : Int} {w' : World} {v' : Value} (hC : Cov rs (l ++ [(p, x)])) (ho : w'.ownsRow w.heap.size 35 2 v' (l.length + 1) (pairsC l ++ [I p, I x])) (hg : (wr.alloc O).grownBy w' v.ownBlock) (ha : v'.ownBlock = v.ownBlock ∨ v'.ownBlock = some (wr.alloc O).heap.size) : FI w w' Q X rs (l ++ [(p, x)]) v' := by
  have hf : Fz (fun b => v.ownBlock = some b) wr w' := grown_fz hg
  have hvb : ∀ g, v.ownBlock = some g → w.heap.size ≤ g := fun g e => (h.o.lt g e).1
  refine ⟨h.q.kept hf (fun b hb e => h.a b e hb), fun b e => ⟨(h.x b e).1, Nat.lt_of_lt_of_le (h.x b e).2 hf.size⟩, h.b.trans (hf.below h.b.size hvb), ?_, fun g e hx => ?_, hC⟩
  · rw [pairsC_app, List.length_append]
    exact ho
  · rcases ha with ha | ha
    · rw [ha] at e; exact h.a g e hx
    · rw [ha] at e; cases e; have := (h.x _ hx).2; simp at this; omega
theorem fTail (h : FI w wr Q X rs l v) (hp : PF rs l) (p x : Int) : (∃ c : Int, c ≠ 0 ∧ Calls Try.prog 10 #[qP Q, I p, I x] wr fun e w' => e = .returned (I c) ∧ FI w w' Q X rs l v) ∨ (∃ rs', PF rs' (l ++ [(p, x)]) ∧ Cov rs' (l ++ [(p, x)]) ∧ Calls Try.prog 10 #[qP Q, I p, I x] wr fun e w' => e = .returned (I 0) ∧ FI w w' Q X rs' l v) := by
  cases e : atR rs p with
  | none =>
    refine .inl ⟨130, by decide, (rTail_no h.q (atR_none e) x).mono ?_⟩
    rintro e w' ⟨rfl, rfl⟩
    exact ⟨rfl, h⟩
  | some r =>
    obtain ⟨i, hi, rfl⟩ := atR_some e
    have hk := h.q.p64 i r hi
    by_cases hl : r.l.length < r.c
    · refine .inr ⟨_, hp.app h.q.fall hi x (max r.h (r.l.length + 1)), (h.c.set (r' := ⟨r.p, r.c, max r.h (r.l.length + 1), r.l ++ [x]⟩) hi rfl).app (i := i) (r := ⟨r.p, r.c, max r.h (r.l.length + 1), r.l ++ [x]⟩) (List.getElem?_set_self (List.getElem?_eq_some_iff.1 hi).1) x, (rTail_ok h.q hi hl x).mono ?_⟩
      rintro e w' ⟨rfl, q1, f1⟩
      exact ⟨rfl, h.step q1 f1 (h.c.set hi rfl)⟩
    · refine .inl ⟨131, by decide, (rTail_full h.q hi (by omega) x).mono ?_⟩
      rintro e w' ⟨rfl, q1, f1⟩
      exact ⟨rfl, h.step q1 f1 h.c⟩
theorem fBack (h : QR wr Q X rs) {i : Nat} {r : Rr} {x : Int} {t : List Int} (hi : rs[i]? = some r) (hl : r.l = x :: t) {W : World} (hq : QR W Q X (rs.set i ⟨r.p, r.c, r.h, t⟩)) : Calls Try.prog 13 #[qP Q, I r.p, I x] W fun e w' => e = .returned (I 0) ∧ QR w' Q X rs ∧ Fz X W w' := by
  have hk := h.p64 i r hi
  have hlt : t.length < r.c := by rw [hl] at hk; simp at hk; omega
  have := rHead_ok hq (i := i) (r := ⟨r.p, r.c, r.h, t⟩) (List.getElem?_set_self (List.getElem?_eq_some_iff.1 hi).1) hlt x
  rw [set_back hi hl hk.2.2.2.1] at this
  exact this
end
end Go.Proofs.Yticgikbnlpgnkaa
