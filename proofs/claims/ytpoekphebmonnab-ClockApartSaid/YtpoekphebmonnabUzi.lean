import Derived.Test.YtpoekphebmonnabUzb
namespace Go.Proofs.Ytpoekphebmonnab
open Go.RowKit Go.Shelf Go.Sort
set_option linter.unusedVariables false
set_option linter.unusedSimpArgs false

/-! ### ClockApart: two clocks beside one another, each with its document's -/
theorem ctr_four (W : World) (s : ByteArray) (mx bs mn : Nat) (Z : World) (hZ : Below (W.alloc (.cells #[.string s, U mx, U bs, U mn] 24)).heap.size (W.alloc (.cells #[.string s, U mx, U bs, U mn] 24)) Z) : Z.cell? ⟨W.heap.size, 0, none⟩ = some (.string s) ∧ Z.cell? ⟨W.heap.size, 1, none⟩ = some (U mx) ∧ Z.cell? ⟨W.heap.size, 2, none⟩ = some (U bs) ∧ Z.cell? ⟨W.heap.size, 3, none⟩ = some (U mn) := by
  have hq := (hZ.block W.heap.size (by simp)).trans (heap_alloc_new W (.cells #[.string s, U mx, U bs, U mn] 24))
  refine ⟨?_, ?_, ?_, ?_⟩ <;> (rw [cell_of_row _ _ _ _ _ (0, 0) hq]; rfl)
structure Duo (W w : World) (s : ByteArray) (G bs L : Nat) (B : Nat) (v : Value) (D : Nat) (u : Value) (V : Nat) (al : List Alm) (B2 : Nat) (v2 : Value) (D2 : Nat) (u2 : Value) (V2 : Nat) (al2 : List Alm) : Prop where
  p : Pd W w B v D u s G bs L V al V al
  q : Pd W w B2 v2 D2 u2 s G bs L V2 al2 V2 al2
  o : ∀ b, Pb B v D u b → ¬ Pb B2 v2 D2 u2 b
section
variable {W w w' : World} {B D G bs L V V2 B2 D2 : Nat} {v u v2 u2 : Value} {s : ByteArray} {al al2 : List Alm}
theorem Duo.swap (h : Duo W w s G bs L B v D u V al B2 v2 D2 u2 V2 al2) : Duo W w s G bs L B2 v2 D2 u2 V2 al2 B v D u V al := ⟨h.q, h.p, fun b e f => h.o b f e⟩
theorem Duo.below (h : Duo W w s G bs L B v D u V al B2 v2 D2 u2 V2 al2) (hb : Below w.heap.size w w') : Duo W w' s G bs L B v D u V al B2 v2 D2 u2 V2 al2 := ⟨h.p.below hb, h.q.below hb, h.o⟩
theorem Duo.play (h : Duo W w s G bs L B v D u V al B2 v2 D2 u2 V2 al2) (kd tk : Int) (x y : Nat) (hx : x < 4294967296) : Calls Try.prog 7 #[cP B, cP D, .agg #[I kd, I tk, U x, U y]] w fun e w' => e = .returned (.bool true) ∧ ∃ u' V' al', Duo W w' s G bs L B v D u' V' al' B2 v2 D2 u2 V2 al2 := by
  refine (play_any h.p kd tk x y hx).mono ?_
  rintro e w' ⟨rfl, ⟨u', ⟨V', al', P⟩, hu⟩, hf⟩
  refine ⟨rfl, u', V', al', P, h.q.keep hf (fun b hb hm => h.o b hm hb) (fun b hm => hm.elim (fun e => (h.p.o b e).1) (h.p.p b)), fun b hb hb2 => ?_⟩
  rcases hb with e | e
  · exact h.o b (.inl e) hb2
  · rcases hu b e with e1 | e1
    · exact h.o b (.inr e1) hb2
    · have := h.q.lt hb2; omega
theorem Duo.play2 (h : Duo W w s G bs L B v D u V al B2 v2 D2 u2 V2 al2) (kd tk : Int) (x y : Nat) (hx : x < 4294967296) : Calls Try.prog 7 #[cP B2, cP D2, .agg #[I kd, I tk, U x, U y]] w fun e w' => e = .returned (.bool true) ∧ ∃ u' V' al', Duo W w' s G bs L B v D u V al B2 v2 D2 u' V' al' := by
  refine (h.swap.play kd tk x y hx).mono ?_
  rintro e w' ⟨rfl, u', V', al', P⟩
  exact ⟨rfl, u', V', al', P.swap⟩
theorem Duo.told (h : Duo W w s G bs L B v D u V al B2 v2 D2 u2 V2 al2) : Calls Try.prog 8 #[cP B, cP D] w fun e w' => e = .returned (.bool true) ∧ Duo W w' s G bs L B v D u V al B2 v2 D2 u2 V2 al2 := by
  refine (told_any h.p).mono ?_
  rintro e w' ⟨rfl, b⟩
  exact ⟨rfl, h.below b⟩
theorem Duo.told2 (h : Duo W w s G bs L B v D u V al B2 v2 D2 u2 V2 al2) : Calls Try.prog 8 #[cP B2, cP D2] w fun e w' => e = .returned (.bool true) ∧ Duo W w' s G bs L B v D u V al B2 v2 D2 u2 V2 al2 := by
  refine (told_any h.q).mono ?_
  rintro e w' ⟨rfl, b⟩
  exact ⟨rfl, h.below b⟩
theorem Duo.mk0 {w0 w1 w2 w3 w4 : World} {n m : Nat} (hb0 : Below W.heap.size W w0) (k1 : Ck w1 B v G L 0 (List.replicate n (0, 0))) (o1 : ∀ b, Cb B v b → w0.heap.size < b) (b1 : Below w0.heap.size w0 w1) (k2 : Ck w2 B2 v2 G L 0 (List.replicate m (0, 0))) (o2 : ∀ b, Cb B2 v2 b → w1.heap.size < b) (b2 : Below w1.heap.size w1 w2) (k3 : Dk w3 D u s G bs L 0 (List.replicate n (0, 0))) (o3 : ∀ b, Cb D u b → w2.heap.size < b) (b3 : Below w2.heap.size w2 w3) (k4 : Dk w4 D2 u2 s G bs L 0 (List.replicate m (0, 0))) (o4 : ∀ b, Cb D2 u2 b → w3.heap.size < b) (b4 : Below w3.heap.size w3 w4) : Duo W w4 s G bs L B v D u 0 (List.replicate n (0, 0)) B2 v2 D2 u2 0 (List.replicate m (0, 0)) := by
  have s0 := hb0.size
  have s1 := b1.size
  have s2 := b2.size
  have s3 := b3.size
  have hb4 : Below W.heap.size W w4 := ((((hb0.trans (b1.mono s0)).trans (b2.mono (by omega))).trans (b3.mono (by omega))).trans (b4.mono (by omega)))
  have q1 := fun b (e : Cb B v b) => k1.lt e
  have q2 := fun b (e : Cb B2 v2 b) => k2.lt e
  have q3 := fun b (e : Cb D u b) => k3.lt e
  have q4 := fun b (e : Cb D2 u2 b) => k4.lt e
  refine ⟨⟨((k1.below b2).below b3).below b4, k3.below b4, hb4, fun b e => ⟨by have := o1 b e; omega, fun f => by have := o3 b f; have := q1 b e; omega⟩, fun b e => by have := o3 b e; omega⟩, ⟨(k2.below b3).below b4, k4, hb4, fun b e => ⟨by have := o2 b e; omega, fun f => by have := o4 b f; have := q2 b e; omega⟩, fun b e => by have := o4 b e; omega⟩, ?_⟩
  rintro b (e | e) (f | f)
  · have := o2 b f; have := q1 b e; omega
  · have := o4 b f; have := q1 b e; omega
  · have := o3 b e; have := q2 b f; omega
  · have := o4 b f; have := q3 b e; omega
structure Trp (W w : World) (B : Nat) (v : Value) (D : Nat) (u : Value) (s : ByteArray) (G bs L V : Nat) (al : List Alm) (B2 : Nat) (v2 : Value) : Prop where
  p : Pd W w B v D u s G bs L V al V al
  c : Ck w B2 v2 G L V al
  o : ∀ b, Cb B2 v2 b → W.heap.size ≤ b ∧ ¬ Pb B v D u b
theorem Pd.copy (h : Pd W w B v D u s G bs L V al V al) : Calls Try.prog 9 #[cP B] w fun e w' => ∃ B2 v2, e = .returned (cP B2) ∧ Trp W w' B v D u s G bs L V al B2 v2 := by
  refine (Copy_any h.c).mono ?_
  rintro e w' ⟨B2, v2, rfl, k, o, b⟩
  have hW := h.b.size
  exact ⟨B2, v2, rfl, h.below b, k, fun x hx => ⟨by have := o x hx; omega, fun e => by have := o x hx; have := h.lt e; omega⟩⟩
theorem Trp.copy (h : Trp W w B v D u s G bs L V al B2 v2) : Calls Try.prog 10 #[cP D] w fun e w' => ∃ D2 u2, e = .returned (cP D2) ∧ Duo W w' s G bs L B v D u V al B2 v2 D2 u2 V al := by
  refine (dCopy_any h.p.d).mono ?_
  rintro e w' ⟨D2, u2, rfl, k, o, b⟩
  have hW := h.p.b.size
  refine ⟨D2, u2, rfl, h.p.below b, ⟨h.c.below b, k, h.p.b.trans (b.mono hW), fun x hx => ⟨(h.o x hx).1, fun e => by have := o x e; have := h.c.lt hx; omega⟩, fun x hx => by have := o x hx; omega⟩, ?_⟩
  rintro x e (f | f)
  · exact (h.o x f).2 e
  · have := o x f; have := h.p.lt e; omega
end
end Go.Proofs.Ytpoekphebmonnab
