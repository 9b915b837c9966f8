import Derived.Test.YtphafnfmkhhamaaVs
import Derived.Test.YtphafnfmkhhamaaVop
namespace Go.Proofs.Ytphafnfmkhhamaa
open Go.RowKit
set_option linter.unusedVariables false
set_option linter.unusedSimpArgs false

/-! ### The program's table and the document's -/
theorem Ev.ofBlock {w w' : World} {B n : Nat} {f : Nat → Et} (h : Ev w B n f) (hb : w'.heap[B]? = w.heap[B]?) : Ev w' B n f := by
  obtain ⟨cs, hc, hs⟩ := h.o
  refine ⟨⟨cs, hb.trans hc, hs⟩, (World.cell?_of_block hb).trans h.c0, (World.cell?_of_block hb).trans h.c1, h.m, fun i hi => ?_, h.z⟩
  obtain ⟨a, b, c, d⟩ := h.e i hi
  exact ⟨(World.cell?_of_block hb).trans a, (World.cell?_of_block hb).trans b, (World.cell?_of_block hb).trans c, (World.cell?_of_block hb).trans d⟩
def Kp (Z : List Nat) (w w' : World) : Prop := ∀ z, z ∈ Z → w'.heap[z]? = w.heap[z]?
theorem Kp.trans {Z : List Nat} {a b c : World} (h : Kp Z a b) (k : Kp Z b c) : Kp Z a c := fun z hz => (k z hz).trans (h z hz)
theorem Kp.cell {Z : List Nat} {a b : World} (h : Kp Z a b) {X i : Nat} {v : Value} (hX : X ∈ Z) (hc : a.cell? ⟨X, i, none⟩ = some v) : b.cell? ⟨X, i, none⟩ = some v := (World.cell?_of_block (h X hX)).trans hc
structure PlZ (W wr : World) (ms : List Int) (B D : Nat) (f g : Nat → Et) (Z : List Nat) : Prop where
  e : Ev wr B ms.length f
  d : ∃ vm vo vw vs, Dt wr D vm vo vw vs ms g ∧ ∀ b, Db D vm vo vw vs b → W.heap.size ≤ b ∧ b ≠ B ∧ b ∉ Z
  b : Below W.heap.size W wr
  k : W.heap.size ≤ B ∧ B ∉ Z
  z : ∀ z, z ∈ Z → z < wr.heap.size
section
variable {W wr w' : World} {ms : List Int} {B D : Nat} {f g f' : Nat → Et} {Z : List Nat}
theorem PlZ.below (h : PlZ W wr ms B D f g Z) (hb : Below wr.heap.size wr w') : PlZ W w' ms B D f g Z := by
  obtain ⟨vm, vo, vw, vs, d1, d2⟩ := h.d
  exact ⟨h.e.below hb, ⟨vm, vo, vw, vs, d1.below hb, d2⟩, h.b.trans (hb.mono h.b.size), h.k, fun z hz => Nat.lt_of_lt_of_le (h.z z hz) hb.size⟩
theorem PlZ.kpb (h : PlZ W wr ms B D f g Z) (hb : Below wr.heap.size wr w') : Kp Z wr w' := fun z hz => hb.block z (h.z z hz)
theorem PlZ.weak (h : PlZ W wr ms B D f g Z) : PlZ W wr ms B D f g [] := by
  obtain ⟨vm, vo, vw, vs, d1, d2⟩ := h.d
  exact ⟨h.e, ⟨vm, vo, vw, vs, d1, fun b hb => ⟨(d2 b hb).1, (d2 b hb).2.1, by simp⟩⟩, h.b, ⟨h.k.1, by simp⟩, fun z hz => by simp at hz⟩
theorem PlZ.alloc (h : PlZ W wr ms B D f g []) (o : Obj) : PlZ W (wr.alloc o) ms B D f g [wr.heap.size] := by
  have hb := below_alloc wr o
  have hB := h.e.lt
  obtain ⟨vm, vo, vw, vs, d1, d2⟩ := h.d
  exact ⟨h.e.below hb, ⟨vm, vo, vw, vs, d1.below hb, fun b hq => ⟨(d2 b hq).1, (d2 b hq).2.1, by have := d1.lt hq; simp; omega⟩⟩, h.b.trans (hb.mono h.b.size), ⟨h.k.1, by simp; omega⟩, fun z hz => by simp at hz; subst hz; simp⟩
theorem PlZ.prog (h : PlZ W wr ms B D f g Z) (he : Ev w' B ms.length f') (hf : Fx [B] wr w') : PlZ W w' ms B D f' g Z ∧ Kp Z wr w' := by
  obtain ⟨vm, vo, vw, vs, d1, d2⟩ := h.d
  refine ⟨⟨he, ⟨vm, vo, vw, vs, d1.keptZ (Fz.of_fx (M := fun x => x ∈ [B]) hf (fun _ e => e)) (fun b hb e => (d2 b hb).2.1 (by simpa using e)), d2⟩, h.b.trans (hf.below h.b.size (by have := h.k.1; simp; omega)), h.k, fun z hz => Nat.lt_of_lt_of_le (h.z z hz) hf.size⟩, fun z hz => hf.block z (h.z z hz) ?_⟩
  intro e
  obtain rfl : z = B := by simpa using e
  exact h.k.2 hz
theorem PlZ.doc (h : PlZ W wr ms B D f g Z) {g' : Nat → Et} {vm vo vw vs : Value} (d2 : ∀ b, Db D vm vo vw vs b → W.heap.size ≤ b ∧ b ≠ B ∧ b ∉ Z) (hd : Dt w' D vm vo vw vs ms g') (hf : Fz (Db D vm vo vw vs) wr w') : PlZ W w' ms B D f g' Z ∧ Kp Z wr w' := by
  refine ⟨⟨h.e.keptZ hf (fun e => (d2 B e).2.1 rfl), ⟨vm, vo, vw, vs, hd, d2⟩, h.b.trans (hf.below h.b.size (fun x e => (d2 x e).1)), h.k, fun z hz => Nat.lt_of_lt_of_le (h.z z hz) hf.size⟩, fun z hz => hf.block z (h.z z hz) (fun e => (d2 z e).2.2 hz)⟩
theorem xSet (h : PlZ W wr ms B D f g Z) (t m : Int) : Calls Try.prog 8 #[eP B, I t, U m] wr fun e w' => e = .returned (.tuple #[.bool (setB ms.length f t m), I (stE ms.length f t)]) ∧ PlZ W w' ms B D (setF ms.length f t m) g Z ∧ Kp Z wr w' := by
  refine (Set_any h.e t m).mono ?_
  rintro e w' ⟨rfl, he, hf⟩
  exact ⟨rfl, h.prog he hf⟩
theorem ySet (h : PlZ W wr ms B D f g Z) (t m : Int) : Calls Try.prog 16 #[dP D, I t, U m] wr fun e w' => e = .returned (.tuple #[.bool (setB ms.length g t m), I (stE ms.length g t)]) ∧ PlZ W w' ms B D f (setF ms.length g t m) Z ∧ Kp Z wr w' := by
  obtain ⟨vm, vo, vw, vs, d1, d2⟩ := h.d
  refine (dSet_any d1 t m).mono ?_
  rintro e w' ⟨rfl, hd, hf⟩
  exact ⟨rfl, h.doc d2 hd hf⟩
theorem xClear (h : PlZ W wr ms B D f g Z) (t m : Int) : Calls Try.prog 9 #[eP B, I t, U m] wr fun e w' => e = .returned (I (stE ms.length f t)) ∧ PlZ W w' ms B D (clrF ms.length f t m) g Z ∧ Kp Z wr w' := by
  refine (Clear_any h.e t m).mono ?_
  rintro e w' ⟨rfl, he, hf⟩
  exact ⟨rfl, h.prog he hf⟩
theorem yClear (h : PlZ W wr ms B D f g Z) (t m : Int) : Calls Try.prog 17 #[dP D, I t, U m] wr fun e w' => e = .returned (I (stE ms.length g t)) ∧ PlZ W w' ms B D f (clrF ms.length g t m) Z ∧ Kp Z wr w' := by
  obtain ⟨vm, vo, vw, vs, d1, d2⟩ := h.d
  refine (dClear_any d1 t m).mono ?_
  rintro e w' ⟨rfl, hd, hf⟩
  exact ⟨rfl, h.doc d2 hd hf⟩
theorem xWait (h : PlZ W wr ms B D f g Z) (t m : Int) : Calls Try.prog 10 #[eP B, I t, U m] wr fun e w' => e = .returned (.tuple #[.bool (waiB ms.length f t m), I (waiI ms.length f t)]) ∧ PlZ W w' ms B D (waiF ms.length f t m) g Z ∧ Kp Z wr w' := by
  refine (Wait_any h.e t m).mono ?_
  rintro e w' ⟨rfl, he, hf⟩
  exact ⟨rfl, h.prog he hf⟩
theorem yWait (h : PlZ W wr ms B D f g Z) (t m : Int) : Calls Try.prog 19 #[dP D, I t, U m] wr fun e w' => e = .returned (.tuple #[.bool (waiB ms.length g t m), I (waiI ms.length g t)]) ∧ PlZ W w' ms B D f (waiF ms.length g t m) Z ∧ Kp Z wr w' := by
  obtain ⟨vm, vo, vw, vs, d1, d2⟩ := h.d
  refine (dWait_any d1 t m).mono ?_
  rintro e w' ⟨rfl, hd, hf⟩
  exact ⟨rfl, h.doc d2 hd hf⟩
theorem xFresh (h : PlZ W wr ms B D f g Z) (t : Int) : Calls Try.prog 11 #[eP B, I t] wr fun e w' => e = .returned (I (stE ms.length f t)) ∧ PlZ W w' ms B D (freF ms.length f t) g Z ∧ Kp Z wr w' := by
  refine (Fre_any h.e t).mono ?_
  rintro e w' ⟨rfl, he, hf⟩
  exact ⟨rfl, h.prog he hf⟩
theorem yFresh (h : PlZ W wr ms B D f g Z) (t : Int) : Calls Try.prog 21 #[dP D, I t] wr fun e w' => e = .returned (I (stE ms.length g t)) ∧ PlZ W w' ms B D f (freF ms.length g t) Z ∧ Kp Z wr w' := by
  obtain ⟨vm, vo, vw, vs, d1, d2⟩ := h.d
  refine (dFresh_any d1 t).mono ?_
  rintro e w' ⟨rfl, hd, hf⟩
  exact ⟨rfl, h.doc d2 hd hf⟩
theorem xGet (h : PlZ W wr ms B D f g Z) (t : Int) : Calls Try.prog 12 #[eP B, I t] wr fun e w' => e = .returned (.tuple #[U (getI ms.length f t), I (stE ms.length f t)]) ∧ wr = w' := Get_any h.e t
theorem xWaits (h : PlZ W wr ms B D f g Z) (t : Int) : Calls Try.prog 13 #[eP B, I t] wr fun e w' => e = .returned (U (wtsI ms.length f t)) ∧ wr = w' := Waits_any h.e t
theorem yGet (h : PlZ W wr ms B D f g Z) (t : Int) : Calls Try.prog 18 #[dP D, I t] wr fun e w' => e = .returned (.tuple #[U (getI ms.length g t), I (stE ms.length g t)]) ∧ wr = w' := by
  obtain ⟨vm, vo, vw, vs, d1, d2⟩ := h.d
  exact dGet_any d1 t
theorem yWaits (h : PlZ W wr ms B D f g Z) (t : Int) : Calls Try.prog 20 #[dP D, I t] wr fun e w' => e = .returned (U (wtsI ms.length g t)) ∧ wr = w' := by
  obtain ⟨vm, vo, vw, vs, d1, d2⟩ := h.d
  exact dWaits_any d1 t
theorem xReset (h : PlZ W wr ms B D f g Z) : Calls Try.prog 22 #[eP B] wr fun e w' => e = .returned (I 0) ∧ PlZ W w' ms B D (rstTo f ms.length) g Z ∧ Kp Z wr w' := by
  refine (Reset_ok h.e).mono ?_
  rintro e w' ⟨rfl, he, hf⟩
  exact ⟨rfl, h.prog he hf⟩
theorem yReset (h : PlZ W wr ms B D f' f Z) (hz : ∀ i, (f i).x = false → f i = et0) : Calls Try.prog 23 #[dP D] wr fun e w' => e = .returned (.tuple #[]) ∧ PlZ W w' ms B D f' (rstTo f ms.length) Z ∧ Kp Z wr w' := by
  obtain ⟨vm, vo, vw, vs, d1, d2⟩ := h.d
  have hD := d2 D (.inl rfl)
  have hB := h.e.lt
  refine (dReset_any (f := rstTo f ms.length) ⟨d1.o, d1.pm, d1.l, d1.d.1⟩ (fun i hi => ?_) (fun i v hv => by rw [rstTo_x]; exact d1.x i v hv)).mono ?_
  · unfold rstTo
    by_cases hx : (f i).x = true
    · rw [if_pos ⟨hi, hx⟩]; exact ⟨rfl, rfl, rfl⟩
    · rw [if_neg (fun e => hx e.2), hz i (by simpa using hx)]; exact ⟨rfl, rfl, rfl⟩
  · rintro e w' ⟨rfl, ⟨vo', vw', vs', hd, hk⟩, hf⟩
    have hs := h.b.size
    refine ⟨rfl, ⟨h.e.keptZ hf (fun e => hD.2.1 e.symm), ⟨vm, vo', vw', vs', hd, fun b hb => ?_⟩, h.b.trans (hf.below h.b.size (fun x e => by rw [e]; exact hD.1)), h.k, fun z hz => Nat.lt_of_lt_of_le (h.z z hz) hf.size⟩, fun z hz => hf.block z (h.z z hz) (fun e => hD.2.2 (by rw [← e]; exact hz))⟩
    rcases hk b hb with e | e | e
    · rw [e]; exact hD
    · exact d2 b (.inr (.inl e))
    · exact ⟨by omega, by omega, fun hz => by have := h.z b hz; omega⟩
theorem xCopy (h : PlZ W wr ms B D f g Z) : Calls Try.prog 24 #[eP B] wr fun e w' => e = .returned (eP wr.heap.size) ∧ (PlZ W w' ms wr.heap.size D f g (B :: Z) ∧ Ev w' B ms.length f) ∧ Kp Z wr w' := by
  refine (Copy_ok h.e).mono ?_
  rintro e w' ⟨rfl, he, hb⟩
  obtain ⟨vm, vo, vw, vs, d1, d2⟩ := h.d
  have hB := h.e.lt
  refine ⟨rfl, ⟨⟨he, ⟨vm, vo, vw, vs, d1.below hb, fun b hq => ⟨(d2 b hq).1, by have := d1.lt hq; omega, ?_⟩⟩, h.b.trans (hb.mono h.b.size), ⟨h.b.size, ?_⟩, fun z hz => ?_⟩, h.e.below hb⟩, h.kpb hb⟩
  · intro e
    rcases List.mem_cons.1 e with e | e
    · exact (d2 b hq).2.1 e
    · exact (d2 b hq).2.2 e
  · intro e
    rcases List.mem_cons.1 e with e | e
    · omega
    · have := h.z _ e; omega
  · rcases List.mem_cons.1 hz with e | e
    · have := hb.size; omega
    · exact Nat.lt_of_lt_of_le (h.z z e) hb.size
theorem yCopy (h : PlZ W wr ms B D f g Z) : Calls Try.prog 25 #[dP D] wr fun e w' => e = .returned (dP wr.heap.size) ∧ PlZ W w' ms B wr.heap.size f g Z ∧ Kp Z wr w' := by
  obtain ⟨vm, vo, vw, vs, d1, d2⟩ := h.d
  have hB := h.e.lt
  have hs := h.b.size
  refine (dCopy_any d1).mono ?_
  rintro e w' ⟨rfl, ⟨vm', vo', vw', vs', hd, hk⟩, hb⟩
  refine ⟨rfl, ⟨h.e.below hb, ⟨vm', vo', vw', vs', hd, fun b hq => ?_⟩, h.b.trans (hb.mono h.b.size), h.k, fun z hz => Nat.lt_of_lt_of_le (h.z z hz) hb.size⟩, h.kpb hb⟩
  have := hk b hq
  exact ⟨by omega, by omega, fun hz => by have := h.z b hz; omega⟩
/-- what is done to the old table -/
theorem PlZ.old (h : PlZ W wr ms B D f g Z) {O : Nat} (hO : O ∈ Z) (hW : W.heap.size ≤ O) (hf : Fx [O] wr w') : PlZ W w' ms B D f g Z := by
  obtain ⟨vm, vo, vw, vs, d1, d2⟩ := h.d
  exact ⟨h.e.kept hf (by simp; intro e; exact h.k.2 (by rw [e]; exact hO)), ⟨vm, vo, vw, vs, d1.keptZ (Fz.of_fx (M := fun x => x ∈ [O]) hf (fun _ e => e)) (fun b hb e => (d2 b hb).2.2 (by simp at e; rw [e]; exact hO)), d2⟩, h.b.trans (hf.below h.b.size (by simp; omega)), h.k, fun z hz => Nat.lt_of_lt_of_le (h.z z hz) hf.size⟩
theorem oSet (h : PlZ W wr ms B D f g Z) {O : Nat} (hO : O ∈ Z) (hW : W.heap.size ≤ O) {fo : Nat → Et} (he : Ev wr O ms.length fo) (t m : Int) : Calls Try.prog 8 #[eP O, I t, U m] wr fun e w' => (∃ b s, e = .returned (.tuple #[.bool b, I s])) ∧ (PlZ W w' ms B D f g Z ∧ ∃ fo', Ev w' O ms.length fo') ∧ Fx [O] wr w' := by
  refine (Set_any he t m).mono ?_
  rintro e w' ⟨rfl, he, hf⟩
  exact ⟨⟨_, _, rfl⟩, ⟨h.old hO hW hf, _, he⟩, hf⟩
theorem oWait (h : PlZ W wr ms B D f g Z) {O : Nat} (hO : O ∈ Z) (hW : W.heap.size ≤ O) {fo : Nat → Et} (he : Ev wr O ms.length fo) (t m : Int) : Calls Try.prog 10 #[eP O, I t, U m] wr fun e w' => (∃ b s, e = .returned (.tuple #[.bool b, I s])) ∧ (PlZ W w' ms B D f g Z ∧ ∃ fo', Ev w' O ms.length fo') ∧ Fx [O] wr w' := by
  refine (Wait_any he t m).mono ?_
  rintro e w' ⟨rfl, he, hf⟩
  exact ⟨⟨_, _, rfl⟩, ⟨h.old hO hW hf, _, he⟩, hf⟩
end
end Go.Proofs.Ytphafnfmkhhamaa
