import Derived.Test.YticgikbnlpgnkaaRgi1
namespace Go.Proofs.Yticgikbnlpgnkaa
open Go.RowKit
set_option linter.unusedVariables false
set_option linter.unusedSimpArgs false

/-! ### Rings of int: their face -/
def iQ (w : World) (B g n hi : Nat) (l : List Value) : Prop := ∃ f R, iRg w B g n f hi R l
section
variable {w : World} {B g n hi : Nat} {l : List Value}
theorem iQ.kept (h : iQ w B g n hi l) {bs : List Nat} {w' : World} (hf : Fx bs w w') (h1 : B ∉ bs) (h2 : g ∉ bs) : iQ w' B g n hi l := by
  obtain ⟨f, R, h⟩ := h
  exact ⟨f, R, h.kept hf h1 h2⟩
theorem iQ.below (h : iQ w B g n hi l) {w' : World} (hf : Below w.heap.size w w') : iQ w' B g n hi l := h.kept (bs := []) (Fx.of_below hf) (by simp) (by simp)
theorem iQ.drewN (h : iQ w B g n hi l) (q : Nat) : iQ (w.drewN q) B g n hi l := h.below (below_drewN q (Below.refl _ _))
theorem iQ.le (h : iQ w B g n hi l) : l.length ≤ n := by obtain ⟨f, R, h⟩ := h; exact h.lle
theorem iQ.hle (h : iQ w B g n hi l) : l.length ≤ hi ∧ hi ≤ n := by obtain ⟨f, R, h⟩ := h; exact h.y
theorem iQ.m (h : iQ w B g n hi l) : n ≤ 65536 := by obtain ⟨f, R, h⟩ := h; exact h.m
theorem iQ.lts (h : iQ w B g n hi l) : B < w.heap.size ∧ g < w.heap.size := by obtain ⟨f, R, h⟩ := h; exact h.lts
theorem iQ.ne (h : iQ w B g n hi l) : B ≠ g := by obtain ⟨f, R, h⟩ := h; exact h.ne
theorem iQ.ty (h : iQ w B g n hi l) : ∃ cs, w.heap[B]? = some (.cells cs 89) := by obtain ⟨f, R, h⟩ := h; exact ⟨_, h.o⟩
theorem iQ.tyg (h : iQ w B g n hi l) : ∃ cs, w.heap[g]? = some (.cells cs 3) := by obtain ⟨f, R, h⟩ := h; exact ⟨_, h.q⟩
theorem iNewQ (w : World) (n : Nat) (hn : n ≤ 65536) : Calls Try.prog 52 #[I n] w fun e w' => e = .returned (.tuple #[iP (w.heap.size + 1), I 0]) ∧ iQ w' (w.heap.size + 1) w.heap.size n 0 [] ∧ Below w.heap.size w w' :=
  (iNew_ok w n hn).mono (fun e w' k => ⟨k.1, ⟨_, _, k.2.1⟩, k.2.2⟩)
theorem iLastQ (h : iQ w B g n hi l) (hc : l.length < n) (x : Int) : Calls Try.prog 32 #[iP B, (Value.int .i64 x)] w fun e w' => e = .returned (I 0) ∧ iQ w' B g n (max hi (l.length + 1)) (l ++ [(Value.int .i64 x)]) ∧ Fx [B, g] w w' := by
  obtain ⟨f, R, h⟩ := h
  exact (iLast_ok h hc x).mono (fun e w' k => ⟨k.1, ⟨_, _, k.2.1⟩, k.2.2⟩)
theorem iLastF (h : iQ w B g n hi l) (hc : l.length = n) (x : Int) : Calls Try.prog 32 #[iP B, (Value.int .i64 x)] w fun e w' => e = .returned (I 121) ∧ iQ w' B g n hi l ∧ Below w.heap.size w w' := by
  have h0 := h
  obtain ⟨f, R, h⟩ := h
  exact (iLast_full h hc x).mono (fun e w' k => ⟨k.1, by obtain ⟨_, q, rfl⟩ := k; exact ⟨h0.drewN q, below_drewN q (Below.refl _ _)⟩⟩)
theorem iFirstQ (h : iQ w B g n hi l) (hc : l.length < n) (x : Int) : Calls Try.prog 36 #[iP B, (Value.int .i64 x)] w fun e w' => e = .returned (I 0) ∧ iQ w' B g n (max hi (l.length + 1)) ((Value.int .i64 x) :: l) ∧ Fx [B, g] w w' := by
  obtain ⟨f, R, h⟩ := h
  exact (iFirst_ok h hc x).mono (fun e w' k => ⟨k.1, ⟨_, _, k.2.1⟩, k.2.2⟩)
theorem iFirstF (h : iQ w B g n hi l) (hc : l.length = n) (x : Int) : Calls Try.prog 36 #[iP B, (Value.int .i64 x)] w fun e w' => e = .returned (I 121) ∧ iQ w' B g n hi l ∧ Below w.heap.size w w' := by
  have h0 := h
  obtain ⟨f, R, h⟩ := h
  exact (iFirst_full h hc x).mono (fun e w' k => ⟨k.1, by obtain ⟨_, q, rfl⟩ := k; exact ⟨h0.drewN q, below_drewN q (Below.refl _ _)⟩⟩)
theorem iTakeQ (x : Int) (h : iQ w B g n hi ((Value.int .i64 x) :: l)) : Calls Try.prog 34 #[iP B] w fun e w' => e = .returned (.tuple #[(Value.int .i64 x), I 0]) ∧ iQ w' B g n hi l ∧ Fx [B, g] w w' := by
  obtain ⟨f, R, h⟩ := h
  exact (iTake_ok x h).mono (fun e w' k => ⟨k.1, ⟨_, _, k.2.1⟩, k.2.2⟩)
theorem iTakeN (h : iQ w B g n hi []) : Calls Try.prog 34 #[iP B] w fun e w' => e = .returned (.tuple #[(Value.int .i64 0), I 122]) ∧ w = w' := by
  obtain ⟨f, R, h⟩ := h
  exact iTake_no h
theorem iLenQ (h : iQ w B g n hi l) : Calls Try.prog 35 #[iP B] w fun e w' => e = .returned (I l.length) ∧ w = w' := by
  obtain ⟨f, R, h⟩ := h
  exact iLen_any h
theorem iHighQ (h : iQ w B g n hi l) : Calls Try.prog 61 #[iP B] w fun e w' => e = .returned (I hi) ∧ w = w' := by
  obtain ⟨f, R, h⟩ := h
  exact iHigh_any h
theorem iFullQ (h : iQ w B g n hi l) : Calls Try.prog 54 #[iP B] w fun e w' => e = .returned (.bool (decide (l.length = n))) ∧ iQ w' B g n hi l ∧ Below w.heap.size w w' := by
  have h0 := h
  obtain ⟨f, R, h⟩ := h
  exact (iFull_any h).mono (fun e w' k => ⟨k.1, by obtain ⟨_, q, rfl⟩ := k; exact ⟨h0.drewN q, below_drewN q (Below.refl _ _)⟩⟩)
end
end Go.Proofs.Yticgikbnlpgnkaa
