import Derived.Test.YtlbkbnhnklaebaaRgs1
namespace Go.Proofs.Ytlbkbnhnklaebaa
open Go.RowKit
set_option linter.unusedVariables false
set_option linter.unusedSimpArgs false

/-! ### Rings of string: their face -/
def sQ (w : World) (B g n hi : Nat) (l : List Value) : Prop := ∃ f R, sRg w B g n f hi R l
section
variable {w : World} {B g n hi : Nat} {l : List Value}
theorem sQ.kept (h : sQ w B g n hi l) {bs : List Nat} {w' : World} (hf : Fx bs w w') (h1 : B ∉ bs) (h2 : g ∉ bs) : sQ w' B g n hi l := by
  obtain ⟨f, R, h⟩ := h
  exact ⟨f, R, h.kept hf h1 h2⟩
theorem sQ.below (h : sQ w B g n hi l) {w' : World} (hf : Below w.heap.size w w') : sQ w' B g n hi l := h.kept (bs := []) (Fx.of_below hf) (by simp) (by simp)
theorem sQ.drewN (h : sQ w B g n hi l) (q : Nat) : sQ (w.drewN q) B g n hi l := h.below (below_drewN q (Below.refl _ _))
theorem sQ.le (h : sQ w B g n hi l) : l.length ≤ n := by obtain ⟨f, R, h⟩ := h; exact h.lle
theorem sQ.hle (h : sQ w B g n hi l) : l.length ≤ hi ∧ hi ≤ n := by obtain ⟨f, R, h⟩ := h; exact h.y
theorem sQ.m (h : sQ w B g n hi l) : n ≤ 65536 := by obtain ⟨f, R, h⟩ := h; exact h.m
theorem sQ.lts (h : sQ w B g n hi l) : B < w.heap.size ∧ g < w.heap.size := by obtain ⟨f, R, h⟩ := h; exact h.lts
theorem sQ.ne (h : sQ w B g n hi l) : B ≠ g := by obtain ⟨f, R, h⟩ := h; exact h.ne
theorem sQ.ty (h : sQ w B g n hi l) : ∃ cs, w.heap[B]? = some (.cells cs 93) := by obtain ⟨f, R, h⟩ := h; exact ⟨_, h.o⟩
theorem sQ.tyg (h : sQ w B g n hi l) : ∃ cs, w.heap[g]? = some (.cells cs 9) := by obtain ⟨f, R, h⟩ := h; exact ⟨_, h.q⟩
theorem sNewQ (w : World) (n : Nat) (hn : n ≤ 65536) : Calls Try.prog 39 #[I n] w fun e w' => e = .returned (.tuple #[sP (w.heap.size + 1), I 0]) ∧ sQ w' (w.heap.size + 1) w.heap.size n 0 [] ∧ Below w.heap.size w w' :=
  (sNew_ok w n hn).mono (fun e w' k => ⟨k.1, ⟨_, _, k.2.1⟩, k.2.2⟩)
theorem sLastQ (h : sQ w B g n hi l) (hc : l.length < n) (x : ByteArray) : Calls Try.prog 40 #[sP B, (Value.string x)] w fun e w' => e = .returned (I 0) ∧ sQ w' B g n (max hi (l.length + 1)) (l ++ [(Value.string x)]) ∧ Fx [B, g] w w' := by
  obtain ⟨f, R, h⟩ := h
  exact (sLast_ok h hc x).mono (fun e w' k => ⟨k.1, ⟨_, _, k.2.1⟩, k.2.2⟩)
theorem sLastF (h : sQ w B g n hi l) (hc : l.length = n) (x : ByteArray) : Calls Try.prog 40 #[sP B, (Value.string x)] w fun e w' => e = .returned (I 121) ∧ sQ w' B g n hi l ∧ Below w.heap.size w w' := by
  have h0 := h
  obtain ⟨f, R, h⟩ := h
  exact (sLast_full h hc x).mono (fun e w' k => ⟨k.1, by obtain ⟨_, q, rfl⟩ := k; exact ⟨h0.drewN q, below_drewN q (Below.refl _ _)⟩⟩)
theorem sFirstQ (h : sQ w B g n hi l) (hc : l.length < n) (x : ByteArray) : Calls Try.prog 41 #[sP B, (Value.string x)] w fun e w' => e = .returned (I 0) ∧ sQ w' B g n (max hi (l.length + 1)) ((Value.string x) :: l) ∧ Fx [B, g] w w' := by
  obtain ⟨f, R, h⟩ := h
  exact (sFirst_ok h hc x).mono (fun e w' k => ⟨k.1, ⟨_, _, k.2.1⟩, k.2.2⟩)
theorem sFirstF (h : sQ w B g n hi l) (hc : l.length = n) (x : ByteArray) : Calls Try.prog 41 #[sP B, (Value.string x)] w fun e w' => e = .returned (I 121) ∧ sQ w' B g n hi l ∧ Below w.heap.size w w' := by
  have h0 := h
  obtain ⟨f, R, h⟩ := h
  exact (sFirst_full h hc x).mono (fun e w' k => ⟨k.1, by obtain ⟨_, q, rfl⟩ := k; exact ⟨h0.drewN q, below_drewN q (Below.refl _ _)⟩⟩)
theorem sTakeQ (x : ByteArray) (h : sQ w B g n hi ((Value.string x) :: l)) : Calls Try.prog 43 #[sP B] w fun e w' => e = .returned (.tuple #[(Value.string x), I 0]) ∧ sQ w' B g n hi l ∧ Fx [B, g] w w' := by
  obtain ⟨f, R, h⟩ := h
  exact (sTake_ok x h).mono (fun e w' k => ⟨k.1, ⟨_, _, k.2.1⟩, k.2.2⟩)
theorem sTakeN (h : sQ w B g n hi []) : Calls Try.prog 43 #[sP B] w fun e w' => e = .returned (.tuple #[(Value.string ⟨#[]⟩), I 122]) ∧ w = w' := by
  obtain ⟨f, R, h⟩ := h
  exact sTake_no h
theorem sAtQ (h : sQ w B g n hi l) (i : Nat) (x : ByteArray) (hx : l[i]? = some (Value.string x)) : Calls Try.prog 44 #[sP B, I i] w fun e w' => e = .returned (.tuple #[(Value.string x), .bool true]) ∧ sQ w' B g n hi l ∧ Below w.heap.size w w' := by
  have h0 := h
  obtain ⟨f, R, h⟩ := h
  exact (sAt_ok h i x hx).mono (fun e w' k => ⟨k.1, by obtain ⟨_, q, rfl⟩ := k; exact ⟨h0.drewN q, below_drewN q (Below.refl _ _)⟩⟩)
theorem sAtN (h : sQ w B g n hi l) (i : Int) (hi2 : i < 0 ∨ l.length ≤ i) : Calls Try.prog 44 #[sP B, I i] w fun e w' => e = .returned (.tuple #[(Value.string ⟨#[]⟩), .bool false]) ∧ w = w' := by
  obtain ⟨f, R, h⟩ := h
  exact sAt_no h i hi2
theorem sLenQ (h : sQ w B g n hi l) : Calls Try.prog 45 #[sP B] w fun e w' => e = .returned (I l.length) ∧ w = w' := by
  obtain ⟨f, R, h⟩ := h
  exact sLen_any h
theorem sRoomQ (h : sQ w B g n hi l) : Calls Try.prog 47 #[sP B] w fun e w' => e = .returned (I n) ∧ w = w' := by
  obtain ⟨f, R, h⟩ := h
  exact sRoom_any h
theorem sHighQ (h : sQ w B g n hi l) : Calls Try.prog 46 #[sP B] w fun e w' => e = .returned (I hi) ∧ w = w' := by
  obtain ⟨f, R, h⟩ := h
  exact sHigh_any h
theorem sFullQ (h : sQ w B g n hi l) : Calls Try.prog 42 #[sP B] w fun e w' => e = .returned (.bool (decide (l.length = n))) ∧ sQ w' B g n hi l ∧ Below w.heap.size w w' := by
  have h0 := h
  obtain ⟨f, R, h⟩ := h
  exact (sFull_any h).mono (fun e w' k => ⟨k.1, by obtain ⟨_, q, rfl⟩ := k; exact ⟨h0.drewN q, below_drewN q (Below.refl _ _)⟩⟩)
end
end Go.Proofs.Ytlbkbnhnklaebaa
