import Derived.Test.YtckmdkdhnhkdhaaZfs
namespace Go.Proofs.Ytckmdkdhnhkdhaa
open Go.RowKit
set_option linter.unusedVariables false
set_option linter.unusedSimpArgs false

/-! ### Stacks of string: their face -/
def sQ (w : World) (B g n hi : Nat) (xs : List ByteArray) : Prop := ∃ R, sSk w B g n hi R (sV xs)
section
variable {w : World} {B g n hi : Nat} {xs : List ByteArray}
theorem sQ.keptZ (h : sQ w B g n hi xs) {M : Nat → Prop} {w' : World} (hf : Fz M w w') (h1 : ¬ M B) (h2 : ¬ M g) : sQ w' B g n hi xs := by
  obtain ⟨R, h⟩ := h
  exact ⟨R, h.keptZ hf h1 h2⟩
theorem sQ.below (h : sQ w B g n hi xs) {w' : World} (hf : Below w.heap.size w w') : sQ w' B g n hi xs := h.keptZ (M := fun _ => False) (Fz.of_below hf) id id
theorem sQ.le (h : sQ w B g n hi xs) : xs.length ≤ n := by obtain ⟨R, h⟩ := h; have := h.lle; rwa [sV_len] at this
theorem sQ.hle (h : sQ w B g n hi xs) : xs.length ≤ hi ∧ hi ≤ n := by obtain ⟨R, h⟩ := h; have := h.y; rwa [sV_len] at this
theorem sQ.m (h : sQ w B g n hi xs) : n ≤ 1024 := by obtain ⟨R, h⟩ := h; exact h.m
theorem sQ.lts (h : sQ w B g n hi xs) : B < w.heap.size ∧ g < w.heap.size := by obtain ⟨R, h⟩ := h; exact h.lts
theorem sQ.ne (h : sQ w B g n hi xs) : B ≠ g := by obtain ⟨R, h⟩ := h; exact h.ne
theorem sQ.ty (h : sQ w B g n hi xs) : ∃ cs, w.heap[B]? = some (.cells cs 95) := by obtain ⟨R, h⟩ := h; exact ⟨_, h.o⟩
theorem sQ.tyg (h : sQ w B g n hi xs) : ∃ cs, w.heap[g]? = some (.cells cs 9) := by obtain ⟨R, h⟩ := h; exact ⟨_, h.q⟩
theorem sNewQ (w : World) (n : Nat) (hn : n ≤ 1024) : Calls Try.prog 38 #[I n] w fun e w' => e = .returned (.tuple #[sP (w.heap.size + 1), I 0]) ∧ sQ w' (w.heap.size + 1) w.heap.size n 0 [] ∧ Below w.heap.size w w' :=
  (sNew_ok w n hn).mono (fun e w' k => ⟨k.1, ⟨_, k.2.1⟩, k.2.2⟩)
theorem sPushQ (h : sQ w B g n hi xs) (hc : xs.length < n) (x : ByteArray) : Calls Try.prog 39 #[sP B, (Value.string x)] w fun e w' => e = .returned (I 0) ∧ sQ w' B g n (max hi (xs.length + 1)) (xs ++ [x]) ∧ Fx [B, g] w w' := by
  obtain ⟨R, h⟩ := h
  refine (sPush_ok h (by rw [sV_len]; exact hc) x).mono ?_
  rintro e w' ⟨k, q, f⟩
  rw [sV_len, show sV xs ++ [(Value.string x)] = sV (xs ++ [x]) by simp [sV]] at q
  exact ⟨k, ⟨_, q⟩, f⟩
theorem sPushF (h : sQ w B g n hi xs) (hc : xs.length = n) (x : ByteArray) : Calls Try.prog 39 #[sP B, (Value.string x)] w fun e w' => e = .returned (I 141) ∧ Below w.heap.size w w' := by
  obtain ⟨R, h⟩ := h
  exact sPush_full h (by rw [sV_len]; exact hc) x
theorem sPopQ (x : ByteArray) (h : sQ w B g n hi (xs ++ [x])) : Calls Try.prog 41 #[sP B] w fun e w' => e = .returned (.tuple #[(Value.string x), I 0]) ∧ sQ w' B g n hi xs ∧ Fx [B, g] w w' := by
  obtain ⟨R, h⟩ := h
  rw [show sV (xs ++ [x]) = sV xs ++ [(Value.string x)] by simp [sV]] at h
  exact sPop_ok x h
theorem sPopN (h : sQ w B g n hi []) : Calls Try.prog 41 #[sP B] w fun e w' => e = .returned (.tuple #[(Value.string ⟨#[]⟩), I 142]) ∧ w = w' := by
  obtain ⟨R, h⟩ := h
  exact sPop_no h
theorem sFindQ (h : sQ w B g n hi xs) (y : ByteArray) : Calls Try.prog 40 #[sP B, (Value.string y)] w fun e w' => e = .returned (.tuple #[I (fndO (fun x => sEq x y) xs.reverse).1, .bool (fndO (fun x => sEq x y) xs.reverse).2]) ∧ Below w.heap.size w w' := by
  obtain ⟨R, h⟩ := h
  exact sFind_any h y
theorem sLenQ (h : sQ w B g n hi xs) : Calls Try.prog 42 #[sP B] w fun e w' => e = .returned (I xs.length) ∧ w = w' := by
  obtain ⟨R, h⟩ := h
  have := sLen_any h
  rwa [sV_len] at this
theorem sDepthQ (h : sQ w B g n hi xs) : Calls Try.prog 44 #[sP B] w fun e w' => e = .returned (I n) ∧ w = w' := by
  obtain ⟨R, h⟩ := h
  exact sDepth_any h
theorem sHighQ (h : sQ w B g n hi xs) : Calls Try.prog 43 #[sP B] w fun e w' => e = .returned (I hi) ∧ w = w' := by
  obtain ⟨R, h⟩ := h
  exact sHigh_any h
end
end Go.Proofs.Ytckmdkdhnhkdhaa
