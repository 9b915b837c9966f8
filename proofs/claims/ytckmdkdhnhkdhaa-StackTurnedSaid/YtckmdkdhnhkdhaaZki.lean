import Derived.Test.YtckmdkdhnhkdhaaZhi
namespace Go.Proofs.Ytckmdkdhnhkdhaa
open Go.RowKit
set_option linter.unusedVariables false
set_option linter.unusedSimpArgs false

/-! ### Stacks of int: their face -/
def iQ (w : World) (B g n hi : Nat) (xs : List Int) : Prop := ∃ R, iSk w B g n hi R (iV xs)
section
variable {w : World} {B g n hi : Nat} {xs : List Int}
theorem iQ.keptZ (h : iQ w B g n hi xs) {M : Nat → Prop} {w' : World} (hf : Fz M w w') (h1 : ¬ M B) (h2 : ¬ M g) : iQ w' B g n hi xs := by
  obtain ⟨R, h⟩ := h
  exact ⟨R, h.keptZ hf h1 h2⟩
theorem iQ.below (h : iQ w B g n hi xs) {w' : World} (hf : Below w.heap.size w w') : iQ w' B g n hi xs := h.keptZ (M := fun _ => False) (Fz.of_below hf) id id
theorem iQ.le (h : iQ w B g n hi xs) : xs.length ≤ n := by obtain ⟨R, h⟩ := h; have := h.lle; rwa [iV_len] at this
theorem iQ.hle (h : iQ w B g n hi xs) : xs.length ≤ hi ∧ hi ≤ n := by obtain ⟨R, h⟩ := h; have := h.y; rwa [iV_len] at this
theorem iQ.m (h : iQ w B g n hi xs) : n ≤ 1024 := by obtain ⟨R, h⟩ := h; exact h.m
theorem iQ.lts (h : iQ w B g n hi xs) : B < w.heap.size ∧ g < w.heap.size := by obtain ⟨R, h⟩ := h; exact h.lts
theorem iQ.ne (h : iQ w B g n hi xs) : B ≠ g := by obtain ⟨R, h⟩ := h; exact h.ne
theorem iQ.ty (h : iQ w B g n hi xs) : ∃ cs, w.heap[B]? = some (.cells cs 62) := by obtain ⟨R, h⟩ := h; exact ⟨_, h.o⟩
theorem iQ.tyg (h : iQ w B g n hi xs) : ∃ cs, w.heap[g]? = some (.cells cs 3) := by obtain ⟨R, h⟩ := h; exact ⟨_, h.q⟩
theorem iNewQ (w : World) (n : Nat) (hn : n ≤ 1024) : Calls Try.prog 9 #[I n] w fun e w' => e = .returned (.tuple #[iP (w.heap.size + 1), I 0]) ∧ iQ w' (w.heap.size + 1) w.heap.size n 0 [] ∧ Below w.heap.size w w' :=
  (iNew_ok w n hn).mono (fun e w' k => ⟨k.1, ⟨_, k.2.1⟩, k.2.2⟩)
theorem iPushQ (h : iQ w B g n hi xs) (hc : xs.length < n) (x : Int) : Calls Try.prog 10 #[iP B, (Value.int .i64 x)] w fun e w' => e = .returned (I 0) ∧ iQ w' B g n (max hi (xs.length + 1)) (xs ++ [x]) ∧ Fx [B, g] w w' := by
  obtain ⟨R, h⟩ := h
  refine (iPush_ok h (by rw [iV_len]; exact hc) x).mono ?_
  rintro e w' ⟨k, q, f⟩
  rw [iV_len, show iV xs ++ [(Value.int .i64 x)] = iV (xs ++ [x]) by simp [iV]] at q
  exact ⟨k, ⟨_, q⟩, f⟩
theorem iPushF (h : iQ w B g n hi xs) (hc : xs.length = n) (x : Int) : Calls Try.prog 10 #[iP B, (Value.int .i64 x)] w fun e w' => e = .returned (I 141) ∧ Below w.heap.size w w' := by
  obtain ⟨R, h⟩ := h
  exact iPush_full h (by rw [iV_len]; exact hc) x
theorem iPopQ (x : Int) (h : iQ w B g n hi (xs ++ [x])) : Calls Try.prog 14 #[iP B] w fun e w' => e = .returned (.tuple #[(Value.int .i64 x), I 0]) ∧ iQ w' B g n hi xs ∧ Fx [B, g] w w' := by
  obtain ⟨R, h⟩ := h
  rw [show iV (xs ++ [x]) = iV xs ++ [(Value.int .i64 x)] by simp [iV]] at h
  exact iPop_ok x h
theorem iPopN (h : iQ w B g n hi []) : Calls Try.prog 14 #[iP B] w fun e w' => e = .returned (.tuple #[(Value.int .i64 0), I 142]) ∧ w = w' := by
  obtain ⟨R, h⟩ := h
  exact iPop_no h
theorem iFindQ (h : iQ w B g n hi xs) (y : Int) : Calls Try.prog 50 #[iP B, (Value.int .i64 y)] w fun e w' => e = .returned (.tuple #[I (fndO (fun x => iEq x y) xs.reverse).1, .bool (fndO (fun x => iEq x y) xs.reverse).2]) ∧ Below w.heap.size w w' := by
  obtain ⟨R, h⟩ := h
  exact iFind_any h y
theorem iLenQ (h : iQ w B g n hi xs) : Calls Try.prog 13 #[iP B] w fun e w' => e = .returned (I xs.length) ∧ w = w' := by
  obtain ⟨R, h⟩ := h
  have := iLen_any h
  rwa [iV_len] at this
theorem iDepthQ (h : iQ w B g n hi xs) : Calls Try.prog 29 #[iP B] w fun e w' => e = .returned (I n) ∧ w = w' := by
  obtain ⟨R, h⟩ := h
  exact iDepth_any h
theorem iHighQ (h : iQ w B g n hi xs) : Calls Try.prog 15 #[iP B] w fun e w' => e = .returned (I hi) ∧ w = w' := by
  obtain ⟨R, h⟩ := h
  exact iHigh_any h
theorem iTopQ (x : Int) (h : iQ w B g n hi (xs ++ [x])) : Calls Try.prog 28 #[iP B] w fun e w' => e = .returned (.tuple #[I x, .bool true]) ∧ Below w.heap.size w w' := by
  obtain ⟨R, h⟩ := h
  rw [show iV (xs ++ [x]) = iV xs ++ [I x] by simp [iV]] at h
  exact iTop_ok x h
theorem iTopN (h : iQ w B g n hi []) : Calls Try.prog 28 #[iP B] w fun e w' => e = .returned (.tuple #[I 0, .bool false]) ∧ w = w' := by
  obtain ⟨R, h⟩ := h
  exact iTop_no h
theorem iCutN (h : iQ w B g n hi xs) (m : Int) (hm : m < 0) : Calls Try.prog 12 #[iP B, I m] w fun e w' => e = .returned (.tuple #[.slice none 0 0, I 2]) ∧ w = w' := by
  obtain ⟨R, h⟩ := h
  exact Cut_neg h m hm
theorem iCutO (h : iQ w B g n hi xs) (m : Int) (hm : (xs.length : Int) < m) : Calls Try.prog 12 #[iP B, I m] w fun e w' => e = .returned (.tuple #[.slice none 0 0, I 142]) ∧ w = w' := by
  obtain ⟨R, h⟩ := h
  exact Cut_over h m (by rw [iV_len]; exact hm)
theorem iCutQ (h : iQ w B g n hi xs) (m : Nat) (hm : m ≤ xs.length) : Calls Try.prog 12 #[iP B, I m] w fun e w' => ∃ X cap, e = .returned (.tuple #[.slice (some ⟨X, 0, none⟩) (xs.length - m) cap, I 0]) ∧ w'.ownsRow w.heap.size 3 1 (.slice (some ⟨X, 0, none⟩) (xs.length - m) cap) (xs.length - m) (iV (xs.drop m).reverse) ∧ iQ w' B g n hi (xs.take m) ∧ Fx [B, g] w w' := by
  obtain ⟨R, h⟩ := h
  exact Cut_ok h m hm
theorem iCopyQ (h : iQ w B g n hi xs) : Calls Try.prog 30 #[iP B] w fun e w' => ∃ B' g', e = .returned (iP B') ∧ iQ w' B' g' n hi xs ∧ w.heap.size ≤ B' ∧ w.heap.size ≤ g' ∧ Below w.heap.size w w' := by
  obtain ⟨R, h⟩ := h
  refine (iCopy_any h).mono ?_
  rintro e w' ⟨B', g', k1, k2, k3⟩
  exact ⟨B', g', k1, ⟨_, k2⟩, k3⟩
end
end Go.Proofs.Ytckmdkdhnhkdhaa
