import Derived.Test.YtphafnfmkhhamaaVt
import Derived.Deep.CutBlock
import Derived.Deep.CutRange
namespace Go.Proofs.Ytphafnfmkhhamaa
open Go.RowKit
set_option linter.unusedVariables false
set_option linter.unusedSimpArgs false

/-! ### EventPlays -/
theorem msk_of {W : World} {a : Option Addr} {n c : Nat} {l : List Int} (h : RowsAt W 1 u32P ⟨a, n, c⟩ l) : Msk W a l := fun j v hv => by
  obtain ⟨g, off, e, hg, hr⟩ := h.row j v hv
  obtain ⟨u, hu, hp⟩ := hr 0 (by omega)
  refine ⟨g, off, e, hg, ?_⟩
  rw [hp.1] at hu
  simpa using hu
theorem msk_own {w : World} {b : Nat} {a : Option Addr} {c : Nat} {l : List Int} (h : w.ownsRow b 22 1 (.slice a l.length c) l.length (rM l)) : Msk w a l := fun j v hv => by
  have hj : j < l.length := (List.getElem?_eq_some_iff.1 hv).1
  rcases h.2 with ⟨h1, h0⟩ | ⟨g, cap, cur, h1, _⟩
  · omega
  · cases h1
    refine ⟨g, 0, rfl, (h.lt g rfl).2, ?_⟩
    rw [Nat.zero_add, h.cellAt j (by omega)]
    simp [rM, hv]
theorem rows_nil {W : World} {a : Option Addr} {c : Nat} {l : List Int} (h : RowsAt W 1 u32P ⟨a, l.length, c⟩ l) : a = none → l = [] ∧ c = 0 := fun e => by
  refine ⟨?_, h.nz e⟩
  cases l with
  | nil => rfl
  | cons x r =>
    obtain ⟨g, off, e2, _⟩ := msk_of h 0 x rfl
    rw [e] at e2
    cases e2
theorem PlZ.new {W w1 w2 w3 w4 : World} {l : List Int} {Z : List Nat} {vm vo vw vs : Value} (b1 : Below W.heap.size W w1) (E : Ev w2 w1.heap.size l.length (tsk l)) (b2 : Below w1.heap.size w1 w2) (H : Dt w3 w2.heap.size vm vo vw vs l (tsk l)) (hk : ∀ b, Db w2.heap.size vm vo vw vs b → w2.heap.size ≤ b) (b3 : Below w2.heap.size w2 w3) (b4 : Below w3.heap.size w3 w4) (hz : ∀ z, z ∈ Z → z < w1.heap.size) : PlZ W w4 l w1.heap.size w2.heap.size (tsk l) (tsk l) Z := by
  have s1 := b1.size
  have s2 := b2.size
  have s3 := b3.size
  have s4 := b4.size
  have hB := E.lt
  refine ⟨(E.below b3).below b4, ⟨vm, vo, vw, vs, H.below b4, fun b hb => ?_⟩, (b1.trans (b2.mono s1)).trans ((b3.mono (by omega)).trans (b4.mono (by omega))), ⟨s1, fun e => by have := hz _ e; omega⟩, fun z e => by have := hz z e; omega⟩
  have := hk b hb
  exact ⟨by omega, by omega, fun e => by have := hz b e; omega⟩
set_option maxHeartbeats 8000000 in
set_option maxRecDepth 100000 in
theorem plays_big (W : World) (s : Sl) (l : List Int) (h : RowsAt W 1 u32P s l) (hl : l.length ≤ 35184372088000) (hb : 256 < l.length) (v : Value) : Calls Try.prog 5 #[.slice s.a s.n s.c, v] W fun e w' => e = .returned (.bool true) ∧ Below W.heap.size W w' := by
  obtain ⟨a1, n1, c1⟩ := s
  have hn1 := h.n
  simp only at hn1
  subst hn1
  have hm := (msk_of h).below (below_alloc W (.cells #[] 22))
  have hz := rows_nil h
  have bA := below_alloc W (.cells #[] 22)
  have oA : (W.alloc (.cells #[] 22)).ownsRow W.heap.size 22 1 (.slice (some ⟨W.heap.size, 0, none⟩) 0 0) 0 [] := World.ownsRow_lit W #[] 0 (Nat.le_refl _) (Nat.zero_le _) rfl
  have zA : W.heap.size ≤ (W.alloc (.cells #[] 22)).heap.size := by simp
  clear h
  go_enter Try.func5, Try.ntmps5
  go_wp2_with (first | (at_builtin; refine wpList_append_msk rfl (.tmp 32) (.tmp 33) rfl W.heap.size (.slice (some ⟨W.heap.size, 0, none⟩) 0 0) rfl oA a1 l c1 rfl hz hl hm zA ?_))
  intro v2 w2 o2 g2
  obtain ⟨a2, k2, rfl⟩ := own_sl o2
  have b2 : Below W.heap.size W w2 := bA.grown g2 zA (fun k e => (oA.lt k e).1)
  clear g2 hm oA bA
  have h1 := New_big w2 a2 l.length k2 hb
  have h2 := dNew_big w2 a1 l.length c1 hb
  go_wp2_with (first
    | (go_at_call 6; refine h1.mono ?_; clear h1; rintro e w3 ⟨rfl, rfl⟩)
    | (go_at_call 15; refine h2.mono ?_; clear h2; rintro e w3 ⟨rfl, rfl⟩)
    | (go_at_call 7; refine (heads_any _).mono ?_; rintro e w4 ⟨rfl, b4⟩))
  go_ret
  exact ⟨rfl, b2.trans (b4.mono b2.size)⟩
end Go.Proofs.Ytphafnfmkhhamaa
