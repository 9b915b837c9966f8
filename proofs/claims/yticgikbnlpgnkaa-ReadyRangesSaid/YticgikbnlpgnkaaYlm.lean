import Derived.Test.YticgikbnlpgnkaaYz
namespace Go.Proofs.Yticgikbnlpgnkaa
open Go.RowKit Go.ChangeShapes Go.WideShapes
set_option linter.unusedVariables false
set_option linter.unusedSimpArgs false

/-! ### ReadyMakes -/
theorem p_rw : Try.prog.cellsOf 65 = 2 := by kernel_rfl
theorem one_rw {H : Type} {enc : TypeId × Value → H} {w : World} {spare : Nat → Bool} {held : Bool} (n : Nat) (cs : List Value) (z : DataW H × List MemPlace) (hl : cs.length = 2) (h : DataW.trod enc Try.prog w 0 spare held n 65 cs = some z) : ∃ x : Int × Int, ∀ i, i < 2 → ∃ u, cs[i]? = some u ∧ rwP x i u := by
  obtain ⟨c0, c1, rfl⟩ := list2 hl
  obtain ⟨xs, n, hn, hx, hl, hlen, hfs⟩ := DataW.trod_struct Try.underlying65 h
  match xs, hlen with
  | [y0, y1], _ =>
    have h0 := hfs 0 _ rfl
    have h1 := hfs 1 _ rfl
    simp [p_int] at h0 h1
    obtain ⟨v0, e0, _, b0⟩ := DataW.trod_int Try.underlying3 h0
    obtain ⟨v1, e1, _, b1⟩ := DataW.trod_int Try.underlying3 h1
    simp at e0 e1
    subst e0 e1
    refine ⟨⟨v0, v1⟩, fun i hi => ?_⟩
    have hi2 : i = 0 ∨ i = 1 := by omega
    rcases hi2 with rfl | rfl
    · exact ⟨_, rfl, fun _ => rfl, fun e => (by cases e)⟩
    · exact ⟨_, rfl, fun e => (by cases e), fun _ => rfl⟩
set_option maxRecDepth 100000 in
set_option maxHeartbeats 8000000 in
theorem qmakes_any (w : World) (s : Sl) (l : List (Int × Int)) (h : RowsAt w 2 rwP s l) (hl : l.length * 16 ≤ 140737488351232) : Calls Try.prog 6 #[.slice s.a s.n s.c] w fun e w' => e = .returned (.bool true) ∧ Below w.heap.size w w' := by
  have t1 := qmade_any w s l h hl
  clear h hl
  cases hf : fitB 64 l with
  | false =>
    have t2 := t1.mono (R' := fun e w' => e = .returned (.tuple #[.pointer none, .pointer none, .bool true]) ∧ Below w.heap.size w w') (fun e w' k => by
      obtain ⟨k1, k2 | k2⟩ := k
      · exact ⟨k2.2, k1⟩
      · rw [hf] at k2; exact absurd k2.1 (by simp))
    clear t1 hf
    go_enter Try.func6, Try.ntmps6
    go_wp2_with (first
      | (go_at_call 8; refine t2.mono ?_; clear t2; rintro e w1 ⟨rfl, b1⟩)
      | (go_at_call 9; refine (qheads_any _).mono ?_; rintro e w2 ⟨rfl, b2⟩))
    go_ret
    exact ⟨rfl, b1.trans (b2.mono b1.size)⟩
  | true =>
    have t2 := t1.mono (R' := fun e w' => ∃ Q D X Y, e = .returned (.tuple #[qP Q, dQ D, .bool true]) ∧ Cp w' Q D X Y (newR l) ∧ Below w.heap.size w w') (fun e w' k => by
      obtain ⟨k1, k2 | k2⟩ := k
      · rw [hf] at k2; exact absurd k2.1 (by simp)
      · obtain ⟨_, Q, D, X, Y, e1, k3, _⟩ := k2
        exact ⟨Q, D, X, Y, e1, k3, k1⟩)
    clear t1 hf
    go_enter Try.func6, Try.ntmps6
    go_wp2_with (first
      | (go_at_call 8; refine t2.mono ?_; clear t2; rintro e w1 ⟨Q, D, X, Y, rfl, c1, b1⟩)
      | (go_at_call 9; refine (qheads_any _).mono ?_; rintro e w2 ⟨rfl, b2⟩; have t3 := qtells_any (c1.below b2) 64; clear c1)
      | (go_at_call 22; refine t3.mono ?_; clear t3; rintro e w3 ⟨rfl, b3⟩))
    go_ret
    exact ⟨rfl, (b1.trans (b2.mono b1.size)).trans (b3.mono (b1.trans (b2.mono b1.size)).size)⟩
end Go.Proofs.Yticgikbnlpgnkaa
