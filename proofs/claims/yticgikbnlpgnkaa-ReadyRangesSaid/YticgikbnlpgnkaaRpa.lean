import Derived.Test.YticgikbnlpgnkaaRop
import Derived.Laws.AppendOwnNone
import Derived.Maps.AppendAt
namespace Go.Proofs.Yticgikbnlpgnkaa
open Go.RowKit
set_option linter.unusedVariables false
set_option linter.unusedSimpArgs false

/-! ### Rings of ints: the row as a list -/
section
variable {w : World} {B g n f hi : Nat} {R l : List Value}
theorem Rg.hf {T E : TypeId} (h : Rg w T E B g n f hi R l) : f = 0 ∨ f < n := by have := h.r.p; rw [h.k] at this; exact this
theorem parts_one (h : iRg w B g n f hi R l) (hx : f + l.length ≤ n) : Calls Try.prog 62 #[iP B] w fun e w' => e = .returned (.tuple #[.slice (some ⟨g, f, none⟩) l.length (n - f), .slice none 0 0]) ∧ Below w.heap.size w w' := by
  obtain ⟨-, c1, c2, c3, -⟩ := h.cells
  have hm := h.m
  have hs := isl_mid g n f l.length hx h.hf (f : Int) ((f : Int) + l.length) rfl rfl
  have h1 : (f : Int) + l.length ≤ n := by omega
  clear h
  go_enter Try.func62, Try.ntmps62
  go_wp2
  go_quiet (fail)
  go_wp2
  go_quiet (fail)
  go_wp2
  go_ret2
  exact ⟨rfl, below_drewN _ (below_drewN _ (Below.refl _ _))⟩
theorem parts_two (h : iRg w B g n f hi R l) (hx : n < f + l.length) : Calls Try.prog 62 #[iP B] w fun e w' => e = .returned (.tuple #[.slice (some ⟨g, f, none⟩) (n - f) (n - f), .slice (some ⟨g, 0, none⟩) (f + l.length - n) n]) ∧ Below w.heap.size w w' := by
  obtain ⟨-, c1, c2, c3, -⟩ := h.cells
  have hm := h.m
  have hle := h.lle
  have hf2 : f < n := by have := h.hf; omega
  have hs := isl_from g n f hf2
  have hs2 := isl_to g n (f + l.length - n) (by omega) ((f : Int) + l.length - n) (by omega)
  have h1 : ¬ (f : Int) + l.length ≤ n := by omega
  clear h
  go_enter Try.func62, Try.ntmps62
  go_wp2
  go_quiet (fail)
  go_wp2
  go_quiet (fail)
  go_wp2
  go_ret2
  exact ⟨rfl, below_drewN _ (below_drewN _ (Below.refl _ _))⟩
/-- the row's cells, where it lies in one stretch -/
theorem Rg.one {T E : TypeId} (h : Rg w T E B g n f hi R l) (hx : f + l.length ≤ n) : ∀ j u, l[j]? = some u → w.cell? ((⟨g, f, none⟩ : Addr).add j) = some u := fun j u hj => by
  rw [addr_add]
  have hjl := (List.getElem?_eq_some_iff.1 hj).1
  have := h.r.a j hjl
  rw [h.k, Nat.mod_eq_of_lt (by omega), hj] at this
  exact h.at this
theorem Rg.two1 {T E : TypeId} (h : Rg w T E B g n f hi R l) : ∀ j u, (R.drop f)[j]? = some u → w.cell? ((⟨g, f, none⟩ : Addr).add j) = some u := fun j u hj => by
  rw [addr_add]
  rw [List.getElem?_drop] at hj
  exact h.at hj
theorem Rg.two2 {T E : TypeId} (h : Rg w T E B g n f hi R l) (m : Nat) : ∀ j u, (R.take m)[j]? = some u → w.cell? ((⟨g, 0, none⟩ : Addr).add j) = some u := fun j u hj => by
  rw [addr_add, Nat.zero_add]
  rw [List.getElem?_take] at hj
  split at hj
  · exact h.at hj
  · cases hj
theorem Rg.twoL {T E : TypeId} (h : Rg w T E B g n f hi R l) (hx : n < f + l.length) : R.drop f ++ R.take (f + l.length - n) = l := by
  have := h.r.two (by rw [h.k]; exact hx)
  rw [h.k] at this
  exact this
theorem own_some {b E m : Nat} {v : Value} {xs : List Value} (h : w.ownsRow b E 1 v m xs) (hn : v ≠ .slice none 0 0) : ∃ X cap, v = .slice (some ⟨X, 0, none⟩) m cap := by
  rcases h.2 with ⟨h1, _⟩ | ⟨g, cap, cur, h1, _⟩
  · exact absurd h1 hn
  · exact ⟨g, cap, h1⟩
set_option maxHeartbeats 4000000 in
theorem list_any (h : iRg w B g n f hi R l) (hone : ∀ u ∈ l, u.oneCell' = true) : Calls Try.prog 64 #[iP B] w fun e w' => ∃ X cap, e = .returned (.slice (some ⟨X, 0, none⟩) l.length cap) ∧ w'.ownsRow w.heap.size 3 1 (.slice (some ⟨X, 0, none⟩) l.length cap) l.length l ∧ Below w.heap.size w w' := by
  obtain ⟨i0, hi0, hz0, hz1, hz2⟩ := info_parts iinfo
  have hm := h.m
  have hle := h.lle
  have hk : ∀ w1, Below w.heap.size w w1 → w1.cell? ⟨B, 3, none⟩ = some (I l.length) ∧ ∃ w2, (Instr.makeSlice 76 (I 0) (I l.length)).run Try.prog w1 = .ok (.slice (some ⟨w1.heap.size, 0, none⟩) 0 l.length) w2 ∧ w2.ownsRow w.heap.size 3 1 (.slice (some ⟨w1.heap.size, 0, none⟩) 0 l.length) 0 [] ∧ Below w.heap.size w w2 := fun w1 b1 => by
    refine ⟨(h.below b1).cells.2.2.2.1, ?_⟩
    obtain ⟨w2, hmk, hO2, hg2⟩ := run_make_own (P := Try.prog) w1 w.heap.size 76 3 i0 (.int .i64 0) 1 Try.underlying76 hi0 hz0 hz1 .i64 .i64 l.length (by rw [hz2]; omega) (by unfold maxLen; omega) b1.size
    exact ⟨w2, hmk, hO2, b1.grown hg2 b1.size (fun k e => by cases e)⟩
  by_cases hx : f + l.length ≤ n
  · have hp := parts_one h hx
    go_enter Try.func64, Try.ntmps64
    go_wp2_with (first
      | (go_at_call 62; refine hp.mono ?_; rintro e w1 ⟨rfl, b1⟩; obtain ⟨c3, w2, hmk, hO2, b2⟩ := hk w1 b1)
      | (at_builtin; refine wpList_append_own _ rfl (.tmp 16) (.tmp 17) 76 rfl w.heap.size 3 i0 (.int .i64 0) 1 8 Try.underlying76 hi0 hz0 hz1 hz2 rfl (by decide) _ _ _ rfl hO2 ⟨g, f, none⟩ l.length (n - f) l rfl (by simp) ((h.below b2).one hx) hone (by unfold maxLen; omega) (by omega) b2.size ?_; intro v3 w3 h3 hg3 hn3; have b3 := b2.grown hg3 b2.size (fun k e => by cases e; exact b1.size); rw [Nat.zero_add, List.nil_append] at h3; have n3 : v3 ≠ .slice none 0 0 := (fun e => by have := (hn3.1 e).1; cases this); clear hmk hg3 hO2 c3 hn3)
      | (at_builtin; refine wpList_append_own_none rfl (.tmp 18) (.tmp 19) 76 rfl w.heap.size 3 i0 1 Try.underlying76 hi0 _ _ _ rfl h3 rfl ?_))
    go_ret
    obtain ⟨X, cap, rfl⟩ := own_some h3 n3
    exact ⟨X, cap, rfl, h3, b3⟩
  · have hx2 : n < f + l.length := by omega
    have hp := parts_two h hx2
    have HL : Hid (R.drop f ++ R.take (f + l.length - n) = l) := h.twoL hx2
    have hf2 : f < n := by have := h.hf; omega
    have l1 : (R.drop f).length = n - f := by simp [h.k]
    have l2 : (R.take (f + l.length - n)).length = f + l.length - n := by simp [h.k]; omega
    have o1 : ∀ u ∈ R.drop f, u.oneCell' = true := fun u hu => hone u (by rw [← HL.out]; exact List.mem_append_left _ hu)
    have o2 : ∀ u ∈ R.take (f + l.length - n), u.oneCell' = true := fun u hu => hone u (by rw [← HL.out]; exact List.mem_append_right _ hu)
    have hg := h.lts.2
    go_enter Try.func64, Try.ntmps64
    go_wp2_with (first
      | (go_at_call 62; refine hp.mono ?_; rintro e w1 ⟨rfl, b1⟩; obtain ⟨c3, w2, hmk, hO2, b2⟩ := hk w1 b1)
      | (at_builtin; refine wpList_append_own _ rfl (.tmp 16) (.tmp 17) 76 rfl w.heap.size 3 i0 (.int .i64 0) 1 8 Try.underlying76 hi0 hz0 hz1 hz2 rfl (by decide) _ _ _ rfl hO2 ⟨g, f, none⟩ (n - f) (n - f) (R.drop f) rfl (by simp [h.k]) ((h.below b2).two1) o1 (by unfold maxLen; omega) (by omega) b2.size ?_; intro v3 w3 h3 hg3 hn3; have b3 := b2.grown hg3 b2.size (fun k e => by cases e; exact b1.size); rw [Nat.zero_add, List.nil_append] at h3; have n3 : v3 ≠ .slice none 0 0 := (fun e => by have := (hn3.1 e).1; cases this); clear hmk hg3 hO2 c3 hn3)
      | (at_builtin; refine wpList_append_own _ rfl (.tmp 18) (.tmp 19) 76 rfl w.heap.size 3 i0 (.int .i64 0) 1 8 Try.underlying76 hi0 hz0 hz1 hz2 rfl (by decide) _ _ _ rfl h3 ⟨g, 0, none⟩ (f + l.length - n) n (R.take (f + l.length - n)) rfl (by rw [Nat.mul_one]; exact l2) ((h.below b3).two2 _) o2 (by unfold maxLen; omega) (by omega) b3.size ?_; intro v4 w4 h4 hg4 hn4; have b4 := b3.grown hg4 b3.size (fun k e => (h3.lt k e).1); rw [HL.out] at h4; have n4 : v4 ≠ .slice none 0 0 := (fun e => n3 (hn4.1 e).1); clear hg4 h3 hn4))
    go_ret
    rw [show n - f + (f + l.length - n) = l.length by omega] at h4
    obtain ⟨X, cap, rfl⟩ := own_some h4 n4
    exact ⟨X, cap, rfl, h4, b4⟩
end
end Go.Proofs.Yticgikbnlpgnkaa
