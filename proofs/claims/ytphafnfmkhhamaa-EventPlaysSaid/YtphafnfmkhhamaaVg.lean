import Derived.Test.YtphafnfmkhhamaaVf
namespace Go.Proofs.Ytphafnfmkhhamaa
open Go.RowKit
set_option linter.unusedVariables false
set_option linter.unusedSimpArgs false

section
variable {w : World} {B n : Nat} {f : Nat → Et}
set_option maxRecDepth 100000 in
theorem New_big (w : World) (a : Option Addr) (n c : Nat) (hn : 256 < n) : Calls Try.prog 6 #[.slice a n c] w fun e w' => e = .returned (.tuple #[.pointer none, I 150]) ∧ w = w' := by
  have h1 : (256 : Int) < n := by omega
  go_enter Try.func6, Try.ntmps6
  go_wp2
  go_ret2
  exact ⟨rfl, rfl⟩
/-- the tasks that masks make -/
def tsk (l : List Int) (i : Nat) : Et := if l.getD i 0 ≠ 0 then et1 else et0
def tskTo (l : List Int) (k : Nat) (i : Nat) : Et := if i < k then tsk l i else et0
theorem tskTo_zero (l : List Int) : tskTo l 0 = fun _ => et0 := by funext i; simp [tskTo]
theorem tskTo_all (l : List Int) : tskTo l l.length = tsk l := by
  funext i
  unfold tskTo
  split
  · rfl
  · unfold tsk
    rw [List.getD_eq_getElem?_getD, List.getElem?_eq_none (by omega)]
    rfl
theorem tskTo_skip {l : List Int} {k : Nat} (h : l[k]? = some 0) : tskTo l (k + 1) = tskTo l k := by
  funext i
  unfold tskTo
  by_cases e : i < k
  · rw [if_pos e, if_pos (by omega)]
  · rw [if_neg e]
    split
    · obtain rfl : i = k := by omega
      unfold tsk
      rw [List.getD_eq_getElem?_getD, h]
      rfl
    · rfl
theorem tskTo_put {l : List Int} {k : Nat} {v : Int} (h : l[k]? = some v) (hv : v ≠ 0) : tskTo l (k + 1) = upf (tskTo l k) k et1 := by
  funext i
  show (if i < k + 1 then tsk l i else et0) = if i = k then et1 else if i < k then tsk l i else et0
  by_cases e : i = k
  · subst e
    rw [if_pos (by omega), if_pos rfl]
    unfold tsk
    rw [List.getD_eq_getElem?_getD, h]
    simp [hv]
  · rw [if_neg e]
    by_cases e2 : i < k
    · rw [if_pos e2, if_pos (by omega)]
    · rw [if_neg e2, if_neg (by omega)]
theorem tab_set (n : Int) : ((tabA false 0).setIfInBounds 0 (.bool true)).setIfInBounds 1 (I n) = tabA true n := by
  unfold tabA tabL
  simp only [List.setIfInBounds_toArray, List.set_cons_zero, List.set_cons_succ]
set_option maxRecDepth 100000 in
theorem New_ok (w : World) (a : Option Addr) (c : Nat) (l : List Int) (hl : l.length ≤ 256) (hc : ∀ j v, l[j]? = some v → ∃ g off, a = some ⟨g, off, none⟩ ∧ g < w.heap.size ∧ w.cell? ⟨g, off + j, none⟩ = some (U v)) :
    Calls Try.prog 6 #[.slice a l.length c] w fun e w' => e = .returned (.tuple #[eP w.heap.size, I 0]) ∧ Ev w' w.heap.size l.length (tsk l) ∧ Below w.heap.size w w' := by
  have h1 : ¬ ((256 : Int) < l.length) := by omega
  have hb0 := below_alloc w (.cells (tabA true l.length) 46)
  have E0 := ev_new hl (heap_alloc_new w (.cells (tabA true l.length) 46))
  rw [← tab_set] at hb0 E0
  have HI : Hid (Ev (w.alloc (.cells (((tabA false 0).setIfInBounds 0 (.bool true)).setIfInBounds 1 (I l.length)) 46)) w.heap.size l.length (tskTo l 0) ∧ Below w.heap.size w (w.alloc (.cells (((tabA false 0).setIfInBounds 0 (.bool true)).setIfInBounds 1 (I l.length)) 46))) := ⟨by rw [tskTo_zero]; exact E0, hb0⟩
  clear E0 hb0
  have hz : ∀ w, (zeroValue 46).run Try.prog w = .ok (.agg (tabA false 0)) w := (zero_of_info info46).1
  have hsz : (tabA false 0).size = 1026 := tabA_size _ _
  go_enter Try.func6, Try.ntmps6
  go_upto_region 4 with (first | fail)
  generalize (w.alloc (.cells (((tabA false 0).setIfInBounds 0 (.bool true)).setIfInBounds 1 (I l.length)) 46)) = w1 at *
  clear hz hsz
  generalize ((tabA false 0).setIfInBounds 0 (.bool true)).setIfInBounds 1 (I l.length) = gg at *
  go_wp2
  go_loopw [16] (fun i wr => ∃ k : Nat, k ≤ l.length ∧ i = I k ∧ Hid (Ev wr w.heap.size l.length (tskTo l k) ∧ Below w.heap.size w wr)) (fun i _ => l.length - (intOf i).toNat)
  case atStart => exact ⟨0, by omega, rfl, HI.out⟩
  case round =>
    clear HI
    obtain ⟨k, hk, rfl, HJ⟩ := hrel
    by_cases hlt : k < l.length
    · have hltI : (k : Int) < l.length := by omega
      obtain ⟨v, hv⟩ : ∃ v, l[k]? = some v := ⟨_, List.getElem?_eq_getElem hlt⟩
      obtain ⟨g, off, rfl, hg, hcell⟩ := hc k v hv
      have hcell2 : wr.cell? ⟨g, off + k, none⟩ = some (U v) := (HJ.out.2.cell (p := ⟨g, off + k, none⟩) hg).trans hcell
      by_cases h0 : v = 0
      · subst h0
        go_wp2
        go_roundw
        case rel => exact ⟨k + 1, by omega, by go_num, by rw [tskTo_skip hv]; exact HJ.out⟩
        case measure => simp [intOf]; omega
      · have h256 : k < 256 := by omega
        have hkI : (k : Int) < 256 := by omega
        have HJ2 : Hid (Ev wr.drew w.heap.size l.length (tskTo l k) ∧ Below w.heap.size w wr.drew) := ⟨HJ.out.1.below (Below.refl _ _).drew, HJ.out.2.drew⟩
        clear HJ
        go_wp2
        go_region_held_law (fun _ => True) (first | trivial) (first | (go_at_call 26; refine (fresh_bel _).mono ?_; rintro e w2 ⟨rfl, hb⟩; have E2 := HJ2.out.1.below hb; have B2 : Below w.heap.size w w2 := HJ2.out.2.trans (hb.mono HJ2.out.2.size); clear hb HJ2; obtain ⟨fz, a0, a1, a2, a3⟩ := E2.ask4 h256))
        all_goals
          have H9 : Hid (Ev (fr4 w2 w.heap.size k) w.heap.size l.length (tskTo l (k + 1)) ∧ Below w.heap.size w (fr4 w2 w.heap.size k)) := ⟨by rw [tskTo_put hv h0]; exact E2.fr4 h256, B2.trans ((fx_fr4 w2 w.heap.size k).below B2.size (by simp))⟩
          go_wp2
          go_roundw
          case rel => exact ⟨k + 1, by omega, by go_num, H9.out⟩
          case measure => simp [intOf]; omega
    · obtain rfl : k = l.length := by omega
      have hge : ¬ ((l.length : Int) < l.length) := by omega
      go_wp2
      go_ret2
      exact ⟨rfl, by rw [← tskTo_all]; exact HJ.out.1, HJ.out.2⟩
end
end Go.Proofs.Ytphafnfmkhhamaa
