import Derived.Test.YtapfbinaocaclaaEeq
namespace Go.Proofs.Ytapfbinaocaclaa
open Go.RowKit Go.Maps
set_option linter.unusedVariables false
set_option linter.unusedSimpArgs false

/-! ### slices.IndexFunc, ContainsFunc of ints -/
def idxI (p : Int → Bool) (l : List Int) : Int := match l.findIdx? p with | some i => (i : Int) | none => -1
theorem idxI_hit {p : Int → Bool} {l : List Int} {j : Nat} {x : Int} (h : (l.take j).any p = false) (hx : l[j]? = some x) (hp : p x = true) : idxI p l = (j : Int) := by
  unfold idxI
  have : l.findIdx? p = some j := by
    rw [List.findIdx?_eq_some_iff_getElem]
    obtain ⟨hj, rfl⟩ := List.getElem?_eq_some_iff.1 hx
    refine ⟨hj, hp, fun k hk => ?_⟩
    rw [List.any_eq_false] at h
    have := h l[k] (List.mem_iff_getElem?.2 ⟨k, by rw [List.getElem?_take, if_pos hk]; exact List.getElem?_eq_getElem (by omega)⟩)
    simpa using this
  rw [this]
theorem idxI_none {p : Int → Bool} {l : List Int} (h : l.any p = false) : idxI p l = -1 := by
  unfold idxI
  have : l.findIdx? p = none := by
    rw [List.findIdx?_eq_none_iff]
    intro x hx
    rw [List.any_eq_false] at h
    simpa using h x hx
  rw [this]
theorem idxI_any (p : Int → Bool) (l : List Int) : decide (0 ≤ idxI p l) = l.any p := by
  unfold idxI
  cases h : l.findIdx? p with
  | none =>
    rw [List.findIdx?_eq_none_iff] at h
    have : l.any p = false := by
      rw [List.any_eq_false]
      intro x hx
      simpa using h x hx
    rw [this]
    rfl
  | some i =>
    rw [List.findIdx?_eq_some_iff_getElem] at h
    obtain ⟨hi, hp, _⟩ := h
    have : l.any p = true := List.any_eq_true.2 ⟨_, List.getElem_mem hi, hp⟩
    rw [this]
    simp
set_option maxHeartbeats 4000000 in
set_option maxRecDepth 100000 in
theorem index_any (w : World) (s : Sl) (l : List Int) (hl : RowsAt w 1 intP s l) (f : Nat) (caps : Array Value) (eg : ∀ args W, (callFunc f args).run Try.prog W = .ok (.enter f args) W) (p : Int → Bool)
    (hf : ∀ W, Below w.heap.size w W → ∀ x ∈ l, Calls Try.prog f (#[I x] ++ caps) W fun e w' => e = .returned (.bool (p x)) ∧ Below W.heap.size W w') :
    Calls Try.prog 56 #[.slice s.a s.n s.c, .func (.func f) #[] caps] w fun e w' => e = .returned (I (idxI p l)) ∧ Below w.heap.size w w' := by
  have HS : Hid (s.n = l.length) := hl.n
  have hsc : s.n ≤ s.c := hl.c
  have hsm : s.c ≤ maxLen := hl.m
  unfold maxLen at hsm
  have HH : Hid (RowsAt w 1 intP s l) := hl
  have HFF : Hid (∀ W, Below w.heap.size w W → ∀ x ∈ l, Calls Try.prog f (#[I x] ++ caps) W fun e w' => e = .returned (.bool (p x)) ∧ Below W.heap.size W w') := hf
  obtain ⟨R, hR⟩ : ∃ R, R = idxI p l := ⟨_, rfl⟩
  rw [← hR]
  have HR : Hid (R = idxI p l) := hR
  clear hl hR hf
  go_enter Try.func56, Try.ntmps56
  go_wp2
  go_loopw [5, 8] (fun _ iv wr => ∃ j : Nat, j ≤ s.n ∧ iv = .int .i64 j ∧ Hid ((l.take j).any p = false ∧ Below w.heap.size w wr)) (fun _ iv _ => s.n - (intOf iv).toNat)
  case atStart => exact ⟨0, by omega, rfl, by simp, Below.refl _ _⟩
  case round =>
    obtain ⟨j, hj, rfl, HJ⟩ := hrel
    by_cases hlt : j < s.n
    · have hlt' : (j : Int) < s.n := by omega
      obtain ⟨x, hx⟩ : ∃ x, l[j]? = some x := ⟨_, List.getElem?_eq_getElem (by rw [← HS.out]; exact hlt)⟩
      obtain ⟨g5, o5, e5, hg5, b5⟩ := ints_at (HH.out.below HJ.out.2 (fun _ _ _ _ h => h)) hx
      have cx := HFF.out _ HJ.out.2 x (List.mem_of_getElem? hx)
      have HA : Hid ((l.take (j + 1)).any p = p x) := by show _ = _; rw [any_take _ _ j _ hx, HJ.out.1, Bool.false_or]
      have HT : Hid (p x = true → R = (j : Int)) := fun ht => by rw [HR.out]; exact idxI_hit HJ.out.1 hx ht
      have HB : Hid (Below w.heap.size w wr) := HJ.out.2
      rw [e5]
      clear hx e5 HJ
      cases he : p x with
      | true =>
        rw [he] at cx
        have HE : Hid (R = (j : Int)) := HT.out he
        clear HT HA
        go_wp2
        refine cx.mono ?_
        clear cx
        rintro e7 w7 ⟨rfl, hb7⟩
        have HB7 : Hid (Below w.heap.size w w7) := HB.out.trans (hb7.mono HB.out.size)
        clear hb7
        go_wp2
        go_ret
        exact ⟨ret_int HE.out.symm, HB7.out⟩
      | false =>
        rw [he] at cx
        have HA2 : Hid ((l.take (j + 1)).any p = false) := by show _ = _; rw [HA.out, he]
        clear HT HA
        go_wp2
        refine cx.mono ?_
        clear cx
        rintro e7 w7 ⟨rfl, hb7⟩
        have HB7 : Hid (Below w.heap.size w w7) := HB.out.trans (hb7.mono HB.out.size)
        clear hb7
        go_wp2
        go_roundw
        case rel => exact ⟨j + 1, by omega, by go_num, HA2.out, HB7.out⟩
        case measure => simp [intOf]; omega
    · obtain rfl : j = s.n := by omega
      have hlt' : ¬ ((s.n : Nat) : Int) < (s.n : Nat) := by omega
      have HE : Hid (R = -1) := by
        show _ = _
        rw [HR.out]
        refine idxI_none ?_
        have := HJ.out.1
        rwa [List.take_of_length_le (by rw [HS.out]; exact Nat.le_refl _)] at this
      have HB : Hid (Below w.heap.size w wr) := HJ.out.2
      clear HR HJ
      go_wp2
      go_ret
      exact ⟨ret_int HE.out.symm, HB.out⟩
set_option maxHeartbeats 4000000 in
set_option maxRecDepth 100000 in
theorem contains_any (w : World) (s : Sl) (l : List Int) (hl : RowsAt w 1 intP s l) (f : Nat) (caps : Array Value) (eg : ∀ args W, (callFunc f args).run Try.prog W = .ok (.enter f args) W) (p : Int → Bool)
    (hf : ∀ W, Below w.heap.size w W → ∀ x ∈ l, Calls Try.prog f (#[I x] ++ caps) W fun e w' => e = .returned (.bool (p x)) ∧ Below W.heap.size W w') :
    Calls Try.prog 36 #[.slice s.a s.n s.c, .func (.func f) #[] caps] w fun e w' => e = .returned (.bool (l.any p)) ∧ Below w.heap.size w w' := by
  have kx := index_any w s l hl f caps eg p hf
  have HA : Hid (decide (0 ≤ idxI p l) = l.any p) := idxI_any p l
  generalize idxI p l = R at *
  clear hl hf eg
  go_enter Try.func36, Try.ntmps36
  go_wp2_with (go_at_call 56; refine kx.mono ?_; clear kx; rintro e w1 ⟨rfl, hb1⟩)
  go_ret
  exact ⟨ret_bool (by rw [← HA.out]), hb1⟩
/-! ### Users: the closures -/
set_option maxHeartbeats 4000000 in
set_option maxRecDepth 100000 in
theorem users1_any (W : World) (c : Cf) (hn : c.ress.length ≤ 8796093022208) (b bf br : Nat) (h2 : BoxM W bf b 72) (j q : Nat) (hr : W.cell? ⟨br, 0, none⟩ = some (I (q : Int))) (hE : EndsAt W b c) (hjn : j < c.ress.length) (hq : q < c.ress.length) :
    Calls Try.prog 33 #[I (j : Int), .pointer (some ⟨bf, 0, none⟩), .pointer (some ⟨br, 0, none⟩)] W fun e w' => e = .returned (.bool (rootN c (j : Int) == rootN c (q : Int))) ∧ Below W.heap.size W w' := by
  have z1 := h2.cell
  have HB : Hid (Below W.heap.size W W) := Below.refl _ _
  obtain ⟨R, hR⟩ : ∃ R, R = (rootN c (j : Int) == rootN c (q : Int)) := ⟨_, rfl⟩
  rw [← hR]
  have HR : Hid (R = (rootN c (j : Int) == rootN c (q : Int))) := hR
  clear hR h2
  go_enter Try.func33, Try.ntmps33
  go_wp2_with (first | (at_lookup; refine wpList_find_g _ _ 72 rfl Try.underlying72 b c rfl hE hn j hjn rfl (by kernel_rfl) ?_; intro e7 HX7; clear hjn) | (at_lookup; refine wpList_find_g _ _ 72 rfl Try.underlying72 b c rfl hE hn q hq rfl (by kernel_rfl) ?_; intro e8 HX8; clear hq))
  go_ret
  refine ⟨ret_bool ?_, HB.out⟩
  rw [HR.out, ← HX7.out, ← HX8.out]
end Go.Proofs.Ytapfbinaocaclaa
