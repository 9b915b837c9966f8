import Derived.Test.YtmidaeljeoifdaaGreatDoorThf
namespace Go.Proofs.YtmidaeljeoifdaaGreatDoor
open Go.RowKit Go.Shelf Go.Sort Go.Maps
set_option linter.unusedVariables false
set_option linter.unusedSimpArgs false
set_option maxHeartbeats 8000000
set_option maxRecDepth 100000
theorem those_int (w : World) (s : Sl) (l : List Int) (hl : RowsAt w 1 intP s l) (hll : l.length ≤ 1048576) (f : Nat) (caps : Array Value) (eg : ∀ args W, (callFunc f args).run Tryz.prog W = .ok (.enter f args) W) (p : Int → Bool)
  (hf : ∀ W, Below w.heap.size w W → ∀ x ∈ l, Calls Tryz.prog f (#[I x] ++ caps) W fun e w' => e = .returned (.bool (p x)) ∧ Below W.heap.size W w') :
  Calls Tryz.prog 207 #[.slice s.a s.n s.c, .func (.func f) #[] caps] w fun e w' => (∃ a c, e = .returned (.slice a (l.filter p).length c) ∧ IntsO9 w' w.heap.size (l.filter p) (.slice a (l.filter p).length c)) ∧ Below w.heap.size w w' := by
 obtain ⟨im, him, hm0, hm1, hm2⟩ := info_parts iinfo9
 have HS : Hid (s.n = l.length) := hl.n
 have hsn : s.n ≤ 1048576 := by have := hl.n; omega
 have hsc : s.n ≤ s.c := hl.c
 have hsm : s.c ≤ maxLen := hl.m
 unfold maxLen at hsm
 have HH : Hid (∀ W, Below w.heap.size w W → RowsAt W 1 intP s l) := fun W hW => hl.below hW (fun _ _ _ _ h => h)
 have HFF : Hid (∀ W, Below w.heap.size w W → ∀ x ∈ l, Calls Tryz.prog f (#[I x] ++ caps) W fun e w' => e = .returned (.bool (p x)) ∧ Below W.heap.size W w') := hf
 clear hl hf hll
 go_enter Tryz.func207, Tryz.ntmps207
 go_wp2
 go_loopw [5, 7, 10] (fun ov _ iv wr => ∃ (j q : Nat) (a : Option Addr) (c : Nat), j ≤ s.n ∧ q ≤ j ∧ iv = .int .i64 j ∧ ov = .slice a q c ∧ Hid (q = ((l.take j).filter p).length ∧ IntsO9 wr w.heap.size ((l.take j).filter p) (.slice a q c) ∧ Below w.heap.size w wr)) (fun _ _ iv _ => s.n - (intOf iv).toNat)
 case atStart => exact ⟨0, 0, none, 0, by omega, by omega, rfl, rfl, by simp, World.ownsRow_nil _ _ _ _, Below.refl _ _⟩
 case round =>
  obtain ⟨j, q, a, c, hj, hq, rfl, rfl, HJ⟩ := hrel
  by_cases hlt : j < s.n
  ·have hlt' : (j : Int) < s.n := by omega
   obtain ⟨x, hx⟩ : ∃ x, l[j]? = some x := ⟨_, List.getElem?_eq_getElem (by rw [← HS.out]; exact hlt)⟩
   obtain ⟨g5, o5, e5, hg5, b5⟩ := ints_at9 (HH.out _ HJ.out.2.2) hx
   have cx := HFF.out _ HJ.out.2.2 x (List.mem_of_getElem? hx)
   have HTk : Hid (l.take (j + 1) = l.take j ++ [x]) := by show _ = _; rw [List.take_add_one, hx]; rfl
   rw [e5]
   clear hx e5 hg5
   cases hpx : p x with
   | false =>
    rw [hpx] at cx
    have HJ2 : Hid (q = ((l.take (j + 1)).filter p).length ∧ IntsO9 wr w.heap.size ((l.take (j + 1)).filter p) (.slice a q c) ∧ Below w.heap.size w wr) := by
     have e9 : (l.take (j + 1)).filter p = (l.take j).filter p := by rw [HTk.out, List.filter_append]; simp [hpx]
     rw [e9]; exact HJ.out
    clear HJ
    go_wp2_with (first | fail)
    refine cx.mono ?_
    clear cx
    rintro e7 w7 ⟨rfl, hb7⟩
    have H9 : Hid (q = ((l.take (j + 1)).filter p).length ∧ IntsO9 w7 w.heap.size ((l.take (j + 1)).filter p) (.slice a q c) ∧ Below w.heap.size w w7) := ⟨HJ2.out.1, intsO_below9 HJ2.out.2.1 hb7, HJ2.out.2.2.trans (hb7.mono HJ2.out.2.2.size)⟩
    clear hb7 HJ2
    go_wp2
    go_roundw
    case rel => exact ⟨j + 1, q, a, c, by omega, by omega, by go_num, rfl, H9.out⟩
    case measure => simp [intOf]; omega
   | true =>
    rw [hpx] at cx
    go_wp2_with (first | fail)
    refine cx.mono ?_
    clear cx
    rintro e7 w7 ⟨rfl, hb7⟩
    have o7 : w7.ownsRow w.heap.size 3 1 (.slice a q c) q (((l.take j).filter p).map fun x => I x) := by
     have := intsO_below9 HJ.out.2.1 hb7
     unfold IntsO9 at this
     rw [← HJ.out.1] at this
     exact this
    have B7 : Below w.heap.size w w7 := HJ.out.2.2.trans (hb7.mono HJ.out.2.2.size)
    have HQ : Hid (q = ((l.take j).filter p).length) := HJ.out.1
    have s7 := B7.size
    clear hb7 HJ
    have hnew := cells_new9 w7 #[I x] 3
    generalize hXS : (((l.take j).filter p).map fun x => I x) = XS at *
    go_wp2_with (first
     | (at_builtin; refine wpList_append_own _ rfl (.tmp 17) (.tmp 19) 54 rfl w.heap.size 3 im _ 1 8 Tryz.underlying54 him hm0 hm1 hm2 rfl (by decide) _ _ _ rfl (o7.alloc _) ⟨w7.heap.size, 0, none⟩ 1 1 (#[I x] : Array Value).toList rfl rfl hnew (by intro u hu; simp at hu; subst hu; rfl) (by unfold maxLen; omega) (by omega) (by simp; omega) ?_))
    intro v8 w8 o8 g8 _
    obtain ⟨a8, k8, rfl⟩ := own_slk o8
    have H9 : Hid (q + 1 = ((l.take (j + 1)).filter p).length ∧ IntsO9 w8 w.heap.size ((l.take (j + 1)).filter p) (.slice a8 (q + 1) k8) ∧ Below w.heap.size w w8) := by
     have e9 : (l.take (j + 1)).filter p = (l.take j).filter p ++ [x] := by rw [HTk.out, List.filter_append]; simp [hpx]
     rw [e9]
     refine ⟨by rw [List.length_append, ← HQ.out]; rfl, ?_, (B7.alloc B7.size _).grown g8 (by simp; omega) (fun k e => (o7.lt k e).1)⟩
     unfold IntsO9
     rw [List.length_append, ← HQ.out, List.map_append, hXS]
     exact o8
    clear o8 g8 o7 B7 hnew hXS
    go_wp2
    go_roundw
    case rel => exact ⟨j + 1, q + 1, a8, k8, by omega, by omega, by go_num, rfl, H9.out⟩
    case measure => simp [intOf]; omega
  ·obtain rfl : j = s.n := by omega
   have hlt' : ¬ ((s.n : Nat) : Int) < (s.n : Nat) := by omega
   have HE : Hid (q = (l.filter p).length ∧ IntsO9 wr w.heap.size (l.filter p) (.slice a q c) ∧ Below w.heap.size w wr) := by
    have := HJ.out
    rwa [List.take_of_length_le (by rw [HS.out]; exact Nat.le_refl _)] at this
   clear HJ
   go_wp2
   go_ret
   obtain ⟨h1, h2, h3⟩ := HE.out
   subst h1
   exact ⟨⟨a, c, rfl, h2⟩, h3⟩
end Go.Proofs.YtmidaeljeoifdaaGreatDoor
