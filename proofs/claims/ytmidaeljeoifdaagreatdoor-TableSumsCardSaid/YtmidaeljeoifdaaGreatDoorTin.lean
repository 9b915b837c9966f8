import Derived.Test.YtmidaeljeoifdaaGreatDoorTim
import Derived.Test.YtmidaeljeoifdaaGreatDoorTsh
namespace Go.Proofs.YtmidaeljeoifdaaGreatDoor
open Go.RowKit Go.Shelf Go.Sort Go.Maps
set_option linter.unusedVariables false
set_option linter.unusedSimpArgs false
set_option maxHeartbeats 8000000
set_option maxRecDepth 100000
def cfD9 (x y : Int) : Int := Lib.compareInt y x
theorem lt_cf9 (x y : Int) : ltOf cfD9 x y = decide (y < x) := by
 unfold ltOf cfD9 Lib.compareInt
 by_cases h1 : y < x
 ·simp [h1]
 ·by_cases h2 : x < y <;> simp [h1, h2]
theorem swo_cf9 : SWO (ltOf cfD9) where
 irrefl x := by rw [lt_cf9]; simp
 trans x y z h1 h2 := by rw [lt_cf9] at *; simp at *; omega
 ntrans x y z h1 h2 := by rw [lt_cf9] at *; simp at *; omega
theorem tot_cf9 (x y : Int) (h1 : ltOf cfD9 x y = false) (h2 : ltOf cfD9 y x = false) : x = y := by rw [lt_cf9] at *; simp at *; omega
theorem le_cf9 : (fun x y : Int => !ltOf cfD9 y x) = fun x y => decide (y ≤ x) := by
 funext x y
 rw [lt_cf9]
 by_cases h : y ≤ x
 ·have h' : ¬ x < y := by omega
  simp [h, h']
 ·have h' : x < y := by omega
  simp [h, h']
theorem prio2_any (x y : Int) (W : World) : Calls Tryz.prog 139 #[.int .i64 x, .int .i64 y] W fun e w' => e = .returned (.int .i64 (cfD9 x y)) ∧ ∃ q, w' = W.drewN q := by
 have hcon := AnyG.cmp_Compare_int Tryz.cmpL y x W
 change Calls Tryz.prog 140 _ _ _ at hcon
 unfold cfD9
 generalize Lib.compareInt y x = r at hcon ⊢
 go_enter Tryz.func139, Tryz.ntmps139
 go_wp2_with (go_at_call 140; refine hcon.mono ?_; rintro e w' ⟨rfl, rfl⟩)
 go_ret
 exact ⟨rfl, 0, rfl⟩
theorem sort_any9 (w : World) (base : Nat) (l : List Int) (a : Option Addr) (c : Nat) (h : IntsO9 w base l (.slice a l.length c)) (hl : l.length ≤ 1048576) (hbw : base ≤ w.heap.size) :
  Calls Tryz.prog 138 #[.slice a l.length c, .func (.func 139) #[] #[]] w fun e w' => e = .returned (.tuple #[]) ∧ IntsO9 w' base (l.mergeSort fun x y => decide (y ≤ x)) (.slice a l.length c) ∧ Below base w w' := by
 cases a with
 | none =>
  have h0 : l.length = 0 ∧ c = 0 := by
   obtain ⟨_, ⟨h2, h3⟩ | ⟨g', cap', cur, hv, _⟩⟩ := h
   ·injection h2 with _ h5 h6; exact ⟨h3, h6⟩
   ·cases hv
  obtain rfl : l = [] := List.length_eq_zero_iff.1 h0.1
  have hS := AnyF.slices_SortFunc_none (P := Tryz.prog) (ρ := Tryz.sortL_ren) { Tryz.sortL with } none c (.func (.func 139) #[] #[]) w
  change Calls Tryz.prog 138 _ _ _ at hS
  refine hS.mono ?_
  rintro e w' ⟨rfl, rfl⟩
  exact ⟨rfl, by simpa using h, Below.refl _ _⟩
 | some ad =>
  obtain ⟨g, off, ot⟩ := ad
  have h0 : off = 0 ∧ ot = none := by
   obtain ⟨_, ⟨h2, h3⟩ | ⟨g', cap', cur, hv, _⟩⟩ := h
   ·cases h2
   ·cases hv; exact ⟨rfl, rfl⟩
  obtain ⟨rfl, rfl⟩ := h0
  obtain ⟨hH, hg, hbg, hlc, hcm, cur, hcur, hcs⟩ := holds_own9 h
  have hS := Any.slices_SortFunc_total Tryz.sortL (Value.int .i64) (fun _ => rfl) cfD9 swo_cf9 139 #[] g 0 c l.toArray w (enters_of Tryz.func139 (by kernel_rfl) rfl) (CmpReads.lays (fun _ _ _ _ x y => prio2_any x y _)) hH hg (by simp; omega) tot_cf9
  rw [le_cf9] at hS
  change Calls Tryz.prog 138 _ _ _ at hS
  refine Calls.mono (by simpa using hS) ?_
  rintro e w' ⟨rfl, n, os, rfl⟩
  have hp := put_own9 w g cur c n os (l.mergeSort fun x y => decide (y ≤ x)) hcur hcs (by simpa using hlc)
  obtain ⟨⟨cur', hc1, hc2, hc3⟩, hgr⟩ := hp
  refine ⟨rfl, ?_, below_of_grown hgr hbg hbw⟩
  refine ⟨by simp, Or.inr ⟨g, c, cur', by rw [List.length_mergeSort], hbg, ?_, ?_, hcm, by rw [hc2, Nat.mul_one], by rw [Nat.mul_one]; exact hc3⟩⟩
  ·exact hc1
  ·simpa using hlc
theorem compact_any9 (w : World) (base : Nat) (l : List Int) (a : Option Addr) (c : Nat) (h : IntsO9 w base l (.slice a l.length c)) (hl : l.length ≤ 1048576) (hbw : base ≤ w.heap.size) :
  Calls Tryz.prog 141 #[.slice a l.length c] w fun e w' => e = .returned (.slice a (Lib.compact l).length c) ∧ IntsO9 w' base (Lib.compact l) (.slice a (Lib.compact l).length c) ∧ Below base w w' := by
 cases a with
 | none =>
  have h0 : l.length = 0 ∧ c = 0 := by
   obtain ⟨_, ⟨h2, h3⟩ | ⟨g', cap', cur, hv, _⟩⟩ := h
   ·injection h2 with _ h5 h6; exact ⟨h3, h6⟩
   ·cases hv
  obtain rfl : l = [] := List.length_eq_zero_iff.1 h0.1
  have hS := Any.slices_Compact_int_empty Tryz.lays2_20 none c w
  change Calls Tryz.prog 141 _ _ _ at hS
  refine hS.mono ?_
  rintro e w' ⟨rfl, rfl⟩
  exact ⟨rfl, h, Below.refl _ _⟩
 | some ad =>
  obtain ⟨g, off, ot⟩ := ad
  have h0 : off = 0 ∧ ot = none := by
   obtain ⟨_, ⟨h2, h3⟩ | ⟨g', cap', cur, hv, _⟩⟩ := h
   ·cases h2
   ·cases hv; exact ⟨rfl, rfl⟩
  obtain ⟨rfl, rfl⟩ := h0
  obtain ⟨hH, hg, hbg, hlc, hcm, cur, hcur, hcs⟩ := holds_own9 h
  have hS := Any.slices_Compact_int Tryz.lays2_20 g 0 c l w hH (by omega) hlc
  change Calls Tryz.prog 141 _ _ _ at hS
  refine hS.mono ?_
  rintro e w' ⟨rfl, q, rfl⟩
  have hcl := comp_len9 l
  have hp := put_own9 w g cur c q #[] (Lib.compact l ++ List.replicate (l.length - (Lib.compact l).length) 0) hcur hcs (by simp; omega)
  rw [grow_empty] at hp
  obtain ⟨⟨cur', hc1, hc2, hc3⟩, hgr⟩ := hp
  refine ⟨rfl, ?_, below_of_grown hgr hbg hbw⟩
  refine ⟨by simp, Or.inr ⟨g, c, cur', rfl, hbg, hc1, by omega, hcm, by rw [hc2, Nat.mul_one], ?_⟩⟩
  rw [Nat.mul_one]
  have e1 := congrArg (List.take (Lib.compact l).length) hc3
  rw [List.take_take, Nat.min_eq_left (by simp), List.map_append, List.take_left' (by simp)] at e1
  exact e1
theorem ints_of_rwx9 {l : List Int} {xs : List Value} (h : RwX 1 intP l xs) : xs = l.map fun x => I x := by
 have h1 := h.n
 rw [Nat.mul_one] at h1
 apply List.ext_getElem?
 intro j
 rw [List.getElem?_map]
 cases e : l[j]? with
 | none =>
  rw [List.getElem?_eq_none_iff] at e
  rw [List.getElem?_eq_none (by omega)]
  rfl
 | some x =>
  obtain ⟨u, h2, h3⟩ := h.at' j x e 0 (by omega)
  rw [Nat.mul_one, Nat.add_zero] at h2
  rw [h2]
  exact congrArg some h3
theorem prios_any (w : World) (s : Sl) (l : List Tk) (h : RowsAt w 8 (tkP w) s l) (hl : l.length ≤ 1048576) : Calls Tryz.prog 83 #[.slice s.a s.n s.c] w fun e w' => (∃ a c, e = .returned (.slice a (prL9 l).length c) ∧ IntsO9 w' w.heap.size (prL9 l) (.slice a (prL9 l).length c)) ∧ Below w.heap.size w w' := by
 have k1 := rows_Task_int w s l h hl 137 #[] (enters_of Tryz.func137 (by kernel_rfl) rfl) (fun x => x.prio) (fun W hW y hy s4 h4 s5 h5 s6 h6 s7 h7 => prio1_any W y s4 s5 s6 s7)
 have HP : Hid (prL9 l = Lib.compact ((l.map fun x => x.prio).mergeSort fun x y => decide (y ≤ x))) := rfl
 have HL : Hid ((l.map fun x => x.prio).length = l.length) := by show _ = _; simp
 have HM : Hid (((l.map fun x => x.prio).mergeSort fun x y => decide (y ≤ x)).length = l.length) := by show _ = _; simp
 have k2 : ∀ (W : World) (a : Option Addr) (c : Nat), IntsO9 W w.heap.size (l.map fun x => x.prio) (.slice a l.length c) → w.heap.size ≤ W.heap.size → Calls Tryz.prog 138 #[.slice a l.length c, .func (.func 139) #[] #[]] W fun e w' => e = .returned (.tuple #[]) ∧ IntsO9 w' w.heap.size ((l.map fun x => x.prio).mergeSort fun x y => decide (y ≤ x)) (.slice a l.length c) ∧ Below w.heap.size W w' := fun W a c hi hs => by
  have := sort_any9 W w.heap.size (l.map fun x => x.prio) a c (by rw [HL.out]; exact hi) (by rw [HL.out]; exact hl) hs
  rw [HL.out] at this
  exact this
 have k3 : ∀ (W : World) (a : Option Addr) (c : Nat), IntsO9 W w.heap.size ((l.map fun x => x.prio).mergeSort fun x y => decide (y ≤ x)) (.slice a l.length c) → w.heap.size ≤ W.heap.size → Calls Tryz.prog 141 #[.slice a l.length c] W fun e w' => e = .returned (.slice a (prL9 l).length c) ∧ IntsO9 w' w.heap.size (prL9 l) (.slice a (prL9 l).length c) ∧ Below w.heap.size W w' := fun W a c hi hs => by
  have := compact_any9 W w.heap.size ((l.map fun x => x.prio).mergeSort fun x y => decide (y ≤ x)) a c (by rw [HM.out]; exact hi) (by rw [HM.out]; exact hl) hs
  rw [HM.out] at this
  exact this
 generalize hms : ((l.map fun x => x.prio).mergeSort fun x y => decide (y ≤ x)) = ms at *
 clear hms
 go_enter Tryz.func83, Tryz.ntmps83
 go_wp2_with (first
  | (go_at_call 136; refine k1.mono ?_; clear k1; rintro e w1 ⟨⟨a1, c1, xs, rfl, o1, x1⟩, b1⟩; have i1 : IntsO9 w1 w.heap.size (l.map fun x => x.prio) (.slice a1 l.length c1) := (by rw [ints_of_rwx9 x1] at o1; unfold IntsO9; rw [HL.out]; exact o1); have B1 : Hid (Below w.heap.size w w1) := b1; have k2' := k2 w1 a1 c1 i1 b1.size; clear k2 x1 o1 i1 b1)
  | (go_at_call 138; refine k2'.mono ?_; clear k2'; rintro e w2 ⟨rfl, i2, b2⟩; have B2 : Hid (Below w.heap.size w w2) := B1.out.trans b2; have k3' := k3 w2 a1 c1 i2 B2.out.size; clear k3 i2 b2)
  | (go_at_call 141; refine k3'.mono ?_; clear k3'; rintro e w3 ⟨rfl, i3, b3⟩; have H3 : Hid (IntsO9 w3 w.heap.size (prL9 l) (.slice a1 (prL9 l).length c1) ∧ Below w.heap.size w w3) := ⟨i3, B2.out.trans b3⟩; clear i3 b3))
 go_ret
 exact ⟨⟨a1, c1, rfl, H3.out.1⟩, H3.out.2⟩
end Go.Proofs.YtmidaeljeoifdaaGreatDoor
