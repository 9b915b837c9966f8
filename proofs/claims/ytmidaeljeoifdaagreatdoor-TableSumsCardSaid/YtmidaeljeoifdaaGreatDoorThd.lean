import Derived.Test.YtmidaeljeoifdaaGreatDoorThc
namespace Go.Proofs.YtmidaeljeoifdaaGreatDoor
set_option maxRecDepth 100000
set_option maxHeartbeats 16000000
open Go.RowKit Go.Shelf Go.Sort Go.Maps
set_option linter.unusedVariables false
set_option linter.unusedSimpArgs false
structure UsR where
 said : Bool
 bit : Int
def usP (x : UsR) (i : Nat) (u : Value) : Prop := match i with | 0 => u = .bool x.said | _ => u = I x.bit
def usC (x : UsR) : Array Value := #[.bool x.said, I x.bit]
theorem uinfo9 : (Tryz.prog.info? 219).map (fun i => (i.zero, i.size, i.bytes)) = some (some (.agg #[.bool false, I 0]), 2, 16) := by kernel_rfl
def flatU (l : List UsR) : List Value := l.flatMap (fun x => (usC x).toList)
theorem flatU_snoc (l : List UsR) (x : UsR) : flatU (l ++ [x]) = flatU l ++ (usC x).toList := by simp [flatU]
theorem flatU_at : ∀ (l : List UsR) (j : Nat) (x : UsR) (i : Nat) (u : Value), l[j]? = some x → (usC x)[i]? = some u → i < 2 → (flatU l)[j * 2 + i]? = some u
 | [], j, x, i, u, h, _, _ => by simp at h
 | y :: r, 0, x, i, u, h, hu, hi => by
  cases h
  have h8 : ((usC y).toList).length = 2 := rfl
  rw [flatU, List.flatMap_cons, Nat.zero_mul, Nat.zero_add, List.getElem?_append_left (by omega)]
  rw [Array.getElem?_toList]
  exact hu
 | y :: r, j + 1, x, i, u, h, hu, hi => by
  have ih := flatU_at r j x i u (by simpa using h) hu hi
  have h8 : ((usC y).toList).length = 2 := rfl
  rw [flatU, List.flatMap_cons, List.getElem?_append_right (by omega), show (j + 1) * 2 + i - ((usC y).toList).length = j * 2 + i by omega]
  exact ih
theorem rows_of_ownU {w : World} {b : Nat} {a : Option Addr} {c : Nat} {l : List UsR} (hl : l.length ≤ 1048576) (h : w.ownsRow b 219 2 (.slice a l.length c) l.length (flatU l)) : RowsAt w 2 usP ⟨a, l.length, c⟩ l := by
 rcases h.2 with ⟨h1, h0⟩ | ⟨g, cap, cur, h1, hb, hg, hnc, hcm, hcs, ht⟩
 ·have hn : l = [] := List.eq_nil_of_length_eq_zero h0
  subst hn
  injection h1 with e1 e2 e3
  subst e1 e3
  exact ⟨rfl, Nat.le_refl _, Nat.zero_le _, fun j x hj => by simp at hj⟩
 ·injection h1 with e1 e2 e3
  subst e1 e3
  refine ⟨rfl, hnc, hcm, fun j x hj => ⟨g, 0, rfl, heap_lt hg, fun i hi => ?_⟩⟩
  have hjl := (List.getElem?_eq_some_iff.1 hj).1
  have h8 : (usC x).size = 2 := rfl
  obtain ⟨u, hu⟩ : ∃ u, (usC x)[i]? = some u := ⟨_, Array.getElem?_eq_getElem (by omega)⟩
  refine ⟨u, ?_, ?_⟩
  ·rw [Nat.zero_add, h.cellAt (j * 2 + i) (by omega)]
   exact flatU_at l j x i u hj hu hi
  ·rcases (by omega : i = 0 ∨ i = 1) with e | e <;> (subst e; cases hu; rfl)
theorem those_use (w : World) (s : Sl) (l : List UsR) (hl : ∀ W, Below w.heap.size w W → RowsAt W 2 usP s l) (hll : l.length ≤ 1048576) (f : Nat) (caps : Array Value) (eg : ∀ args W, (callFunc f args).run Tryz.prog W = .ok (.enter f args) W) (p : UsR → Bool)
  (hf : ∀ W, Below w.heap.size w W → ∀ x ∈ l, Calls Tryz.prog f (#[.agg #[.bool x.said, I x.bit]] ++ caps) W fun e w' => e = .returned (.bool (p x)) ∧ Below W.heap.size W w') :
  Calls Tryz.prog 143 #[.slice s.a s.n s.c, .func (.func f) #[] caps] w fun e w' => (∃ a c, e = .returned (.slice a (l.filter p).length c) ∧ RowsAt w' 2 usP ⟨a, (l.filter p).length, c⟩ (l.filter p)) ∧ Below w.heap.size w w' := by
 obtain ⟨im, him, hm0, hm1, hm2⟩ := info_parts uinfo9
 have h0 := hl w (Below.refl _ _)
 have HS : Hid (s.n = l.length) := h0.n
 have hsc : s.n ≤ s.c := h0.c
 have hsm : s.c ≤ maxLen := h0.m
 unfold maxLen at hsm
 have HH : Hid (∀ W, Below w.heap.size w W → RowsAt W 2 usP s l) := hl
 have HFF : Hid (∀ W, Below w.heap.size w W → ∀ x ∈ l, Calls Tryz.prog f (#[.agg #[.bool x.said, I x.bit]] ++ caps) W fun e w' => e = .returned (.bool (p x)) ∧ Below W.heap.size W w') := hf
 have HLL : Hid (l.length ≤ 1048576) := hll
 clear hl hf h0 hll
 go_enter Tryz.func143, Tryz.ntmps143
 go_wp2
 go_loopw [5, 7, 10] (fun ov _ iv wr => ∃ (j q : Nat) (a : Option Addr) (c : Nat), j ≤ s.n ∧ iv = .int .i64 j ∧ ov = .slice a q c ∧ Hid (q = ((l.take j).filter p).length ∧ wr.ownsRow w.heap.size 219 2 (.slice a q c) q (flatU ((l.take j).filter p)) ∧ Below w.heap.size w wr)) (fun _ _ iv _ => s.n - (intOf iv).toNat)
 case atStart => exact ⟨0, 0, none, 0, by omega, rfl, rfl, by simp, World.ownsRow_nil _ _ _ _, Below.refl _ _⟩
 case round =>
  obtain ⟨j, q, a, c, hj, rfl, rfl, HJ⟩ := hrel
  by_cases hlt : j < s.n
  ·have hlt' : (j : Int) < s.n := by omega
   obtain ⟨x, hx⟩ : ∃ x, l[j]? = some x := ⟨_, List.getElem?_eq_getElem (by rw [← HS.out]; exact hlt)⟩
   obtain ⟨g5, o5, e5, hg5, hr5⟩ := (HH.out _ HJ.out.2.2).row j x hx
   obtain ⟨u0, a0, q0⟩ := hr5 0 (by omega)
   obtain ⟨u1, a1, q1⟩ := hr5 1 (by omega)
   have f0 : u0 = .bool x.said := q0
   have f1 : u1 = I x.bit := q1
   subst f0 f1
   rw [Nat.add_zero] at a0
   have bX : Below wr.heap.size wr (wr.alloc (.cells #[.bool x.said, I x.bit] 219)) := below_alloc wr _
   have bW : Below w.heap.size w (wr.alloc (.cells #[.bool x.said, I x.bit] 219)) := HJ.out.2.2.trans (bX.mono HJ.out.2.2.size)
   have hXX := heap_alloc_new wr (.cells #[.bool x.said, I x.bit] 219)
   have cx := HFF.out _ bW x (List.mem_of_getElem? hx)
   have oX := own_below HJ.out.2.1 bX
   have HTk : Hid (l.take (j + 1) = l.take j ++ [x]) := by show _ = _; rw [List.take_add_one, hx]; rfl
   have HQ : Hid (q = ((l.take j).filter p).length ∧ q ≤ 1048576) := ⟨HJ.out.1, by
    have h1 := HJ.out.1
    have h2 := List.length_filter_le p (l.take j)
    have h3 := HLL.out
    rw [List.length_take] at h2
    omega⟩
   rw [e5]
   clear hx e5 hr5 q0 q1 HJ
   go_upto_region 5 with fail
   generalize wr.heap.size = X at *
   generalize (wr.alloc (.cells #[.bool x.said, I x.bit] 219)) = W0 at *
   have HXX : Hid (∀ W, Below W0.heap.size W0 W → W.heap[X]? = some (.cells #[.bool x.said, I x.bit] 219)) := fun W hW => (hW.block X (heap_lt hXX)).trans hXX
   have hi97 : (Tryz.prog.info? 219).map (·.size) = some (#[.bool x.said, I x.bit] : Array Value).size := by kernel_rfl
   have HO : Hid (∀ W, Below W0.heap.size W0 W → W.ownsRow w.heap.size 219 2 (.slice a q c) q (flatU ((l.take j).filter p))) := fun W hW => own_below oX hW
   have HBW : Hid (Below w.heap.size w W0) := bW
   clear oX bW bX
   cases hpx : p x with
   | false =>
    rw [hpx] at cx
    go_wp2_with (first
     | (refine wpList_load_row rfl 219 _ rfl X rfl 219 _ (0, 0) _ hXX Tryz.underlying219 rfl hi97 ?_))
    refine cx.mono ?_
    clear cx
    rintro e7 w7 ⟨rfl, hb7⟩
    have H9 : Hid (q = ((l.take (j + 1)).filter p).length ∧ w7.ownsRow w.heap.size 219 2 (.slice a q c) q (flatU ((l.take (j + 1)).filter p)) ∧ Below w.heap.size w w7) := by
     have e9 : (l.take (j + 1)).filter p = (l.take j).filter p := by rw [HTk.out, List.filter_append]; simp [hpx]
     rw [e9]
     exact ⟨HQ.out.1, HO.out w7 hb7, HBW.out.trans (hb7.mono HBW.out.size)⟩
    clear hb7
    go_wp2
    go_roundw
    case rel => exact ⟨j + 1, q, a, c, by omega, by go_num, rfl, H9.out⟩
    case measure => simp [intOf]; omega
   | true =>
    rw [hpx] at cx
    go_wp2_with (first
     | (refine wpList_load_row rfl 219 _ rfl X rfl 219 _ (0, 0) _ hXX Tryz.underlying219 rfl hi97 ?_))
    refine cx.mono ?_
    clear cx
    rintro e7 w7 ⟨rfl, hb7⟩
    have hX7 := HXX.out w7 hb7
    have o7 := HO.out w7 hb7
    have b7 : Below w.heap.size w w7 := HBW.out.trans (hb7.mono HBW.out.size)
    clear hb7
    have hqq := HQ.out.2
    have s7 := b7.size
    go_wp2_with (first
     | (refine wpList_load_row rfl 219 _ rfl X rfl 219 _ (0, 0) _ hX7 Tryz.underlying219 rfl hi97 ?_)
     | (at_builtin; refine wpList_append_own _ rfl (.tmp 17) (.tmp 19) 220 rfl w.heap.size 219 im _ 2 16 Tryz.underlying220 him hm0 hm1 hm2 rfl (by decide) _ _ _ rfl (o7.alloc _) ⟨w7.heap.size, 0, none⟩ 1 1 (usC x).toList rfl rfl (fun jj uu hu => by rw [Addr.add_mid9, cell_of_row _ _ _ _ _ (0, 0) (heap_alloc_new w7 _)]; rw [Nat.zero_add]; rw [Array.getElem?_toList] at hu; exact hu) (fun uu hu => (by unfold usC at hu; simp at hu; rcases hu with e | e <;> (subst e; rfl))) (by unfold maxLen; omega) (by omega) (by simp; omega) ?_))
    intro v8 w8 o8 g8 _
    obtain ⟨a8, k8, rfl⟩ := own_slk o8
    have H9 : Hid (q + 1 = ((l.take (j + 1)).filter p).length ∧ w8.ownsRow w.heap.size 219 2 (.slice a8 (q + 1) k8) (q + 1) (flatU ((l.take (j + 1)).filter p)) ∧ Below w.heap.size w w8) := by
     have e9 : (l.take (j + 1)).filter p = (l.take j).filter p ++ [x] := by rw [HTk.out, List.filter_append]; simp [hpx]
     rw [e9, flatU_snoc]
     refine ⟨by rw [List.length_append, ← HQ.out.1]; rfl, o8, (b7.alloc b7.size _).grown g8 (by simp; omega) (fun k e => (o7.lt k e).1)⟩
    clear o8 g8 o7 b7 hX7
    go_wp2
    go_roundw
    case rel => exact ⟨j + 1, q + 1, a8, k8, by omega, by go_num, rfl, H9.out⟩
    case measure => simp [intOf]; omega
  ·obtain rfl : j = s.n := by omega
   have hlt' : ¬ ((s.n : Nat) : Int) < (s.n : Nat) := by omega
   have HE : Hid (q = (l.filter p).length ∧ wr.ownsRow w.heap.size 219 2 (.slice a q c) q (flatU (l.filter p)) ∧ Below w.heap.size w wr) := by
    have := HJ.out
    rwa [List.take_of_length_le (by rw [HS.out]; exact Nat.le_refl _)] at this
   have Hll : Hid ((l.filter p).length ≤ 1048576) := Nat.le_trans (List.length_filter_le p l) HLL.out
   clear HJ
   go_wp2
   go_ret
   obtain ⟨h1, h2, h3⟩ := HE.out
   subst h1
   exact ⟨⟨a, c, rfl, rows_of_ownU Hll.out h2⟩, h3⟩
theorem uses1_any (w : World) (x : UsR) : Calls Tryz.prog 144 (#[.agg #[.bool x.said, I x.bit]] ++ #[]) w fun e w' => e = .returned (.bool x.said) ∧ Below w.heap.size w w' := by
 have hb : ∀ o, Below w.heap.size w (w.alloc o) := fun o => below_alloc w o
 go_enter Tryz.func144, Tryz.ntmps144
 go_wp2
 go_ret
 exact ⟨rfl, hb _⟩
theorem uses2_any (w : World) (x : UsR) : Calls Tryz.prog 145 (#[.agg #[.bool x.said, I x.bit]] ++ #[]) w fun e w' => e = .returned (I x.bit) ∧ Below w.heap.size w w' := by
 have hb : ∀ o, Below w.heap.size w (w.alloc o) := fun o => below_alloc w o
 go_enter Tryz.func145, Tryz.ntmps145
 go_wp2
 go_ret
 exact ⟨rfl, hb _⟩
theorem sum_use (w : World) (s : Sl) (l : List UsR) (hl : RowsAt w 2 usP s l) (hbd : ∀ x ∈ l, 0 ≤ x.bit ∧ x.bit ≤ 128) (hll : l.length ≤ 8) : Calls Tryz.prog 142 #[.slice s.a s.n s.c, .func (.func 145) #[] #[]] w fun e w' => e = .returned (I ((l.map fun x => x.bit).sum)) ∧ Below w.heap.size w w' := by
 have eg := enters_of Tryz.func145 (by kernel_rfl) rfl
 have HS : Hid (s.n = l.length) := hl.n
 have hsn : s.n ≤ 8 := by have := hl.n; omega
 have hsc : s.n ≤ s.c := hl.c
 have hsm : s.c ≤ maxLen := hl.m
 unfold maxLen at hsm
 have HH : Hid (∀ W, Below w.heap.size w W → RowsAt W 2 usP s l) := fun W hW => hl.below hW (fun _ _ _ _ h => h)
 have HBD : Hid (∀ x ∈ l, 0 ≤ x.bit ∧ x.bit ≤ 128) := hbd
 obtain ⟨R, hR⟩ : ∃ R, R = (l.map fun x => x.bit).sum := ⟨_, rfl⟩
 rw [← hR]
 have HR : Hid (R = (l.map fun x => x.bit).sum) := hR
 clear hl hbd hll hR
 go_enter Tryz.func142, Tryz.ntmps142
 go_wp2
 go_loopw [5, 7, 10] (fun ov _ iv wr => ∃ (j : Nat) (t : Int), j ≤ s.n ∧ iv = .int .i64 j ∧ ov = I t ∧ 0 ≤ t ∧ t ≤ 128 * (j : Int) ∧ Hid (t = ((l.take j).map fun x => x.bit).sum ∧ Below w.heap.size w wr)) (fun _ _ iv _ => s.n - (intOf iv).toNat)
 case atStart => exact ⟨0, 0, by omega, rfl, rfl, by omega, by omega, by simp, Below.refl _ _⟩
 case round =>
  obtain ⟨j, t, hj, rfl, rfl, ht0, ht1, HJ⟩ := hrel
  by_cases hlt : j < s.n
  ·have hlt' : (j : Int) < s.n := by omega
   obtain ⟨x, hx⟩ : ∃ x, l[j]? = some x := ⟨_, List.getElem?_eq_getElem (by rw [← HS.out]; exact hlt)⟩
   obtain ⟨g5, o5, e5, hg5, hr5⟩ := (HH.out _ HJ.out.2).row j x hx
   obtain ⟨u0, a0, q0⟩ := hr5 0 (by omega)
   obtain ⟨u1, a1, q1⟩ := hr5 1 (by omega)
   have f0 : u0 = .bool x.said := q0
   have f1 : u1 = I x.bit := q1
   subst f0 f1
   rw [Nat.add_zero] at a0
   have hbx := HBD.out x (List.mem_of_getElem? hx)
   obtain ⟨hb0, hb1⟩ := hbx
   have HN : Hid (t + x.bit = ((l.take (j + 1)).map fun x => x.bit).sum) := by
    show _ = _
    rw [List.take_add_one, hx, Option.toList_some, List.map_append, List.sum_append, ← HJ.out.1]
    simp
   have bX : Below wr.heap.size wr (wr.alloc (.cells #[.bool x.said, I x.bit] 219)) := below_alloc wr _
   have hXX := heap_alloc_new wr (.cells #[.bool x.said, I x.bit] 219)
   have cx := uses2_any (wr.alloc (.cells #[.bool x.said, I x.bit] 219)) x
   have HBW : Hid (Below w.heap.size w (wr.alloc (.cells #[.bool x.said, I x.bit] 219))) := HJ.out.2.trans (bX.mono HJ.out.2.size)
   have hi2 : (Tryz.prog.info? 219).map (·.size) = some (#[.bool x.said, I x.bit] : Array Value).size := by kernel_rfl
   rw [e5]
   clear hx e5 hr5 hg5 q0 q1 HJ bX
   go_upto_region 5 with fail
   generalize wr.heap.size = X at *
   generalize (wr.alloc (.cells #[.bool x.said, I x.bit] 219)) = W0 at *
   generalize x.bit = xb at *
   go_wp2_with (first
    | (with_reducible refine wpList_id99 ?_; refine wpList_load_row rfl 219 _ rfl X rfl 219 _ (0, 0) _ hXX Tryz.underlying219 rfl hi2 ?_))
   refine cx.mono ?_
   clear cx
   rintro e7 w7 ⟨rfl, hb7⟩
   have HB7 : Hid (Below w.heap.size w w7) := HBW.out.trans (hb7.mono HBW.out.size)
   clear hb7 hXX a0 a1
   go_wp2
   go_roundw
   case rel => exact ⟨j + 1, t + xb, by omega, by go_num, by go_num, by omega, by omega, HN.out, HB7.out⟩
   case measure => simp [intOf]; omega
  ·obtain rfl : j = s.n := by omega
   have hlt' : ¬ ((s.n : Nat) : Int) < (s.n : Nat) := by omega
   have HE : Hid (t = R ∧ Below w.heap.size w wr) := by
    have := HJ.out
    rw [List.take_of_length_le (by rw [HS.out]; exact Nat.le_refl _), ← HR.out] at this
    exact this
   clear HJ
   go_wp2
   go_ret
   obtain ⟨rfl, hb⟩ := HE.out
   exact ⟨rfl, hb⟩
def usL (o1 o2 o3 o4 o5 o6 o7 o8 : Bool) : List UsR := [⟨o1, 1⟩, ⟨o2, 2⟩, ⟨o3, 4⟩, ⟨o4, 8⟩, ⟨o5, 16⟩, ⟨o6, 32⟩, ⟨o7, 64⟩, ⟨o8, 128⟩]
def usN (o1 o2 o3 o4 o5 o6 o7 o8 : Bool) : Int := (((usL o1 o2 o3 o4 o5 o6 o7 o8).filter fun x => x.said).map fun x => x.bit).sum
theorem us_rows {w : World} (g : Nat) (o1 o2 o3 o4 o5 o6 o7 o8 : Bool) (h : w.heap[g]? = some (.cells #[.bool o1, I 1, .bool o2, I 2, .bool o3, I 4, .bool o4, I 8, .bool o5, I 16, .bool o6, I 32, .bool o7, I 64, .bool o8, I 128] 219)) : RowsAt w 2 usP ⟨some ⟨g, 0, none⟩, 8, 8⟩ (usL o1 o2 o3 o4 o5 o6 o7 o8) := by
 refine ⟨rfl, Nat.le_refl _, by show (8 : Nat) ≤ _; unfold maxLen; omega, fun j x hj => ⟨g, 0, rfl, heap_lt h, fun i hi => ?_⟩⟩
 rw [Nat.zero_add, cell_of_row w g _ _ _ (0, 0) h]
 have hj8 : j < 8 := (List.getElem?_eq_some_iff.1 hj).1
 unfold usL at hj
 rcases (by omega : j = 0 ∨ j = 1 ∨ j = 2 ∨ j = 3 ∨ j = 4 ∨ j = 5 ∨ j = 6 ∨ j = 7) with e | e | e | e | e | e | e | e <;> (subst e; cases hj; rcases (by omega : i = 0 ∨ i = 1) with e | e <;> (subst e; exact ⟨_, rfl, rfl⟩))
theorem uses_any (w : World) (n : List UInt8) (o1 o2 o3 o4 o5 o6 o7 o8 : Bool) : Calls Tryz.prog 84 #[.agg #[S n, .bool o1, .bool o2, .bool o3, .bool o4, .bool o5, .bool o6, .bool o7, .bool o8]] w fun e w' => e = .returned (I (usN o1 o2 o3 o4 o5 o6 o7 o8)) ∧ Below w.heap.size w w' := by
 have B1 : Below w.heap.size w ((w.alloc (.cells #[S n, .bool o1, .bool o2, .bool o3, .bool o4, .bool o5, .bool o6, .bool o7, .bool o8] 37)).alloc (.cells #[.bool o1, I 1, .bool o2, I 2, .bool o3, I 4, .bool o4, I 8, .bool o5, I 16, .bool o6, I 32, .bool o7, I 64, .bool o8, I 128] 219)) := (below_alloc w _).trans ((below_alloc _ _).mono (by simp))
 have hU : ((w.alloc (.cells #[S n, .bool o1, .bool o2, .bool o3, .bool o4, .bool o5, .bool o6, .bool o7, .bool o8] 37)).alloc (.cells #[.bool o1, I 1, .bool o2, I 2, .bool o3, I 4, .bool o4, I 8, .bool o5, I 16, .bool o6, I 32, .bool o7, I 64, .bool o8, I 128] 219)).heap[w.heap.size + 1]? = some (.cells #[.bool o1, I 1, .bool o2, I 2, .bool o3, I 4, .bool o4, I 8, .bool o5, I 16, .bool o6, I 32, .bool o7, I 64, .bool o8, I 128] 219) := by
  have := heap_alloc_new (w.alloc (.cells #[S n, .bool o1, .bool o2, .bool o3, .bool o4, .bool o5, .bool o6, .bool o7, .bool o8] 37)) (.cells #[.bool o1, I 1, .bool o2, I 2, .bool o3, I 4, .bool o4, I 8, .bool o5, I 16, .bool o6, I 32, .bool o7, I 64, .bool o8, I 128] 219)
  rw [World.size_alloc] at this
  exact this
 have r1 := us_rows (w.heap.size + 1) o1 o2 o3 o4 o5 o6 o7 o8 hU
 have k1 := those_use _ ⟨some ⟨w.heap.size + 1, 0, none⟩, 8, 8⟩ (usL o1 o2 o3 o4 o5 o6 o7 o8) (fun W hW => r1.below hW (fun _ _ _ _ h => h)) (by show (8 : Nat) ≤ _; omega) 144 #[] (enters_of Tryz.func144 (by kernel_rfl) rfl) (fun x => x.said) (fun W hW x hx => uses1_any W x)
 have HB1 : Hid _ := B1
 clear r1 hU B1
 have HSM : Hid (∀ (W : World) (a : Option Addr) (c : Nat), RowsAt W 2 usP ⟨a, ((usL o1 o2 o3 o4 o5 o6 o7 o8).filter fun x => x.said).length, c⟩ ((usL o1 o2 o3 o4 o5 o6 o7 o8).filter fun x => x.said) → Calls Tryz.prog 142 #[.slice a ((usL o1 o2 o3 o4 o5 o6 o7 o8).filter fun x => x.said).length c, .func (.func 145) #[] #[]] W fun e w' => e = .returned (I (usN o1 o2 o3 o4 o5 o6 o7 o8)) ∧ Below W.heap.size W w') := fun W a c h => sum_use W ⟨a, _, c⟩ _ h (fun x hx => by
   have := (List.mem_filter.1 hx).1
   unfold usL at this
   simp at this
   rcases this with rfl | rfl | rfl | rfl | rfl | rfl | rfl | rfl <;> simp) (Nat.le_trans (List.length_filter_le _ _) (by show (8 : Nat) ≤ _; omega))
 generalize ((usL o1 o2 o3 o4 o5 o6 o7 o8).filter fun x => x.said) = L at *
 generalize hN : usN o1 o2 o3 o4 o5 o6 o7 o8 = N at *
 clear hN
 go_enter Tryz.func84, Tryz.ntmps84
 go_wp2_with (first
  | (go_at_call 143; refine k1.mono ?_; clear k1; rintro e w1 ⟨⟨a1, c1, rfl, r2⟩, b1⟩; have k2 := HSM.out w1 a1 c1 r2)
  | (go_at_call 142; refine k2.mono ?_; clear k2; rintro e w2 ⟨rfl, b2⟩))
 go_ret
 exact ⟨rfl, (HB1.out.trans (b1.mono HB1.out.size)).trans (b2.mono (HB1.out.trans (b1.mono HB1.out.size)).size)⟩
end Go.Proofs.YtmidaeljeoifdaaGreatDoor
