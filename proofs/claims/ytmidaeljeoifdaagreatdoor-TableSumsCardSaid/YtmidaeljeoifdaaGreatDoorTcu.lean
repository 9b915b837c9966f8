import Derived.Test.YtmidaeljeoifdaaGreatDoorTcp
import Derived.Deep.Cut
namespace Go.Proofs.YtmidaeljeoifdaaGreatDoor
set_option maxRecDepth 100000
set_option maxHeartbeats 16000000
open Go.RowKit Go.Shelf Go.Sort
set_option linter.unusedVariables false
set_option linter.unusedSimpArgs false
theorem minfo : (Tryz.prog.info? 99).map (fun i => (i.zero, i.size, i.bytes)) = some (some (.agg #[I 0, I 0, I 0, .int .u64 0, I 0, I 0, I 0, .int .u32 0]), 8, 64) := by kernel_rfl
def flatM (l : List MsR) : List Value := l.flatMap (fun x => (msrC x).toList)
theorem flatM_snoc (l : List MsR) (x : MsR) : flatM (l ++ [x]) = flatM l ++ (msrC x).toList := by simp [flatM]
theorem flatM_at : ∀ (l : List MsR) (j : Nat) (x : MsR) (i : Nat) (u : Value), l[j]? = some x → (msrC x)[i]? = some u → i < 8 → (flatM l)[j * 8 + i]? = some u
 | [], j, x, i, u, h, _, _ => by simp at h
 | y :: r, 0, x, i, u, h, hu, hi => by
  cases h
  have h8 : ((msrC y).toList).length = 8 := rfl
  rw [flatM, List.flatMap_cons, Nat.zero_mul, Nat.zero_add, List.getElem?_append_left (by omega)]
  rw [Array.getElem?_toList]
  exact hu
 | y :: r, j + 1, x, i, u, h, hu, hi => by
  have ih := flatM_at r j x i u (by simpa using h) hu hi
  have h8 : ((msrC y).toList).length = 8 := rfl
  rw [flatM, List.flatMap_cons, List.getElem?_append_right (by omega), show (j + 1) * 8 + i - ((msrC y).toList).length = j * 8 + i by omega]
  exact ih
theorem rows_of_own {w : World} {b : Nat} {a : Option Addr} {c : Nat} {l : List MsR} (hl : l.length ≤ 1048576) (h : w.ownsRow b 99 8 (.slice a l.length c) l.length (flatM l)) : RowsAt w 8 msrP ⟨a, l.length, c⟩ l := by
 rcases h.2 with ⟨h1, h0⟩ | ⟨g, cap, cur, h1, hb, hg, hnc, hcm, hcs, ht⟩
 ·have hn : l = [] := List.eq_nil_of_length_eq_zero h0
  subst hn
  injection h1 with e1 e2 e3
  subst e1 e3
  exact ⟨rfl, Nat.le_refl _, Nat.zero_le _, fun j x hj => by simp at hj⟩
 ·injection h1 with e1 e2 e3
  subst e1 e3
  refine ⟨rfl, hnc, hcm, fun j x hj => ⟨g, 0, rfl, heap_lt hg, fun i hi => ?_⟩⟩
  have hjl := (List.getElem?_eq_some_iff.1 hj).1
  have h8 : (msrC x).size = 8 := rfl
  obtain ⟨u, hu⟩ : ∃ u, (msrC x)[i]? = some u := ⟨_, Array.getElem?_eq_getElem (by omega)⟩
  refine ⟨u, ?_, ?_⟩
  ·rw [Nat.zero_add, h.cellAt (j * 8 + i) (by omega)]
   exact flatM_at l j x i u hj hu hi
  ·rcases (by omega : i = 0 ∨ i = 1 ∨ i = 2 ∨ i = 3 ∨ i = 4 ∨ i = 5 ∨ i = 6 ∨ i = 7) with e | e | e | e | e | e | e | e <;> (subst e; cases hu; rfl)
theorem Addr.add_mid9 (b o j : Nat) : (⟨b, o, none⟩ : Addr).add j = ⟨b, o + j, none⟩ := by unfold Addr.add; split <;> simp_all
theorem own_sl8 {w : World} {b E n : Nat} {v : Value} {xs : List Value} (h : w.ownsRow b E 8 v n xs) : ∃ a cc, v = .slice a n cc := by
 rcases h.2 with ⟨h1, h0⟩ | ⟨g, cap, cur, h1, _⟩
 ·exact ⟨none, 0, by rw [h0]; exact h1⟩
 ·exact ⟨_, _, h1⟩
theorem those_msr (w : World) (s : Sl) (l : List MsR) (hl : ∀ W, Below w.heap.size w W → RowsAt W 8 msrP s l) (hll : l.length ≤ 1048576) (f : Nat) (caps : Array Value) (eg : ∀ args W, (callFunc f args).run Tryz.prog W = .ok (.enter f args) W) (p : MsR → Bool)
  (hf : ∀ W, Below w.heap.size w W → ∀ x ∈ l, Calls Tryz.prog f (#[.agg #[I x.kind, I x.len, I x.frm, .int .u64 (x.init : Int), I x.queue, I x.ac.kind, I x.ac.task, .int .u32 (x.ac.mask : Int)]] ++ caps) W fun e w' => e = .returned (.bool (p x)) ∧ Below W.heap.size W w') :
  Calls Tryz.prog 115 #[.slice s.a s.n s.c, .func (.func f) #[] caps] w fun e w' => (∃ a c, e = .returned (.slice a (l.filter p).length c) ∧ RowsAt w' 8 msrP ⟨a, (l.filter p).length, c⟩ (l.filter p)) ∧ Below w.heap.size w w' := by
 obtain ⟨im, him, hm0, hm1, hm2⟩ := info_parts minfo
 have h0 := hl w (Below.refl _ _)
 have HS : Hid (s.n = l.length) := h0.n
 have hsc : s.n ≤ s.c := h0.c
 have hsm : s.c ≤ maxLen := h0.m
 unfold maxLen at hsm
 have HH : Hid (∀ W, Below w.heap.size w W → RowsAt W 8 msrP s l) := hl
 have HFF : Hid (∀ W, Below w.heap.size w W → ∀ x ∈ l, Calls Tryz.prog f (#[.agg #[I x.kind, I x.len, I x.frm, .int .u64 (x.init : Int), I x.queue, I x.ac.kind, I x.ac.task, .int .u32 (x.ac.mask : Int)]] ++ caps) W fun e w' => e = .returned (.bool (p x)) ∧ Below W.heap.size W w') := hf
 have HLL : Hid (l.length ≤ 1048576) := hll
 clear hl hf h0 hll
 go_enter Tryz.func115, Tryz.ntmps115
 go_wp2
 go_loopw [5, 7, 10] (fun ov _ iv wr => ∃ (j q : Nat) (a : Option Addr) (c : Nat), j ≤ s.n ∧ iv = .int .i64 j ∧ ov = .slice a q c ∧ Hid (q = ((l.take j).filter p).length ∧ wr.ownsRow w.heap.size 99 8 (.slice a q c) q (flatM ((l.take j).filter p)) ∧ Below w.heap.size w wr)) (fun _ _ iv _ => s.n - (intOf iv).toNat)
 case atStart => exact ⟨0, 0, none, 0, by omega, rfl, rfl, by simp, World.ownsRow_nil _ _ _ _, Below.refl _ _⟩
 case round =>
  obtain ⟨j, q, a, c, hj, rfl, rfl, HJ⟩ := hrel
  by_cases hlt : j < s.n
  ·have hlt' : (j : Int) < s.n := by omega
   obtain ⟨x, hx⟩ : ∃ x, l[j]? = some x := ⟨_, List.getElem?_eq_getElem (by rw [← HS.out]; exact hlt)⟩
   obtain ⟨g5, o5, e5, hg5, hr5⟩ := (HH.out _ HJ.out.2.2).row j x hx
   obtain ⟨u0, a0, q0⟩ := hr5 0 (by omega)
   obtain ⟨u1, a1, q1⟩ := hr5 1 (by omega)
   obtain ⟨u2, a2, q2⟩ := hr5 2 (by omega)
   obtain ⟨u3, a3, q3⟩ := hr5 3 (by omega)
   obtain ⟨u4, a4, q4⟩ := hr5 4 (by omega)
   obtain ⟨u5, a5, q5⟩ := hr5 5 (by omega)
   obtain ⟨u6, a6, q6⟩ := hr5 6 (by omega)
   obtain ⟨u7, a7, q7⟩ := hr5 7 (by omega)
   have f0 : u0 = I x.kind := q0
   have f1 : u1 = I x.len := q1
   have f2 : u2 = I x.frm := q2
   have f3 : u3 = .int .u64 (x.init : Int) := q3
   have f4 : u4 = I x.queue := q4
   have f5 : u5 = I x.ac.kind := q5
   have f6 : u6 = I x.ac.task := q6
   have f7 : u7 = .int .u32 (x.ac.mask : Int) := q7
   subst f0 f1 f2 f3 f4 f5 f6 f7
   rw [Nat.add_zero] at a0
   have bX : Below wr.heap.size wr (wr.alloc (.cells #[I x.kind, I x.len, I x.frm, .int .u64 (x.init : Int), I x.queue, I x.ac.kind, I x.ac.task, .int .u32 (x.ac.mask : Int)] 99)) := below_alloc wr _
   have bW : Below w.heap.size w (wr.alloc (.cells #[I x.kind, I x.len, I x.frm, .int .u64 (x.init : Int), I x.queue, I x.ac.kind, I x.ac.task, .int .u32 (x.ac.mask : Int)] 99)) := HJ.out.2.2.trans (bX.mono HJ.out.2.2.size)
   have hXX := heap_alloc_new wr (.cells #[I x.kind, I x.len, I x.frm, .int .u64 (x.init : Int), I x.queue, I x.ac.kind, I x.ac.task, .int .u32 (x.ac.mask : Int)] 99)
   have cx := HFF.out _ bW x (List.mem_of_getElem? hx)
   have oX := own_below HJ.out.2.1 bX
   have HTk : Hid (l.take (j + 1) = l.take j ++ [x]) := by show _ = _; rw [List.take_add_one, hx]; rfl
   have HQ : Hid (q = ((l.take j).filter p).length ∧ q ≤ 1048576) := ⟨HJ.out.1, by
    have h1 := HJ.out.1
    have h2 := List.length_filter_le p (l.take j)
    have h3 := HLL.out
    rw [List.length_take] at h2
    omega⟩
   rw [e5]
   clear hx e5 hr5 q0 q1 q2 q3 q4 q5 q6 q7 HJ
   go_upto_region 5 with fail
   generalize wr.heap.size = X at *
   generalize (wr.alloc (.cells #[I x.kind, I x.len, I x.frm, .int .u64 (x.init : Int), I x.queue, I x.ac.kind, I x.ac.task, .int .u32 (x.ac.mask : Int)] 99)) = W0 at *
   have HXX : Hid (∀ W, Below W0.heap.size W0 W → W.heap[X]? = some (.cells #[I x.kind, I x.len, I x.frm, .int .u64 (x.init : Int), I x.queue, I x.ac.kind, I x.ac.task, .int .u32 (x.ac.mask : Int)] 99)) := fun W hW => (hW.block X (heap_lt hXX)).trans hXX
   have hi97 : (Tryz.prog.info? 99).map (·.size) = some (#[I x.kind, I x.len, I x.frm, .int .u64 (x.init : Int), I x.queue, I x.ac.kind, I x.ac.task, .int .u32 (x.ac.mask : Int)] : Array Value).size := by kernel_rfl
   have HO : Hid (∀ W, Below W0.heap.size W0 W → W.ownsRow w.heap.size 99 8 (.slice a q c) q (flatM ((l.take j).filter p))) := fun W hW => own_below oX hW
   have HBW : Hid (Below w.heap.size w W0) := bW
   clear oX bW bX
   cases hpx : p x with
   | false =>
    rw [hpx] at cx
    go_wp2_with (first
     | (refine wpList_load_row rfl 99 _ rfl X rfl 99 _ (0, 0) _ hXX Tryz.underlying99 rfl hi97 ?_))
    refine cx.mono ?_
    clear cx
    rintro e7 w7 ⟨rfl, hb7⟩
    have H9 : Hid (q = ((l.take (j + 1)).filter p).length ∧ w7.ownsRow w.heap.size 99 8 (.slice a q c) q (flatM ((l.take (j + 1)).filter p)) ∧ Below w.heap.size w w7) := by
     have e9 : (l.take (j + 1)).filter p = (l.take j).filter p := by rw [HTk.out, List.filter_append]; simp [hpx]
     rw [e9]
     exact ⟨HQ.out.1, HO.out w7 hb7, HBW.out.trans (hb7.mono HBW.out.size)⟩
    clear hb7
    go_wp2
    go_roundw
    case rel => exact ⟨j + 1, q, a, c, by omega, by go_num, rfl, H9.out⟩
    case measure => simp [intOf]; omega
   | true =>
    rw [hpx] at cx
    go_wp2_with (first
     | (refine wpList_load_row rfl 99 _ rfl X rfl 99 _ (0, 0) _ hXX Tryz.underlying99 rfl hi97 ?_))
    refine cx.mono ?_
    clear cx
    rintro e7 w7 ⟨rfl, hb7⟩
    have hX7 := HXX.out w7 hb7
    have o7 := HO.out w7 hb7
    have b7 : Below w.heap.size w w7 := HBW.out.trans (hb7.mono HBW.out.size)
    clear hb7
    have hqq := HQ.out.2
    have s7 := b7.size
    go_wp2_with (first
     | (refine wpList_load_row rfl 99 _ rfl X rfl 99 _ (0, 0) _ hX7 Tryz.underlying99 rfl hi97 ?_)
     | (at_builtin; refine wpList_append_own _ rfl (.tmp 17) (.tmp 19) 28 rfl w.heap.size 99 im _ 8 64 Tryz.underlying28 him hm0 hm1 hm2 rfl (by decide) _ _ _ rfl (o7.alloc _) ⟨w7.heap.size, 0, none⟩ 1 1 (msrC x).toList rfl rfl (fun jj uu hu => by rw [Addr.add_mid9, cell_of_row _ _ _ _ _ (0, 0) (heap_alloc_new w7 _)]; rw [Nat.zero_add]; rw [Array.getElem?_toList] at hu; exact hu) (fun uu hu => (by unfold msrC at hu; simp at hu; rcases hu with e | e | e | e | e | e | e | e <;> (subst e; rfl))) (by unfold maxLen; omega) (by omega) (by simp; omega) ?_))
    intro v8 w8 o8 g8 _
    obtain ⟨a8, k8, rfl⟩ := own_sl8 o8
    have H9 : Hid (q + 1 = ((l.take (j + 1)).filter p).length ∧ w8.ownsRow w.heap.size 99 8 (.slice a8 (q + 1) k8) (q + 1) (flatM ((l.take (j + 1)).filter p)) ∧ Below w.heap.size w w8) := by
     have e9 : (l.take (j + 1)).filter p = (l.take j).filter p ++ [x] := by rw [HTk.out, List.filter_append]; simp [hpx]
     rw [e9, flatM_snoc]
     refine ⟨by rw [List.length_append, ← HQ.out.1]; rfl, o8, (b7.alloc b7.size _).grown g8 (by simp; omega) (fun k e => (o7.lt k e).1)⟩
    clear o8 g8 o7 b7 hX7
    go_wp2
    go_roundw
    case rel => exact ⟨j + 1, q + 1, a8, k8, by omega, by go_num, rfl, H9.out⟩
    case measure => simp [intOf]; omega
  ·obtain rfl : j = s.n := by omega
   have hlt' : ¬ ((s.n : Nat) : Int) < (s.n : Nat) := by omega
   have HE : Hid (q = (l.filter p).length ∧ wr.ownsRow w.heap.size 99 8 (.slice a q c) q (flatM (l.filter p)) ∧ Below w.heap.size w wr) := by
    have := HJ.out
    rwa [List.take_of_length_le (by rw [HS.out]; exact Nat.le_refl _)] at this
   have Hll : Hid ((l.filter p).length ≤ 1048576) := Nat.le_trans (List.length_filter_le p l) HLL.out
   clear HJ
   go_wp2
   go_ret
   obtain ⟨h1, h2, h3⟩ := HE.out
   subst h1
   exact ⟨⟨a, c, rfl, rows_of_own Hll.out h2⟩, h3⟩
end Go.Proofs.YtmidaeljeoifdaaGreatDoor
