import Derived.Test.YtmidaeljeoifdaaGreatDoorXTcp
import Derived.Deep.Cut
import Derived.Maps.AppendAt
import Derived.Test.YtmidaeljeoifdaaGreatDoorXKat
namespace Go.Proofs.YtmidaeljeoifdaaGreatDoor
open Go.RowKit Go.Shelf Go.Sort
set_option linter.unusedVariables false
set_option linter.unusedSimpArgs false

/-! ### those of the messages -/
theorem minfo : (Tryz.prog.info? 99).map (fun i => (i.zero, i.size, i.bytes)) = some (some (.agg #[I 0, I 0, I 0, .int .u64 0, I 0, I 0, I 0, .int .u32 0]), 8, 64) := by kernel_rfl
def flatM (l : List MsR) : List Value := l.flatMap (fun x => (msrC x).toList)
theorem flatM_snoc (l : List MsR) (x : MsR) : flatM (l ++ [x]) = flatM l ++ (msrC x).toList := by simp [flatM]
theorem flatM_at : ∀ (l : List MsR) (j : Nat) (x : MsR) (i : Nat) (u : Value), l[j]? = some x → (msrC x)[i]? = some u → i < 8 → (flatM l)[j * 8 + i]? = some u
  | [], j, x, i, u, h, _, _ => by simp at h
  | y :: r, 0, x, i, u, h, hu, hi => by
    cases h
    have h8 : ((msrC y).toList).length = 8 := rfl
    rw [flatM, List.flatMap_cons, Nat.zero_mul, Nat.zero_add, List.getElem?_append_left (by omega)]
    rw [Array.getElem?_toList]
    exact hu
  | y :: r, j + 1, x, i, u, h, hu, hi => by
    have ih := flatM_at r j x i u (by simpa using h) hu hi
    have h8 : ((msrC y).toList).length = 8 := rfl
    rw [flatM, List.flatMap_cons, List.getElem?_append_right (by omega), show (j + 1) * 8 + i - ((msrC y).toList).length = j * 8 + i by omega]
    exact ih
theorem rows_of_own {w : World} {b : Nat} {a : Option Addr} {c : Nat} {l : List MsR} (hl : l.length ≤ 1048576) (h : w.ownsRow b 99 8 (.slice a l.length c) l.length (flatM l)) : RowsAt w 8 msrP ⟨a, l.length, c⟩ l := by
  rcases h.2 with ⟨h1, h0⟩ | ⟨g, cap, cur, h1, hb, hg, hnc, hcm, hcs, ht⟩
  · have hn : l = [] := List.eq_nil_of_length_eq_zero h0
    subst hn
    injection h1 with e1 e2 e3
    subst e1 e3
    exact ⟨rfl, Nat.le_refl _, Nat.zero_le _, fun j x hj => by simp at hj⟩
  · injection h1 with e1 e2 e3
    subst e1 e3
    refine ⟨rfl, hnc, hcm, fun j x hj => ⟨g, 0, rfl, heap_lt hg, fun i hi => ?_⟩⟩
    have hjl := (List.getElem?_eq_some_iff.1 hj).1
    have h8 : (msrC x).size = 8 := rfl
    obtain ⟨u, hu⟩ : ∃ u, (msrC x)[i]? = some u := ⟨_, Array.getElem?_eq_getElem (by omega)⟩
    refine ⟨u, ?_, ?_⟩
    · rw [Nat.zero_add, h.cellAt (j * 8 + i) (by omega)]
      exact flatM_at l j x i u hj hu hi
    · rcases (by omega : i = 0 ∨ i = 1 ∨ i = 2 ∨ i = 3 ∨ i = 4 ∨ i = 5 ∨ i = 6 ∨ i = 7) with e | e | e | e | e | e | e | e <;> (subst e; cases hu; rfl)
theorem Addr.add_mid9 (b o j : Nat) : (⟨b, o, none⟩ : Addr).add j = ⟨b, o + j, none⟩ := by unfold Addr.add; split <;> simp_all
theorem own_sl8 {w : World} {b E n : Nat} {v : Value} {xs : List Value} (h : w.ownsRow b E 8 v n xs) : ∃ a cc, v = .slice a n cc := by
  rcases h.2 with ⟨h1, h0⟩ | ⟨g, cap, cur, h1, _⟩
  · exact ⟨none, 0, by rw [h0]; exact h1⟩
  · exact ⟨_, _, h1⟩
set_option maxHeartbeats 8000000 in
set_option maxRecDepth 100000 in
theorem those_msr (w : World) (s : Sl) (l : List MsR) (hl : ∀ W, Below w.heap.size w W → RowsAt W 8 msrP s l) (hll : l.length ≤ 1048576) (f : Nat) (caps : Array Value) (eg : ∀ args W, (callFunc f args).run Tryz.prog W = .ok (.enter f args) W) (p : MsR → Bool)
    (hf : ∀ W, Below w.heap.size w W → ∀ x ∈ l, Calls Tryz.prog f (#[.agg #[I x.kind, I x.len, I x.frm, .int .u64 (x.init : Int), I x.queue, I x.ac.kind, I x.ac.task, .int .u32 (x.ac.mask : Int)]] ++ caps) W fun e w' => e = .returned (.bool (p x)) ∧ Below W.heap.size W w') :
    Calls Tryz.prog 115 #[.slice s.a s.n s.c, .func (.func f) #[] caps] w fun e w' => (∃ a c, e = .returned (.slice a (l.filter p).length c) ∧ RowsAt w' 8 msrP ⟨a, (l.filter p).length, c⟩ (l.filter p)) ∧ Below w.heap.size w w' := by
  obtain ⟨im, him, hm0, hm1, hm2⟩ := info_parts minfo
  have h0 := hl w (Below.refl _ _)
  have HS : Hid (s.n = l.length) := h0.n
  have hsc : s.n ≤ s.c := h0.c
  have hsm : s.c ≤ maxLen := h0.m
  unfold maxLen at hsm
  have HH : Hid (∀ W, Below w.heap.size w W → RowsAt W 8 msrP s l) := hl
  have HFF : Hid (∀ W, Below w.heap.size w W → ∀ x ∈ l, Calls Tryz.prog f (#[.agg #[I x.kind, I x.len, I x.frm, .int .u64 (x.init : Int), I x.queue, I x.ac.kind, I x.ac.task, .int .u32 (x.ac.mask : Int)]] ++ caps) W fun e w' => e = .returned (.bool (p x)) ∧ Below W.heap.size W w') := hf
  have HLL : Hid (l.length ≤ 1048576) := hll
  clear hl hf h0 hll
  go_enter Tryz.func115, Tryz.ntmps115
  go_wp2
  go_loopw [5, 7, 10] (fun ov _ iv wr => ∃ (j q : Nat) (a : Option Addr) (c : Nat), j ≤ s.n ∧ iv = .int .i64 j ∧ ov = .slice a q c ∧ Hid (q = ((l.take j).filter p).length ∧ wr.ownsRow w.heap.size 99 8 (.slice a q c) q (flatM ((l.take j).filter p)) ∧ Below w.heap.size w wr)) (fun _ _ iv _ => s.n - (intOf iv).toNat)
  case atStart => exact ⟨0, 0, none, 0, by omega, rfl, rfl, by simp, World.ownsRow_nil _ _ _ _, Below.refl _ _⟩
  case round =>
    obtain ⟨j, q, a, c, hj, rfl, rfl, HJ⟩ := hrel
    by_cases hlt : j < s.n
    · have hlt' : (j : Int) < s.n := by omega
      obtain ⟨x, hx⟩ : ∃ x, l[j]? = some x := ⟨_, List.getElem?_eq_getElem (by rw [← HS.out]; exact hlt)⟩
      obtain ⟨g5, o5, e5, hg5, hr5⟩ := (HH.out _ HJ.out.2.2).row j x hx
      obtain ⟨u0, a0, q0⟩ := hr5 0 (by omega)
      obtain ⟨u1, a1, q1⟩ := hr5 1 (by omega)
      obtain ⟨u2, a2, q2⟩ := hr5 2 (by omega)
      obtain ⟨u3, a3, q3⟩ := hr5 3 (by omega)
      obtain ⟨u4, a4, q4⟩ := hr5 4 (by omega)
      obtain ⟨u5, a5, q5⟩ := hr5 5 (by omega)
      obtain ⟨u6, a6, q6⟩ := hr5 6 (by omega)
      obtain ⟨u7, a7, q7⟩ := hr5 7 (by omega)
      have f0 : u0 = I x.kind := q0
      have f1 : u1 = I x.len := q1
      have f2 : u2 = I x.frm := q2
      have f3 : u3 = .int .u64 (x.init : Int) := q3
      have f4 : u4 = I x.queue := q4
      have f5 : u5 = I x.ac.kind := q5
      have f6 : u6 = I x.ac.task := q6
      have f7 : u7 = .int .u32 (x.ac.mask : Int) := q7
      subst f0 f1 f2 f3 f4 f5 f6 f7
      rw [Nat.add_zero] at a0
      have bX : Below wr.heap.size wr (wr.alloc (.cells #[I x.kind, I x.len, I x.frm, .int .u64 (x.init : Int), I x.queue, I x.ac.kind, I x.ac.task, .int .u32 (x.ac.mask : Int)] 99)) := below_alloc wr _
      have bW : Below w.heap.size w (wr.alloc (.cells #[I x.kind, I x.len, I x.frm, .int .u64 (x.init : Int), I x.queue, I x.ac.kind, I x.ac.task, .int .u32 (x.ac.mask : Int)] 99)) := HJ.out.2.2.trans (bX.mono HJ.out.2.2.size)
      have hXX := heap_alloc_new wr (.cells #[I x.kind, I x.len, I x.frm, .int .u64 (x.init : Int), I x.queue, I x.ac.kind, I x.ac.task, .int .u32 (x.ac.mask : Int)] 99)
      have cx := HFF.out _ bW x (List.mem_of_getElem? hx)
      have oX := own_below HJ.out.2.1 bX
      have HTk : Hid (l.take (j + 1) = l.take j ++ [x]) := by show _ = _; rw [List.take_add_one, hx]; rfl
      have HQ : Hid (q = ((l.take j).filter p).length ∧ q ≤ 1048576) := ⟨HJ.out.1, by
        have h1 := HJ.out.1
        have h2 := List.length_filter_le p (l.take j)
        have h3 := HLL.out
        rw [List.length_take] at h2
        omega⟩
      rw [e5]
      clear hx e5 hr5 q0 q1 q2 q3 q4 q5 q6 q7 HJ
      go_upto_region 5 with fail
      generalize wr.heap.size = X at *
      generalize (wr.alloc (.cells #[I x.kind, I x.len, I x.frm, .int .u64 (x.init : Int), I x.queue, I x.ac.kind, I x.ac.task, .int .u32 (x.ac.mask : Int)] 99)) = W0 at *
      have HXX : Hid (∀ W, Below W0.heap.size W0 W → W.heap[X]? = some (.cells #[I x.kind, I x.len, I x.frm, .int .u64 (x.init : Int), I x.queue, I x.ac.kind, I x.ac.task, .int .u32 (x.ac.mask : Int)] 99)) := fun W hW => (hW.block X (heap_lt hXX)).trans hXX
      have hi97 : (Tryz.prog.info? 99).map (·.size) = some (#[I x.kind, I x.len, I x.frm, .int .u64 (x.init : Int), I x.queue, I x.ac.kind, I x.ac.task, .int .u32 (x.ac.mask : Int)] : Array Value).size := by kernel_rfl
      have HO : Hid (∀ W, Below W0.heap.size W0 W → W.ownsRow w.heap.size 99 8 (.slice a q c) q (flatM ((l.take j).filter p))) := fun W hW => own_below oX hW
      have HBW : Hid (Below w.heap.size w W0) := bW
      clear oX bW bX
      cases hpx : p x with
      | false =>
        rw [hpx] at cx
        go_wp2_with (first
          | (refine wpList_load_row rfl 99 _ rfl X rfl 99 _ (0, 0) _ hXX Tryz.underlying99 rfl hi97 ?_))
        refine cx.mono ?_
        clear cx
        rintro e7 w7 ⟨rfl, hb7⟩
        have H9 : Hid (q = ((l.take (j + 1)).filter p).length ∧ w7.ownsRow w.heap.size 99 8 (.slice a q c) q (flatM ((l.take (j + 1)).filter p)) ∧ Below w.heap.size w w7) := by
          have e9 : (l.take (j + 1)).filter p = (l.take j).filter p := by rw [HTk.out, List.filter_append]; simp [hpx]
          rw [e9]
          exact ⟨HQ.out.1, HO.out w7 hb7, HBW.out.trans (hb7.mono HBW.out.size)⟩
        clear hb7
        go_wp2
        go_roundw
        case rel => exact ⟨j + 1, q, a, c, by omega, by go_num, rfl, H9.out⟩
        case measure => simp [intOf]; omega
      | true =>
        rw [hpx] at cx
        go_wp2_with (first
          | (refine wpList_load_row rfl 99 _ rfl X rfl 99 _ (0, 0) _ hXX Tryz.underlying99 rfl hi97 ?_))
        refine cx.mono ?_
        clear cx
        rintro e7 w7 ⟨rfl, hb7⟩
        have hX7 := HXX.out w7 hb7
        have o7 := HO.out w7 hb7
        have b7 : Below w.heap.size w w7 := HBW.out.trans (hb7.mono HBW.out.size)
        clear hb7
        have hqq := HQ.out.2
        have s7 := b7.size
        go_wp2_with (first
          | (refine wpList_load_row rfl 99 _ rfl X rfl 99 _ (0, 0) _ hX7 Tryz.underlying99 rfl hi97 ?_)
          | (at_builtin; refine wpList_append_own _ rfl (.tmp 17) (.tmp 19) 28 rfl w.heap.size 99 im _ 8 64 Tryz.underlying28 him hm0 hm1 hm2 rfl (by decide) _ _ _ rfl (o7.alloc _) ⟨w7.heap.size, 0, none⟩ 1 1 (msrC x).toList rfl rfl (fun jj uu hu => by rw [Addr.add_mid9, cell_of_row _ _ _ _ _ (0, 0) (heap_alloc_new w7 _)]; rw [Nat.zero_add]; rw [Array.getElem?_toList] at hu; exact hu) (fun uu hu => (by unfold msrC at hu; simp at hu; rcases hu with e | e | e | e | e | e | e | e <;> (subst e; rfl))) (by unfold maxLen; omega) (by omega) (by simp; omega) ?_))
        intro v8 w8 o8 g8 _
        obtain ⟨a8, k8, rfl⟩ := own_sl8 o8
        have H9 : Hid (q + 1 = ((l.take (j + 1)).filter p).length ∧ w8.ownsRow w.heap.size 99 8 (.slice a8 (q + 1) k8) (q + 1) (flatM ((l.take (j + 1)).filter p)) ∧ Below w.heap.size w w8) := by
          have e9 : (l.take (j + 1)).filter p = (l.take j).filter p ++ [x] := by rw [HTk.out, List.filter_append]; simp [hpx]
          rw [e9, flatM_snoc]
          refine ⟨by rw [List.length_append, ← HQ.out.1]; rfl, o8, (b7.alloc b7.size _).grown g8 (by simp; omega) (fun k e => (o7.lt k e).1)⟩
        clear o8 g8 o7 b7 hX7
        go_wp2
        go_roundw
        case rel => exact ⟨j + 1, q + 1, a8, k8, by omega, by go_num, rfl, H9.out⟩
        case measure => simp [intOf]; omega
    · obtain rfl : j = s.n := by omega
      have hlt' : ¬ ((s.n : Nat) : Int) < (s.n : Nat) := by omega
      have HE : Hid (q = (l.filter p).length ∧ wr.ownsRow w.heap.size 99 8 (.slice a q c) q (flatM (l.filter p)) ∧ Below w.heap.size w wr) := by
        have := HJ.out
        rwa [List.take_of_length_le (by rw [HS.out]; exact Nat.le_refl _)] at this
      have Hll : Hid ((l.filter p).length ≤ 1048576) := Nat.le_trans (List.length_filter_le p l) HLL.out
      clear HJ
      go_wp2
      go_ret
      obtain ⟨h1, h2, h3⟩ := HE.out
      subst h1
      exact ⟨⟨a, c, rfl, rows_of_own Hll.out h2⟩, h3⟩
end Go.Proofs.YtmidaeljeoifdaaGreatDoor

namespace Go.Proofs.YtmidaeljeoifdaaGreatDoor
open Go.RowKit Go.Shelf Go.Sort
set_option linter.unusedVariables false
set_option linter.unusedSimpArgs false

/-! ### Rows that grow: memory -/
structure RwX {α : Type} (k : Nat) (P : α → Nat → Value → Prop) (l : List α) (xs : List Value) : Prop where
  n : xs.length = l.length * k
  at' : ∀ j x, l[j]? = some x → ∀ i, i < k → ∃ u, xs[j * k + i]? = some u ∧ P x i u
theorem RwX.nil {α : Type} (k : Nat) (P : α → Nat → Value → Prop) : RwX k P [] [] := ⟨by simp, fun j x hj => by simp at hj⟩
theorem RwX.mono {α : Type} {k : Nat} {P Q : α → Nat → Value → Prop} {l : List α} {xs : List Value} (h : RwX k P l xs) (hPQ : ∀ x i u, P x i u → Q x i u) : RwX k Q l xs :=
  ⟨h.n, fun j x hj i hi => by obtain ⟨u, h1, h2⟩ := h.at' j x hj i hi; exact ⟨u, h1, hPQ x i u h2⟩⟩
theorem RwX.snoc {α : Type} {k : Nat} {P : α → Nat → Value → Prop} {l : List α} {xs : List Value} (h : RwX k P l xs) (x : α) (cs : List Value) (hc : cs.length = k) (hP : ∀ i, i < k → ∃ u, cs[i]? = some u ∧ P x i u) : RwX k P (l ++ [x]) (xs ++ cs) := by
  refine ⟨by rw [List.length_append, List.length_append, h.n, hc, Nat.add_mul]; simp, fun j y hj i hi => ?_⟩
  by_cases hjl : j < l.length
  · rw [List.getElem?_append_left hjl] at hj
    obtain ⟨u, h1, h2⟩ := h.at' j y hj i hi
    exact ⟨u, by rw [List.getElem?_append_left (List.getElem?_eq_some_iff.1 h1).1]; exact h1, h2⟩
  · have hje : j = l.length := by
      have := (List.getElem?_eq_some_iff.1 hj).1
      simp at this
      omega
    subst hje
    rw [List.getElem?_append_right (Nat.le_refl _), Nat.sub_self] at hj
    have hxy : x = y := by simpa using hj
    subst hxy
    obtain ⟨u, h1, h2⟩ := hP i hi
    refine ⟨u, ?_, h2⟩
    rw [List.getElem?_append_right (by rw [h.n]; omega), h.n]
    rw [show l.length * k + i - l.length * k = i by omega]
    exact h1
theorem RwX.rows {α : Type} {w : World} {base E k : Nat} {P : α → Nat → Value → Prop} {s : Sl} {l : List α} {xs : List Value} (ho : w.ownsRow base E k (.slice s.a s.n s.c) l.length xs) (h : RwX k P l xs) : RowsAt w k P s l := by
  rcases ho.2 with ⟨e, h0⟩ | ⟨g, cap, cur, e, hb, hg, hnc, hcm, hcs, htk⟩
  · injection e with e1 e2 e3
    exact ⟨by rw [e2, h0], by rw [e2]; exact Nat.zero_le _, by rw [e3]; exact Nat.zero_le _, fun j x hj => by have := (List.getElem?_eq_some_iff.1 hj).1; omega⟩
  · injection e with e1 e2 e3
    refine ⟨e2, by rw [e2, e3]; exact hnc, by rw [e3]; exact hcm, fun j x hj => ⟨g, 0, e1, heap_lt hg, fun i hi => ?_⟩⟩
    obtain ⟨u, h1, h2⟩ := h.at' j x hj i hi
    refine ⟨u, ?_, h2⟩
    rw [e1, e2, e3] at ho
    have hlt : j * k + i < l.length * k := by have := (List.getElem?_eq_some_iff.1 h1).1; rw [h.n] at this; exact this
    rw [show 0 + j * k + i = j * k + i by omega, ho.cellAt _ hlt]
    exact h1
theorem own_slk {w : World} {b E k n : Nat} {v : Value} {xs : List Value} (h : w.ownsRow b E k v n xs) : ∃ a cc, v = .slice a n cc := by
  rcases h.2 with ⟨h1, h0⟩ | ⟨g, cap, cur, h1, _⟩
  · exact ⟨none, 0, by rw [h0]; exact h1⟩
  · exact ⟨_, _, h1⟩
theorem cells_new9 (w : World) (cs : Array Value) (t : TypeId) : ∀ j u, cs.toList[j]? = some u → (w.alloc (.cells cs t)).cell? ((⟨w.heap.size, 0, none⟩ : Addr).add j) = some u := fun j u hj => by
  rw [Addr.add_mid9, Nat.zero_add, cell_of_row _ _ j _ _ (0, 0) (heap_alloc_new w _)]
  rw [← Array.getElem?_toList]
  exact hj
end Go.Proofs.YtmidaeljeoifdaaGreatDoor

namespace Go.Proofs.YtmidaeljeoifdaaGreatDoor
open Go.RowKit Go.Shelf Go.Sort Go.Maps
set_option linter.unusedVariables false
set_option linter.unusedSimpArgs false

/-! ### Two rows that grow, apart -/
theorem iinfo9 : (Tryz.prog.info? 3).map (fun i => (i.zero, i.size, i.bytes)) = some (some (I 0), 1, 8) := by kernel_rfl
structure Two9 (B E k : Nat) (w : World) (u1 : Value) (n : Nat) (xs : List Value) (u2 : Value) (m : Nat) (ys : List Value) : Prop where
  o1 : w.ownsRow B E k u1 n xs
  o2 : w.ownsRow B E k u2 m ys
  ap : ∀ g, u1.ownBlock = some g → u2.ownBlock ≠ some g
theorem Two9.symm {B E k : Nat} {w : World} {u1 u2 : Value} {n m : Nat} {xs ys : List Value} (h : Two9 B E k w u1 n xs u2 m ys) : Two9 B E k w u2 m ys u1 n xs := ⟨h.o2, h.o1, fun g e e' => h.ap g e' e⟩
theorem Two9.below {B E k : Nat} {w w' : World} {u1 u2 : Value} {n m : Nat} {xs ys : List Value} (h : Two9 B E k w u1 n xs u2 m ys) (hb : Below w.heap.size w w') : Two9 B E k w' u1 n xs u2 m ys := ⟨own_below h.o1 hb, own_below h.o2 hb, h.ap⟩
theorem Two9.left {B E k : Nat} {w w' : World} {u1 u2 u3 : Value} {n m n' : Nat} {xs ys xs' : List Value} (h : Two9 B E k w u1 n xs u2 m ys) (o : w'.ownsRow B E k u3 n' xs') (g : w.grownBy w' u1.ownBlock) (ha : u3.ownBlock = u1.ownBlock ∨ u3.ownBlock = some w.heap.size) : Two9 B E k w' u3 n' xs' u2 m ys := by
  refine ⟨o, h.o2.kept g ?_, fun b e e' => ?_⟩
  · cases e : u2.ownBlock with
    | none => exact .inl rfl
    | some b => exact .inr (fun e' => h.ap b e'.symm e)
  · rcases ha with ha | ha
    · exact h.ap b (ha ▸ e) e'
    · rw [ha] at e
      cases e
      have := (h.o2.lt _ e').2
      omega
theorem Two9.nil {B E k : Nat} {w : World} : Two9 B E k w (.slice none 0 0) 0 [] (.slice none 0 0) 0 [] := ⟨World.ownsRow_nil _ _ _ _, World.ownsRow_nil _ _ _ _, fun g e => by cases e⟩
theorem grown_blk9 {a b : World} {r : Option Nat} (h : a.grownBy b r) {i : Nat} (hi : i < a.heap.size) (hr : some i ≠ r) : b.heap[i]? = a.heap[i]? := by
  obtain ⟨_, _, _, _, h5⟩ := h
  exact h5 i hi hr
theorem take_map9 {α β : Type} (f : α → β) {l : List α} {j : Nat} {x : α} (h : l[j]? = some x) : (l.take (j + 1)).map f = (l.take j).map f ++ [f x] := by
  rw [List.take_add_one, h, Option.toList_some, List.map_append]; rfl
theorem rows_ints9 {w : World} {base n : Nat} {s : Sl} {l : List Int} (hn : n = l.length) (ho : w.ownsRow base 3 1 (.slice s.a s.n s.c) n (l.map fun x => I x)) : RowsAt w 1 intP s l := by
  subst hn
  refine RwX.rows (P := intP) ho ⟨by simp, fun j x hj i hi => ⟨I x, ?_, rfl⟩⟩
  obtain rfl : i = 0 := by omega
  rw [Nat.mul_one, Nat.add_zero, List.getElem?_map, hj]
  rfl
end Go.Proofs.YtmidaeljeoifdaaGreatDoor

namespace Go.Proofs.YtmidaeljeoifdaaGreatDoor
open Go.RowKit Go.Shelf Go.Sort Go.Maps
set_option linter.unusedVariables false
set_option linter.unusedSimpArgs false

/-! ### Rows of their own that hold rows of numbers -/
theorem wpList_id99 {P : Program} {ops : Array Oper} {Q : Exit → Act → World → Prop} {l : List Oper} {a : Act} {w : World} (h : wpList P ops Q l a w) : wpList P ops Q l a w := h
theorem own_kept9 {W W' : World} {b1 b2 E1 E2 k1 k2 n m : Nat} {u v : Value} {xs ys : List Value} (h : W.ownsRow b1 E1 k1 u n xs) (h2 : W.ownsRow b2 E2 k2 v m ys) (hne : E1 ≠ E2) (hg : W.grownBy W' v.ownBlock) : W'.ownsRow b1 E1 k1 u n xs := by
  refine h.kept hg ?_
  rcases h.2 with ⟨h0, _⟩ | ⟨g, cap, cur, hv, _, hh, _⟩
  · rw [h0]; exact .inl rfl
  · right
    intro e
    rcases h2.2 with ⟨h0, _⟩ | ⟨g', cap', cur', hv', _, hh', _⟩
    · rw [h0, hv] at e; cases e
    · rw [hv, hv'] at e
      have e3 : g = g' := Option.some.inj e
      rw [e3, hh'] at hh
      injection hh with hh
      injection hh with _ e4
      exact hne e4.symm
def IntsO9 (w : World) (base : Nat) (l : List Int) (u : Value) : Prop := w.ownsRow base 3 1 u l.length (l.map fun x => I x)
theorem intsO_below9 {w w' : World} {base : Nat} {l : List Int} {u : Value} (h : IntsO9 w base l u) (hb : Below w.heap.size w w') : IntsO9 w' base l u := own_below h hb
theorem intsO_grown9 {w w' : World} {base b2 E2 k2 m : Nat} {l : List Int} {u v : Value} {ys : List Value} (h : IntsO9 w base l u) (h2 : w.ownsRow b2 E2 k2 v m ys) (hg : w.grownBy w' v.ownBlock) (hne : 3 ≠ E2) : IntsO9 w' base l u := own_kept9 h h2 hne hg
theorem intsO_v9 {w : World} {base : Nat} {l : List Int} {u : Value} (h : IntsO9 w base l u) : IntsV w l u := by
  obtain ⟨a, c, rfl⟩ := own_slk h
  exact ⟨⟨a, l.length, c⟩, rfl, rows_ints9 (s := ⟨a, l.length, c⟩) rfl h⟩
def tkO9 (w : World) (base : Nat) (x : TkR) (i : Nat) (u : Value) : Prop := match i with | 0 => u = I x.prio | 1 => u = I x.ring | 2 => u = .bool x.full | 3 => u = I x.limit | 4 => u = .int .u32 (x.mask : Int) | 5 => u = I x.inner | 6 => IntsO9 w base x.own u | _ => u = .int .u32 (x.auto : Int)
def isO9 (w : World) (base : Nat) (x : IsR) (i : Nat) (u : Value) : Prop := match i with | 0 => u = I x.cat | 1 => u = I x.prio | _ => IntsO9 w base x.own u
theorem tkO_below9 {w w' : World} {base : Nat} {x : TkR} {i : Nat} {u : Value} (h : tkO9 w base x i u) (hb : Below w.heap.size w w') : tkO9 w' base x i u := by
  unfold tkO9 at h ⊢
  split at h <;> first | exact h | exact intsO_below9 h hb
theorem isO_below9 {w w' : World} {base : Nat} {x : IsR} {i : Nat} {u : Value} (h : isO9 w base x i u) (hb : Below w.heap.size w w') : isO9 w' base x i u := by
  unfold isO9 at h ⊢
  split at h <;> first | exact h | exact intsO_below9 h hb
theorem tkO_grown9 {w w' : World} {base b2 k2 m : Nat} {x : TkR} {i : Nat} {u v : Value} {ys : List Value} (h : tkO9 w base x i u) (h2 : w.ownsRow b2 56 k2 v m ys) (hg : w.grownBy w' v.ownBlock) : tkO9 w' base x i u := by
  unfold tkO9 at h ⊢
  split at h <;> first | exact h | exact intsO_grown9 h h2 hg (by decide)
theorem isO_grown9 {w w' : World} {base b2 k2 m : Nat} {x : IsR} {i : Nat} {u v : Value} {ys : List Value} (h : isO9 w base x i u) (h2 : w.ownsRow b2 72 k2 v m ys) (hg : w.grownBy w' v.ownBlock) : isO9 w' base x i u := by
  unfold isO9 at h ⊢
  split at h <;> first | exact h | exact intsO_grown9 h h2 hg (by decide)
theorem tkO_P9 {w : World} {base : Nat} {x : TkR} {u : Value} : ∀ {i : Nat}, tkO9 w base x i u → tkrP w x i u
  | 0, h => h
  | 1, h => h
  | 2, h => h
  | 3, h => h
  | 4, h => h
  | 5, h => h
  | 6, h => intsO_v9 h
  | _ + 7, h => h
theorem isO_P9 {w : World} {base : Nat} {x : IsR} {u : Value} : ∀ {i : Nat}, isO9 w base x i u → isrP w x i u
  | 0, h => h
  | 1, h => h
  | _ + 2, h => intsO_v9 h
theorem tkP_below9 {w w' : World} {x : Tk} {i : Nat} {u : Value} (h : tkP w x i u) (hb : Below w.heap.size w w') : tkP w' x i u := by
  unfold tkP at h ⊢
  split at h <;> first | exact h | exact IntsV.below h hb
theorem alP_below9 {w w' : World} {x : Al} {i : Nat} {u : Value} (h : alP w x i u) (hb : Below w.heap.size w w') : alP w' x i u := by
  unfold alP at h ⊢
  split at h <;> first | exact h | exact IntsV.below h hb
theorem isP_below9 {w w' : World} {x : Is} {i : Nat} {u : Value} (h : isP w x i u) (hb : Below w.heap.size w w') : isP w' x i u := by
  unfold isP at h ⊢
  split at h <;> first | exact h | exact IntsV.below h hb
end Go.Proofs.YtmidaeljeoifdaaGreatDoor

namespace Go.Proofs.YtmidaeljeoifdaaGreatDoor
open Go.RowKit Go.Shelf Go.Sort Go.Maps
set_option linter.unusedVariables false
set_option linter.unusedSimpArgs false

/-! ### table.rows[tappet/api.Task,int] -/
set_option maxHeartbeats 8000000 in
set_option maxRecDepth 100000 in
theorem rows_Task_int (w : World) (s : Sl) (l : List Tk) (hl : RowsAt w 8 (tkP w) s l) (hll : l.length ≤ 1048576) (f : Nat) (caps : Array Value) (eg : ∀ args W, (callFunc f args).run Tryz.prog W = .ok (.enter f args) W) (mk : Tk → Int)
    (hf : ∀ W, Below w.heap.size w W → ∀ x ∈ l, ∀ s4 : Sl, RowsAt W 1 intP s4 x.auto → ∀ s5 : Sl, RowsAt W 1 intP s5 x.res → ∀ s6 : Sl, RowsAt W 1 intP s6 x.evs → ∀ s7 : Sl, RowsAt W 1 intP s7 x.msgs → Calls Tryz.prog f (#[.agg #[S x.name, I x.prio, .bool x.full, I x.act, .slice s4.a s4.n s4.c, .slice s5.a s5.n s5.c, .slice s6.a s6.n s6.c, .slice s7.a s7.n s7.c]] ++ caps) W fun e w' => e = .returned (I (mk x)) ∧ Below W.heap.size W w') :
    Calls Tryz.prog 136 #[.slice s.a s.n s.c, .func (.func f) #[] caps] w fun e w' => (∃ a c xs, e = .returned (.slice a l.length c) ∧ w'.ownsRow w.heap.size 3 1 (.slice a l.length c) l.length xs ∧ RwX 1 (intP) (l.map mk) xs) ∧ Below w.heap.size w w' := by
  obtain ⟨im, him, hm0, hm1, hm2⟩ := info_parts iinfo9
  have HS : Hid (s.n = l.length) := hl.n
  have hsn : s.n ≤ 1048576 := by have := hl.n; omega
  have hsc : s.n ≤ s.c := hl.c
  have hsm : s.c ≤ maxLen := hl.m
  unfold maxLen at hsm
  have HH : Hid (∀ W, Below w.heap.size w W → RowsAt W 8 (tkP W) s l) := fun W hW => hl.below hW (fun x i u _ h => tkP_below9 h hW)
  have HFF : Hid (∀ W, Below w.heap.size w W → ∀ x ∈ l, ∀ s4 : Sl, RowsAt W 1 intP s4 x.auto → ∀ s5 : Sl, RowsAt W 1 intP s5 x.res → ∀ s6 : Sl, RowsAt W 1 intP s6 x.evs → ∀ s7 : Sl, RowsAt W 1 intP s7 x.msgs → Calls Tryz.prog f (#[.agg #[S x.name, I x.prio, .bool x.full, I x.act, .slice s4.a s4.n s4.c, .slice s5.a s5.n s5.c, .slice s6.a s6.n s6.c, .slice s7.a s7.n s7.c]] ++ caps) W fun e w' => e = .returned (I (mk x)) ∧ Below W.heap.size W w') := hf
  clear hl hf hll
  obtain ⟨w2, hmk, hO2, hg2⟩ := run_make_own (P := Tryz.prog) w w.heap.size 54 3 im _ 1 Tryz.underlying54 him hm0 hm1 .i64 .i64 s.n (by rw [hm2]; omega) (by unfold maxLen; omega) (Nat.le_refl _)
  have HO2 : Hid (w2.ownsRow w.heap.size 3 1 (.slice (some ⟨w.heap.size, 0, none⟩) 0 s.n) 0 [] ∧ Below w.heap.size w w2) := ⟨hO2, below_none hg2⟩
  clear hO2 hg2
  go_enter Tryz.func136, Tryz.ntmps136
  go_wp2
  clear hmk
  go_loopw [5, 7, 13] (fun ov _ iv wr => ∃ (j : Nat) (a : Option Addr) (c : Nat), j ≤ s.n ∧ iv = .int .i64 j ∧ ov = .slice a j c ∧ Hid (Below w.heap.size w wr ∧ ∃ xs, wr.ownsRow w.heap.size 3 1 (.slice a j c) j xs ∧ RwX 1 (intP) ((l.take j).map mk) xs)) (fun _ _ iv _ => s.n - (intOf iv).toNat)
  case atStart => exact ⟨0, _, _, by omega, rfl, rfl, HO2.out.2, [], HO2.out.1, RwX.nil _ _⟩
  case round =>
    obtain ⟨j, a, c, hj, rfl, rfl, HJ⟩ := hrel
    by_cases hlt : j < s.n
    · have hlt' : (j : Int) < s.n := by omega
      obtain ⟨x, hx⟩ : ∃ x, l[j]? = some x := ⟨_, List.getElem?_eq_getElem (by rw [← HS.out]; exact hlt)⟩
      obtain ⟨g5, o5, e5, hg5, hr5⟩ := (HH.out _ HJ.out.1).row j x hx
      obtain ⟨u0, a0, q0⟩ := hr5 0 (by omega)
      obtain ⟨u1, a1, q1⟩ := hr5 1 (by omega)
      obtain ⟨u2, a2, q2⟩ := hr5 2 (by omega)
      obtain ⟨u3, a3, q3⟩ := hr5 3 (by omega)
      obtain ⟨u4, a4, q4⟩ := hr5 4 (by omega)
      obtain ⟨u5, a5, q5⟩ := hr5 5 (by omega)
      obtain ⟨u6, a6, q6⟩ := hr5 6 (by omega)
      obtain ⟨u7, a7, q7⟩ := hr5 7 (by omega)
      have f0 : u0 = S x.name := q0
      have f1 : u1 = I x.prio := q1
      have f2 : u2 = .bool x.full := q2
      have f3 : u3 = I x.act := q3
      obtain ⟨s4, f4, r4⟩ := (show IntsV wr x.auto u4 from q4)
      obtain ⟨s5, f5, r5⟩ := (show IntsV wr x.res u5 from q5)
      obtain ⟨s6, f6, r6⟩ := (show IntsV wr x.evs u6 from q6)
      obtain ⟨s7, f7, r7⟩ := (show IntsV wr x.msgs u7 from q7)
      subst f0 f1 f2 f3 f4 f5 f6 f7
      rw [Nat.add_zero] at a0
      have bX : Below wr.heap.size wr (wr.alloc (.cells #[S x.name, I x.prio, .bool x.full, I x.act, .slice s4.a s4.n s4.c, .slice s5.a s5.n s5.c, .slice s6.a s6.n s6.c, .slice s7.a s7.n s7.c] 58)) := below_alloc wr _
      have bW : Below w.heap.size w (wr.alloc (.cells #[S x.name, I x.prio, .bool x.full, I x.act, .slice s4.a s4.n s4.c, .slice s5.a s5.n s5.c, .slice s6.a s6.n s6.c, .slice s7.a s7.n s7.c] 58)) := HJ.out.1.trans (bX.mono HJ.out.1.size)
      have hXX := heap_alloc_new wr (.cells #[S x.name, I x.prio, .bool x.full, I x.act, .slice s4.a s4.n s4.c, .slice s5.a s5.n s5.c, .slice s6.a s6.n s6.c, .slice s7.a s7.n s7.c] 58)
      have cx := HFF.out _ bW x (List.mem_of_getElem? hx) s4 (r4.below bX (fun _ _ _ _ h => h)) s5 (r5.below bX (fun _ _ _ _ h => h)) s6 (r6.below bX (fun _ _ _ _ h => h)) s7 (r7.below bX (fun _ _ _ _ h => h))
      have HTk : Hid ((l.take (j + 1)).map mk = (l.take j).map mk ++ [mk x]) := take_map9 mk hx
      have HJ0 : Hid (∃ xs, (wr.alloc (.cells #[S x.name, I x.prio, .bool x.full, I x.act, .slice s4.a s4.n s4.c, .slice s5.a s5.n s5.c, .slice s6.a s6.n s6.c, .slice s7.a s7.n s7.c] 58)).ownsRow w.heap.size 3 1 (.slice a j c) j xs ∧ RwX 1 (intP) ((l.take j).map mk) xs) := by
        obtain ⟨_, xs, h1, h2⟩ := HJ.out
        exact ⟨xs, own_below h1 bX, h2⟩
      rw [e5]
      clear hx e5 hr5 hg5 HJ q0 q1 q2 q3
      go_upto_region 5 with fail
      have HXS : Hid (wr.heap.size < (wr.alloc (.cells #[S x.name, I x.prio, .bool x.full, I x.act, .slice s4.a s4.n s4.c, .slice s5.a s5.n s5.c, .slice s6.a s6.n s6.c, .slice s7.a s7.n s7.c] 58)).heap.size) := by show _ < _; simp
      generalize wr.heap.size = X at *
      generalize (wr.alloc (.cells #[S x.name, I x.prio, .bool x.full, I x.act, .slice s4.a s4.n s4.c, .slice s5.a s5.n s5.c, .slice s6.a s6.n s6.c, .slice s7.a s7.n s7.c] 58)) = W0 at *
      have hi97 : (Tryz.prog.info? 58).map (·.size) = some (#[S x.name, I x.prio, .bool x.full, I x.act, .slice s4.a s4.n s4.c, .slice s5.a s5.n s5.c, .slice s6.a s6.n s6.c, .slice s7.a s7.n s7.c] : Array Value).size := by kernel_rfl
      have HBW : Hid (Below w.heap.size w W0) := bW
      clear bW bX
      go_wp2_with (first
        | (with_reducible refine wpList_id99 ?_; refine wpList_load_row rfl 58 _ rfl X rfl 58 _ (0, 0) _ hXX Tryz.underlying58 rfl hi97 ?_))
      refine cx.mono ?_
      clear cx
      rintro e7 w7 ⟨rfl, hb7⟩
      have B7 : Below w.heap.size w w7 := HBW.out.trans (hb7.mono HBW.out.size)
      obtain ⟨xs, h1, h2⟩ := HJ0.out
      have o7 := own_below h1 hb7
      have HX7 : Hid (RwX 1 (intP) ((l.take j).map mk) xs) := h2
      clear h1 h2 hb7 HJ0
      have s7 := B7.size
      have hjl : j ≤ 1048576 := by omega
      have hnew := cells_new9 w7 #[I (mk x)] 3
      have hone : ∀ u ∈ (#[I (mk x)] : Array Value).toList, u.oneCell' = true := by intro u hu; simp at hu; subst hu; rfl
      go_wp2_with (first
        | (at_builtin; refine wpList_append_own _ rfl (.tmp 17) (.tmp 21) 54 rfl w.heap.size 3 im _ 1 8 Tryz.underlying54 him hm0 hm1 hm2 rfl (by decide) _ _ _ rfl (o7.alloc _) ⟨w7.heap.size, 0, none⟩ 1 1 (#[I (mk x)] : Array Value).toList rfl rfl hnew hone (by unfold maxLen; omega) (by omega) (by simp; omega) ?_))
      intro v8 w8 o8 g8 _
      obtain ⟨a8, k8, rfl⟩ := own_slk o8
      have b8 : Below w7.heap.size w7 (w7.alloc (.cells #[I (mk x)] 3)) := below_alloc w7 _
      have H9 : Hid (Below w.heap.size w w8 ∧ ∃ xs, w8.ownsRow w.heap.size 3 1 (.slice a8 (j + 1) k8) (j + 1) xs ∧ RwX 1 (intP) ((l.take (j + 1)).map mk) xs) := by
        refine ⟨(B7.alloc B7.size _).grown g8 (by simp; omega) (fun k e => (o7.lt k e).1), _, o8, ?_⟩
        rw [HTk.out]
        refine RwX.snoc (HX7.out) _ _ rfl (fun i hi => ?_)
        obtain rfl : i = 0 := by omega
        exact ⟨_, rfl, rfl⟩
      clear o8 g8 o7 B7 hnew hone b8
      go_wp2
      go_roundw
      case rel => exact ⟨j + 1, a8, k8, by omega, by go_num, rfl, H9.out⟩
      case measure => simp [intOf]; omega
    · obtain rfl : j = s.n := by omega
      have hlt' : ¬ ((s.n : Nat) : Int) < (s.n : Nat) := by omega
      have HE : Hid (Below w.heap.size w wr ∧ ∃ xs, wr.ownsRow w.heap.size 3 1 (.slice a s.n c) s.n xs ∧ RwX 1 (intP) (l.map mk) xs) := by
        have := HJ.out
        rwa [List.take_of_length_le (by rw [HS.out]; exact Nat.le_refl _)] at this
      clear HJ
      go_wp2
      go_ret
      obtain ⟨h1, xs, h2, h3⟩ := HE.out
      rw [← HS.out]
      first | exact ⟨⟨a, c, xs, rfl, h2, h3⟩, h1⟩ | exact ⟨⟨a, c, rfl, xs, h2, h3⟩, h1⟩
end Go.Proofs.YtmidaeljeoifdaaGreatDoor

namespace Go.Proofs.YtmidaeljeoifdaaGreatDoor
open Go.RowKit Go.Shelf Go.Sort Go.Maps
set_option linter.unusedVariables false
set_option linter.unusedSimpArgs false

/-! ### A row of one number sorted -/
set_option maxHeartbeats 8000000 in
set_option maxRecDepth 100000 in
theorem insert1 (w : World) (a : Option Addr) (c : Nat) (F : Value) : Calls Tryz.prog 260 #[.slice a 1 c, I 0, I 1, F] w fun e w' => e = .returned (.tuple #[]) ∧ w' = w := by
  go_enter Tryz.func260, Tryz.ntmps260
  go_wp2
  go_loopw [8] (fun iv wr => iv = .int .i64 1 ∧ wr = w) (fun _ _ => 0)
  case atStart => exact ⟨rfl, rfl⟩
  case round =>
    obtain ⟨rfl, rfl⟩ := hrel
    go_wp2
    refine bodyPost_end (v := .tuple #[]) (by simp [results, Tryz.results260, go_sem]) rfl ?_
    exact ⟨rfl, rfl⟩
set_option maxHeartbeats 8000000 in
set_option maxRecDepth 100000 in
theorem pdq1 (w : World) (a : Option Addr) (c : Nat) (k : Int) (F : Value) : Calls Tryz.prog 202 #[.slice a 1 c, I 0, I 1, I k, F] w fun e w' => e = .returned (.tuple #[]) ∧ w' = w := by
  have k1 := insert1 w a c F
  go_enter Tryz.func202, Tryz.ntmps202
  go_wp2
  go_loopw [1, 2] (fun av bv wr => av = I 0 ∧ bv = I 1 ∧ wr = w) (fun _ _ _ => 0)
  case atStart => exact ⟨rfl, rfl, rfl⟩
  case round =>
    obtain ⟨rfl, rfl, rfl⟩ := hrel
    go_wp2_with (first | (go_at_call 260; refine k1.mono ?_; clear k1; rintro e w1 ⟨rfl, rfl⟩))
    refine bodyPost_ret (v := .tuple #[]) (by simp [results, Tryz.results202, go_sem]) rfl ?_
    exact ⟨rfl, rfl⟩
set_option maxHeartbeats 8000000 in
set_option maxRecDepth 100000 in
theorem len1 (w : World) : Calls Tryz.prog 203 #[.int .u64 1] w fun e w' => (∃ k : Int, e = .returned (I k)) ∧ w' = w := by
  go_enter Tryz.func203, Tryz.ntmps203
  go_wp2
  go_ret
  exact ⟨⟨_, rfl⟩, rfl⟩
set_option maxHeartbeats 8000000 in
set_option maxRecDepth 100000 in
theorem compact1 (w : World) (a : Option Addr) (c : Nat) : Calls Tryz.prog 141 #[.slice a 1 c] w fun e w' => e = .returned (.slice a 1 c) ∧ w' = w := by
  go_enter Tryz.func141, Tryz.ntmps141
  go_wp2
  go_ret
  exact ⟨rfl, rfl⟩
end Go.Proofs.YtmidaeljeoifdaaGreatDoor

