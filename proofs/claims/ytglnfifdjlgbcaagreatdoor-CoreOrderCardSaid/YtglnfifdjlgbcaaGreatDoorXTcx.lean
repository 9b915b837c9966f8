import Derived.Test.YtglnfifdjlgbcaaGreatDoorXTcp
import Derived.Deep.Cut
import Derived.Test.YtglnfifdjlgbcaaGreatDoorXTct
import Derived.Deep.RegionHeldLaw
namespace Go.Proofs.YtglnfifdjlgbcaaGreatDoor
open Go.RowKit Go.Shelf Go.Sort
set_option linter.unusedVariables false
set_option linter.unusedSimpArgs false

/-! ### those of the messages -/
theorem minfo : (Tryz.prog.info? 161).map (fun i => (i.zero, i.size, i.bytes)) = some (some (.agg #[I 0, I 0, I 0, .int .u64 0, I 0, I 0, I 0, .int .u32 0]), 8, 64) := by kernel_rfl
def flatM (l : List MsR) : List Value := l.flatMap (fun x => (msrC x).toList)
theorem flatM_len (l : List MsR) : (flatM l).length = l.length * 8 := by
  induction l with
  | nil => rfl
  | cons x r ih =>
    rw [flatM, List.flatMap_cons, List.length_append, List.length_cons]
    have : (List.flatMap (fun x => (msrC x).toList) r).length = r.length * 8 := ih
    rw [this]
    have h8 : ((msrC x).toList).length = 8 := rfl
    omega
theorem flatM_snoc (l : List MsR) (x : MsR) : flatM (l ++ [x]) = flatM l ++ (msrC x).toList := by simp [flatM]
theorem flatM_at : ∀ (l : List MsR) (j : Nat) (x : MsR) (i : Nat) (u : Value), l[j]? = some x → (msrC x)[i]? = some u → i < 8 → (flatM l)[j * 8 + i]? = some u
  | [], j, x, i, u, h, _, _ => by simp at h
  | y :: r, 0, x, i, u, h, hu, hi => by
    cases h
    have h8 : ((msrC y).toList).length = 8 := rfl
    rw [flatM, List.flatMap_cons, Nat.zero_mul, Nat.zero_add, List.getElem?_append_left (by omega)]
    rw [Array.getElem?_toList]
    exact hu
  | y :: r, j + 1, x, i, u, h, hu, hi => by
    have ih := flatM_at r j x i u (by simpa using h) hu hi
    have h8 : ((msrC y).toList).length = 8 := rfl
    rw [flatM, List.flatMap_cons, List.getElem?_append_right (by omega), show (j + 1) * 8 + i - ((msrC y).toList).length = j * 8 + i by omega]
    exact ih
theorem rows_of_own {w : World} {b : Nat} {a : Option Addr} {c : Nat} {l : List MsR} (hl : l.length ≤ 1048576) (h : w.ownsRow b 161 8 (.slice a l.length c) l.length (flatM l)) : RowsAt w 8 msrP ⟨a, l.length, c⟩ l := by
  rcases h.2 with ⟨h1, h0⟩ | ⟨g, cap, cur, h1, hb, hg, hnc, hcm, hcs, ht⟩
  · have hn : l = [] := List.eq_nil_of_length_eq_zero h0
    subst hn
    injection h1 with e1 e2 e3
    subst e1 e3
    exact ⟨rfl, Nat.le_refl _, Nat.zero_le _, fun j x hj => by simp at hj⟩
  · injection h1 with e1 e2 e3
    subst e1 e3
    refine ⟨rfl, hnc, hcm, fun j x hj => ⟨g, 0, rfl, heap_lt hg, fun i hi => ?_⟩⟩
    have hjl := (List.getElem?_eq_some_iff.1 hj).1
    have h8 : (msrC x).size = 8 := rfl
    obtain ⟨u, hu⟩ : ∃ u, (msrC x)[i]? = some u := ⟨_, Array.getElem?_eq_getElem (by omega)⟩
    refine ⟨u, ?_, ?_⟩
    · rw [Nat.zero_add, h.cellAt (j * 8 + i) (by omega)]
      exact flatM_at l j x i u hj hu hi
    · rcases (by omega : i = 0 ∨ i = 1 ∨ i = 2 ∨ i = 3 ∨ i = 4 ∨ i = 5 ∨ i = 6 ∨ i = 7) with e | e | e | e | e | e | e | e <;> (subst e; cases hu; rfl)
theorem Addr.add_mid9 (b o j : Nat) : (⟨b, o, none⟩ : Addr).add j = ⟨b, o + j, none⟩ := by unfold Addr.add; split <;> simp_all
theorem own_sl8 {w : World} {b E n : Nat} {v : Value} {xs : List Value} (h : w.ownsRow b E 8 v n xs) : ∃ a cc, v = .slice a n cc := by
  rcases h.2 with ⟨h1, h0⟩ | ⟨g, cap, cur, h1, _⟩
  · exact ⟨none, 0, by rw [h0]; exact h1⟩
  · exact ⟨_, _, h1⟩
set_option maxHeartbeats 8000000 in
set_option maxRecDepth 100000 in
theorem those_msr (w : World) (s : Sl) (l : List MsR) (hl : ∀ W, Below w.heap.size w W → RowsAt W 8 msrP s l) (hll : l.length ≤ 1048576) (f : Nat) (caps : Array Value) (eg : ∀ args W, (callFunc f args).run Tryz.prog W = .ok (.enter f args) W) (p : MsR → Bool)
    (hf : ∀ W, Below w.heap.size w W → ∀ x ∈ l, Calls Tryz.prog f (#[.agg #[I x.kind, I x.len, I x.frm, .int .u64 (x.init : Int), I x.queue, I x.ac.kind, I x.ac.task, .int .u32 (x.ac.mask : Int)]] ++ caps) W fun e w' => e = .returned (.bool (p x)) ∧ Below W.heap.size W w') :
    Calls Tryz.prog 254 #[.slice s.a s.n s.c, .func (.func f) #[] caps] w fun e w' => (∃ a c, e = .returned (.slice a (l.filter p).length c) ∧ RowsAt w' 8 msrP ⟨a, (l.filter p).length, c⟩ (l.filter p)) ∧ Below w.heap.size w w' := by
  obtain ⟨im, him, hm0, hm1, hm2⟩ := info_parts minfo
  have h0 := hl w (Below.refl _ _)
  have HS : Hid (s.n = l.length) := h0.n
  have hsc : s.n ≤ s.c := h0.c
  have hsm : s.c ≤ maxLen := h0.m
  unfold maxLen at hsm
  have HH : Hid (∀ W, Below w.heap.size w W → RowsAt W 8 msrP s l) := hl
  have HFF : Hid (∀ W, Below w.heap.size w W → ∀ x ∈ l, Calls Tryz.prog f (#[.agg #[I x.kind, I x.len, I x.frm, .int .u64 (x.init : Int), I x.queue, I x.ac.kind, I x.ac.task, .int .u32 (x.ac.mask : Int)]] ++ caps) W fun e w' => e = .returned (.bool (p x)) ∧ Below W.heap.size W w') := hf
  have HLL : Hid (l.length ≤ 1048576) := hll
  clear hl hf h0 hll
  go_enter Tryz.func254, Tryz.ntmps254
  go_wp2
  go_loopw [5, 7, 10] (fun ov _ iv wr => ∃ (j q : Nat) (a : Option Addr) (c : Nat), j ≤ s.n ∧ iv = .int .i64 j ∧ ov = .slice a q c ∧ Hid (q = ((l.take j).filter p).length ∧ wr.ownsRow w.heap.size 161 8 (.slice a q c) q (flatM ((l.take j).filter p)) ∧ Below w.heap.size w wr)) (fun _ _ iv _ => s.n - (intOf iv).toNat)
  case atStart => exact ⟨0, 0, none, 0, by omega, rfl, rfl, by simp, World.ownsRow_nil _ _ _ _, Below.refl _ _⟩
  case round =>
    obtain ⟨j, q, a, c, hj, rfl, rfl, HJ⟩ := hrel
    by_cases hlt : j < s.n
    · have hlt' : (j : Int) < s.n := by omega
      obtain ⟨x, hx⟩ : ∃ x, l[j]? = some x := ⟨_, List.getElem?_eq_getElem (by rw [← HS.out]; exact hlt)⟩
      obtain ⟨g5, o5, e5, hg5, hr5⟩ := (HH.out _ HJ.out.2.2).row j x hx
      obtain ⟨u0, a0, q0⟩ := hr5 0 (by omega)
      obtain ⟨u1, a1, q1⟩ := hr5 1 (by omega)
      obtain ⟨u2, a2, q2⟩ := hr5 2 (by omega)
      obtain ⟨u3, a3, q3⟩ := hr5 3 (by omega)
      obtain ⟨u4, a4, q4⟩ := hr5 4 (by omega)
      obtain ⟨u5, a5, q5⟩ := hr5 5 (by omega)
      obtain ⟨u6, a6, q6⟩ := hr5 6 (by omega)
      obtain ⟨u7, a7, q7⟩ := hr5 7 (by omega)
      have f0 : u0 = I x.kind := q0
      have f1 : u1 = I x.len := q1
      have f2 : u2 = I x.frm := q2
      have f3 : u3 = .int .u64 (x.init : Int) := q3
      have f4 : u4 = I x.queue := q4
      have f5 : u5 = I x.ac.kind := q5
      have f6 : u6 = I x.ac.task := q6
      have f7 : u7 = .int .u32 (x.ac.mask : Int) := q7
      subst f0 f1 f2 f3 f4 f5 f6 f7
      rw [Nat.add_zero] at a0
      have bX : Below wr.heap.size wr (wr.alloc (.cells #[I x.kind, I x.len, I x.frm, .int .u64 (x.init : Int), I x.queue, I x.ac.kind, I x.ac.task, .int .u32 (x.ac.mask : Int)] 161)) := below_alloc wr _
      have bW : Below w.heap.size w (wr.alloc (.cells #[I x.kind, I x.len, I x.frm, .int .u64 (x.init : Int), I x.queue, I x.ac.kind, I x.ac.task, .int .u32 (x.ac.mask : Int)] 161)) := HJ.out.2.2.trans (bX.mono HJ.out.2.2.size)
      have hXX := heap_alloc_new wr (.cells #[I x.kind, I x.len, I x.frm, .int .u64 (x.init : Int), I x.queue, I x.ac.kind, I x.ac.task, .int .u32 (x.ac.mask : Int)] 161)
      have cx := HFF.out _ bW x (List.mem_of_getElem? hx)
      have oX := own_below HJ.out.2.1 bX
      have HTk : Hid (l.take (j + 1) = l.take j ++ [x]) := by show _ = _; rw [List.take_add_one, hx]; rfl
      have HQ : Hid (q = ((l.take j).filter p).length ∧ q ≤ 1048576) := ⟨HJ.out.1, by
        have h1 := HJ.out.1
        have h2 := List.length_filter_le p (l.take j)
        have h3 := HLL.out
        rw [List.length_take] at h2
        omega⟩
      rw [e5]
      clear hx e5 hr5 q0 q1 q2 q3 q4 q5 q6 q7 HJ
      go_upto_region 5 with fail
      generalize wr.heap.size = X at *
      generalize (wr.alloc (.cells #[I x.kind, I x.len, I x.frm, .int .u64 (x.init : Int), I x.queue, I x.ac.kind, I x.ac.task, .int .u32 (x.ac.mask : Int)] 161)) = W0 at *
      have HXX : Hid (∀ W, Below W0.heap.size W0 W → W.heap[X]? = some (.cells #[I x.kind, I x.len, I x.frm, .int .u64 (x.init : Int), I x.queue, I x.ac.kind, I x.ac.task, .int .u32 (x.ac.mask : Int)] 161)) := fun W hW => (hW.block X (heap_lt hXX)).trans hXX
      have hi97 : (Tryz.prog.info? 161).map (·.size) = some (#[I x.kind, I x.len, I x.frm, .int .u64 (x.init : Int), I x.queue, I x.ac.kind, I x.ac.task, .int .u32 (x.ac.mask : Int)] : Array Value).size := by kernel_rfl
      have HO : Hid (∀ W, Below W0.heap.size W0 W → W.ownsRow w.heap.size 161 8 (.slice a q c) q (flatM ((l.take j).filter p))) := fun W hW => own_below oX hW
      have HBW : Hid (Below w.heap.size w W0) := bW
      clear oX bW bX
      cases hpx : p x with
      | false =>
        rw [hpx] at cx
        go_wp2_with (first
          | (refine wpList_load_row rfl 161 _ rfl X rfl 161 _ (0, 0) _ hXX Tryz.underlying161 rfl hi97 ?_))
        refine cx.mono ?_
        clear cx
        rintro e7 w7 ⟨rfl, hb7⟩
        have H9 : Hid (q = ((l.take (j + 1)).filter p).length ∧ w7.ownsRow w.heap.size 161 8 (.slice a q c) q (flatM ((l.take (j + 1)).filter p)) ∧ Below w.heap.size w w7) := by
          have e9 : (l.take (j + 1)).filter p = (l.take j).filter p := by rw [HTk.out, List.filter_append]; simp [hpx]
          rw [e9]
          exact ⟨HQ.out.1, HO.out w7 hb7, HBW.out.trans (hb7.mono HBW.out.size)⟩
        clear hb7
        go_wp2
        go_roundw
        case rel => exact ⟨j + 1, q, a, c, by omega, by go_num, rfl, H9.out⟩
        case measure => simp [intOf]; omega
      | true =>
        rw [hpx] at cx
        go_wp2_with (first
          | (refine wpList_load_row rfl 161 _ rfl X rfl 161 _ (0, 0) _ hXX Tryz.underlying161 rfl hi97 ?_))
        refine cx.mono ?_
        clear cx
        rintro e7 w7 ⟨rfl, hb7⟩
        have hX7 := HXX.out w7 hb7
        have o7 := HO.out w7 hb7
        have b7 : Below w.heap.size w w7 := HBW.out.trans (hb7.mono HBW.out.size)
        clear hb7
        have hqq := HQ.out.2
        have s7 := b7.size
        go_wp2_with (first
          | (refine wpList_load_row rfl 161 _ rfl X rfl 161 _ (0, 0) _ hX7 Tryz.underlying161 rfl hi97 ?_)
          | (at_builtin; refine wpList_append_own _ rfl (.tmp 17) (.tmp 19) 28 rfl w.heap.size 161 im _ 8 64 Tryz.underlying28 him hm0 hm1 hm2 rfl (by decide) _ _ _ rfl (o7.alloc _) ⟨w7.heap.size, 0, none⟩ 1 1 (msrC x).toList rfl rfl (fun jj uu hu => by rw [Addr.add_mid9, cell_of_row _ _ _ _ _ (0, 0) (heap_alloc_new w7 _)]; rw [Nat.zero_add]; rw [Array.getElem?_toList] at hu; exact hu) (fun uu hu => (by unfold msrC at hu; simp at hu; rcases hu with e | e | e | e | e | e | e | e <;> (subst e; rfl))) (by unfold maxLen; omega) (by omega) (by simp; omega) ?_))
        intro v8 w8 o8 g8 _
        obtain ⟨a8, k8, rfl⟩ := own_sl8 o8
        have H9 : Hid (q + 1 = ((l.take (j + 1)).filter p).length ∧ w8.ownsRow w.heap.size 161 8 (.slice a8 (q + 1) k8) (q + 1) (flatM ((l.take (j + 1)).filter p)) ∧ Below w.heap.size w w8) := by
          have e9 : (l.take (j + 1)).filter p = (l.take j).filter p ++ [x] := by rw [HTk.out, List.filter_append]; simp [hpx]
          rw [e9, flatM_snoc]
          refine ⟨by rw [List.length_append, ← HQ.out.1]; rfl, o8, (b7.alloc b7.size _).grown g8 (by simp; omega) (fun k e => (o7.lt k e).1)⟩
        clear o8 g8 o7 b7 hX7
        go_wp2
        go_roundw
        case rel => exact ⟨j + 1, q + 1, a8, k8, by omega, by go_num, rfl, H9.out⟩
        case measure => simp [intOf]; omega
    · obtain rfl : j = s.n := by omega
      have hlt' : ¬ ((s.n : Nat) : Int) < (s.n : Nat) := by omega
      have HE : Hid (q = (l.filter p).length ∧ wr.ownsRow w.heap.size 161 8 (.slice a q c) q (flatM (l.filter p)) ∧ Below w.heap.size w wr) := by
        have := HJ.out
        rwa [List.take_of_length_le (by rw [HS.out]; exact Nat.le_refl _)] at this
      have Hll : Hid ((l.filter p).length ≤ 1048576) := Nat.le_trans (List.length_filter_le p l) HLL.out
      clear HJ
      go_wp2
      go_ret
      obtain ⟨h1, h2, h3⟩ := HE.out
      subst h1
      exact ⟨⟨a, c, rfl, rows_of_own Hll.out h2⟩, h3⟩
end Go.Proofs.YtglnfifdjlgbcaaGreatDoor

namespace Go.Proofs.YtglnfifdjlgbcaaGreatDoor
open Go.RowKit Go.Shelf Go.Sort
set_option linter.unusedVariables false
set_option linter.unusedSimpArgs false

/-! ### reckon, roomFits -/
theorem sumZ_filter {α : Type} (p : α → Bool) (h : α → Int) (hh : ∀ x, h x = if p x then 1 else 0) : ∀ l : List α, sumZ h l = ((l.filter p).length : Int)
  | [] => rfl
  | x :: l => by
    rw [sumZ, sumZ_filter p h hh l, hh, List.filter_cons]
    cases p x <;> simp
    omega
structure RoomOK (tb : Tb) : Prop where
  a : ∀ x ∈ tb.als, 0 ≤ x.ctr ∧ x.ctr < (tb.ctrs.length : Int)
  s : ∀ x ∈ tb.msgs, x.kind ≠ 1 → 0 ≤ x.frm ∧ x.frm < (tb.msgs.length : Int)
  l : tb.ctrs.length ≤ 16 ∧ tb.als.length ≤ 64 ∧ tb.msgs.length ≤ 64 ∧ tb.isrs.length ≤ 32
def rmC (tb : Tb) : Array Value := #[I tb.rings.length, I ((tb.isrs.length : Int) + 4), I ((max 2 (max (crowdL (tb.als.map fun x => x.ctr)) (crowdL (rcvL tb))) : Nat) : Int), I (callsN tb)]
def mx3 (a b c : Int) : Int := max a (max b c)
theorem max_three9 (ats : Array TypeId) (ty : TypeId) (a b c : Int) : Builtin.max_ ats ty #[.int .i64 a, .int .i64 b, .int .i64 c] = pure (.int .i64 (mx3 a b c)) := by
  show (do let s ← Builtin.max2 (.int .i64 a) (.int .i64 b); let s ← Builtin.max2 s (.int .i64 c); pure s : Sem Value) = _
  simp only [Builtin.max2]
  show (pure _ : Sem Value) = _
  congr 2
  unfold mx3
  split <;> split <;> omega
attribute [local go_sem 5000] max_three9
theorem store_four9 (P : Program) (w : World) (g : Nat) (t : TypeId) (o0 o1 o2 o3 : Value) (h : w.heap[g]? = some (.cells #[o0, o1, o2, o3] t)) (a b c d : Int) : (storeCells ⟨g, 0, none⟩ [.int .i64 a, .int .i64 b, .int .i64 c, .int .i64 d] 0).run P w = .ok () (w.setRow g #[.int .i64 a, .int .i64 b, .int .i64 c, .int .i64 d]) :=
  run_storeCells_at P g 0 t [.int .i64 a, .int .i64 b, .int .i64 c, .int .i64 d] 0 #[o0, o1, o2, o3] w h (by simp) (by intro u hu; simp at hu; rcases hu with rfl | rfl | rfl | rfl <;> rfl)
theorem cell_row9 {w : World} {b g i : Nat} {cs : Array Value} (h : b ≠ g) : (w.setRow g cs).cell? ⟨b, i, none⟩ = w.cell? ⟨b, i, none⟩ := World.cell?_of_block (setRow_other w g b cs h)
theorem room_facts9 {w : World} {g : Nat} {t : TypeId} {o0 o1 o2 o3 : Value} (h : w.heap[g]? = some (.cells #[o0, o1, o2, o3] t)) : w.cell? ⟨g, 0, none⟩ = some o0 ∧ w.cell? ⟨g, 1, none⟩ = some o1 ∧ w.cell? ⟨g, 2, none⟩ = some o2 ∧ w.cell? ⟨g, 3, none⟩ = some o3 ∧ w.frozen? ⟨g, 0, none⟩ = false ∧ w.frozen? ⟨g, 1, none⟩ = false ∧ w.frozen? ⟨g, 2, none⟩ = false ∧ w.frozen? ⟨g, 3, none⟩ = false :=
  ⟨by rw [cell_of_row w g 0 _ _ (0, 0) h]; rfl, by rw [cell_of_row w g 1 _ _ (0, 0) h]; rfl, by rw [cell_of_row w g 2 _ _ (0, 0) h]; rfl, by rw [cell_of_row w g 3 _ _ (0, 0) h]; rfl, frozen_of_row w g 0 _ _ h, frozen_of_row w g 1 _ _ h, frozen_of_row w g 2 _ _ h, frozen_of_row w g 3 _ _ h⟩
theorem set4_at9 (w : World) (b : Nat) (t : TypeId) (o0 o1 o2 o3 v0 v1 v2 v3 : Value) (k : w.heap[b]? = some (.cells #[o0, o1, o2, o3] t (0, 0))) :
    ((((w.setCell ⟨b, 0, none⟩ v0).setCell ⟨b, 1, none⟩ v1).setCell ⟨b, 2, none⟩ v2).setCell ⟨b, 3, none⟩ v3).heap[b]? = some (.cells #[v0, v1, v2, v3] t (0, 0)) := by
  have h0 : (w.setCell ⟨b, 0, none⟩ v0).heap[b]? = some (.cells #[v0, o1, o2, o3] t (0, 0)) := heap_setCell_same _ b 0 _ t _ k
  generalize w.setCell ⟨b, 0, none⟩ v0 = w0 at *
  have h1 : (w0.setCell ⟨b, 1, none⟩ v1).heap[b]? = some (.cells #[v0, v1, o2, o3] t (0, 0)) := heap_setCell_same _ b 1 _ t _ h0
  generalize w0.setCell ⟨b, 1, none⟩ v1 = w1 at *
  have h2 : (w1.setCell ⟨b, 2, none⟩ v2).heap[b]? = some (.cells #[v0, v1, v2, o3] t (0, 0)) := heap_setCell_same _ b 2 _ t _ h1
  generalize w1.setCell ⟨b, 2, none⟩ v2 = w2 at *
  exact heap_setCell_same _ b 3 _ t _ h2
theorem res_room9 {fn : Func} {n : Nat} (hf : fn.results = #[.cell n 262]) (tmps : Array Value) (b : Nat) (w : World) (v0 v1 v2 v3 : Value)
    (h2 : tmps[n]? = some (.pointer (some ⟨b, 0, none⟩))) (hk : w.heap[b]? = some (.cells #[v0, v1, v2, v3] 262 (0, 0))) :
    (results fn tmps).run Tryz.prog w = .ok (.agg #[v0, v1, v2, v3]) w := by
  have a1 := fun i => cell_of_row w b i _ _ (0, 0) hk
  have z0 := a1 0; have z1 := a1 1; have z2 := a1 2; have z3 := a1 3
  simp at z0 z1 z2 z3
  simp [results, hf, go_sem, h2, z0, z1, z2, z3]
theorem rcv_eq (tb : Tb) : (tb.msgs.filter (fun x => x.kind != 1)).map (fun x => x.frm) = rcvL tb := rfl
theorem cell_ne9 {w : World} {b g i k : Nat} {v : Value} (h : b ≠ g) : (w.setCell ⟨g, k, none⟩ v).cell? ⟨b, i, none⟩ = w.cell? ⟨b, i, none⟩ := World.cell?_of_block (heap_setCell_other w ⟨g, k, none⟩ b v h)
set_option maxHeartbeats 16000000 in
set_option maxRecDepth 100000 in
theorem reckon_any9 (tb : Tb) (v : Ts) (w : World) (h : TbAt w tb v) (hr : RoomOK tb) : Calls Tryz.prog 212 #[.agg (tbC tb v)] w fun e w' => e = .returned (.agg (rmC tb)) ∧ Below w.heap.size w w' := by
  have hb : Below w.heap.size w ((w.alloc (.cells (tbC tb v) 30)).alloc (.cells #[I 0, I 0, I 0, I 0] 262)) := (below_alloc w _).trans ((below_alloc _ _).mono (by simp))
  have hV0 : ((w.alloc (.cells (tbC tb v) 30)).alloc (.cells #[I 0, I 0, I 0, I 0] 262)).heap[w.heap.size]? = some (.cells (tbC tb v) 30) := by
    rw [heap_alloc_old _ _ (by simp)]; exact heap_alloc_new w _
  have hR0 : ((w.alloc (.cells (tbC tb v) 30)).alloc (.cells #[I 0, I 0, I 0, I 0] 262)).heap[w.heap.size + 1]? = some (.cells #[I 0, I 0, I 0, I 0] 262) := by
    have := heap_alloc_new (w.alloc (.cells (tbC tb v) 30)) (.cells #[I 0, I 0, I 0, I 0] 262)
    rw [World.size_alloc] at this
    exact this
  have hT0 := h.below hb
  have HB0 : Hid (Below w.heap.size w ((w.alloc (.cells (tbC tb v) 30)).alloc (.cells #[I 0, I 0, I 0, I 0] 262))) := hb
  have hgn : v.g.n = tb.rings.length := h.g.n
  have hin : v.i.n = tb.isrs.length := h.i.n
  have hgm : v.g.n ≤ 9223372036854775807 := by have := h.g.c; have h2 := h.g.m; unfold maxLen at h2; omega
  have him : v.i.n ≤ 32 := by have := hr.l; omega
  have HF : Hid (rmC tb = #[I (v.g.n : Int), I ((v.i.n : Int) + 4), I ((max 2 (max (crowdL (tb.als.map fun x => x.ctr)) (crowdL (rcvL tb))) : Nat) : Int), I (((tb.als.filter fun x => x.ac.kind == 3).length : Int) + ((tb.msgs.filter fun x => x.ac.kind == 3).length : Int))]) := by
    show _ = _
    rw [hgn, hin]
    unfold rmC callsN
    simp
  have HL : Hid (tb.ctrs.length ≤ 16 ∧ tb.als.length ≤ 64 ∧ tb.msgs.length ≤ 64 ∧ tb.isrs.length ≤ 32) := hr.l
  clear hgn hin
  have hA1 : crowdL (tb.als.map fun x => x.ctr) ≤ 64 := by have := crowd_le (tb.als.map fun x => x.ctr); rw [List.length_map] at this; have := hr.l; omega
  have hA2 : crowdL (rcvL tb) ≤ 64 := by
    have h1 := crowd_le (rcvL tb)
    have h2 := List.length_filter_le (fun x : MsR => x.kind != 1) tb.msgs
    have h3 : (rcvL tb).length = (tb.msgs.filter fun x => x.kind != 1).length := by unfold rcvL; rw [List.length_map]
    have := hr.l
    omega
  have hS1 : (tb.als.filter fun x => x.ac.kind == 3).length ≤ 64 := by have := List.length_filter_le (fun x : AlR => x.ac.kind == 3) tb.als; have := hr.l; omega
  have hS2 : (tb.msgs.filter fun x => x.ac.kind == 3).length ≤ 64 := by have := List.length_filter_le (fun x : MsR => x.ac.kind == 3) tb.msgs; have := hr.l; omega
  obtain ⟨Z, hZ⟩ : ∃ Z, Z = rmC tb := ⟨_, rfl⟩
  rw [← hZ] at HF ⊢
  clear hZ h hb
  have HRk : Hid (RoomOK tb) := hr
  have HA12 : Hid (crowdL (tb.als.map fun x => x.ctr) ≤ 64 ∧ crowdL (rcvL tb) ≤ 64 ∧ (tb.als.filter fun x => x.ac.kind == 3).length ≤ 64 ∧ (tb.msgs.filter fun x => x.ac.kind == 3).length ≤ 64) := ⟨hA1, hA2, hS1, hS2⟩
  clear hr hA1 hA2 hS1 hS2
  unfold tbC at *
  go_enter Tryz.func212, Tryz.ntmps212
  go_upto_region 1 with fail
  generalize ((w.alloc (.cells #[I tb.uses, I tb.modes, .slice v.t.a v.t.n v.t.c, .slice v.g.a v.g.n v.g.c, .slice v.r.a v.r.n v.r.c, .slice v.k.a v.k.n v.k.c, .slice v.a.a v.a.n v.a.c, .slice v.i.a v.i.n v.i.c, .slice v.s.a v.s.n v.s.c, I tb.depth, I tb.frames, I tb.errors, I tb.calls] 30)).alloc (.cells #[I 0, I 0, I 0, I 0] 262)) = W0 at *
  have hr := HRk.out
  obtain ⟨hA1, hA2, hS1, hS2⟩ := HA12.out
  clear HA12
  have kA : ∀ W, Below W0.heap.size W0 W → Calls Tryz.prog 251 #[.slice v.a.a v.a.n v.a.c, .func (.func 252) #[] #[]] W fun e w' => e = .returned (I (crowdL (tb.als.map fun x => x.ctr))) ∧ Below W.heap.size W w' := fun W hW =>
    crowd_alr W v.a tb.als (fun W2 hW2 => ((hT0.below hW).below hW2).a) 252 #[] (enters_of Tryz.func252 (by kernel_rfl) rfl) (fun x => x.ctr) tb.ctrs.length hr.a (by have := hr.l; omega) (by have := hr.l; omega) (fun W2 hW2 x hx => counterOf_any x W2)
  have kT : ∀ W, Below W0.heap.size W0 W → Calls Tryz.prog 254 #[.slice v.s.a v.s.n v.s.c, .func (.func 255) #[] #[]] W fun e w' => (∃ a c, e = .returned (.slice a (tb.msgs.filter fun x => x.kind != 1).length c) ∧ RowsAt w' 8 msrP ⟨a, (tb.msgs.filter fun x => x.kind != 1).length, c⟩ (tb.msgs.filter fun x => x.kind != 1)) ∧ Below W.heap.size W w' := fun W hW =>
    those_msr W v.s tb.msgs (fun W2 hW2 => ((hT0.below hW).below hW2).s) (by have := hr.l; omega) 255 #[] (enters_of Tryz.func255 (by kernel_rfl) rfl) (fun x => x.kind != 1) (fun W2 hW2 x hx => isReceived_any x W2)
  have hfl : (tb.msgs.filter fun x => x.kind != 1).length ≤ 1048576 := by
    have h1 := List.length_filter_le (fun x : MsR => x.kind != 1) tb.msgs
    have h2 := hr.l.2.2.1
    exact Nat.le_trans h1 (Nat.le_trans h2 (by decide))
  have hfp : ∀ x ∈ (tb.msgs.filter fun x => x.kind != 1), 0 ≤ x.frm ∧ x.frm < (tb.msgs.length : Int) := fun x hx => hr.s x (List.mem_filter.1 hx).1 (by have := (List.mem_filter.1 hx).2; simpa using this)
  have hfn : tb.msgs.length ≤ 1048576 := Nat.le_trans hr.l.2.2.1 (by decide)
  have kM : ∀ W a c, RowsAt W 8 msrP ⟨a, (tb.msgs.filter fun x => x.kind != 1).length, c⟩ (tb.msgs.filter fun x => x.kind != 1) → Calls Tryz.prog 253 #[.slice a (tb.msgs.filter fun x => x.kind != 1).length c, .func (.func 256) #[] #[]] W fun e w' => e = .returned (I (crowdL (rcvL tb))) ∧ Below W.heap.size W w' := by
    unfold rcvL
    generalize (tb.msgs.filter fun x => x.kind != 1) = fl at *
    intro W a c hrow
    exact crowd_msr W ⟨a, fl.length, c⟩ fl (fun W2 hW2 => hrow.below hW2 (fun _ _ _ _ h => h)) 256 #[] (enters_of Tryz.func256 (by kernel_rfl) rfl) (fun x => x.frm) tb.msgs.length hfp hfn hfl (fun W2 hW2 x hx => senderOf_any x W2)
  clear hfl hfp hfn
  have kS1 : ∀ W, Below W0.heap.size W0 W → Calls Tryz.prog 257 #[.slice v.a.a v.a.n v.a.c, .func (.func 258) #[] #[]] W fun e w' => e = .returned (I ((tb.als.filter fun x => x.ac.kind == 3).length : Int)) ∧ Below W.heap.size W w' := fun W hW => by
    have := sum_alr W v.a tb.als (fun W2 hW2 => ((hT0.below hW).below hW2).a) 258 #[] (enters_of Tryz.func258 (by kernel_rfl) rfl) (fun x => if x.ac.kind = 3 then 1 else 0) (fun W2 hW2 x hx => callsAl_any x W2)
    rw [sumZ_filter (fun x : AlR => x.ac.kind == 3) _ (fun x => by simp), wrap_id (by omega) (by omega)] at this
    exact this
  have kS2 : ∀ W, Below W0.heap.size W0 W → Calls Tryz.prog 259 #[.slice v.s.a v.s.n v.s.c, .func (.func 260) #[] #[]] W fun e w' => e = .returned (I ((tb.msgs.filter fun x => x.ac.kind == 3).length : Int)) ∧ Below W.heap.size W w' := fun W hW => by
    have := sum_msr W v.s tb.msgs (fun W2 hW2 => ((hT0.below hW).below hW2).s) 260 #[] (enters_of Tryz.func260 (by kernel_rfl) rfl) (fun x => if x.ac.kind = 3 then 1 else 0) (fun W2 hW2 x hx => callsMs_any x W2)
    rw [sumZ_filter (fun x : MsR => x.ac.kind == 3) _ (fun x => by simp), wrap_id (by omega) (by omega)] at this
    exact this
  generalize crowdL (tb.als.map fun x => x.ctr) = A1 at *
  generalize crowdL (rcvL tb) = A2 at *
  generalize (tb.als.filter fun x => x.ac.kind == 3).length = S1 at *
  generalize (tb.msgs.filter fun x => x.ac.kind == 3).length = S2 at *
  have HS : Hid (∀ W, Below W0.heap.size W0 W → W.cell? ⟨w.heap.size, 3, none⟩ = some (.slice v.g.a v.g.n v.g.c) ∧ W.cell? ⟨w.heap.size, 6, none⟩ = some (.slice v.a.a v.a.n v.a.c) ∧ W.cell? ⟨w.heap.size, 7, none⟩ = some (.slice v.i.a v.i.n v.i.c) ∧ W.cell? ⟨w.heap.size, 8, none⟩ = some (.slice v.s.a v.s.n v.s.c)) := fun W hW => by
    obtain ⟨d0, d1, d2, d3, d4, d5, d6, d7, d8, d9, d10, d11, d12⟩ := var13 ((hW.block w.heap.size (heap_lt hV0)).trans hV0)
    exact ⟨d3, d6, d7, d8⟩
  have HRR : Hid (∀ W, Below W0.heap.size W0 W → W.heap[w.heap.size + 1]? = some (.cells #[I 0, I 0, I 0, I 0] 262)) := fun W hW => (hW.block (w.heap.size + 1) (heap_lt hR0)).trans hR0
  have b0 : Below W0.heap.size W0 W0.drew := (Below.refl _ _).drew
  obtain ⟨s3, s6, s7, s8⟩ := HS.out W0 (Below.refl _ _)
  clear hT0 hr hV0 hR0
  have HM : Hid (((max 2 (max A1 A2) : Nat) : Int) = mx3 2 A1 A2) := by show _ = _; unfold mx3; omega
  go_wp2
  go_region_held_law (fun w' => w'.cell? ⟨w.heap.size, 3, none⟩ = some (.slice v.g.a v.g.n v.g.c) ∧ w'.cell? ⟨w.heap.size, 6, none⟩ = some (.slice v.a.a v.a.n v.a.c) ∧ w'.cell? ⟨w.heap.size, 7, none⟩ = some (.slice v.i.a v.i.n v.i.c) ∧ w'.cell? ⟨w.heap.size, 8, none⟩ = some (.slice v.s.a v.s.n v.s.c))
    (first | with_reducible exact ⟨s3, s6, s7, s8⟩ | with_reducible exact HS.out _ b0 | with_reducible exact m1 | with_reducible exact m2 | with_reducible exact m3 | with_reducible exact m4 | with_reducible exact m5 | (refine ⟨?_, ?_, ?_, ?_⟩ <;> (repeat rw [cell_ne9 (Nat.ne_of_lt (Nat.lt_succ_self w.heap.size))]) <;> first | with_reducible exact m5.1 | with_reducible exact m5.2.1 | with_reducible exact m5.2.2.1 | with_reducible exact m5.2.2.2) | (trace_state; fail "keep"))
    (first
      | (go_at_call 251; refine (kA _ b0).mono ?_; clear kA; rintro e w1 ⟨rfl, q1⟩; have b1 := b0.trans (q1.mono b0.size); have m1 := HS.out w1 b1)
      | (go_at_call 254; refine (kT _ b1).mono ?_; clear kT; rintro e w2 ⟨⟨a2, c2, rfl, r2⟩, q2⟩; have b2 := b1.trans (q2.mono b1.size); have m2 := HS.out w2 b2)
      | (go_at_call 253; refine (kM _ a2 c2 r2).mono ?_; clear kM; rintro e w3 ⟨rfl, q3⟩; have b3 := b2.trans (q3.mono b2.size); have m3 := HS.out w3 b3)
      | (go_at_call 257; refine (kS1 _ b3).mono ?_; clear kS1; rintro e w4 ⟨rfl, q4⟩; have b4 := b3.trans (q4.mono b3.size); have m4 := HS.out w4 b4)
      | (go_at_call 259; refine (kS2 _ b4).mono ?_; clear kS2; rintro e w5 ⟨rfl, q5⟩; have b5 := b4.trans (q5.mono b4.size); have m5 := HS.out w5 b5; have hR5 := HRR.out w5 b5; obtain ⟨n0, n1, n2, n3, f0, f1, f2, f3⟩ := room_facts9 hR5; clear hR5))
  all_goals
    have HR : Hid (w5.heap[w.heap.size + 1]? = some (.cells #[I 0, I 0, I 0, I 0] 262)) := HRR.out w5 b5
    have HBz : Hid (Below w.heap.size w w5) := HB0.out.trans (b5.mono HB0.out.size)
    clear m1 m2 m3 m4 m5 n0 n1 n2 n3 f0 f1 f2 f3 s3 s6 s7 s8 r2 q1 q2 q3 q4 q5 b0 b1 b2 b3 b4 b5 HRR HS
    rename_i hHeld
    clear hHeld
    go_wp2
    refine bodyPost_ret (res_room9 Tryz.results212 _ (w.heap.size + 1) _ _ _ _ _ rfl (set4_at9 _ _ _ _ _ _ _ _ _ _ _ HR.out)) rfl ⟨?_, ?_⟩
    · rw [HF.out, HM.out, wrap_id (v := (v.i.n : Int) + 4) (by omega) (by omega), wrap_id (v := (S1 : Int) + S2) (by omega) (by omega)]
    · exact (((HBz.out.setCell (Nat.le_succ _) _).setCell (Nat.le_succ _) _).setCell (Nat.le_succ _) _).setCell (Nat.le_succ _) _
end Go.Proofs.YtglnfifdjlgbcaaGreatDoor

namespace Go.Proofs.YtglnfifdjlgbcaaGreatDoor
open Go.RowKit Go.Shelf Go.Sort
set_option linter.unusedVariables false
set_option linter.unusedSimpArgs false

/-! ### roomFits -/
def rmB (tb : Tb) : Bool := roomB tb (max (crowdL (tb.als.map fun x => x.ctr)) (crowdL (rcvL tb)))
set_option maxHeartbeats 16000000 in
set_option maxRecDepth 100000 in
theorem roomFits_any (tb : Tb) (v : Ts) (w : World) (h : TbAt w tb v) (hr : RoomOK tb) : Calls Tryz.prog 101 #[.agg (tbC tb v)] w fun e w' => e = .returned (.bool (rmB tb)) ∧ Below w.heap.size w w' := by
  have hb := below_alloc w (.cells (tbC tb v) 30)
  have hV0 := heap_alloc_new w (.cells (tbC tb v) 30)
  have hT0 := h.below hb
  have HB0 : Hid (Below w.heap.size w (w.alloc (.cells (tbC tb v) 30))) := hb
  have hi30 : (Tryz.prog.info? 30).map (·.size) = some (tbC tb v).size := by kernel_rfl
  obtain ⟨p0, p1, p2, p3, hp, hB⟩ : ∃ p0 p1 p2 p3 : Int, rmC tb = #[I p0, I p1, I p2, I p3] ∧ rmB tb = ((tb.depth == p0) && (tb.frames == p1) && (tb.errors == p2) && (tb.calls == p3)) := ⟨_, _, _, _, rfl, rfl⟩
  obtain ⟨R, hR⟩ : ∃ R, R = rmB tb := ⟨_, rfl⟩
  have HX : Hid (R = ((tb.depth == p0) && (tb.frames == p1) && (tb.errors == p2) && (tb.calls == p3))) := hR.trans hB
  rw [← hR]
  have kR := fun W hW => reckon_any9 tb v W (hT0.below hW) hr
  rw [hp] at kR
  clear h hb hB hR hp
  go_enter Tryz.func101, Tryz.ntmps101
  unfold tbC at *
  go_upto_region 1 with fail
  generalize (w.alloc (.cells #[I tb.uses, I tb.modes, .slice v.t.a v.t.n v.t.c, .slice v.g.a v.g.n v.g.c, .slice v.r.a v.r.n v.r.c, .slice v.k.a v.k.n v.k.c, .slice v.a.a v.a.n v.a.c, .slice v.i.a v.i.n v.i.c, .slice v.s.a v.s.n v.s.c, I tb.depth, I tb.frames, I tb.errors, I tb.calls] 30)) = W0 at *
  have cR : ∀ d os, Calls Tryz.prog 212 #[.agg #[I tb.uses, I tb.modes, .slice v.t.a v.t.n v.t.c, .slice v.g.a v.g.n v.g.c, .slice v.r.a v.r.n v.r.c, .slice v.k.a v.k.n v.k.c, .slice v.a.a v.a.n v.a.c, .slice v.i.a v.i.n v.i.c, .slice v.s.a v.s.n v.s.c, I tb.depth, I tb.frames, I tb.errors, I tb.calls]] (grow (redrawn W0 d) os) fun e w'' => e = .returned (.agg #[I p0, I p1, I p2, I p3]) ∧ ∃ p : Regrown, w'' = grow (redrawn W0 p.d) p.os := regrown_bel9 kR
  have hRV := heap_regrown9 hV0
  have x9 := cell_of_row _ w.heap.size 9 _ _ (0, 0) hV0
  have x10 := cell_of_row _ w.heap.size 10 _ _ (0, 0) hV0
  have x11 := cell_of_row _ w.heap.size 11 _ _ (0, 0) hV0
  have x12 := cell_of_row _ w.heap.size 12 _ _ (0, 0) hV0
  simp at x9 x10 x11 x12
  have y9 := cell_regrown x9
  have y10 := cell_regrown x10
  have y11 := cell_regrown x11
  have y12 := cell_regrown x12
  clear kR hT0 hr hV0 x9 x10 x11 x12
  by_cases b0 : p0 = tb.depth
  rotate_left
  · refine wp_region_quiet_below (by kernel_rfl) (by kernel_rfl) ?_
    repeat (first | (go_big_quiet_step (first | exact cR _ _)) | (refine wpQuiet_load_row9 (by kernel_rfl) 30 _ rfl w.heap.size rfl 30 _ (0, 0) _ hRV Tryz.underlying30 rfl hi30 ?_; simp only [Act.put, List.getElem_toArray, List.getElem_cons_succ, List.getElem_cons_zero, List.setIfInBounds_toArray, List.set_cons_zero, List.set_cons_succ]))
    refine wpQuiet_nil ?_
    rintro _ ⟨⟨dq, osq⟩, rfl⟩
    dsimp only
    have HB9 : Hid (Below w.heap.size w (grow (redrawn W0 dq) osq)) := HB0.out.trans ((below_regrown W0 dq osq).mono HB0.out.size)
    clear cR y9 y10 y11 y12 hRV
    generalize grow (redrawn W0 dq) osq = w9 at *
    go_wp2
    go_ret
    exact ⟨ret_bool' (by rw [HX.out, Bool.eq_iff_iff]; simp; try omega), HB9.out⟩
  subst b0
  by_cases b1 : p1 = tb.frames
  rotate_left
  · refine wp_region_quiet_below (by kernel_rfl) (by kernel_rfl) ?_
    repeat (first | (go_big_quiet_step (first | exact cR _ _)) | (refine wpQuiet_load_row9 (by kernel_rfl) 30 _ rfl w.heap.size rfl 30 _ (0, 0) _ hRV Tryz.underlying30 rfl hi30 ?_; simp only [Act.put, List.getElem_toArray, List.getElem_cons_succ, List.getElem_cons_zero, List.setIfInBounds_toArray, List.set_cons_zero, List.set_cons_succ]))
    refine wpQuiet_nil ?_
    rintro _ ⟨⟨dq, osq⟩, rfl⟩
    dsimp only
    have HB9 : Hid (Below w.heap.size w (grow (redrawn W0 dq) osq)) := HB0.out.trans ((below_regrown W0 dq osq).mono HB0.out.size)
    clear cR y9 y10 y11 y12 hRV
    generalize grow (redrawn W0 dq) osq = w9 at *
    go_wp2
    go_ret
    exact ⟨ret_bool' (by rw [HX.out, Bool.eq_iff_iff]; simp; try omega), HB9.out⟩
  subst b1
  by_cases b2 : p2 = tb.errors
  rotate_left
  · refine wp_region_quiet_below (by kernel_rfl) (by kernel_rfl) ?_
    repeat (first | (go_big_quiet_step (first | exact cR _ _)) | (refine wpQuiet_load_row9 (by kernel_rfl) 30 _ rfl w.heap.size rfl 30 _ (0, 0) _ hRV Tryz.underlying30 rfl hi30 ?_; simp only [Act.put, List.getElem_toArray, List.getElem_cons_succ, List.getElem_cons_zero, List.setIfInBounds_toArray, List.set_cons_zero, List.set_cons_succ]))
    refine wpQuiet_nil ?_
    rintro _ ⟨⟨dq, osq⟩, rfl⟩
    dsimp only
    have HB9 : Hid (Below w.heap.size w (grow (redrawn W0 dq) osq)) := HB0.out.trans ((below_regrown W0 dq osq).mono HB0.out.size)
    clear cR y9 y10 y11 y12 hRV
    generalize grow (redrawn W0 dq) osq = w9 at *
    go_wp2
    go_ret
    exact ⟨ret_bool' (by rw [HX.out, Bool.eq_iff_iff]; simp; try omega), HB9.out⟩
  subst b2
  by_cases b3 : p3 = tb.calls
  rotate_left
  · refine wp_region_quiet_below (by kernel_rfl) (by kernel_rfl) ?_
    repeat (first | (go_big_quiet_step (first | exact cR _ _)) | (refine wpQuiet_load_row9 (by kernel_rfl) 30 _ rfl w.heap.size rfl 30 _ (0, 0) _ hRV Tryz.underlying30 rfl hi30 ?_; simp only [Act.put, List.getElem_toArray, List.getElem_cons_succ, List.getElem_cons_zero, List.setIfInBounds_toArray, List.set_cons_zero, List.set_cons_succ]))
    refine wpQuiet_nil ?_
    rintro _ ⟨⟨dq, osq⟩, rfl⟩
    dsimp only
    have HB9 : Hid (Below w.heap.size w (grow (redrawn W0 dq) osq)) := HB0.out.trans ((below_regrown W0 dq osq).mono HB0.out.size)
    clear cR y9 y10 y11 y12 hRV
    generalize grow (redrawn W0 dq) osq = w9 at *
    go_wp2
    go_ret
    exact ⟨ret_bool' (by rw [HX.out, Bool.eq_iff_iff]; simp; try omega), HB9.out⟩
  subst b3
  refine wp_region_quiet_below (by kernel_rfl) (by kernel_rfl) ?_
  repeat (first | (go_big_quiet_step (first | exact cR _ _)) | (refine wpQuiet_load_row9 (by kernel_rfl) 30 _ rfl w.heap.size rfl 30 _ (0, 0) _ hRV Tryz.underlying30 rfl hi30 ?_; simp only [Act.put, List.getElem_toArray, List.getElem_cons_succ, List.getElem_cons_zero, List.setIfInBounds_toArray, List.set_cons_zero, List.set_cons_succ]))
  refine wpQuiet_nil ?_
  rintro _ ⟨⟨dq, osq⟩, rfl⟩
  dsimp only
  have HB9 : Hid (Below w.heap.size w (grow (redrawn W0 dq) osq)) := HB0.out.trans ((below_regrown W0 dq osq).mono HB0.out.size)
  clear cR y9 y10 y11 y12 hRV
  generalize grow (redrawn W0 dq) osq = w9 at *
  go_wp2
  go_ret
  exact ⟨ret_bool' (by rw [HX.out, Bool.eq_iff_iff]; simp; try omega), HB9.out⟩
end Go.Proofs.YtglnfifdjlgbcaaGreatDoor

