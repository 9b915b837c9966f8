import Derived.Test.YtpbnpmeigdjfdaaGreatDoorBbg
import Derived.Test.YtpbnpmeigdjfdaaGreatDoorBbe
import Derived.Test.YtpbnpmeigdjfdaaGreatDoorEep
namespace Go.Proofs.YtpbnpmeigdjfdaaGreatDoor
open Go.RowKit Go.Sort
set_option linter.unusedSimpArgs false
set_option linter.unusedVariables false
set_option maxHeartbeats 16000000
set_option maxRecDepth 100000
def ceilQ (c : Cf) (r : Int) : Int := if r = (c.ress.length : Int) then Ce.schE c else Ce.ceilE c r.toNat
def maxN (l : List Nat) : Nat := l.foldl max 0
theorem maxN_snoc (l : List Nat) (x : Nat) : maxN (l ++ [x]) = max (maxN l) x := by simp [maxN]
theorem maxN_take {l : List Nat} {j : Nat} {x : Nat} (h : l[j]? = some x) : maxN (l.take (j + 1)) = max (maxN (l.take j)) x := by rw [List.take_add_one, h, Option.toList_some, maxN_snoc]
def pri (c : Cf) (i : Nat) : Int := match c.tasks[i]? with | some x => x.prio | none => 0
def natAt (l : List Nat) (i : Nat) : Nat := match l[i]? with | some x => x | none => 0
theorem pri_at {c : Cf} {i : Nat} {x : Tk} (h : c.tasks[i]? = some x) : pri c i = x.prio := by unfold pri; rw [h]
theorem natAt_at {l : List Nat} {i x : Nat} (h : l[i]? = some x) : natAt l i = x := by unfold natAt; rw [h]
def tkB (c : Cf) (f : Fg) (p : Int) (i : Nat) : Nat := if pri c i < p ∧ p ≤ Ce.runA c i then natAt f.w i else 0
def scB (c : Cf) (p : Int) (x : Sc) : Nat := if pri c x.task.toNat < p ∧ p ≤ ceilQ c x.res then x.len else 0
def tkL (c : Cf) (f : Fg) (p : Int) : List Nat := (List.range c.tasks.length).map (tkB c f p)
def scL (c : Cf) (f : Fg) (p : Int) : List Nat := f.s.map (scB c p)
def blk (c : Cf) (f : Fg) (t : Nat) : Nat := maxN (tkL c f (pri c t) ++ scL c f (pri c t))
theorem tkL_at (c : Cf) (f : Fg) (p : Int) {j : Nat} (h : j < c.tasks.length) : (tkL c f p)[j]? = some (tkB c f p j) := by unfold tkL; rw [List.getElem?_map, List.getElem?_range h]; rfl
theorem tkL_len (c : Cf) (f : Fg) (p : Int) : (tkL c f p).length = c.tasks.length := by simp [tkL]
theorem maxN_app_take (a l : List Nat) {j : Nat} {x : Nat} (h : l[j]? = some x) : maxN (a ++ l.take (j + 1)) = max (maxN (a ++ l.take j)) x := by rw [List.take_add_one, h, Option.toList_some, ← List.append_assoc, maxN_snoc]
theorem maxN_le {l : List Nat} {B : Nat} : maxN l ≤ B ↔ ∀ x ∈ l, x ≤ B := by
 have gen : ∀ (l : List Nat) (a : Nat), l.foldl max a ≤ B ↔ a ≤ B ∧ ∀ x ∈ l, x ≤ B := by
  intro l
  induction l with
  | nil => intro a; simp
  | cons y r ih =>
   intro a
   rw [List.foldl_cons, ih]
   simp only [List.mem_cons, forall_eq_or_imp]
   rw [Nat.max_le]
   exact and_assoc
 unfold maxN
 rw [gen]
 simp
theorem sec_may {c : Cf} {f : Fg} (hf : Fits c f) {x : Sc} (hx : x ∈ f.s) : ∃ (q : Nat) (y : Tk) (wk : Nat), x.task = q ∧ c.tasks[q]? = some y ∧ f.w[q]? = some wk ∧ takB c y.res x.res = true ∧ x.len ≤ wk := by
 have h := List.all_eq_true.1 hf.s x hx
 unfold secB at h
 simp only [Bool.and_eq_true, decide_eq_true_eq] at h
 obtain ⟨q, hq⟩ := Int.eq_ofNat_of_zero_le h.1.1
 rw [hq] at h
 simp only [Int.toNat_natCast] at h
 cases hy : c.tasks[q]? with
 | none => rw [hy] at h; simp at h
 | some y =>
  cases hw : f.w[q]? with
  | none => rw [hw] at h; simp at h
  | some wk =>
   rw [hy, hw] at h
   exact ⟨q, y, wk, hq, hy, hw, h.1.2, by simpa using h.2⟩
theorem tak_may {c : Cf} (hm : MeetR c) {q : Nat} {y : Tk} (hy : c.tasks[q]? = some y) {r : Int} (h : takB c y.res r = true) : ∃ k : Nat, r = k ∧ k ≤ c.ress.length := by
 unfold takB at h
 by_cases hr : r = (c.ress.length : Int)
 ·exact ⟨_, hr, Nat.le_refl _⟩
 ·rw [if_neg (by simpa using hr), Bool.and_eq_true] at h
  have h1 := h.1
  unfold hasL at h1
  obtain ⟨z, hz, hzr⟩ := List.any_eq_true.1 h1
  obtain rfl : r = z := by simpa using hzr
  obtain ⟨a, b⟩ := hm q y hy r hz
  obtain ⟨k, rfl⟩ := Int.eq_ofNat_of_zero_le a
  exact ⟨k, rfl, by omega⟩
theorem tim_ok {c : Cf} {f : Fg} (h : timesB c f = true) : (∀ x ∈ f.w, 1 ≤ x ∧ x ≤ 2147483647) ∧ (∀ x ∈ f.p, 1 ≤ x ∧ x ≤ 2147483647) ∧ (∀ x ∈ f.i, x ≤ 2147483647) ∧ (∀ x ∈ f.e, 1 ≤ x ∧ x ≤ 2147483647) := by
 unfold timesB timB okT at h
 simp only [Bool.and_eq_true, beq_iff_eq, List.all_eq_true, decide_eq_true_eq] at h
 exact ⟨h.1.1.1.2, h.1.1.2.2, fun x hx => (h.1.2.2 x hx).2, h.2.2⟩
theorem blk_le {c : Cf} {f : Fg} (hf : Fits c f) (t : Nat) : blk c f t ≤ 2147483647 := by
 obtain ⟨hw, _⟩ := tim_ok hf.t
 unfold blk
 rw [maxN_le]
 intro x hx
 rcases List.mem_append.1 hx with hx | hx
 ·unfold tkL at hx
  obtain ⟨i, hi, rfl⟩ := List.mem_map.1 hx
  unfold tkB natAt
  split
  ·split
   ·rename_i y hy
    exact (hw _ (List.mem_of_getElem? hy)).2
   ·omega
  ·omega
 ·unfold scL at hx
  obtain ⟨s, hs, rfl⟩ := List.mem_map.1 hx
  obtain ⟨q, y, wk, _, _, hwk, _, hle⟩ := sec_may hf hs
  have := (hw _ (List.mem_of_getElem? hwk)).2
  unfold scB
  split <;> omega
def mxU (a b : Int) : Int := max a b
theorem mxU_nat (a b : Nat) : mxU (a : Int) (b : Int) = ((max a b : Nat) : Int) := by unfold mxU; omega
theorem max_twoB (ats : Array TypeId) (ty : TypeId) (a b : Int) : Builtin.max_ ats ty #[.int .u64 a, .int .u64 b] = pure (.int .u64 (mxU a b)) := by
 show (do let s ← Builtin.max2 (.int .u64 a) (.int .u64 b); pure s : Sem Value) = _
 simp only [Builtin.max2]
 show (pure _ : Sem Value) = _
 congr 2
 unfold mxU
 split <;> omega
attribute [local go_sem 5000] max_twoB
theorem ceiling_any (w : World) (y : Sy) (h : SyAt w y) (r : Nat) (hr : r ≤ y.c.ress.length) : Calls Tryz.prog 35 #[.agg (syC y), I r] w fun e w' => e = .returned (I (ceilQ y.c r)) ∧ Below w.heap.size w w' := by
 have HN : Hid (y.s0.n = y.c.ress.length) := by show _ = _; rw [h.r.n]; unfold Ce.ceilL; simp
 have hb := below_alloc w (.cells (syC y) 68)
 have f23 : ∀ h : 23 < (syC y).size, (syC y)[23] = .slice y.s0.a y.s0.n y.s0.c := fun _ => rfl
 have f24 : ∀ h : 24 < (syC y).size, (syC y)[24] = I (Ce.schE y.c) := fun _ => rfl
 have hs : (syC y).size = 28 := rfl
 have hc := h.r.c
 have hm := h.r.m
 unfold maxLen at hm
 obtain ⟨R, hR⟩ : ∃ R, R = ceilQ y.c r := ⟨_, rfl⟩
 rw [← hR]
 have HR : Hid (R = if (r : Int) = (y.s0.n : Int) then Ce.schE y.c else Ce.ceilE y.c r) := by show _ = _; rw [hR, HN.out]; rfl
 have hce : r < y.c.ress.length → (Ce.ceilL y.c)[r]? = some (Ce.ceilE y.c r) := fun hq => by unfold Ce.ceilL; rw [List.getElem?_map, List.getElem?_range hq]; rfl
 have hcr := h.r
 generalize syC y = C at *
 generalize Ce.schE y.c = sc at *
 replace f23 := f23 (by omega)
 replace f24 := f24 (by omega)
 clear hR h
 by_cases h1 : (r : Int) = (y.s0.n : Int)
 ·have h1' : ((r : Int) == (y.s0.n : Int)) = true := by simpa using h1
  rw [if_pos h1] at HR
  clear h1 hcr
  go_enter Tryz.func35, Tryz.ntmps35
  go_wp2
  go_ret
  exact ⟨ret_int HR.out.symm, hb⟩
 ·have h1' : ((r : Int) == (y.s0.n : Int)) = false := by simpa using h1
  rw [if_neg h1] at HR
  have hlt : (r : Int) < y.s0.n := by have := HN.out; omega
  obtain ⟨g, off, e, hg, d⟩ := ints_at hcr (hce (by have := HN.out; omega))
  have hne : g ≠ w.heap.size := by omega
  rw [e] at f23
  clear h1 hcr hce e
  go_enter Tryz.func35, Tryz.ntmps35
  go_wp2
  go_ret
  exact ⟨ret_int HR.out.symm, hb⟩
theorem tk_row {w : World} {c : Cf} {v : Vs} (h : CfAt w c v) {j : Nat} {x : Tk} (hj : c.tasks[j]? = some x) : ∃ (g off : Nat) (s4 s5 s6 s7 : Sl), v.t.a = some ⟨g, off, none⟩ ∧ g < w.heap.size ∧ w.cell? ⟨g, off + j * 8, none⟩ = some (S x.name) ∧ w.cell? ⟨g, off + j * 8 + 1, none⟩ = some (I x.prio) ∧ w.cell? ⟨g, off + j * 8 + 2, none⟩ = some (.bool x.full) ∧ w.cell? ⟨g, off + j * 8 + 3, none⟩ = some (I x.act) ∧ w.cell? ⟨g, off + j * 8 + 4, none⟩ = some (.slice s4.a s4.n s4.c) ∧ w.cell? ⟨g, off + j * 8 + 5, none⟩ = some (.slice s5.a s5.n s5.c) ∧ w.cell? ⟨g, off + j * 8 + 6, none⟩ = some (.slice s6.a s6.n s6.c) ∧ w.cell? ⟨g, off + j * 8 + 7, none⟩ = some (.slice s7.a s7.n s7.c) := by
 obtain ⟨g, off, s4, s5, s6, s7, e, hg, a0, a1, a2, a3, a4, a5, a6, a7, _⟩ := tk_at h hj
 exact ⟨g, off, s4, s5, s6, s7, e, hg, a0, a1, a2, a3, a4, a5, a6, a7⟩
abbrev btC (x : Tk) (s4 s5 s6 s7 : Sl) : Array Value := #[S x.name, I x.prio, .bool x.full, I x.act, .slice s4.a s4.n s4.c, .slice s5.a s5.n s5.c, .slice s6.a s6.n s6.c, .slice s7.a s7.n s7.c]
theorem tk_st (w : World) (x : Tk) (s4 s5 s6 s7 : Sl) : (storeCells ⟨w.heap.size, 0, none⟩ [S x.name, I x.prio, .bool x.full, I x.act, .slice s4.a s4.n s4.c, .slice s5.a s5.n s5.c, .slice s6.a s6.n s6.c, .slice s7.a s7.n s7.c] 0).run Tryz.prog (w.alloc (.cells #[.string ⟨#[]⟩, .int .i64 0, .bool false, .int .i64 0, .slice none 0 0, .slice none 0 0, .slice none 0 0, .slice none 0 0] 79)) = .ok () (w.alloc (.cells (btC x s4 s5 s6 s7) 79)) :=
 run_storeCells_new (P := Tryz.prog) w 79 #[.string ⟨#[]⟩, .int .i64 0, .bool false, .int .i64 0, .slice none 0 0, .slice none 0 0, .slice none 0 0, .slice none 0 0] (btC x s4 s5 s6 s7) (by unfold btC; kernel_rfl) rfl (by simp [btC, Value.oneCell'])
theorem btC_1 {W : World} {T : Nat} {x : Tk} {s4 s5 s6 s7 : Sl} (h : W.heap[T]? = some (.cells (btC x s4 s5 s6 s7) 79 (0, 0))) : W.cell? ⟨T, 1, none⟩ = some (I x.prio) := cell_at3 h 1
theorem blocked_any (w : World) (y : Sy) (h : SyAt w y) (hf : Fits y.c y.f) (t : Nat) (ht : t < y.c.tasks.length) : Calls Tryz.prog 23 #[.agg (syC y), I t] w fun e w' => e = .returned (U (blk y.c y.f t)) ∧ Below w.heap.size w w' := by
 have hb := below_alloc w (.cells (syC y) 68)
 have hV := heap_alloc_new w (.cells (syC y) 68)
 have hi28 := sy_hi y
 have HN : Hid (y.v.t.n = y.c.tasks.length) := h.c.t.n
 have HW : Hid (y.vf.w.n = y.v.t.n) := by show _ = _; rw [h.f.k.n, (tim_len hf.t).1, h.c.t.n]
 have HU : Hid (y.s2.n = y.v.t.n) := by show _ = _; rw [h.u.n, List.length_map, h.c.t.n]
 have HSN : Hid (y.vf.s.n = y.f.s.length) := h.f.s.n
 have HH : Hid (SyAt w y) := h
 have HF : Hid (Fits y.c y.f) := hf
 have HM : Hid (MeetR y.c) := meet_may hf.a
 have KC : Hid (∀ W, Below w.heap.size w W → ∀ r : Nat, r ≤ y.c.ress.length → Calls Tryz.prog 35 #[.agg (syC y), I r] W fun e w' => e = .returned (I (ceilQ y.c r)) ∧ Below W.heap.size W w') := fun W hW r hr => ceiling_any W y (h.below hW) r hr
 have h1 := h.c.t.c
 have h2 := h.c.t.m
 have h3 := h.f.k.c
 have h4 := h.f.k.m
 have h5 := h.u.c
 have h6 := h.u.m
 have h7 := h.f.s.c
 have h8 := h.f.s.m
 unfold maxLen at h2 h4 h6 h8
 have HX : Hid (∀ W, Below (w.alloc (.cells (syC y) 68)).heap.size (w.alloc (.cells (syC y) 68)) W → W.heap[w.heap.size]? = some (.cells (syC y) 68 (0, 0)) ∧ W.cell? ⟨w.heap.size, 11, none⟩ = some (.slice y.v.t.a y.v.t.n y.v.t.c) ∧ W.cell? ⟨w.heap.size, 18, none⟩ = some (.slice y.vf.w.a y.vf.w.n y.vf.w.c) ∧ W.cell? ⟨w.heap.size, 22, none⟩ = some (.slice y.vf.s.a y.vf.s.n y.vf.s.c) ∧ W.cell? ⟨w.heap.size, 25, none⟩ = some (.slice y.s2.a y.s2.n y.s2.c) ∧ Below w.heap.size w W) := fun W hW => by
  have q := (hW.block _ (heap_lt hV)).trans hV
  exact ⟨q, cell_at3 q 11, cell_at3 q 18, cell_at3 q 22, cell_at3 q 25, hb.trans (hW.mono hb.size)⟩
 obtain ⟨x0, hx0⟩ : ∃ x, y.c.tasks[t]? = some x := ⟨_, List.getElem?_eq_getElem ht⟩
 have htv : (t : Int) < y.v.t.n := by have := HN.out; omega
 have hpr : pri y.c t = x0.prio := by unfold pri; rw [hx0]
 obtain ⟨g0, o0, s4, s5, s6, s7, e0, hg0, _, a1, _⟩ := tk_row (h.c.below hb) hx0
 have HB : Hid (blk y.c y.f t = maxN (tkL y.c y.f x0.prio ++ scL y.c y.f x0.prio)) := by show _ = _; unfold blk; rw [hpr]
 obtain ⟨_, y11, _⟩ := HX.out _ (Below.refl _ _)
 rw [e0] at y11
 generalize blk y.c y.f t = R at *
 generalize x0.prio = p at *
 generalize syC y = C at *
 clear h hf hx0 hpr hb hV ht e0
 go_enter Tryz.func23, Tryz.ntmps23
 go_upto_region 1 with fail
 generalize w.alloc (.cells C 68) = W1 at *
 go_upto_region 3 with fail
 clear y11 a1 hg0
 obtain ⟨_, y11, _⟩ := HX.out _ (Below.refl _ _)
 go_wp2
 clear y11
 go_loopw [6, 7, 8, 22] (fun lv _ _ iv wr => ∃ (j k : Nat), j ≤ y.v.t.n ∧ iv = .int .i64 j ∧ lv = .int .u64 k ∧ Hid (k = maxN ((tkL y.c y.f p).take j) ∧ Below W1.heap.size W1 wr)) (fun _ _ _ iv _ => y.v.t.n - (intOf iv).toNat)
 case atStart => exact ⟨0, 0, by omega, rfl, rfl, rfl, Below.refl _ _⟩
 case round =>
  obtain ⟨j, k, hj, rfl, rfl, HJ⟩ := hrel
  obtain ⟨hk, hB⟩ := HJ.out
  obtain ⟨hV, y11, y18, y22, y25, hbw⟩ := HX.out _ hB
  by_cases hlt : j < y.v.t.n
  ·have hlt' : (j : Int) < y.v.t.n := by omega
   have hltw : (j : Int) < y.vf.w.n := by have := HW.out; omega
   have hltu : (j : Int) < y.s2.n := by have := HU.out; omega
   have hjc : j < y.c.tasks.length := by rw [← HN.out]; exact hlt
   obtain ⟨x, hx⟩ : ∃ x, y.c.tasks[j]? = some x := ⟨_, List.getElem?_eq_getElem hjc⟩
   obtain ⟨wk, hwk⟩ : ∃ wk, y.f.w[j]? = some wk := ⟨_, List.getElem?_eq_getElem (by have := HH.out.f.k.n; omega)⟩
   have hru : (y.c.tasks.map (Ce.runP y.c))[j]? = some (Ce.runA y.c j) := by rw [List.getElem?_map, hx]; unfold Ce.runA; rw [hx]; rfl
   obtain ⟨g, off, s4, s5, s6, s7, e, hg, a0, a1, a2, a3, a4, a5, a6, a7⟩ := tk_row (HH.out.c.below hbw) hx
   obtain ⟨g2, o2, e2, hg2, d2⟩ := nat_at (HH.out.f.k.belowS hbw) hwk
   obtain ⟨g3, o3, e3, hg3, d3⟩ := ints_at (HH.out.u.belowS hbw) hru
   have hng : g ≠ wr.heap.size := Nat.ne_of_lt hg
   have HK : Hid (maxN ((tkL y.c y.f p).take (j + 1)) = max k (if x.prio < p ∧ p ≤ Ce.runA y.c j then wk else 0)) := by
    show _ = _
    rw [maxN_take (tkL_at y.c y.f p hjc), ← hk]
    unfold tkB
    rw [pri_at hx, natAt_at hwk]
   have hal := below_alloc wr (.cells (btC x s4 s5 s6 s7) 79)
   have hst := tk_st wr x s4 s5 s6 s7
   have hT := heap_alloc_new wr (.cells (btC x s4 s5 s6 s7) 79)
   have HB3 : Hid (Below W1.heap.size W1 (wr.alloc (.cells (btC x s4 s5 s6 s7) 79))) := hB.trans (hal.mono hB.size)
   have d2' : (wr.alloc (.cells (btC x s4 s5 s6 s7) 79)).cell? ⟨g2, o2 + j, none⟩ = some (U wk) := (cell_below hal _ _ hg2).trans d2
   have d3' : (wr.alloc (.cells (btC x s4 s5 s6 s7) 79)).cell? ⟨g3, o3 + j, none⟩ = some (I (Ce.runA y.c j)) := (cell_below hal _ _ hg3).trans d3
   have p1 := btC_1 hT
   rw [e]
   rw [e] at y11
   clear hx hwk hru hjc hk hB HJ hal y18 y22 y25 hV hbw d2 d3 hg2 hg3 hT e
   go_upto_region 6 with fail
   clear a0 a1 a2 a3 a4 a5 a6 a7 hst hng hg y11
   generalize wr.alloc (.cells (btC x s4 s5 s6 s7) 79) = w3 at *
   generalize wr.heap.size = T at *
   obtain ⟨_, _, y18, _, y25, _⟩ := HX.out _ HB3.out
   rw [e2] at y18
   rw [e3] at y25
   generalize Ce.runA y.c j = ru at *
   generalize x.prio = pr at *
   have hmx := mxU_nat k wk
   by_cases c1 : pr < p
   ·by_cases c2 : p ≤ ru
    ·have HK2 : Hid (maxN ((tkL y.c y.f p).take (j + 1)) = max k wk) := by show _ = _; rw [HK.out, if_pos ⟨c1, c2⟩]
     clear HK
     go_wp2
     clear y18 y25 d2' d3' p1
     (try rw [hmx])
     go_roundw
     case rel => exact ⟨j + 1, max k wk, by omega, by go_num, rfl, HK2.out.symm, HB3.out⟩
     case measure => simp [intOf]; omega
    ·have HK2 : Hid (maxN ((tkL y.c y.f p).take (j + 1)) = k) := by show _ = _; rw [HK.out, if_neg (fun h => c2 h.2)]; simp
     clear HK
     go_wp2
     clear y18 y25 d2' d3' p1
     go_roundw
     case rel => exact ⟨j + 1, k, by omega, by go_num, rfl, HK2.out.symm, HB3.out⟩
     case measure => simp [intOf]; omega
   ·have HK2 : Hid (maxN ((tkL y.c y.f p).take (j + 1)) = k) := by show _ = _; rw [HK.out, if_neg (fun h => c1 h.1)]; simp
    clear HK
    go_wp2
    clear y18 y25 d2' d3' p1
    go_roundw
    case rel => exact ⟨j + 1, k, by omega, by go_num, rfl, HK2.out.symm, HB3.out⟩
    case measure => simp [intOf]; omega
  ·obtain rfl : j = y.v.t.n := by omega
   have hlt' : ¬ ((y.v.t.n : Nat) : Int) < (y.v.t.n : Nat) := by omega
   have HK : Hid (k = maxN (tkL y.c y.f p ++ (scL y.c y.f p).take 0)) := by
    show _ = _
    rw [hk, List.take_of_length_le (by rw [tkL_len, HN.out]; exact Nat.le_refl _)]
    simp
   have HB3 : Hid (Below W1.heap.size W1 wr) := hB
   clear hk hB HJ hV y11 y18 y25 hbw
   go_wp2
   clear y22
   go_loopw [6, 10, 54] (fun lv _ iv wr => ∃ (j k : Nat), j ≤ y.vf.s.n ∧ iv = .int .i64 j ∧ lv = .int .u64 k ∧ Hid (k = maxN (tkL y.c y.f p ++ (scL y.c y.f p).take j) ∧ Below W1.heap.size W1 wr)) (fun _ _ iv _ => y.vf.s.n - (intOf iv).toNat)
   case atStart => exact ⟨0, k, by omega, rfl, rfl, HK.out, HB3.out⟩
   case round =>
    clear HK HB3
    obtain ⟨j, k, hj, rfl, rfl, HJ⟩ := hrel
    obtain ⟨hk, hB⟩ := HJ.out
    obtain ⟨hV, y11, y18, y22, y25, hbw⟩ := HX.out _ hB
    by_cases hlt : j < y.vf.s.n
    ·have hlt' : (j : Int) < y.vf.s.n := by omega
     have hjc : j < y.f.s.length := by rw [← HSN.out]; exact hlt
     obtain ⟨x, hx⟩ : ∃ x, y.f.s[j]? = some x := ⟨_, List.getElem?_eq_getElem hjc⟩
     obtain ⟨q, ty, wk, hxq, hty, hwk, htk, hxl⟩ := sec_may HF.out (List.mem_of_getElem? hx)
     obtain ⟨r, hxr, hrl⟩ := tak_may HM.out hty htk
     obtain ⟨g, off, e, hg, a0, a1, a2⟩ := sc_at (HH.out.f.s.belowS hbw) hx
     obtain ⟨g5, o5, _, _, _, _, e5, hg5, _, b1, _⟩ := tk_row (HH.out.c.below hbw) hty
     have hng : g ≠ wr.heap.size := Nat.ne_of_lt hg
     have hqv : (q : Int) < y.v.t.n := by have := (List.getElem?_eq_some_iff.1 hty).1; have := HN.out; omega
     have HK : Hid (maxN (tkL y.c y.f p ++ (scL y.c y.f p).take (j + 1)) = max k (if ty.prio < p ∧ p ≤ ceilQ y.c r then x.len else 0)) := by
      show _ = _
      have hsl : (scL y.c y.f p)[j]? = some (scB y.c p x) := by unfold scL; rw [List.getElem?_map, hx]; rfl
      rw [maxN_app_take _ _ hsl, ← hk]
      unfold scB
      rw [hxq, Int.toNat_natCast, pri_at hty, hxr]
     have hal := below_alloc wr (.cells #[I x.task, I x.res, U x.len] 84)
     have hT := heap_alloc_new wr (.cells #[I x.task, I x.res, U x.len] 84)
     have HB3 : Hid (Below W1.heap.size W1 (wr.alloc (.cells #[I x.task, I x.res, U x.len] 84))) := hB.trans (hal.mono hB.size)
     have b1' : (wr.alloc (.cells #[I x.task, I x.res, U x.len] 84)).cell? ⟨g5, o5 + q * 8 + 1, none⟩ = some (I ty.prio) := (cell_below hal _ _ hg5).trans b1
     have HXQ : Hid (x.task = (q : Int)) := hxq
     have HXR : Hid (x.res = (r : Int)) := hxr
     rw [e]
     rw [e] at y22
     clear hxq hxr
     clear hx hwk hjc hk hB HJ hal y11 y18 y25 hV hbw hg5 e htk hxl hty b1
     go_upto_region 12 with fail
     clear a0 a1 a2 hng hg y22
     generalize wr.alloc (.cells #[I x.task, I x.res, U x.len] 84) = w3 at *
     generalize wr.heap.size = T at *
     obtain ⟨hV, y11, _, _, _, hbw⟩ := HX.out _ HB3.out
     have c0 := cell_at3 hT 0
     have cc1 := cell_at3 hT 1
     have c2 := cell_at3 hT 2
     simp at c0 cc1 c2
     rw [HXQ.out] at c0
     rw [HXR.out] at cc1
     rw [e5] at y11
     have k1 := KC.out _ hbw r hrl
     have HT : Hid (∀ W, Below w3.heap.size w3 W → W.cell? ⟨T, 2, none⟩ = some (U x.len) ∧ Below W1.heap.size W1 W) := fun W hW => ⟨(cell_below hW _ _ (heap_lt hT)).trans c2, HB3.out.trans (hW.mono HB3.out.size)⟩
     clear hT hbw HXQ HXR e5
     generalize ceilQ y.c r = cq at *
     generalize ty.prio = pr at *
     have hmx := mxU_nat k x.len
     by_cases d1 : pr < p
     ·by_cases d2 : p ≤ cq
      ·have HK2 : Hid (maxN (tkL y.c y.f p ++ (scL y.c y.f p).take (j + 1)) = max k x.len) := by show _ = _; rw [HK.out, if_pos ⟨d1, d2⟩]
       clear HK HB3
       go_wp2_with (first | (refine Ce.wpList_load_row_g 68 _ rfl w.heap.size rfl 68 _ (0, 0) _ hV Tryz.underlying68 rfl hi28 (by kernel_rfl) ?_; simp only [Act.put, q7a, q7b, q7c, q7d, q7e, q7f]) | (go_at_call 35; refine k1.mono ?_; clear k1; rintro e w4 ⟨rfl, hb4⟩; obtain ⟨c2', hB4⟩ := HT.out _ hb4; have HB4 : Hid (Below W1.heap.size W1 w4) := hB4; clear hB4 hb4))
       clear y11 c0 cc1 c2 hV b1'
       (try rw [hmx])
       go_roundw
       case rel => exact ⟨j + 1, max k x.len, by omega, by go_num, rfl, HK2.out.symm, HB4.out⟩
       case measure => simp [intOf]; omega
      ·have HK2 : Hid (maxN (tkL y.c y.f p ++ (scL y.c y.f p).take (j + 1)) = k) := by show _ = _; rw [HK.out, if_neg (fun h => d2 h.2)]; simp
       clear HK HB3
       go_wp2_with (first | (refine Ce.wpList_load_row_g 68 _ rfl w.heap.size rfl 68 _ (0, 0) _ hV Tryz.underlying68 rfl hi28 (by kernel_rfl) ?_; simp only [Act.put, q7a, q7b, q7c, q7d, q7e, q7f]) | (go_at_call 35; refine k1.mono ?_; clear k1; rintro e w4 ⟨rfl, hb4⟩; have HB4 : Hid (Below W1.heap.size W1 w4) := (HT.out _ hb4).2; clear hb4))
       clear y11 c0 cc1 c2 hV b1'
       go_roundw
       case rel => exact ⟨j + 1, k, by omega, by go_num, rfl, HK2.out.symm, HB4.out⟩
       case measure => simp [intOf]; omega
     ·have HK2 : Hid (maxN (tkL y.c y.f p ++ (scL y.c y.f p).take (j + 1)) = k) := by show _ = _; rw [HK.out, if_neg (fun h => d1 h.1)]; simp
      clear HK k1 HT
      go_wp2
      clear y11 c0 cc1 c2 hV b1'
      go_roundw
      case rel => exact ⟨j + 1, k, by omega, by go_num, rfl, HK2.out.symm, HB3.out⟩
      case measure => simp [intOf]; omega
    ·obtain rfl : j = y.vf.s.n := by omega
     have hlt' : ¬ ((y.vf.s.n : Nat) : Int) < (y.vf.s.n : Nat) := by omega
     have HR : Hid (k = R) := by
      show _ = _
      rw [hk, HB.out, List.take_of_length_le (by rw [HSN.out]; unfold scL; rw [List.length_map]; exact Nat.le_refl _)]
     have HBW : Hid (Below w.heap.size w wr) := hbw
     clear hk hB HJ hV y11 y18 y25 y22 hbw
     go_wp2
     go_ret
     exact ⟨by rw [← HR.out]; rfl, HBW.out⟩
end Go.Proofs.YtpbnpmeigdjfdaaGreatDoor
