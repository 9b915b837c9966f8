import Derived.Test.YtpbnpmeigdjfdaaGreatDoorBbh
import Derived.Deep.RegionHeldLaw
namespace Go.Proofs.YtpbnpmeigdjfdaaGreatDoor
open Go.RowKit Go.Sort
set_option linter.unusedSimpArgs false
set_option linter.unusedVariables false
set_option maxHeartbeats 16000000
set_option maxRecDepth 100000
def rvT (c : Cf) (f : Fg) (t j : Nat) : List (Nat × Nat) := (List.range j).flatMap fun i => if i ≠ t ∧ pri c t ≤ pri c i then [(natAt f.w i, natAt f.p i)] else []
def rvI (f : Fg) (j : Nat) : List (Nat × Nat) := (List.range j).map fun i => (natAt f.i i, natAt f.e i)
def rvL (c : Cf) (f : Fg) (t : Nat) : List (Nat × Nat) := rvT c f t c.tasks.length ++ rvI f f.i.length
def rvF (l : List (Nat × Nat)) : List Value := l.flatMap fun x => [U x.1, U x.2]
theorem rvT_succ (c : Cf) (f : Fg) (t j : Nat) : rvT c f t (j + 1) = rvT c f t j ++ (if j ≠ t ∧ pri c t ≤ pri c j then [(natAt f.w j, natAt f.p j)] else []) := by
 unfold rvT
 rw [List.range_succ, List.flatMap_append]
 simp
theorem rvI_succ (f : Fg) (j : Nat) : rvI f (j + 1) = rvI f j ++ [(natAt f.i j, natAt f.e j)] := by
 unfold rvI
 rw [List.range_succ, List.map_append]
 rfl
theorem rvF_app (a b : List (Nat × Nat)) : rvF (a ++ b) = rvF a ++ rvF b := by simp [rvF]
theorem rvF_one (x : Nat × Nat) : rvF [x] = [U x.1, U x.2] := by simp [rvF]
theorem rvF_at (l : List (Nat × Nat)) : ∀ (j : Nat) (x : Nat × Nat), l[j]? = some x → (rvF l)[j * 2]? = some (U x.1) ∧ (rvF l)[j * 2 + 1]? = some (U x.2) := by
 induction l with
 | nil => intro j x h; cases h
 | cons y r ih =>
  intro j x h
  have e : rvF (y :: r) = U y.1 :: U y.2 :: rvF r := by simp [rvF]
  cases j with
  | zero =>
   obtain rfl : y = x := by simpa using h
   rw [e]
   exact ⟨rfl, rfl⟩
  | succ j =>
   have := ih j x (by simpa using h)
   rw [e, show (j + 1) * 2 = j * 2 + 2 by omega]
   exact this
theorem infoRv : (Tryz.prog.info? 115).map (fun i => (i.zero, i.size, i.bytes)) = some (some (.agg #[.int .u64 0, .int .u64 0] : Value), 2, 16) := by kernel_rfl
structure RvO (B : Nat) (w : World) (l : List (Nat × Nat)) (sa : Option Addr) (n sc : Nat) : Prop where
 o : w.ownsRow B 115 2 (.slice sa n sc) n (rvF l)
 n : n = l.length
theorem RvO.rows {B : Nat} {w : World} {l : List (Nat × Nat)} {sa : Option Addr} {n sc : Nat} (h : RvO B w l sa n sc) : RowsAt w 2 rvP ⟨sa, n, sc⟩ l := by
 obtain ⟨o, hn⟩ := h
 obtain ⟨hl, ⟨hv, h0⟩ | ⟨g, cap, cur, hv, hb1, hh, hnc, hcm, hcs, htk⟩⟩ := o
 ·cases hv
  have : l = [] := List.eq_nil_of_length_eq_zero (by omega)
  subst this
  exact ⟨rfl, Nat.le_refl _, Nat.zero_le _, fun j x hj => by cases hj⟩
 ·cases hv
  refine ⟨hn, hnc, hcm, fun j x hj => ⟨g, 0, rfl, heap_lt hh, fun i hi => ?_⟩⟩
  obtain ⟨c0, c1⟩ := rvF_at l j x hj
  have hjl := (List.getElem?_eq_some_iff.1 hj).1
  rw [← htk, List.getElem?_take, if_pos (by omega), Array.getElem?_toList] at c0
  rw [← htk, List.getElem?_take, if_pos (by omega), Array.getElem?_toList] at c1
  have hc : ∀ k, w.cell? ⟨g, k, none⟩ = cur[k]? := fun k => cell_at3 hh k
  have h01 : i = 0 ∨ i = 1 := by omega
  rcases h01 with rfl | rfl
  ·exact ⟨_, by rw [hc, show 0 + j * 2 + 0 = j * 2 by omega]; exact c0, rfl⟩
  ·exact ⟨_, by rw [hc, show 0 + j * 2 + 1 = j * 2 + 1 by omega]; exact c1, rfl⟩
theorem step_appB {P : Program} {ops : Array Oper} {o : Oper} {a : Act} {w : World} {K : Act → World → Prop} {Q : Exit → Act → World → Prop} {E : Prop} (hgd : o.guard = none) (s x : Operand) (t : TypeId)
  (ho : o.op = .call { callee := .builtin .append, args := #[s, x], argTypes := #[t, t] })
  (base : Nat) (e : TypeId) (i : TypeInfo) (z : Value) (size bytes : Nat) (ht : P.underlying t = some (.slice e)) (hi : P.info? e = some i) (hz : i.zero = some z)
  (hsize : i.size = size) (hby : i.bytes = bytes) (hzs : z.cells.size = size) (hsz : 0 < size)
  (v : Value) (n : Nat) (xs : List Value) (hs : a.eval s = v) (hown : w.ownsRow base e size v n xs)
  (ad : Addr) (m c : Nat) (news : List Value) (hx : a.eval x = .slice (some ad) m c) (hl : news.length = m * size) (hnews : ∀ j u, news[j]? = some u → w.cell? (ad.add j) = some u) (h1 : ∀ u ∈ news, u.oneCell' = true)
  (h63 : n + m ≤ maxLen) (hbytes : (n + m) * bytes ≤ 140737488355328) (hbase : base ≤ w.heap.size)
  (h : ∀ v' w', w'.ownsRow base e size v' (n + m) (xs ++ news) → w.grownBy w' v.ownBlock → K (a.put o.dst v') w') : if Region.wanted o (yielded ops a.tmps) = true then Oper.wp P o a w K Q else E := by
 have hw : Region.wanted o (yielded ops a.tmps) = true := by simp [Region.wanted, hgd]
 rw [if_pos hw]
 exact wp_append_own w s x t ho base e i z size bytes ht hi hz hsize hby hzs hsz v n xs hs hown ad m c news hx hl hnews h1 h63 hbytes hbase (fun v' w' h2 h3 _ => h v' w' h2 h3)
theorem own_slB {w : World} {B e s n : Nat} {v : Value} {xs : List Value} (h : w.ownsRow B e s v n xs) : ∃ a c, v = .slice a n c := by
 rcases h.2 with ⟨rfl, rfl⟩ | ⟨g, cap, cur, rfl, _⟩
 ·exact ⟨none, 0, rfl⟩
 ·exact ⟨_, cap, rfl⟩
theorem cells_newB (w : World) (cs : Array Value) (t : TypeId) : ∀ j u, cs.toList[j]? = some u → (w.alloc (.cells cs t)).cell? ((⟨w.heap.size, 0, none⟩ : Addr).add j) = some u := by
 intro j u h
 rw [show (⟨w.heap.size, 0, none⟩ : Addr).add j = ⟨w.heap.size, 0 + j, none⟩ by unfold Addr.add; split <;> simp_all, Nat.zero_add, cell_at3 (heap_alloc_new w _) j]
 simpa using h
theorem two_one (a b : Nat) : ∀ u ∈ (#[U a, U b] : Array Value).toList, u.oneCell' = true := by
 intro u hu
 simp only [List.mem_cons, List.not_mem_nil, or_false] at hu
 rcases hu with rfl | rfl <;> rfl
theorem RvO.next {B : Nat} {w' : World} {l : List (Nat × Nat)} {x : Nat × Nat} {v' : Value} {n : Nat} (hn : n = l.length) (h : w'.ownsRow B 115 2 v' (n + 1) (rvF l ++ (#[U x.1, U x.2] : Array Value).toList)) : ∃ a c, v' = .slice a (n + 1) c ∧ RvO B w' (l ++ [x]) a (n + 1) c := by
 obtain ⟨a, c, rfl⟩ := own_slB h
 refine ⟨a, c, rfl, ⟨?_, by simp [hn]⟩⟩
 rw [rvF_app, rvF_one]
 exact h
theorem own_grow {B : Nat} {a w w' : World} {e s n : Nat} {v : Value} {xs : List Value} (h : w.ownsRow B e s v n xs) (hb : Below B a w) (hs : B ≤ w.heap.size) (hg : w.grownBy w' v.ownBlock) : Below B a w' := hb.grown hg hs (fun k e => (h.lt k e).1)
theorem rivals_any (w : World) (y : Sy) (h : SyAt w y) (hf : Fits y.c y.f) (t : Nat) (ht : t < y.c.tasks.length) : Calls Tryz.prog 34 #[.agg (syC y), I t] w fun e w' => ∃ s : Sl, e = .returned (.slice s.a s.n s.c) ∧ RowsAt w' 2 rvP s (rvL y.c y.f t) ∧ Below w.heap.size w w' := by
 obtain ⟨i0, hi0, hz0, hz1, hz2⟩ := info_parts infoRv
 have hb := below_alloc w (.cells (syC y) 68)
 have hV := heap_alloc_new w (.cells (syC y) 68)
 have hsz : (w.alloc (.cells (syC y) 68)).heap.size = w.heap.size + 1 := by simp
 have hle := may_lens hf.a
 obtain ⟨l1, l2, l3, l4⟩ := tim_len hf.t
 have HN : Hid (y.v.t.n = y.c.tasks.length) := h.c.t.n
 have HW : Hid (y.vf.w.n = y.v.t.n) := by show _ = _; rw [h.f.k.n, l1, h.c.t.n]
 have HP : Hid (y.vf.p.n = y.v.t.n) := by show _ = _; rw [h.f.p.n, l2, h.c.t.n]
 have HI : Hid (y.vf.i.n = y.f.i.length) := h.f.i.n
 have HE : Hid (y.vf.e.n = y.vf.i.n) := by show _ = _; rw [h.f.e.n, h.f.i.n, l4, l3]
 have HH : Hid (SyAt w y) := h
 have hn256 : y.v.t.n ≤ 256 := by rw [HN.out]; omega
 have hi32 : y.vf.i.n ≤ 32 := by rw [HI.out]; omega
 have h1 := h.c.t.c
 have h2 := h.c.t.m
 have h3 := h.f.k.c
 have h4 := h.f.k.m
 have h5 := h.f.p.c
 have h6 := h.f.p.m
 have h7 := h.f.i.c
 have h8 := h.f.i.m
 have h9 := h.f.e.c
 have h10 := h.f.e.m
 unfold maxLen at h2 h4 h6 h8 h10
 have HX : Hid (∀ W, Below (w.alloc (.cells (syC y) 68)).heap.size (w.alloc (.cells (syC y) 68)) W → W.cell? ⟨w.heap.size, 11, none⟩ = some (.slice y.v.t.a y.v.t.n y.v.t.c) ∧ W.cell? ⟨w.heap.size, 18, none⟩ = some (.slice y.vf.w.a y.vf.w.n y.vf.w.c) ∧ W.cell? ⟨w.heap.size, 19, none⟩ = some (.slice y.vf.p.a y.vf.p.n y.vf.p.c) ∧ W.cell? ⟨w.heap.size, 20, none⟩ = some (.slice y.vf.i.a y.vf.i.n y.vf.i.c) ∧ W.cell? ⟨w.heap.size, 21, none⟩ = some (.slice y.vf.e.a y.vf.e.n y.vf.e.c) ∧ Below w.heap.size w W) := fun W hW => by
  have q := (hW.block _ (heap_lt hV)).trans hV
  exact ⟨cell_at3 q 11, cell_at3 q 18, cell_at3 q 19, cell_at3 q 20, cell_at3 q 21, hb.trans (hW.mono hb.size)⟩
 obtain ⟨x0, hx0⟩ : ∃ x, y.c.tasks[t]? = some x := ⟨_, List.getElem?_eq_getElem ht⟩
 have htv : (t : Int) < y.v.t.n := by have := HN.out; omega
 have hpr : pri y.c t = x0.prio := pri_at hx0
 obtain ⟨g0, o0, _, _, _, _, e0, hg0, _, a1, _⟩ := tk_row h.c hx0
 have HA : Hid (∀ W, Below w.heap.size w W → W.cell? ⟨g0, o0 + t * 8 + 1, none⟩ = some (I x0.prio)) := fun W hW => (cell_below hW _ _ hg0).trans a1
 have HE0 : Hid (y.v.t.a = some ⟨g0, o0, none⟩) := e0
 generalize syC y = C at *
 clear h hf hx0 hb hV ht hg0 a1 l1 l2 l3 l4 hle e0
 go_enter Tryz.func34, Tryz.ntmps34
 go_upto_region 1 with fail
 generalize w.alloc (.cells C 68) = W1 at *
 have HS1 : Hid (W1.heap.size = w.heap.size + 1) := hsz
 obtain ⟨y11, _⟩ := HX.out _ (Below.refl _ _)
 go_wp2
 clear y11 hsz
 go_loopw [5, 6, 7, 14] (fun lv _ _ iv wr => ∃ (j n : Nat) (sa : Option Addr) (sc : Nat), j ≤ y.v.t.n ∧ n ≤ j ∧ iv = .int .i64 j ∧ lv = .slice sa n sc ∧ Hid (RvO W1.heap.size wr (rvT y.c y.f t j) sa n sc ∧ Below W1.heap.size W1 wr)) (fun _ _ _ iv _ => y.v.t.n - (intOf iv).toNat)
 case atStart => exact ⟨0, 0, none, 0, by omega, by omega, rfl, rfl, ⟨World.ownsRow_nil _ _ _ _, rfl⟩, Below.refl _ _⟩
 case round =>
  obtain ⟨j, n, sa, sc, hj, hnj, rfl, rfl, HJ⟩ := hrel
  obtain ⟨hO, hB⟩ := HJ.out
  obtain ⟨y11, y18, y19, y20, y21, hbw⟩ := HX.out _ hB
  by_cases hlt : j < y.v.t.n
  ·have hlt' : (j : Int) < y.v.t.n := by omega
   have hltw : (j : Int) < y.vf.w.n := by have := HW.out; omega
   have hltp : (j : Int) < y.vf.p.n := by have := HP.out; omega
   have hjc : j < y.c.tasks.length := by rw [← HN.out]; exact hlt
   obtain ⟨x, hx⟩ : ∃ x, y.c.tasks[j]? = some x := ⟨_, List.getElem?_eq_getElem hjc⟩
   obtain ⟨wk, hwk⟩ : ∃ wk, y.f.w[j]? = some wk := ⟨_, List.getElem?_eq_getElem (by have := HH.out.f.k.n; omega)⟩
   obtain ⟨pk, hpk⟩ : ∃ pk, y.f.p[j]? = some pk := ⟨_, List.getElem?_eq_getElem (by have := HH.out.f.p.n; omega)⟩
   obtain ⟨g, off, s4, s5, s6, s7, e, hg, a0, a1, a2, a3, a4, a5, a6, a7⟩ := tk_row (HH.out.c.below hbw) hx
   obtain ⟨g2, o2, e2, hg2, d2⟩ := nat_at HH.out.f.k hwk
   obtain ⟨g3, o3, e3, hg3, d3⟩ := nat_at HH.out.f.p hpk
   have hng : g ≠ wr.heap.size := Nat.ne_of_lt hg
   have HK : Hid (rvT y.c y.f t (j + 1) = rvT y.c y.f t j ++ (if j ≠ t ∧ x0.prio ≤ x.prio then [(wk, pk)] else [])) := by
    show _ = _
    rw [rvT_succ, hpr, pri_at hx, natAt_at hwk, natAt_at hpk]
   have HD : Hid (∀ W, Below w.heap.size w W → W.cell? ⟨g2, o2 + j, none⟩ = some (U wk) ∧ W.cell? ⟨g3, o3 + j, none⟩ = some (U pk)) := fun W hW => ⟨(cell_below hW _ _ hg2).trans d2, (cell_below hW _ _ hg3).trans d3⟩
   have hal := below_alloc wr (.cells (btC x s4 s5 s6 s7) 79)
   have hst := tk_st wr x s4 s5 s6 s7
   have hT := heap_alloc_new wr (.cells (btC x s4 s5 s6 s7) 79)
   have H3 : Hid (RvO W1.heap.size (wr.alloc (.cells (btC x s4 s5 s6 s7) 79)) (rvT y.c y.f t j) sa n sc ∧ Below W1.heap.size W1 (wr.alloc (.cells (btC x s4 s5 s6 s7) 79))) := ⟨⟨own_below hO.o hal, hO.n⟩, hB.trans (hal.mono hB.size)⟩
   have p1 := btC_1 hT
   rw [e]
   rw [e] at y11
   clear hx hwk hpk hjc hB hO HJ hal y18 y19 y20 y21 hbw d2 d3 hg2 hg3 hT e
   go_upto_region 5 with fail
   clear a0 a1 a2 a3 a4 a5 a6 a7 hst hng hg y11
   generalize wr.alloc (.cells (btC x s4 s5 s6 s7) 79) = w3 at *
   generalize wr.heap.size = T at *
   obtain ⟨y11, y18, y19, _, _, hbw⟩ := HX.out _ H3.out.2
   have a1 := HA.out _ hbw
   rw [HE0.out] at y11
   have r11 := cell_regrown y11
   have r1 := cell_regrown a1
   have rp1 := cell_regrown p1
   have HB5 : Hid (∀ W, Below w3.heap.size w3 W → RvO W1.heap.size W (rvT y.c y.f t j) sa n sc ∧ Below W1.heap.size W1 W) := fun W hW => ⟨⟨own_below H3.out.1.o hW, H3.out.1.n⟩, H3.out.2.trans (hW.mono H3.out.2.size)⟩
   clear H3 y11 y18 y19 a1 p1 hbw
   generalize x0.prio = p0 at *
   generalize x.prio = pr at *
   by_cases c1 : j = t
   ·have d1 : ((j : Int) != (t : Int)) = false := by simp [c1]
    have d2 : (j != t) = false := by simp [c1]
    have HK2 : Hid (rvT y.c y.f t (j + 1) = rvT y.c y.f t j) := by show _ = _; rw [HK.out, if_neg (fun h => h.1 c1)]; simp
    clear HK HD c1
    refine wp_region_quiet_below (by kernel_rfl) (by kernel_rfl) ?_
    repeat (go_big_quiet_step (fail))
    refine wpQuiet_nil ?_
    rintro _ ⟨⟨dq, osq⟩, rfl⟩
    dsimp only
    have HB6 : Hid (_ ∧ _) := HB5.out _ (below_regrown w3 dq osq)
    clear r11 r1 rp1 HB5
    generalize grow (redrawn w3 dq) osq = w4 at *
    go_wp2
    go_roundw
    case rel => exact ⟨j + 1, n, sa, sc, by omega, by omega, by go_num, rfl, by show _ ∧ _; rw [HK2.out]; exact HB6.out⟩
    case measure => simp [intOf]; omega
   ·have d1 : ((j : Int) != (t : Int)) = true := by simp; omega
    have d2 : (j != t) = true := by simp [c1]
    by_cases c2 : p0 ≤ pr
    ·have d3 : decide (p0 ≤ pr) = true := decide_eq_true c2
     have HK2 : Hid (rvT y.c y.f t (j + 1) = rvT y.c y.f t j ++ [(wk, pk)]) := by show _ = _; rw [HK.out, if_pos ⟨c1, c2⟩]
     clear HK c1 c2
     refine wp_region_quiet_below (by kernel_rfl) (by kernel_rfl) ?_
     repeat (go_big_quiet_step (fail))
     refine wpQuiet_nil ?_
     rintro _ ⟨⟨dq, osq⟩, rfl⟩
     dsimp only
     have HB6 : Hid (_ ∧ _) := HB5.out _ (below_regrown w3 dq osq)
     clear r11 r1 rp1 HB5
     generalize grow (redrawn w3 dq) osq = w4 at *
     go_upto_region 6 with fail
     have HXS : Hid (∀ W, Below W1.heap.size W1 W → W.cell? ⟨w.heap.size, 18, none⟩ = some (.slice (some ⟨g2, o2, none⟩) y.vf.w.n y.vf.w.c) ∧ W.cell? ⟨w.heap.size, 19, none⟩ = some (.slice (some ⟨g3, o3, none⟩) y.vf.p.n y.vf.p.c) ∧ W.cell? ⟨g2, o2 + j, none⟩ = some (U wk) ∧ W.cell? ⟨g3, o3 + j, none⟩ = some (U pk)) := fun W hW => by
      obtain ⟨_, q1, q2, _, _, q3⟩ := HX.out _ hW
      rw [e2] at q1
      rw [e3] at q2
      exact ⟨q1, q2, HD.out _ q3⟩
     have hba := below_alloc w4.drew (.cells #[U wk, U pk] 115)
     have hB4 : Below W1.heap.size W1 w4.drew := HB6.out.2.drew
     have hB7 : Below W1.heap.size W1 (w4.drew.alloc (.cells #[U wk, U pk] 115)) := hB4.trans (hba.mono hB4.size)
     have hO7 : (w4.drew.alloc (.cells #[U wk, U pk] 115)).ownsRow W1.heap.size 115 2 (.slice sa n sc) n (rvF (rvT y.c y.f t j)) := own_below HB6.out.1.o.drew hba
     have hnew : ∀ j u, (#[U wk, U pk] : Array Value).toList[j]? = some u → (w4.alloc (.cells #[U wk, U pk] 115)).drew.cell? ((⟨w4.heap.size, 0, none⟩ : Addr).add j) = some u := cells_newB w4.drew #[U wk, U pk] 115
     have HN6 : Hid (n = (rvT y.c y.f t j).length) := HB6.out.1.n
     have sA := HXS.out _ hB4
     have sB := HXS.out _ hB7
     have HS7 : Hid (∀ w', (w4.drew.alloc (.cells #[U wk, U pk] 115)).grownBy w' (Value.slice sa n sc).ownBlock → Below W1.heap.size W1 w') := fun w' hg => own_grow hO7 hB7 hB7.size hg
     have hszB := hB7.size
     generalize rvT y.c y.f t j = LJ at *
     clear HB6 hba hB4 HD e2 e3
     go_region_held_law (fun U' => U'.cell? ⟨w.heap.size, 18, none⟩ = some (.slice (some ⟨g2, o2, none⟩) y.vf.w.n y.vf.w.c) ∧ U'.cell? ⟨w.heap.size, 19, none⟩ = some (.slice (some ⟨g3, o3, none⟩) y.vf.p.n y.vf.p.c) ∧ U'.cell? ⟨g2, o2 + j, none⟩ = some (U wk) ∧ U'.cell? ⟨g3, o3 + j, none⟩ = some (U pk)) (first | exact sA | exact sB | exact s9 | (go_keep; done)) (first
      | (refine step_appB rfl (.tmp 34) (.tmp 48) 96 rfl W1.heap.size 115 i0 _ 2 16 Tryz.underlying96 hi0 hz0 hz1 hz2 rfl (by decide) (.slice sa n sc) n _ (by simp [Act.eval, Act.put]) hO7 ⟨w4.heap.size, 0, none⟩ 1 1 (#[U wk, U pk] : Array Value).toList (by simp [Act.eval, Act.put]) rfl hnew (two_one wk pk) (by unfold maxLen; omega) (by omega) hszB ?_; intro v6 w9 ho9 hg9; have hb9 := HS7.out _ hg9; have s9 := HXS.out _ hb9; obtain ⟨a9, c9, rfl, hR9⟩ := RvO.next (x := (wk, pk)) HN6.out ho9; have H9 : Hid (_ ∧ _) := ⟨hR9, hb9⟩; clear ho9 hg9 hb9 hR9))
     have HF9 : Hid (RvO W1.heap.size w9 (rvT y.c y.f t (j + 1)) a9 (n + 1) c9 ∧ Below W1.heap.size W1 w9) := by show _ ∧ _; rw [HK2.out]; exact H9.out
     clear s9 sA sB HS7 HXS hB7 hO7 hnew HK2 H9 HN6 hszB
     (try simp only [Act.put])
     go_wp2
     go_roundw
     case rel => exact ⟨j + 1, n + 1, a9, c9, by omega, by omega, by go_num, rfl, HF9.out⟩
     case measure => simp [intOf]; omega
    ·have d3 : decide (p0 ≤ pr) = false := decide_eq_false c2
     have HK2 : Hid (rvT y.c y.f t (j + 1) = rvT y.c y.f t j) := by show _ = _; rw [HK.out, if_neg (fun h => c2 h.2)]; simp
     clear HK HD c1 c2
     refine wp_region_quiet_below (by kernel_rfl) (by kernel_rfl) ?_
     repeat (go_big_quiet_step (fail))
     refine wpQuiet_nil ?_
     rintro _ ⟨⟨dq, osq⟩, rfl⟩
     dsimp only
     have HB6 : Hid (_ ∧ _) := HB5.out _ (below_regrown w3 dq osq)
     clear r11 r1 rp1 HB5
     generalize grow (redrawn w3 dq) osq = w4 at *
     go_wp2
     go_roundw
     case rel => exact ⟨j + 1, n, sa, sc, by omega, by omega, by go_num, rfl, by show _ ∧ _; rw [HK2.out]; exact HB6.out⟩
     case measure => simp [intOf]; omega
  ·obtain rfl : j = y.v.t.n := by omega
   have hlt' : ¬ ((y.v.t.n : Nat) : Int) < (y.v.t.n : Nat) := by omega
   have HT : Hid (RvO W1.heap.size wr (rvT y.c y.f t y.c.tasks.length ++ rvI y.f 0) sa n sc ∧ Below W1.heap.size W1 wr) := by
    refine ⟨?_, hB⟩
    rw [← HN.out, show rvI y.f 0 = [] from rfl, List.append_nil]
    exact hO
   clear hO hB HJ y11 y18 y19 y21 hbw
   go_wp2
   clear y20
   go_loopw [5, 8, 9, 55] (fun lv _ _ iv wr => ∃ (j n : Nat) (sa : Option Addr) (sc : Nat), j ≤ y.vf.i.n ∧ n ≤ 256 + j ∧ iv = .int .i64 j ∧ lv = .slice sa n sc ∧ Hid (RvO W1.heap.size wr (rvT y.c y.f t y.c.tasks.length ++ rvI y.f j) sa n sc ∧ Below W1.heap.size W1 wr)) (fun _ _ _ iv _ => y.vf.i.n - (intOf iv).toNat)
   case atStart => exact ⟨0, n, sa, sc, by omega, by omega, rfl, rfl, HT.out⟩
   case round =>
    clear HT
    obtain ⟨j, n, sa, sc, hj, hnj, rfl, rfl, HJ⟩ := hrel
    obtain ⟨hO, hB⟩ := HJ.out
    obtain ⟨y11, y18, y19, y20, y21, hbw⟩ := HX.out _ hB
    by_cases hlt : j < y.vf.i.n
    ·have hlt' : (j : Int) < y.vf.i.n := by omega
     have hlte : (j : Int) < y.vf.e.n := by have := HE.out; omega
     obtain ⟨wk, hwk⟩ : ∃ wk, y.f.i[j]? = some wk := ⟨_, List.getElem?_eq_getElem (by have := HI.out; omega)⟩
     obtain ⟨pk, hpk⟩ : ∃ pk, y.f.e[j]? = some pk := ⟨_, List.getElem?_eq_getElem (by have := HH.out.f.e.n; have := HE.out; omega)⟩
     obtain ⟨g2, o2, e2, hg2, d2⟩ := nat_at (HH.out.f.i.belowS hbw) hwk
     obtain ⟨g3, o3, e3, hg3, d3⟩ := nat_at (HH.out.f.e.belowS hbw) hpk
     have HK2 : Hid (rvT y.c y.f t y.c.tasks.length ++ rvI y.f (j + 1) = (rvT y.c y.f t y.c.tasks.length ++ rvI y.f j) ++ [(wk, pk)]) := by
      show _ = _
      rw [rvI_succ, natAt_at hwk, natAt_at hpk, List.append_assoc]
     have hba := below_alloc wr (.cells #[U wk, U pk] 115)
     have hB7 : Below W1.heap.size W1 (wr.alloc (.cells #[U wk, U pk] 115)) := hB.trans (hba.mono hB.size)
     have hO7 := own_below hO.o hba
     have hnew := cells_newB wr #[U wk, U pk] 115
     have HN6 : Hid (n = (rvT y.c y.f t y.c.tasks.length ++ rvI y.f j).length) := hO.n
     have HS7 : Hid (∀ w', (wr.alloc (.cells #[U wk, U pk] 115)).grownBy w' (Value.slice sa n sc).ownBlock → Below W1.heap.size W1 w') := fun w' hg => own_grow hO7 hB7 hB7.size hg
     have hszB := hB7.size
     rw [e2]
     rw [e2] at y20
     rw [e3] at y21
     clear HJ hB hO hB7 hba y11 y18 y19 hbw hwk hpk hg2 hg3 e2 e3
     generalize rvT y.c y.f t y.c.tasks.length ++ rvI y.f j = LJ at *
     go_wp2_with (first
      | (at_builtin; refine wpList_append_own _ rfl (.tmp 60) (.tmp 69) 96 rfl W1.heap.size 115 i0 _ 2 16 Tryz.underlying96 hi0 hz0 hz1 hz2 rfl (by decide) _ _ _ rfl hO7 ⟨wr.heap.size, 0, none⟩ 1 1 (#[U wk, U pk] : Array Value).toList rfl rfl hnew (two_one wk pk) (by unfold maxLen; omega) (by omega) hszB ?_; intro v6 w9 ho9 hg9; have hb9 := HS7.out _ hg9; obtain ⟨a9, c9, rfl, hR9⟩ := RvO.next (x := (wk, pk)) HN6.out ho9; have H9 : Hid (_ ∧ _) := ⟨hR9, hb9⟩; clear ho9 hg9 hb9 hR9))
     have HF9 : Hid (RvO W1.heap.size w9 (rvT y.c y.f t y.c.tasks.length ++ rvI y.f (j + 1)) a9 (n + 1) c9 ∧ Below W1.heap.size W1 w9) := by show _ ∧ _; rw [HK2.out]; exact H9.out
     clear HK2 H9
     go_roundw
     case rel => exact ⟨j + 1, n + 1, a9, c9, by omega, by omega, by go_num, rfl, HF9.out⟩
     case measure => simp [intOf]; omega
    ·obtain rfl : j = y.vf.i.n := by omega
     have hlt' : ¬ ((y.vf.i.n : Nat) : Int) < (y.vf.i.n : Nat) := by omega
     have HR9 : Hid (RowsAt wr 2 rvP ⟨sa, n, sc⟩ (rvL y.c y.f t)) := by
      have := hO.rows
      rw [HI.out] at this
      exact this
     have HB9 : Hid (Below w.heap.size w wr) := hbw
     clear hO hB HJ y11 y18 y19 y20 y21 hbw
     go_wp2
     go_ret
     exact ⟨⟨sa, n, sc⟩, rfl, HR9.out, HB9.out⟩
end Go.Proofs.YtpbnpmeigdjfdaaGreatDoor
