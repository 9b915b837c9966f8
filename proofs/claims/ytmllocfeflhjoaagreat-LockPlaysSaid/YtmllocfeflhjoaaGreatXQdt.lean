import Derived.Test.YtmllocfeflhjoaaGreatXQdr
import Derived.Test.YtmllocfeflhjoaaGreatXTdi
import Derived.Laws.OwnMore
namespace Go.Proofs.YtmllocfeflhjoaaGreat
open Go.RowKit Go.Maps Go.Shelf Go.Sort
open Go.Proofs.YtmllocfeflhjoaaGreat.St (Fx Fz iQ iP iV)
set_option linter.unusedVariables false
set_option linter.unusedSimpArgs false
set_option maxRecDepth 100000
set_option maxHeartbeats 8000000
theorem run_append_row19 {P : Program} (w : World) (base b2 : Nat) (t ty e : TypeId) (i : TypeInfo) (z : Value) (k bytes : Nat) (ht : P.underlying t = some (.slice e)) (hi : P.info? e = some i) (hz : i.zero = some z)
    (hsize : i.size = k) (hby : i.bytes = bytes) (hzs : z.cells.size = k) (hk : 0 < k) (v u : Value) (n m : Nat) (xs ys : List Value) (hown : w.ownsRow base e k v n xs) (hu : w.ownsRow b2 e k u m ys) (h1 : ∀ y ∈ ys, y.oneCell' = true)
    (h63 : n + m ≤ maxLen) (hbytes : (n + m) * bytes ≤ 140737488355328) (hbase : base ≤ w.heap.size) :
    ∃ v' w', (Builtin.append_ #[t, t] ty #[v, u]).run P w = .ok v' w' ∧ w'.ownsRow base e k v' (n + m) (xs ++ ys) ∧ w.grownBy w' v.ownBlock := by
  rcases hu.2 with ⟨rfl, rfl⟩ | ⟨g, cap, cur, rfl, _⟩
  · have hy : ys = [] := List.eq_nil_of_length_eq_zero (by have := hu.1; simpa using this)
    subst hy
    exact ⟨v, w, run_append_owned_none (P := P) w base t ty e i k ht hi v n xs hown, by simpa using hown, grown_refl _ _⟩
  · obtain ⟨v', w', hr, h2, h3, _⟩ := run_append_own (P := P) w base t ty e i z k bytes ht hi hz hsize hby hzs hk v n xs hown ⟨g, 0, none⟩ m cap ys hu.1 (hu.cells rfl) h1 h63 hbytes hbase
    exact ⟨v', w', hr, h2, h3⟩
theorem step_append_row19 {P : Program} {ops : Array Oper} {o : Oper} {a : Act} {w : World} {K : Act → World → Prop} {Q : Exit → Act → World → Prop} {E : Prop} (hgd : o.guard = none) (s x : Operand) (t : TypeId)
    (ho : o.op = .call { callee := .builtin .append, args := #[s, x], argTypes := #[t, t] })
    (base b2 : Nat) (e : TypeId) (i : TypeInfo) (z : Value) (k bytes : Nat) (ht : P.underlying t = some (.slice e)) (hi : P.info? e = some i) (hz : i.zero = some z)
    (hsize : i.size = k) (hby : i.bytes = bytes) (hzs : z.cells.size = k) (hk : 0 < k) (v u : Value) (n m : Nat) (xs ys : List Value) (hs : a.eval s = v) (hx : a.eval x = u) (hown : w.ownsRow base e k v n xs) (hu : w.ownsRow b2 e k u m ys) (h1 : ∀ y ∈ ys, y.oneCell' = true)
    (h63 : n + m ≤ maxLen) (hbytes : (n + m) * bytes ≤ 140737488355328) (hbase : base ≤ w.heap.size)
    (h : ∀ v' w', w'.ownsRow base e k v' (n + m) (xs ++ ys) → w.grownBy w' v.ownBlock → K (a.put o.dst v') w') :
    if Region.wanted o (yielded ops a.tmps) = true then Oper.wp P o a w K Q else E := by
  have hw : Region.wanted o (yielded ops a.tmps) = true := by simp [Region.wanted, hgd]
  rw [if_pos hw]
  obtain ⟨v', w', hr, h2, h3⟩ := run_append_row19 (P := P) w base b2 t o.type e i z k bytes ht hi hz hsize hby hzs hk v u n m xs ys hown hu h1 h63 hbytes hbase
  unfold Oper.wp
  simp [execOp, ho, resolve, invoke, builtin, hs, hx, hr, Result.andThen]
  exact h v' w' h2 h3
structure Gl (W w : World) (tb : Tb) (v : Ts) (C : Nat) (u0 u1 : Value) (n0 n1 : Nat) (r0 r1 : List Value) (g : Gt) : Prop where
  o : w.heap[C]? = some (.cells (dC tb v u0 u1 g) 82)
  b : Below W.heap.size W w
  k : W.heap.size ≤ C
  p0 : w.ownsRow (C + 1) 134 3 u0 n0 r0
  p1 : w.ownsRow (C + 1) 4 1 u1 n1 r1
section
variable {W w w' : World} {tb : Tb} {v : Ts} {C : Nat} {u0 u1 u : Value} {n0 n1 n : Nat} {r0 r1 r : List Value} {g : Gt}
theorem Gl.cells (h : Gl W w tb v C u0 u1 n0 n1 r0 r1 g) : w.cell? ⟨C, 13, none⟩ = some u0 ∧ w.cell? ⟨C, 14, none⟩ = some u1 := by
  refine ⟨?_, ?_⟩ <;> (rw [cell_of_row w C _ _ _ (0, 0) h.o]; rfl)
theorem Gl.mid0 (h : Gl W w tb v C u0 u1 n0 n1 r0 r1 g) (hf : Fz (fun x => u0.ownBlock = some x) w w') : w'.heap[C]? = some (.cells (dC tb v u0 u1 g) 82) := hf.heap h.o (fun e => by have := (h.p0.lt C e).1; omega)
theorem Gl.mid1 (h : Gl W w tb v C u0 u1 n0 n1 r0 r1 g) (hf : Fz (fun x => u1.ownBlock = some x) w w') : w'.heap[C]? = some (.cells (dC tb v u0 u1 g) 82) := hf.heap h.o (fun e => by have := (h.p1.lt C e).1; omega)
theorem Gl.put0 (h : Gl W w tb v C u0 u1 n0 n1 r0 r1 g) (hf : Fz (fun x => u0.ownBlock = some x) w w') (hv : w'.ownsRow (C + 1) 134 3 u n r) : Gl W (w'.setCell ⟨C, 13, none⟩ u) tb v C u u1 n n1 r r1 g := by
  have hk := h.k
  have fs := fz_set w' C 13 u
  have b1 := h.b.trans (hf.below h.b.size (fun x e => by have := (h.p0.lt x e).1; omega))
  exact ⟨heap_setCell_same w' C 13 _ _ u (h.mid0 hf), b1.trans (fs.below b1.size (fun x e => by omega)), hk, fs.own hv (fun b e e2 => by have := (hv.lt b e).1; omega), fs.own (hf.own h.p1 (fun b e e2 => own_ne19 h.p1 h.p0 (by decide) e e2)) (fun b e e2 => by have := (h.p1.lt b e).1; omega)⟩
theorem Gl.put1 (h : Gl W w tb v C u0 u1 n0 n1 r0 r1 g) (hf : Fz (fun x => u1.ownBlock = some x) w w') (hv : w'.ownsRow (C + 1) 4 1 u n r) : Gl W (w'.setCell ⟨C, 14, none⟩ u) tb v C u0 u n0 n r0 r g := by
  have hk := h.k
  have fs := fz_set w' C 14 u
  have b1 := h.b.trans (hf.below h.b.size (fun x e => by have := (h.p1.lt x e).1; omega))
  exact ⟨heap_setCell_same w' C 14 _ _ u (h.mid1 hf), b1.trans (fs.below b1.size (fun x e => by omega)), hk, fs.own (hf.own h.p0 (fun b e e2 => own_ne19 h.p0 h.p1 (by decide) e e2)) (fun b e e2 => by have := (h.p0.lt b e).1; omega), fs.own hv (fun b e e2 => by have := (hv.lt b e).1; omega)⟩
theorem Gl.mk0 (W : World) (tb : Tb) (v : Ts) (g : Gt) : Gl W (W.alloc (.cells (dC tb v (.slice none 0 0) (.slice none 0 0) g) 82)).drew tb v W.heap.size (.slice none 0 0) (.slice none 0 0) 0 0 [] [] g :=
  ⟨heap_alloc_new W _, (below_alloc W _).drew, Nat.le_refl _, World.ownsRow_nil _ _ _ _, World.ownsRow_nil _ _ _ _⟩
theorem Gl.fin {W0 : World} {L : Tks} {i : List Bool} {P : Nat} {a b : Value} (h : Gl W w tb v C u0 u1 L.length i.length (flT L) (i.map .bool) g) (d : Dl W0 W tb v P a b L i g) : Dl W0 w tb v C u0 u1 L i g ∧ ∀ x, Dm C u0 u1 x → W.heap.size ≤ x := by
  have hk := h.k
  have hl := d.lo.size
  refine ⟨⟨h.o, d.t0, d.lo.trans (h.b.mono hl), by omega, d.tk, own_down19 (by omega) h.p0, own_down19 (by omega) h.p1, d.n, d.m⟩, ?_⟩
  rintro x (e | e | e)
  · omega
  · have := (h.p0.lt x e).1; omega
  · have := (h.p1.lt x e).1; omega
end
theorem bl_one19 (i : List Bool) : ∀ u ∈ i.map Value.bool, u.oneCell' = true := by
  intro u hu
  obtain ⟨x, -, rfl⟩ := List.mem_map.1 hu
  rfl
section
variable {W0 w w' : World} {tb : Tb} {v : Ts} {P : Nat} {a b : Value} {L : Tks} {i : List Bool} {g : Gt}
theorem dCopy (h : Dl W0 w tb v P a b L i g) : Calls Tryz.prog 10 #[lp P] w fun e w' => ∃ C a' b', e = .returned (lp C) ∧ Dl W0 w' tb v C a' b' L i g ∧ (∀ x, Dm C a' b' x → w.heap.size ≤ x) ∧ Below w.heap.size w w' := by
  obtain ⟨i0, hi0, hz0, hz1, hz2⟩ := info_parts tinfo19
  obtain ⟨ib, hib, hb0, hb1, hb2⟩ := info_parts binfo19
  have HH : Hid (Dl W0 w tb v P a b L i g) := h
  have hl : L.length ≤ 65 := h.m
  have hn : i.length ≤ 256 := by have := h.n; have := h.tk.tasks; omega
  obtain ⟨aq, cq, rfl⟩ := own_slk19 h.q
  obtain ⟨ar, cr, rfl⟩ := own_slk19 h.r
  have cc := fun j => cell_of_row _ _ j _ _ (0, 0) h.o
  have k0 : w.cell? ⟨P, 0, none⟩ = some (I tb.uses) := cc 0
  have k1 : w.cell? ⟨P, 1, none⟩ = some (I tb.modes) := cc 1
  have k2 : w.cell? ⟨P, 2, none⟩ = some (.slice v.t.a v.t.n v.t.c) := cc 2
  have k3 : w.cell? ⟨P, 3, none⟩ = some (.slice v.g.a v.g.n v.g.c) := cc 3
  have k4 : w.cell? ⟨P, 4, none⟩ = some (.slice v.r.a v.r.n v.r.c) := cc 4
  have k5 : w.cell? ⟨P, 5, none⟩ = some (.slice v.k.a v.k.n v.k.c) := cc 5
  have k6 : w.cell? ⟨P, 6, none⟩ = some (.slice v.a.a v.a.n v.a.c) := cc 6
  have k7 : w.cell? ⟨P, 7, none⟩ = some (.slice v.i.a v.i.n v.i.c) := cc 7
  have k8 : w.cell? ⟨P, 8, none⟩ = some (.slice v.s.a v.s.n v.s.c) := cc 8
  have k9 : w.cell? ⟨P, 9, none⟩ = some (I tb.depth) := cc 9
  have k10 : w.cell? ⟨P, 10, none⟩ = some (I tb.frames) := cc 10
  have k11 : w.cell? ⟨P, 11, none⟩ = some (I tb.errors) := cc 11
  have k12 : w.cell? ⟨P, 12, none⟩ = some (I tb.calls) := cc 12
  have k15 : w.cell? ⟨P, 15, none⟩ = some (.bool g.shut) := cc 15
  have k16 : w.cell? ⟨P, 16, none⟩ = some (I g.all) := cc 16
  have k17 : w.cell? ⟨P, 17, none⟩ = some (I g.os) := cc 17
  clear h cc
  go_enter Tryz.func10, Tryz.ntmps10
  go_upto_region 1 with (first | fail)
  go_cut [3] from 4 (fun s3 wx => s3 = lp w.heap.size ∧ Hid (Gl w wx tb v w.heap.size (.slice none 0 0) (.slice none 0 0) 0 0 [] [] g))
  case first =>
    go_region_law (first | fail)
    all_goals
      go_wp2
      go_meet
      case rel => exact ⟨rfl, Gl.mk0 w tb v g⟩
  clear k0 k1 k2 k3 k4 k5 k6 k7 k8 k9 k10 k11 k12 k15 k16 k17
  obtain ⟨rfl, HY⟩ := hcut
  have Y0 := HY.out
  clear HY
  go_upto_region 2 with (first | fail)
  have K0 := HH.out.below Y0.b
  obtain ⟨-, -, -, z1, z2, -, -, -⟩ := K0.cells
  obtain ⟨e1, e2⟩ := Y0.cells
  have HS : Hid (w.heap.size + 1 ≤ wc.heap.size) := heap_lt Y0.o
  have Kd := K0.below ((Below.refl _ wc).drew)
  go_cut [3] from 4 (fun s3 wx => s3 = lp w.heap.size ∧ ∃ (a0 : Option Addr) (k0 : Nat), Hid (Gl w wx tb v w.heap.size (.slice a0 L.length k0) (.slice none 0 0) L.length 0 (flT L) [] g))
  case first =>
    go_region_law (first
      | (refine step_append_row19 rfl (.tmp 18) (.tmp 22) 80 rfl (w.heap.size + 1) W0.heap.size 134 i0 (.agg #[.bool false, .int .i64 0, .int .i64 0]) 3 24 Tryz.underlying80 hi0 hz0 hz1 hz2 rfl (by decide) (.slice none 0 0) (.slice aq L.length cq) 0 L.length [] (flT L) (by simp [Act.eval, Act.put]) (by simp [Act.eval, Act.put]) (World.ownsRow_nil _ _ _ _) Kd.q (flT_one L) (by unfold maxLen; omega) (by omega) HS.out ?_; intro v4 w4 h4 hg4; rw [Nat.zero_add, List.nil_append] at h4; obtain ⟨a4, k4, rfl⟩ := own_slk19 h4; have F4 : Fz (fun x => (Value.slice none 0 0).ownBlock = some x) wc w4 := ((Fz.refl _ wc).drewN 1).trans (fz_own19 hg4); have y1 := Y0.put0 F4 h4; have hq := Y0.mid0 F4; have q1 : w4.frozen? ⟨w.heap.size, 13, none⟩ = false := frozen_of_row w4 _ _ _ _ hq; have q2 : w4.cell? ⟨w.heap.size, 13, none⟩ = some (.slice none 0 0) := (by rw [cell_of_row w4 _ _ _ _ (0, 0) hq]; rfl)))
    all_goals
      go_wp2
      go_meet
      case rel => exact ⟨rfl, a4, k4, y1⟩
  obtain ⟨rfl, a0, k0, HY⟩ := hcut
  have Y1 := HY.out
  clear HY e1 e2 z1 z2 Kd K0 Y0 HS
  go_upto_region 3 with (first | fail)
  have K1 := HH.out.below Y1.b
  obtain ⟨-, -, -, z1, z2, -, -, -⟩ := K1.cells
  obtain ⟨e1, e2⟩ := Y1.cells
  have HS : Hid (w.heap.size + 1 ≤ wc.heap.size) := heap_lt Y1.o
  have Kd := K1.below ((Below.refl _ wc).drew)
  go_cut [3] from 4 (fun s3 wx => s3 = lp w.heap.size ∧ ∃ (a0 : Option Addr) (k0 : Nat) (a1 : Option Addr) (k1 : Nat), Hid (Gl w wx tb v w.heap.size (.slice a0 L.length k0) (.slice a1 i.length k1) L.length i.length (flT L) (i.map .bool) g))
  case first =>
    go_region_law (first
      | (refine step_append_row19 rfl (.tmp 30) (.tmp 34) 79 rfl (w.heap.size + 1) W0.heap.size 4 ib (.bool false) 1 1 Tryz.underlying79 hib hb0 hb1 hb2 rfl (by decide) (.slice none 0 0) (.slice ar i.length cr) 0 i.length [] (i.map .bool) (by simp [Act.eval, Act.put]) (by simp [Act.eval, Act.put]) (World.ownsRow_nil _ _ _ _) Kd.r (bl_one19 i) (by unfold maxLen; omega) (by omega) HS.out ?_; intro v4 w4 h4 hg4; rw [Nat.zero_add, List.nil_append] at h4; obtain ⟨a4, k4, rfl⟩ := own_slk19 h4; have F4 : Fz (fun x => (Value.slice none 0 0).ownBlock = some x) wc w4 := ((Fz.refl _ wc).drewN 1).trans (fz_own19 hg4); have y1 := Y1.put1 F4 h4; have hq := Y1.mid1 F4; have q1 : w4.frozen? ⟨w.heap.size, 14, none⟩ = false := frozen_of_row w4 _ _ _ _ hq; have q2 : w4.cell? ⟨w.heap.size, 14, none⟩ = some (.slice none 0 0) := (by rw [cell_of_row w4 _ _ _ _ (0, 0) hq]; rfl)))
    all_goals
      go_wp2
      go_meet
      case rel => exact ⟨rfl, a0, k0, a4, k4, y1⟩
  obtain ⟨rfl, a0, k0, a1, k1, HY⟩ := hcut
  clear e1 e2 z1 z2 Kd K1 Y1 HS
  go_wp2
  go_ret
  obtain ⟨f1, f2⟩ := HY.out.fin HH.out
  exact ⟨_, _, _, rfl, f1, f2, HY.out.b⟩
end
end Go.Proofs.YtmllocfeflhjoaaGreat

namespace Go.Proofs.YtmllocfeflhjoaaGreat
open Go.RowKit Go.Maps Go.Shelf Go.Sort
open Go.Proofs.YtmllocfeflhjoaaGreat.St (Fx Fz iQ iP iV)
set_option linter.unusedVariables false
set_option linter.unusedSimpArgs false
set_option maxRecDepth 100000
set_option maxHeartbeats 8000000
/-- the law's ints, of two rows alike -/
theorem ints_same (w : World) (b1 b2 : Nat) (u1 u2 : Value) (l : List Int) (hl : l.length ≤ 65) (h1 : w.ownsRow b1 3 1 u1 l.length (iV l)) (h2 : w.ownsRow b2 3 1 u2 l.length (iV l)) : Calls Tryz.prog 50 #[u1, u2] w fun e w' => e = .returned (.bool true) ∧ Below w.heap.size w w' := by
  obtain ⟨a1, c1, rfl⟩ := own_slk19 h1
  obtain ⟨a2, c2, rfl⟩ := own_slk19 h2
  have H1 : Hid (∀ (k : Nat) (x : Int), l[k]? = some x → ∃ g, a1 = some ⟨g, 0, none⟩ ∧ ∀ n, (w.drewN n).cell? ⟨g, k, none⟩ = some (I x)) := fun k x hx => by
    obtain ⟨g, c, e⟩ := own_some19 h1 (by have := (List.getElem?_eq_some_iff.1 hx).1; omega)
    cases e
    refine ⟨g, rfl, fun n => ?_⟩
    have := h1.cells rfl k (I x) (by simp [iV, hx])
    rw [St.addr_add, Nat.zero_add] at this
    exact this
  have H2 : Hid (∀ (k : Nat) (x : Int), l[k]? = some x → ∃ g, a2 = some ⟨g, 0, none⟩ ∧ ∀ n, (w.drewN n).cell? ⟨g, k, none⟩ = some (I x)) := fun k x hx => by
    obtain ⟨g, c, e⟩ := own_some19 h2 (by have := (List.getElem?_eq_some_iff.1 hx).1; omega)
    cases e
    refine ⟨g, rfl, fun n => ?_⟩
    have := h2.cells rfl k (I x) (by simp [iV, hx])
    rw [St.addr_add, Nat.zero_add] at this
    exact this
  clear h1 h2
  go_enter Tryz.func50, Tryz.ntmps50
  go_wp2
  go_loopw [5] (fun v5 wr => ∃ k n : Nat, k ≤ l.length ∧ v5 = I k ∧ wr = w.drewN n) (fun v5 _ => l.length - (intOf v5).toNat)
  case atStart => exact ⟨0, 0, by omega, rfl, rfl⟩
  case round =>
    obtain ⟨k, n, hk, rfl, rfl⟩ := hrel
    by_cases hlt : k < l.length
    · have hltI : (k : Int) < l.length := by omega
      obtain ⟨x, hx⟩ : ∃ x, l[k]? = some x := ⟨_, List.getElem?_eq_getElem hlt⟩
      obtain ⟨g1, rfl, y1⟩ := H1.out k x hx
      obtain ⟨g2, rfl, y2⟩ := H2.out k x hx
      have z1 := y1 n
      have z2 := y2 n
      have HG : Hid (∀ m, ∃ m', (w.drewN n).drewN m = w.drewN m') := fun m => ⟨_, St.drewN_add _ _ _⟩
      clear y1 y2 hx
      generalize w.drewN n = w2 at *
      go_upto_region 6 with fail
      go_quiet (fail)
      go_wp2
      go_roundw
      case rel =>
        obtain ⟨m', hm⟩ := HG.out nq
        exact ⟨k + 1, m', by omega, by go_num, hm⟩
      case measure => simp [intOf]; omega
    · obtain rfl : k = l.length := by omega
      have hge : ¬ ((l.length : Int) < l.length) := by omega
      go_wp2
      go_ret
      exact ⟨rfl, St.below_drewN _ (Below.refl _ _)⟩
end Go.Proofs.YtmllocfeflhjoaaGreat

namespace Go.Proofs.YtmllocfeflhjoaaGreat
open Go.RowKit Go.Maps Go.Shelf Go.Sort
open Go.Proofs.YtmllocfeflhjoaaGreat.St (Fx Fz iQ iP iV)
set_option linter.unusedVariables false
set_option linter.unusedSimpArgs false
set_option maxRecDepth 100000
set_option maxHeartbeats 8000000
theorem cell_one19 (w : World) (a : Value) (t : TypeId) : ∀ (j : Nat) (u : Value), [a][j]? = some u → (w.alloc (.cells #[a] t)).cell? ((⟨w.heap.size, 0, none⟩ : Addr).add j) = some u := by
  intro j u hu
  rw [St.addr_add, cell_of_row _ _ _ _ _ (0, 0) (heap_alloc_new w _)]
  match j, hu with
  | 0, hu => cases hu; rfl
theorem eql_gate19 (w : World) (g : Gt) : (binOp .eql 25 (.agg #[.bool g.shut, I g.all, I g.os]) (.agg #[.bool g.shut, I g.all, I g.os])).run Tryz.prog w = .ok (.bool true) w := by
  obtain ⟨b, n, m⟩ := g
  simp [go_sem]
/-- what is told alike, of an owner and a number -/
structure Tl (w : World) (B P : Nat) (o : Own) (n : Int) (l : List Int) (q : Own) (ok : Bool) (p : Int) (hs tk : Bool) (g : Gt) : Prop where
  held : ∀ Z, Below w.heap.size w Z → Calls Tryz.prog 19 #[lp B, .agg #[.bool o.isr, I o.id]] Z fun e w' => ∃ u, e = .returned u ∧ w'.ownsRow Z.heap.size 3 1 u l.length (iV l) ∧ Below Z.heap.size Z w'
  dheld : ∀ Z, Below w.heap.size w Z → Calls Tryz.prog 51 #[lp P, .agg #[.bool o.isr, I o.id]] Z fun e w' => ∃ u, e = .returned u ∧ w'.ownsRow Z.heap.size 3 1 u l.length (iV l) ∧ Below Z.heap.size Z w'
  hold : ∀ Z, Below w.heap.size w Z → Calls Tryz.prog 18 #[lp B, I n] Z fun e w' => e = .returned (.tuple #[.agg #[.bool q.isr, I q.id], .bool ok]) ∧ Below Z.heap.size Z w'
  dhold : ∀ Z, Below w.heap.size w Z → Calls Tryz.prog 52 #[lp P, I n] Z fun e w' => e = .returned (.tuple #[.agg #[.bool q.isr, I q.id], .bool ok]) ∧ Below Z.heap.size Z w'
  prio : ∀ Z, Below w.heap.size w Z → Calls Tryz.prog 20 #[lp B, .agg #[.bool o.isr, I o.id]] Z fun e w' => e = .returned (I p) ∧ Below Z.heap.size Z w'
  dprio : ∀ Z, Below w.heap.size w Z → Calls Tryz.prog 53 #[lp P, .agg #[.bool o.isr, I o.id]] Z fun e w' => e = .returned (I p) ∧ Below Z.heap.size Z w'
  has : ∀ Z, Below w.heap.size w Z → Calls Tryz.prog 21 #[lp B, I n] Z fun e w' => e = .returned (.bool hs) ∧ Below Z.heap.size Z w'
  dhas : ∀ Z, Below w.heap.size w Z → Calls Tryz.prog 54 #[lp P, I n] Z fun e w' => e = .returned (.bool hs) ∧ Below Z.heap.size Z w'
  take : ∀ Z, Below w.heap.size w Z → Calls Tryz.prog 22 #[lp B, I n] Z fun e w' => e = .returned (.bool tk) ∧ Below Z.heap.size Z w'
  dtake : ∀ Z, Below w.heap.size w Z → Calls Tryz.prog 55 #[lp P, I n] Z fun e w' => e = .returned (.bool tk) ∧ Below Z.heap.size Z w'
  gate : ∀ Z, Below w.heap.size w Z → Calls Tryz.prog 23 #[lp B] Z fun e w' => e = .returned (.agg #[.bool g.shut, I g.all, I g.os]) ∧ Below Z.heap.size Z w'
  cell : ∀ Z, Below w.heap.size w Z → Z.cell? ⟨P, 15, none⟩ = some (.bool g.shut) ∧ Z.cell? ⟨P, 16, none⟩ = some (I g.all) ∧ Z.cell? ⟨P, 17, none⟩ = some (I g.os)
  len : l.length ≤ 65
theorem tells_gen {w : World} {B P : Nat} {o : Own} {n : Int} {l : List Int} {q : Own} {ok : Bool} {p : Int} {hs tk : Bool} {g : Gt} (h : Tl w B P o n l q ok p hs tk g) : Calls Tryz.prog 15 #[lp B, lp P, .agg #[.bool o.isr, I o.id], I n] w fun e w' => e = .returned (.bool true) ∧ Below w.heap.size w w' := by
  obtain ⟨ii, hii, hi0, hi1, hi2⟩ := info_parts iinfo9
  have HT : Hid (Tl w B P o n l q ok p hs tk g) := h
  have hl := h.len
  have hb := below_alloc w (.cells #[.bool o.isr, I o.id] 23)
  obtain ⟨y0, y1⟩ := box_own w o
  have h1 := h.held _ hb
  have HB : Hid (Below w.heap.size w (w.alloc (.cells #[.bool o.isr, I o.id] 23)) ∧ w.heap.size < (w.alloc (.cells #[.bool o.isr, I o.id] 23)).heap.size) := ⟨hb, by simp⟩
  clear h hb
  go_enter Tryz.func15, Tryz.ntmps15
  go_upto_region 1 with fail
  generalize w.alloc (.cells #[.bool o.isr, I o.id] 23) = w1 at *
  generalize hXe : w.heap.size = X at *
  have HXE : Hid (w.heap.size = X) := hXe
  clear hXe
  have HH : Hid (∀ W, Below w1.heap.size w1 W → Below w.heap.size w W ∧ W.cell? ⟨X, 0, none⟩ = some (.bool o.isr) ∧ W.cell? ⟨X, 1, none⟩ = some (I o.id)) := fun W hW => ⟨by rw [HXE.out]; exact HB.out.1.trans (hW.mono (Nat.le_of_lt HB.out.2)), (cell_below hW _ _ HB.out.2).trans y0, (cell_below hW _ _ HB.out.2).trans y1⟩
  go_upto_region 2 with (first | (go_at_call 19; refine h1.mono ?_; clear h1; rintro e w2 ⟨u1, rfl, o2, b2⟩))
  clear y0 y1
  obtain ⟨a2, c2, rfl⟩ := own_slk19 o2
  obtain ⟨bw2, y0, y1⟩ := HH.out _ b2
  have h2 := HT.out.dheld _ bw2
  have H2 : Hid (w2.ownsRow w1.heap.size 3 1 (.slice a2 l.length c2) l.length (iV l) ∧ Below w1.heap.size w1 w2) := ⟨o2, b2⟩
  clear o2 b2 bw2
  go_upto_region 3 with (first
    | (go_at_call 51; refine h2.mono ?_; clear h2; rintro e w3 ⟨u3, rfl, o3, b3⟩; have h3 := ints_same w3 _ _ _ _ l hl (own_below H2.out.1 b3) o3; have H3 : Hid (w3.ownsRow w1.heap.size 3 1 (.slice a2 l.length c2) l.length (iV l) ∧ Below w1.heap.size w1 w3) := ⟨own_below H2.out.1 b3, H2.out.2.trans (b3.mono H2.out.2.size)⟩; clear o3 b3 H2)
    | (go_at_call 50; refine h3.mono ?_; clear h3; rintro e w4 ⟨rfl, b4⟩; have H4 : Hid (w4.ownsRow w1.heap.size 3 1 (.slice a2 l.length c2) l.length (iV l) ∧ Below w1.heap.size w1 w4) := ⟨own_below H3.out.1 b4, H3.out.2.trans (b4.mono H3.out.2.size)⟩; clear b4 H3))
  clear y0 y1
  go_wp2
  go_loopw [11] (fun v11 wr => ∃ (k : Nat) (xs : List Value), k ≤ l.length ∧ v11 = I k ∧ Hid (wr.ownsRow w1.heap.size 3 1 (.slice a2 l.length c2) l.length xs ∧ Below w1.heap.size w1 wr)) (fun v11 _ => l.length - (intOf v11).toNat)
  case atStart => exact ⟨0, _, by omega, rfl, H4.out⟩
  case round =>
    clear H4
    obtain ⟨k, xs, hk, rfl, HK⟩ := hrel
    by_cases hlt : k < l.length
    · have hltI : (k : Int) < l.length := by omega
      obtain ⟨g3, c3, e3⟩ := own_some19 HK.out.1 (by omega)
      cases e3
      obtain ⟨u0, hu0⟩ : ∃ u0, xs[k]? = some u0 := ⟨_, List.getElem?_eq_getElem (by have := HK.out.1.1; omega)⟩
      have z1 : wr.cell? ⟨g3, k, none⟩ = some u0 := by rw [HK.out.1.cellAt k (by omega)]; exact hu0
      have z2 := HK.out.1.frozenAt k
      have hg3 := (HK.out.1.lt g3 rfl).1
      have H9 : Hid ((wr.setCell ⟨g3, k, none⟩ (I (-9))).ownsRow w1.heap.size 3 1 (.slice (some ⟨g3, 0, none⟩) l.length c2) l.length (xs.set k (I (-9))) ∧ Below w1.heap.size w1 (wr.setCell ⟨g3, k, none⟩ (I (-9)))) := ⟨(HK.out.1.stored k (I (-9))).1, HK.out.2.trans ((fz_set wr g3 k _).below HK.out.2.size (fun b e => by omega))⟩
      clear HK hu0
      go_wp2
      go_roundw
      case rel => exact ⟨k + 1, _, by omega, by go_num, H9.out⟩
      case measure => simp [intOf]; omega
    · obtain rfl : k = l.length := by omega
      have hge : ¬ ((l.length : Int) < l.length) := by omega
      go_upto_region 7 with fail
      clear hge hlt hk
      go_wp2
      go_loopw [9, 12] (fun v9 v12 wr => ∃ (k : Nat) (xs : List Value), k ≤ 20 ∧ v12 = I k ∧ Hid (wr.ownsRow w1.heap.size 3 1 v9 (l.length + k) xs ∧ Below w1.heap.size w1 wr)) (fun _ v12 _ => 20 - (intOf v12).toNat)
      case atStart => exact ⟨0, _, by omega, rfl, HK.out⟩
      case round =>
        clear HK
        obtain ⟨k, ys, hk, rfl, HJ⟩ := hrel
        by_cases hlt : k < 20
        · have hltI : (k : Int) < 20 := by omega
          go_wp2_with (first | (at_builtin; refine wpList_append_own _ rfl (.tmp 39) (.tmp 40) 65 rfl w1.heap.size 3 ii (.int .i64 0) 1 8 Tryz.underlying65 hii hi0 hi1 hi2 rfl (by decide) _ _ _ rfl (own_below HJ.out.1 (below_alloc _ _)) ⟨wr.heap.size, 0, none⟩ 1 1 [I (-9)] rfl rfl (cell_one19 _ _ _) (by simp [Value.oneCell']) (by unfold maxLen; omega) (by omega) (by have := HJ.out.2.size; simp; omega) ?_; intro v' w' hown' hgrow hnil; have HN : Hid (w'.ownsRow w1.heap.size 3 1 v' (l.length + k + 1) (ys ++ [I (-9)]) ∧ Below w1.heap.size w1 w') := ⟨hown', (HJ.out.2.trans ((below_alloc wr _).mono HJ.out.2.size)).grown hgrow (by have := HJ.out.2.size; simp; omega) (fun q e => (HJ.out.1.lt q e).1)⟩; clear hown' hgrow hnil HJ))
          go_roundw
          case rel => exact ⟨k + 1, _, by omega, by go_num, HN.out⟩
          case measure => simp [intOf]; omega
        · obtain rfl : k = 20 := by omega
          have B5 : Hid (Below w1.heap.size w1 wr) := HJ.out.2
          clear HJ hk hlt
          go_upto_region 11 with fail
          obtain ⟨-, y0, y1⟩ := HH.out _ B5.out
          have hST : ∀ W, Below wr.heap.size wr W → W.cell? ⟨X, 0, none⟩ = some (.bool o.isr) ∧ W.cell? ⟨X, 1, none⟩ = some (I o.id) := fun W hW => (HH.out W (B5.out.trans (hW.mono B5.out.size))).2
          have hP : ∀ W, Below wr.heap.size wr W → Calls Tryz.prog 19 #[lp B, .agg #[.bool o.isr, I o.id]] W fun e w' => ∃ u, e = .returned u ∧ w'.ownsRow W.heap.size 3 1 u l.length (iV l) ∧ Below wr.heap.size wr w' := fun W hW => (HT.out.held W (HH.out W (B5.out.trans (hW.mono B5.out.size))).1).mono (by rintro e w' ⟨u, e1, e2, e3⟩; exact ⟨u, e1, e2, hW.trans (e3.mono hW.size)⟩)
          have hD : ∀ W, Below wr.heap.size wr W → Calls Tryz.prog 51 #[lp P, .agg #[.bool o.isr, I o.id]] W fun e w' => ∃ u, e = .returned u ∧ w'.ownsRow W.heap.size 3 1 u l.length (iV l) ∧ Below W.heap.size W w' ∧ Below wr.heap.size wr w' := fun W hW => (HT.out.dheld W (HH.out W (B5.out.trans (hW.mono B5.out.size))).1).mono (by rintro e w' ⟨u, e1, e2, e3⟩; exact ⟨u, e1, e2, e3, hW.trans (e3.mono hW.size)⟩)
          go_region_held_law (fun W => W.cell? ⟨X, 0, none⟩ = some (.bool o.isr) ∧ W.cell? ⟨X, 1, none⟩ = some (I o.id)) (first | exact ⟨y0, y1⟩ | exact k5 | exact k4 | exact k3 | (go_keep; done)) (first
            | (go_at_call 19; refine (hP _ (by first | exact (Below.refl _ _).drew | exact Below.refl _ _ | exact (Below.refl _ _).drew.drew)).mono ?_; rintro e w3 ⟨u3, rfl, o3, B3⟩; have k3 := hST w3 B3)
            | (go_at_call 51; refine (hD _ (by first | exact B3.drew | exact B3 | exact B3.drew.drew)).mono ?_; rintro e w4 ⟨u4, rfl, o4, b4, B4⟩; have k4 := hST w4 B4)
            | (go_at_call 50; refine (ints_same w4 _ _ _ _ l hl (own_below o3 b4) o4).mono ?_; rintro e w5 ⟨rfl, b5⟩; have B6 := B4.trans (b5.mono B4.size); have k5 := hST w5 B6))
          have B7 : Hid (Below w1.heap.size w1 w5) := B5.out.trans (B6.mono B5.out.size)
          rename_i hHeld
          clear hHeld y0 y1 hST hP hD k3 k4 k5 B3 B4 B5 B6 b4 b5 o3 o4
          have hHo := HT.out.hold w5 (HH.out _ B7.out).1
          go_upto_region 13 with (first | (go_at_call 18; refine hHo.mono ?_; clear hHo; rintro e w6 ⟨rfl, b6⟩; have B8 : Hid (Below w1.heap.size w1 w6) := B7.out.trans (b6.mono B7.out.size); clear B7 b6))
          have hb6 := below_alloc w6 (.cells #[.bool q.isr, I q.id] 23)
          obtain ⟨x0, x1⟩ := box_own w6 q
          have hlt6 : w6.heap.size < (w6.alloc (.cells #[.bool q.isr, I q.id] 23)).heap.size := by simp
          generalize w6.alloc (.cells #[.bool q.isr, I q.id] 23) = w7 at *
          have H7 : Hid (Below w1.heap.size w1 w7 ∧ w6.heap.size < w7.heap.size ∧ w7.cell? ⟨w6.heap.size, 0, none⟩ = some (.bool q.isr) ∧ w7.cell? ⟨w6.heap.size, 1, none⟩ = some (I q.id)) := ⟨B8.out.trans (hb6.mono B8.out.size), hlt6, x0, x1⟩
          generalize w6.heap.size = X1 at *
          have hHd := HT.out.dhold w7 (HH.out _ H7.out.1).1
          clear B8 hb6 hlt6 x0 x1
          go_upto_region 14 with (first | (go_at_call 52; refine hHd.mono ?_; clear hHd; rintro e w8 ⟨rfl, b8⟩))
          have hb8 := below_alloc w8 (.cells #[.bool q.isr, I q.id] 23)
          obtain ⟨x0, x1⟩ := box_own w8 q
          have hlt8 : w8.heap.size < (w8.alloc (.cells #[.bool q.isr, I q.id] 23)).heap.size := by simp
          generalize w8.alloc (.cells #[.bool q.isr, I q.id] 23) = w9 at *
          have B9 : Hid (Below w1.heap.size w1 w9) := H7.out.1.trans ((b8.trans (hb8.mono b8.size)).mono H7.out.1.size)
          have k7 := H7.out.2.1
          have H9 : Hid (w9.cell? ⟨X1, 0, none⟩ = some (.bool q.isr) ∧ w9.cell? ⟨X1, 1, none⟩ = some (I q.id) ∧ X1 < w9.heap.size) := ⟨(cell_below (b8.trans (hb8.mono b8.size)) _ _ k7).trans H7.out.2.2.1, (cell_below (b8.trans (hb8.mono b8.size)) _ _ k7).trans H7.out.2.2.2, by have := b8.size; have := hb8.size; omega⟩
          generalize w8.heap.size = X2 at *
          have hST : ∀ W, Below w9.heap.size w9 W → W.cell? ⟨X, 0, none⟩ = some (.bool o.isr) ∧ W.cell? ⟨X, 1, none⟩ = some (I o.id) ∧ W.cell? ⟨X1, 0, none⟩ = some (.bool q.isr) ∧ W.cell? ⟨X1, 1, none⟩ = some (I q.id) ∧ W.cell? ⟨X2, 0, none⟩ = some (.bool q.isr) ∧ W.cell? ⟨X2, 1, none⟩ = some (I q.id) ∧ W.cell? ⟨P, 15, none⟩ = some (.bool g.shut) ∧ W.cell? ⟨P, 16, none⟩ = some (I g.all) ∧ W.cell? ⟨P, 17, none⟩ = some (I g.os) := fun W hW => by
            obtain ⟨e1, e2, e3⟩ := HH.out W (B9.out.trans (hW.mono B9.out.size))
            obtain ⟨g1, g2, g3⟩ := HT.out.cell W e1
            exact ⟨e2, e3, (cell_below hW _ _ H9.out.2.2).trans H9.out.1, (cell_below hW _ _ H9.out.2.2).trans H9.out.2.1, (cell_below hW _ _ hlt8).trans x0, (cell_below hW _ _ hlt8).trans x1, g1, g2, g3⟩
          have hBW : ∀ W, Below w9.heap.size w9 W → Below w.heap.size w W := fun W hW => (HH.out W (B9.out.trans (hW.mono B9.out.size))).1
          clear b8 hb8 k7 H7
          have hE : ∀ w, (binOp .eql 23 (.agg #[.bool q.isr, I q.id]) (.agg #[.bool q.isr, I q.id])).run Tryz.prog w = .ok (.bool true) w := fun w => by rw [eql_own19, decide_eq_true rfl]
          have hE2 : ∀ w, (binOp .eql 25 (.agg #[.bool g.shut, I g.all, I g.os]) (.agg #[.bool g.shut, I g.all, I g.os])).run Tryz.prog w = .ok (.bool true) w := fun w => eql_gate19 w g
          obtain ⟨z0, z1, z2, z3, z4, z5, z6, z7, z8⟩ := hST w9 (Below.refl _ _)
          have c0 : ∀ W, Below w9.heap.size w9 W → Calls Tryz.prog 20 #[lp B, .agg #[.bool o.isr, I o.id]] W fun e w' => e = .returned (I p) ∧ Below w9.heap.size w9 w' := fun W hW => (HT.out.prio W (hBW W hW)).mono (by rintro e w' ⟨e1, e2⟩; exact ⟨e1, hW.trans (e2.mono hW.size)⟩)
          have c1 : ∀ W, Below w9.heap.size w9 W → Calls Tryz.prog 53 #[lp P, .agg #[.bool o.isr, I o.id]] W fun e w' => e = .returned (I p) ∧ Below w9.heap.size w9 w' := fun W hW => (HT.out.dprio W (hBW W hW)).mono (by rintro e w' ⟨e1, e2⟩; exact ⟨e1, hW.trans (e2.mono hW.size)⟩)
          have c2 : ∀ W, Below w9.heap.size w9 W → Calls Tryz.prog 21 #[lp B, I n] W fun e w' => e = .returned (.bool hs) ∧ Below w9.heap.size w9 w' := fun W hW => (HT.out.has W (hBW W hW)).mono (by rintro e w' ⟨e1, e2⟩; exact ⟨e1, hW.trans (e2.mono hW.size)⟩)
          have c3 : ∀ W, Below w9.heap.size w9 W → Calls Tryz.prog 54 #[lp P, I n] W fun e w' => e = .returned (.bool hs) ∧ Below w9.heap.size w9 w' := fun W hW => (HT.out.dhas W (hBW W hW)).mono (by rintro e w' ⟨e1, e2⟩; exact ⟨e1, hW.trans (e2.mono hW.size)⟩)
          have c4 : ∀ W, Below w9.heap.size w9 W → Calls Tryz.prog 22 #[lp B, I n] W fun e w' => e = .returned (.bool tk) ∧ Below w9.heap.size w9 w' := fun W hW => (HT.out.take W (hBW W hW)).mono (by rintro e w' ⟨e1, e2⟩; exact ⟨e1, hW.trans (e2.mono hW.size)⟩)
          have c5 : ∀ W, Below w9.heap.size w9 W → Calls Tryz.prog 55 #[lp P, I n] W fun e w' => e = .returned (.bool tk) ∧ Below w9.heap.size w9 w' := fun W hW => (HT.out.dtake W (hBW W hW)).mono (by rintro e w' ⟨e1, e2⟩; exact ⟨e1, hW.trans (e2.mono hW.size)⟩)
          have c6 : ∀ W, Below w9.heap.size w9 W → Calls Tryz.prog 23 #[lp B] W fun e w' => e = .returned (.agg #[.bool g.shut, I g.all, I g.os]) ∧ Below w9.heap.size w9 w' := fun W hW => (HT.out.gate W (hBW W hW)).mono (by rintro e w' ⟨e1, e2⟩; exact ⟨e1, hW.trans (e2.mono hW.size)⟩)
          go_region_held_law (fun W => W.cell? ⟨X, 0, none⟩ = some (.bool o.isr) ∧ W.cell? ⟨X, 1, none⟩ = some (I o.id) ∧ W.cell? ⟨X1, 0, none⟩ = some (.bool q.isr) ∧ W.cell? ⟨X1, 1, none⟩ = some (I q.id) ∧ W.cell? ⟨X2, 0, none⟩ = some (.bool q.isr) ∧ W.cell? ⟨X2, 1, none⟩ = some (I q.id) ∧ W.cell? ⟨P, 15, none⟩ = some (.bool g.shut) ∧ W.cell? ⟨P, 16, none⟩ = some (I g.all) ∧ W.cell? ⟨P, 17, none⟩ = some (I g.os)) (first | exact ⟨z0, z1, z2, z3, z4, z5, z6, z7, z8⟩ | exact k16 | exact k15 | exact k14 | exact k13 | exact k12 | exact k11 | exact k10 | (go_keep; done)) (first
            | (go_at_call 20; refine (c0 _ (by first | exact (Below.refl _ _).drew | exact Below.refl _ _ | exact (Below.refl _ _).drew.drew)).mono ?_; rintro e v0 ⟨rfl, D0⟩; have k10 := hST v0 D0)
            | (go_at_call 53; refine (c1 _ (by first | exact (D0).drew | exact D0 | exact (D0).drew.drew)).mono ?_; rintro e v1 ⟨rfl, D1⟩; have k11 := hST v1 D1)
            | (go_at_call 21; refine (c2 _ (by first | exact (D1).drew | exact D1 | exact (D1).drew.drew)).mono ?_; rintro e v2 ⟨rfl, D2⟩; have k12 := hST v2 D2)
            | (go_at_call 54; refine (c3 _ (by first | exact (D2).drew | exact D2 | exact (D2).drew.drew)).mono ?_; rintro e v3 ⟨rfl, D3⟩; have k13 := hST v3 D3)
            | (go_at_call 22; refine (c4 _ (by first | exact (D3).drew | exact D3 | exact (D3).drew.drew)).mono ?_; rintro e v4 ⟨rfl, D4⟩; have k14 := hST v4 D4)
            | (go_at_call 55; refine (c5 _ (by first | exact (D4).drew | exact D4 | exact (D4).drew.drew)).mono ?_; rintro e v5 ⟨rfl, D5⟩; have k15 := hST v5 D5)
            | (go_at_call 23; refine (c6 _ (by first | exact (D5).drew | exact D5 | exact (D5).drew.drew)).mono ?_; rintro e v6 ⟨rfl, D6⟩; have k16 := hST v6 D6))
          have HD : Hid (Below w.heap.size w v6) := hBW _ D6
          clear c0 c1 c2 c3 c4 c5 c6 z0 z1 z2 z3 z4 z5 z6 z7 z8 k10 k11 k12 k13 k14 k15 k16 hST hBW hE hE2
          go_wp2
          go_ret
          exact ⟨rfl, HD.out⟩
end Go.Proofs.YtmllocfeflhjoaaGreat

namespace Go.Proofs.YtmllocfeflhjoaaGreat
open Go.RowKit Go.Maps Go.Shelf Go.Sort
open Go.Proofs.YtmllocfeflhjoaaGreat.St (Fx Fz iQ iP iV)
set_option linter.unusedVariables false
set_option linter.unusedSimpArgs false
set_option maxRecDepth 100000
set_option maxHeartbeats 8000000
theorem make_bools (w : World) (n : Nat) (hn : n ≤ 256) : (Instr.makeSlice 79 (.int .i64 (n : Int)) (.int .i64 (n : Int))).run Tryz.prog w = .ok (.slice (some ⟨w.heap.size, 0, none⟩) n n) (w.alloc (.cells (madeCells #[.bool false] n) 4)) := by
  obtain ⟨ib, hib, hb0, hb1, hb2⟩ := info_parts binfo19
  have hr := run_make (P := Tryz.prog) w 79 4 ib (.bool false) Tryz.underlying79 hib hb0 .i64 .i64 n n (by omega) (Int.le_refl _) (by rw [hb2]; omega) (by omega)
  simp only [Int.toNat_natCast, hb1, Nat.mul_one] at hr
  exact hr
theorem dNew_no (w : World) (tb : Tb) (v : Ts) (h : TbAt w tb v) (hc : chkD tb = false) : Calls Tryz.prog 8 #[.agg (tbC tb v)] w fun e w' => e = .returned (.tuple #[.pointer none, I 190]) ∧ Below w.heap.size w w' := by
  have hb0 := below_alloc w (.cells (tbC tb v) 42)
  have hV := heap_alloc_new w (.cells (tbC tb v) 42)
  have hC := docCheck_any9 tb v _ (h.below hb0)
  rw [hc] at hC
  simp only [zOf] at hC
  obtain ⟨c0, c1, c2, c3, c4, c5, c6, c7, c8, c9, c10, c11, c12⟩ := var13 hV
  have HB : Hid (∀ w', Below (w.alloc (.cells (tbC tb v) 42)).heap.size (w.alloc (.cells (tbC tb v) 42)) w' → Below w.heap.size w w') := fun w' hb => hb0.trans (hb.mono hb0.size)
  unfold tbC at *
  clear h hV hb0 hc
  go_enter Tryz.func8, Tryz.ntmps8
  go_upto_region 1 with fail
  generalize w.alloc (.cells #[I tb.uses, I tb.modes, .slice v.t.a v.t.n v.t.c, .slice v.g.a v.g.n v.g.c, .slice v.r.a v.r.n v.r.c, .slice v.k.a v.k.n v.k.c, .slice v.a.a v.a.n v.a.c, .slice v.i.a v.i.n v.i.c, .slice v.s.a v.s.n v.s.c, I tb.depth, I tb.frames, I tb.errors, I tb.calls] 42) = w1 at *
  go_wp2_with (first | (go_at_call 34; refine hC.mono ?_; clear hC; rintro e w2 ⟨rfl, hb2⟩))
  go_ret2
  exact ⟨rfl, HB.out _ hb2⟩
theorem dNew_ok (w : World) (tb : Tb) (v : Ts) (h : TbAt w tb v) (hc : chkD tb = true) (ok : OKt tb) {W0 : World} (h0 : TbAt W0 tb v) (hb : Below W0.heap.size W0 w) : Calls Tryz.prog 8 #[.agg (tbC tb v)] w fun e w' => ∃ P b, e = .returned (.tuple #[lp P, I 0]) ∧ Dl W0 w' tb v P (.slice none 0 0) b [] (List.replicate tb.tasks.length false) ⟨false, 0, 0⟩ ∧ (∀ x, Dm P (.slice none 0 0) b x → w.heap.size ≤ x) ∧ Below w.heap.size w w' := by
  have hb0 := below_alloc w (.cells (tbC tb v) 42)
  have hV := heap_alloc_new w (.cells (tbC tb v) 42)
  have hC := docCheck_any9 tb v _ (h.below hb0)
  rw [hc] at hC
  simp only [zOf] at hC
  obtain ⟨c0, c1, c2, c3, c4, c5, c6, c7, c8, c9, c10, c11, c12⟩ := var13 hV
  have hn : v.t.n ≤ 256 := by have := h.t.n; have := ok.tasks; omega
  have HN : Hid (v.t.n = tb.tasks.length) := h.t.n
  have HB : Hid (∀ w', Below (w.alloc (.cells (tbC tb v) 42)).heap.size (w.alloc (.cells (tbC tb v) 42)) w' → Below w.heap.size w w' ∧ w'.heap[w.heap.size]? = some (.cells (tbC tb v) 42)) := fun w' hb => ⟨hb0.trans (hb.mono hb0.size), (hb.block _ (heap_lt hV)).trans hV⟩
  have H0 : Hid (TbAt W0 tb v ∧ Below W0.heap.size W0 w ∧ OKt tb) := ⟨h0, hb, ok⟩
  unfold tbC at *
  clear h hV hb0 hc ok h0 hb
  go_enter Tryz.func8, Tryz.ntmps8
  go_upto_region 1 with fail
  generalize w.alloc (.cells #[I tb.uses, I tb.modes, .slice v.t.a v.t.n v.t.c, .slice v.g.a v.g.n v.g.c, .slice v.r.a v.r.n v.r.c, .slice v.k.a v.k.n v.k.c, .slice v.a.a v.a.n v.a.c, .slice v.i.a v.i.n v.i.c, .slice v.s.a v.s.n v.s.c, I tb.depth, I tb.frames, I tb.errors, I tb.calls] 42) = w1 at *
  generalize hX : w.heap.size = X at *
  have HX : Hid (w.heap.size = X) := hX
  clear hX
  go_upto_region 3 with (first | (go_at_call 34; refine hC.mono ?_; clear hC; rintro e w2 ⟨rfl, hb2⟩))
  obtain ⟨bw, hV⟩ := HB.out _ hb2
  clear c0 c1 c2 c3 c4 c5 c6 c7 c8 c9 c10 c11 c12 HB
  obtain ⟨c0, c1, c2, c3, c4, c5, c6, c7, c8, c9, c10, c11, c12⟩ := var13 (tb := tb) (v := v) hV
  have hmk := fun w => make_bools w v.t.n hn
  have H13 : Hid (∀ W, Below w2.heap.size w2 W → W.cell? ⟨X, 0, none⟩ = some (I tb.uses) ∧ W.cell? ⟨X, 1, none⟩ = some (I tb.modes) ∧ W.cell? ⟨X, 2, none⟩ = some (.slice v.t.a v.t.n v.t.c) ∧ W.cell? ⟨X, 3, none⟩ = some (.slice v.g.a v.g.n v.g.c) ∧ W.cell? ⟨X, 4, none⟩ = some (.slice v.r.a v.r.n v.r.c) ∧ W.cell? ⟨X, 5, none⟩ = some (.slice v.k.a v.k.n v.k.c) ∧ W.cell? ⟨X, 6, none⟩ = some (.slice v.a.a v.a.n v.a.c) ∧ W.cell? ⟨X, 7, none⟩ = some (.slice v.i.a v.i.n v.i.c) ∧ W.cell? ⟨X, 8, none⟩ = some (.slice v.s.a v.s.n v.s.c) ∧ W.cell? ⟨X, 9, none⟩ = some (I tb.depth) ∧ W.cell? ⟨X, 10, none⟩ = some (I tb.frames) ∧ W.cell? ⟨X, 11, none⟩ = some (I tb.errors) ∧ W.cell? ⟨X, 12, none⟩ = some (I tb.calls)) := fun W hb => var13 (tb := tb) (v := v) ((hb.block X (heap_lt hV)).trans hV)
  have k3 := fun o => H13.out (w2.alloc o) (below_alloc w2 o)
  have HBW : Hid (Below X w w2 ∧ X < w2.heap.size) := ⟨bw, heap_lt hV⟩
  clear hV bw hb2
  go_region_held_law (fun W => W.cell? ⟨X, 0, none⟩ = some (I tb.uses) ∧ W.cell? ⟨X, 1, none⟩ = some (I tb.modes) ∧ W.cell? ⟨X, 2, none⟩ = some (.slice v.t.a v.t.n v.t.c) ∧ W.cell? ⟨X, 3, none⟩ = some (.slice v.g.a v.g.n v.g.c) ∧ W.cell? ⟨X, 4, none⟩ = some (.slice v.r.a v.r.n v.r.c) ∧ W.cell? ⟨X, 5, none⟩ = some (.slice v.k.a v.k.n v.k.c) ∧ W.cell? ⟨X, 6, none⟩ = some (.slice v.a.a v.a.n v.a.c) ∧ W.cell? ⟨X, 7, none⟩ = some (.slice v.i.a v.i.n v.i.c) ∧ W.cell? ⟨X, 8, none⟩ = some (.slice v.s.a v.s.n v.s.c) ∧ W.cell? ⟨X, 9, none⟩ = some (I tb.depth) ∧ W.cell? ⟨X, 10, none⟩ = some (I tb.frames) ∧ W.cell? ⟨X, 11, none⟩ = some (I tb.errors) ∧ W.cell? ⟨X, 12, none⟩ = some (I tb.calls)) (first | exact ⟨c0, c1, c2, c3, c4, c5, c6, c7, c8, c9, c10, c11, c12⟩ | exact k3 _ | (go_keep; done)) (fail)
  have F1 : Hid (∀ o2 : Obj, Below w2.heap.size w2 (((w2.alloc (.cells (madeCells #[.bool false] v.t.n) 4)).alloc o2).drew)) := fun o2 => (((Below.refl _ w2).alloc (Nat.le_refl _) _).alloc (by simp) _).drew
  have F2 : Hid (∀ o2 : Obj, (((w2.alloc (.cells (madeCells #[.bool false] v.t.n) 4)).alloc o2).drew).heap[w2.heap.size + 1]? = some o2) := fun o2 => by
    have := heap_alloc_new (w2.alloc (.cells (madeCells #[.bool false] v.t.n) 4)) o2
    rwa [World.size_alloc] at this
  clear c0 c1 c2 c3 c4 c5 c6 c7 c8 c9 c10 c11 c12 k3 hmk
  go_wp2
  go_ret2
  obtain ⟨t0, lo, ok⟩ := H0.out
  have hX := HX.out
  have hB := HBW.out.1
  have hlt := HBW.out.2
  have hs := lo.size
  have B1 : Below w.heap.size w w2 := by rw [hX]; exact hB
  have B2 := F1.out (.cells (dC tb v (.slice none 0 0) (.slice (some ⟨w2.heap.size, 0, none⟩) v.t.n v.t.n) ⟨false, 0, 0⟩) 82)
  have hr0 : (w2.alloc (.cells (madeCells #[.bool false] v.t.n) 4)).ownsRow W0.heap.size 4 1 (.slice (some ⟨w2.heap.size, 0, none⟩) v.t.n v.t.n) v.t.n (madeCells #[.bool false] v.t.n).toList := World.ownsRow_lit w2 _ v.t.n (by omega) (by unfold maxLen; omega) (by rw [Nat.mul_one]; exact size_madeCells _ _)
  have hr := own_below hr0 ((Below.refl _ (w2.alloc (.cells (madeCells #[.bool false] v.t.n) 4))).alloc (Nat.le_refl _) (.cells (dC tb v (.slice none 0 0) (.slice (some ⟨w2.heap.size, 0, none⟩) v.t.n v.t.n) ⟨false, 0, 0⟩) 82))
  have hmd := made_b19 v.t.n
  rw [Nat.mul_one, show (Value.bool false).cells = #[.bool false] from rfl] at hmd
  refine ⟨w2.heap.size + 1, _, rfl, ⟨F2.out _, t0, (lo.trans (B1.mono hs)).trans (B2.mono (by have := B1.size; omega)), by omega, ok, World.ownsRow_nil _ _ _ _, ?_, by simp, by simp⟩, ?_, B1.trans (B2.mono B1.size)⟩
  · rw [List.length_replicate, ← HN.out, ← hmd]
    exact hr
  · rintro x (e | e | e)
    · omega
    · cases e
    · have := ob_eq19 e; omega
end Go.Proofs.YtmllocfeflhjoaaGreat

