import Derived.Test.YthmecgfbapemjaaDoorDr
import Derived.Deep.CutBlock
import Derived.Laws.AppendOwnNone
namespace Go.Proofs.YthmecgfbapemjaaDoor
open Go.RowKit Go.Shelf Go.Sort
set_option linter.unusedVariables false
set_option linter.unusedSimpArgs false

/-! ### The document's New, Copy -/
theorem ginfo : (Tryd.prog.info? 38).map (fun i => (i.zero, i.size, i.bytes)) = some (some (.int .i64 0), 1, 8) := by kernel_rfl
theorem run_append_row {P : Program} (w : World) (base b2 : Nat) (t ty e : TypeId) (i : TypeInfo) (z : Value) (k bytes : Nat) (ht : P.underlying t = some (.slice e)) (hi : P.info? e = some i) (hz : i.zero = some z)
    (hsize : i.size = k) (hby : i.bytes = bytes) (hzs : z.cells.size = k) (hk : 0 < k) (v u : Value) (n m : Nat) (xs ys : List Value) (hown : w.ownsRow base e k v n xs) (hu : w.ownsRow b2 e k u m ys) (h1 : ∀ y ∈ ys, y.oneCell' = true)
    (h63 : n + m ≤ maxLen) (hbytes : (n + m) * bytes ≤ 140737488355328) (hbase : base ≤ w.heap.size) :
    ∃ v' w', (Builtin.append_ #[t, t] ty #[v, u]).run P w = .ok v' w' ∧ w'.ownsRow base e k v' (n + m) (xs ++ ys) ∧ w.grownBy w' v.ownBlock := by
  rcases hu.2 with ⟨rfl, rfl⟩ | ⟨g, cap, cur, rfl, _⟩
  · have hy : ys = [] := List.eq_nil_of_length_eq_zero (by have := hu.1; simpa using this)
    subst hy
    exact ⟨v, w, run_append_owned_none (P := P) w base t ty e i k ht hi v n xs hown, by simpa using hown, grown_refl _ _⟩
  · obtain ⟨v', w', hr, h2, h3, _⟩ := run_append_own (P := P) w base t ty e i z k bytes ht hi hz hsize hby hzs hk v n xs hown ⟨g, 0, none⟩ m cap ys hu.1 (hu.cells rfl) h1 h63 hbytes hbase
    exact ⟨v', w', hr, h2, h3⟩
theorem wpList_append_row {P : Program} (w : World) {ops : Array Oper} {rest : List Oper} {o : Oper} {a : Act} {Q : Exit → Act → World → Prop} (hgd : o.guard = none) (s x : Operand) (t : TypeId)
    (ho : o.op = .call { callee := .builtin .append, args := #[s, x], argTypes := #[t, t] })
    (base b2 : Nat) (e : TypeId) (i : TypeInfo) (z : Value) (k bytes : Nat) (ht : P.underlying t = some (.slice e)) (hi : P.info? e = some i) (hz : i.zero = some z)
    (hsize : i.size = k) (hby : i.bytes = bytes) (hzs : z.cells.size = k) (hk : 0 < k) (v u : Value) (n m : Nat) (xs ys : List Value) (hs : a.eval s = v) (hx : a.eval x = u) (hown : w.ownsRow base e k v n xs) (hu : w.ownsRow b2 e k u m ys) (h1 : ∀ y ∈ ys, y.oneCell' = true)
    (h63 : n + m ≤ maxLen) (hbytes : (n + m) * bytes ≤ 140737488355328) (hbase : base ≤ w.heap.size)
    (h : ∀ v' w', w'.ownsRow base e k v' (n + m) (xs ++ ys) → w.grownBy w' v.ownBlock → wpList P ops Q rest (a.put o.dst v') w') :
    wpList P ops Q (o :: rest) a w := by
  refine wpList_plain hgd fun K hK => ?_
  obtain ⟨v', w', hr, h2, h3⟩ := run_append_row (P := P) w base b2 t o.type e i z k bytes ht hi hz hsize hby hzs hk v u n m xs ys hown hu h1 h63 hbytes hbase
  unfold Oper.wp execOp
  simp only [ho, resolve, invoke, builtin, Sem.run_bind, Sem.run_pure, Result.andThen_ok, List.map_toArray, List.map_cons, List.map_nil, hs, hx, hr]
  exact hK _ _ (h v' w' h2 h3)
theorem step_append_row {P : Program} {ops : Array Oper} {o : Oper} {a : Act} {w : World} {K : Act → World → Prop} {Q : Exit → Act → World → Prop} {E : Prop} (hgd : o.guard = none) (s x : Operand) (t : TypeId)
    (ho : o.op = .call { callee := .builtin .append, args := #[s, x], argTypes := #[t, t] })
    (base b2 : Nat) (e : TypeId) (i : TypeInfo) (z : Value) (k bytes : Nat) (ht : P.underlying t = some (.slice e)) (hi : P.info? e = some i) (hz : i.zero = some z)
    (hsize : i.size = k) (hby : i.bytes = bytes) (hzs : z.cells.size = k) (hk : 0 < k) (v u : Value) (n m : Nat) (xs ys : List Value) (hs : a.eval s = v) (hx : a.eval x = u) (hown : w.ownsRow base e k v n xs) (hu : w.ownsRow b2 e k u m ys) (h1 : ∀ y ∈ ys, y.oneCell' = true)
    (h63 : n + m ≤ maxLen) (hbytes : (n + m) * bytes ≤ 140737488355328) (hbase : base ≤ w.heap.size)
    (h : ∀ v' w', w'.ownsRow base e k v' (n + m) (xs ++ ys) → w.grownBy w' v.ownBlock → K (a.put o.dst v') w') :
    if Region.wanted o (yielded ops a.tmps) = true then Oper.wp P o a w K Q else E := by
  have hw : Region.wanted o (yielded ops a.tmps) = true := by simp [Region.wanted, hgd]
  rw [if_pos hw]
  obtain ⟨v', w', hr, h2, h3⟩ := run_append_row (P := P) w base b2 t o.type e i z k bytes ht hi hz hsize hby hzs hk v u n m xs ys hown hu h1 h63 hbytes hbase
  unfold Oper.wp
  simp [execOp, ho, resolve, invoke, builtin, hs, hx, hr, Result.andThen]
  exact h v' w' h2 h3
structure Gd (W w : World) (C : Nat) (u0 u1 u2 : Value) (n0 n1 n2 : Nat) (r0 r1 r2 : List Value) : Prop where
  o : w.heap[C]? = some (.cells #[.bool true, u0, u1, u2] 57)
  b : Below W.heap.size W w
  k : W.heap.size ≤ C
  p0 : w.ownsRow (C + 1) 27 2 u0 n0 r0
  p1 : w.ownsRow (C + 1) 38 1 u1 n1 r1
  p2 : w.ownsRow (C + 1) 3 1 u2 n2 r2
section
variable {W w w' : World} {C : Nat} {u0 u1 u2 v : Value} {n0 n1 n2 n : Nat} {r0 r1 r2 r : List Value}
theorem Gd.cells (h : Gd W w C u0 u1 u2 n0 n1 n2 r0 r1 r2) : w.cell? ⟨C, 1, none⟩ = some u0 ∧ w.cell? ⟨C, 2, none⟩ = some u1 ∧ w.cell? ⟨C, 3, none⟩ = some u2 := by
  refine ⟨?_, ?_, ?_⟩ <;> (rw [cell_of_row w C _ _ _ (0, 0) h.o]; rfl)
theorem Gd.frz (h : Gd W w C u0 u1 u2 n0 n1 n2 r0 r1 r2) (j : Nat) : w.frozen? ⟨C, j, none⟩ = false := frozen_of_row w C j _ _ h.o
theorem Gd.grown (h : Gd W w C u0 u1 u2 n0 n1 n2 r0 r1 r2) (hb : Below w.heap.size w w') : Gd W w' C u0 u1 u2 n0 n1 n2 r0 r1 r2 :=
  ⟨(hb.block C (heap_lt h.o)).trans h.o, h.b.trans (hb.mono h.b.size), h.k, own_below h.p0 hb, own_below h.p1 hb, own_below h.p2 hb⟩
theorem fz_own {w w' : World} {v : Value} (h : w.grownBy w' v.ownBlock) : Fz (fun x => v.ownBlock = some x) w w' := ⟨h.os, h.tape, h.output, h.size, fun b hb hne => h.block b hb (fun e => hne e.symm)⟩
theorem fx_c (w : World) (C i : Nat) (v : Value) : Fz (fun b => b = C) w (w.setCell ⟨C, i, none⟩ v) := (Fz.refl (fun b => b = C) w).set (.inl rfl) _ _
theorem Gd.mid0 (h : Gd W w C u0 u1 u2 n0 n1 n2 r0 r1 r2) (hf : Fz (fun x => u0.ownBlock = some x) w w') : w'.heap[C]? = some (.cells #[.bool true, u0, u1, u2] 57) := hf.heap h.o (fun e => by have := (h.p0.lt C e).1; omega)
theorem Gd.put0 (h : Gd W w C u0 u1 u2 n0 n1 n2 r0 r1 r2) (hf : Fz (fun x => u0.ownBlock = some x) w w') (hv : w'.ownsRow (C + 1) 27 2 v n r) : Gd W (w'.setCell ⟨C, 1, none⟩ v) C v u1 u2 n n1 n2 r r1 r2 := by
  have hk := h.k
  have fs := fx_c w' C 1 v
  have b1 := h.b.trans (hf.below h.b.size (fun x e => by have := (h.p0.lt x e).1; omega))
  exact ⟨heap_setCell_same w' C 1 _ _ v (h.mid0 hf), b1.trans (fs.below b1.size (fun x e => by omega)), hk, fs.own hv (fun b e e2 => by have := (hv.lt b e).1; omega), fs.own (hf.own h.p1 (fun b e e2 => own_ne h.p1 h.p0 (by decide) e e2)) (fun b e e2 => by have := (h.p1.lt b e).1; omega), fs.own (hf.own h.p2 (fun b e e2 => own_ne h.p2 h.p0 (by decide) e e2)) (fun b e e2 => by have := (h.p2.lt b e).1; omega)⟩
theorem Gd.mid1 (h : Gd W w C u0 u1 u2 n0 n1 n2 r0 r1 r2) (hf : Fz (fun x => u1.ownBlock = some x) w w') : w'.heap[C]? = some (.cells #[.bool true, u0, u1, u2] 57) := hf.heap h.o (fun e => by have := (h.p1.lt C e).1; omega)
theorem Gd.put1 (h : Gd W w C u0 u1 u2 n0 n1 n2 r0 r1 r2) (hf : Fz (fun x => u1.ownBlock = some x) w w') (hv : w'.ownsRow (C + 1) 38 1 v n r) : Gd W (w'.setCell ⟨C, 2, none⟩ v) C u0 v u2 n0 n n2 r0 r r2 := by
  have hk := h.k
  have fs := fx_c w' C 2 v
  have b1 := h.b.trans (hf.below h.b.size (fun x e => by have := (h.p1.lt x e).1; omega))
  exact ⟨heap_setCell_same w' C 2 _ _ v (h.mid1 hf), b1.trans (fs.below b1.size (fun x e => by omega)), hk, fs.own (hf.own h.p0 (fun b e e2 => own_ne h.p0 h.p1 (by decide) e e2)) (fun b e e2 => by have := (h.p0.lt b e).1; omega), fs.own hv (fun b e e2 => by have := (hv.lt b e).1; omega), fs.own (hf.own h.p2 (fun b e e2 => own_ne h.p2 h.p1 (by decide) e e2)) (fun b e e2 => by have := (h.p2.lt b e).1; omega)⟩
theorem Gd.mid2 (h : Gd W w C u0 u1 u2 n0 n1 n2 r0 r1 r2) (hf : Fz (fun x => u2.ownBlock = some x) w w') : w'.heap[C]? = some (.cells #[.bool true, u0, u1, u2] 57) := hf.heap h.o (fun e => by have := (h.p2.lt C e).1; omega)
theorem Gd.put2 (h : Gd W w C u0 u1 u2 n0 n1 n2 r0 r1 r2) (hf : Fz (fun x => u2.ownBlock = some x) w w') (hv : w'.ownsRow (C + 1) 3 1 v n r) : Gd W (w'.setCell ⟨C, 3, none⟩ v) C u0 u1 v n0 n1 n r0 r1 r := by
  have hk := h.k
  have fs := fx_c w' C 3 v
  have b1 := h.b.trans (hf.below h.b.size (fun x e => by have := (h.p2.lt x e).1; omega))
  exact ⟨heap_setCell_same w' C 3 _ _ v (h.mid2 hf), b1.trans (fs.below b1.size (fun x e => by omega)), hk, fs.own (hf.own h.p0 (fun b e e2 => own_ne h.p0 h.p2 (by decide) e e2)) (fun b e e2 => by have := (h.p0.lt b e).1; omega), fs.own (hf.own h.p1 (fun b e e2 => own_ne h.p1 h.p2 (by decide) e e2)) (fun b e e2 => by have := (h.p1.lt b e).1; omega), fs.own hv (fun b e e2 => by have := (hv.lt b e).1; omega)⟩
theorem Gd.fin {rs : List Rw} {ss : List Sd} (h : Gd W w C u0 u1 u2 rs.length ss.length ss.length (flR rs) (stL ss) (nL ss)) (hn : ss.length = rs.length) (hm : rs.length ≤ 256) : Dk w C true u0 u1 u2 rs ss ∧ ∀ x, Db C u0 u1 u2 x → W.heap.size ≤ x := by
  have hk := h.k
  refine ⟨⟨h.o, own_base h.p0 (Nat.zero_le _), own_base h.p1 (Nat.zero_le _), own_base h.p2 (Nat.zero_le _), fun e => by have := (h.p0.lt C e).1; omega, fun e => by have := (h.p1.lt C e).1; omega, fun e => by have := (h.p2.lt C e).1; omega, hn, hm⟩, ?_⟩
  rintro x (e | e | e | e)
  · omega
  · have := (h.p0.lt x e).1; omega
  · have := (h.p1.lt x e).1; omega
  · have := (h.p2.lt x e).1; omega
theorem Gd.mk0 (W : World) : Gd W (W.alloc (.cells #[.bool true, .slice none 0 0, .slice none 0 0, .slice none 0 0] 57)) W.heap.size (.slice none 0 0) (.slice none 0 0) (.slice none 0 0) 0 0 0 [] [] [] :=
  ⟨heap_alloc_new W _, below_alloc _ _, Nat.le_refl _, World.ownsRow_nil _ _ _ _, World.ownsRow_nil _ _ _ _, World.ownsRow_nil _ _ _ _⟩
end
/-! ### Copy -/
section
variable {w w' : World} {D : Nat} {mk : Bool} {a b c : Value} {rs : List Rw} {ss : List Sd}
set_option maxHeartbeats 8000000 in
set_option maxRecDepth 100000 in
theorem dCopy_any (h : Dk w D true a b c rs ss) : Calls Tryd.prog 27 #[cP D] w fun e w' => ∃ D2 a2 b2 c2, e = .returned (cP D2) ∧ Dk w' D2 true a2 b2 c2 rs ss ∧ (∀ x, Db D2 a2 b2 c2 x → w.heap.size ≤ x) ∧ Below w.heap.size w w' := by
  obtain ⟨ir, hir, hr0, hr1, hr2⟩ := info_parts rinfo
  obtain ⟨is, his, hs0, hs1, hs2⟩ := info_parts ginfo
  obtain ⟨ii, hii, hi0, hi1, hi2⟩ := info_parts iinfo
  have hm := h.m
  have hn := h.n
  have HN : Hid (ss.length = rs.length) := hn
  have hn256 : ss.length ≤ 256 := by omega
  have HH : Hid (Dk w D true a b c rs ss) := h
  have Y0 := Gd.mk0 w
  obtain ⟨c0, c1, c2, c3⟩ := h.cells
  obtain ⟨am, cm, rfl⟩ := own_sl h.p
  obtain ⟨ao, co, rfl⟩ := own_sl h.q
  obtain ⟨aw, cw, rfl⟩ := own_sl h.r
  have hb0 := below_alloc w (.cells #[.bool true, .slice none 0 0, .slice none 0 0, .slice none 0 0] 57)
  clear h hn
  go_enter Tryd.func27, Tryd.ntmps27
  go_upto_region 2 with (first | fail)
  have HB0 : Hid (Below w.heap.size w (w.alloc (.cells #[.bool true, .slice none 0 0, .slice none 0 0, .slice none 0 0] 57))) := hb0
  clear c0 c1 c2 c3 hb0
  generalize (w.alloc (.cells #[.bool true, .slice none 0 0, .slice none 0 0, .slice none 0 0] 57)) = x0 at *
  have K0 := HH.out.below (HB0.out)
  obtain ⟨-, z1, z2, z3⟩ := K0.cells
  obtain ⟨e1, e2, e3⟩ := Y0.cells
  have HS : Hid (w.heap.size + 1 ≤ x0.heap.size) := heap_lt Y0.o
  have Kd := K0.below ((Below.refl _ x0).drew)
  go_cut [3] from 4 (fun s3 wx => s3 = cP w.heap.size ∧ ∃ (a0 : Option Addr) (k0 : Nat), Hid (Gd w wx w.heap.size (.slice a0 rs.length k0) (.slice none 0 0) (.slice none 0 0) rs.length 0 0 (flR rs) [] []))
  case first =>
    go_region_law (first
      | (refine step_append_row rfl (.tmp 14) (.tmp 18) 28 rfl (w.heap.size + 1) 0 27 ir (.agg #[.int .i64 0, .bool false]) 2 16 Tryd.underlying28 hir hr0 hr1 hr2 rfl (by decide) (.slice none 0 0) (.slice am rs.length cm) 0 rs.length [] (flR rs) (by simp [Act.eval, Act.put]) (by simp [Act.eval, Act.put]) (World.ownsRow_nil _ _ _ _) Kd.p (flR_one rs) (by unfold maxLen; omega) (by omega) HS.out ?_; intro v4 w4 h4 hg4; rw [Nat.zero_add, List.nil_append] at h4; obtain ⟨a4, k4, rfl⟩ := own_sl h4; have F4 : Fz (fun x => (Value.slice none 0 0).ownBlock = some x) x0 w4 := ((Fz.refl _ x0).drewN 1).trans (fz_own hg4); have y1 := Y0.put0 F4 h4; have hq := Y0.mid0 F4; have q1 : w4.frozen? ⟨w.heap.size, 1, none⟩ = false := frozen_of_row w4 _ _ _ _ hq; have q2 : w4.cell? ⟨w.heap.size, 1, none⟩ = some (.slice none 0 0) := (by rw [cell_of_row w4 _ _ _ _ (0, 0) hq]; rfl)))
    all_goals
      go_wp2
      go_meet
      case rel => exact ⟨rfl, a4, k4, y1⟩
  obtain ⟨rfl, a0, k0, HY⟩ := hcut
  have Y1 := HY.out
  clear HY e1 e2 e3 z1 z2 z3 Kd K0 Y0 HS
  go_upto_region 3 with (first | fail)
  have K1 := HH.out.below (Y1.b)
  obtain ⟨-, z1, z2, z3⟩ := K1.cells
  obtain ⟨e1, e2, e3⟩ := Y1.cells
  have HS : Hid (w.heap.size + 1 ≤ wc.heap.size) := heap_lt Y1.o
  have Kd := K1.below ((Below.refl _ wc).drew)
  go_cut [3] from 4 (fun s3 wx => s3 = cP w.heap.size ∧ ∃ (a0 : Option Addr) (k0 : Nat) (a1 : Option Addr) (k1 : Nat), Hid (Gd w wx w.heap.size (.slice a0 rs.length k0) (.slice a1 ss.length k1) (.slice none 0 0) rs.length ss.length 0 (flR rs) (stL ss) []))
  case first =>
    go_region_law (first
      | (refine step_append_row rfl (.tmp 26) (.tmp 30) 55 rfl (w.heap.size + 1) 0 38 is (.int .i64 0) 1 8 Tryd.underlying55 his hs0 hs1 hs2 rfl (by decide) (.slice none 0 0) (.slice ao ss.length co) 0 ss.length [] (stL ss) (by simp [Act.eval, Act.put]) (by simp [Act.eval, Act.put]) (World.ownsRow_nil _ _ _ _) Kd.q (stL_one ss) (by unfold maxLen; omega) (by omega) HS.out ?_; intro v4 w4 h4 hg4; rw [Nat.zero_add, List.nil_append] at h4; obtain ⟨a4, k4, rfl⟩ := own_sl h4; have F4 : Fz (fun x => (Value.slice none 0 0).ownBlock = some x) wc w4 := ((Fz.refl _ wc).drewN 1).trans (fz_own hg4); have y1 := Y1.put1 F4 h4; have hq := Y1.mid1 F4; have q1 : w4.frozen? ⟨w.heap.size, 2, none⟩ = false := frozen_of_row w4 _ _ _ _ hq; have q2 : w4.cell? ⟨w.heap.size, 2, none⟩ = some (.slice none 0 0) := (by rw [cell_of_row w4 _ _ _ _ (0, 0) hq]; rfl)))
    all_goals
      go_wp2
      go_meet
      case rel => exact ⟨rfl, a0, k0, a4, k4, y1⟩
  obtain ⟨rfl, a0, k0, a1, k1, HY⟩ := hcut
  have Y2 := HY.out
  clear HY e1 e2 e3 z1 z2 z3 Kd K1 Y1 HS
  go_upto_region 4 with (first | fail)
  have K2 := HH.out.below (Y2.b)
  obtain ⟨-, z1, z2, z3⟩ := K2.cells
  obtain ⟨e1, e2, e3⟩ := Y2.cells
  have HS : Hid (w.heap.size + 1 ≤ wc.heap.size) := heap_lt Y2.o
  have Kd := K2.below ((Below.refl _ wc).drew)
  go_cut [3] from 4 (fun s3 wx => s3 = cP w.heap.size ∧ ∃ (a0 : Option Addr) (k0 : Nat) (a1 : Option Addr) (k1 : Nat) (a2 : Option Addr) (k2 : Nat), Hid (Gd w wx w.heap.size (.slice a0 rs.length k0) (.slice a1 ss.length k1) (.slice a2 ss.length k2) rs.length ss.length ss.length (flR rs) (stL ss) (nL ss)))
  case first =>
    go_region_law (first
      | (refine step_append_row rfl (.tmp 38) (.tmp 42) 46 rfl (w.heap.size + 1) 0 3 ii (.int .i64 0) 1 8 Tryd.underlying46 hii hi0 hi1 hi2 rfl (by decide) (.slice none 0 0) (.slice aw ss.length cw) 0 ss.length [] (nL ss) (by simp [Act.eval, Act.put]) (by simp [Act.eval, Act.put]) (World.ownsRow_nil _ _ _ _) Kd.r (nL_one ss) (by unfold maxLen; omega) (by omega) HS.out ?_; intro v4 w4 h4 hg4; rw [Nat.zero_add, List.nil_append] at h4; obtain ⟨a4, k4, rfl⟩ := own_sl h4; have F4 : Fz (fun x => (Value.slice none 0 0).ownBlock = some x) wc w4 := ((Fz.refl _ wc).drewN 1).trans (fz_own hg4); have y1 := Y2.put2 F4 h4; have hq := Y2.mid2 F4; have q1 : w4.frozen? ⟨w.heap.size, 3, none⟩ = false := frozen_of_row w4 _ _ _ _ hq; have q2 : w4.cell? ⟨w.heap.size, 3, none⟩ = some (.slice none 0 0) := (by rw [cell_of_row w4 _ _ _ _ (0, 0) hq]; rfl)))
    all_goals
      go_wp2
      go_meet
      case rel => exact ⟨rfl, a0, k0, a1, k1, a4, k4, y1⟩
  obtain ⟨rfl, a0, k0, a1, k1, a2, k2, HY⟩ := hcut
  have Y3 := HY.out
  clear HY e1 e2 e3 z1 z2 z3 Kd K2 Y2 HS
  go_wp2
  go_ret
  obtain ⟨f1, f2⟩ := Y3.fin HN.out hm
  exact ⟨_, _, _, _, rfl, f1, f2, Y3.b⟩
end
end Go.Proofs.YthmecgfbapemjaaDoor
