import Derived.Test.YtckmdkdhnhkdhaaZgi
import Derived.Deep.Cut
namespace Go.Proofs.Ytckmdkdhnhkdhaa
open Go.RowKit
set_option linter.unusedVariables false
set_option linter.unusedSimpArgs false

/-! ### The document's stack -/
theorem own_base {w : World} {b b' e k n : Nat} {v : Value} {xs : List Value} (h : w.ownsRow b e k v n xs) (hb : b' ≤ b) : w.ownsRow b' e k v n xs := by
  obtain ⟨hl, h0 | ⟨g, cap, cur, hv, hb1, hh, rr⟩⟩ := h
  · exact ⟨hl, .inl h0⟩
  · exact ⟨hl, .inr ⟨g, cap, cur, hv, by omega, hh, rr⟩⟩
/-- An append of a row that may be nil. -/
theorem run_append_both {P : Program} (w : World) (base b2 : Nat) (t ty e : TypeId) (i : TypeInfo) (z : Value) (bytes : Nat) (ht : P.underlying t = some (.slice e)) (hi : P.info? e = some i) (hz : i.zero = some z)
    (hsize : i.size = 1) (hby : i.bytes = bytes) (hzs : z.cells.size = 1) (v u : Value) (n m : Nat) (xs ys : List Value) (hown : w.ownsRow base e 1 v n xs) (hu : w.ownsRow b2 e 1 u m ys) (h1 : ∀ y ∈ ys, y.oneCell' = true)
    (h63 : n + m ≤ maxLen) (hbytes : (n + m) * bytes ≤ 140737488355328) (hbase : base ≤ w.heap.size) :
    ∃ v' w', (Builtin.append_ #[t, t] ty #[v, u]).run P w = .ok v' w' ∧ w'.ownsRow base e 1 v' (n + m) (xs ++ ys) ∧ w.grownBy w' v.ownBlock := by
  rcases hu.2 with ⟨rfl, rfl⟩ | ⟨g, cap, cur, rfl, _⟩
  · have hy : ys = [] := List.eq_nil_of_length_eq_zero (by have := hu.1; simpa using this)
    subst hy
    exact ⟨v, w, run_append_owned_none (P := P) w base t ty e i 1 ht hi v n xs hown, by simpa using hown, grown_refl _ _⟩
  · obtain ⟨v', w', hr, h2, h3, _⟩ := run_append_own (P := P) w base t ty e i z 1 bytes ht hi hz hsize hby hzs (by decide) v n xs hown ⟨g, 0, none⟩ m cap ys (by rw [Nat.mul_one]; have := hu.1; omega) (hu.cells rfl) h1 h63 hbytes hbase
    exact ⟨v', w', hr, h2, h3⟩
theorem wpList_append_both {P : Program} (w : World) {ops : Array Oper} {rest : List Oper} {o : Oper} {a : Act} {Q : Exit → Act → World → Prop} (hgd : o.guard = none) (s x : Operand) (t : TypeId)
    (ho : o.op = .call { callee := .builtin .append, args := #[s, x], argTypes := #[t, t] })
    (base b2 : Nat) (e : TypeId) (i : TypeInfo) (z : Value) (bytes : Nat) (ht : P.underlying t = some (.slice e)) (hi : P.info? e = some i) (hz : i.zero = some z)
    (hsize : i.size = 1) (hby : i.bytes = bytes) (hzs : z.cells.size = 1) (v u : Value) (n m : Nat) (xs ys : List Value) (hs : a.eval s = v) (hx : a.eval x = u) (hown : w.ownsRow base e 1 v n xs) (hu : w.ownsRow b2 e 1 u m ys) (h1 : ∀ y ∈ ys, y.oneCell' = true)
    (h63 : n + m ≤ maxLen) (hbytes : (n + m) * bytes ≤ 140737488355328) (hbase : base ≤ w.heap.size)
    (h : ∀ v' w', w'.ownsRow base e 1 v' (n + m) (xs ++ ys) → w.grownBy w' v.ownBlock → wpList P ops Q rest (a.put o.dst v') w') :
    wpList P ops Q (o :: rest) a w := by
  refine wpList_plain hgd fun K hK => ?_
  obtain ⟨v', w', hr, h2, h3⟩ := run_append_both (P := P) w base b2 t o.type e i z bytes ht hi hz hsize hby hzs v u n m xs ys hown hu h1 h63 hbytes hbase
  unfold Oper.wp execOp
  simp only [ho, resolve, invoke, builtin, Sem.run_bind, Sem.run_pure, Result.andThen_ok, List.map_toArray, List.map_cons, List.map_nil, hs, hx, hr]
  exact hK _ _ (h v' w' h2 h3)
theorem step_append_both {P : Program} {ops : Array Oper} {o : Oper} {a : Act} {w : World} {K : Act → World → Prop} {Q : Exit → Act → World → Prop} {E : Prop} (hgd : o.guard = none) (s x : Operand) (t : TypeId)
    (ho : o.op = .call { callee := .builtin .append, args := #[s, x], argTypes := #[t, t] })
    (base b2 : Nat) (e : TypeId) (i : TypeInfo) (z : Value) (bytes : Nat) (ht : P.underlying t = some (.slice e)) (hi : P.info? e = some i) (hz : i.zero = some z)
    (hsize : i.size = 1) (hby : i.bytes = bytes) (hzs : z.cells.size = 1) (v u : Value) (n m : Nat) (xs ys : List Value) (hs : a.eval s = v) (hx : a.eval x = u) (hown : w.ownsRow base e 1 v n xs) (hu : w.ownsRow b2 e 1 u m ys) (h1 : ∀ y ∈ ys, y.oneCell' = true)
    (h63 : n + m ≤ maxLen) (hbytes : (n + m) * bytes ≤ 140737488355328) (hbase : base ≤ w.heap.size)
    (h : ∀ v' w', w'.ownsRow base e 1 v' (n + m) (xs ++ ys) → w.grownBy w' v.ownBlock → K (a.put o.dst v') w') :
    if Region.wanted o (yielded ops a.tmps) = true then Oper.wp P o a w K Q else E := by
  have hw : Region.wanted o (yielded ops a.tmps) = true := by simp [Region.wanted, hgd]
  rw [if_pos hw]
  obtain ⟨v', w', hr, h2, h3⟩ := run_append_both (P := P) w base b2 t o.type e i z bytes ht hi hz hsize hby hzs v u n m xs ys hown hu h1 h63 hbytes hbase
  unfold Oper.wp
  simp [execOp, ho, resolve, invoke, builtin, hs, hx, hr, Result.andThen]
  exact h v' w' h2 h3
theorem ones (l : List Int) : ∀ u ∈ iV l, u.oneCell' = true := fun u hu => by
  obtain ⟨x, _, rfl⟩ := List.mem_map.1 hu
  rfl
theorem own_sl {w : World} {b E n : Nat} {v : Value} {xs : List Value} (h : w.ownsRow b E 1 v n xs) : ∃ a cc, v = .slice a n cc := by
  rcases h.2 with ⟨h1, h0⟩ | ⟨g, cap, cur, h1, _⟩
  · exact ⟨none, 0, by rw [h0]; exact h1⟩
  · exact ⟨_, _, h1⟩
theorem own_cell {w : World} {b E : Nat} {v : Value} {l : List Int} {n : Nat} (h : w.ownsRow b E 1 v n (iV l)) (hne : 0 < n) : ∃ g c, v = .slice (some ⟨g, 0, none⟩) n c ∧ g < w.heap.size ∧ ∀ (j : Nat) (x : Int), l[j]? = some x → w.cell? ⟨g, j, none⟩ = some (I x) := by
  rcases h.2 with ⟨h1, h0⟩ | ⟨g, cap, cur, h1, _, hh, _⟩
  · omega
  · refine ⟨g, cap, h1, heap_lt hh, fun j x hj => ?_⟩
    have := h.cells (g := g) (by rw [h1]; rfl) j (I x) (by simp [iV, hj])
    rw [addr_add, Nat.zero_add] at this
    exact this
/-- A row cut short. -/
theorem own_take {w : World} {b E n : Nat} {v : Value} {xs : List Value} (h : w.ownsRow b E 1 v n xs) (m : Nat) (hm : m ≤ n) : ∃ v', w.ownsRow b E 1 v' m (xs.take m) ∧ v'.ownBlock = v.ownBlock ∧ (∀ a c, v = .slice a n c → v' = .slice a m c ∧ m ≤ c ∧ (a = none ∨ ∃ g, a = some ⟨g, 0, none⟩)) := by
  obtain ⟨hl, ⟨rfl, rfl⟩ | ⟨g, cap, cur, rfl, hb1, hh, h1, h2, h3, h4⟩⟩ := h
  · obtain rfl : m = 0 := by omega
    refine ⟨.slice none 0 0, World.ownsRow_nil _ _ _ _, rfl, fun a c e => ?_⟩
    cases e
    exact ⟨rfl, Nat.le_refl _, .inl rfl⟩
  · refine ⟨.slice (some ⟨g, 0, none⟩) m cap, ⟨by simp at hl ⊢; omega, .inr ⟨g, cap, cur, rfl, hb1, hh, by omega, h2, h3, ?_⟩⟩, rfl, fun a c e => ?_⟩
    · rw [← h4, List.take_take]
      congr 1
      omega
    · cases e
      exact ⟨rfl, by omega, .inr ⟨g, rfl⟩⟩
theorem sl_to (a : Option Addr) (L c m : Nat) (h : m ≤ c) (ha : a = none ∨ ∃ g, a = some ⟨g, 0, none⟩) (z : Int) (ez : z = m) (wx : World) :
    (Instr.slice 22 (.slice a L c) none (some (I z)) none).run Try.prog wx = .ok (.slice a m c) wx := by
  subst ez
  rw [run_slice_h wx 22 _ L c iundS .i64 (m : Int) (by omega) (by omega), ielem_sz]
  have e1 : ((m : Int)).toNat = m := by omega
  rcases ha with rfl | ⟨g, rfl⟩
  · simp only [Result.andThen, sliced, e1, Option.map_none, Nat.mul_one, Nat.sub_zero]
    try (split <;> simp)
  · simp only [Result.andThen, sliced, e1, Option.map_some, Nat.mul_one, addr_add, Nat.zero_add]
    split <;> simp
/-- The document's stack in block D, its row v. -/
structure Ds (w : World) (D n hi : Nat) (v : Value) (l : List Int) : Prop where
  o : w.heap[D]? = some (.cells #[.bool true, I n, v, I hi] 47)
  p : w.ownsRow 0 3 1 v l.length (iV l)
  m : n ≤ 1024
  y : l.length ≤ hi ∧ hi ≤ n
def Db (D : Nat) (v : Value) (b : Nat) : Prop := b = D ∨ v.ownBlock = some b
def Vn (w : World) (v v' : Value) : Prop := ∀ b, v'.ownBlock = some b → v.ownBlock = some b ∨ w.heap.size ≤ b
theorem Vn.refl (w : World) (v : Value) : Vn w v v := fun b e => .inl e
theorem Vn.same {w : World} {v v' : Value} (h : v'.ownBlock = v.ownBlock) : Vn w v v' := fun b e => .inl (h ▸ e)
theorem Vn.step {w w1 : World} {v v1 v2 : Value} (h : Vn w v v1) (k : Vn w1 v1 v2) (hs : w.heap.size ≤ w1.heap.size) : Vn w v v2 := fun b e => by
  rcases k b e with e1 | e1
  · exact h b e1
  · exact .inr (by omega)
abbrev dP (D : Nat) : Value := .pointer (some ⟨D, 0, none⟩)
section
variable {w : World} {D n hi : Nat} {v : Value} {l : List Int}
theorem Ds.cells (h : Ds w D n hi v l) : w.cell? ⟨D, 0, none⟩ = some (.bool true) ∧ w.cell? ⟨D, 1, none⟩ = some (I n) ∧ w.cell? ⟨D, 2, none⟩ = some v ∧ w.cell? ⟨D, 3, none⟩ = some (I hi) := by
  refine ⟨?_, ?_, ?_, ?_⟩ <;> (rw [cell_of_row w D _ _ _ (0, 0) h.o]; rfl)
theorem Ds.frz (h : Ds w D n hi v l) (j : Nat) : w.frozen? ⟨D, j, none⟩ = false := frozen_of_row w D j _ _ h.o
theorem Ds.keptZ (h : Ds w D n hi v l) {M : Nat → Prop} {w' : World} (hf : Fz M w w') (hM : ∀ b, Db D v b → ¬ M b) : Ds w' D n hi v l :=
  ⟨hf.heap h.o (hM D (.inl rfl)), hf.own h.p (fun g e => hM g (.inr e)), h.m, h.y⟩
theorem Ds.below {w' : World} (h : Ds w D n hi v l) (hb : Below w.heap.size w w') : Ds w' D n hi v l := h.keptZ (M := fun _ => False) (Fz.of_below hb) (fun _ _ e => e)
theorem Ds.drewN (h : Ds w D n hi v l) (q : Nat) : Ds (w.drewN q) D n hi v l := h.below (below_drewN q (Below.refl _ _))
theorem Ds.notD (h : Ds w D n hi v l) : v.ownBlock ≠ some D := fun e => by
  rcases h.p.2 with ⟨h1, _⟩ | ⟨g, cap, cur, h1, _, hh, _⟩
  · rw [h1] at e; cases e
  · rw [h1] at e
    obtain rfl : g = D := by simpa [Value.ownBlock] using e
    rw [h.o] at hh
    cases hh
theorem Ds.lt (h : Ds w D n hi v l) : ∀ b, Db D v b → b < w.heap.size := fun b hb => by
  rcases hb with rfl | e
  · exact heap_lt h.o
  · exact (h.p.lt b e).2
theorem Ds.le (h : Ds w D n hi v l) : l.length ≤ n := Nat.le_trans h.y.1 h.y.2
/-- A new row in place of the old one. -/
theorem Ds.set {w' : World} {v' : Value} {l' : List Int} (h : Ds w D n hi v l) (hf : Fz (fun b => v.ownBlock = some b) w w') (hp : w'.ownsRow 0 3 1 v' l'.length (iV l')) (hv : Vn w v v') (hi' : Nat) (hy : l'.length ≤ hi' ∧ hi' ≤ n) (hh : hi' = hi) : Ds (w'.setCell ⟨D, 2, none⟩ v') D n hi' v' l' ∧ Fz (Db D v) w (w'.setCell ⟨D, 2, none⟩ v') := by
  subst hh
  have hD := heap_lt h.o
  have hnD : ¬ v.ownBlock = some D := h.notD
  have ho := heap_setCell_same w' D 2 _ _ v' (hf.heap h.o hnD)
  have gs := grown_set w' D 2 v'
  refine ⟨⟨ho, hp.kept gs (.inr (fun e => ?_)), h.m, hy⟩, (hf.mono (fun b e => .inr e)).set (b := D) (.inl (.inl rfl)) _ _⟩
  rcases hv D e with e1 | e1
  · exact hnD e1
  · omega
theorem dNew_ok (w : World) (n : Nat) (hn : n ≤ 1024) : Calls Try.prog 18 #[I n] w fun e w' => e = .returned (.tuple #[dP w.heap.size, I 0]) ∧ Ds w' w.heap.size n 0 (.slice none 0 0) [] ∧ Below w.heap.size w w' := by
  have h1 : ¬ (n : Int) < 0 := by omega
  have h2 : ¬ (1024 : Int) < n := by omega
  go_enter Try.func18, Try.ntmps18
  go_wp2
  go_ret2
  exact ⟨rfl, ⟨heap_alloc_new w _, World.ownsRow_nil _ _ _ _, hn, by simp⟩, below_alloc w _⟩
theorem dNew_no (w : World) (n : Int) (hn : n < 0 ∨ 1024 < n) : Calls Try.prog 18 #[I n] w fun e w' => e = .returned (.tuple #[dP w.heap.size, I 140]) ∧ w'.cell? ⟨w.heap.size, 0, none⟩ = some (.bool false) ∧ Below w.heap.size w w' := by
  rcases hn with hn | hn
  · go_enter Try.func18, Try.ntmps18
    go_wp2
    go_ret2
    exact ⟨rfl, by rw [cell_of_row _ _ _ _ _ (0, 0) (heap_alloc_new w _)]; rfl, below_alloc w _⟩
  · have h1 : ¬ n < 0 := by omega
    go_enter Try.func18, Try.ntmps18
    go_wp2
    go_ret2
    exact ⟨rfl, by rw [cell_of_row _ _ _ _ _ (0, 0) (heap_alloc_new w _)]; rfl, below_alloc w _⟩
theorem dPush_full (h : Ds w D n hi v l) (hc : l.length = n) (x : Int) : Calls Try.prog 21 #[dP D, I x] w fun e w' => e = .returned (I 141) ∧ Below w.heap.size w w' := by
  obtain ⟨c0, c1, c2, -⟩ := h.cells
  obtain ⟨a, cc, rfl⟩ := own_sl h.p
  have hm := h.m
  have h1 : (n : Int) ≤ l.length := by omega
  clear h hc
  go_enter Try.func21, Try.ntmps21
  go_wp2
  go_quiet (fail)
  go_wp2
  go_ret
  exact ⟨rfl, below_drewN _ (Below.refl _ _)⟩
theorem app_facts {W w4 : World} {v v4 : Value} {o : Obj} (hg4 : (W.alloc o).grownBy w4 v.ownBlock) (hat : v4.ownBlock = v.ownBlock ∨ v4.ownBlock = some (W.alloc o).heap.size) : Vn W v v4 ∧ Fz (fun b => v.ownBlock = some b) W w4 := by
  have hs := hg4.size
  rw [World.size_alloc] at hs
  refine ⟨fun b e => ?_, ⟨hg4.os, hg4.tape, hg4.output, by omega, fun b hb hn => (hg4.block b (by rw [World.size_alloc]; omega) (fun e => hn e.symm)).trans (heap_alloc_old W _ hb)⟩⟩
  rcases hat with e1 | e1
  · exact .inl (e1 ▸ e)
  · rw [e1] at e
    right
    simp at e
    omega
set_option maxHeartbeats 4000000 in
set_option maxRecDepth 100000 in
theorem dPush_ok (h : Ds w D n hi v l) (hc : l.length < n) (x : Int) : Calls Try.prog 21 #[dP D, I x] w fun e w' => e = .returned (I 0) ∧ ∃ v', Ds w' D n (max hi (l.length + 1)) v' (l ++ [x]) ∧ Vn w v v' ∧ Fz (Db D v) w w' := by
  obtain ⟨i0, hi0, hz0, hz1, hz2⟩ := info_parts iinfo
  obtain ⟨c0, c1, c2, c3⟩ := h.cells
  obtain ⟨a, cc, hv⟩ := own_sl h.p
  subst hv
  have hm := h.m
  have h1 : ¬ (n : Int) ≤ l.length := by omega
  have HY := h.y
  go_enter Try.func21, Try.ntmps21
  go_wp2
  go_quiet (fail)
  have h0 := h.drewN nq
  have f0 : Fz (Db D (.slice a l.length cc)) w (w.drewN nq) := (Fz.refl _ _).drewN nq
  have b0 : w.heap.size ≤ (w.drewN nq).heap.size := f0.size
  clear c0 c1 c2 c3 h
  generalize w.drewN nq = W at *
  obtain ⟨c0, c1, c2, c3⟩ := h0.cells
  have hO := h0.p.alloc (.cells #[I x] 3)
  go_upto_region 6 with (first
    | (at_builtin; refine wpList_append_own_at _ rfl (.tmp 24) (.tmp 26) 22 rfl 0 3 i0 (.int .i64 0) 1 8 Try.underlying22 hi0 hz0 hz1 hz2 rfl (by decide) _ _ _ rfl hO ⟨W.heap.size, 0, none⟩ 1 1 [I x] rfl rfl (cell_one_new _ _ _) (by intro u hu; simp at hu; subst hu; rfl) (by unfold maxLen; omega) (by omega) (Nat.zero_le _) ?_; intro v4 w4 h4 hg4 _ hat; obtain ⟨hV, F4⟩ := app_facts hg4 hat; obtain ⟨a4, k4, rfl⟩ := own_sl h4; have e2 := (F4.heap h0.o h0.notD); have e3 : w4.frozen? ⟨D, 2, none⟩ = false := frozen_of_row w4 D 2 _ _ e2; have e4 : w4.cell? ⟨D, 2, none⟩ = some (.slice a l.length cc) := (by rw [cell_of_row w4 D _ _ _ (0, 0) e2]; rfl); clear e2 hg4 hO hat))
  have hnD : ¬ (Value.slice a4 (l.length + 1) k4).ownBlock = some D := fun e => by
    rcases hV D e with e1 | e1
    · exact h0.notD e1
    · have := heap_lt h0.o; omega
  have hO4 := heap_setCell_same w4 D 2 _ _ (.slice a4 (l.length + 1) k4) (F4.heap h0.o h0.notD)
  have hP4 := h4.kept (grown_set w4 D 2 (.slice a4 (l.length + 1) k4)) (.inr hnD)
  have hZ4 : Fz (Db D (.slice a l.length cc)) W (w4.setCell ⟨D, 2, none⟩ (.slice a4 (l.length + 1) k4)) := (F4.mono (fun b e => .inr e)).set (b := D) (.inl (.inl rfl)) _ _
  have HV : Hid (Vn W (.slice a l.length cc) (.slice a4 (l.length + 1) k4)) := hV
  have hle := h0.le
  clear h4 F4 e3 e4 c0 c1 c2 c3 h0 hV
  generalize (w4.setCell ⟨D, 2, none⟩ (.slice a4 (l.length + 1) k4)) = X at *
  have c2 : X.cell? ⟨D, 2, none⟩ = some (.slice a4 (l.length + 1) k4) := by rw [cell_of_row X D _ _ _ (0, 0) hO4]; rfl
  have c3 : X.cell? ⟨D, 3, none⟩ = some (I hi) := by rw [cell_of_row X D _ _ _ (0, 0) hO4]; rfl
  have HO : Hid (X.heap[D]? = some (.cells #[.bool true, I n, .slice a4 (l.length + 1) k4, I hi] 47)) := hO4
  have HP : Hid (X.ownsRow 0 3 1 (.slice a4 (l.length + 1) k4) (l.length + 1) (iV l ++ [I x])) := hP4
  clear hO4 hP4
  have ee : iV (l ++ [x]) = iV l ++ [I x] := by simp [iV]
  have el : (l ++ [x]).length = l.length + 1 := by simp
  by_cases hx : hi ≤ l.length
  · have hM : Hid (max hi (l.length + 1) = l.length + 1) := by show _ = _; omega
    have hxx : (hi : Int) < (l.length : Int) + 1 := by omega
    have e9 : ((l.length + 1 : Nat) : Int) = (l.length : Int) + 1 := by omega
    have HE : Hid (((l.length + 1 : Nat) : Int) = (l.length : Int) + 1) := e9
    clear ee el e9
    go_quiet (fail)
    have HO := (below_drewN nq (Below.refl X.heap.size X)).block D (heap_lt HO.out) |>.trans HO.out
    have HP := own_below HP.out (below_drewN nq (Below.refl X.heap.size X))
    have hZ5 := hZ4.drewN nq
    clear c2 c3
    generalize X.drewN nq = Y at *
    have c2 : Y.cell? ⟨D, 2, none⟩ = some (.slice a4 (l.length + 1) k4) := by rw [cell_of_row Y D _ _ _ (0, 0) HO]; rfl
    have c3 : Y.cell? ⟨D, 3, none⟩ = some (I hi) := by rw [cell_of_row Y D _ _ _ (0, 0) HO]; rfl
    have z3 : Y.frozen? ⟨D, 3, none⟩ = false := frozen_of_row Y D 3 _ _ HO
    have HO : Hid (Y.heap[D]? = some (.cells #[.bool true, I n, .slice a4 (l.length + 1) k4, I hi] 47)) := HO
    have HP : Hid (Y.ownsRow 0 3 1 (.slice a4 (l.length + 1) k4) (l.length + 1) (iV l ++ [I x])) := HP
    go_wp2
    go_ret
    have o9 := heap_setCell_same Y D 3 _ _ (I ((l.length : Int) + 1)) HO.out
    refine ⟨rfl, .slice a4 (l.length + 1) k4, ⟨?_, ?_, hm, ?_⟩, fun b e => (HV.out b e).imp id (fun h => Nat.le_trans b0 h), (f0.trans hZ5).set (b := D) (.inl (.inl rfl)) _ _⟩
    · rw [hM.out]
      refine Eq.trans o9 ?_
      simp
    · simp only [List.length_append, List.length_singleton]
      rw [show iV (l ++ [x]) = iV l ++ [I x] by simp [iV]]
      exact HP.out.kept (grown_set Y D 3 _) (.inr hnD)
    · simp only [List.length_append, List.length_singleton]
      omega
  · have hM : Hid (max hi (l.length + 1) = hi) := by show _ = _; omega
    have hxx : ¬ (hi : Int) < (l.length : Int) + 1 := by omega
    clear ee el
    go_quiet (fail)
    have HO := (below_drewN nq (Below.refl X.heap.size X)).block D (heap_lt HO.out) |>.trans HO.out
    have HP := own_below HP.out (below_drewN nq (Below.refl X.heap.size X))
    have hZ5 := hZ4.drewN nq
    clear c2 c3
    generalize X.drewN nq = Y at *
    have HO : Hid (Y.heap[D]? = some (.cells #[.bool true, I n, .slice a4 (l.length + 1) k4, I hi] 47)) := HO
    have HP : Hid (Y.ownsRow 0 3 1 (.slice a4 (l.length + 1) k4) (l.length + 1) (iV l ++ [I x])) := HP
    go_wp2
    go_ret
    refine ⟨rfl, .slice a4 (l.length + 1) k4, ⟨?_, ?_, hm, ?_⟩, fun b e => (HV.out b e).imp id (fun h => Nat.le_trans b0 h), f0.trans hZ5⟩
    · rw [hM.out]
      exact HO.out
    · simp only [List.length_append, List.length_singleton]
      rw [show iV (l ++ [x]) = iV l ++ [I x] by simp [iV]]
      exact HP.out
    · simp only [List.length_append, List.length_singleton]
      omega
end
end Go.Proofs.Ytckmdkdhnhkdhaa
