import Derived.Test.YtpoekphebmonnabUu
namespace Go.Proofs.Ytpoekphebmonnab
open Go.RowKit Go.Shelf Go.Sort
set_option linter.unusedVariables false
set_option linter.unusedSimpArgs false

/-! ### The document's Copy -/
theorem run_append_row {P : Program} (w : World) (base b2 : Nat) (t ty e : TypeId) (i : TypeInfo) (z : Value) (k bytes : Nat) (ht : P.underlying t = some (.slice e)) (hi : P.info? e = some i) (hz : i.zero = some z)
    (hsize : i.size = k) (hby : i.bytes = bytes) (hzs : z.cells.size = k) (hk : 0 < k) (v u : Value) (n m : Nat) (xs ys : List Value) (hown : w.ownsRow base e k v n xs) (hu : w.ownsRow b2 e k u m ys) (h1 : ∀ y ∈ ys, y.oneCell' = true)
    (h63 : n + m ≤ maxLen) (hbytes : (n + m) * bytes ≤ 140737488355328) (hbase : base ≤ w.heap.size) :
    ∃ v' w', (Builtin.append_ #[t, t] ty #[v, u]).run P w = .ok v' w' ∧ w'.ownsRow base e k v' (n + m) (xs ++ ys) ∧ w.grownBy w' v.ownBlock := by
  rcases hu.2 with ⟨rfl, rfl⟩ | ⟨g, cap, cur, rfl, _⟩
  · have hy : ys = [] := List.eq_nil_of_length_eq_zero (by have := hu.1; simpa using this)
    subst hy
    exact ⟨v, w, run_append_owned_none (P := P) w base t ty e i k ht hi v n xs hown, by simpa using hown, grown_refl _ _⟩
  · obtain ⟨v', w', hr, h2, h3, _⟩ := run_append_own (P := P) w base t ty e i z k bytes ht hi hz hsize hby hzs hk v n xs hown ⟨g, 0, none⟩ m cap ys hu.1 (hu.cells rfl) h1 h63 hbytes hbase
    exact ⟨v', w', hr, h2, h3⟩
theorem wpList_append_row {P : Program} (w : World) {ops : Array Oper} {rest : List Oper} {o : Oper} {a : Act} {Q : Exit → Act → World → Prop} (hgd : o.guard = none) (s x : Operand) (t : TypeId)
    (ho : o.op = .call { callee := .builtin .append, args := #[s, x], argTypes := #[t, t] })
    (base b2 : Nat) (e : TypeId) (i : TypeInfo) (z : Value) (k bytes : Nat) (ht : P.underlying t = some (.slice e)) (hi : P.info? e = some i) (hz : i.zero = some z)
    (hsize : i.size = k) (hby : i.bytes = bytes) (hzs : z.cells.size = k) (hk : 0 < k) (v u : Value) (n m : Nat) (xs ys : List Value) (hs : a.eval s = v) (hx : a.eval x = u) (hown : w.ownsRow base e k v n xs) (hu : w.ownsRow b2 e k u m ys) (h1 : ∀ y ∈ ys, y.oneCell' = true)
    (h63 : n + m ≤ maxLen) (hbytes : (n + m) * bytes ≤ 140737488355328) (hbase : base ≤ w.heap.size)
    (h : ∀ v' w', w'.ownsRow base e k v' (n + m) (xs ++ ys) → w.grownBy w' v.ownBlock → wpList P ops Q rest (a.put o.dst v') w') :
    wpList P ops Q (o :: rest) a w := by
  refine wpList_plain hgd fun K hK => ?_
  obtain ⟨v', w', hr, h2, h3⟩ := run_append_row (P := P) w base b2 t o.type e i z k bytes ht hi hz hsize hby hzs hk v u n m xs ys hown hu h1 h63 hbytes hbase
  unfold Oper.wp execOp
  simp only [ho, resolve, invoke, builtin, Sem.run_bind, Sem.run_pure, Result.andThen_ok, List.map_toArray, List.map_cons, List.map_nil, hs, hx, hr]
  exact hK _ _ (h v' w' h2 h3)
theorem step_append_row {P : Program} {ops : Array Oper} {o : Oper} {a : Act} {w : World} {K : Act → World → Prop} {Q : Exit → Act → World → Prop} {E : Prop} (hgd : o.guard = none) (s x : Operand) (t : TypeId)
    (ho : o.op = .call { callee := .builtin .append, args := #[s, x], argTypes := #[t, t] })
    (base b2 : Nat) (e : TypeId) (i : TypeInfo) (z : Value) (k bytes : Nat) (ht : P.underlying t = some (.slice e)) (hi : P.info? e = some i) (hz : i.zero = some z)
    (hsize : i.size = k) (hby : i.bytes = bytes) (hzs : z.cells.size = k) (hk : 0 < k) (v u : Value) (n m : Nat) (xs ys : List Value) (hs : a.eval s = v) (hx : a.eval x = u) (hown : w.ownsRow base e k v n xs) (hu : w.ownsRow b2 e k u m ys) (h1 : ∀ y ∈ ys, y.oneCell' = true)
    (h63 : n + m ≤ maxLen) (hbytes : (n + m) * bytes ≤ 140737488355328) (hbase : base ≤ w.heap.size)
    (h : ∀ v' w', w'.ownsRow base e k v' (n + m) (xs ++ ys) → w.grownBy w' v.ownBlock → K (a.put o.dst v') w') :
    if Region.wanted o (yielded ops a.tmps) = true then Oper.wp P o a w K Q else E := by
  have hw : Region.wanted o (yielded ops a.tmps) = true := by simp [Region.wanted, hgd]
  rw [if_pos hw]
  obtain ⟨v', w', hr, h2, h3⟩ := run_append_row (P := P) w base b2 t o.type e i z k bytes ht hi hz hsize hby hzs hk v u n m xs ys hown hu h1 h63 hbytes hbase
  unfold Oper.wp
  simp [execOp, ho, resolve, invoke, builtin, hs, hx, hr, Result.andThen]
  exact h v' w' h2 h3
section
variable {w w' : World} {D G bs L V : Nat} {v : Value} {s : ByteArray} {al : List Alm}
set_option maxHeartbeats 8000000 in
set_option maxRecDepth 100000 in
theorem dCopy_any (h : Dk w D v s G bs L V al) : Calls Try.prog 10 #[cP D] w fun e w' => ∃ D2 v2, e = .returned (cP D2) ∧ Dk w' D2 v2 s G bs L V al ∧ (∀ b, Cb D2 v2 b → w.heap.size ≤ b) ∧ Below w.heap.size w w' := by
  obtain ⟨i0, hi0, hz0, hz1, hz2⟩ := info_parts dinfo
  have hn64 := h.n
  have HH : Hid (Dk w D v s G bs L V al) := h
  have c0 : w.cell? ⟨D, 0, none⟩ = some (.bool true) := h.cells.1
  have c1 : w.cell? ⟨D, 1, none⟩ = some (.string s) := by rw [cell_of_row w D _ _ _ (0, 0) h.o]; rfl
  have c2 : w.cell? ⟨D, 2, none⟩ = some (U G) := h.cells.2.1
  have c3 : w.cell? ⟨D, 3, none⟩ = some (U bs) := by rw [cell_of_row w D _ _ _ (0, 0) h.o]; rfl
  have c4 : w.cell? ⟨D, 4, none⟩ = some (U L) := h.cells.2.2.1
  have c5 : w.cell? ⟨D, 5, none⟩ = some (U V) := h.cells.2.2.2.1
  obtain ⟨a, c, rfl⟩ := own_sl h.p
  have hD : D < w.heap.size := heap_lt h.o
  clear h
  go_enter Try.func10, Try.ntmps10
  go_wp2
  go_region_held_law (fun w' => w'.cell? ⟨D, 0, none⟩ = some (.bool true) ∧ w'.cell? ⟨D, 1, none⟩ = some (.string s) ∧ w'.cell? ⟨D, 2, none⟩ = some (U G) ∧ w'.cell? ⟨D, 3, none⟩ = some (U bs) ∧ w'.cell? ⟨D, 4, none⟩ = some (U L) ∧ w'.cell? ⟨D, 5, none⟩ = some (U V)) (first | exact ⟨c0, c1, c2, c3, c4, c5⟩ | (go_keep; done)) (fail)
  all_goals
    have hO : (w.alloc (.cells (dkC s G bs L V (.slice none 0 0)) 47)).drew.heap[w.heap.size]? = some (.cells (dkC s G bs L V (.slice none 0 0)) 47) := heap_alloc_new w _
    have hB : Below w.heap.size w (w.alloc (.cells (dkC s G bs L V (.slice none 0 0)) 47)).drew := (below_alloc w _).drew
    have hs9 : w.heap.size < (w.alloc (.cells (dkC s G bs L V (.slice none 0 0)) 47)).drew.heap.size := heap_lt hO
    go_upto_region 2 with (first | fail)
    generalize hw9 : (w.alloc (.cells (dkC s G bs L V (.slice none 0 0)) 47)).drew = w9 at *
    clear hw9 c0 c1 c2 c3 c4 c5
    have K9 := HH.out.below hB
    obtain ⟨-, -, -, -, k6⟩ := K9.cells
    have z6 : w9.cell? ⟨w.heap.size, 6, none⟩ = some (.slice none 0 0) := by rw [cell_of_row w9 w.heap.size _ _ _ (0, 0) hO]; rfl
    have zf : w9.frozen? ⟨w.heap.size, 6, none⟩ = false := frozen_of_row w9 w.heap.size 6 _ _ hO
    have K9d := K9.below ((Below.refl _ w9).drew)
    go_region_law (first
      | (refine step_append_row rfl (.tmp 22) (.tmp 26) 45 rfl w9.heap.size 0 65 i0 (.agg #[.bool false, .int .u64 0, .int .u32 0]) 3 24 Try.underlying45 hi0 hz0 hz1 hz2 rfl (by decide) (.slice none 0 0) (.slice a al.length c) 0 al.length [] (flD (d0L al)) (by simp [Act.eval, Act.put]) (by simp [Act.eval, Act.put]) (World.ownsRow_nil _ _ _ _) K9d.p (flD_one _) (by unfold maxLen; omega) (by omega) (Nat.le_refl _) ?_; intro v4 w4 h4 hg4; rw [Nat.zero_add, List.nil_append] at h4; obtain ⟨a4, k4, rfl⟩ := own_sl h4; have F4 : Fz (fun _ => False) w9 w4 := ((Fz.refl _ w9).drewN 1).trans (fz_none hg4 _); have hO4 := F4.heap hO id; have q1 : w4.frozen? ⟨w.heap.size, 6, none⟩ = false := frozen_of_row w4 w.heap.size 6 _ _ hO4; have q2 : w4.cell? ⟨w.heap.size, 6, none⟩ = some (.slice none 0 0) := (by rw [cell_of_row w4 w.heap.size _ _ _ (0, 0) hO4]; rfl)))
    all_goals
      go_wp2
      go_ret
      have F5 : Fz (fun b => b = w.heap.size) w4 (w4.setCell ⟨w.heap.size, 6, none⟩ (.slice a4 al.length k4)) := (Fz.refl (fun b => b = w.heap.size) w4).set (.inl rfl) 6 _
      have hlt4 : ∀ g, (Value.slice a4 al.length k4).ownBlock = some g → w9.heap.size ≤ g := fun g e => (h4.lt g e).1
      have B4 : Below w.heap.size w w4 := hB.trans (F4.below hB.size (fun _ e => e.elim))
      refine ⟨w.heap.size, .slice a4 al.length k4, rfl, ⟨heap_setCell_same w4 w.heap.size 6 _ _ _ hO4, own_base (F5.own h4 (fun g e e2 => by have := hlt4 g e; omega)) (Nat.zero_le _), fun e => by have := hlt4 _ e; omega, HH.out.b, HH.out.n, HH.out.x⟩, ?_, B4.trans (F5.below B4.size (by rintro x rfl; exact Nat.le_refl _))⟩
      rintro b (rfl | e)
      · exact Nat.le_refl _
      · have := hlt4 b e; omega
end
end Go.Proofs.Ytpoekphebmonnab
