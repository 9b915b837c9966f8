import Derived.Test.YticgikbnlpgnkaaYt
namespace Go.Proofs.Yticgikbnlpgnkaa
open Go.RowKit
set_option linter.unusedVariables false
set_option linter.unusedSimpArgs false

/-! ### The document's queue, as it is laid -/
theorem step_append_gat {P : Program} {ops : Array Oper} {o : Oper} {a : Act} {w : World} {K : Act → World → Prop} {Q : Exit → Act → World → Prop} {E : Prop} (hgd : o.guard = none) (s x : Operand) (t : TypeId)
    (ho : o.op = .call { callee := .builtin .append, args := #[s, x], argTypes := #[t, t] })
    (base : Nat) (e : TypeId) (i : TypeInfo) (z : Value) (size bytes : Nat) (ht : P.underlying t = some (.slice e)) (hi : P.info? e = some i) (hz : i.zero = some z)
    (hsize : i.size = size) (hby : i.bytes = bytes) (hzs : z.cells.size = size) (hsz : 0 < size) (v : Value) (n : Nat) (xs : List Value) (hs : a.eval s = v) (hown : w.ownsRow base e size v n xs)
    (ad : Addr) (m c : Nat) (news : List Value) (hx : a.eval x = .slice (some ad) m c) (hl : news.length = m * size) (hnews : ∀ j u, news[j]? = some u → w.cell? (ad.add j) = some u) (h1 : ∀ y ∈ news, y.oneCell' = true)
    (h63 : n + m ≤ maxLen) (hbytes : (n + m) * bytes ≤ 140737488355328) (hbase : base ≤ w.heap.size)
    (h : ∀ v' w', w'.ownsRow base e size v' (n + m) (xs ++ news) → w.grownBy w' v.ownBlock → (v'.ownBlock = v.ownBlock ∨ v'.ownBlock = some w.heap.size) → K (a.put o.dst v') w') :
    if Region.wanted o (yielded ops a.tmps) = true then Oper.wp P o a w K Q else E := by
  have hw : Region.wanted o (yielded ops a.tmps) = true := by simp [Region.wanted, hgd]
  rw [if_pos hw]
  obtain ⟨v', w', hr, h2, h3, _, h5⟩ := run_append_own_at (P := P) w base t o.type e i z size bytes ht hi hz hsize hby hzs hsz v n xs hown ad m c news hl hnews h1 h63 hbytes hbase
  unfold Oper.wp
  simp [execOp, ho, resolve, invoke, builtin, hs, hx, hr, Result.andThen]
  exact h v' w' h2 h3 h5
/-- The document's queue while it is laid: its block C, its three rows. -/
structure DP (w0 wr : World) (C : Nat) (rws : List (Int × Int)) (Ls : List (List Int)) (hs : List Int) (vr vl vh : Value) (ls : List Sl) : Prop where
  o : wr.heap[C]? = some (.cells #[vr, vl, vh] 78)
  r : wr.ownsRow w0.heap.size 65 2 vr rws.length (pairsC rws)
  l : wr.ownsRow w0.heap.size 76 1 vl Ls.length (ls.map slV)
  h : wr.ownsRow w0.heap.size 3 1 vh hs.length (intsV hs)
  n : ls.length = Ls.length
  s : ∀ (i : Nat) (x : List Int) (s : Sl), Ls[i]? = some x → ls[i]? = some s → RowsAt wr 1 inP s x ∧ ∀ g off, s.a = some ⟨g, off, none⟩ → w0.heap.size ≤ g ∧ vh.ownBlock ≠ some g ∧ ∃ cs, wr.heap[g]? = some (.cells cs 3)
  b : Below w0.heap.size w0 wr
  c : w0.heap.size ≤ C
section
variable {w0 wr : World} {C : Nat} {rws : List (Int × Int)} {Ls : List (List Int)} {hs : List Int} {vr vl vh : Value} {ls : List Sl}
theorem DP.cells (h : DP w0 wr C rws Ls hs vr vl vh ls) : wr.cell? ⟨C, 0, none⟩ = some vr ∧ wr.cell? ⟨C, 1, none⟩ = some vl ∧ wr.cell? ⟨C, 2, none⟩ = some vh ∧ ∀ j, wr.frozen? ⟨C, j, none⟩ = false := by
  refine ⟨?_, ?_, ?_, fun j => frozen_of_row wr C j _ _ h.o⟩ <;> (rw [cell_of_row wr C _ _ _ (0, 0) h.o]; rfl)
/-- What lies in no block of M stands. -/
theorem DP.kept (h : DP w0 wr C rws Ls hs vr vl vh ls) {M : Nat → Prop} {w' : World} (hf : Fz M wr w') (hC : ¬ M C) (hr : ∀ g, vr.ownBlock = some g → ¬ M g) (hl : ∀ g, vl.ownBlock = some g → ¬ M g) (hh : ∀ g, vh.ownBlock = some g → ¬ M g) (hi : ∀ g cs, wr.heap[g]? = some (.cells cs 3) → vh.ownBlock ≠ some g → ¬ M g) (hM : ∀ g, M g → w0.heap.size ≤ g) : DP w0 w' C rws Ls hs vr vl vh ls :=
  ⟨hf.heap h.o hC, hf.own h.r hr, hf.own h.l hl, hf.own h.h hh, h.n, fun i x s hx hs2 => by
    obtain ⟨k1, k2⟩ := h.s i x s hx hs2
    refine ⟨inRows_kept k1 hf (fun g off e => ?_), fun g off e => ?_⟩
    · obtain ⟨m1, m2, cs, m3⟩ := k2 g off e
      exact hi g cs m3 m2
    · obtain ⟨m1, m2, cs, m3⟩ := k2 g off e
      exact ⟨m1, m2, cs, hf.heap m3 (hi g cs m3 m2)⟩, h.b.trans (hf.below h.b.size hM), h.c⟩
theorem DP.below (h : DP w0 wr C rws Ls hs vr vl vh ls) {w' : World} (hb : Below wr.heap.size wr w') : DP w0 w' C rws Ls hs vr vl vh ls :=
  h.kept (M := fun _ => False) (Fz.of_below hb) id (fun _ _ e => e) (fun _ _ e => e) (fun _ _ e => e) (fun _ _ _ _ e => e) (fun _ e => e.elim)
theorem grown_fz {W w1 : World} {O : Obj} {v : Value} (hg : (W.alloc O).grownBy w1 v.ownBlock) : Fz (fun b => v.ownBlock = some b) W w1 :=
  ⟨hg.os, hg.tape, hg.output, by have := hg.size; simp at this; omega, fun i hi hn => (hg.block i (by simp; omega) (fun e => hn e.symm)).trans ((below_alloc W O).block i hi)⟩
theorem DP.addR (h : DP w0 wr C rws Ls hs vr vl vh ls) {O : Obj} {v' : Value} {w1 : World} {p c : Int} (ho : w1.ownsRow w0.heap.size 65 2 v' (rws.length + 1) (pairsC rws ++ [I p, I c])) (hg : (wr.alloc O).grownBy w1 vr.ownBlock) :
    DP w0 (w1.setCell ⟨C, 0, none⟩ v') C (rws ++ [(p, c)]) Ls hs v' vl vh ls := by
  have hF := grown_fz hg
  obtain ⟨t1, k1⟩ : ∃ t, t = wr.heap[C]? := ⟨_, rfl⟩
  have hrt : ∀ b, vr.ownBlock = some b → ∃ cs, wr.heap[b]? = some (.cells cs 65) := fun b hb => own_blk h.r hb
  have hCn : ¬ vr.ownBlock = some C := fun e => by obtain ⟨cs, hcs⟩ := hrt C e; exact ty_ne h.o hcs (by decide) rfl
  have hln : ∀ g, vl.ownBlock = some g → ¬ vr.ownBlock = some g := fun g e e2 => by
    obtain ⟨c1, h1⟩ := own_blk h.l e
    obtain ⟨c2, h2⟩ := hrt g e2
    exact ty_ne h1 h2 (by decide) rfl
  have hin : ∀ g cs, wr.heap[g]? = some (.cells cs 3) → ¬ vr.ownBlock = some g := fun g cs hg e2 => by
    obtain ⟨c2, h2⟩ := hrt g e2
    exact ty_ne hg h2 (by decide) rfl
  have hhn : ∀ g, vh.ownBlock = some g → ¬ vr.ownBlock = some g := fun g e e2 => by
    obtain ⟨c1, h1⟩ := own_blk h.h e
    exact hin g c1 h1 e2
  have ho1 := hF.heap h.o hCn
  have hC0 := heap_setCell_same w1 C 0 _ _ v' ho1
  have gs : Fz (fun b => b = C) w1 (w1.setCell ⟨C, 0, none⟩ v') := (Fz.refl (fun b => b = C) w1).set (b := C) (.inl rfl) 0 _
  have l1 := hF.own h.l hln
  have h1 := hF.own h.h hhn
  have nC : ∀ {E b k n : Nat} {u : Value} {xs : List Value}, w1.ownsRow b E k u n xs → E ≠ 78 → ∀ g, u.ownBlock = some g → ¬ g = C := fun hu hE g e e2 => by
    obtain ⟨c1, h1⟩ := own_blk hu e
    rw [e2] at h1
    exact ty_ne h1 ho1 hE rfl
  have hsz : w0.heap.size ≤ w1.heap.size := Nat.le_trans h.b.size hF.size
  have b1 : Below w0.heap.size w0 w1 := h.b.trans (hF.below h.b.size (fun x e => (h.r.lt x e).1))
  refine ⟨hC0, ?_, gs.own l1 (nC l1 (by decide)), gs.own h1 (nC h1 (by decide)), h.n, fun i x s hx hs2 => ?_, b1.setCell (p := ⟨C, 0, none⟩) h.c _, h.c⟩
  · rw [pairsC_app, List.length_append]
    exact gs.own ho (nC ho (by decide))
  · obtain ⟨k1, k2⟩ := h.s i x s hx hs2
    have q : ∀ g off, s.a = some ⟨g, off, none⟩ → ¬ vr.ownBlock = some g ∧ ¬ g = C := fun g off e => by
      obtain ⟨m1, m2, cs, m3⟩ := k2 g off e
      refine ⟨hin g cs m3, fun e2 => ?_⟩
      rw [e2] at m3
      exact ty_ne m3 h.o (by decide) rfl
    refine ⟨inRows_kept (inRows_kept k1 hF (fun g off e => (q g off e).1)) gs (fun g off e => (q g off e).2), fun g off e => ?_⟩
    obtain ⟨m1, m2, cs, m3⟩ := k2 g off e
    exact ⟨m1, m2, cs, gs.heap (hF.heap m3 (q g off e).1) (q g off e).2⟩
theorem DP.addL (h : DP w0 wr C rws Ls hs vr vl vh ls) {O : Obj} {v' : Value} {w1 : World} {s' : Sl} {l' : List Int} (hR : RowsAt wr 1 inP s' l') (hs' : ∀ g off, s'.a = some ⟨g, off, none⟩ → w0.heap.size ≤ g ∧ vh.ownBlock ≠ some g ∧ ∃ cs, wr.heap[g]? = some (.cells cs 3)) (ho : w1.ownsRow w0.heap.size 76 1 v' (Ls.length + 1) (ls.map slV ++ [slV s'])) (hg : (wr.alloc O).grownBy w1 vl.ownBlock) :
    DP w0 (w1.setCell ⟨C, 1, none⟩ v') C rws (Ls ++ [l']) hs vr v' vh (ls ++ [s']) := by
  have hF := grown_fz hg
  have hrt : ∀ b, vl.ownBlock = some b → ∃ cs, wr.heap[b]? = some (.cells cs 76) := fun b hb => own_blk h.l hb
  have hCn : ¬ vl.ownBlock = some C := fun e => by obtain ⟨cs, hcs⟩ := hrt C e; exact ty_ne h.o hcs (by decide) rfl
  have hrn : ∀ g, vr.ownBlock = some g → ¬ vl.ownBlock = some g := fun g e e2 => by
    obtain ⟨c1, h1⟩ := own_blk h.r e
    obtain ⟨c2, h2⟩ := hrt g e2
    exact ty_ne h1 h2 (by decide) rfl
  have hin : ∀ g cs, wr.heap[g]? = some (.cells cs 3) → ¬ vl.ownBlock = some g := fun g cs hg e2 => by
    obtain ⟨c2, h2⟩ := hrt g e2
    exact ty_ne hg h2 (by decide) rfl
  have hhn : ∀ g, vh.ownBlock = some g → ¬ vl.ownBlock = some g := fun g e e2 => by
    obtain ⟨c1, h1⟩ := own_blk h.h e
    exact hin g c1 h1 e2
  have ho1 := hF.heap h.o hCn
  have hC0 := heap_setCell_same w1 C 1 _ _ v' ho1
  have gs : Fz (fun b => b = C) w1 (w1.setCell ⟨C, 1, none⟩ v') := (Fz.refl (fun b => b = C) w1).set (b := C) (.inl rfl) 1 _
  have r1 := hF.own h.r hrn
  have h1 := hF.own h.h hhn
  have nC : ∀ {E b k n : Nat} {u : Value} {xs : List Value}, w1.ownsRow b E k u n xs → E ≠ 78 → ∀ g, u.ownBlock = some g → ¬ g = C := fun hu hE g e e2 => by
    obtain ⟨c1, h1⟩ := own_blk hu e
    rw [e2] at h1
    exact ty_ne h1 ho1 hE rfl
  have b1 : Below w0.heap.size w0 w1 := h.b.trans (hF.below h.b.size (fun x e => (h.l.lt x e).1))
  have key : ∀ (x : List Int) (s : Sl), RowsAt wr 1 inP s x → (∀ g off, s.a = some ⟨g, off, none⟩ → w0.heap.size ≤ g ∧ vh.ownBlock ≠ some g ∧ ∃ cs, wr.heap[g]? = some (.cells cs 3)) → RowsAt (w1.setCell ⟨C, 1, none⟩ v') 1 inP s x ∧ ∀ g off, s.a = some ⟨g, off, none⟩ → w0.heap.size ≤ g ∧ vh.ownBlock ≠ some g ∧ ∃ cs, (w1.setCell ⟨C, 1, none⟩ v').heap[g]? = some (.cells cs 3) := fun x s k1 k2 => by
    have q : ∀ g off, s.a = some ⟨g, off, none⟩ → ¬ vl.ownBlock = some g ∧ ¬ g = C := fun g off e => by
      obtain ⟨m1, m2, cs, m3⟩ := k2 g off e
      refine ⟨hin g cs m3, fun e2 => ?_⟩
      rw [e2] at m3
      exact ty_ne m3 h.o (by decide) rfl
    refine ⟨inRows_kept (inRows_kept k1 hF (fun g off e => (q g off e).1)) gs (fun g off e => (q g off e).2), fun g off e => ?_⟩
    obtain ⟨m1, m2, cs, m3⟩ := k2 g off e
    exact ⟨m1, m2, cs, gs.heap (hF.heap m3 (q g off e).1) (q g off e).2⟩
  refine ⟨hC0, gs.own r1 (nC r1 (by decide)), ?_, gs.own h1 (nC h1 (by decide)), by simp [h.n], fun i x s hx hs2 => ?_, b1.setCell (p := ⟨C, 1, none⟩) h.c _, h.c⟩
  · rw [List.map_append, List.length_append]
    exact gs.own ho (nC ho (by decide))
  · by_cases hi : i < Ls.length
    · rw [List.getElem?_append_left hi] at hx
      rw [List.getElem?_append_left (by rw [h.n]; exact hi)] at hs2
      obtain ⟨k1, k2⟩ := h.s i x s hx hs2
      exact key x s k1 k2
    · rw [List.getElem?_append_right (by omega)] at hx
      rw [List.getElem?_append_right (by rw [h.n]; omega), h.n] at hs2
      have hz : i - Ls.length = 0 := by
        rcases Nat.eq_zero_or_pos (i - Ls.length) with e | e
        · exact e
        · rw [List.getElem?_eq_none (by simp; omega)] at hx
          cases hx
      rw [hz] at hx hs2
      simp at hx hs2
      subst hx hs2
      exact key l' s' hR hs'
theorem DP.addH (h : DP w0 wr C rws Ls hs vr vl vh ls) {O : Obj} {v' : Value} {w1 : World} {q : Int} (ho : w1.ownsRow w0.heap.size 3 1 v' (hs.length + 1) (intsV hs ++ [I q])) (hg : (wr.alloc O).grownBy w1 vh.ownBlock) (hat : v'.ownBlock = vh.ownBlock ∨ v'.ownBlock = some (wr.alloc O).heap.size) :
    DP w0 (w1.setCell ⟨C, 2, none⟩ v') C rws Ls (hs ++ [q]) vr vl v' ls := by
  have hF := grown_fz hg
  have hrt : ∀ b, vh.ownBlock = some b → ∃ cs, wr.heap[b]? = some (.cells cs 3) := fun b hb => own_blk h.h hb
  have hCn : ¬ vh.ownBlock = some C := fun e => by obtain ⟨cs, hcs⟩ := hrt C e; exact ty_ne h.o hcs (by decide) rfl
  have hrn : ∀ g, vr.ownBlock = some g → ¬ vh.ownBlock = some g := fun g e e2 => by
    obtain ⟨c1, h1⟩ := own_blk h.r e
    obtain ⟨c2, h2⟩ := hrt g e2
    exact ty_ne h1 h2 (by decide) rfl
  have hln : ∀ g, vl.ownBlock = some g → ¬ vh.ownBlock = some g := fun g e e2 => by
    obtain ⟨c1, h1⟩ := own_blk h.l e
    obtain ⟨c2, h2⟩ := hrt g e2
    exact ty_ne h1 h2 (by decide) rfl
  have ho1 := hF.heap h.o hCn
  have hC0 := heap_setCell_same w1 C 2 _ _ v' ho1
  have gs : Fz (fun b => b = C) w1 (w1.setCell ⟨C, 2, none⟩ v') := (Fz.refl (fun b => b = C) w1).set (b := C) (.inl rfl) 2 _
  have r1 := hF.own h.r hrn
  have l1 := hF.own h.l hln
  have nC : ∀ {E b k n : Nat} {u : Value} {xs : List Value}, w1.ownsRow b E k u n xs → E ≠ 78 → ∀ g, u.ownBlock = some g → ¬ g = C := fun hu hE g e e2 => by
    obtain ⟨c1, h1⟩ := own_blk hu e
    rw [e2] at h1
    exact ty_ne h1 ho1 hE rfl
  have b1 : Below w0.heap.size w0 w1 := h.b.trans (hF.below h.b.size (fun x e => (h.h.lt x e).1))
  refine ⟨hC0, gs.own r1 (nC r1 (by decide)), gs.own l1 (nC l1 (by decide)), ?_, h.n, fun i x s hx hs2 => ?_, b1.setCell (p := ⟨C, 2, none⟩) h.c _, h.c⟩
  · rw [← intsV_snoc, List.length_append]
    exact gs.own ho (nC ho (by decide))
  · obtain ⟨k1, k2⟩ := h.s i x s hx hs2
    have q : ∀ g off, s.a = some ⟨g, off, none⟩ → ¬ vh.ownBlock = some g ∧ ¬ g = C := fun g off e => by
      obtain ⟨m1, m2, cs, m3⟩ := k2 g off e
      refine ⟨m2, fun e2 => ?_⟩
      rw [e2] at m3
      exact ty_ne m3 h.o (by decide) rfl
    refine ⟨inRows_kept (inRows_kept k1 hF (fun g off e => (q g off e).1)) gs (fun g off e => (q g off e).2), fun g off e => ?_⟩
    obtain ⟨m1, m2, cs, m3⟩ := k2 g off e
    refine ⟨m1, fun e2 => ?_, cs, gs.heap (hF.heap m3 (q g off e).1) (q g off e).2⟩
    rcases hat with e3 | e3
    · exact m2 (e3.symm.trans e2)
    · rw [e3] at e2
      have := heap_lt m3
      simp at e2
      omega
/-- It is laid. -/
theorem DP.done (h : DP w0 wr C rws Ls hs vr vl vh ls) {rs : List Rr} (e1 : rws = rowP rs) (e2 : Ls = rs.map (·.l)) (e3 : hs = rs.map fun r => (r.h : Int)) (N : Nat → Prop) (hN : ∀ b, N b → b < w0.heap.size) : ∃ Y, DQ wr C N Y rs ∧ ∀ b, Y b → w0.heap.size ≤ b := by
  subst e1 e2 e3
  refine ⟨fun b => vl.ownBlock = some b ∨ vh.ownBlock = some b, ⟨vr, vl, vh, ls, h.o, ?_, ?_, ?_, by simpa using h.n, fun i x s hx hs2 => ?_, fun g e => e, fun g e => ?_, ?_, fun g e hn => ?_⟩, fun b hb => ?_⟩
  · have := h.r
    rw [show (rowP rs).length = rs.length by simp [rowP]] at this
    exact own_base this (Nat.zero_le _)
  · have := h.l
    rw [List.length_map] at this
    exact own_base this (Nat.zero_le _)
  · have := h.h
    rw [List.length_map, show intsV (rs.map fun r => (r.h : Int)) = highV rs by simp [intsV, highV]] at this
    exact own_base this (Nat.zero_le _)
  · obtain ⟨k1, k2⟩ := h.s i x.l s (by simp [hx]) hs2
    refine ⟨k1, fun g off e => ?_⟩
    obtain ⟨m1, m2, m3⟩ := k2 g off e
    exact ⟨fun hn => by have := hN g hn; omega, m2, m3⟩
  · rcases e with e | e
    · have := h.l.lt g e
      exact ⟨this.2, fun hn => by have := hN g hn; omega⟩
    · have := h.h.lt g e
      exact ⟨this.2, fun hn => by have := hN g hn; omega⟩
  · exact fun hn => by have := hN C hn; have := h.c; omega
  · have := hN g hn
    have := (h.r.lt g e).1
    omega
  · rcases hb with e | e
    · exact (h.l.lt b e).1
    · exact (h.h.lt b e).1
end
end Go.Proofs.Yticgikbnlpgnkaa
