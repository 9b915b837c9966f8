import Derived.Test.YtlbgppijeoonjaaGreatDoorScaX
import Derived.Test.YtlbgppijeoonjaaGreatDoorAtr
namespace Go.Proofs.YtlbgppijeoonjaaGreatDoor
open Go.RowKit
set_option linter.unusedVariables false

/-- The parser's block: what is left to read. -/
structure Pa (w : World) (r tb : Nat) (xs : List Tp) (v : Value) : Prop where
  hheap : w.heap[r]? = some (.cells #[v] 91 (0, 0))
  row : RowT w v xs
  loc : ∃ off n cap, v = .slice (some ⟨tb, off, none⟩) n cap
  ne : tb ≠ r
  tlt : tb < w.heap.size
theorem Pa.ap {w : World} {r tb : Nat} {xs : List Tp} {v : Value} (h : Pa w r tb xs v) : ∀ g off n cap, v = .slice (some ⟨g, off, none⟩) n cap → g ≠ r := by
  intro g off n cap e
  obtain ⟨o1, n1, c1, e1⟩ := h.loc
  rw [e1] at e
  cases e
  exact h.ne
theorem Pa.cell {w : World} {r tb : Nat} {xs : List Tp} {v : Value} (h : Pa w r tb xs v) : w.cell? ⟨r, 0, none⟩ = some v := by rw [cell_of_row w r 0 _ _ (0, 0) h.hheap]; rfl
theorem Pa.fz {w : World} {r tb : Nat} {xs : List Tp} {v : Value} (h : Pa w r tb xs v) (i : Nat) : w.frozen? ⟨r, i, none⟩ = false := frozen_of_row w r i _ _ h.hheap
theorem Pa.lt {w : World} {r tb : Nat} {xs : List Tp} {v : Value} (h : Pa w r tb xs v) : r < w.heap.size := heap_lt h.hheap
/-- The row's first token. -/
theorem row_head {w : World} {v : Value} {x : Tp} {r : List Tp} (h : RowT w v (x :: r)) : ∃ g off cap, v = .slice (some ⟨g, off, none⟩) (r.length + 1) cap ∧ r.length + 1 ≤ cap ∧ g < w.heap.size ∧
    (∀ i u, (tpL x)[i]? = some u → w.cell? ⟨g, off + i, none⟩ = some u) ∧ RowT w (.slice (some ⟨g, off + 7, none⟩) r.length (cap - 1)) r := by
  cases h with
  | @some g off cap xs hg hc hl =>
    refine ⟨g, off, cap, rfl, hl, hg, fun i u hu => hc i u ?_, ?_⟩
    · have e : tpsL (x :: r) = tpL x ++ tpsL r := rfl
      rw [e, List.getElem?_append_left (by have := (List.getElem?_eq_some_iff.1 hu).1; exact this)]
      exact hu
    · refine .some hg (fun j u hu => ?_) (by simp at hl; omega)
      have e : tpsL (x :: r) = tpL x ++ tpsL r := rfl
      have hl : (tpL x).length = 7 := rfl
      rw [Nat.add_assoc]
      refine hc (7 + j) u ?_
      rw [e, List.getElem?_append_right (by omega), hl, show 7 + j - 7 = j by omega]
      exact hu
theorem beq_dec (a b : Int) : (a == b) = decide (a = b) := by
  by_cases h : a = b
  · rw [h]; simp
  · rw [decide_eq_false h, beq_eq_false_iff_ne]; exact h
set_option maxHeartbeats 1000000 in
theorem pcomes_any (r tb : Nat) (x : Tp) (xs : List Tp) (v : Value) (k : Int) (w : World) (h : Pa w r tb (x :: xs) v) :
    Calls Tryz.prog 68 #[.pointer (some ⟨r, 0, none⟩), .int .i64 k] w fun e w' => e = .returned (.bool (decide (x.z.kind = k))) ∧ w = w' := by
  obtain ⟨g, off, cap, rfl, hl, hg, hc, hr⟩ := row_head h.row
  have c := h.cell
  have c0 : w.cell? ⟨g, off, none⟩ = some (.int .i64 x.z.kind) := hc 0 _ rfl
  have hlen : ¬ ((xs.length : Int) + 1 ≤ 0) := by omega
  clear hc hr
  go_enter Tryz.func68, Tryz.ntmps68
  go_wp2
  go_ret
  exact ⟨ret_bool (beq_dec _ _), rfl⟩
/-- What a panic of the parser's leaves. -/
def Gup (w : World) (c : Nat) (x : Tp) (e : Ending) (w' : World) : Prop :=
  ∃ q p, e = .panicked [{ v := .iface 117 (.pointer (some ⟨q, 0, none⟩)), recovered := false }] ∧ w.heap.size ≤ q ∧ w.heap.size ≤ p ∧ w'.heap[q]? = some (.cells #[.iface 116 (.pointer (some ⟨p, 0, none⟩))] 178 (0, 0)) ∧
    w'.heap[p]? = some (.cells #[.int .i64 (c : Int), .int .i64 x.o, .int .i64 x.l, .int .i64 x.c] 122 (0, 0))
set_option maxHeartbeats 1000000 in
theorem giveUp_any (r tb : Nat) (x : Tp) (xs : List Tp) (v : Value) (c : Nat) (w : World) (h : Pa w r tb (x :: xs) v) :
    Calls Tryz.prog 87 #[.pointer (some ⟨r, 0, none⟩), .int .i64 (c : Int)] w fun e w' => Gup w c x e w' ∧ Below w.heap.size w w' := by
  obtain ⟨g, off, cap, rfl, hl, hg, hc, hr⟩ := row_head h.row
  have cc := h.cell
  have c1 : w.cell? ⟨g, off + 1, none⟩ = some (.int .i64 x.o) := hc 1 _ rfl
  have c2 : w.cell? ⟨g, off + 2, none⟩ = some (.int .i64 x.l) := hc 2 _ rfl
  have c3 : w.cell? ⟨g, off + 3, none⟩ = some (.int .i64 x.c) := hc 3 _ rfl
  have hlen : ¬ ((xs.length : Int) + 1 ≤ 0) := by omega
  clear hc hr
  go_enter Tryz.func87, Tryz.ntmps87
  go_wp2
  refine ⟨rfl, ⟨w.heap.size + 1, w.heap.size, rfl, by omega, by omega, ?_, ?_⟩, ((Below.refl _ _).alloc (Nat.le_refl _) _).alloc (by simp) _⟩
  · show ((w.heap.push _).push _)[w.heap.size + 1]? = _
    have := push_at (w.heap.push (.cells #[.int .i64 (c : Int), .int .i64 x.o, .int .i64 x.l, .int .i64 x.c] 122)) (.cells #[.iface 116 (.pointer (some ⟨w.heap.size, 0, none⟩))] 178)
    rwa [Array.size_push] at this
  · show ((w.heap.push _).push _)[w.heap.size]? = _
    rw [push_lt _ _ _ (by simp), push_at]
theorem row_grown {w w' : World} {v : Value} {xs : List Tp} {r : Nat} (h : RowT w v xs) (hg : w.grownBy w' (some r)) (hne : ∀ g off n cap, v = .slice (some ⟨g, off, none⟩) n cap → g ≠ r) : RowT w' v xs := by
  cases h with
  | nil => exact .nil
  | @some g off cap xs a b c =>
    refine .some (Nat.lt_of_lt_of_le a hg.size) (fun j u hj => ?_) c
    have := hne g off _ cap rfl
    rw [World.cell?_of_block (hg.block g a (fun e => by cases e; exact this rfl))]
    exact b j u hj
theorem Pa.below {w w' : World} {r tb : Nat} {xs : List Tp} {v : Value} (h : Pa w r tb xs v) (hb : Below w.heap.size w w') : Pa w' r tb xs v :=
  ⟨(hb.block _ h.lt).trans h.hheap, rowT_below h.row hb, h.loc, h.ne, Nat.lt_of_lt_of_le h.tlt hb.size⟩
theorem Pa.alloc {w : World} {r tb : Nat} {xs : List Tp} {v : Value} (h : Pa w r tb xs v) (o : Obj) : Pa (w.alloc o) r tb xs v := h.below ((Below.refl _ _).alloc (Nat.le_refl _) o)
/-- The rest is set. -/
theorem Pa.set {w : World} {r tb : Nat} {xs ys : List Tp} {v : Value} (h : Pa w r tb xs v) {off n cap : Nat} (hy : RowT w (.slice (some ⟨tb, off, none⟩) n cap) ys) : Pa (w.setCell ⟨r, 0, none⟩ (.slice (some ⟨tb, off, none⟩) n cap)) r tb ys (.slice (some ⟨tb, off, none⟩) n cap) :=
  ⟨heap_setCell_same _ r 0 _ _ _ h.hheap, row_grown hy (grown_set _ _ _ _) (fun g o1 n1 c1 e => by cases e; exact h.ne), ⟨_, _, _, rfl⟩, h.ne, by simpa using h.tlt⟩
/-- What a rule of the parser leaves. -/
def PPost {α : Type} (w : World) (r tb : Nat) (V : α → Value → World → Prop) (m : PR α) (e : Ending) (w' : World) : Prop :=
  match m with
  | .ok a s => ∃ u v, e = .returned u ∧ V a u w' ∧ Pa w' r tb s v ∧ w.grownBy w' (some r)
  | .bad c x => Gup w c x e w' ∧ w.grownBy w' (some r)
def VTok (x : Tp) (u : Value) (_ : World) : Prop := u = tzV x.z x.o x.l x.c
/-- What is behind the row's first token, as the slice expression has it. -/
theorem row_tail {w : World} {x : Tp} {ys : List Tp} {g off cap : Nat} (hl : ys.length + 1 ≤ cap) (hr : RowT w (.slice (some ⟨g, off + 7, none⟩) ys.length (cap - 1)) ys) :
    ∃ off' cap', RowT w (.slice (some ⟨g, off', none⟩) ys.length cap') ys ∧ ∀ W : World, (Instr.slice 51 (.slice (some ⟨g, off, none⟩) (ys.length + 1) cap) (some (.int .i64 1)) none none).run Tryz.prog W = .ok (.slice (some ⟨g, off', none⟩) ys.length cap') W := by
  by_cases hc : cap = 1
  · subst hc
    have : ys = [] := List.eq_nil_of_length_eq_zero (by omega)
    subst this
    refine ⟨off, 0, .nil, fun W => ?_⟩
    simp [go_sem]
  · refine ⟨off + 7, cap - 1, hr, fun W => ?_⟩
    have h2 : (1 : Int) ≤ (ys.length : Int) + 1 := by omega
    simp [go_sem, hc, h2]
/-- A variable of a token. -/
theorem var7 {w : World} {b : Nat} {v0 v1 v2 v3 v4 v5 v6 : Value} {t : TypeId} (h : w.heap[b]? = some (.cells #[v0, v1, v2, v3, v4, v5, v6] t (0, 0))) :
    (w.cell? ⟨b, 0, none⟩ = some v0 ∧ w.cell? ⟨b, 1, none⟩ = some v1 ∧ w.cell? ⟨b, 2, none⟩ = some v2 ∧ w.cell? ⟨b, 3, none⟩ = some v3 ∧ w.cell? ⟨b, 4, none⟩ = some v4 ∧ w.cell? ⟨b, 5, none⟩ = some v5 ∧ w.cell? ⟨b, 6, none⟩ = some v6) ∧ ∀ i, w.frozen? ⟨b, i, none⟩ = false := by
  have a1 := fun i => cell_of_row w b i _ _ (0, 0) h
  exact ⟨⟨a1 0, a1 1, a1 2, a1 3, a1 4, a1 5, a1 6⟩, fun i => frozen_of_row w b i _ _ h⟩
theorem res_tok1 {fn : Func} {n : Nat} (hf : fn.results = #[.cell n 57]) (tmps : Array Value) (b : Nat) (w : World) (v0 v1 v2 v3 v4 v5 v6 : Value)
    (h2 : tmps[n]? = some (.pointer (some ⟨b, 0, none⟩))) (hk : w.heap[b]? = some (.cells #[v0, v1, v2, v3, v4, v5, v6] 57 (0, 0))) :
    (results fn tmps).run Tryz.prog w = .ok (.agg #[v0, v1, v2, v3, v4, v5, v6]) w := by
  have a1 := fun i => cell_of_row w b i _ _ (0, 0) hk
  have z0 := a1 0; have z1 := a1 1; have z2 := a1 2; have z3 := a1 3; have z4 := a1 4; have z5 := a1 5; have z6 := a1 6
  simp at z0 z1 z2 z3 z4 z5 z6
  simp [results, hf, go_sem, h2, z0, z1, z2, z3, z4, z5, z6]
theorem gup_mono {w w1 : World} {c : Nat} {x : Tp} {e : Ending} {w' : World} (h : Gup w1 c x e w') (hs : w.heap.size ≤ w1.heap.size) : Gup w c x e w' := by
  obtain ⟨q, p, a, b, d, f, g⟩ := h
  exact ⟨q, p, a, Nat.le_trans hs b, Nat.le_trans hs d, f, g⟩
set_option maxHeartbeats 2000000 in
set_option maxRecDepth 100000 in
theorem ptake_any (r tb : Nat) (xs : List Tp) (v : Value) (k : Int) (w : World) (h : Pa w r tb xs v) (hE : EndL xs) :
    Calls Tryz.prog 67 #[.pointer (some ⟨r, 0, none⟩), .int .i64 k] w fun e w' => PPost w r tb VTok (takeL k xs) e w' := by
  obtain ⟨x, ys, rfl⟩ := endL_ne hE
  have ap := h.ap
  have hgu := fun o o2 => giveUp_any r tb x ys v 30 _ ((h.alloc o).alloc o2)
  obtain ⟨g, off, cap, rfl, hl, hg, hc, hr⟩ := row_head h.row
  obtain rfl : g = tb := by obtain ⟨o1, n1, c1, e1⟩ := h.loc; cases e1; rfl
  have hgr := ap g off _ cap rfl
  obtain ⟨off', cap', hr', hsl⟩ := row_tail (x := x) hl hr
  have cc : ∀ o, (w.alloc o).cell? ⟨r, 0, none⟩ = _ := fun o => (h.alloc o).cell
  have q : ∀ i u, (tpL x)[i]? = some u → ∀ o, (w.alloc o).cell? ⟨g, off + i, none⟩ = some u := fun i u hu o => by
    rw [cell_below ((Below.refl w.heap.size w).alloc (Nat.le_refl _) o) _ _ hg]; exact hc i u hu
  rw [takeL_cons]
  obtain ⟨⟨kk, kt, kv, kh⟩, xo, xl, xc⟩ := x
  have c0 : ∀ o, (w.alloc o).cell? ⟨g, off, none⟩ = some (.int .i64 kk) := q 0 _ rfl
  have c1 : ∀ o, (w.alloc o).cell? ⟨g, off + 1, none⟩ = some (.int .i64 xo) := q 1 _ rfl
  have c2 : ∀ o, (w.alloc o).cell? ⟨g, off + 2, none⟩ = some (.int .i64 xl) := q 2 _ rfl
  have c3 : ∀ o, (w.alloc o).cell? ⟨g, off + 3, none⟩ = some (.int .i64 xc) := q 3 _ rfl
  have c4 : ∀ o, (w.alloc o).cell? ⟨g, off + 4, none⟩ = some (.string ⟨kt.toArray⟩) := q 4 _ rfl
  have c5 : ∀ o, (w.alloc o).cell? ⟨g, off + 5, none⟩ = some (.int .u32 (kv : Int)) := q 5 _ rfl
  have c6 : ∀ o, (w.alloc o).cell? ⟨g, off + 6, none⟩ = some (.bool kh) := q 6 _ rfl
  have hlen : ¬ ((ys.length : Int) + 1 ≤ 0) := by omega
  simp only
  clear hc q
  by_cases hk : kk = k
  · rw [if_pos hk]
    subst hk
    have hrl := h.lt
    have cc2 : ∀ o o2, ((w.alloc o).alloc o2).cell? ⟨r, 0, none⟩ = _ := fun o o2 => ((h.alloc o).alloc o2).cell
    have fz2 : ∀ o o2 i, ((w.alloc o).alloc o2).frozen? ⟨r, i, none⟩ = false := fun o o2 i => ((h.alloc o).alloc o2).fz i
    have hb2 := ((Below.refl w.heap.size w).alloc (Nat.le_refl _) (.cells #[.int .i64 0, .int .i64 0, .int .i64 0, .int .i64 0, .string ⟨#[]⟩, .int .u32 0, .bool false] 57)).alloc (by simp) (.cells #[.int .i64 kk, .int .i64 xo, .int .i64 xl, .int .i64 xc, .string ⟨kt.toArray⟩, .int .u32 (kv : Int), .bool kh] 57)
    have hP2 := ((h.alloc (.cells #[.int .i64 0, .int .i64 0, .int .i64 0, .int .i64 0, .string ⟨#[]⟩, .int .u32 0, .bool false] 57)).alloc (.cells #[.int .i64 kk, .int .i64 xo, .int .i64 xl, .int .i64 xc, .string ⟨kt.toArray⟩, .int .u32 (kv : Int), .bool kh] 57)).set (rowT_below hr' hb2)
    have hg3 := grown_trans (grown_of_below (r := some r) hb2) (grown_set _ r 0 (.slice (some ⟨g, off', none⟩) ys.length cap'))
    have k0 := (heap_set_ne ((w.alloc (.cells #[.int .i64 0, .int .i64 0, .int .i64 0, .int .i64 0, .string ⟨#[]⟩, .int .u32 0, .bool false] 57)).alloc (.cells #[.int .i64 kk, .int .i64 xo, .int .i64 xl, .int .i64 xc, .string ⟨kt.toArray⟩, .int .u32 (kv : Int), .bool kh] 57)) r 0 w.heap.size (.slice (some ⟨g, off', none⟩) ys.length cap') (by omega)).trans (heap2_0' w _ _)
    have k1 := (heap_set_ne ((w.alloc (.cells #[.int .i64 0, .int .i64 0, .int .i64 0, .int .i64 0, .string ⟨#[]⟩, .int .u32 0, .bool false] 57)).alloc (.cells #[.int .i64 kk, .int .i64 xo, .int .i64 xl, .int .i64 xc, .string ⟨kt.toArray⟩, .int .u32 (kv : Int), .bool kh] 57)) r 0 (w.heap.size + 1) (.slice (some ⟨g, off', none⟩) ys.length cap') (by omega)).trans (heap2_1' w _ _)
    generalize hw3 : (((w.alloc (.cells #[.int .i64 0, .int .i64 0, .int .i64 0, .int .i64 0, .string ⟨#[]⟩, .int .u32 0, .bool false] 57)).alloc (.cells #[.int .i64 kk, .int .i64 xo, .int .i64 xl, .int .i64 xc, .string ⟨kt.toArray⟩, .int .u32 (kv : Int), .bool kh] 57)).setCell ⟨r, 0, none⟩ (.slice (some ⟨g, off', none⟩) ys.length cap')) = w3 at hP2 hg3 k0 k1
    obtain ⟨⟨y0, y1, y2, y3, y4, y5, y6⟩, fy⟩ := var7 k0
    obtain ⟨⟨z0, z1, z2, z3, z4, z5, z6⟩, fz⟩ := var7 k1
    have g7 := set7_grown w3 w.heap.size (.int .i64 kk) (.int .i64 xo) (.int .i64 xl) (.int .i64 xc) (.string ⟨kt.toArray⟩) (.int .u32 (kv : Int)) (.bool kh)
    clear hgu hr hr' hb2 h ap
    go_enter Tryz.func67, Tryz.ntmps67
    go_wp2
    refine bodyPost_ret (v := tzV ⟨kk, kt, kv, kh⟩ xo xl xc) (res_tok1 Tryz.results67 _ w.heap.size _ _ _ _ _ _ _ _ rfl (set7_at _ _ _ _ _ _ _ _ _ _ _ _ _ _ _ _ _ k0)) rfl ⟨_, _, rfl, rfl, ⟨?_, row_grown hP2.row g7 ?_, hP2.loc, hP2.ne, Nat.lt_of_lt_of_le hP2.tlt g7.size⟩, grown_new hg3 g7 (Nat.le_refl _)⟩
    · exact (g7.block r hP2.lt (fun e => by cases e; omega)).trans hP2.hheap
    · intro g1 o1 n1 c1 e
      cases e
      omega
  · rw [if_neg hk]
    have hk' : (kk == k) = false := by rw [beq_eq_false_iff_ne]; exact hk
    have hk2 : (kk != k) = true := by unfold bne; rw [hk']; rfl
    clear hk
    go_enter Tryz.func67, Tryz.ntmps67
    go_wp2_with fail
    refine (hgu _ _).mono ?_
    rintro e w3 ⟨hG, hb3⟩
    obtain ⟨q, p, rfl, hq⟩ := hG
    refine ⟨rfl, gup_mono ⟨q, p, rfl, hq⟩ (by simp; omega), ?_⟩
    exact grown_of_below ((((Below.refl w.heap.size w).alloc (Nat.le_refl _) _).alloc (by simp) _).trans (hb3.mono (by simp; omega)))
end Go.Proofs.YtlbgppijeoonjaaGreatDoor

namespace Go.Proofs.YtlbgppijeoonjaaGreatDoor
open Go.RowKit
set_option linter.unusedVariables false

theorem ppost_use {α : Type} {w : World} {r tb : Nat} {V : α → Value → World → Prop} {m : PR α} {e : Ending} {w' : World} (h : PPost w r tb V m e w') :
    (∃ a s u v, m = .ok a s ∧ e = .returned u ∧ V a u w' ∧ Pa w' r tb s v ∧ w.grownBy w' (some r)) ∨ (∃ c x, m = .bad c x ∧ Gup w c x e w' ∧ w.grownBy w' (some r)) := by
  cases m with
  | ok a s => obtain ⟨u, v, h1, h2, h3, h4⟩ := h; exact .inl ⟨a, s, u, v, rfl, h1, h2, h3, h4⟩
  | bad c x => exact .inr ⟨c, x, rfl, h⟩
/-- A call of take, with its two ways. -/
theorem take_ok (r tb : Nat) (xs : List Tp) (v : Value) (k : Int) (w : World) (h : Pa w r tb xs v) (hE : EndL xs) {x : Tp} {s : List Tp} (ht : takeL k xs = .ok x s) :
    Calls Tryz.prog 67 #[.pointer (some ⟨r, 0, none⟩), .int .i64 k] w fun e w' => e = .returned (tzV x.z x.o x.l x.c) ∧ ∃ v', Pa w' r tb s v' ∧ w.grownBy w' (some r) := by
  have c := ptake_any r tb xs v k w h hE
  rw [ht] at c
  refine c.mono ?_
  rintro e w' ⟨u, v', rfl, rfl, hP, hg⟩
  exact ⟨rfl, v', hP, hg⟩
theorem take_bad (r tb : Nat) (xs : List Tp) (v : Value) (k : Int) (w : World) (h : Pa w r tb xs v) (hE : EndL xs) {c : Nat} {x : Tp} (ht : takeL k xs = .bad c x) :
    Calls Tryz.prog 67 #[.pointer (some ⟨r, 0, none⟩), .int .i64 k] w fun e w' => Gup w c x e w' ∧ w.grownBy w' (some r) := by
  have c := ptake_any r tb xs v k w h hE
  rw [ht] at c
  exact c
theorem fld_text (w : World) (a0 a1 a2 a3 a4 a5 a6 : Value) : (Instr.field 57 (.agg #[a0, a1, a2, a3, a4, a5, a6]) 2).run Tryz.prog w = .ok a4 w := by kernel_rfl
theorem bytes_ne {a b : List UInt8} (h : a ≠ b) : (⟨a.toArray⟩ : ByteArray) ≠ ⟨b.toArray⟩ := fun e => h (by have := congrArg (fun x => x.data.toList) e; simpa using this)
def VUnit (_ : Unit) (u : Value) (_ : World) : Prop := u = .tuple #[]
set_option maxHeartbeats 2000000 in
set_option maxRecDepth 100000 in
theorem pword_any (r tb : Nat) (xs : List Tp) (v : Value) (t : List UInt8) (w : World) (h : Pa w r tb xs v) (hE : EndL xs) :
    Calls Tryz.prog 66 #[.pointer (some ⟨r, 0, none⟩), .string ⟨t.toArray⟩] w fun e w' => PPost w r tb VUnit (wordL t xs) e w' := by
  obtain ⟨x, ys, rfl⟩ := endL_ne hE
  have hgu := giveUp_any r tb x ys v 30 w h
  have ct := ptake_any r tb (x :: ys) v 1 w h hE
  obtain ⟨g, off, cap, rfl, hl, hg, hc, hr⟩ := row_head h.row
  have cc := h.cell
  have c4 : w.cell? ⟨g, off + 4, none⟩ = some (.string ⟨x.z.text.toArray⟩) := hc 4 _ rfl
  have hlen : ¬ ((ys.length : Int) + 1 ≤ 0) := by omega
  have hW : wordL t (x :: ys) = if x.z.text = t ∧ x.z.kind = 1 then .ok () ys else .bad 30 x := rfl
  rw [hW]
  clear hc hr hW
  by_cases ht : x.z.text = t
  · rw [takeL_cons] at ct
    rw [ht] at c4
    by_cases hk : x.z.kind = 1
    · rw [if_pos ⟨ht, hk⟩]
      rw [if_pos hk] at ct
      clear hgu
      go_enter Tryz.func66, Tryz.ntmps66
      go_wp2_with fail
      refine ct.mono ?_
      rintro e w3 ⟨u, v', rfl, rfl, hP, hgg⟩
      go_wp2
      go_end0
      exact ⟨_, v', rfl, rfl, hP, hgg⟩
    · rw [if_neg (fun e => hk e.2)]
      rw [if_neg hk] at ct
      clear hgu
      go_enter Tryz.func66, Tryz.ntmps66
      go_wp2_with fail
      refine ct.mono ?_
      rintro e w3 ⟨hG, hb3⟩
      obtain ⟨q, p, rfl, hq⟩ := hG
      exact ⟨rfl, ⟨q, p, rfl, hq⟩, hb3⟩
  · rw [if_neg (fun e => ht e.1)]
    have hb : (x.z.text == t) = false := by simpa using ht
    clear ct
    go_enter Tryz.func66, Tryz.ntmps66
    go_wp2_with fail
    refine hgu.mono ?_
    rintro e w3 ⟨hG, hb3⟩
    obtain ⟨q, p, rfl, hq⟩ := hG
    exact ⟨rfl, ⟨q, p, rfl, hq⟩, grown_of_below hb3⟩
def VNote (o : Option (List UInt8)) (u : Value) (_ : World) : Prop := u = .tuple #[.bool (noteB o), .string ⟨(noteT o).toArray⟩]
theorem pcomes_list (r tb : Nat) (xs : List Tp) (v : Value) (k : Int) (w : World) (h : Pa w r tb xs v) (hE : EndL xs) :
    Calls Tryz.prog 68 #[.pointer (some ⟨r, 0, none⟩), .int .i64 k] w fun e w' => e = .returned (.bool (comesL k xs)) ∧ w = w' := by
  obtain ⟨x, ys, rfl⟩ := endL_ne hE
  exact pcomes_any r tb x ys v k w h
theorem comes_take {k : Int} {xs : List Tp} (h : comesL k xs = true) : ∃ x s, takeL k xs = .ok x s := by
  cases xs with
  | nil => cases h
  | cons x s => exact ⟨x, s, by rw [takeL_cons, if_pos (of_decide_eq_true h)]⟩
set_option maxHeartbeats 2000000 in
set_option maxRecDepth 100000 in
theorem pnote_any (r tb : Nat) (xs : List Tp) (v : Value) (w : World) (h : Pa w r tb xs v) (hE : EndL xs) :
    Calls Tryz.prog 70 #[.pointer (some ⟨r, 0, none⟩)] w fun e w' => PPost w r tb VNote (noteL xs) e w' := by
  have cc := pcomes_list r tb xs v 8 w h hE
  unfold noteL
  cases hC : comesL 8 xs with
  | false =>
    rw [hC] at cc
    rw [if_neg (by decide)]
    go_enter Tryz.func70, Tryz.ntmps70
    go_wp2_with (go_at_call 68; refine cc.mono ?_; rintro e w1 ⟨rfl, rfl⟩)
    go_ret2
    exact ⟨_, v, rfl, rfl, h, grown_refl _ _⟩
  | true =>
    rw [hC] at cc
    rw [if_pos rfl]
    obtain ⟨x, s, ht⟩ := comes_take hC
    have c1 := take_ok r tb xs v 8 w h hE ht
    have hE2 := (take_left hE (by decide) _ _ ht).1
    rw [ht, PR.bind_ok]
    clear hC
    unfold tzV tzC at c1
    rcases take_end hE2 (k := 3) (by decide) with ⟨y, t, rfl, hk, e3, hE3⟩ | ⟨y, t, rfl, hk, e3⟩
    · have c2 := fun v2 w2 hP2 => take_ok r tb (y :: t) v2 3 w2 hP2 hE2 e3
      unfold tzV tzC at c2
      rw [e3, PR.bind_ok]
      have hfl := fld_text
      go_enter Tryz.func70, Tryz.ntmps70
      go_wp2_with (go_at_call 68; refine cc.mono ?_; rintro e w1 ⟨rfl, rfl⟩)
      refine c1.mono ?_
      rintro e w2 ⟨rfl, v2, hP2, hg2⟩
      go_wp2_with fail
      refine (c2 v2 w2 hP2).mono ?_
      rintro e w3 ⟨rfl, v3, hP3, hg3⟩
      go_wp2
      go_ret2
      exact ⟨_, v3, rfl, rfl, hP3, grown_trans hg2 hg3⟩
    · have c2 := fun v2 w2 hP2 => take_bad r tb (y :: t) v2 3 w2 hP2 hE2 e3
      rw [e3, PR.bind_bad]
      go_enter Tryz.func70, Tryz.ntmps70
      go_wp2_with (go_at_call 68; refine cc.mono ?_; rintro e w1 ⟨rfl, rfl⟩)
      refine c1.mono ?_
      rintro e w2 ⟨rfl, v2, hP2, hg2⟩
      go_wp2_with fail
      refine (c2 v2 w2 hP2).mono ?_
      rintro e w3 ⟨hG, hg3⟩
      obtain ⟨q, p, rfl, hq⟩ := hG
      exact ⟨rfl, gup_mono ⟨q, p, rfl, hq⟩ hg2.size, grown_trans hg2 hg3⟩
def vlV (v : Vl) : Value := .agg #[.int .i64 v.kind, .string ⟨v.text.toArray⟩, .int .u32 (v.num : Int), .bool v.hex]
def VVl (v : Vl) (u : Value) (_ : World) : Prop := u = vlV v
/-- A variable of a value. -/
theorem var4 {w : World} {b : Nat} {v0 v1 v2 v3 : Value} {t : TypeId} (h : w.heap[b]? = some (.cells #[v0, v1, v2, v3] t (0, 0))) :
    (w.cell? ⟨b, 0, none⟩ = some v0 ∧ w.cell? ⟨b, 1, none⟩ = some v1 ∧ w.cell? ⟨b, 2, none⟩ = some v2 ∧ w.cell? ⟨b, 3, none⟩ = some v3) ∧ ∀ i, w.frozen? ⟨b, i, none⟩ = false := by
  have a1 := fun i => cell_of_row w b i _ _ (0, 0) h
  exact ⟨⟨a1 0, a1 1, a1 2, a1 3⟩, fun i => frozen_of_row w b i _ _ h⟩
theorem set4_at (w : World) (b : Nat) (t : TypeId) (o0 o1 o2 o3 v0 v1 v2 v3 : Value) (k : w.heap[b]? = some (.cells #[o0, o1, o2, o3] t (0, 0))) :
    ((((w.setCell ⟨b, 0, none⟩ v0).setCell ⟨b, 1, none⟩ v1).setCell ⟨b, 2, none⟩ v2).setCell ⟨b, 3, none⟩ v3).heap[b]? = some (.cells #[v0, v1, v2, v3] t (0, 0)) := by
  have h0 : (w.setCell ⟨b, 0, none⟩ v0).heap[b]? = some (.cells #[v0, o1, o2, o3] t (0, 0)) := heap_setCell_same _ b 0 _ t _ k
  generalize w.setCell ⟨b, 0, none⟩ v0 = w0 at *
  have h1 : (w0.setCell ⟨b, 1, none⟩ v1).heap[b]? = some (.cells #[v0, v1, o2, o3] t (0, 0)) := heap_setCell_same _ b 1 _ t _ h0
  generalize w0.setCell ⟨b, 1, none⟩ v1 = w1 at *
  have h2 : (w1.setCell ⟨b, 2, none⟩ v2).heap[b]? = some (.cells #[v0, v1, v2, o3] t (0, 0)) := heap_setCell_same _ b 2 _ t _ h1
  generalize w1.setCell ⟨b, 2, none⟩ v2 = w2 at *
  exact heap_setCell_same _ b 3 _ t _ h2
theorem set4_grown (w : World) (b : Nat) (v0 v1 v2 v3 : Value) : w.grownBy ((((w.setCell ⟨b, 0, none⟩ v0).setCell ⟨b, 1, none⟩ v1).setCell ⟨b, 2, none⟩ v2).setCell ⟨b, 3, none⟩ v3) (some b) :=
  grown_trans (grown_set _ _ _ _) (grown_trans (grown_set _ _ _ _) (grown_trans (grown_set _ _ _ _) (grown_set _ _ _ _)))
theorem res_val {fn : Func} {n : Nat} (hf : fn.results = #[.cell n 31]) (tmps : Array Value) (b : Nat) (w : World) (v0 v1 v2 v3 : Value)
    (h2 : tmps[n]? = some (.pointer (some ⟨b, 0, none⟩))) (hk : w.heap[b]? = some (.cells #[v0, v1, v2, v3] 31 (0, 0))) :
    (results fn tmps).run Tryz.prog w = .ok (.agg #[v0, v1, v2, v3]) w := by
  have a1 := fun i => cell_of_row w b i _ _ (0, 0) hk
  have z0 := a1 0; have z1 := a1 1; have z2 := a1 2; have z3 := a1 3
  simp at z0 z1 z2 z3
  simp [results, hf, go_sem, h2, z0, z1, z2, z3]
/-- The parser's block beside another that is written. -/
theorem Pa.grown {w w' : World} {r tb b : Nat} {xs : List Tp} {v : Value} (h : Pa w r tb xs v) (hg : w.grownBy w' (some b)) (hb : r ≠ b) (hv : tb ≠ b) : Pa w' r tb xs v := by
  refine ⟨(hg.block r h.lt (fun e => by cases e; exact hb rfl)).trans h.hheap, row_grown h.row hg ?_, h.loc, h.ne, Nat.lt_of_lt_of_le h.tlt hg.size⟩
  intro g off n cap e
  obtain ⟨o1, n1, c1, e1⟩ := h.loc
  rw [e1] at e
  cases e
  exact hv
set_option maxHeartbeats 2000000 in
set_option maxRecDepth 100000 in
theorem pvalue_any (r tb : Nat) (xs : List Tp) (v : Value) (w : World) (h : Pa w r tb xs v) (hE : EndL xs) :
    Calls Tryz.prog 117 #[.pointer (some ⟨r, 0, none⟩)] w fun e w' => PPost w r tb VVl (valueL xs) e w' := by
  have hrl := h.lt
  have htl := h.tlt
  have hv1 : (w.alloc (.cells #[.int .i64 0, .string ⟨#[]⟩, .int .u32 0, .bool false] 31)).heap[w.heap.size]? = some (.cells #[.int .i64 0, .string ⟨#[]⟩, .int .u32 0, .bool false] 31 (0, 0)) := heap_alloc_new w _
  have hb1 := (Below.refl w.heap.size w).alloc (Nat.le_refl _) (.cells #[.int .i64 0, .string ⟨#[]⟩, .int .u32 0, .bool false] 31)
  have hP1 := h.alloc (.cells #[.int .i64 0, .string ⟨#[]⟩, .int .u32 0, .bool false] 31)
  generalize hw1 : (w.alloc (.cells #[.int .i64 0, .string ⟨#[]⟩, .int .u32 0, .bool false] 31)) = w1 at hv1 hb1 hP1
  have cc2 := pcomes_list r tb xs v 2 _ hP1 hE
  have cc3 := pcomes_list r tb xs v 3 _ hP1 hE
  unfold valueL
  cases hC : comesL 2 xs with
  | true =>
    rw [hC] at cc2
    rw [if_pos rfl]
    obtain ⟨x, s, ht⟩ := comes_take hC
    have c1 := take_ok r tb xs v 2 _ hP1 hE ht
    unfold tzV tzC at c1
    rw [ht, PR.bind_ok]
    clear hC cc3
    go_enter Tryz.func117, Tryz.ntmps117
    go_wp2_with fail
    clear hw1
    refine cc2.mono ?_
    rintro e w2 ⟨rfl, rfl⟩
    go_wp2_with fail
    refine c1.mono ?_
    rintro e w3 ⟨rfl, v3, hP3, hg3⟩
    have hv3 := (hg3.block _ (heap_lt hv1) (fun e => by cases e; omega)).trans hv1
    have hal := (Below.refl w3.heap.size w3).alloc (Nat.le_refl _) (.cells #[.int .i64 x.z.kind, .int .i64 x.o, .int .i64 x.l, .int .i64 x.c, .string ⟨x.z.text.toArray⟩, .int .u32 (x.z.val : Int), .bool x.z.hex] 57)
    have hv4 := (hal.block _ (heap_lt hv3)).trans hv3
    have hP4 := hP3.below hal
    have ht4 := push_at w3.heap (.cells #[.int .i64 x.z.kind, .int .i64 x.o, .int .i64 x.l, .int .i64 x.c, .string ⟨x.z.text.toArray⟩, .int .u32 (x.z.val : Int), .bool x.z.hex] 57)
    have ht5 : (w3.alloc (.cells #[.int .i64 x.z.kind, .int .i64 x.o, .int .i64 x.l, .int .i64 x.c, .string ⟨x.z.text.toArray⟩, .int .u32 (x.z.val : Int), .bool x.z.hex] 57)).heap[w3.heap.size]? = _ := ht4
    generalize hw4 : (w3.alloc (.cells #[.int .i64 x.z.kind, .int .i64 x.o, .int .i64 x.l, .int .i64 x.c, .string ⟨x.z.text.toArray⟩, .int .u32 (x.z.val : Int), .bool x.z.hex] 57)) = w4 at hal hv4 hP4 ht5
    obtain ⟨⟨y0, y1, y2, y3⟩, fy⟩ := var4 hv4
    obtain ⟨⟨_, _, _, _, _, z5, z6⟩, _⟩ := var7 ht5
    have hg5 : w.grownBy w4 (some r) := grown_trans (grown_of_below hb1) (grown_trans hg3 (grown_of_below hal))
    have g4 := set4_grown w4 w.heap.size (.int .i64 2) (.string ⟨#[]⟩) (.int .u32 (x.z.val : Int)) (.bool x.z.hex)
    clear hv3 ht4 hal hg3 hb1
    go_wp2
    refine bodyPost_ret (v := vlV ⟨2, [], x.z.val, x.z.hex⟩) (res_val Tryz.results117 _ w.heap.size _ _ _ _ _ rfl (set4_at _ _ _ _ _ _ _ _ _ _ _ hv4)) rfl ⟨_, _, rfl, rfl, hP4.grown g4 (by omega) (by omega), grown_new hg5 g4 (Nat.le_refl _)⟩
  | false =>
    rw [hC] at cc2
    rw [if_neg (by decide)]
    clear hC
    cases hC : comesL 3 xs with
    | true =>
      rw [hC] at cc3
      rw [if_pos rfl]
      obtain ⟨x, s, ht⟩ := comes_take hC
      have c1 := take_ok r tb xs v 3 _ hP1 hE ht
      unfold tzV tzC at c1
      rw [ht, PR.bind_ok]
      have hfl := fld_text
      clear hC
      go_enter Tryz.func117, Tryz.ntmps117
      go_wp2_with fail
      clear hw1
      refine cc2.mono ?_
      rintro e w2 ⟨rfl, rfl⟩
      go_wp2_with fail
      refine cc3.mono ?_
      rintro e w2 ⟨rfl, rfl⟩
      go_wp2_with fail
      refine c1.mono ?_
      rintro e w3 ⟨rfl, v3, hP3, hg3⟩
      have hv3 := (hg3.block _ (heap_lt hv1) (fun e => by cases e; omega)).trans hv1
      obtain ⟨⟨y0, y1, y2, y3⟩, fy⟩ := var4 hv3
      have hg5 : w.grownBy w3 (some r) := grown_trans (grown_of_below hb1) hg3
      have g4 := set4_grown w3 w.heap.size (.int .i64 3) (.string ⟨x.z.text.toArray⟩) (.int .u32 0) (.bool false)
      clear hg3 hb1
      go_wp2
      refine bodyPost_ret (v := vlV ⟨3, x.z.text, 0, false⟩) (res_val Tryz.results117 _ w.heap.size _ _ _ _ _ rfl (set4_at _ _ _ _ _ _ _ _ _ _ _ hv3)) rfl ⟨_, _, rfl, rfl, hP3.grown g4 (by omega) (by omega), grown_new hg5 g4 (Nat.le_refl _)⟩
    | false =>
      rw [hC] at cc3
      rw [if_neg (by decide)]
      clear hC
      rcases take_end hE (k := 1) (by decide) with ⟨x, t, rfl, hk, e3, hE3⟩ | ⟨x, t, rfl, hk, e3⟩
      · have c1 := take_ok r tb (x :: t) v 1 _ hP1 hE e3
        unfold tzV tzC at c1
        rw [e3, PR.bind_ok]
        have hfl := fld_text
        go_enter Tryz.func117, Tryz.ntmps117
        go_wp2_with fail
        clear hw1
        refine cc2.mono ?_
        rintro e w2 ⟨rfl, rfl⟩
        go_wp2_with fail
        refine cc3.mono ?_
        rintro e w2 ⟨rfl, rfl⟩
        go_wp2_with fail
        refine c1.mono ?_
        rintro e w3 ⟨rfl, v3, hP3, hg3⟩
        have hv3 := (hg3.block _ (heap_lt hv1) (fun e => by cases e; omega)).trans hv1
        obtain ⟨⟨y0, y1, y2, y3⟩, fy⟩ := var4 hv3
        have hg5 : w.grownBy w3 (some r) := grown_trans (grown_of_below hb1) hg3
        have g4 := set4_grown w3 w.heap.size (.int .i64 1) (.string ⟨x.z.text.toArray⟩) (.int .u32 0) (.bool false)
        clear hg3 hb1
        go_wp2
        refine bodyPost_ret (v := vlV ⟨1, x.z.text, 0, false⟩) (res_val Tryz.results117 _ w.heap.size _ _ _ _ _ rfl (set4_at _ _ _ _ _ _ _ _ _ _ _ hv3)) rfl ⟨_, _, rfl, rfl, hP3.grown g4 (by omega) (by omega), grown_new hg5 g4 (Nat.le_refl _)⟩
      · have c1 := take_bad r tb (x :: t) v 1 _ hP1 hE e3
        rw [e3, PR.bind_bad]
        go_enter Tryz.func117, Tryz.ntmps117
        go_wp2_with fail
        clear hw1
        refine cc2.mono ?_
        rintro e w2 ⟨rfl, rfl⟩
        go_wp2_with fail
        refine cc3.mono ?_
        rintro e w2 ⟨rfl, rfl⟩
        go_wp2_with fail
        refine c1.mono ?_
        rintro e w3 ⟨hG, hg3⟩
        obtain ⟨q, p, rfl, hq⟩ := hG
        exact ⟨rfl, gup_mono ⟨q, p, rfl, hq⟩ hb1.size, grown_trans (grown_of_below hb1) hg3⟩
end Go.Proofs.YtlbgppijeoonjaaGreatDoor

