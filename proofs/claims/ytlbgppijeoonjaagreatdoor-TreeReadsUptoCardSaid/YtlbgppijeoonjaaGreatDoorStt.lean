import Derived.Test.YtlbgppijeoonjaaGreatDoorTka3
import Derived.Test.YtlbgppijeoonjaaGreatDoorTreX
import Derived.Laws.AppendOwnNone
namespace Go.Proofs.YtlbgppijeoonjaaGreatDoor
open Go.RowKit
set_option linter.unusedVariables false

/-! ### A row of tokens that grows, beside variables that stay -/
structure St (w W : World) (L : List (Nat × Obj)) (v : Value) (xs : List Tz) : Prop where
  own : OwnT W w.heap.size v xs
  below : Below w.heap.size w W
  keep : ∀ g O, (g, O) ∈ L → W.heap[g]? = some O ∧ v.ownBlock ≠ some g
theorem St.call {w W W' : World} {L : List (Nat × Obj)} {v : Value} {xs : List Tz} (h : St w W L v xs) (hb : Below W.heap.size W W') : St w W' L v xs :=
  ⟨own_below h.own hb, h.below.trans (hb.mono h.below.size), fun g O hg => ⟨(hb.block _ (heap_lt (h.keep g O hg).1)).trans (h.keep g O hg).1, (h.keep g O hg).2⟩⟩
theorem St.app {w W W' : World} {L : List (Nat × Obj)} {v v' : Value} {xs zs : List Tz} (h : St w W L v xs) (ho : W'.ownsRow w.heap.size 57 7 v' (xs.length + zs.length) (tzsL xs ++ tzsL zs)) (hg : W.grownBy W' v.ownBlock)
    (hat : v'.ownBlock = v.ownBlock ∨ v'.ownBlock = some W.heap.size) : St w W' L v' (xs ++ zs) := by
  refine ⟨?_, h.below.grown hg h.below.size (fun k e => (h.own.lt k e).1), fun g O hgO => ?_⟩
  · unfold OwnT
    rw [List.length_append, tzs_app]
    exact ho
  · obtain ⟨h1, h2⟩ := h.keep g O hgO
    have hlt := heap_lt h1
    refine ⟨(hg.block _ hlt h2.symm).trans h1, ?_⟩
    rcases hat with e | e
    · rw [e]; exact h2
    · rw [e]; intro e2; cases e2; omega
theorem attrsAt_lenS {w : World} {F : Nat → Prop} {v : Value} {l : List At} (h : AttrsAt w F v l) : ∃ a cap, v = .slice a l.length cap := by
  cases h with
  | nil => exact ⟨_, _, rfl⟩
  | row _ _ _ _ _ => exact ⟨_, _, by rw [List.length_map]⟩
theorem infoT : ∃ i, Tryz.prog.info? 57 = some i ∧ i.zero = some (.agg #[.int .i64 0, .int .i64 0, .int .i64 0, .int .i64 0, .string ⟨#[]⟩, .int .u32 0, .bool false]) ∧ i.size = 7 ∧ i.bytes = 56 :=
  info_parts (show (Tryz.prog.info? 57).map (fun i => (i.zero, i.size, i.bytes)) = some (some (.agg #[.int .i64 0, .int .i64 0, .int .i64 0, .int .i64 0, .string ⟨#[]⟩, .int .u32 0, .bool false]), 7, 56) by kernel_rfl)
theorem own_cells {w : World} {base : Nat} {u : Value} {zs : List Tz} (h : OwnT w base u zs) : (u = .slice none 0 0 ∧ zs = []) ∨ ∃ g cap, u = .slice (some ⟨g, 0, none⟩) zs.length cap ∧ ∀ j x, (tzsL zs)[j]? = some x → w.cell? ((⟨g, 0, none⟩ : Addr).add j) = some x := by
  obtain ⟨hl, ⟨rfl, h0⟩ | ⟨g, cap, cur, rfl, hb, hh, h1, h2, h3, h4⟩⟩ := h
  · exact .inl ⟨rfl, List.eq_nil_of_length_eq_zero h0⟩
  · refine .inr ⟨g, cap, rfl, fun j x hj => ?_⟩
    rw [Lib.add_plain]
    have := cell_of_row w g j _ _ (0, 0) hh
    rw [Nat.zero_add]
    rw [this, ← Array.getElem?_toList]
    rw [← h4, List.getElem?_take] at hj
    split at hj
    · exact hj
    · cases hj
theorem wpList_app_lit {w W : World} {L : List (Nat × Obj)} {v : Value} {xs : List Tz} {ops : Array Oper} {rest : List Oper} {o : Oper} {a : Act} {Q : Exit → Act → World → Prop} (hgd : o.guard = none) (s x : Operand)
    (ho : o.op = .call { callee := .builtin .append, args := #[s, x], argTypes := #[51, 51] }) (h : St w W L v xs) (hs : a.eval s = v) (zs : List Tz) (vs : Array Value) (hvs : vs.toList = tzsL zs) (c : Nat)
    (hx : a.eval x = .slice (some ⟨W.heap.size, 0, none⟩) zs.length c) (hlen : xs.length + zs.length ≤ 2199023255552)
    (k : ∀ v' W', St w W' L v' (xs ++ zs) → wpList Tryz.prog ops Q rest (a.put o.dst v') W') : wpList Tryz.prog ops Q (o :: rest) a (W.alloc (.cells vs 57)) := by
  obtain ⟨i0, hi, hz0, hz1, hz2⟩ := infoT
  have h1 := h.call ((Below.refl W.heap.size W).alloc (Nat.le_refl _) (.cells vs 57))
  refine wpList_append_own_at _ hgd s x 51 ho w.heap.size 57 i0 _ 7 56 Tryz.underlying51 hi hz0 hz1 hz2 rfl (by decide) v xs.length (tzsL xs) hs h1.own ⟨W.heap.size, 0, none⟩ zs.length c (tzsL zs) hx (tzs_len _) (by rw [← hvs]; exact cell_new7 W vs _) (tzs_one _) (by unfold maxLen; omega) (by omega) h1.below.size ?_
  intro v' W' ho' hg' _ hat'
  exact k v' W' (h1.app ho' hg' hat')
theorem wpList_app_own {w W : World} {L : List (Nat × Obj)} {v u : Value} {xs : List Tz} {ops : Array Oper} {rest : List Oper} {o : Oper} {a : Act} {Q : Exit → Act → World → Prop} (hgd : o.guard = none) (s x : Operand)
    (ho : o.op = .call { callee := .builtin .append, args := #[s, x], argTypes := #[51, 51] }) (h : St w W L v xs) (hs : a.eval s = v) (zs : List Tz) (base : Nat) (hu : OwnT W base u zs)
    (hx : a.eval x = u) (hlen : xs.length + zs.length ≤ 2199023255552)
    (k : ∀ v' W', St w W' L v' (xs ++ zs) → wpList Tryz.prog ops Q rest (a.put o.dst v') W') : wpList Tryz.prog ops Q (o :: rest) a W := by
  obtain ⟨i0, hi, hz0, hz1, hz2⟩ := infoT
  rcases own_cells hu with ⟨rfl, rfl⟩ | ⟨g, cap, rfl, hc⟩
  · refine wpList_append_own_none hgd s x 51 ho w.heap.size 57 i0 7 Tryz.underlying51 hi v xs.length (tzsL xs) hs h.own hx (k v W ?_)
    rw [List.append_nil]
    exact h
  · refine wpList_append_own_at _ hgd s x 51 ho w.heap.size 57 i0 _ 7 56 Tryz.underlying51 hi hz0 hz1 hz2 rfl (by decide) v xs.length (tzsL xs) hs h.own ⟨g, 0, none⟩ zs.length cap (tzsL zs) hx (tzs_len _) hc (tzs_one _) (by unfold maxLen; omega) (by omega) h.below.size ?_
    intro v' W' ho' hg' _ hat'
    exact k v' W' (h.app ho' hg' hat')
theorem step_app_lit {w W : World} {L : List (Nat × Obj)} {v : Value} {xs : List Tz} {ops : Array Oper} {o : Oper} {a : Act} {K : Act → World → Prop} {Q : Exit → Act → World → Prop} {F : Prop} (hgd : o.guard = none) (s x : Operand)
    (ho : o.op = .call { callee := .builtin .append, args := #[s, x], argTypes := #[51, 51] }) (h : St w W L v xs) (hs : a.eval s = v) (zs : List Tz) (vs : Array Value) (hvs : vs.toList = tzsL zs) (c : Nat)
    (hx : a.eval x = .slice (some ⟨W.heap.size, 0, none⟩) zs.length c) (hlen : xs.length + zs.length ≤ 2199023255552)
    (k : ∀ v' W', St w W' L v' (xs ++ zs) → K (a.put o.dst v') W') : if Region.wanted o (yielded ops a.tmps) = true then Oper.wp Tryz.prog o a (W.alloc (.cells vs 57)) K Q else F := by
  obtain ⟨i0, hi, hz0, hz1, hz2⟩ := infoT
  have h1 := h.call ((Below.refl W.heap.size W).alloc (Nat.le_refl _) (.cells vs 57))
  refine step_append_own_at hgd s x 51 ho w.heap.size 57 i0 _ 7 56 Tryz.underlying51 hi hz0 hz1 hz2 rfl (by decide) v xs.length (tzsL xs) hs h1.own ⟨W.heap.size, 0, none⟩ zs.length c (tzsL zs) hx (tzs_len _) (by rw [← hvs]; exact cell_new7 W vs _) (tzs_one _) (by unfold maxLen; omega) (by omega) h1.below.size ?_
  intro v' W' ho' hg' hat'
  exact k v' W' (h1.app ho' hg' hat')
end Go.Proofs.YtlbgppijeoonjaaGreatDoor
