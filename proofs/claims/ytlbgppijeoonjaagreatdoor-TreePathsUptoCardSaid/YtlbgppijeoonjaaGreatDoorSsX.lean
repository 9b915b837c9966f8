import Derived.Test.YtlbgppijeoonjaaGreatDoorStX
import Derived.Test.YtlbgppijeoonjaaGreatDoorRtX
import Derived.Test.YtlbgppijeoonjaaGreatDoorTreX
import Derived.Laws.AppendOwnNone
namespace Go.Proofs.YtlbgppijeoonjaaGreatDoor
open Go.RowKit
set_option linter.unusedVariables false

/-! ### The law's tokens -/
set_option maxRecDepth 100000 in
theorem name_c (s : ByteArray) (w : World) : Calls Tryz.prog 36 #[.string s] w fun e w' => e = .returned (.agg #[.int .i64 1, .int .i64 0, .int .i64 0, .int .i64 0, .string s, .int .u32 0, .bool false]) ∧ Below w.heap.size w w' := by
  go_enter Tryz.func36, Tryz.ntmps36
  go_wp2
  exact bodyPost_ret (v := .agg #[.int .i64 1, .int .i64 0, .int .i64 0, .int .i64 0, .string s, .int .u32 0, .bool false]) (res_tok1 Tryz.results36 _ w.heap.size _ _ _ _ _ _ _ _ rfl (heap_alloc_new _ _)) rfl ⟨rfl, (Below.refl _ _).alloc (Nat.le_refl _) _⟩
set_option maxRecDepth 100000 in
theorem mark_c (k : Int) (w : World) : Calls Tryz.prog 37 #[.int .i64 k] w fun e w' => e = .returned (.agg #[.int .i64 k, .int .i64 0, .int .i64 0, .int .i64 0, .string ⟨#[]⟩, .int .u32 0, .bool false]) ∧ Below w.heap.size w w' := by
  go_enter Tryz.func37, Tryz.ntmps37
  go_wp2
  exact bodyPost_ret (v := .agg #[.int .i64 k, .int .i64 0, .int .i64 0, .int .i64 0, .string ⟨#[]⟩, .int .u32 0, .bool false]) (res_tok1 Tryz.results37 _ w.heap.size _ _ _ _ _ _ _ _ rfl (heap_alloc_new _ _)) rfl ⟨rfl, (Below.refl _ _).alloc (Nat.le_refl _) _⟩
set_option maxRecDepth 100000 in
theorem value_c (v : Vl) (w : World) : Calls Tryz.prog 60 #[.agg #[.int .i64 v.kind, .string ⟨v.text.toArray⟩, .int .u32 (v.num : Int), .bool v.hex]] w fun e w' => e = .returned (.agg (tzC (zV v) 0 0 0)) ∧ Below w.heap.size w w' := by
  obtain ⟨k, t, n, h⟩ := v
  unfold zV
  dsimp only
  have hal : ∀ a b, Below w.heap.size w ((w.alloc a).alloc b) := fun a b => ((Below.refl _ _).alloc (Nat.le_refl _) a).alloc (by simp) b
  by_cases h2 : k = 2
  · subst h2
    rw [if_pos rfl]
    go_enter Tryz.func60, Tryz.ntmps60
    go_wp2
    exact bodyPost_ret (v := .agg #[.int .i64 2, .int .i64 0, .int .i64 0, .int .i64 0, .string ⟨t.toArray⟩, .int .u32 (n : Int), .bool h]) (res_tok1 Tryz.results60 _ (w.heap.size + 1) _ _ _ _ _ _ _ _ rfl (heap2_1' _ _ _)) rfl ⟨rfl, hal _ _⟩
  · rw [if_neg h2]
    by_cases h3 : k = 3
    · subst h3
      rw [if_pos rfl]
      go_enter Tryz.func60, Tryz.ntmps60
      go_wp2
      exact bodyPost_ret (v := .agg #[.int .i64 3, .int .i64 0, .int .i64 0, .int .i64 0, .string ⟨t.toArray⟩, .int .u32 (n : Int), .bool h]) (res_tok1 Tryz.results60 _ (w.heap.size + 1) _ _ _ _ _ _ _ _ rfl (heap2_1' _ _ _)) rfl ⟨rfl, hal _ _⟩
    · rw [if_neg h3]
      by_cases h1 : k = 1
      · subst h1
        rw [if_pos rfl]
        go_enter Tryz.func60, Tryz.ntmps60
        go_wp2
        exact bodyPost_ret (v := .agg #[.int .i64 1, .int .i64 0, .int .i64 0, .int .i64 0, .string ⟨t.toArray⟩, .int .u32 (n : Int), .bool h]) (res_tok1 Tryz.results60 _ (w.heap.size + 1) _ _ _ _ _ _ _ _ rfl (heap2_1' _ _ _)) rfl ⟨rfl, hal _ _⟩
      · rw [if_neg h1]
        go_enter Tryz.func60, Tryz.ntmps60
        go_wp2
        all_goals first
          | (exfalso; simp_all; done)
          | exact bodyPost_ret (v := .agg #[.int .i64 99, .int .i64 0, .int .i64 0, .int .i64 0, .string ⟨#[]⟩, .int .u32 0, .bool false]) (res_tok1 Tryz.results60 _ (w.heap.size + 1) _ _ _ _ _ _ _ _ rfl (heap2_1' _ _ _)) rfl ⟨rfl, hal _ _⟩
/-- Which gap it is. -/
def gapK (k : Int) : Nat := if ((IntKind.u64.wrap k).tmod 6 == 0) = true then 0 else if ((IntKind.u64.wrap k).tmod 6 == 1) = true then 1 else if ((IntKind.u64.wrap k).tmod 6 == 2) = true then 2
  else if ((IntKind.u64.wrap k).tmod 6 == 3) = true then 3 else if ((IntKind.u64.wrap k).tmod 6 == 4) = true then 4 else 5
set_option maxRecDepth 100000 in
theorem gap_c (k : Int) (w : World) : Calls Tryz.prog 20 #[.int .i64 k] w fun e w' => e = .returned (.string ⟨(gapL (gapK k)).toArray⟩) ∧ Below w.heap.size w w' := by
  obtain ⟨m, hm⟩ : ∃ m, gapL (gapK k) = m := ⟨_, rfl⟩
  rw [hm]
  unfold gapK at hm
  go_enter Tryz.func20, Tryz.ntmps20
  go_wp2
  all_goals
    go_ret
    refine ⟨?_, Below.refl _ _⟩
    simp_all
    rw [← hm]
    rfl
def tzsL (xs : List Tz) : List Value := tpsL (xs.map fun z => ⟨z, 0, 0, 0⟩)
theorem tzs_app (a b : List Tz) : tzsL (a ++ b) = tzsL a ++ tzsL b := by simp [tzsL, tpsL]
theorem tzs_len (a : List Tz) : (tzsL a).length = a.length * 7 := by
  induction a with
  | nil => rfl
  | cons x a ih =>
    have : tzsL (x :: a) = tpL ⟨x, 0, 0, 0⟩ ++ tzsL a := rfl
    have h7 : (tpL ⟨x, 0, 0, 0⟩).length = 7 := rfl
    rw [this, List.length_append, ih, h7, List.length_cons]
    omega
theorem tzs_one (a : List Tz) : ∀ u ∈ tzsL a, u.oneCell' = true := by
  induction a with
  | nil => intro u hu; cases hu
  | cons x a ih =>
    intro u hu
    have : tzsL (x :: a) = tpL ⟨x, 0, 0, 0⟩ ++ tzsL a := rfl
    rw [this] at hu
    rcases List.mem_append.1 hu with h | h
    · simp [tpL, tzC] at h
      rcases h with rfl | rfl | rfl | rfl | rfl | rfl | rfl <;> rfl
    · exact ih u h
/-- Tokens in memory that is the call's own. -/
def OwnT (w : World) (base : Nat) (v : Value) (xs : List Tz) : Prop := w.ownsRow base 57 7 v xs.length (tzsL xs)
def NotedC (is : Bool) (s : List UInt8) : Prop := ∀ w : World, Calls Tryz.prog 39 #[.bool is, .string ⟨s.toArray⟩] w fun e w' => ∃ v, e = .returned v ∧ OwnT w' w.heap.size v (notedT is s) ∧ Below w.heap.size w w'
set_option maxRecDepth 100000 in
theorem noted_c (is : Bool) (s : List UInt8) : NotedC is s := by
  intro w
  cases is with
  | true =>
    go_enter Tryz.func39, Tryz.ntmps39
    go_wp2_with (go_at_call 37; refine (mark_c _ _).mono ?_; rintro e w1 ⟨rfl, hb1⟩)
    rename_i w0 hb0
    have hB := hb0.trans (hb1.mono hb0.size)
    go_ret
    refine ⟨_, rfl, ?_, hB.alloc hB.size _⟩
    exact World.ownsRow_lit (base := w.heap.size) (e := 57) (size := 7) w1 _ 3 hB.size (by decide) rfl
  | false =>
    by_cases hs : s = []
    · subst hs
      go_enter Tryz.func39, Tryz.ntmps39
      go_wp2_with (go_at_call 37; refine (mark_c _ _).mono ?_; rintro e w1 ⟨rfl, hb1⟩)
      go_ret
      refine ⟨_, rfl, ?_, hb1.alloc hb1.size _⟩
      exact World.ownsRow_lit (base := w.heap.size) (e := 57) (size := 7) w1 _ 1 hb1.size (by decide) rfl
    · have hne : ((⟨s.toArray⟩ : ByteArray) == ⟨#[]⟩) = false := by
        cases s with
        | nil => exact absurd rfl hs
        | cons a r => rfl
      have hn : notedT false s = [zM 99] := by simp [notedT, hs]
      rw [hn]
      go_enter Tryz.func39, Tryz.ntmps39
      go_wp2_with (go_at_call 37; refine (mark_c _ _).mono ?_; rintro e w1 ⟨rfl, hb1⟩)
      all_goals first
        | (exfalso; simp_all; done)
        | (go_ret; refine ⟨_, rfl, ?_, hb1.alloc hb1.size _⟩; exact World.ownsRow_lit (base := w.heap.size) (e := 57) (size := 7) w1 _ 1 hb1.size (by decide) rfl)
end Go.Proofs.YtlbgppijeoonjaaGreatDoor

namespace Go.Proofs.YtlbgppijeoonjaaGreatDoor
open Go.RowKit
set_option linter.unusedVariables false

/-! ### A row of tokens that grows, beside variables that stay -/
structure St (w W : World) (L : List (Nat × Obj)) (v : Value) (xs : List Tz) : Prop where
  own : OwnT W w.heap.size v xs
  below : Below w.heap.size w W
  keep : ∀ g O, (g, O) ∈ L → W.heap[g]? = some O ∧ v.ownBlock ≠ some g
theorem St.call {w W W' : World} {L : List (Nat × Obj)} {v : Value} {xs : List Tz} (h : St w W L v xs) (hb : Below W.heap.size W W') : St w W' L v xs :=
  ⟨own_below h.own hb, h.below.trans (hb.mono h.below.size), fun g O hg => ⟨(hb.block _ (heap_lt (h.keep g O hg).1)).trans (h.keep g O hg).1, (h.keep g O hg).2⟩⟩
theorem St.app {w W W' : World} {L : List (Nat × Obj)} {v v' : Value} {xs zs : List Tz} (h : St w W L v xs) (ho : W'.ownsRow w.heap.size 57 7 v' (xs.length + zs.length) (tzsL xs ++ tzsL zs)) (hg : W.grownBy W' v.ownBlock)
    (hat : v'.ownBlock = v.ownBlock ∨ v'.ownBlock = some W.heap.size) : St w W' L v' (xs ++ zs) := by
  refine ⟨?_, h.below.grown hg h.below.size (fun k e => (h.own.lt k e).1), fun g O hgO => ?_⟩
  · unfold OwnT
    rw [List.length_append, tzs_app]
    exact ho
  · obtain ⟨h1, h2⟩ := h.keep g O hgO
    have hlt := heap_lt h1
    refine ⟨(hg.block _ hlt h2.symm).trans h1, ?_⟩
    rcases hat with e | e
    · rw [e]; exact h2
    · rw [e]; intro e2; cases e2; omega
theorem attrsAt_lenS {w : World} {F : Nat → Prop} {v : Value} {l : List At} (h : AttrsAt w F v l) : ∃ a cap, v = .slice a l.length cap := by
  cases h with
  | nil => exact ⟨_, _, rfl⟩
  | row _ _ _ _ _ => exact ⟨_, _, by rw [List.length_map]⟩
theorem infoT : ∃ i, Tryz.prog.info? 57 = some i ∧ i.zero = some (.agg #[.int .i64 0, .int .i64 0, .int .i64 0, .int .i64 0, .string ⟨#[]⟩, .int .u32 0, .bool false]) ∧ i.size = 7 ∧ i.bytes = 56 :=
  info_parts (show (Tryz.prog.info? 57).map (fun i => (i.zero, i.size, i.bytes)) = some (some (.agg #[.int .i64 0, .int .i64 0, .int .i64 0, .int .i64 0, .string ⟨#[]⟩, .int .u32 0, .bool false]), 7, 56) by kernel_rfl)
theorem own_cells {w : World} {base : Nat} {u : Value} {zs : List Tz} (h : OwnT w base u zs) : (u = .slice none 0 0 ∧ zs = []) ∨ ∃ g cap, u = .slice (some ⟨g, 0, none⟩) zs.length cap ∧ ∀ j x, (tzsL zs)[j]? = some x → w.cell? ((⟨g, 0, none⟩ : Addr).add j) = some x := by
  obtain ⟨hl, ⟨rfl, h0⟩ | ⟨g, cap, cur, rfl, hb, hh, h1, h2, h3, h4⟩⟩ := h
  · exact .inl ⟨rfl, List.eq_nil_of_length_eq_zero h0⟩
  · refine .inr ⟨g, cap, rfl, fun j x hj => ?_⟩
    rw [Lib.add_plain]
    have := cell_of_row w g j _ _ (0, 0) hh
    rw [Nat.zero_add]
    rw [this, ← Array.getElem?_toList]
    rw [← h4, List.getElem?_take] at hj
    split at hj
    · exact hj
    · cases hj
theorem wpList_app_lit {w W : World} {L : List (Nat × Obj)} {v : Value} {xs : List Tz} {ops : Array Oper} {rest : List Oper} {o : Oper} {a : Act} {Q : Exit → Act → World → Prop} (hgd : o.guard = none) (s x : Operand)
    (ho : o.op = .call { callee := .builtin .append, args := #[s, x], argTypes := #[51, 51] }) (h : St w W L v xs) (hs : a.eval s = v) (zs : List Tz) (vs : Array Value) (hvs : vs.toList = tzsL zs) (c : Nat)
    (hx : a.eval x = .slice (some ⟨W.heap.size, 0, none⟩) zs.length c) (hlen : xs.length + zs.length ≤ 2199023255552)
    (k : ∀ v' W', St w W' L v' (xs ++ zs) → wpList Tryz.prog ops Q rest (a.put o.dst v') W') : wpList Tryz.prog ops Q (o :: rest) a (W.alloc (.cells vs 57)) := by
  obtain ⟨i0, hi, hz0, hz1, hz2⟩ := infoT
  have h1 := h.call ((Below.refl W.heap.size W).alloc (Nat.le_refl _) (.cells vs 57))
  refine wpList_append_own_at _ hgd s x 51 ho w.heap.size 57 i0 _ 7 56 Tryz.underlying51 hi hz0 hz1 hz2 rfl (by decide) v xs.length (tzsL xs) hs h1.own ⟨W.heap.size, 0, none⟩ zs.length c (tzsL zs) hx (tzs_len _) (by rw [← hvs]; exact cell_new7 W vs _) (tzs_one _) (by unfold maxLen; omega) (by omega) h1.below.size ?_
  intro v' W' ho' hg' _ hat'
  exact k v' W' (h1.app ho' hg' hat')
theorem wpList_app_own {w W : World} {L : List (Nat × Obj)} {v u : Value} {xs : List Tz} {ops : Array Oper} {rest : List Oper} {o : Oper} {a : Act} {Q : Exit → Act → World → Prop} (hgd : o.guard = none) (s x : Operand)
    (ho : o.op = .call { callee := .builtin .append, args := #[s, x], argTypes := #[51, 51] }) (h : St w W L v xs) (hs : a.eval s = v) (zs : List Tz) (base : Nat) (hu : OwnT W base u zs)
    (hx : a.eval x = u) (hlen : xs.length + zs.length ≤ 2199023255552)
    (k : ∀ v' W', St w W' L v' (xs ++ zs) → wpList Tryz.prog ops Q rest (a.put o.dst v') W') : wpList Tryz.prog ops Q (o :: rest) a W := by
  obtain ⟨i0, hi, hz0, hz1, hz2⟩ := infoT
  rcases own_cells hu with ⟨rfl, rfl⟩ | ⟨g, cap, rfl, hc⟩
  · refine wpList_append_own_none hgd s x 51 ho w.heap.size 57 i0 7 Tryz.underlying51 hi v xs.length (tzsL xs) hs h.own hx (k v W ?_)
    rw [List.append_nil]
    exact h
  · refine wpList_append_own_at _ hgd s x 51 ho w.heap.size 57 i0 _ 7 56 Tryz.underlying51 hi hz0 hz1 hz2 rfl (by decide) v xs.length (tzsL xs) hs h.own ⟨g, 0, none⟩ zs.length cap (tzsL zs) hx (tzs_len _) hc (tzs_one _) (by unfold maxLen; omega) (by omega) h.below.size ?_
    intro v' W' ho' hg' _ hat'
    exact k v' W' (h.app ho' hg' hat')
theorem step_app_lit {w W : World} {L : List (Nat × Obj)} {v : Value} {xs : List Tz} {ops : Array Oper} {o : Oper} {a : Act} {K : Act → World → Prop} {Q : Exit → Act → World → Prop} {F : Prop} (hgd : o.guard = none) (s x : Operand)
    (ho : o.op = .call { callee := .builtin .append, args := #[s, x], argTypes := #[51, 51] }) (h : St w W L v xs) (hs : a.eval s = v) (zs : List Tz) (vs : Array Value) (hvs : vs.toList = tzsL zs) (c : Nat)
    (hx : a.eval x = .slice (some ⟨W.heap.size, 0, none⟩) zs.length c) (hlen : xs.length + zs.length ≤ 2199023255552)
    (k : ∀ v' W', St w W' L v' (xs ++ zs) → K (a.put o.dst v') W') : if Region.wanted o (yielded ops a.tmps) = true then Oper.wp Tryz.prog o a (W.alloc (.cells vs 57)) K Q else F := by
  obtain ⟨i0, hi, hz0, hz1, hz2⟩ := infoT
  have h1 := h.call ((Below.refl W.heap.size W).alloc (Nat.le_refl _) (.cells vs 57))
  refine step_append_own_at hgd s x 51 ho w.heap.size 57 i0 _ 7 56 Tryz.underlying51 hi hz0 hz1 hz2 rfl (by decide) v xs.length (tzsL xs) hs h1.own ⟨W.heap.size, 0, none⟩ zs.length c (tzsL zs) hx (tzs_len _) (by rw [← hvs]; exact cell_new7 W vs _) (tzs_one _) (by unfold maxLen; omega) (by omega) h1.below.size ?_
  intro v' W' ho' hg' hat'
  exact k v' W' (h1.app ho' hg' hat')
end Go.Proofs.YtlbgppijeoonjaaGreatDoor

