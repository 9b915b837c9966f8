import Derived.Test.YtphafnfmkhhamaaVi
import Derived.Laws.OwnMore
namespace Go.Proofs.Ytphafnfmkhhamaa
open Go.RowKit
set_option linter.unusedVariables false
set_option linter.unusedSimpArgs false

/-! ### The document's table -/
theorem own_base {w : World} {b b' e k n : Nat} {v : Value} {xs : List Value} (h : w.ownsRow b e k v n xs) (hb : b' ≤ b) : w.ownsRow b' e k v n xs := by
  obtain ⟨hl, h0 | ⟨g, cap, cur, hv, hb1, hh, rr⟩⟩ := h
  · exact ⟨hl, .inl h0⟩
  · exact ⟨hl, .inr ⟨g, cap, cur, hv, by omega, hh, rr⟩⟩
/-- An append of a row that may be nil. -/
theorem run_append_both {P : Program} (w : World) (base b2 : Nat) (t ty e : TypeId) (i : TypeInfo) (z : Value) (bytes : Nat) (ht : P.underlying t = some (.slice e)) (hi : P.info? e = some i) (hz : i.zero = some z)
    (hsize : i.size = 1) (hby : i.bytes = bytes) (hzs : z.cells.size = 1) (v u : Value) (n m : Nat) (xs ys : List Value) (hown : w.ownsRow base e 1 v n xs) (hu : w.ownsRow b2 e 1 u m ys) (h1 : ∀ y ∈ ys, y.oneCell' = true)
    (h63 : n + m ≤ maxLen) (hbytes : (n + m) * bytes ≤ 140737488355328) (hbase : base ≤ w.heap.size) :
    ∃ v' w', (Builtin.append_ #[t, t] ty #[v, u]).run P w = .ok v' w' ∧ w'.ownsRow base e 1 v' (n + m) (xs ++ ys) ∧ w.grownBy w' v.ownBlock := by
  rcases hu.2 with ⟨rfl, rfl⟩ | ⟨g, cap, cur, rfl, _⟩
  · have hy : ys = [] := List.eq_nil_of_length_eq_zero (by have := hu.1; simpa using this)
    subst hy
    exact ⟨v, w, run_append_owned_none (P := P) w base t ty e i 1 ht hi v n xs hown, by simpa using hown, grown_refl _ _⟩
  · obtain ⟨v', w', hr, h2, h3, _⟩ := run_append_own (P := P) w base t ty e i z 1 bytes ht hi hz hsize hby hzs (by decide) v n xs hown ⟨g, 0, none⟩ m cap ys (by rw [Nat.mul_one]; have := hu.1; omega) (hu.cells rfl) h1 h63 hbytes hbase
    exact ⟨v', w', hr, h2, h3⟩
theorem wpList_append_both {P : Program} (w : World) {ops : Array Oper} {rest : List Oper} {o : Oper} {a : Act} {Q : Exit → Act → World → Prop} (hgd : o.guard = none) (s x : Operand) (t : TypeId)
    (ho : o.op = .call { callee := .builtin .append, args := #[s, x], argTypes := #[t, t] })
    (base b2 : Nat) (e : TypeId) (i : TypeInfo) (z : Value) (bytes : Nat) (ht : P.underlying t = some (.slice e)) (hi : P.info? e = some i) (hz : i.zero = some z)
    (hsize : i.size = 1) (hby : i.bytes = bytes) (hzs : z.cells.size = 1) (v u : Value) (n m : Nat) (xs ys : List Value) (hs : a.eval s = v) (hx : a.eval x = u) (hown : w.ownsRow base e 1 v n xs) (hu : w.ownsRow b2 e 1 u m ys) (h1 : ∀ y ∈ ys, y.oneCell' = true)
    (h63 : n + m ≤ maxLen) (hbytes : (n + m) * bytes ≤ 140737488355328) (hbase : base ≤ w.heap.size)
    (h : ∀ v' w', w'.ownsRow base e 1 v' (n + m) (xs ++ ys) → w.grownBy w' v.ownBlock → wpList P ops Q rest (a.put o.dst v') w') :
    wpList P ops Q (o :: rest) a w := by
  refine wpList_plain hgd fun K hK => ?_
  obtain ⟨v', w', hr, h2, h3⟩ := run_append_both (P := P) w base b2 t o.type e i z bytes ht hi hz hsize hby hzs v u n m xs ys hown hu h1 h63 hbytes hbase
  unfold Oper.wp execOp
  simp only [ho, resolve, invoke, builtin, Sem.run_bind, Sem.run_pure, Result.andThen_ok, List.map_toArray, List.map_cons, List.map_nil, hs, hx, hr]
  exact hK _ _ (h v' w' h2 h3)
theorem step_append_both {P : Program} {ops : Array Oper} {o : Oper} {a : Act} {w : World} {K : Act → World → Prop} {Q : Exit → Act → World → Prop} {E : Prop} (hgd : o.guard = none) (s x : Operand) (t : TypeId)
    (ho : o.op = .call { callee := .builtin .append, args := #[s, x], argTypes := #[t, t] })
    (base b2 : Nat) (e : TypeId) (i : TypeInfo) (z : Value) (bytes : Nat) (ht : P.underlying t = some (.slice e)) (hi : P.info? e = some i) (hz : i.zero = some z)
    (hsize : i.size = 1) (hby : i.bytes = bytes) (hzs : z.cells.size = 1) (v u : Value) (n m : Nat) (xs ys : List Value) (hs : a.eval s = v) (hx : a.eval x = u) (hown : w.ownsRow base e 1 v n xs) (hu : w.ownsRow b2 e 1 u m ys) (h1 : ∀ y ∈ ys, y.oneCell' = true)
    (h63 : n + m ≤ maxLen) (hbytes : (n + m) * bytes ≤ 140737488355328) (hbase : base ≤ w.heap.size)
    (h : ∀ v' w', w'.ownsRow base e 1 v' (n + m) (xs ++ ys) → w.grownBy w' v.ownBlock → K (a.put o.dst v') w') :
    if Region.wanted o (yielded ops a.tmps) = true then Oper.wp P o a w K Q else E := by
  have hw : Region.wanted o (yielded ops a.tmps) = true := by simp [Region.wanted, hgd]
  rw [if_pos hw]
  obtain ⟨v', w', hr, h2, h3⟩ := run_append_both (P := P) w base b2 t o.type e i z bytes ht hi hz hsize hby hzs v u n m xs ys hown hu h1 h63 hbytes hbase
  unfold Oper.wp
  simp [execOp, ho, resolve, invoke, builtin, hs, hx, hr, Result.andThen]
  exact h v' w' h2 h3
theorem own_sl {w : World} {b E n : Nat} {v : Value} {xs : List Value} (h : w.ownsRow b E 1 v n xs) : ∃ a cc, v = .slice a n cc := by
  rcases h.2 with ⟨h1, h0⟩ | ⟨g, cap, cur, h1, _⟩
  · exact ⟨none, 0, by rw [h0]; exact h1⟩
  · exact ⟨_, _, h1⟩
def Nq (a b : Option Nat) : Prop := ∀ g, a = some g → b ≠ some g
theorem Nq.symm {a b : Option Nat} (h : Nq a b) : Nq b a := fun g e1 e2 => h g e2 e1
def rOn (f : Nat → Et) (n : Nat) : List Value := (List.range n).map fun i => U (f i).on
def rWa (f : Nat → Et) (n : Nat) : List Value := (List.range n).map fun i => U (f i).wa
def rS (f : Nat → Et) (n : Nat) : List Value := (List.range n).map fun i => .bool (f i).s
def rM (ms : List Int) : List Value := ms.map fun x => U x
/-- the blocks of a table of the document -/
def Db (D : Nat) (vm vo vw vs : Value) (b : Nat) : Prop := b = D ∨ vm.ownBlock = some b ∨ vo.ownBlock = some b ∨ vw.ownBlock = some b ∨ vs.ownBlock = some b
structure Dt (w : World) (D : Nat) (vm vo vw vs : Value) (ms : List Int) (f : Nat → Et) : Prop where
  o : w.heap[D]? = some (.cells #[vm, vo, vw, vs] 67)
  pm : w.ownsRow 0 22 1 vm ms.length (rM ms)
  po : w.ownsRow 0 22 1 vo ms.length (rOn f ms.length)
  pw : w.ownsRow 0 22 1 vw ms.length (rWa f ms.length)
  ps : w.ownsRow 0 4 1 vs ms.length (rS f ms.length)
  x : ∀ i v, ms[i]? = some v → (f i).x = decide (v ≠ 0)
  l : ms.length ≤ 256
  d : vm.ownBlock ≠ some D ∧ vo.ownBlock ≠ some D ∧ vw.ownBlock ≠ some D ∧ vs.ownBlock ≠ some D
  q : Nq vm.ownBlock vo.ownBlock ∧ Nq vm.ownBlock vw.ownBlock ∧ Nq vm.ownBlock vs.ownBlock ∧ Nq vo.ownBlock vw.ownBlock ∧ Nq vo.ownBlock vs.ownBlock ∧ Nq vw.ownBlock vs.ownBlock
abbrev dP (D : Nat) : Value := .pointer (some ⟨D, 0, none⟩)
section
variable {w w' : World} {D : Nat} {vm vo vw vs : Value} {ms : List Int} {f : Nat → Et}
theorem Dt.lt (h : Dt w D vm vo vw vs ms f) {b : Nat} (hb : Db D vm vo vw vs b) : b < w.heap.size := by
  rcases hb with rfl | e | e | e | e
  · exact heap_lt h.o
  · exact (h.pm.lt b e).2
  · exact (h.po.lt b e).2
  · exact (h.pw.lt b e).2
  · exact (h.ps.lt b e).2
theorem Dt.keptZ (h : Dt w D vm vo vw vs ms f) {M : Nat → Prop} (hf : Fz M w w') (hM : ∀ b, Db D vm vo vw vs b → ¬ M b) : Dt w' D vm vo vw vs ms f :=
  ⟨hf.heap h.o (hM _ (.inl rfl)), hf.own h.pm (fun g e => hM g (.inr (.inl e))), hf.own h.po (fun g e => hM g (.inr (.inr (.inl e)))), hf.own h.pw (fun g e => hM g (.inr (.inr (.inr (.inl e))))), hf.own h.ps (fun g e => hM g (.inr (.inr (.inr (.inr e))))), h.x, h.l, h.d, h.q⟩
theorem Dt.below (h : Dt w D vm vo vw vs ms f) (hb : Below w.heap.size w w') : Dt w' D vm vo vw vs ms f := h.keptZ (M := fun _ => False) (Fz.of_below hb) (fun _ _ e => e)
theorem Dt.cells (h : Dt w D vm vo vw vs ms f) : w.cell? ⟨D, 0, none⟩ = some vm ∧ w.cell? ⟨D, 1, none⟩ = some vo ∧ w.cell? ⟨D, 2, none⟩ = some vw ∧ w.cell? ⟨D, 3, none⟩ = some vs := by
  refine ⟨?_, ?_, ?_, ?_⟩ <;> (rw [cell_of_row w D _ _ _ (0, 0) h.o]; rfl)
theorem Dt.frz (h : Dt w D vm vo vw vs ms f) (j : Nat) : w.frozen? ⟨D, j, none⟩ = false := frozen_of_row w D j _ _ h.o
theorem own_some {w : World} {e n : Nat} {v : Value} {xs : List Value} (h : w.ownsRow 0 e 1 v n xs) (hn : 0 < n) : ∃ g c, v = .slice (some ⟨g, 0, none⟩) n c := by
  rcases h.2 with ⟨_, h0⟩ | ⟨g, cap, cur, h1, _⟩
  · omega
  · exact ⟨g, cap, h1⟩
theorem range_at {α : Type} (F : Nat → α) {n k : Nat} (h : k < n) : ((List.range n).map F)[k]? = some (F k) := by simp [h]
/-- what a task's places hold -/
theorem Dt.at (h : Dt w D vm vo vw vs ms f) {k : Nat} (hk : k < ms.length) : ∃ gm cm go co gw cw gs cs, vm = .slice (some ⟨gm, 0, none⟩) ms.length cm ∧ vo = .slice (some ⟨go, 0, none⟩) ms.length co ∧ vw = .slice (some ⟨gw, 0, none⟩) ms.length cw ∧ vs = .slice (some ⟨gs, 0, none⟩) ms.length cs ∧
    w.cell? ⟨go, k, none⟩ = some (U (f k).on) ∧ w.cell? ⟨gw, k, none⟩ = some (U (f k).wa) ∧ w.cell? ⟨gs, k, none⟩ = some (.bool (f k).s) ∧ (∀ v, ms[k]? = some v → w.cell? ⟨gm, k, none⟩ = some (U v)) ∧
    (∀ j, w.frozen? ⟨go, j, none⟩ = false) ∧ (∀ j, w.frozen? ⟨gw, j, none⟩ = false) ∧ (∀ j, w.frozen? ⟨gs, j, none⟩ = false) := by
  have h0 : 0 < ms.length := by omega
  obtain ⟨gm, cm, rfl⟩ := own_some h.pm h0
  obtain ⟨go, co, rfl⟩ := own_some h.po h0
  obtain ⟨gw, cw, rfl⟩ := own_some h.pw h0
  obtain ⟨gs, cs, rfl⟩ := own_some h.ps h0
  refine ⟨gm, cm, go, co, gw, cw, gs, cs, rfl, rfl, rfl, rfl, ?_, ?_, ?_, fun v hv => ?_, h.po.frozenAt, h.pw.frozenAt, h.ps.frozenAt⟩
  · rw [h.po.cellAt k (by omega)]; exact range_at _ hk
  · rw [h.pw.cellAt k (by omega)]; exact range_at _ hk
  · rw [h.ps.cellAt k (by omega)]; exact range_at _ hk
  · rw [h.pm.cellAt k (by omega)]; simp [rM, hv]
theorem rOn_set (f : Nat → Et) (n k : Nat) (e : Et) : rOn (upf f k e) n = (rOn f n).set k (U e.on) := by
  apply List.ext_getElem?
  intro i
  simp only [rOn, List.getElem?_map, List.getElem?_set, List.length_map, List.length_range]
  by_cases hi : i < n
  · rw [List.getElem?_range hi]
    by_cases e1 : k = i
    · subst e1; simp [upf, hi]
    · have : ¬ i = k := fun x => e1 x.symm
      simp [upf, e1, this]
  · rw [List.getElem?_eq_none (by simpa using hi)]
    by_cases e1 : k = i
    · subst e1; simp [hi]
    · simp [e1]
theorem rWa_set (f : Nat → Et) (n k : Nat) (e : Et) : rWa (upf f k e) n = (rWa f n).set k (U e.wa) := by
  apply List.ext_getElem?
  intro i
  simp only [rWa, List.getElem?_map, List.getElem?_set, List.length_map, List.length_range]
  by_cases hi : i < n
  · rw [List.getElem?_range hi]
    by_cases e1 : k = i
    · subst e1; simp [upf, hi]
    · have : ¬ i = k := fun x => e1 x.symm
      simp [upf, e1, this]
  · rw [List.getElem?_eq_none (by simpa using hi)]
    by_cases e1 : k = i
    · subst e1; simp [hi]
    · simp [e1]
theorem rS_set (f : Nat → Et) (n k : Nat) (e : Et) : rS (upf f k e) n = (rS f n).set k (.bool e.s) := by
  apply List.ext_getElem?
  intro i
  simp only [rS, List.getElem?_map, List.getElem?_set, List.length_map, List.length_range]
  by_cases hi : i < n
  · rw [List.getElem?_range hi]
    by_cases e1 : k = i
    · subst e1; simp [upf, hi]
    · have : ¬ i = k := fun x => e1 x.symm
      simp [upf, e1, this]
  · rw [List.getElem?_eq_none (by simpa using hi)]
    by_cases e1 : k = i
    · subst e1; simp [hi]
    · simp [e1]
theorem set_same {α : Type} {l : List α} {k : Nat} {a : α} (h : l[k]? = some a) : l.set k a = l := by
  apply List.ext_getElem?
  intro i
  rw [List.getElem?_set]
  by_cases e : k = i
  · subst e
    have := (List.getElem?_eq_some_iff.1 h).1
    rw [if_pos rfl, if_pos this, h]
  · simp [e]
theorem rOn_keep {f : Nat → Et} {n k : Nat} {e : Et} (h : e.on = (f k).on) : rOn (upf f k e) n = rOn f n := by
  rw [rOn_set]
  by_cases hk : k < n
  · exact set_same (by rw [h]; exact range_at _ hk)
  · exact List.set_eq_of_length_le (by simp [rOn]; omega)
theorem rWa_keep {f : Nat → Et} {n k : Nat} {e : Et} (h : e.wa = (f k).wa) : rWa (upf f k e) n = rWa f n := by
  rw [rWa_set]
  by_cases hk : k < n
  · exact set_same (by rw [h]; exact range_at _ hk)
  · exact List.set_eq_of_length_le (by simp [rWa]; omega)
theorem rS_keep {f : Nat → Et} {n k : Nat} {e : Et} (h : e.s = (f k).s) : rS (upf f k e) n = rS f n := by
  rw [rS_set]
  by_cases hk : k < n
  · exact set_same (by rw [h]; exact range_at _ hk)
  · exact List.set_eq_of_length_le (by simp [rS]; omega)
theorem fx_one (w : World) (g k : Nat) (v : Value) : Fz (fun b => b = g) w (w.setCell ⟨g, k, none⟩ v) := (Fz.refl (fun b => b = g) w).set (.inl rfl) k v
theorem Dt.xs (h : Dt w D vm vo vw vs ms f) {k : Nat} {e : Et} (hx : e.x = (f k).x) : ∀ i v, ms[i]? = some v → (upf f k e i).x = decide (v ≠ 0) := fun i v hv => by
  by_cases e1 : i = k
  · subst e1; rw [upf_same, hx]; exact h.x i v hv
  · rw [show upf f k e i = f i by simp [upf, e1]]; exact h.x i v hv
theorem Dt.setOn {go co : Nat} (h : Dt w D vm (.slice (some ⟨go, 0, none⟩) ms.length co) vw vs ms f) (k : Nat) (v : Int) : Dt (w.setCell ⟨go, k, none⟩ (U v)) D vm (.slice (some ⟨go, 0, none⟩) ms.length co) vw vs ms (upf f k ⟨(f k).x, (f k).s, v, (f k).wa⟩) := by
  have hf := fx_one w go k (U v)
  obtain ⟨q1, q2, q3, q4, q5, q6⟩ := h.q
  refine ⟨hf.heap h.o (fun e => h.d.2.1 (by rw [e]; rfl)), hf.own h.pm (fun g e e2 => q1 g e (by rw [e2]; rfl)), by rw [rOn_set]; exact (h.po.stored k (U v)).1, by rw [rWa_keep (show (⟨(f k).x, (f k).s, v, (f k).wa⟩ : Et).wa = (f k).wa from rfl)]; exact hf.own h.pw (fun g e e2 => q4.symm g e (by rw [e2]; rfl)), by rw [rS_keep (show (⟨(f k).x, (f k).s, v, (f k).wa⟩ : Et).s = (f k).s from rfl)]; exact hf.own h.ps (fun g e e2 => q5.symm g e (by rw [e2]; rfl)), h.xs (show (⟨(f k).x, (f k).s, v, (f k).wa⟩ : Et).x = (f k).x from rfl), h.l, h.d, h.q⟩
theorem Dt.setWa {gw cw : Nat} (h : Dt w D vm vo (.slice (some ⟨gw, 0, none⟩) ms.length cw) vs ms f) (k : Nat) (v : Int) : Dt (w.setCell ⟨gw, k, none⟩ (U v)) D vm vo (.slice (some ⟨gw, 0, none⟩) ms.length cw) vs ms (upf f k ⟨(f k).x, (f k).s, (f k).on, v⟩) := by
  have hf := fx_one w gw k (U v)
  obtain ⟨q1, q2, q3, q4, q5, q6⟩ := h.q
  refine ⟨hf.heap h.o (fun e => h.d.2.2.1 (by rw [e]; rfl)), hf.own h.pm (fun g e e2 => q2 g e (by rw [e2]; rfl)), by rw [rOn_keep (show (⟨(f k).x, (f k).s, (f k).on, v⟩ : Et).on = (f k).on from rfl)]; exact hf.own h.po (fun g e e2 => q4 g e (by rw [e2]; rfl)), by rw [rWa_set]; exact (h.pw.stored k (U v)).1, by rw [rS_keep (show (⟨(f k).x, (f k).s, (f k).on, v⟩ : Et).s = (f k).s from rfl)]; exact hf.own h.ps (fun g e e2 => q6.symm g e (by rw [e2]; rfl)), h.xs (show (⟨(f k).x, (f k).s, (f k).on, v⟩ : Et).x = (f k).x from rfl), h.l, h.d, h.q⟩
theorem Dt.setS {gs cs : Nat} (h : Dt w D vm vo vw (.slice (some ⟨gs, 0, none⟩) ms.length cs) ms f) (k : Nat) (v : Bool) : Dt (w.setCell ⟨gs, k, none⟩ (.bool v)) D vm vo vw (.slice (some ⟨gs, 0, none⟩) ms.length cs) ms (upf f k ⟨(f k).x, v, (f k).on, (f k).wa⟩) := by
  have hf := fx_one w gs k (.bool v)
  obtain ⟨q1, q2, q3, q4, q5, q6⟩ := h.q
  refine ⟨hf.heap h.o (fun e => h.d.2.2.2 (by rw [e]; rfl)), hf.own h.pm (fun g e e2 => q3 g e (by rw [e2]; rfl)), by rw [rOn_keep (show (⟨(f k).x, v, (f k).on, (f k).wa⟩ : Et).on = (f k).on from rfl)]; exact hf.own h.po (fun g e e2 => q5 g e (by rw [e2]; rfl)), by rw [rWa_keep (show (⟨(f k).x, v, (f k).on, (f k).wa⟩ : Et).wa = (f k).wa from rfl)]; exact hf.own h.pw (fun g e e2 => q6 g e (by rw [e2]; rfl)), by rw [rS_set]; exact (h.ps.stored k (.bool v)).1, h.xs (show (⟨(f k).x, v, (f k).on, (f k).wa⟩ : Et).x = (f k).x from rfl), h.l, h.d, h.q⟩
end
end Go.Proofs.Ytphafnfmkhhamaa
