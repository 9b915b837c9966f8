import Derived.Test.YthmecgfbapemjaaDoorDb
import Derived.Lib.QuietBelow
import Derived.Deep.Cut
import Derived.Shelf.Abstract
namespace Go.Proofs.YthmecgfbapemjaaDoor
open Go.RowKit Go.Shelf Go.Sort
set_option linter.unusedVariables false
set_option linter.unusedSimpArgs false

/-! ### A table in memory -/
theorem own_sl {w : World} {b E k n : Nat} {v : Value} {xs : List Value} (h : w.ownsRow b E k v n xs) : ∃ a cc, v = .slice a n cc := by
  rcases h.2 with ⟨h1, h0⟩ | ⟨g, cap, cur, h1, _⟩
  · exact ⟨none, 0, by rw [h0]; exact h1⟩
  · exact ⟨_, _, h1⟩
theorem own_some {w : World} {b e k n : Nat} {v : Value} {xs : List Value} (h : w.ownsRow b e k v n xs) (hn : 0 < n) : ∃ g c, v = .slice (some ⟨g, 0, none⟩) n c := by
  rcases h.2 with ⟨_, h0⟩ | ⟨g, cap, cur, h1, _⟩
  · omega
  · exact ⟨g, cap, h1⟩
theorem cell_set_off {w : World} {B i j : Nat} {v u : Value} (h : w.cell? ⟨B, i, none⟩ = some u) (hij : j ≠ i) : (w.setCell ⟨B, j, none⟩ v).cell? ⟨B, i, none⟩ = some u := by
  rw [World.cell?_setCell_other _ _ _ _ (by intro e; injection e with e1 e2 e3; exact hij e2)]
  exact h
theorem cell_set_on {w : World} {B i : Nat} {v u : Value} (h : w.cell? ⟨B, i, none⟩ = some u) : (w.setCell ⟨B, i, none⟩ v).cell? ⟨B, i, none⟩ = some v := World.cell?_setCell_same _ _ _ h
abbrev cP (B : Nat) : Value := .pointer (some ⟨B, 0, none⟩)
structure Ck (w : World) (B : Nat) (v u : Value) (rs : List Rw) (ss : List Sd) : Prop where
  o : w.heap[B]? = some (.cells #[.bool true, v, u] 53)
  p : w.ownsRow 0 27 2 v rs.length (flR rs)
  q : w.ownsRow 0 71 2 u ss.length (flS ss)
  d1 : v.ownBlock ≠ some B
  d2 : u.ownBlock ≠ some B
  d3 : ∀ g, v.ownBlock = some g → u.ownBlock ≠ some g
  n : ss.length = rs.length
  m : rs.length ≤ 256
  z : B ≠ 0 ∧ v.ownBlock ≠ some 0 ∧ u.ownBlock ≠ some 0
def Cb (B : Nat) (v u : Value) (b : Nat) : Prop := b = B ∨ v.ownBlock = some b ∨ u.ownBlock = some b
section
variable {w w' : World} {B : Nat} {v u : Value} {rs : List Rw} {ss : List Sd}
theorem Ck.lt (h : Ck w B v u rs ss) {b : Nat} (hb : Cb B v u b) : b < w.heap.size := by
  rcases hb with rfl | e | e
  · exact heap_lt h.o
  · exact (h.p.lt b e).2
  · exact (h.q.lt b e).2
theorem Ck.keptZ (h : Ck w B v u rs ss) {M : Nat → Prop} (hf : Fz M w w') (hM : ∀ b, Cb B v u b → ¬ M b) : Ck w' B v u rs ss :=
  ⟨hf.heap h.o (hM _ (.inl rfl)), hf.own h.p (fun g e => hM g (.inr (.inl e))), hf.own h.q (fun g e => hM g (.inr (.inr e))), h.d1, h.d2, h.d3, h.n, h.m, h.z⟩
theorem Ck.below (h : Ck w B v u rs ss) (hb : Below w.heap.size w w') : Ck w' B v u rs ss := h.keptZ (M := fun _ => False) (Fz.of_below hb) (fun _ _ e => e)
theorem EnvR.fz {M : Nat → Prop} (h : EnvR w) (hf : Fz M w w') (hM : ¬ M 0) : EnvR w' := by
  obtain ⟨t, fr, h⟩ := h
  exact ⟨t, fr, hf.heap h hM⟩
theorem Ck.env (h : Ck w B v u rs ss) (hE : EnvR w) (hf : Fz (Cb B v u) w w') : EnvR w' := hE.fz hf (by rintro (e | e | e); exact h.z.1 e.symm; exact h.z.2.1 e; exact h.z.2.2 e)
theorem Ck.cells (h : Ck w B v u rs ss) : w.cell? ⟨B, 0, none⟩ = some (.bool true) ∧ w.cell? ⟨B, 1, none⟩ = some v ∧ w.cell? ⟨B, 2, none⟩ = some u := by
  refine ⟨?_, ?_, ?_⟩ <;> (rw [cell_of_row w B _ _ _ (0, 0) h.o]; rfl)
/-- what a task's rows hold -/
theorem Ck.at (h : Ck w B v u rs ss) {k : Nat} {r : Rw} {x : Sd} (hr : rs[k]? = some r) (hx : ss[k]? = some x) : ∃ g c g2 c2, v = .slice (some ⟨g, 0, none⟩) rs.length c ∧ u = .slice (some ⟨g2, 0, none⟩) ss.length c2 ∧ w.cell? ⟨g, k * 2, none⟩ = some (I r.1) ∧ w.cell? ⟨g, k * 2 + 1, none⟩ = some (.bool r.2) ∧ w.cell? ⟨g2, k * 2, none⟩ = some (I x.1) ∧ w.cell? ⟨g2, k * 2 + 1, none⟩ = some (I x.2) ∧ ∀ j, w.frozen? ⟨g2, j, none⟩ = false := by
  have hk : k < rs.length := (List.getElem?_eq_some_iff.1 hr).1
  have hn := h.n
  obtain ⟨g, c, rfl⟩ := own_some h.p (by omega)
  obtain ⟨g2, c2, rfl⟩ := own_some h.q (by omega)
  obtain ⟨e1, e2⟩ := flR_at hr
  obtain ⟨e3, e4⟩ := flS_at hx
  exact ⟨g, c, g2, c2, rfl, rfl, by rw [h.p.cellAt _ (by omega)]; exact e1, by rw [h.p.cellAt _ (by omega)]; exact e2, by rw [h.q.cellAt _ (by omega)]; exact e3, by rw [h.q.cellAt _ (by omega)]; exact e4, h.q.frozenAt⟩
theorem row_st {w : World} {b g n c k : Nat} {ss : List Sd} {x : Sd} (hx : ss[k]? = some x) (h : w.ownsRow b 71 2 (.slice (some ⟨g, 0, none⟩) n c) n (flS ss)) (y : Nat) : (w.setCell ⟨g, k * 2, none⟩ (I y)).ownsRow b 71 2 (.slice (some ⟨g, 0, none⟩) n c) n (flS (ss.set k (y, x.2))) := by
  have h1 := (h.stored (k * 2) (I y)).1
  rw [flS_set, set_self (l := (flS ss).set (k * 2) (I y)) (a := I x.2)]
  · exact h1
  · rw [List.getElem?_set_ne (by omega)]
    exact (flS_at hx).2
theorem row_ac {w : World} {b g n c k : Nat} {ss : List Sd} {x : Sd} (hx : ss[k]? = some x) (h : w.ownsRow b 71 2 (.slice (some ⟨g, 0, none⟩) n c) n (flS ss)) (y : Nat) : (w.setCell ⟨g, k * 2 + 1, none⟩ (I y)).ownsRow b 71 2 (.slice (some ⟨g, 0, none⟩) n c) n (flS (ss.set k (x.1, y))) := by
  have h1 := (h.stored (k * 2 + 1) (I y)).1
  rw [flS_set, set_self (l := flS ss) (a := I x.1) (flS_at hx).1]
  exact h1
theorem Ck.put {g c : Nat} (h : Ck w B v (.slice (some ⟨g, 0, none⟩) ss.length c) rs ss) {s2 : List Sd} (hf : Fz (fun b => b = g) w w') (hl : s2.length = ss.length) (ho : w'.ownsRow 0 71 2 (.slice (some ⟨g, 0, none⟩) ss.length c) ss.length (flS s2)) : Ck w' B v (.slice (some ⟨g, 0, none⟩) ss.length c) rs s2 := by
  have hd : B ≠ g := fun e => h.d2 (by rw [e]; rfl)
  exact ⟨hf.heap h.o hd, hf.own h.p (fun g2 e e2 => h.d3 g2 e (by rw [e2]; rfl)), by rw [hl]; exact ho, h.d1, h.d2, h.d3, by rw [hl]; exact h.n, h.m, h.z⟩
theorem Ck.setS {g c : Nat} (h : Ck w B v (.slice (some ⟨g, 0, none⟩) ss.length c) rs ss) {k : Nat} {x : Sd} (hx : ss[k]? = some x) (y : Nat) : Ck (w.setCell ⟨g, k * 2, none⟩ (I y)) B v (.slice (some ⟨g, 0, none⟩) ss.length c) rs (ss.set k (y, x.2)) :=
  h.put ((Fz.refl (fun b => b = g) w).set (.inl rfl) _ _) (List.length_set ..) (row_st hx h.q y)
theorem Ck.setA {g c : Nat} (h : Ck w B v (.slice (some ⟨g, 0, none⟩) ss.length c) rs ss) {k : Nat} {x : Sd} (hx : ss[k]? = some x) (y : Nat) : Ck (w.setCell ⟨g, k * 2 + 1, none⟩ (I y)) B v (.slice (some ⟨g, 0, none⟩) ss.length c) rs (ss.set k (x.1, y)) :=
  h.put ((Fz.refl (fun b => b = g) w).set (.inl rfl) _ _) (List.length_set ..) (row_ac hx h.q y)
/-! ### Small calls -/
theorem none_any (h : Ck w B v u rs ss) : Calls Tryd.prog 32 #[cP B] w fun e w' => e = .returned (.bool false) ∧ w = w' := by
  obtain ⟨c0, c1, c2⟩ := h.cells
  go_enter Tryd.func32, Tryd.ntmps32
  go_wp2
  go_ret
  exact ⟨rfl, rfl⟩
theorem none_nil (w : World) : Calls Tryd.prog 32 #[.pointer none] w fun e w' => e = .returned (.bool true) ∧ w = w' := by
  go_enter Tryd.func32, Tryd.ntmps32
  go_wp2
  go_ret
  exact ⟨rfl, rfl⟩
theorem none_zero (w : World) (B : Nat) (c0 : w.cell? ⟨B, 0, none⟩ = some (.bool false)) : Calls Tryd.prog 32 #[cP B] w fun e w' => e = .returned (.bool true) ∧ w = w' := by
  go_enter Tryd.func32, Tryd.ntmps32
  go_wp2
  go_ret
  exact ⟨rfl, rfl⟩
theorem has_any (h : Ck w B v u rs ss) (t : Int) : Calls Tryd.prog 30 #[cP B, I t] w fun e w' => e = .returned (.bool (hasB rs.length t)) ∧ w = w' := by
  obtain ⟨c0, c1, c2⟩ := h.cells
  obtain ⟨a, cc, rfl⟩ := own_sl h.p
  have hN := none_any h
  unfold hasB
  by_cases h0 : 0 ≤ t
  · rw [show decide (0 ≤ t) = true by simpa using h0, Bool.true_and]
    go_enter Tryd.func30, Tryd.ntmps30
    go_wp2_with (first | (go_at_call 32; refine hN.mono ?_; rintro e w1 ⟨rfl, rfl⟩))
    go_ret
    exact ⟨rfl, rfl⟩
  · rw [show decide (0 ≤ t) = false by simpa using h0, Bool.false_and]
    go_enter Tryd.func30, Tryd.ntmps30
    go_wp2_with (first | (go_at_call 32; refine hN.mono ?_; rintro e w1 ⟨rfl, rfl⟩))
    go_ret
    exact ⟨rfl, rfl⟩
end
end Go.Proofs.YthmecgfbapemjaaDoor
