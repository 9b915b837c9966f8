import Derived.Test.YtglnfifdjlgbcaaGreatDoorXDb
import Derived.Lib.QuietBelow
import Derived.Deep.Cut
import Derived.Shelf.Abstract
namespace Go.Proofs.YtglnfifdjlgbcaaGreatDoor.Tk
open Go.RowKit Go.Shelf Go.Sort
set_option linter.unusedVariables false
set_option linter.unusedSimpArgs false

/-! ### A table in memory -/
theorem own_sl {w : World} {b E k n : Nat} {v : Value} {xs : List Value} (h : w.ownsRow b E k v n xs) : ∃ a cc, v = .slice a n cc := by
  rcases h.2 with ⟨h1, h0⟩ | ⟨g, cap, cur, h1, _⟩
  · exact ⟨none, 0, by rw [h0]; exact h1⟩
  · exact ⟨_, _, h1⟩
theorem own_some {w : World} {b e k n : Nat} {v : Value} {xs : List Value} (h : w.ownsRow b e k v n xs) (hn : 0 < n) : ∃ g c, v = .slice (some ⟨g, 0, none⟩) n c := by
  rcases h.2 with ⟨_, h0⟩ | ⟨g, cap, cur, h1, _⟩
  · omega
  · exact ⟨g, cap, h1⟩
theorem cell_set_off {w : World} {B i j : Nat} {v u : Value} (h : w.cell? ⟨B, i, none⟩ = some u) (hij : j ≠ i) : (w.setCell ⟨B, j, none⟩ v).cell? ⟨B, i, none⟩ = some u := by
  rw [World.cell?_setCell_other _ _ _ _ (by intro e; injection e with e1 e2 e3; exact hij e2)]
  exact h
theorem cell_set_on {w : World} {B i : Nat} {v u : Value} (h : w.cell? ⟨B, i, none⟩ = some u) : (w.setCell ⟨B, i, none⟩ v).cell? ⟨B, i, none⟩ = some v := World.cell?_setCell_same _ _ _ h
abbrev cP (B : Nat) : Value := .pointer (some ⟨B, 0, none⟩)
structure Ck (w : World) (B : Nat) (v u : Value) (rs : List Rw) (ss : List Sd) : Prop where
  o : w.heap[B]? = some (.cells #[.bool true, v, u] 180)
  p : w.ownsRow 0 167 2 v rs.length (flR rs)
  q : w.ownsRow 0 202 2 u ss.length (flS ss)
  d1 : v.ownBlock ≠ some B
  d2 : u.ownBlock ≠ some B
  d3 : ∀ g, v.ownBlock = some g → u.ownBlock ≠ some g
  n : ss.length = rs.length
  m : rs.length ≤ 256
  z : B ≠ 0 ∧ v.ownBlock ≠ some 0 ∧ u.ownBlock ≠ some 0
def Cb (B : Nat) (v u : Value) (b : Nat) : Prop := b = B ∨ v.ownBlock = some b ∨ u.ownBlock = some b
section
variable {w w' : World} {B : Nat} {v u : Value} {rs : List Rw} {ss : List Sd}
theorem Ck.lt (h : Ck w B v u rs ss) {b : Nat} (hb : Cb B v u b) : b < w.heap.size := by
  rcases hb with rfl | e | e
  · exact heap_lt h.o
  · exact (h.p.lt b e).2
  · exact (h.q.lt b e).2
theorem Ck.keptZ (h : Ck w B v u rs ss) {M : Nat → Prop} (hf : Fz M w w') (hM : ∀ b, Cb B v u b → ¬ M b) : Ck w' B v u rs ss :=
  ⟨hf.heap h.o (hM _ (.inl rfl)), hf.own h.p (fun g e => hM g (.inr (.inl e))), hf.own h.q (fun g e => hM g (.inr (.inr e))), h.d1, h.d2, h.d3, h.n, h.m, h.z⟩
theorem Ck.below (h : Ck w B v u rs ss) (hb : Below w.heap.size w w') : Ck w' B v u rs ss := h.keptZ (M := fun _ => False) (Fz.of_below hb) (fun _ _ e => e)
theorem EnvR.fz {M : Nat → Prop} (h : EnvR w) (hf : Fz M w w') (hM : ¬ M 0) : EnvR w' := by
  obtain ⟨t, fr, h⟩ := h
  exact ⟨t, fr, hf.heap h hM⟩
theorem Ck.env (h : Ck w B v u rs ss) (hE : EnvR w) (hf : Fz (Cb B v u) w w') : EnvR w' := hE.fz hf (by rintro (e | e | e); exact h.z.1 e.symm; exact h.z.2.1 e; exact h.z.2.2 e)
theorem Ck.cells (h : Ck w B v u rs ss) : w.cell? ⟨B, 0, none⟩ = some (.bool true) ∧ w.cell? ⟨B, 1, none⟩ = some v ∧ w.cell? ⟨B, 2, none⟩ = some u := by
  refine ⟨?_, ?_, ?_⟩ <;> (rw [cell_of_row w B _ _ _ (0, 0) h.o]; rfl)
/-- what a task's rows hold -/
theorem Ck.at (h : Ck w B v u rs ss) {k : Nat} {r : Rw} {x : Sd} (hr : rs[k]? = some r) (hx : ss[k]? = some x) : ∃ g c g2 c2, v = .slice (some ⟨g, 0, none⟩) rs.length c ∧ u = .slice (some ⟨g2, 0, none⟩) ss.length c2 ∧ w.cell? ⟨g, k * 2, none⟩ = some (I r.1) ∧ w.cell? ⟨g, k * 2 + 1, none⟩ = some (.bool r.2) ∧ w.cell? ⟨g2, k * 2, none⟩ = some (I x.1) ∧ w.cell? ⟨g2, k * 2 + 1, none⟩ = some (I x.2) ∧ ∀ j, w.frozen? ⟨g2, j, none⟩ = false := by
  have hk : k < rs.length := (List.getElem?_eq_some_iff.1 hr).1
  have hn := h.n
  obtain ⟨g, c, rfl⟩ := own_some h.p (by omega)
  obtain ⟨g2, c2, rfl⟩ := own_some h.q (by omega)
  obtain ⟨e1, e2⟩ := flR_at hr
  obtain ⟨e3, e4⟩ := flS_at hx
  exact ⟨g, c, g2, c2, rfl, rfl, by rw [h.p.cellAt _ (by omega)]; exact e1, by rw [h.p.cellAt _ (by omega)]; exact e2, by rw [h.q.cellAt _ (by omega)]; exact e3, by rw [h.q.cellAt _ (by omega)]; exact e4, h.q.frozenAt⟩
theorem row_st {w : World} {b g n c k : Nat} {ss : List Sd} {x : Sd} (hx : ss[k]? = some x) (h : w.ownsRow b 202 2 (.slice (some ⟨g, 0, none⟩) n c) n (flS ss)) (y : Nat) : (w.setCell ⟨g, k * 2, none⟩ (I y)).ownsRow b 202 2 (.slice (some ⟨g, 0, none⟩) n c) n (flS (ss.set k (y, x.2))) := by
  have h1 := (h.stored (k * 2) (I y)).1
  rw [flS_set, set_self (l := (flS ss).set (k * 2) (I y)) (a := I x.2)]
  · exact h1
  · rw [List.getElem?_set_ne (by omega)]
    exact (flS_at hx).2
theorem row_ac {w : World} {b g n c k : Nat} {ss : List Sd} {x : Sd} (hx : ss[k]? = some x) (h : w.ownsRow b 202 2 (.slice (some ⟨g, 0, none⟩) n c) n (flS ss)) (y : Nat) : (w.setCell ⟨g, k * 2 + 1, none⟩ (I y)).ownsRow b 202 2 (.slice (some ⟨g, 0, none⟩) n c) n (flS (ss.set k (x.1, y))) := by
  have h1 := (h.stored (k * 2 + 1) (I y)).1
  rw [flS_set, set_self (l := flS ss) (a := I x.1) (flS_at hx).1]
  exact h1
theorem Ck.put {g c : Nat} (h : Ck w B v (.slice (some ⟨g, 0, none⟩) ss.length c) rs ss) {s2 : List Sd} (hf : Fz (fun b => b = g) w w') (hl : s2.length = ss.length) (ho : w'.ownsRow 0 202 2 (.slice (some ⟨g, 0, none⟩) ss.length c) ss.length (flS s2)) : Ck w' B v (.slice (some ⟨g, 0, none⟩) ss.length c) rs s2 := by
  have hd : B ≠ g := fun e => h.d2 (by rw [e]; rfl)
  exact ⟨hf.heap h.o hd, hf.own h.p (fun g2 e e2 => h.d3 g2 e (by rw [e2]; rfl)), by rw [hl]; exact ho, h.d1, h.d2, h.d3, by rw [hl]; exact h.n, h.m, h.z⟩
theorem Ck.setS {g c : Nat} (h : Ck w B v (.slice (some ⟨g, 0, none⟩) ss.length c) rs ss) {k : Nat} {x : Sd} (hx : ss[k]? = some x) (y : Nat) : Ck (w.setCell ⟨g, k * 2, none⟩ (I y)) B v (.slice (some ⟨g, 0, none⟩) ss.length c) rs (ss.set k (y, x.2)) :=
  h.put ((Fz.refl (fun b => b = g) w).set (.inl rfl) _ _) (List.length_set ..) (row_st hx h.q y)
theorem Ck.setA {g c : Nat} (h : Ck w B v (.slice (some ⟨g, 0, none⟩) ss.length c) rs ss) {k : Nat} {x : Sd} (hx : ss[k]? = some x) (y : Nat) : Ck (w.setCell ⟨g, k * 2 + 1, none⟩ (I y)) B v (.slice (some ⟨g, 0, none⟩) ss.length c) rs (ss.set k (x.1, y)) :=
  h.put ((Fz.refl (fun b => b = g) w).set (.inl rfl) _ _) (List.length_set ..) (row_ac hx h.q y)
/-! ### Small calls -/
theorem none_any (h : Ck w B v u rs ss) : Calls Tryz.prog 118 #[cP B] w fun e w' => e = .returned (.bool false) ∧ w = w' := by
  obtain ⟨c0, c1, c2⟩ := h.cells
  go_enter Tryz.func118, Tryz.ntmps118
  go_wp2
  go_ret
  exact ⟨rfl, rfl⟩
theorem none_nil (w : World) : Calls Tryz.prog 118 #[.pointer none] w fun e w' => e = .returned (.bool true) ∧ w = w' := by
  go_enter Tryz.func118, Tryz.ntmps118
  go_wp2
  go_ret
  exact ⟨rfl, rfl⟩
theorem none_zero (w : World) (B : Nat) (c0 : w.cell? ⟨B, 0, none⟩ = some (.bool false)) : Calls Tryz.prog 118 #[cP B] w fun e w' => e = .returned (.bool true) ∧ w = w' := by
  go_enter Tryz.func118, Tryz.ntmps118
  go_wp2
  go_ret
  exact ⟨rfl, rfl⟩
theorem has_any (h : Ck w B v u rs ss) (t : Int) : Calls Tryz.prog 114 #[cP B, I t] w fun e w' => e = .returned (.bool (hasB rs.length t)) ∧ w = w' := by
  obtain ⟨c0, c1, c2⟩ := h.cells
  obtain ⟨a, cc, rfl⟩ := own_sl h.p
  have hN := none_any h
  unfold hasB
  by_cases h0 : 0 ≤ t
  · rw [show decide (0 ≤ t) = true by simpa using h0, Bool.true_and]
    go_enter Tryz.func114, Tryz.ntmps114
    go_wp2_with (first | (go_at_call 118; refine hN.mono ?_; rintro e w1 ⟨rfl, rfl⟩))
    go_ret
    exact ⟨rfl, rfl⟩
  · rw [show decide (0 ≤ t) = false by simpa using h0, Bool.false_and]
    go_enter Tryz.func114, Tryz.ntmps114
    go_wp2_with (first | (go_at_call 118; refine hN.mono ?_; rintro e w1 ⟨rfl, rfl⟩))
    go_ret
    exact ⟨rfl, rfl⟩
end
end Go.Proofs.YtglnfifdjlgbcaaGreatDoor.Tk

namespace Go.Proofs.YtglnfifdjlgbcaaGreatDoor.Tk
open Go.RowKit Go.Shelf Go.Sort
set_option linter.unusedVariables false
set_option linter.unusedSimpArgs false

/-! ### shift -/
section
variable {w w' : World} {B : Nat} {v u : Value} {rs : List Rw} {ss : List Sd}
/-- the move (f, t) may be made by tasks of these kinds -/
def MvP (f t : Nat) (al : Bool → Bool) : Prop := ∀ (w : World) (x : Bool), EnvR w → Calls Tryz.prog 215 #[.agg #[I f, I t], .bool x] w fun e w' => e = .returned (.bool (al x)) ∧ Below w.heap.size w w'
set_option maxHeartbeats 2000000 in
set_option maxRecDepth 100000 in
theorem shift_no (h : Ck w B v u rs ss) {k : Nat} {r : Rw} {x : Sd} (hr : rs[k]? = some r) (hx : ss[k]? = some x) (f t : Nat) (hne : x.1 ≠ f) : Calls Tryz.prog 115 #[cP B, I k, .agg #[I f, I t]] w fun e w' => e = .returned (I 180) ∧ Below w.heap.size w w' := by
  have hk : k < rs.length := (List.getElem?_eq_some_iff.1 hr).1
  have hkS : (k : Int) < ss.length := by have := h.n; omega
  have hkR : (k : Int) < rs.length := by omega
  have hneI : ((x.1 : Int) == f) = false := beq_eq_false_iff_ne.2 (by omega)
  have hneP : ¬ ((x.1 : Int) = f) := by omega
  have hb := below_alloc w (.cells #[I f, I t] 205)
  obtain ⟨y0, y1⟩ := box_two w _ (I f) (I t) 205 (Below.refl _ (w.alloc (.cells #[I f, I t] 205)))
  have h1 := h.below hb
  obtain ⟨c0, c1, c2⟩ := h1.cells
  obtain ⟨g, c, g2, cc2, rfl, rfl, q1, q2, q3, q4, q5⟩ := h1.at hr hx
  have HB : Hid (Below w.heap.size w (w.alloc (.cells #[I f, I t] 205))) := hb
  have hX : w.heap.size < (w.alloc (.cells #[I f, I t] 205)).heap.size := by simp
  clear h h1 hne hr hx hk hb
  go_enter Tryz.func115, Tryz.ntmps115
  go_upto_region 1 with (first | fail)
  generalize hXe : w.heap.size = X at *
  generalize (w.alloc (.cells #[I f, I t] 205)) = w1 at *
  have HXE : Hid (w.heap.size = X) := hXe
  clear hXe
  go_upto_region 2 with (first | fail)
  go_region_held_law (fun w' => w'.cell? ⟨g2, k * 2, none⟩ = some (I x.1) ∧ w'.cell? ⟨X, 1, none⟩ = some (I t)) (first | exact ⟨q3, y1⟩ | (go_keep; done)) (fail)
  all_goals
    have b2 : Below w1.heap.size w1 (w1.alloc (.cells #[I x.1, I t] 205)).drew := (below_alloc w1 _).drew
    have z0 : (w1.alloc (.cells #[I x.1, I t] 205)).drew.cell? ⟨w1.heap.size, 0, none⟩ = some (I x.1) := (box_two w1 _ (I x.1) (I t) 205 (Below.refl _ _).drew).1
    have z1 : (w1.alloc (.cells #[I x.1, I t] 205)).drew.cell? ⟨w1.heap.size, 1, none⟩ = some (I t) := (box_two w1 _ (I x.1) (I t) 205 (Below.refl _ _).drew).2
    have kc : ∀ {g i : Nat} {v : Value}, w1.cell? ⟨g, i, none⟩ = some v → (w1.alloc (.cells #[I x.1, I t] 205)).drew.cell? ⟨g, i, none⟩ = some v := fun hc => (Fz.of_below (M := fun _ => False) b2).cell hc id
    have a0 := kc y0
    have a1 := kc y1
    have HC : Hid (Below X w (w1.alloc (.cells #[I x.1, I t] 205)).drew) := HB.out.trans (b2.mono (Nat.le_of_lt hX))
    clear y0 y1 c0 c1 c2 q1 q2 q3 q4 q5 b2 HB kc
    go_upto_region 3 with (first | fail)
    generalize (w1.alloc (.cells #[I x.1, I t] 205)).drew = w2 at *
    generalize w1.heap.size = Y at *
    have a0' := cell_regrown a0
    have a1' := cell_regrown a1
    have z0' := cell_regrown z0
    have z1' := cell_regrown z1
    clear a0 a1 z0 z1
    refine wp_region_quiet_below (by kernel_rfl) (by kernel_rfl) ?_
    repeat (go_big_quiet_step (first | fail))
    refine wpQuiet_nil ?_
    rintro _ ⟨⟨dq, osq⟩, rfl⟩
    dsimp only
    have HD : Hid (Below X w (grow (redrawn w2 dq) osq)) := HC.out.trans ((below_regrown w2 dq osq).mono (by have h8 := HC.out.size; have h9 := HXE.out; omega))
    clear a0' a1' z0' z1'
    generalize grow (redrawn w2 dq) osq = w7 at *
    go_wp2
    go_ret
    exact ⟨rfl, by rw [HXE.out]; exact HD.out⟩
set_option maxHeartbeats 2000000 in
set_option maxRecDepth 100000 in
theorem shift_bar (h : Ck w B v u rs ss) {k : Nat} {r : Rw} {x : Sd} (hr : rs[k]? = some r) (hx : ss[k]? = some x) (t : Nat) (hE : EnvR w) (al : Bool → Bool) (hM : MvP x.1 t al) (hal : al r.2 = false) : Calls Tryz.prog 115 #[cP B, I k, .agg #[I x.1, I t]] w fun e w' => e = .returned (I 180) ∧ Below w.heap.size w w' := by
  have hk : k < rs.length := (List.getElem?_eq_some_iff.1 hr).1
  have hkS : (k : Int) < ss.length := by have := h.n; omega
  have hkR : (k : Int) < rs.length := by omega
  have hb := below_alloc w (.cells #[I x.1, I t] 205)
  obtain ⟨y0, y1⟩ := box_two w _ (I x.1) (I t) 205 (Below.refl _ (w.alloc (.cells #[I x.1, I t] 205)))
  have h1 := h.below hb
  obtain ⟨c0, c1, c2⟩ := h1.cells
  obtain ⟨g, c, g2, cc2, rfl, rfl, q1, q2, q3, q4, q5⟩ := h1.at hr hx
  have HB : Hid (Below w.heap.size w (w.alloc (.cells #[I x.1, I t] 205))) := hb
  have hX : w.heap.size < (w.alloc (.cells #[I x.1, I t] 205)).heap.size := by simp
  have hE1 := hE.up hb
  clear h h1 hr hx hk hb hE
  go_enter Tryz.func115, Tryz.ntmps115
  go_upto_region 1 with (first | fail)
  generalize hXe : w.heap.size = X at *
  generalize (w.alloc (.cells #[I x.1, I t] 205)) = w1 at *
  have HXE : Hid (w.heap.size = X) := hXe
  clear hXe
  go_upto_region 2 with (first | fail)
  go_region_held_law (fun w' => w'.cell? ⟨g2, k * 2, none⟩ = some (I x.1) ∧ w'.cell? ⟨X, 1, none⟩ = some (I t)) (first | exact ⟨q3, y1⟩ | (go_keep; done)) (fail)
  all_goals
    have b2 : Below w1.heap.size w1 (w1.alloc (.cells #[I x.1, I t] 205)).drew := (below_alloc w1 _).drew
    have z0 : (w1.alloc (.cells #[I x.1, I t] 205)).drew.cell? ⟨w1.heap.size, 0, none⟩ = some (I x.1) := (box_two w1 _ (I x.1) (I t) 205 (Below.refl _ _).drew).1
    have z1 : (w1.alloc (.cells #[I x.1, I t] 205)).drew.cell? ⟨w1.heap.size, 1, none⟩ = some (I t) := (box_two w1 _ (I x.1) (I t) 205 (Below.refl _ _).drew).2
    have kc : ∀ {g i : Nat} {v : Value}, w1.cell? ⟨g, i, none⟩ = some v → (w1.alloc (.cells #[I x.1, I t] 205)).drew.cell? ⟨g, i, none⟩ = some v := fun hc => (Fz.of_below (M := fun _ => False) b2).cell hc id
    have a0 := kc y0
    have a1 := kc y1
    have d1 := kc c1
    have d2 := kc q2
    have hE2 := hE1.up b2
    have HC : Hid (Below X w (w1.alloc (.cells #[I x.1, I t] 205)).drew) := HB.out.trans (b2.mono (Nat.le_of_lt hX))
    clear y0 y1 c0 c1 c2 q1 q2 q3 q4 q5 b2 HB kc hE1
    go_upto_region 3 with (first | fail)
    generalize (w1.alloc (.cells #[I x.1, I t] 205)).drew = w2 at *
    generalize w1.heap.size = Y at *
    have a0' := cell_regrown a0
    have a1' := cell_regrown a1
    have d1' := cell_regrown d1
    have d2' := cell_regrown d2
    have cA : ∀ d os, Calls Tryz.prog 215 #[.agg #[I x.1, I t], .bool r.2] (grow (redrawn w2 d) os) fun e w'' => e = .returned (.bool false) ∧ ∃ p : Regrown, w'' = grow (redrawn w2 p.d) p.os := fun d os => Calls.regrown_of ((hM _ r.2 (hE2.up (below_regrown w2 d os))).mono (fun e w' h => ⟨by rw [h.1, hal], h.2⟩))
    have z0' := cell_regrown z0
    have z1' := cell_regrown z1
    clear a0 a1 z0 z1 d1 d2 hE2 hM hal
    refine wp_region_quiet_below (by kernel_rfl) (by kernel_rfl) ?_
    repeat (go_big_quiet_step (first | exact cA _ _))
    refine wpQuiet_nil ?_
    rintro _ ⟨⟨dq, osq⟩, rfl⟩
    dsimp only
    have HD : Hid (Below X w (grow (redrawn w2 dq) osq)) := HC.out.trans ((below_regrown w2 dq osq).mono (by have h8 := HC.out.size; have h9 := HXE.out; omega))
    clear a0' a1' z0' z1' d1' d2' cA
    generalize grow (redrawn w2 dq) osq = w7 at *
    go_wp2
    go_ret
    exact ⟨rfl, by rw [HXE.out]; exact HD.out⟩
set_option maxHeartbeats 2000000 in
set_option maxRecDepth 100000 in
theorem shift_ok (h : Ck w B v u rs ss) {k : Nat} {r : Rw} {x : Sd} (hr : rs[k]? = some r) (hx : ss[k]? = some x) (t : Nat) (hE : EnvR w) (al : Bool → Bool) (hM : MvP x.1 t al) (hal : al r.2 = true) : Calls Tryz.prog 115 #[cP B, I k, .agg #[I x.1, I t]] w fun e w' => e = .returned (I 0) ∧ Ck w' B v u rs (ss.set k (t, x.2)) ∧ Fz (Cb B v u) w w' := by
  have hk : k < rs.length := (List.getElem?_eq_some_iff.1 hr).1
  have hkS : (k : Int) < ss.length := by have := h.n; omega
  have hkR : (k : Int) < rs.length := by omega
  have hb := below_alloc w (.cells #[I x.1, I t] 205)
  obtain ⟨y0, y1⟩ := box_two w _ (I x.1) (I t) 205 (Below.refl _ (w.alloc (.cells #[I x.1, I t] 205)))
  have h1 := h.below hb
  obtain ⟨c0, c1, c2⟩ := h1.cells
  obtain ⟨g, c, g2, cc2, rfl, rfl, q1, q2, q3, q4, q5⟩ := h1.at hr hx
  have HB : Hid (Below w.heap.size w (w.alloc (.cells #[I x.1, I t] 205))) := hb
  have hX : w.heap.size < (w.alloc (.cells #[I x.1, I t] 205)).heap.size := by simp
  have hE1 := hE.up hb
  have HK1 : Hid (Ck (w.alloc (.cells #[I x.1, I t] 205)) B (.slice (some ⟨g, 0, none⟩) rs.length c) (.slice (some ⟨g2, 0, none⟩) ss.length cc2) rs ss) := h1
  have HX : Hid (ss[k]? = some x) := hx
  clear h h1 hr hx hk hb hE
  go_enter Tryz.func115, Tryz.ntmps115
  go_upto_region 1 with (first | fail)
  generalize hXe : w.heap.size = X at *
  generalize (w.alloc (.cells #[I x.1, I t] 205)) = w1 at *
  have HXE : Hid (w.heap.size = X) := hXe
  clear hXe
  go_upto_region 2 with (first | fail)
  go_region_held_law (fun w' => w'.cell? ⟨g2, k * 2, none⟩ = some (I x.1) ∧ w'.cell? ⟨X, 1, none⟩ = some (I t)) (first | exact ⟨q3, y1⟩ | (go_keep; done)) (fail)
  all_goals
    have b2 : Below w1.heap.size w1 (w1.alloc (.cells #[I x.1, I t] 205)).drew := (below_alloc w1 _).drew
    have z0 : (w1.alloc (.cells #[I x.1, I t] 205)).drew.cell? ⟨w1.heap.size, 0, none⟩ = some (I x.1) := (box_two w1 _ (I x.1) (I t) 205 (Below.refl _ _).drew).1
    have z1 : (w1.alloc (.cells #[I x.1, I t] 205)).drew.cell? ⟨w1.heap.size, 1, none⟩ = some (I t) := (box_two w1 _ (I x.1) (I t) 205 (Below.refl _ _).drew).2
    have kc : ∀ {g i : Nat} {v : Value}, w1.cell? ⟨g, i, none⟩ = some v → (w1.alloc (.cells #[I x.1, I t] 205)).drew.cell? ⟨g, i, none⟩ = some v := fun hc => (Fz.of_below (M := fun _ => False) b2).cell hc id
    have a0 := kc y0
    have a1 := kc y1
    have d1 := kc c1
    have d2 := kc q2
    have hE2 := hE1.up b2
    have HK2 : Hid (Ck (w1.alloc (.cells #[I x.1, I t] 205)).drew B (.slice (some ⟨g, 0, none⟩) rs.length c) (.slice (some ⟨g2, 0, none⟩) ss.length cc2) rs ss) := HK1.out.below b2
    have e1 := kc y1
    have HC : Hid (Below X w (w1.alloc (.cells #[I x.1, I t] 205)).drew) := HB.out.trans (b2.mono (Nat.le_of_lt hX))
    clear y0 y1 c0 c1 c2 q1 q2 q3 q4 q5 b2 HB kc hE1
    go_upto_region 3 with (first | fail)
    generalize (w1.alloc (.cells #[I x.1, I t] 205)).drew = w2 at *
    generalize w1.heap.size = Y at *
    have a0' := cell_regrown a0
    have a1' := cell_regrown a1
    have d1' := cell_regrown d1
    have d2' := cell_regrown d2
    have cA : ∀ d os, Calls Tryz.prog 215 #[.agg #[I x.1, I t], .bool r.2] (grow (redrawn w2 d) os) fun e w'' => e = .returned (.bool true) ∧ ∃ p : Regrown, w'' = grow (redrawn w2 p.d) p.os := fun d os => Calls.regrown_of ((hM _ r.2 (hE2.up (below_regrown w2 d os))).mono (fun e w' h => ⟨by rw [h.1, hal], h.2⟩))
    have z0' := cell_regrown z0
    have z1' := cell_regrown z1
    clear a0 a1 z0 z1 d1 d2 hE2 hM hal
    refine wp_region_quiet_below (by kernel_rfl) (by kernel_rfl) ?_
    repeat (go_big_quiet_step (first | exact cA _ _))
    refine wpQuiet_nil ?_
    rintro _ ⟨⟨dq, osq⟩, rfl⟩
    dsimp only
    have e1' := (Fz.of_below (M := fun _ => False) (below_regrown w2 dq osq)).cell e1 id
    have HK3 : Hid (Ck (grow (redrawn w2 dq) osq) B (.slice (some ⟨g, 0, none⟩) rs.length c) (.slice (some ⟨g2, 0, none⟩) ss.length cc2) rs ss) := HK2.out.below (below_regrown w2 dq osq)
    have HD : Hid (Below X w (grow (redrawn w2 dq) osq)) := HC.out.trans ((below_regrown w2 dq osq).mono (by have h8 := HC.out.size; have h9 := HXE.out; omega))
    clear a0' a1' z0' z1' d1' d2' cA
    clear e1
    generalize grow (redrawn w2 dq) osq = w7 at *
    have HF : Hid (Fz (Cb B (.slice (some ⟨g, 0, none⟩) rs.length c) (.slice (some ⟨g2, 0, none⟩) ss.length cc2)) w (w7.setCell ⟨g2, k * 2, none⟩ (I t))) := (Fz.of_below (by rw [HXE.out]; exact HD.out)).set (.inl (.inr (.inr rfl))) _ _
    have HK4 : Hid (Ck (w7.setCell ⟨g2, k * 2, none⟩ (I t)) B (.slice (some ⟨g, 0, none⟩) rs.length c) (.slice (some ⟨g2, 0, none⟩) ss.length cc2) rs (ss.set k (t, x.2))) := HK3.out.setS HX.out t
    obtain ⟨p1, p2⟩ : w7.cell? ⟨g2, k * 2, none⟩ = some (I x.1) ∧ w7.frozen? ⟨g2, k * 2, none⟩ = false := ⟨by rw [HK3.out.q.cellAt _ (by have := (List.getElem?_eq_some_iff.1 HX.out).1; omega)]; exact (flS_at HX.out).1, HK3.out.q.frozenAt _⟩
    clear HK3 HD
    go_wp2
    go_ret
    exact ⟨rfl, HK4.out, HF.out⟩
end
end Go.Proofs.YtglnfifdjlgbcaaGreatDoor.Tk

namespace Go.Proofs.YtglnfifdjlgbcaaGreatDoor.Tk
open Go.RowKit Go.Shelf Go.Sort
set_option linter.unusedVariables false
set_option linter.unusedSimpArgs false

/-! ### What is told -/
theorem iinfo : (Tryz.prog.info? 3).map (fun i => (i.zero, i.size, i.bytes)) = some (some (.int .i64 0), 1, 8) := by kernel_rfl
theorem cell_one_new (w : World) (v : Value) (t : TypeId) : ∀ (j : Nat) (u : Value), [v][j]? = some u → (w.alloc (.cells #[v] t)).cell? ((⟨w.heap.size, 0, none⟩ : Addr).add j) = some u := by
  intro j u hu
  match j, hu with
  | 0, hu => cases hu; rw [addr_add]; rw [cell_of_row _ _ _ _ _ (0, 0) (heap_alloc_new w _)]; rfl
section
variable {w w' : World} {B : Nat} {v u : Value} {rs : List Rw} {ss : List Sd}
set_option maxHeartbeats 2000000 in
set_option maxRecDepth 100000 in
theorem Running_any (h : Ck w B v u rs ss) : Calls Tryz.prog 42 #[cP B] w fun e w' => e = .returned (I (runI ss)) ∧ Below w.heap.size w w' := by
  have hN := none_any h
  have HH : Hid (Ck w B v u rs ss) := h
  obtain ⟨c0, c1, c2⟩ := h.cells
  obtain ⟨a, cc, rfl⟩ := own_sl h.q
  have hl : ss.length ≤ 256 := by have := h.n; have := h.m; omega
  have HI : Hid (Below w.heap.size w w ∧ ∀ (j : Nat) (y : Sd), j < 0 → ss[j]? = some y → y.1 ≠ 0) := ⟨Below.refl _ _, fun j y hj => absurd hj (by omega)⟩
  clear h
  go_enter Tryz.func42, Tryz.ntmps42
  go_wp2_with (first | (go_at_call 118; refine hN.mono ?_; clear hN; rintro e w1 ⟨rfl, rfl⟩))
  go_loopw [3, 4, 12] (fun _ _ v12 wr => ∃ k : Nat, k ≤ ss.length ∧ v12 = I k ∧ Hid (Below w.heap.size w wr ∧ ∀ (j : Nat) (y : Sd), j < k → ss[j]? = some y → y.1 ≠ 0)) (fun _ _ v12 _ => ss.length - (intOf v12).toNat)
  case atStart => exact ⟨0, by omega, rfl, HI.out⟩
  case round =>
    clear HI
    obtain ⟨k, hk, rfl, HJ⟩ := hrel
    by_cases hlt : k < ss.length
    · have hltI : (k : Int) < ss.length := by omega
      obtain ⟨x, hx⟩ : ∃ x, ss[k]? = some x := ⟨_, List.getElem?_eq_getElem hlt⟩
      obtain ⟨r, hr⟩ : ∃ r, rs[k]? = some r := ⟨_, List.getElem?_eq_getElem (by have := HH.out.n; omega)⟩
      obtain ⟨g, c, g2, cc2, e1, e2, -, -, q3, q4, -⟩ := (HH.out.below HJ.out.1).at hr hx
      cases e2
      have HB : Hid (∀ o, Below w.heap.size w (wr.alloc o)) := fun o => HJ.out.1.trans ((below_alloc wr o).mono HJ.out.1.size)
      by_cases h0 : x.1 = 0
      · have HR : Hid (runI ss = (k : Int)) := by
          have := runF_at ss 0 k x hx h0 HJ.out.2
          show runI ss = _
          rw [runI, this]
          simp
        rw [h0] at q3
        clear HJ h0 hx hr
        go_wp2
        go_ret
        exact ⟨ret_int HR.out.symm, HB.out _⟩
      · have hne : ((x.1 : Int) == 0) = false := beq_eq_false_iff_ne.2 (by omega)
        have HN : Hid (∀ (j : Nat) (y : Sd), j < k + 1 → ss[j]? = some y → y.1 ≠ 0) := fun j y hj hy => by
          by_cases e : j = k
          · subst e; rw [hx] at hy; cases hy; exact h0
          · exact HJ.out.2 j y (by omega) hy
        have h0I : ¬ ((x.1 : Int) = 0) := by omega
        clear HJ h0 hx hr
        go_wp2
        go_roundw
        case rel => exact ⟨k + 1, by omega, by go_num, HB.out _, HN.out⟩
        case measure => simp [intOf]; omega
    · obtain rfl : k = ss.length := by omega
      have hge : ¬ ((ss.length : Int) < ss.length) := by omega
      have HR : Hid (runI ss = -1) := runF_no ss 0 (fun j y hy => HJ.out.2 j y (List.getElem?_eq_some_iff.1 hy).1 hy)
      go_wp2
      go_ret
      exact ⟨ret_int HR.out.symm, HJ.out.1⟩
theorem State_any (h : Ck w B v u rs ss) (t : Int) : Calls Tryz.prog 165 #[cP B, I t] w fun e w' => e = .returned (.tuple #[I (staS rs.length ss t), I (eidS rs.length t)]) ∧ w = w' := by
  have hH := has_any h t
  obtain ⟨c0, c1, c2⟩ := h.cells
  unfold staS eidS
  rcases has_cases h.n t with ⟨h0, _⟩ | ⟨k, r, x, rfl, hk, hr, hx⟩
  · rw [h0] at hH ⊢
    go_enter Tryz.func165, Tryz.ntmps165
    go_wp2_with (first | (go_at_call 114; refine hH.mono ?_; clear hH; rintro e w1 ⟨rfl, rfl⟩))
    go_ret2
    exact ⟨rfl, rfl⟩
  · rw [hasB_at hk] at hH ⊢
    rw [sdA_at hx, if_pos rfl, if_pos rfl]
    have hkI : (k : Int) < ss.length := by have := h.n; omega
    obtain ⟨g, c, g2, cc2, rfl, rfl, q1, q2, q3, q4, q5⟩ := h.at hr hx
    go_enter Tryz.func165, Tryz.ntmps165
    go_wp2_with (first | (go_at_call 114; refine hH.mono ?_; clear hH; rintro e w1 ⟨rfl, rfl⟩))
    go_ret2
    exact ⟨rfl, rfl⟩
theorem Active_any (h : Ck w B v u rs ss) (t : Int) : Calls Tryz.prog 166 #[cP B, I t] w fun e w' => e = .returned (I (actN rs.length ss t)) ∧ w = w' := by
  have hH := has_any h t
  obtain ⟨c0, c1, c2⟩ := h.cells
  unfold actN
  rcases has_cases h.n t with ⟨h0, _⟩ | ⟨k, r, x, rfl, hk, hr, hx⟩
  · rw [h0] at hH ⊢
    go_enter Tryz.func166, Tryz.ntmps166
    go_wp2_with (first | (go_at_call 114; refine hH.mono ?_; clear hH; rintro e w1 ⟨rfl, rfl⟩))
    go_ret
    exact ⟨rfl, rfl⟩
  · rw [hasB_at hk] at hH ⊢
    rw [sdA_at hx, if_pos rfl]
    have hkI : (k : Int) < ss.length := by have := h.n; omega
    obtain ⟨g, c, g2, cc2, rfl, rfl, q1, q2, q3, q4, q5⟩ := h.at hr hx
    go_enter Tryz.func166, Tryz.ntmps166
    go_wp2_with (first | (go_at_call 114; refine hH.mono ?_; clear hH; rintro e w1 ⟨rfl, rfl⟩))
    go_ret
    exact ⟨rfl, rfl⟩
end
end Go.Proofs.YtglnfifdjlgbcaaGreatDoor.Tk

namespace Go.Proofs.YtglnfifdjlgbcaaGreatDoor.Tk
open Go.RowKit Go.Shelf Go.Sort
set_option linter.unusedVariables false
set_option linter.unusedSimpArgs false

/-! ### Moves -/
theorem mv_32 : MvP 3 2 (fun _ => true) := fun w x hE => allowed_32 w hE x
theorem mv_20 : MvP 2 0 (fun _ => true) := fun w x hE => allowed_20 w hE x
theorem mv_12 : MvP 1 2 (fun b => b) := fun w x hE => allowed_12 w hE x
theorem mv_out (to : Nat) (hto : to = 1 ∨ to = 2 ∨ to = 3) : MvP 0 to (fun b => if to = 1 then b else true) := by
  rcases hto with rfl | rfl | rfl
  · exact fun w x hE => allowed_01 w hE x
  · exact fun w x hE => allowed_02 w hE x
  · exact fun w x hE => allowed_03 w hE x
section
variable {w w' : World} {B : Nat} {v u : Value} {rs : List Rw} {ss : List Sd}
theorem leave_any (h : Ck w B v u rs ss) (hE : EnvR w) (to : Nat) (hto : to = 1 ∨ to = 2 ∨ to = 3) : Calls Tryz.prog 266 #[cP B, I to] w fun e w' => e = .returned (.tuple #[I (leaI rs ss to), I (leaE rs ss to)]) ∧ Ck w' B v u rs (leaL rs ss to) ∧ Fz (Cb B v u) w w' := by
  have hN := none_any h
  have hR := Running_any h
  have HH : Hid (Ck w B v u rs ss ∧ EnvR w) := ⟨h, hE⟩
  rcases run_cases ss with ⟨e, _⟩ | ⟨k, n, e, hx⟩
  · have hE0 : leaE rs ss to = 180 := by rw [leaE, if_pos e]
    rw [leaI, leaL, hE0, if_neg (by decide), if_neg (by decide)]
    rw [e] at hR
    clear hE0 e h hE hto
    go_enter Tryz.func266, Tryz.ntmps266
    go_wp2_with (first | (go_at_call 118; refine hN.mono ?_; clear hN; rintro e w1 ⟨rfl, rfl⟩) | (go_at_call 42; refine hR.mono ?_; clear hR; rintro e w2 ⟨rfl, b2⟩; have H2 : Hid (Below w.heap.size w w2) := b2; clear b2))
    go_ret2
    exact ⟨rfl, HH.out.1.below H2.out, Fz.of_below H2.out⟩
  · have hk : k < rs.length := by have := (List.getElem?_eq_some_iff.1 hx).1; have := h.n; omega
    obtain ⟨r, hr⟩ : ∃ r, rs[k]? = some r := ⟨_, List.getElem?_eq_getElem hk⟩
    have hne : ¬ ((k : Int) = -1) := by omega
    have hneb : ((k : Int) == -1) = false := beq_eq_false_iff_ne.2 hne
    have hL : leaE rs ss to = if to = 1 ∧ r.2 = false then 180 else 0 := by rw [leaE, e, if_neg hne, rwA_at hr]
    rw [leaI, leaL, hL, e, sdA_at hx, Int.toNat_natCast]
    rw [e] at hR
    cases hal : (if to = 1 then r.2 else true) with
    | false =>
      have h1 : to = 1 := by
        by_cases h1 : to = 1
        · exact h1
        · rw [if_neg h1] at hal; cases hal
      rw [if_pos h1] at hal
      rw [if_pos (show to = 1 ∧ r.2 = false from ⟨h1, hal⟩), if_neg (by decide), if_neg (by decide)]
      have hS : ∀ W, Below w.heap.size w W → Calls Tryz.prog 115 #[cP B, I k, .agg #[I 0, I to]] W fun e w' => e = .returned (I 180) ∧ Below W.heap.size W w' := fun W hb => shift_bar (HH.out.1.below hb) hr hx to (HH.out.2.up hb) _ (mv_out to hto) (by show (if to = 1 then r.2 else true) = false; rw [if_pos h1]; exact hal)
      clear h hE hto h1 hal hL hr hx e hk
      go_enter Tryz.func266, Tryz.ntmps266
      go_wp2_with (first | (go_at_call 118; refine hN.mono ?_; clear hN; rintro e w1 ⟨rfl, rfl⟩) | (go_at_call 42; refine hR.mono ?_; clear hR; rintro e w2 ⟨rfl, b2⟩; have hS2 := hS w2 b2; have H2 : Hid (Below w.heap.size w w2) := b2; clear b2 hS) | (go_at_call 115; refine hS2.mono ?_; clear hS2; rintro e w3 ⟨rfl, b3⟩; have H3 : Hid (Below w.heap.size w w3) := H2.out.trans (b3.mono H2.out.size); clear b3))
      go_ret2
      exact ⟨rfl, HH.out.1.below H3.out, Fz.of_below H3.out⟩
    | true =>
      have h1 : ¬ (to = 1 ∧ r.2 = false) := by
        rintro ⟨h1, h2⟩
        rw [if_pos h1, h2] at hal; cases hal
      rw [if_neg h1, if_pos rfl, if_pos rfl]
      have hS : ∀ W, Below w.heap.size w W → Calls Tryz.prog 115 #[cP B, I k, .agg #[I 0, I to]] W fun e w' => e = .returned (I 0) ∧ Ck w' B v u rs (ss.set k (to, n)) ∧ Fz (Cb B v u) W w' := fun W hb => shift_ok (HH.out.1.below hb) hr hx to (HH.out.2.up hb) _ (mv_out to hto) hal
      clear h hE hto h1 hal hL hr hx e hk
      go_enter Tryz.func266, Tryz.ntmps266
      go_wp2_with (first | (go_at_call 118; refine hN.mono ?_; clear hN; rintro e w1 ⟨rfl, rfl⟩) | (go_at_call 42; refine hR.mono ?_; clear hR; rintro e w2 ⟨rfl, b2⟩; have hS2 := hS w2 b2; have H2 : Hid (Below w.heap.size w w2) := b2; clear b2 hS) | (go_at_call 115; refine hS2.mono ?_; clear hS2; rintro e w3 ⟨rfl, k3, f3⟩; have H3 : Hid (Ck w3 B v u rs (ss.set k (to, n)) ∧ Fz (Cb B v u) w w3) := ⟨k3, (Fz.of_below H2.out).trans f3⟩; clear k3 f3))
      go_ret2
      exact ⟨rfl, H3.out.1, H3.out.2⟩
theorem Preempt_any (h : Ck w B v u rs ss) (hE : EnvR w) : Calls Tryz.prog 225 #[cP B] w fun e w' => e = .returned (.tuple #[I (leaI rs ss 2), I (leaE rs ss 2)]) ∧ Ck w' B v u rs (leaL rs ss 2) ∧ Fz (Cb B v u) w w' := by
  have hL : Calls Tryz.prog 266 #[cP B, I 2] w _ := leave_any h hE 2 (by omega)
  clear h hE
  go_enter Tryz.func225, Tryz.ntmps225
  go_wp2_with (first | (go_at_call 266; refine hL.mono ?_; clear hL; rintro e w1 ⟨rfl, k1, f1⟩))
  go_ret2
  exact ⟨rfl, k1, f1⟩
theorem Again_any (h : Ck w B v u rs ss) (hE : EnvR w) : Calls Tryz.prog 222 #[cP B] w fun e w' => e = .returned (.tuple #[I (leaI rs ss 2), I (leaE rs ss 2)]) ∧ Ck w' B v u rs (leaL rs ss 2) ∧ Fz (Cb B v u) w w' := by
  have hL : Calls Tryz.prog 266 #[cP B, I 2] w _ := leave_any h hE 2 (by omega)
  clear h hE
  go_enter Tryz.func222, Tryz.ntmps222
  go_wp2_with (first | (go_at_call 266; refine hL.mono ?_; clear hL; rintro e w1 ⟨rfl, k1, f1⟩))
  go_ret2
  exact ⟨rfl, k1, f1⟩
theorem Wait_any (h : Ck w B v u rs ss) (hE : EnvR w) : Calls Tryz.prog 223 #[cP B] w fun e w' => e = .returned (.tuple #[I (leaI rs ss 1), I (leaE rs ss 1)]) ∧ Ck w' B v u rs (leaL rs ss 1) ∧ Fz (Cb B v u) w w' := by
  have hL : Calls Tryz.prog 266 #[cP B, I 1] w _ := leave_any h hE 1 (by omega)
  clear h hE
  go_enter Tryz.func223, Tryz.ntmps223
  go_wp2_with (first | (go_at_call 266; refine hL.mono ?_; clear hL; rintro e w1 ⟨rfl, k1, f1⟩))
  go_ret2
  exact ⟨rfl, k1, f1⟩
theorem Start_any (h : Ck w B v u rs ss) (hE : EnvR w) (t : Int) : Calls Tryz.prog 44 #[cP B, I t] w fun e w' => e = .returned (I (staE rs ss t)) ∧ Ck w' B v u rs (staL rs ss t) ∧ Fz (Cb B v u) w w' := by
  have hN := none_any h
  have hH := has_any h t
  have hR := Running_any h
  have HH : Hid (Ck w B v u rs ss ∧ EnvR w) := ⟨h, hE⟩
  unfold staL
  rcases has_cases h.n t with ⟨h0, _⟩ | ⟨k, r, x, rfl, hk, hr, hx⟩
  · have e0 : staE rs ss t = 2 := by rw [staE, h0]; rfl
    rw [e0, if_neg (by decide)]
    rw [h0] at hH
    clear e0 h hE h0
    go_enter Tryz.func44, Tryz.ntmps44
    go_wp2_with (first | (go_at_call 118; refine hN.mono ?_; clear hN; rintro e w1 ⟨rfl, rfl⟩) | (go_at_call 114; refine hH.mono ?_; clear hH; rintro e w1 ⟨rfl, rfl⟩))
    go_ret
    exact ⟨rfl, HH.out.1, Fz.refl _ _⟩
  · have e0 : staE rs ss k = if runI ss = -1 then (if x.1 = 2 then 0 else 180) else 181 := by rw [staE, hasB_at hk, if_pos rfl, sdA_at hx]
    rw [e0, sdA_at hx, Int.toNat_natCast]
    rw [hasB_at hk] at hH
    by_cases hr1 : runI ss = -1
    · rw [if_pos hr1]
      rw [hr1] at hR
      by_cases h2 : x.1 = 2
      · rw [if_pos h2, if_pos rfl]
        have hS : ∀ W, Below w.heap.size w W → Calls Tryz.prog 115 #[cP B, I k, .agg #[I 2, I 0]] W fun e w' => e = .returned (I 0) ∧ Ck w' B v u rs (ss.set k (0, x.2)) ∧ Fz (Cb B v u) W w' := fun W hb => by
          have := shift_ok (HH.out.1.below hb) hr hx 0 (HH.out.2.up hb) (fun _ => true) (by rw [h2]; exact mv_20) rfl
          rw [h2] at this
          exact this
        clear h hE h2 hr1 e0 hr hx hk
        go_enter Tryz.func44, Tryz.ntmps44
        go_wp2_with (first | (go_at_call 118; refine hN.mono ?_; clear hN; rintro e w1 ⟨rfl, rfl⟩) | (go_at_call 114; refine hH.mono ?_; clear hH; rintro e w1 ⟨rfl, rfl⟩) | (go_at_call 42; refine hR.mono ?_; clear hR; rintro e w2 ⟨rfl, b2⟩; have hS2 := hS w2 b2; have H2 : Hid (Below w.heap.size w w2) := b2; clear b2 hS) | (go_at_call 115; refine hS2.mono ?_; clear hS2; rintro e w3 ⟨rfl, k3, f3⟩; have H3 : Hid (Ck w3 B v u rs (ss.set k (0, x.2)) ∧ Fz (Cb B v u) w w3) := ⟨k3, (Fz.of_below H2.out).trans f3⟩; clear k3 f3))
        go_ret
        exact ⟨rfl, H3.out.1, H3.out.2⟩
      · rw [if_neg h2, if_neg (by decide)]
        have hS : ∀ W, Below w.heap.size w W → Calls Tryz.prog 115 #[cP B, I k, .agg #[I 2, I 0]] W fun e w' => e = .returned (I 180) ∧ Below W.heap.size W w' := fun W hb => shift_no (HH.out.1.below hb) hr hx 2 0 h2
        clear h hE h2 hr1 e0 hr hx hk
        go_enter Tryz.func44, Tryz.ntmps44
        go_wp2_with (first | (go_at_call 118; refine hN.mono ?_; clear hN; rintro e w1 ⟨rfl, rfl⟩) | (go_at_call 114; refine hH.mono ?_; clear hH; rintro e w1 ⟨rfl, rfl⟩) | (go_at_call 42; refine hR.mono ?_; clear hR; rintro e w2 ⟨rfl, b2⟩; have hS2 := hS w2 b2; have H2 : Hid (Below w.heap.size w w2) := b2; clear b2 hS) | (go_at_call 115; refine hS2.mono ?_; clear hS2; rintro e w3 ⟨rfl, b3⟩; have H3 : Hid (Below w.heap.size w w3) := H2.out.trans (b3.mono H2.out.size); clear b3))
        go_ret
        exact ⟨rfl, HH.out.1.below H3.out, Fz.of_below H3.out⟩
    · rw [if_neg hr1, if_neg (by decide)]
      have hb : (runI ss == -1) = false := beq_eq_false_iff_ne.2 hr1
      generalize runI ss = q at *
      clear h hE e0 hr hx hk
      go_enter Tryz.func44, Tryz.ntmps44
      go_wp2_with (first | (go_at_call 118; refine hN.mono ?_; clear hN; rintro e w1 ⟨rfl, rfl⟩) | (go_at_call 114; refine hH.mono ?_; clear hH; rintro e w1 ⟨rfl, rfl⟩) | (go_at_call 42; refine hR.mono ?_; clear hR; rintro e w2 ⟨rfl, b2⟩; have H2 : Hid (Below w.heap.size w w2) := b2; clear b2))
      go_ret
      exact ⟨rfl, HH.out.1.below H2.out, Fz.of_below H2.out⟩
theorem Release_any (h : Ck w B v u rs ss) (hK : OKs rs ss) (hE : EnvR w) (t : Int) : Calls Tryz.prog 113 #[cP B, I t] w fun e w' => e = .returned (I (relE rs ss t)) ∧ Ck w' B v u rs (relL rs ss t) ∧ Fz (Cb B v u) w w' := by
  have hN := none_any h
  have hH := has_any h t
  have HH : Hid (Ck w B v u rs ss ∧ EnvR w) := ⟨h, hE⟩
  unfold relL
  rcases has_cases h.n t with ⟨h0, _⟩ | ⟨k, r, x, rfl, hk, hr, hx⟩
  · have e0 : relE rs ss t = 2 := by rw [relE, h0]; rfl
    rw [e0, if_neg (by decide)]
    rw [h0] at hH
    clear e0 h hE h0
    go_enter Tryz.func113, Tryz.ntmps113
    go_wp2_with (first | (go_at_call 118; refine hN.mono ?_; clear hN; rintro e w1 ⟨rfl, rfl⟩) | (go_at_call 114; refine hH.mono ?_; clear hH; rintro e w1 ⟨rfl, rfl⟩))
    go_ret
    exact ⟨rfl, HH.out.1, Fz.refl _ _⟩
  · have e0 : relE rs ss k = if x.1 = 1 then 0 else 180 := by rw [relE, hasB_at hk, if_pos rfl, sdA_at hx]
    rw [e0, sdA_at hx, Int.toNat_natCast]
    rw [hasB_at hk] at hH
    by_cases h2 : x.1 = 1
    · rw [if_pos h2, if_pos rfl]
      have hext : r.2 = true := (hK.s k r x hr hx).2.2.2 h2
      have hS : Calls Tryz.prog 115 #[cP B, I k, .agg #[I 1, I 2]] w fun e w' => e = .returned (I 0) ∧ Ck w' B v u rs (ss.set k (2, x.2)) ∧ Fz (Cb B v u) w w' := by
        have := shift_ok HH.out.1 hr hx 2 HH.out.2 (fun b => b) (by rw [h2]; exact mv_12) hext
        rw [h2] at this
        exact this
      clear h hE h2 e0 hr hx hk hK hext
      go_enter Tryz.func113, Tryz.ntmps113
      go_wp2_with (first | (go_at_call 118; refine hN.mono ?_; clear hN; rintro e w1 ⟨rfl, rfl⟩) | (go_at_call 114; refine hH.mono ?_; clear hH; rintro e w1 ⟨rfl, rfl⟩) | (go_at_call 115; refine hS.mono ?_; clear hS; rintro e w3 ⟨rfl, k3, f3⟩))
      go_ret
      exact ⟨rfl, k3, f3⟩
    · rw [if_neg h2, if_neg (by decide)]
      have hS : Calls Tryz.prog 115 #[cP B, I k, .agg #[I 1, I 2]] w fun e w' => e = .returned (I 180) ∧ Below w.heap.size w w' := shift_no HH.out.1 hr hx 1 2 h2
      clear h hE h2 e0 hr hx hk hK
      go_enter Tryz.func113, Tryz.ntmps113
      go_wp2_with (first | (go_at_call 118; refine hN.mono ?_; clear hN; rintro e w1 ⟨rfl, rfl⟩) | (go_at_call 114; refine hH.mono ?_; clear hH; rintro e w1 ⟨rfl, rfl⟩) | (go_at_call 115; refine hS.mono ?_; clear hS; rintro e w3 ⟨rfl, b3⟩))
      go_ret
      exact ⟨rfl, HH.out.1.below b3, Fz.of_below b3⟩
end
end Go.Proofs.YtglnfifdjlgbcaaGreatDoor.Tk

