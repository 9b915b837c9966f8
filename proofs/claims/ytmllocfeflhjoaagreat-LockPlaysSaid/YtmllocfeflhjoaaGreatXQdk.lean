import Derived.Test.YtmllocfeflhjoaaGreatXQde
import Derived.Deep.RegionHeld3
import Derived.OwnWalk
import Derived.Test.YtmllocfeflhjoaaGreatXQl
import Derived.Test.YtmllocfeflhjoaaGreatXQp
namespace Go.Proofs.YtmllocfeflhjoaaGreat
open Go.RowKit Go.Maps Go.Shelf Go.Sort
open Go.Proofs.YtmllocfeflhjoaaGreat.St (Fx Fz iQ iP iV)
set_option linter.unusedVariables false
set_option linter.unusedSimpArgs false
set_option maxRecDepth 100000
set_option maxHeartbeats 8000000
section
variable {W0 w w' : World} {tb : Tb} {v : Ts} {P : Nat} {a b : Value} {L : Tks} {i : List Bool} {g : Gt}
theorem dPut_ok (h : Dl W0 w tb v P a b L i g) (g' : Gt) (hg : mayG g' = true) : Calls Tryz.prog 48 #[lp P, .agg #[.bool g'.shut, I g'.all, I g'.os]] w fun e w' => e = .returned (I 0) ∧ Dl W0 w' tb v P a b L i g' ∧ Fz (Dm P a b) w w' := by
  have hb := below_alloc w (.cells #[.bool g'.shut, I g'.all, I g'.os] 25)
  have hV := heap_alloc_new w (.cells #[.bool g'.shut, I g'.all, I g'.os] 25)
  have h1 := h.below hb
  obtain ⟨-, -, -, -, -, c15, c16, c17⟩ := h1.cells
  have fr := h1.frz
  have a1 := fun i => cell_of_row _ _ i _ _ (0, 0) hV
  have k0 : (w.alloc (.cells #[.bool g'.shut, I g'.all, I g'.os] 25)).cell? ⟨w.heap.size, 0, none⟩ = some (.bool g'.shut) := a1 0
  have k1 : (w.alloc (.cells #[.bool g'.shut, I g'.all, I g'.os] 25)).cell? ⟨w.heap.size, 1, none⟩ = some (I g'.all) := a1 1
  have k2 : (w.alloc (.cells #[.bool g'.shut, I g'.all, I g'.os] 25)).cell? ⟨w.heap.size, 2, none⟩ = some (I g'.os) := a1 2
  have HL : Hid (Dl W0 (w.alloc (.cells #[.bool g'.shut, I g'.all, I g'.os] 25)) tb v P a b L i g ∧ Below w.heap.size w (w.alloc (.cells #[.bool g'.shut, I g'.all, I g'.os] 25))) := ⟨h1, hb⟩
  have hBX : ¬ (P = w.heap.size) := by have := heap_lt h.o; omega
  clear h h1 hb hV a1
  unfold mayG at hg
  simp only [Bool.and_eq_true, decide_eq_true_eq] at hg
  obtain ⟨⟨q1, q2⟩, q3, q4⟩ := hg
  have q1b : ¬ (g'.all < 0) := by omega
  have q2b : ¬ (255 < g'.all) := by omega
  have q3b : ¬ (g'.os < 0) := by omega
  have q4b : ¬ (255 < g'.os) := by omega
  go_enter Tryz.func48, Tryz.ntmps48
  go_upto_region 1 with fail
  generalize w.alloc (.cells #[.bool g'.shut, I g'.all, I g'.os] 25) = w1 at *
  have HK : Hid (Dl W0 (((w1.setCell ⟨P, 15, none⟩ (.bool g'.shut)).setCell ⟨P, 16, none⟩ (I g'.all)).setCell ⟨P, 17, none⟩ (I g'.os)) tb v P a b L i g' ∧ Fz (Dm P a b) w (((w1.setCell ⟨P, 15, none⟩ (.bool g'.shut)).setCell ⟨P, 16, none⟩ (I g'.all)).setCell ⟨P, 17, none⟩ (I g'.os))) := by
    obtain ⟨k1, k2⟩ := HL.out.1.setG (g' := g') ((((Fz.refl (fun b => b = P) w1).set (.inl rfl) _ _).set (.inl rfl) _ _).set (.inl rfl) _ _) ((setD ((setD ((setD HL.out.1.o).1 _)).2.1 _)).2.2 _)
    exact ⟨k1, (Fz.of_below HL.out.2).trans k2⟩
  go_wp2
  go_ret
  exact ⟨rfl, HK.out⟩
theorem dPut_no (h : Dl W0 w tb v P a b L i g) (g' : Gt) (hg : mayG g' = false) : Calls Tryz.prog 48 #[lp P, .agg #[.bool g'.shut, I g'.all, I g'.os]] w fun e w' => e = .returned (I 2) ∧ Below w.heap.size w w' := by
  have hb := below_alloc w (.cells #[.bool g'.shut, I g'.all, I g'.os] 25)
  have hV := heap_alloc_new w (.cells #[.bool g'.shut, I g'.all, I g'.os] 25)
  have a1 := fun i => cell_of_row _ _ i _ _ (0, 0) hV
  have k0 : (w.alloc (.cells #[.bool g'.shut, I g'.all, I g'.os] 25)).cell? ⟨w.heap.size, 0, none⟩ = some (.bool g'.shut) := a1 0
  have k1 : (w.alloc (.cells #[.bool g'.shut, I g'.all, I g'.os] 25)).cell? ⟨w.heap.size, 1, none⟩ = some (I g'.all) := a1 1
  have k2 : (w.alloc (.cells #[.bool g'.shut, I g'.all, I g'.os] 25)).cell? ⟨w.heap.size, 2, none⟩ = some (I g'.os) := a1 2
  have HB : Hid (Below w.heap.size w (w.alloc (.cells #[.bool g'.shut, I g'.all, I g'.os] 25))) := hb
  clear h hb hV a1
  have hq : g'.all < 0 ∨ (0 ≤ g'.all ∧ 255 < g'.all) ∨ (0 ≤ g'.all ∧ g'.all ≤ 255 ∧ g'.os < 0) ∨ (0 ≤ g'.all ∧ g'.all ≤ 255 ∧ 0 ≤ g'.os ∧ 255 < g'.os) := by
    unfold mayG at hg
    by_cases c1 : 0 ≤ g'.all ∧ g'.all ≤ 255
    · by_cases c2 : 0 ≤ g'.os ∧ g'.os ≤ 255
      · rw [decide_eq_true c1, decide_eq_true c2] at hg; cases hg
      · omega
    · omega
  clear hg
  rcases hq with q1 | ⟨q1, q2⟩ | ⟨q1, q2, q3⟩ | ⟨q1, q2, q3, q4⟩
  · go_enter Tryz.func48, Tryz.ntmps48
    go_upto_region 1 with fail
    generalize w.alloc (.cells #[.bool g'.shut, I g'.all, I g'.os] 25) = w1 at *
    go_wp2
    go_ret
    exact ⟨rfl, HB.out⟩
  · have q1b : ¬ (g'.all < 0) := by omega
    go_enter Tryz.func48, Tryz.ntmps48
    go_upto_region 1 with fail
    generalize w.alloc (.cells #[.bool g'.shut, I g'.all, I g'.os] 25) = w1 at *
    go_wp2
    go_ret
    exact ⟨rfl, HB.out⟩
  · have q1b : ¬ (g'.all < 0) := by omega
    have q2b : ¬ (255 < g'.all) := by omega
    go_enter Tryz.func48, Tryz.ntmps48
    go_upto_region 1 with fail
    generalize w.alloc (.cells #[.bool g'.shut, I g'.all, I g'.os] 25) = w1 at *
    go_wp2
    go_ret
    exact ⟨rfl, HB.out⟩
  · have q1b : ¬ (g'.all < 0) := by omega
    have q2b : ¬ (255 < g'.all) := by omega
    have q3b : ¬ (g'.os < 0) := by omega
    go_enter Tryz.func48, Tryz.ntmps48
    go_upto_region 1 with fail
    generalize w.alloc (.cells #[.bool g'.shut, I g'.all, I g'.os] 25) = w1 at *
    go_wp2
    go_ret
    exact ⟨rfl, HB.out⟩
end
end Go.Proofs.YtmllocfeflhjoaaGreat

namespace Go.Proofs.YtmllocfeflhjoaaGreat
open Go.RowKit Go.Maps Go.Shelf Go.Sort
open Go.Proofs.YtmllocfeflhjoaaGreat.St (Fx Fz iQ iP iV)
set_option linter.unusedVariables false
set_option linter.unusedSimpArgs false
set_option maxRecDepth 100000
set_option maxHeartbeats 8000000
section
variable {W0 w w' : World} {tb : Tb} {v : Ts} {P : Nat} {a b : Value} {L : Tks} {i : List Bool} {g : Gt}
theorem own_ne19 {w : World} {b1 b2 e1 e2 k1 k2 n1 n2 : Nat} {v1 v2 : Value} {x1 x2 : List Value} (h1 : w.ownsRow b1 e1 k1 v1 n1 x1) (h2 : w.ownsRow b2 e2 k2 v2 n2 x2) (he : e1 ≠ e2) {g : Nat} (hg : v1.ownBlock = some g) : v2.ownBlock ≠ some g := by
  intro hg2
  rcases h1.2 with ⟨rfl, _⟩ | ⟨g1, c1, cur1, rfl, _, hh1, _⟩
  · cases hg
  · rcases h2.2 with ⟨rfl, _⟩ | ⟨g2, c2, cur2, rfl, _, hh2, _⟩
    · cases hg2
    · cases hg
      cases hg2
      rw [hh1] at hh2
      injection hh2 with hh2
      injection hh2 with _ hh2 _
      exact he hh2
theorem Dl.setI {gb cb : Nat} (h : Dl W0 w tb v P a (.slice (some ⟨gb, 0, none⟩) i.length cb) L i g) (k : Nat) (y : Bool) : Dl W0 (w.setCell ⟨gb, k, none⟩ (.bool y)) tb v P a (.slice (some ⟨gb, 0, none⟩) i.length cb) L (i.set k y) g ∧ Fz (Dm P a (.slice (some ⟨gb, 0, none⟩) i.length cb)) w (w.setCell ⟨gb, k, none⟩ (.bool y)) := by
  have hf : Fz (fun b => b = gb) w (w.setCell ⟨gb, k, none⟩ (.bool y)) := (Fz.refl (fun b => b = gb) w).set (.inl rfl) _ _
  have hd : P ≠ gb := fun e => own_neP h.r h.o (by decide) (by rw [e]; rfl)
  refine ⟨⟨hf.heap h.o hd, h.t0, h.lo.trans (hf.below h.lo.size (fun x e => by rw [e]; exact (h.low (x := gb) (.inr (.inr rfl))).1)), h.p, h.tk, hf.own h.q (fun g2 e1 e2 => own_ne19 h.q h.r (by decide) e1 (by rw [e2]; rfl)), ?_, by rw [List.length_set]; exact h.n, h.m⟩, hf.mono (fun x e => .inr (.inr (by rw [e]; rfl)))⟩
  rw [List.map_set, List.length_set]
  exact (h.r.stored k (.bool y)).1
theorem dEnter_no (h : Dl W0 w tb v P a b L i g) (t : Int) (ht : t < 0 ∨ (i.length : Int) ≤ t) (on : Bool) : Calls Tryz.prog 46 #[lp P, I t, .bool on] w fun e w' => e = .returned (I 2) ∧ w = w' := by
  obtain ⟨-, -, -, -, c14, -, -, -⟩ := h.cells
  obtain ⟨a2, cc, rfl⟩ := own_slk19 h.r
  clear h
  by_cases h0 : t < 0
  · clear ht
    go_enter Tryz.func46, Tryz.ntmps46
    go_wp2
    go_ret
    exact ⟨rfl, rfl⟩
  · have h1 : (i.length : Int) ≤ t := by omega
    clear ht
    go_enter Tryz.func46, Tryz.ntmps46
    go_wp2
    go_ret
    exact ⟨rfl, rfl⟩
theorem dEnter_on (h : Dl W0 w tb v P a b L i g) {k : Nat} {z : Bool} {x : TkR} (hz : i[k]? = some z) (hx : tb.tasks[k]? = some x) : Calls Tryz.prog 46 #[lp P, I k, .bool true] w fun e w' => e = .returned (I 0) ∧ Dl W0 w' tb v P a b L (i.set k (decide (0 ≤ x.inner))) g ∧ Fz (Dm P a b) w w' := by
  obtain ⟨c2, -, -, -, c14, -, -, -⟩ := h.cells
  have hk : k < i.length := (List.getElem?_eq_some_iff.1 hz).1
  obtain ⟨n1, -, -⟩ := h.ns
  have hn := h.n
  have hl := h.tk.tasks
  obtain ⟨gb, cb, rfl⟩ := own_some19 h.r (by omega)
  obtain ⟨g1, off, s6, e1, hg1, -⟩ := tkr_at h.t0 hx
  obtain ⟨g1', off', s6', e1', -, -, -, -, -, -, q5, -⟩ := tkr_at h.t hx
  rw [e1] at e1'
  cases e1'
  rw [e1] at c2
  have hlow := h.low (x := gb) (.inr (.inr rfl))
  have hne1 : ¬ (g1 = gb) := by omega
  have hne2 : ¬ (P = gb) := fun e => own_neP h.r h.o (by decide) (by rw [e]; rfl)
  have hk1 : ¬ ((k : Int) < 0) := by omega
  have hk2 : ¬ ((i.length : Int) ≤ k) := by omega
  have hk3 : (k : Int) < i.length := by omega
  have hk4 : (k : Int) < v.t.n := by omega
  have fr : ∀ j, w.frozen? ⟨gb, j, none⟩ = false := h.r.frozenAt
  have q : w.cell? ⟨gb, k, none⟩ = some (.bool z) := by rw [h.r.cellAt _ (by omega), List.getElem?_map, hz]; rfl
  have HK : Hid (∀ y, Dl W0 (w.setCell ⟨gb, k, none⟩ (.bool y)) tb v P a (.slice (some ⟨gb, 0, none⟩) i.length cb) L (i.set k y) g ∧ Fz (Dm P a (.slice (some ⟨gb, 0, none⟩) i.length cb)) w (w.setCell ⟨gb, k, none⟩ (.bool y))) := fun y => h.setI k y
  clear h hz hx hn hl n1 e1 hg1 hlow
  generalize x.inner = n at *
  go_enter Tryz.func46, Tryz.ntmps46
  go_upto_region 3 with fail
  have u : ∀ y, (w.setCell ⟨gb, k, none⟩ y).drew.cell? ⟨P, 14, none⟩ = some (.slice (some ⟨gb, 0, none⟩) i.length cb) ∧ (w.setCell ⟨gb, k, none⟩ y).drew.cell? ⟨P, 2, none⟩ = some (.slice (some ⟨g1, off, none⟩) v.t.n v.t.c) ∧ (w.setCell ⟨gb, k, none⟩ y).drew.cell? ⟨g1, off + k * 8 + 5, none⟩ = some (I n) := fun y => by
    have hf : Fz (fun b => b = gb) w (w.setCell ⟨gb, k, none⟩ y).drew := ((Fz.refl (fun b => b = gb) w).set (.inl rfl) _ _).drewN 1
    exact ⟨hf.cell c14 hne2, hf.cell c2 hne2, hf.cell q5 hne1⟩
  go_region_held_law (fun w' => w'.cell? ⟨P, 14, none⟩ = some (.slice (some ⟨gb, 0, none⟩) i.length cb) ∧ w'.cell? ⟨P, 2, none⟩ = some (.slice (some ⟨g1, off, none⟩) v.t.n v.t.c) ∧ w'.cell? ⟨g1, off + k * 8 + 5, none⟩ = some (I n)) (first | exact ⟨c14, c2, q5⟩ | exact u _ | (go_keep; done)) (fail)
  all_goals
    go_wp2
    go_ret
    exact ⟨rfl, (HK.out _).1.below (St.below_drewN 1 (Below.refl _ _)), (HK.out _).2.drewN 1⟩
end
end Go.Proofs.YtmllocfeflhjoaaGreat

namespace Go.Proofs.YtmllocfeflhjoaaGreat
open Go.RowKit Go.Maps Go.Shelf Go.Sort
open Go.Proofs.YtmllocfeflhjoaaGreat.St (Fx Fz iQ iP iV)
set_option linter.unusedVariables false
set_option linter.unusedSimpArgs false
set_option maxRecDepth 100000
set_option maxHeartbeats 8000000
section
variable {W0 w w' : World} {tb : Tb} {v : Ts} {P : Nat} {a b : Value} {L : Tks} {i : List Bool} {g : Gt}
theorem dEnter_off (h : Dl W0 w tb v P a b L i g) {k : Nat} {z : Bool} {x : TkR} (hz : i[k]? = some z) (hx : tb.tasks[k]? = some x) : Calls Tryz.prog 46 #[lp P, I k, .bool false] w fun e w' => e = .returned (I 0) ∧ Dl W0 w' tb v P a b L (i.set k false) g ∧ Fz (Dm P a b) w w' := by
  obtain ⟨c2, -, -, -, c14, -, -, -⟩ := h.cells
  have hk : k < i.length := (List.getElem?_eq_some_iff.1 hz).1
  obtain ⟨n1, -, -⟩ := h.ns
  have hn := h.n
  have hl := h.tk.tasks
  obtain ⟨gb, cb, rfl⟩ := own_some19 h.r (by omega)
  obtain ⟨g1, off, s6, e1, hg1, -⟩ := tkr_at h.t0 hx
  obtain ⟨g1', off', s6', e1', -, -, -, -, -, -, q5, -⟩ := tkr_at h.t hx
  rw [e1] at e1'
  cases e1'
  rw [e1] at c2
  have hlow := h.low (x := gb) (.inr (.inr rfl))
  have hne1 : ¬ (g1 = gb) := by omega
  have hne2 : ¬ (P = gb) := fun e => own_neP h.r h.o (by decide) (by rw [e]; rfl)
  have hk1 : ¬ ((k : Int) < 0) := by omega
  have hk2 : ¬ ((i.length : Int) ≤ k) := by omega
  have hk3 : (k : Int) < i.length := by omega
  have hk4 : (k : Int) < v.t.n := by omega
  have fr : ∀ j, w.frozen? ⟨gb, j, none⟩ = false := h.r.frozenAt
  have q : w.cell? ⟨gb, k, none⟩ = some (.bool z) := by rw [h.r.cellAt _ (by omega), List.getElem?_map, hz]; rfl
  have HK : Hid (∀ y, Dl W0 (w.setCell ⟨gb, k, none⟩ (.bool y)) tb v P a (.slice (some ⟨gb, 0, none⟩) i.length cb) L (i.set k y) g ∧ Fz (Dm P a (.slice (some ⟨gb, 0, none⟩) i.length cb)) w (w.setCell ⟨gb, k, none⟩ (.bool y))) := fun y => h.setI k y
  have HD : Hid (Dl W0 (w.drew.setCell ⟨gb, k, none⟩ (.bool false)) tb v P a (.slice (some ⟨gb, 0, none⟩) i.length cb) L (i.set k false) g ∧ Fz (Dm P a (.slice (some ⟨gb, 0, none⟩) i.length cb)) w (w.drew.setCell ⟨gb, k, none⟩ (.bool false))) := by
    obtain ⟨k1, k2⟩ := (h.below (w' := w.drew) (St.below_drewN 1 (Below.refl _ _))).setI k false
    exact ⟨k1, ((Fz.refl _ w).drewN 1).trans k2⟩
  clear h hz hx hn hl n1 e1 hg1 hlow
  generalize x.inner = n at *
  go_enter Tryz.func46, Tryz.ntmps46
  go_upto_region 3 with fail
  have c14d : w.drew.cell? ⟨P, 14, none⟩ = some (.slice (some ⟨gb, 0, none⟩) i.length cb) := c14
  have frd : ∀ j, w.drew.frozen? ⟨gb, j, none⟩ = false := fr
  have qd : w.drew.cell? ⟨gb, k, none⟩ = some (.bool z) := q
  have u : ∀ y, (w.drew.setCell ⟨gb, k, none⟩ y).cell? ⟨P, 14, none⟩ = some (.slice (some ⟨gb, 0, none⟩) i.length cb) := fun y => by
    have hf : Fz (fun b => b = gb) w (w.drew.setCell ⟨gb, k, none⟩ y) := ((Fz.refl (fun b => b = gb) w).drewN 1).set (.inl rfl) _ _
    exact hf.cell c14 hne2
  have HKd : Hid (Dl W0 (w.drew.setCell ⟨gb, k, none⟩ (.bool false)) tb v P a (.slice (some ⟨gb, 0, none⟩) i.length cb) L (i.set k false) g ∧ Fz (Dm P a (.slice (some ⟨gb, 0, none⟩) i.length cb)) w (w.drew.setCell ⟨gb, k, none⟩ (.bool false))) := HD.out
  have u2 : ∀ y, (w.setCell ⟨gb, k, none⟩ y).drew.cell? ⟨P, 14, none⟩ = some (.slice (some ⟨gb, 0, none⟩) i.length cb) := fun y => by
    have hf : Fz (fun b => b = gb) w (w.setCell ⟨gb, k, none⟩ y).drew := ((Fz.refl (fun b => b = gb) w).set (.inl rfl) _ _).drewN 1
    exact hf.cell c14 hne2
  clear c2 q5 q fr HD u HKd
  refine wp_region_held_drew (S := fun W' => W'.cell? ⟨P, 14, none⟩ = some (.slice (some ⟨gb, 0, none⟩) i.length cb)) (by kernel_rfl) c14d (fun hHeld => ?_)
  try simp only [Act.put, List.getElem_toArray, List.getElem_cons_succ, List.getElem_cons_zero, List.setIfInBounds_toArray, List.set_cons_zero, List.set_cons_succ]
  refine wpAnyH_take (i := 0) (v := ?_) rfl (by kernel_rfl) (by kernel_rfl) (by kernel_rfl) (fun _ _ _ h => h) (Or.inl ⟨by rfl, ?_⟩) hHeld ?_
  rotate_left
  · intro w' hSw
    go_simp
    try with_reducible rfl
  try simp only [Act.put, List.getElem_toArray, List.getElem_cons_succ, List.getElem_cons_zero, List.setIfInBounds_toArray, List.set_cons_zero, List.set_cons_succ]
  refine wpAnyH_take (i := 1) (v := ?_) rfl (by kernel_rfl) (by kernel_rfl) (by kernel_rfl) (fun _ _ _ h => h) (Or.inl ⟨by rfl, ?_⟩) hHeld ?_
  rotate_left
  · intro w' hSw
    go_simp
    try with_reducible rfl
  try simp only [Act.put, List.getElem_toArray, List.getElem_cons_succ, List.getElem_cons_zero, List.setIfInBounds_toArray, List.set_cons_zero, List.set_cons_succ]
  refine wpAnyH_take (i := 2) (v := ?_) rfl (by kernel_rfl) (by kernel_rfl) (by kernel_rfl) (fun _ _ _ h => h) (Or.inl ⟨by rfl, ?_⟩) hHeld ?_
  rotate_left
  · intro w' hSw
    go_simp
    try with_reducible rfl
  try simp only [Act.put, List.getElem_toArray, List.getElem_cons_succ, List.getElem_cons_zero, List.setIfInBounds_toArray, List.set_cons_zero, List.set_cons_succ]
  refine wpAnyH_take (i := 3) (v := ?_) rfl (by kernel_rfl) (by kernel_rfl) (by kernel_rfl) (fun _ _ _ h => h) (Or.inl ⟨by rfl, ?_⟩) hHeld ?_
  rotate_left
  · intro w' hSw
    go_simp
    try with_reducible rfl
  try simp only [Act.put, List.getElem_toArray, List.getElem_cons_succ, List.getElem_cons_zero, List.setIfInBounds_toArray, List.set_cons_zero, List.set_cons_succ]
  refine wpAnyH_take (i := 4) (v := ?_) rfl (by kernel_rfl) (by kernel_rfl) (by kernel_rfl) (fun _ _ _ h => h) (Or.inl ⟨by rfl, ?_⟩) hHeld ?_
  rotate_left
  · intro w' hSw
    go_simp
    try with_reducible rfl
  try simp only [Act.put, List.getElem_toArray, List.getElem_cons_succ, List.getElem_cons_zero, List.setIfInBounds_toArray, List.set_cons_zero, List.set_cons_succ]
  refine wpAnyH_take (i := 5) (v := ?_) rfl (by kernel_rfl) (by kernel_rfl) (by kernel_rfl) (fun _ _ _ h => h) (Or.inl ⟨by rfl, ?_⟩) hHeld ?_
  rotate_left
  · intro w' hSw
    go_simp
    try with_reducible rfl
  try simp only [Act.put, List.getElem_toArray, List.getElem_cons_succ, List.getElem_cons_zero, List.setIfInBounds_toArray, List.set_cons_zero, List.set_cons_succ]
  refine wpAnyH_take (i := 6) (v := ?_) rfl (by kernel_rfl) (by kernel_rfl) (by kernel_rfl) (fun _ _ _ h => h) (Or.inl ⟨by rfl, ?_⟩) hHeld ?_
  rotate_left
  · intro w' hSw
    go_simp
    try with_reducible rfl
  try simp only [Act.put, List.getElem_toArray, List.getElem_cons_succ, List.getElem_cons_zero, List.setIfInBounds_toArray, List.set_cons_zero, List.set_cons_succ]
  refine wpAnyH_take (i := 7) (v := undef) rfl (by kernel_rfl) (by kernel_rfl) (by kernel_rfl) (fun _ _ _ h => h) (Or.inr ⟨by rfl, rfl⟩) hHeld ?_
  try simp only [Act.put, List.getElem_toArray, List.getElem_cons_succ, List.getElem_cons_zero, List.setIfInBounds_toArray, List.set_cons_zero, List.set_cons_succ]
  refine wpAnyH_take (i := 8) (v := undef) rfl (by kernel_rfl) (by kernel_rfl) (by kernel_rfl) (fun _ _ _ h => h) (Or.inr ⟨by rfl, rfl⟩) hHeld ?_
  try simp only [Act.put, List.getElem_toArray, List.getElem_cons_succ, List.getElem_cons_zero, List.setIfInBounds_toArray, List.set_cons_zero, List.set_cons_succ]
  refine wpAnyH_take (i := 9) (v := undef) rfl (by kernel_rfl) (by kernel_rfl) (by kernel_rfl) (fun _ _ _ h => h) (Or.inr ⟨by rfl, rfl⟩) hHeld ?_
  try simp only [Act.put, List.getElem_toArray, List.getElem_cons_succ, List.getElem_cons_zero, List.setIfInBounds_toArray, List.set_cons_zero, List.set_cons_succ]
  refine wpAnyH_take (i := 10) (v := undef) rfl (by kernel_rfl) (by kernel_rfl) (by kernel_rfl) (fun _ _ _ h => h) (Or.inr ⟨by rfl, rfl⟩) hHeld ?_
  try simp only [Act.put, List.getElem_toArray, List.getElem_cons_succ, List.getElem_cons_zero, List.setIfInBounds_toArray, List.set_cons_zero, List.set_cons_succ]
  refine wpAnyH_take (i := 11) (v := undef) rfl (by kernel_rfl) (by kernel_rfl) (by kernel_rfl) (fun _ _ _ h => h) (Or.inr ⟨by rfl, rfl⟩) hHeld ?_
  try simp only [Act.put, List.getElem_toArray, List.getElem_cons_succ, List.getElem_cons_zero, List.setIfInBounds_toArray, List.set_cons_zero, List.set_cons_succ]
  refine wpAnyH_take (i := 12) (v := undef) rfl (by kernel_rfl) (by kernel_rfl) (by kernel_rfl) (fun _ _ _ h => h) (Or.inr ⟨by rfl, rfl⟩) hHeld ?_
  try simp only [Act.put, List.getElem_toArray, List.getElem_cons_succ, List.getElem_cons_zero, List.setIfInBounds_toArray, List.set_cons_zero, List.set_cons_succ]
  refine wpAnyH_take (i := 13) (v := undef) rfl (by kernel_rfl) (by kernel_rfl) (by kernel_rfl) (fun _ _ _ h => h) (Or.inr ⟨by rfl, rfl⟩) hHeld ?_
  try simp only [Act.put, List.getElem_toArray, List.getElem_cons_succ, List.getElem_cons_zero, List.setIfInBounds_toArray, List.set_cons_zero, List.set_cons_succ]
  refine wpAnyH_take (i := 14) (v := undef) rfl (by kernel_rfl) (by kernel_rfl) (by kernel_rfl) (fun _ _ _ h => h) (Or.inr ⟨by rfl, rfl⟩) hHeld ?_
  try simp only [Act.put, List.getElem_toArray, List.getElem_cons_succ, List.getElem_cons_zero, List.setIfInBounds_toArray, List.set_cons_zero, List.set_cons_succ]
  refine wpAnyH_take (i := 15) (v := undef) rfl (by kernel_rfl) (by kernel_rfl) (by kernel_rfl) (fun _ _ _ h => h) (Or.inr ⟨by rfl, rfl⟩) hHeld ?_
  try simp only [Act.put, List.getElem_toArray, List.getElem_cons_succ, List.getElem_cons_zero, List.setIfInBounds_toArray, List.set_cons_zero, List.set_cons_succ]
  refine wpAnyH_take (i := 16) (v := undef) rfl (by kernel_rfl) (by kernel_rfl) (by kernel_rfl) (fun _ _ _ h => h) (Or.inr ⟨by rfl, rfl⟩) hHeld ?_
  try simp only [Act.put, List.getElem_toArray, List.getElem_cons_succ, List.getElem_cons_zero, List.setIfInBounds_toArray, List.set_cons_zero, List.set_cons_succ]
  refine wpAnyH_take (i := 17) (v := ?_) rfl (by kernel_rfl) (by kernel_rfl) (by kernel_rfl) (fun _ _ _ h => h) (Or.inl ⟨by rfl, ?_⟩) hHeld ?_
  rotate_left
  · intro w' hSw
    go_simp
    try with_reducible rfl
  try simp only [Act.put, List.getElem_toArray, List.getElem_cons_succ, List.getElem_cons_zero, List.setIfInBounds_toArray, List.set_cons_zero, List.set_cons_succ]
  refine wpAnyH_take (i := 18) (v := ?_) rfl (by kernel_rfl) (by kernel_rfl) (by kernel_rfl) (fun _ _ _ h => h) (Or.inl ⟨by rfl, ?_⟩) hHeld ?_
  rotate_left
  · intro w' hSw
    go_simp
    try with_reducible rfl
  try simp only [Act.put, List.getElem_toArray, List.getElem_cons_succ, List.getElem_cons_zero, List.setIfInBounds_toArray, List.set_cons_zero, List.set_cons_succ]
  refine wpAnyH_ready (rs := [19]) (by kernel_rfl) (by simp) ?_
  refine AllReadyH.cons rfl (fun K hK => ?_) AllReadyH.nil
  go_simp
  refine hK _ _ (u2 _) (fun _ => ?_)
  clear hK K
  refine wpAnyH_done (by kernel_rfl) ?_ _
  go_wp2
  go_ret
  exact ⟨rfl, (HK.out _).1.below (St.below_drewN 1 (Below.refl _ _)), (HK.out _).2.drewN 1⟩
end
end Go.Proofs.YtmllocfeflhjoaaGreat

namespace Go.Proofs.YtmllocfeflhjoaaGreat
open Go.RowKit Go.Maps Go.Shelf Go.Sort
open Go.Proofs.YtmllocfeflhjoaaGreat.St (Fx Fz iQ iP iV)
set_option linter.unusedVariables false
set_option linter.unusedSimpArgs false
set_option maxRecDepth 100000
set_option maxHeartbeats 8000000
theorem binfo19 : (Tryz.prog.info? 4).map (fun i => (i.zero, i.size, i.bytes)) = some (some (.bool false), 1, 1) := by kernel_rfl
theorem fz_none19 {w w' : World} (h : w.grownBy w' none) (M : Nat → Prop) : Fz M w w' := ⟨h.os, h.tape, h.output, h.size, fun b hb _ => h.block b hb (by simp)⟩
theorem ob_eq19 {b n c g : Nat} (e : (Value.slice (some ⟨b, 0, none⟩) n c).ownBlock = some g) : b = g := by cases e; rfl
theorem made_b19 (n : Nat) : (madeCells (Value.bool false).cells (n * 1)).toList = (List.replicate n false).map .bool := by
  rw [show (Value.bool false).cells = #[.bool false] from rfl, Nat.mul_one, toList_madeCells_one, List.map_replicate]
section
variable {W0 w w' : World} {tb : Tb} {v : Ts} {P : Nat} {a b : Value} {L : Tks} {i : List Bool} {g : Gt}
theorem dReset (h : Dl W0 w tb v P a b L i g) : Calls Tryz.prog 49 #[lp P] w fun e w' => e = .returned (.tuple #[]) ∧ (∃ b', Dl W0 w' tb v P (.slice none 0 0) b' [] (List.replicate tb.tasks.length false) ⟨false, 0, 0⟩ ∧ ∀ x, b'.ownBlock = some x → w.heap.size ≤ x) ∧ Fz (fun x => x = P) w w' := by
  obtain ⟨ib, hib, hb0, hb1, hb2⟩ := info_parts binfo19
  obtain ⟨c2, -, -, c13, c14, c15, c16, c17⟩ := h.cells
  obtain ⟨n1, -, -⟩ := h.ns
  have hl : v.t.n ≤ 256 := by have := h.tk.tasks; omega
  have N1 : Hid (v.t.n = tb.tasks.length) := n1
  clear n1
  have fr := h.frz
  have hP : P < w.heap.size := heap_lt h.o
  have o0 : (w.setCell ⟨P, 13, none⟩ (.slice none 0 0)).heap[P]? = some (.cells (dC tb v (.slice none 0 0) b g) 82) := heap_setCell_same _ P 13 _ _ _ h.o
  have F0 : Fz (fun x => x = P) w (w.setCell ⟨P, 13, none⟩ (.slice none 0 0)) := fz_set w P 13 _
  have HH : Hid (TbAt W0 tb v ∧ Below W0.heap.size W0 w ∧ W0.heap.size ≤ P ∧ OKt tb) := ⟨h.t0, h.lo, h.p, h.tk⟩
  have hs0 : (w.setCell ⟨P, 13, none⟩ (.slice none 0 0)).heap.size = w.heap.size := by simp
  have hW : W0.heap.size ≤ w.heap.size := h.lo.size
  clear h
  go_enter Tryz.func49, Tryz.ntmps49
  go_upto_region 1 with fail
  clear c2 c13 c14 c15 c16 c17 fr
  generalize w.setCell ⟨P, 13, none⟩ (.slice none 0 0) = x0 at *
  have cc := fun j => cell_of_row _ _ j _ _ (0, 0) o0
  have c2 : x0.cell? ⟨P, 2, none⟩ = some (.slice v.t.a v.t.n v.t.c) := cc 2
  clear cc
  go_upto_region 2 with (first | (at_make; refine wpList_make_full _ rfl _ _ 79 rfl W0.heap.size 4 ib (.bool false) 1 Tryz.underlying79 hib hb0 hb1 .i64 .i64 _ _ v.t.n rfl rfl rfl rfl (by rw [hb2]; omega) (by unfold maxLen; omega) (by omega) ?_; intro w1 o1 g1; have p1 := (g1.block P (by omega) (by simp)).trans o0; have f1 := fun j => frozen_of_row w1 P j _ _ p1; have cc := fun j => cell_of_row w1 P j _ _ (0, 0) p1; have c14 : w1.cell? ⟨P, 14, none⟩ = some b := cc 14; clear cc))
  rw [hs0] at o1
  have F1 : Fz (fun x => x = P) w (w1.setCell ⟨P, 14, none⟩ (.slice (some ⟨w.heap.size, 0, none⟩) v.t.n v.t.n)) := (F0.trans (fz_none19 g1 _)).trans (fz_set w1 P 14 _)
  have O1 := (fz_set w1 P 14 (.slice (some ⟨w.heap.size, 0, none⟩) v.t.n v.t.n)).own o1 (fun x e e2 => by have := ob_eq19 e; omega)
  have p2 : (w1.setCell ⟨P, 14, none⟩ (.slice (some ⟨w.heap.size, 0, none⟩) v.t.n v.t.n)).heap[P]? = some (.cells (dC tb v (.slice none 0 0) (.slice (some ⟨w.heap.size, 0, none⟩) v.t.n v.t.n) g) 82) := heap_setCell_same _ P 14 _ _ _ p1
  clear p1 f1 c14 c2 o1 g1 F0 o0
  generalize w1.setCell ⟨P, 14, none⟩ (.slice (some ⟨w.heap.size, 0, none⟩) v.t.n v.t.n) = x1 at *
  have fr := fun j => frozen_of_row x1 P j _ _ p2
  have cc := fun j => cell_of_row _ _ j _ _ (0, 0) p2
  have c15 : x1.cell? ⟨P, 15, none⟩ = some (.bool g.shut) := cc 15
  have c16 : x1.cell? ⟨P, 16, none⟩ = some (I g.all) := cc 16
  have c17 : x1.cell? ⟨P, 17, none⟩ = some (I g.os) := cc 17
  have HP : Hid (x1.heap[P]? = some (.cells (dC tb v (.slice none 0 0) (.slice (some ⟨w.heap.size, 0, none⟩) v.t.n v.t.n) g) 82)) := p2
  have HO : Hid (x1.ownsRow W0.heap.size 4 1 (.slice (some ⟨w.heap.size, 0, none⟩) v.t.n v.t.n) v.t.n (madeCells (Value.bool false).cells (v.t.n * 1)).toList) := O1
  clear cc p2 O1
  go_wp2
  refine bodyPost_end (v := .tuple #[]) (by simp [results, Tryz.results49, go_sem]) rfl ?_
  have F2 : Fz (fun x => x = P) x1 (((x1.setCell ⟨P, 15, none⟩ (.bool false)).setCell ⟨P, 16, none⟩ (I 0)).setCell ⟨P, 17, none⟩ (I 0)) := (((Fz.refl (fun b => b = P) x1).set (.inl rfl) _ _).set (.inl rfl) _ _).set (.inl rfl) _ _
  obtain ⟨t0, lo, p, tk⟩ := HH.out
  refine ⟨rfl, ⟨.slice (some ⟨w.heap.size, 0, none⟩) v.t.n v.t.n, ⟨(setD ((setD ((setD HP.out).1 _)).2.1 _)).2.2 _, t0, lo.trans ((F1.trans F2).below lo.size (fun x e => by rw [e]; exact p)), p, tk, World.ownsRow_nil _ _ _ _, ?_, by simp, by simp⟩, fun x e => by have := ob_eq19 e; omega⟩, F1.trans F2⟩
  have := F2.own HO.out (fun x e e2 => by have := ob_eq19 e; omega)
  rw [made_b19] at this
  rw [List.length_replicate, ← N1.out]
  exact this
end
end Go.Proofs.YtmllocfeflhjoaaGreat

namespace Go.Proofs.YtmllocfeflhjoaaGreat
open Go.RowKit Go.Maps Go.Shelf Go.Sort
open Go.Proofs.YtmllocfeflhjoaaGreat.St (Fx Fz iQ iP iV)
set_option linter.unusedVariables false
set_option linter.unusedSimpArgs false
set_option maxRecDepth 100000
set_option maxHeartbeats 8000000
theorem hld_step {L : Tks} {o : Own} {k : Nat} {t : Own × Int} (h : L[k]? = some t) : hld (L.take (k + 1)) o = if t.1 = o then hld (L.take k) o ++ [t.2] else hld (L.take k) o := by
  rw [List.take_add_one, h]
  by_cases e : t.1 = o <;> simp [hld, e]
theorem own_down19 {w : World} {b b' e k n : Nat} {v : Value} {xs : List Value} (hb : b' ≤ b) (h : w.ownsRow b e k v n xs) : w.ownsRow b' e k v n xs := by
  obtain ⟨hl, h0 | ⟨g, cap, cur, hv, hb1, rr⟩⟩ := h
  · exact ⟨hl, .inl h0⟩
  · exact ⟨hl, .inr ⟨g, cap, cur, hv, by omega, rr⟩⟩
section
variable {W0 w w' : World} {tb : Tb} {v : Ts} {P : Nat} {a b : Value} {L : Tks} {i : List Bool} {g : Gt}
theorem hld_le (L : Tks) (o : Own) (k : Nat) : (hld (L.take k) o).length ≤ L.length := by
  unfold hld
  rw [List.length_map]
  exact Nat.le_trans (List.length_filter_le _ _) (by simp; omega)
theorem dHeld (h : Dl W0 w tb v P a b L i g) (o : Own) : Calls Tryz.prog 51 #[lp P, .agg #[.bool o.isr, I o.id]] w fun e w' => ∃ u, e = .returned u ∧ w'.ownsRow w.heap.size 3 1 u (hld L o).length (iV (hld L o)) ∧ Below w.heap.size w w' := by
  obtain ⟨i0, hi0, hz0, hz1, hz2⟩ := info_parts iinfo9
  have hb := below_alloc w (.cells #[.bool o.isr, I o.id] 23)
  obtain ⟨y0, y1⟩ := box_own w o
  have h1 := h.below hb
  have hl : L.length ≤ 65 := h.m
  have HB : Hid (Below w.heap.size w (w.alloc (.cells #[.bool o.isr, I o.id] 23)) ∧ w.heap.size < (w.alloc (.cells #[.bool o.isr, I o.id] 23)).heap.size) := ⟨hb, by simp⟩
  clear h hb
  go_enter Tryz.func51, Tryz.ntmps51
  go_upto_region 1 with fail
  generalize w.alloc (.cells #[.bool o.isr, I o.id] 23) = w1 at *
  generalize hXe : w.heap.size = X at *
  have HXE : Hid (w.heap.size = X) := hXe
  clear hXe
  have HH : Hid (∀ W, Below w1.heap.size w1 W → Dl W0 W tb v P a b L i g ∧ W.cell? ⟨X, 0, none⟩ = some (.bool o.isr) ∧ W.cell? ⟨X, 1, none⟩ = some (I o.id)) := fun W hW => ⟨h1.below hW, (cell_below hW _ _ HB.out.2).trans y0, (cell_below hW _ _ HB.out.2).trans y1⟩
  obtain ⟨a2, cc, rfl⟩ := own_slk19 h1.q
  clear h1 y0 y1
  go_wp2
  go_loopw [5, 6] (fun v5 v6 wr => ∃ k : Nat, k ≤ L.length ∧ v6 = I k ∧ Hid (wr.ownsRow w1.heap.size 3 1 v5 (hld (L.take k) o).length (iV (hld (L.take k) o)) ∧ Below w1.heap.size w1 wr)) (fun _ v6 _ => L.length - (intOf v6).toNat)
  case atStart => exact ⟨0, by omega, rfl, World.ownsRow_nil _ _ _ _, Below.refl _ _⟩
  case round =>
    obtain ⟨k, hk, rfl, HJ⟩ := hrel
    obtain ⟨h2, y0, y1⟩ := HH.out _ HJ.out.2
    obtain ⟨-, -, -, c13, -, -, -, -⟩ := h2.cells
    by_cases hlt : k < L.length
    · have hltI : (k : Int) < L.length := by omega
      obtain ⟨x, hx⟩ : ∃ x, L[k]? = some x := ⟨_, List.getElem?_eq_getElem hlt⟩
      obtain ⟨g1, k1, e1, q1, q2, q3⟩ := h2.at hx
      cases e1
      have hE := fun w => eql_own19 w x.1 o
      have HL := hld_step (o := o) hx
      have HX : Hid (L[k]? = some x) := hx
      by_cases h0 : x.1 = o
      · rw [if_pos h0] at HL
        rw [decide_eq_true h0] at hE
        have HLh : Hid (hld (L.take (k + 1)) o = hld (L.take k) o ++ [x.2]) := HL
        clear HL h2 hx h0
        have HC : Hid (∀ m, (wr.drewN m).cell? ⟨P, 13, none⟩ = some (.slice (some ⟨g1, 0, none⟩) L.length cc) ∧ (wr.drewN m).cell? ⟨g1, k * 3 + 2, none⟩ = some (I x.2)) := fun m => ⟨c13, q3⟩
        have HJ5 : Hid (∀ m, (wr.drewN m).ownsRow w1.heap.size 3 1 u5 (hld (L.take k) o).length (iV (hld (L.take k) o)) ∧ Below w1.heap.size w1 (wr.drewN m)) := fun m => ⟨own_below HJ.out.1 (St.below_drewN _ (Below.refl _ _)), St.below_drewN _ HJ.out.2⟩
        clear HJ
        go_upto_region 5 with fail
        go_quiet (fail)
        obtain ⟨c13', q3'⟩ := HC.out nq
        have HJ6 : Hid _ := HJ5.out nq
        clear HJ5 HC c13 q1 q2 q3 y0 y1
        generalize wr.drewN nq = w5 at *
        have hle := hld_le L o k
        go_wp2_with (first | (at_builtin; refine wpList_append_own _ rfl (.tmp 26) (.tmp 35) 65 rfl w1.heap.size 3 i0 (.int .i64 0) 1 8 Tryz.underlying65 hi0 hz0 hz1 hz2 rfl (by decide) _ _ _ rfl (own_below HJ6.out.1 (below_alloc _ _)) ⟨w5.heap.size, 0, none⟩ 1 1 [I x.2] rfl rfl (cell_one9 _ _ _) (by simp [Value.oneCell']) (by unfold maxLen; omega) (by omega) (by have := HJ6.out.2.size; simp; omega) ?_; intro v' w' hown' hgrow hnil; have HN : Hid (w'.ownsRow w1.heap.size 3 1 v' ((hld (L.take k) o).length + 1) (iV (hld (L.take k) o) ++ [I x.2]) ∧ Below w1.heap.size w1 w') := ⟨hown', (HJ6.out.2.trans ((below_alloc w5 _).mono HJ6.out.2.size)).grown hgrow (by have := HJ6.out.2.size; simp; omega) (fun q e => (HJ6.out.1.lt q e).1)⟩; clear hown' hgrow hnil HJ6))
        go_roundw
        case rel =>
          refine ⟨k + 1, by omega, by go_num, ?_⟩
          show _ ∧ _
          rw [HLh.out, List.length_append]
          refine ⟨?_, HN.out.2⟩
          have := HN.out.1
          simpa [iV] using this
        case measure => simp [intOf]; omega
      · rw [if_neg h0] at HL
        rw [decide_eq_false h0] at hE
        have HLh : Hid (hld (L.take (k + 1)) o = hld (L.take k) o) := HL
        clear HL h2 hx h0
        go_upto_region 5 with fail
        go_quiet (fail)
        go_wp2
        go_roundw
        case rel =>
          refine ⟨k + 1, by omega, by go_num, ?_⟩
          show _ ∧ _
          rw [HLh.out]
          exact ⟨own_below HJ.out.1 (St.below_drewN _ (Below.refl _ _)), St.below_drewN _ HJ.out.2⟩
        case measure => simp [intOf]; omega
    · obtain rfl : k = L.length := by omega
      have hge : ¬ ((L.length : Int) < L.length) := by omega
      have HJ2 := HJ.out
      rw [List.take_length] at HJ2
      have HK : Hid _ := HJ2
      clear h2 y0 y1 HJ HJ2
      go_wp2
      go_ret
      refine ⟨_, rfl, ?_, ?_⟩
      · rw [HXE.out]; exact own_down19 (Nat.le_of_lt HB.out.2) HK.out.1
      · rw [HXE.out]; exact HB.out.1.trans (HK.out.2.mono (Nat.le_of_lt HB.out.2))
end
end Go.Proofs.YtmllocfeflhjoaaGreat

namespace Go.Proofs.YtmllocfeflhjoaaGreat
open Go.RowKit Go.Maps Go.Shelf Go.Sort
open Go.Proofs.YtmllocfeflhjoaaGreat.St (Fx Fz iQ iP iV)
set_option linter.unusedVariables false
set_option linter.unusedSimpArgs false
set_option maxRecDepth 100000
set_option maxHeartbeats 8000000
section
variable {W0 w w' : World} {tb : Tb} {v : Ts} {P : Nat} {a b : Value} {L : Tks} {i : List Bool} {g : Gt}
theorem dPriority_no (h : Dl W0 w tb v P a b L i g) (o : Own) (ho : obs tb o = none) : Calls Tryz.prog 53 #[lp P, .agg #[.bool o.isr, I o.id]] w fun e w' => e = .returned (I (-1)) ∧ Below w.heap.size w w' := by
  have hb := below_alloc w (.cells #[.bool o.isr, I o.id] 23)
  obtain ⟨y0, y1⟩ := box_own w o
  have hT := dThere (h.below hb) o
  rw [ho] at hT
  have HB : Hid (∀ w', Below (w.alloc (.cells #[.bool o.isr, I o.id] 23)).heap.size (w.alloc (.cells #[.bool o.isr, I o.id] 23)) w' → Below w.heap.size w w') := fun w' hb' => hb.trans (hb'.mono (by simp))
  clear h hb ho
  go_enter Tryz.func53, Tryz.ntmps53
  go_upto_region 1 with fail
  generalize w.alloc (.cells #[.bool o.isr, I o.id] 23) = w1 at *
  go_wp2_with (first | (go_at_call 90; refine hT.mono ?_; clear hT; rintro e w2 ⟨rfl, hb2⟩; simp only [Option.isSome_none]))
  go_ret
  exact ⟨rfl, HB.out _ hb2⟩
attribute [local go_sem 5000] max_two19
theorem dPriority_ok (h : Dl W0 w tb v P a b L i g) (o : Own) {q : Ob} (ho : obs tb o = some q) (hok : ∀ r ∈ hld L o, 0 ≤ r ∧ ∃ x, tb.ress[r.toNat]? = some x) : Calls Tryz.prog 53 #[lp P, .agg #[.bool o.isr, I o.id]] w fun e w' => e = .returned (I (if (!o.isr && hasI i o.id) = true then max (topC tb q.prio (hld L o)) q.inner else topC tb q.prio (hld L o))) ∧ Below w.heap.size w w' := by
  have hb := below_alloc w (.cells #[.bool o.isr, I o.id] 23)
  obtain ⟨y0, y1⟩ := box_own w o
  have h1 := h.below hb
  have hT := dThere h1 o
  rw [ho] at hT
  have hl : L.length ≤ 65 := h.m
  have HO : Hid (obs tb o = some q ∧ ∀ r ∈ hld L o, 0 ≤ r ∧ ∃ x, tb.ress[r.toNat]? = some x) := ⟨ho, hok⟩
  have HB : Hid (Below w.heap.size w (w.alloc (.cells #[.bool o.isr, I o.id] 23)) ∧ w.heap.size < (w.alloc (.cells #[.bool o.isr, I o.id] 23)).heap.size) := ⟨hb, by simp⟩
  clear h hb ho hok
  obtain ⟨R, hR⟩ : ∃ R, R = if (!o.isr && hasI i o.id) = true then max (topC tb q.prio (hld L o)) q.inner else topC tb q.prio (hld L o) := ⟨_, rfl⟩
  rw [← hR]
  have HRR : Hid (R = if (!o.isr && hasI i o.id) = true then max (topC tb q.prio (hld L o)) q.inner else topC tb q.prio (hld L o)) := hR
  clear hR
  go_enter Tryz.func53, Tryz.ntmps53
  go_upto_region 1 with fail
  generalize w.alloc (.cells #[.bool o.isr, I o.id] 23) = w1 at *
  generalize hXe : w.heap.size = X at *
  have HXE : Hid (w.heap.size = X) := hXe
  clear hXe
  have HH : Hid (∀ W, Below w1.heap.size w1 W → Dl W0 W tb v P a b L i g ∧ W.cell? ⟨X, 0, none⟩ = some (.bool o.isr) ∧ W.cell? ⟨X, 1, none⟩ = some (I o.id)) := fun W hW => ⟨h1.below hW, (cell_below hW _ _ HB.out.2).trans y0, (cell_below hW _ _ HB.out.2).trans y1⟩
  clear h1
  go_upto_region 3 with (first | (go_at_call 90; refine hT.mono ?_; clear hT; rintro e w2 ⟨rfl, b2⟩; simp only [Option.isSome_some]))
  clear y0 y1
  obtain ⟨h2, y0, y1⟩ := HH.out _ b2
  have hBa := dBase h2 HO.out.1
  have B2 : Hid (Below w1.heap.size w1 w2) := b2
  clear h2 b2
  go_upto_region 4 with (first | (go_at_call 87; refine hBa.mono ?_; clear hBa; rintro e w3 ⟨sl, rfl, -, b3⟩))
  clear y0 y1
  have B3 : Hid (Below w1.heap.size w1 w3) := B2.out.trans (b3.mono B2.out.size)
  clear b3 B2
  obtain ⟨h3, y0, y1⟩ := HH.out _ B3.out
  have hHe := dHeld h3 o
  clear h3
  go_upto_region 5 with (first | (go_at_call 51; refine hHe.mono ?_; clear hHe; rintro e w4 ⟨u, rfl, o4, b4⟩))
  clear y0 y1
  have B4 : Hid (Below w1.heap.size w1 w4) := B3.out.trans (b4.mono B3.out.size)
  obtain ⟨hu, hc, rfl⟩ := own_slk19 o4
  have O4 : Hid (w4.ownsRow w3.heap.size 3 1 (.slice hu (hld L o).length hc) (hld L o).length (iV (hld L o))) := o4
  have hle : (hld L o).length ≤ 65 := by have := hld_le L o L.length; rw [List.take_length] at this; omega
  clear b4 B3 o4
  go_wp2
  go_loopw [5, 8] (fun v5 v8 wr => ∃ k : Nat, k ≤ (hld L o).length ∧ v8 = I k ∧ v5 = I (topC tb q.prio ((hld L o).take k)) ∧ Hid (Below w4.heap.size w4 wr)) (fun _ v8 _ => (hld L o).length - (intOf v8).toNat)
  case atStart => exact ⟨0, by omega, rfl, rfl, Below.refl _ _⟩
  case round =>
    obtain ⟨k, hk, rfl, rfl, HJ⟩ := hrel
    obtain ⟨h5, y0, y1⟩ := HH.out _ (B4.out.trans (HJ.out.mono B4.out.size))
    have o5 := own_below O4.out HJ.out
    by_cases hlt : k < (hld L o).length
    · have hltI : (k : Int) < (hld L o).length := by omega
      obtain ⟨r, hr⟩ : ∃ r, (hld L o)[k]? = some r := ⟨_, List.getElem?_eq_getElem hlt⟩
      obtain ⟨r0, x, hx⟩ := HO.out.2 r (List.mem_of_getElem? hr)
      obtain ⟨m, rfl⟩ := Int.eq_ofNat_of_zero_le r0
      rw [Int.toNat_natCast] at hx
      obtain ⟨g1, k1, e1⟩ := own_some19 o5 (by omega)
      cases e1
      have q1 : wr.cell? ⟨g1, k, none⟩ = some (I m) := by rw [o5.cellAt _ (by omega)]; simp [iV, hr]
      obtain ⟨g2, off, e2, -, -, q2⟩ := rsr_at h5.t hx
      obtain ⟨-, c4, -, -, -, -, -, -⟩ := h5.cells
      rw [e2] at c4
      have hm : (m : Int) < v.r.n := by have := h5.ns.2.1; have := (List.getElem?_eq_some_iff.1 hx).1; omega
      have HT : Hid (topC tb q.prio ((hld L o).take (k + 1)) = mx19 (topC tb q.prio ((hld L o).take k)) x.ceil) := by
        show _ = _
        rw [List.take_add_one, hr]
        simp only [Option.toList_some]
        rw [topC_snoc]
        simp [ceilOf, hx, mx19]
      clear h5 o5 hr hx e2 r0
      generalize topC tb q.prio ((hld L o).take k) = z at *
      go_upto_region 8 with fail
      go_quiet (fail)
      go_wp2
      go_roundw
      case rel => exact ⟨k + 1, by omega, by go_num, by rw [HT.out], St.below_drewN _ HJ.out⟩
      case measure => simp [intOf]; omega
    · obtain rfl : k = (hld L o).length := by omega
      have hge : ¬ (((hld L o).length : Int) < (hld L o).length) := by omega
      rw [List.take_length]
      have HR : Hid (∀ m, Below w.heap.size w (wr.drewN m)) := fun m => by
        rw [HXE.out]
        exact St.below_drewN m (HB.out.1.trans ((B4.out.trans (HJ.out.mono B4.out.size)).mono (Nat.le_of_lt HB.out.2)))
      clear o5 O4 hle hlt
      generalize (hld L o).length = N at *
      have HR0 := HRR.out
      clear HRR
      generalize topC tb q.prio (hld L o) = z at *
      rcases obs_cases HO.out.1 with ⟨j, x, rfl, hx, rfl⟩ | ⟨j, x, rfl, hx, rfl⟩
      · simp only [Bool.not_true, Bool.false_and, Bool.false_eq_true, if_false] at HR0
        have HR1 : Hid (R = z) := HR0
        clear h5 hx HO HR0
        go_upto_region 9 with fail
        go_quiet (fail)
        go_wp2
        go_ret
        exact ⟨St.ret_int HR1.out.symm, HR.out _⟩
      · simp only [Bool.not_false, Bool.true_and] at HR0
        have hj : j < i.length := by rw [h5.n]; exact (List.getElem?_eq_some_iff.1 hx).1
        have hjI : (j : Int) < i.length := by omega
        obtain ⟨y, hy⟩ : ∃ y, i[j]? = some y := ⟨_, List.getElem?_eq_getElem hj⟩
        obtain ⟨c2, -, -, -, c14, -, -, -⟩ := h5.cells
        obtain ⟨g3, c3, e3⟩ := own_some19 h5.r (by omega)
        cases e3
        have q9 : wr.cell? ⟨g3, j, none⟩ = some (.bool y) := by rw [h5.r.cellAt _ (by omega), List.getElem?_map, hy]; rfl
        have hh : hasI i (j : Int) = y := by simp [hasI, hy]
        rw [hh] at HR0
        have HR1 : Hid (R = if y = true then max z x.inner else z) := HR0
        clear HR0
        obtain ⟨g4, off4, s6, e4, -, -, -, -, -, -, q5, -, -, -⟩ := tkr_at h5.t hx
        rw [e4] at c2
        have hjT : (j : Int) < v.t.n := by have := h5.ns.1; have := h5.n; omega
        clear h5 hx HO hh hy e4 hj
        cases y with
        | false =>
          go_upto_region 9 with fail
          go_quiet (fail)
          go_wp2
          go_ret
          exact ⟨St.ret_int HR1.out.symm, HR.out _⟩
        | true =>
          have HC : Hid (∀ m, (wr.drewN m).cell? ⟨P, 2, none⟩ = some (.slice (some ⟨g4, off4, none⟩) v.t.n v.t.c) ∧ (wr.drewN m).cell? ⟨g4, off4 + j * 8 + 5, none⟩ = some (I x.inner) ∧ (wr.drewN m).cell? ⟨X, 1, none⟩ = some (I j)) := fun m => ⟨c2, q5, y1⟩
          have HR2 : Hid (∀ m n, Below w.heap.size w ((wr.drewN m).drewN n)) := fun m n => by rw [St.drewN_add]; exact HR.out _
          go_upto_region 9 with fail
          go_quiet (fail)
          obtain ⟨c2', q5', y1'⟩ := HC.out nq
          have HR3 : Hid _ := HR2.out nq
          clear HC HR HR2 c2 q5 y0 y1 c14 q9
          generalize wr.drewN nq = w7 at *
          go_upto_region 10 with fail
          go_quiet (fail)
          go_wp2
          go_ret
          exact ⟨St.ret_int HR1.out.symm, HR3.out _⟩
end
end Go.Proofs.YtmllocfeflhjoaaGreat

