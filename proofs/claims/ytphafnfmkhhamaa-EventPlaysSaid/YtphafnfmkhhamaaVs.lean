import Derived.Test.YtphafnfmkhhamaaVr
import Derived.Deep.Cut
namespace Go.Proofs.Ytphafnfmkhhamaa
open Go.RowKit
set_option linter.unusedVariables false
set_option linter.unusedSimpArgs false

/-! ### The document's Copy -/
theorem onesOn (f : Nat → Et) (n : Nat) : ∀ u ∈ rOn f n, u.oneCell' = true := fun u hu => by
  obtain ⟨x, _, rfl⟩ := List.mem_map.1 hu
  rfl
theorem onesWa (f : Nat → Et) (n : Nat) : ∀ u ∈ rWa f n, u.oneCell' = true := fun u hu => by
  obtain ⟨x, _, rfl⟩ := List.mem_map.1 hu
  rfl
theorem onesS (f : Nat → Et) (n : Nat) : ∀ u ∈ rS f n, u.oneCell' = true := fun u hu => by
  obtain ⟨x, _, rfl⟩ := List.mem_map.1 hu
  rfl
/-- a table that is being copied, and what is made of it so far -/
structure Cy (w W : World) (D : Nat) (vm vo vw vs : Value) (ms : List Int) (f : Nat → Et) (C : Nat) (u0 u1 u2 u3 : Value) (n0 n1 n2 n3 : Nat) (r0 r1 r2 r3 : List Value) : Prop where
  h : Dt W D vm vo vw vs ms f
  o : W.heap[C]? = some (.cells #[u0, u1, u2, u3] 67)
  b : Below w.heap.size w W
  k : w.heap.size ≤ C
  p0 : W.ownsRow 0 22 1 u0 n0 r0
  p1 : W.ownsRow 0 22 1 u1 n1 r1
  p2 : W.ownsRow 0 22 1 u2 n2 r2
  p3 : W.ownsRow 0 4 1 u3 n3 r3
  g : (∀ b, u0.ownBlock = some b → C < b) ∧ (∀ b, u1.ownBlock = some b → C < b) ∧ (∀ b, u2.ownBlock = some b → C < b) ∧ (∀ b, u3.ownBlock = some b → C < b)
  q : Nq u0.ownBlock u1.ownBlock ∧ Nq u0.ownBlock u2.ownBlock ∧ Nq u0.ownBlock u3.ownBlock ∧ Nq u1.ownBlock u2.ownBlock ∧ Nq u1.ownBlock u3.ownBlock ∧ Nq u2.ownBlock u3.ownBlock
  ne : ∀ b, Db D vm vo vw vs b → b ≠ C
section
variable {w W W' : World} {D : Nat} {vm vo vw vs : Value} {ms : List Int} {f : Nat → Et} {C : Nat} {u0 u1 u2 u3 : Value} {n0 n1 n2 n3 : Nat} {r0 r1 r2 r3 : List Value}
theorem Cy.cells (h : Cy w W D vm vo vw vs ms f C u0 u1 u2 u3 n0 n1 n2 n3 r0 r1 r2 r3) : W.cell? ⟨C, 0, none⟩ = some u0 ∧ W.cell? ⟨C, 1, none⟩ = some u1 ∧ W.cell? ⟨C, 2, none⟩ = some u2 ∧ W.cell? ⟨C, 3, none⟩ = some u3 := by
  refine ⟨?_, ?_, ?_, ?_⟩ <;> (rw [cell_of_row W C _ _ _ (0, 0) h.o]; rfl)
theorem Cy.frz (h : Cy w W D vm vo vw vs ms f C u0 u1 u2 u3 n0 n1 n2 n3 r0 r1 r2 r3) (j : Nat) : W.frozen? ⟨C, j, none⟩ = false := frozen_of_row W C j _ _ h.o
theorem Cy.lt (h : Cy w W D vm vo vw vs ms f C u0 u1 u2 u3 n0 n1 n2 n3 r0 r1 r2 r3) : C < W.heap.size := heap_lt h.o
theorem Cy.grown (h : Cy w W D vm vo vw vs ms f C u0 u1 u2 u3 n0 n1 n2 n3 r0 r1 r2 r3) (hg : Fz (fun _ => False) W W') : Cy w W' D vm vo vw vs ms f C u0 u1 u2 u3 n0 n1 n2 n3 r0 r1 r2 r3 :=
  ⟨h.h.keptZ hg (fun _ _ e => e), hg.heap h.o id, h.b.trans (hg.below h.b.size (fun _ e => e.elim)), h.k, hg.own h.p0 (fun _ _ e => e), hg.own h.p1 (fun _ _ e => e), hg.own h.p2 (fun _ _ e => e), hg.own h.p3 (fun _ _ e => e), h.g, h.q, h.ne⟩
theorem Cy.put0 (h : Cy w W D vm vo vw vs ms f C u0 u1 u2 u3 n0 n1 n2 n3 r0 r1 r2 r3) (hg : Fz (fun _ => False) W W') {v : Value} {n : Nat} {r : List Value} (hv : W'.ownsRow W.heap.size 22 1 v n r) : Cy w (W'.setCell ⟨C, 0, none⟩ v) D vm vo vw vs ms f C v u1 u2 u3 n n1 n2 n3 r r1 r2 r3 := by
  have h2 := h.grown hg
  have hc := h.lt
  have hf := fx_one W' C 0 v
  have hb : ∀ b, v.ownBlock = some b → W.heap.size ≤ b := fun b e => (hv.lt b e).1
  obtain ⟨g0, g1, g2, g3⟩ := h.g
  obtain ⟨q1, q2, q3, q4, q5, q6⟩ := h.q
  have l1 : ∀ b, u1.ownBlock = some b → b < W.heap.size := fun b e => (h.p1.lt b e).2
  have l2 : ∀ b, u2.ownBlock = some b → b < W.heap.size := fun b e => (h.p2.lt b e).2
  have l3 : ∀ b, u3.ownBlock = some b → b < W.heap.size := fun b e => (h.p3.lt b e).2
  refine ⟨h2.h.keptZ hf (fun b hb e => h.ne b hb e), heap_setCell_same W' C 0 _ _ v h2.o, h2.b.trans (hf.below h2.b.size (fun x e => by have := h.k; omega)), h.k, hf.own (own_base hv (Nat.zero_le _)) (fun b e e2 => by have := hb b e; omega), hf.own h2.p1 (fun b e e2 => by have := g1 b e; omega), hf.own h2.p2 (fun b e e2 => by have := g2 b e; omega), hf.own h2.p3 (fun b e e2 => by have := g3 b e; omega), ⟨fun b e => by have := hb b e; omega, g1, g2, g3⟩, ⟨fun b e e2 => by have := hb b e; have := l1 b e2; omega, fun b e e2 => by have := hb b e; have := l2 b e2; omega, fun b e e2 => by have := hb b e; have := l3 b e2; omega, q4, q5, q6⟩, h.ne⟩
theorem Cy.put1 (h : Cy w W D vm vo vw vs ms f C u0 u1 u2 u3 n0 n1 n2 n3 r0 r1 r2 r3) (hg : Fz (fun _ => False) W W') {v : Value} {n : Nat} {r : List Value} (hv : W'.ownsRow W.heap.size 22 1 v n r) : Cy w (W'.setCell ⟨C, 1, none⟩ v) D vm vo vw vs ms f C u0 v u2 u3 n0 n n2 n3 r0 r r2 r3 := by
  have h2 := h.grown hg
  have hc := h.lt
  have hf := fx_one W' C 1 v
  have hb : ∀ b, v.ownBlock = some b → W.heap.size ≤ b := fun b e => (hv.lt b e).1
  obtain ⟨g0, g1, g2, g3⟩ := h.g
  obtain ⟨q1, q2, q3, q4, q5, q6⟩ := h.q
  have l0 : ∀ b, u0.ownBlock = some b → b < W.heap.size := fun b e => (h.p0.lt b e).2
  have l2 : ∀ b, u2.ownBlock = some b → b < W.heap.size := fun b e => (h.p2.lt b e).2
  have l3 : ∀ b, u3.ownBlock = some b → b < W.heap.size := fun b e => (h.p3.lt b e).2
  refine ⟨h2.h.keptZ hf (fun b hb e => h.ne b hb e), heap_setCell_same W' C 1 _ _ v h2.o, h2.b.trans (hf.below h2.b.size (fun x e => by have := h.k; omega)), h.k, hf.own h2.p0 (fun b e e2 => by have := g0 b e; omega), hf.own (own_base hv (Nat.zero_le _)) (fun b e e2 => by have := hb b e; omega), hf.own h2.p2 (fun b e e2 => by have := g2 b e; omega), hf.own h2.p3 (fun b e e2 => by have := g3 b e; omega), ⟨g0, fun b e => by have := hb b e; omega, g2, g3⟩, ⟨fun b e e2 => by have := l0 b e; have := hb b e2; omega, q2, q3, fun b e e2 => by have := hb b e; have := l2 b e2; omega, fun b e e2 => by have := hb b e; have := l3 b e2; omega, q6⟩, h.ne⟩
theorem Cy.put2 (h : Cy w W D vm vo vw vs ms f C u0 u1 u2 u3 n0 n1 n2 n3 r0 r1 r2 r3) (hg : Fz (fun _ => False) W W') {v : Value} {n : Nat} {r : List Value} (hv : W'.ownsRow W.heap.size 22 1 v n r) : Cy w (W'.setCell ⟨C, 2, none⟩ v) D vm vo vw vs ms f C u0 u1 v u3 n0 n1 n n3 r0 r1 r r3 := by
  have h2 := h.grown hg
  have hc := h.lt
  have hf := fx_one W' C 2 v
  have hb : ∀ b, v.ownBlock = some b → W.heap.size ≤ b := fun b e => (hv.lt b e).1
  obtain ⟨g0, g1, g2, g3⟩ := h.g
  obtain ⟨q1, q2, q3, q4, q5, q6⟩ := h.q
  have l0 : ∀ b, u0.ownBlock = some b → b < W.heap.size := fun b e => (h.p0.lt b e).2
  have l1 : ∀ b, u1.ownBlock = some b → b < W.heap.size := fun b e => (h.p1.lt b e).2
  have l3 : ∀ b, u3.ownBlock = some b → b < W.heap.size := fun b e => (h.p3.lt b e).2
  refine ⟨h2.h.keptZ hf (fun b hb e => h.ne b hb e), heap_setCell_same W' C 2 _ _ v h2.o, h2.b.trans (hf.below h2.b.size (fun x e => by have := h.k; omega)), h.k, hf.own h2.p0 (fun b e e2 => by have := g0 b e; omega), hf.own h2.p1 (fun b e e2 => by have := g1 b e; omega), hf.own (own_base hv (Nat.zero_le _)) (fun b e e2 => by have := hb b e; omega), hf.own h2.p3 (fun b e e2 => by have := g3 b e; omega), ⟨g0, g1, fun b e => by have := hb b e; omega, g3⟩, ⟨q1, fun b e e2 => by have := l0 b e; have := hb b e2; omega, q3, fun b e e2 => by have := l1 b e; have := hb b e2; omega, q5, fun b e e2 => by have := hb b e; have := l3 b e2; omega⟩, h.ne⟩
theorem Cy.put3 (h : Cy w W D vm vo vw vs ms f C u0 u1 u2 u3 n0 n1 n2 n3 r0 r1 r2 r3) (hg : Fz (fun _ => False) W W') {v : Value} {n : Nat} {r : List Value} (hv : W'.ownsRow W.heap.size 4 1 v n r) : Cy w (W'.setCell ⟨C, 3, none⟩ v) D vm vo vw vs ms f C u0 u1 u2 v n0 n1 n2 n r0 r1 r2 r := by
  have h2 := h.grown hg
  have hc := h.lt
  have hf := fx_one W' C 3 v
  have hb : ∀ b, v.ownBlock = some b → W.heap.size ≤ b := fun b e => (hv.lt b e).1
  obtain ⟨g0, g1, g2, g3⟩ := h.g
  obtain ⟨q1, q2, q3, q4, q5, q6⟩ := h.q
  have l0 : ∀ b, u0.ownBlock = some b → b < W.heap.size := fun b e => (h.p0.lt b e).2
  have l1 : ∀ b, u1.ownBlock = some b → b < W.heap.size := fun b e => (h.p1.lt b e).2
  have l2 : ∀ b, u2.ownBlock = some b → b < W.heap.size := fun b e => (h.p2.lt b e).2
  refine ⟨h2.h.keptZ hf (fun b hb e => h.ne b hb e), heap_setCell_same W' C 3 _ _ v h2.o, h2.b.trans (hf.below h2.b.size (fun x e => by have := h.k; omega)), h.k, hf.own h2.p0 (fun b e e2 => by have := g0 b e; omega), hf.own h2.p1 (fun b e e2 => by have := g1 b e; omega), hf.own h2.p2 (fun b e e2 => by have := g2 b e; omega), hf.own (own_base hv (Nat.zero_le _)) (fun b e e2 => by have := hb b e; omega), ⟨g0, g1, g2, fun b e => by have := hb b e; omega⟩, ⟨q1, q2, fun b e e2 => by have := l0 b e; have := hb b e2; omega, q4, fun b e e2 => by have := l1 b e; have := hb b e2; omega, fun b e e2 => by have := l2 b e; have := hb b e2; omega⟩, h.ne⟩
theorem Cy.fin (h : Cy w W D vm vo vw vs ms f C u0 u1 u2 u3 ms.length ms.length ms.length ms.length (rM ms) (rOn f ms.length) (rWa f ms.length) (rS f ms.length)) : Dt W C u0 u1 u2 u3 ms f := by
  obtain ⟨g0, g1, g2, g3⟩ := h.g
  exact ⟨h.o, h.p0, h.p1, h.p2, h.p3, h.h.x, h.h.l, ⟨fun e => by have := g0 _ e; omega, fun e => by have := g1 _ e; omega, fun e => by have := g2 _ e; omega, fun e => by have := g3 _ e; omega⟩, h.q⟩
end
set_option maxRecDepth 100000 in
set_option maxHeartbeats 4000000 in
theorem dCopy_any {w : World} {D : Nat} {vm vo vw vs : Value} {ms : List Int} {f : Nat → Et} (h : Dt w D vm vo vw vs ms f) :
    Calls Try.prog 25 #[dP D] w fun e w' => e = .returned (dP w.heap.size) ∧ (∃ vm' vo' vw' vs', Dt w' w.heap.size vm' vo' vw' vs' ms f ∧ ∀ b, Db w.heap.size vm' vo' vw' vs' b → w.heap.size ≤ b) ∧ Below w.heap.size w w' := by
  obtain ⟨iu, hiu, hu0, hu1, hu2⟩ := info_parts uinfo
  obtain ⟨ib, hib, hb0, hb1, hb2⟩ := info_parts binfo
  have hl := h.l
  have Y0 : Cy w (w.alloc (.cells #[.slice none 0 0, .slice none 0 0, .slice none 0 0, .slice none 0 0] 67)) D vm vo vw vs ms f w.heap.size (.slice none 0 0) (.slice none 0 0) (.slice none 0 0) (.slice none 0 0) 0 0 0 0 [] [] [] [] :=
    ⟨h.below (below_alloc _ _), heap_alloc_new w _, below_alloc _ _, Nat.le_refl _, World.ownsRow_nil _ _ _ _, World.ownsRow_nil _ _ _ _, World.ownsRow_nil _ _ _ _, World.ownsRow_nil _ _ _ _, ⟨fun _ e => (by cases e), fun _ e => (by cases e), fun _ e => (by cases e), fun _ e => (by cases e)⟩, ⟨fun _ e => (by cases e), fun _ e => (by cases e), fun _ e => (by cases e), fun _ e => (by cases e), fun _ e => (by cases e), fun _ e => (by cases e)⟩, fun b hb e => (by have := h.lt hb; omega)⟩
  obtain ⟨am, cm, rfl⟩ := own_sl h.pm
  obtain ⟨ao, co, rfl⟩ := own_sl h.po
  obtain ⟨aw, cw, rfl⟩ := own_sl h.pw
  obtain ⟨az, cs, rfl⟩ := own_sl h.ps
  clear h
  go_enter Try.func25, Try.ntmps25
  go_upto_region 2 with (first | fail)
  generalize (w.alloc (.cells #[.slice none 0 0, .slice none 0 0, .slice none 0 0, .slice none 0 0] 67)) = x0 at *
  obtain ⟨c0, c1, c2, c3⟩ := Y0.h.cells
  obtain ⟨e0, e1, e2, e3⟩ := Y0.cells
  go_cut [3] from 4 (fun s3 wx => s3 = dP w.heap.size ∧ ∃ (a0 : Option Addr) (k0 : Nat), Hid (Cy w wx D (.slice am ms.length cm) (.slice ao ms.length co) (.slice aw ms.length cw) (.slice az ms.length cs) ms f w.heap.size (.slice a0 ms.length k0) (.slice none 0 0) (.slice none 0 0) (.slice none 0 0) ms.length 0 0 0 (rM ms) ([]) ([]) ([])))
  case first =>
    go_region_law (first
      | (refine step_append_both rfl (.tmp 10) (.tmp 14) 28 rfl x0.heap.size 0 22 iu (.int .u32 0) 4 Try.underlying28 hiu hu0 hu1 hu2 rfl (.slice none 0 0) (.slice am ms.length cm) 0 ms.length [] (rM ms) (by simp [Act.eval, Act.put]) (by simp [Act.eval, Act.put]) (World.ownsRow_nil _ _ _ _) Y0.h.pm (onesU ms) (by unfold maxLen; omega) (by omega) (Nat.le_refl _) ?_; intro v4 w4 h4 hg4; rw [Nat.zero_add, List.nil_append] at h4; obtain ⟨a4, k4, rfl⟩ := own_sl h4; have F4 : Fz (fun _ => False) x0 w4 := ((Fz.refl _ x0).drewN 1).trans (fz_none hg4 _); have y1 := Y0.put0 F4 h4; have q1 : w4.frozen? ⟨w.heap.size, 0, none⟩ = false := (Y0.grown F4).frz _; have q2 := (Y0.grown F4).cells))
    all_goals
      obtain ⟨z0, z1, z2, z3⟩ := q2
      go_wp2
      go_meet
      case rel => exact ⟨rfl, a4, k4, y1⟩
  obtain ⟨rfl, a0, k0, HY1⟩ := hcut
  have Y1 := HY1.out
  clear HY1 c0 c1 c2 c3 e0 e1 e2 e3 Y0
  obtain ⟨c0, c1, c2, c3⟩ := Y1.h.cells
  obtain ⟨e0, e1, e2, e3⟩ := Y1.cells
  go_upto_region 3 with (first | fail)
  go_cut [3] from 4 (fun s3 wx => s3 = dP w.heap.size ∧ ∃ (a0 : Option Addr) (k0 : Nat) (a1 : Option Addr) (k1 : Nat), Hid (Cy w wx D (.slice am ms.length cm) (.slice ao ms.length co) (.slice aw ms.length cw) (.slice az ms.length cs) ms f w.heap.size (.slice a0 ms.length k0) (.slice a1 ms.length k1) (.slice none 0 0) (.slice none 0 0) ms.length ms.length 0 0 (rM ms) (rOn f ms.length) ([]) ([])))
  case first =>
    go_region_law (first
      | (refine step_append_both rfl (.tmp 22) (.tmp 26) 28 rfl wc.heap.size 0 22 iu (.int .u32 0) 4 Try.underlying28 hiu hu0 hu1 hu2 rfl (.slice none 0 0) (.slice ao ms.length co) 0 ms.length [] (rOn f ms.length) (by simp [Act.eval, Act.put]) (by simp [Act.eval, Act.put]) (World.ownsRow_nil _ _ _ _) Y1.h.po (onesOn f _) (by unfold maxLen; omega) (by omega) (Nat.le_refl _) ?_; intro v4 w4 h4 hg4; rw [Nat.zero_add, List.nil_append] at h4; obtain ⟨a4, k4, rfl⟩ := own_sl h4; have F4 : Fz (fun _ => False) wc w4 := ((Fz.refl _ wc).drewN 1).trans (fz_none hg4 _); have y1 := Y1.put1 F4 h4; have q1 : w4.frozen? ⟨w.heap.size, 1, none⟩ = false := (Y1.grown F4).frz _; have q2 := (Y1.grown F4).cells))
    all_goals
      obtain ⟨z0, z1, z2, z3⟩ := q2
      go_wp2
      go_meet
      case rel => exact ⟨rfl, a0, k0, a4, k4, y1⟩
  obtain ⟨rfl, a0, k0, a1, k1, HY2⟩ := hcut
  have Y2 := HY2.out
  clear HY2 c0 c1 c2 c3 e0 e1 e2 e3 Y1
  obtain ⟨c0, c1, c2, c3⟩ := Y2.h.cells
  obtain ⟨e0, e1, e2, e3⟩ := Y2.cells
  go_upto_region 4 with (first | fail)
  go_cut [3] from 4 (fun s3 wx => s3 = dP w.heap.size ∧ ∃ (a0 : Option Addr) (k0 : Nat) (a1 : Option Addr) (k1 : Nat) (a2 : Option Addr) (k2 : Nat), Hid (Cy w wx D (.slice am ms.length cm) (.slice ao ms.length co) (.slice aw ms.length cw) (.slice az ms.length cs) ms f w.heap.size (.slice a0 ms.length k0) (.slice a1 ms.length k1) (.slice a2 ms.length k2) (.slice none 0 0) ms.length ms.length ms.length 0 (rM ms) (rOn f ms.length) (rWa f ms.length) ([])))
  case first =>
    go_region_law (first
      | (refine step_append_both rfl (.tmp 34) (.tmp 38) 28 rfl wc.heap.size 0 22 iu (.int .u32 0) 4 Try.underlying28 hiu hu0 hu1 hu2 rfl (.slice none 0 0) (.slice aw ms.length cw) 0 ms.length [] (rWa f ms.length) (by simp [Act.eval, Act.put]) (by simp [Act.eval, Act.put]) (World.ownsRow_nil _ _ _ _) Y2.h.pw (onesWa f _) (by unfold maxLen; omega) (by omega) (Nat.le_refl _) ?_; intro v4 w4 h4 hg4; rw [Nat.zero_add, List.nil_append] at h4; obtain ⟨a4, k4, rfl⟩ := own_sl h4; have F4 : Fz (fun _ => False) wc w4 := ((Fz.refl _ wc).drewN 1).trans (fz_none hg4 _); have y1 := Y2.put2 F4 h4; have q1 : w4.frozen? ⟨w.heap.size, 2, none⟩ = false := (Y2.grown F4).frz _; have q2 := (Y2.grown F4).cells))
    all_goals
      obtain ⟨z0, z1, z2, z3⟩ := q2
      go_wp2
      go_meet
      case rel => exact ⟨rfl, a0, k0, a1, k1, a4, k4, y1⟩
  obtain ⟨rfl, a0, k0, a1, k1, a2, k2, HY3⟩ := hcut
  have Y3 := HY3.out
  clear HY3 c0 c1 c2 c3 e0 e1 e2 e3 Y2
  obtain ⟨c0, c1, c2, c3⟩ := Y3.h.cells
  obtain ⟨e0, e1, e2, e3⟩ := Y3.cells
  go_upto_region 5 with (first | fail)
  go_cut [3] from 4 (fun s3 wx => s3 = dP w.heap.size ∧ ∃ (a0 : Option Addr) (k0 : Nat) (a1 : Option Addr) (k1 : Nat) (a2 : Option Addr) (k2 : Nat) (a3 : Option Addr) (k3 : Nat), Hid (Cy w wx D (.slice am ms.length cm) (.slice ao ms.length co) (.slice aw ms.length cw) (.slice az ms.length cs) ms f w.heap.size (.slice a0 ms.length k0) (.slice a1 ms.length k1) (.slice a2 ms.length k2) (.slice a3 ms.length k3) ms.length ms.length ms.length ms.length (rM ms) (rOn f ms.length) (rWa f ms.length) (rS f ms.length)))
  case first =>
    go_region_law (first
      | (refine step_append_both rfl (.tmp 46) (.tmp 50) 65 rfl wc.heap.size 0 4 ib (.bool false) 1 Try.underlying65 hib hb0 hb1 hb2 rfl (.slice none 0 0) (.slice az ms.length cs) 0 ms.length [] (rS f ms.length) (by simp [Act.eval, Act.put]) (by simp [Act.eval, Act.put]) (World.ownsRow_nil _ _ _ _) Y3.h.ps (onesS f _) (by unfold maxLen; omega) (by omega) (Nat.le_refl _) ?_; intro v4 w4 h4 hg4; rw [Nat.zero_add, List.nil_append] at h4; obtain ⟨a4, k4, rfl⟩ := own_sl h4; have F4 : Fz (fun _ => False) wc w4 := ((Fz.refl _ wc).drewN 1).trans (fz_none hg4 _); have y1 := Y3.put3 F4 h4; have q1 : w4.frozen? ⟨w.heap.size, 3, none⟩ = false := (Y3.grown F4).frz _; have q2 := (Y3.grown F4).cells))
    all_goals
      obtain ⟨z0, z1, z2, z3⟩ := q2
      go_wp2
      go_meet
      case rel => exact ⟨rfl, a0, k0, a1, k1, a2, k2, a4, k4, y1⟩
  obtain ⟨rfl, a0, k0, a1, k1, a2, k2, a3, k3, HY4⟩ := hcut
  have Y4 := HY4.out
  clear HY4 c0 c1 c2 c3 e0 e1 e2 e3 Y3
  go_wp2
  go_ret
  refine ⟨rfl, ⟨_, _, _, _, Y4.fin, fun b hb => ?_⟩, Y4.b⟩
  obtain ⟨g0, g1, g2, g3⟩ := Y4.g
  rcases hb with e | e | e | e | e
  · omega
  · exact Nat.le_of_lt (g0 b e)
  · exact Nat.le_of_lt (g1 b e)
  · exact Nat.le_of_lt (g2 b e)
  · exact Nat.le_of_lt (g3 b e)
end Go.Proofs.Ytphafnfmkhhamaa
