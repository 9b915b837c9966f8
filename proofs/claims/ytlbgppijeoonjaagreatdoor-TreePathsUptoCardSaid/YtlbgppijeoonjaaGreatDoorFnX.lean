import Derived.Test.YtlbgppijeoonjaaGreatDoorFnd
import Derived.Deep.LoopGhost
namespace Go.Proofs.YtlbgppijeoonjaaGreatDoor
open Go.RowKit
set_option linter.unusedVariables false

/-! ### Find, the program's -/
set_option maxHeartbeats 1000000 in
theorem find1_any (w W : World) (o : Ob) (pv : Value) (k n : List UInt8) (bk bn : Nat) (hb : Below w.heap.size w W) (hk : bk < w.heap.size) (hn : bn < w.heap.size) (ck : w.cell? ⟨bk, 0, none⟩ = some (.string ⟨k.toArray⟩)) (cn : w.cell? ⟨bn, 0, none⟩ = some (.string ⟨n.toArray⟩)) :
    Calls Tryz.prog 30 #[.agg (obC o pv), .pointer (some ⟨bk, 0, none⟩), .pointer (some ⟨bn, 0, none⟩)] W fun e w' => e = .returned (.bool (isOb k n o)) ∧ Below w.heap.size w w' := by
  have ck' : W.cell? ⟨bk, 0, none⟩ = some (.string ⟨k.toArray⟩) := (cell_below hb _ _ hk).trans ck
  have cn' : W.cell? ⟨bn, 0, none⟩ = some (.string ⟨n.toArray⟩) := (cell_below hb _ _ hn).trans cn
  have hsz := hb.size
  have hkW : bk < W.heap.size := by omega
  have hnW : bn < W.heap.size := by omega
  have hke : bk ≠ W.heap.size := by omega
  have hne : bn ≠ W.heap.size := by omega
  have hbA := hb.alloc hb.size (.cells (obC o pv) 71)
  have hB : isOb k n o = (decide (o.kind = k) && decide (o.name = n)) := rfl
  obtain ⟨ok, on, oo, ol, oc, oat, ond, ont⟩ := o
  dsimp only at hB
  rw [hB]
  unfold obC at *
  clear hB ck cn
  by_cases h1 : ok = k
  · subst h1
    by_cases h2 : on = n
    · subst h2
      go_enter Tryz.func30, Tryz.ntmps30
      go_wp2
      go_ret
      exact ⟨by simp, hbA⟩
    · have h2b : (on == n) = false := by simpa using h2
      go_enter Tryz.func30, Tryz.ntmps30
      go_wp2
      go_ret
      exact ⟨by simp, hbA⟩
  · have h1b : (ok == k) = false := by simpa using h1
    go_enter Tryz.func30, Tryz.ntmps30
    go_wp2
    go_ret
    exact ⟨by simp, hbA⟩
set_option maxHeartbeats 4000000 in
set_option maxRecDepth 100000 in
theorem indexFunc_row (w : World) (k n : List UInt8) (g off cap bk bn : Nat) (qs : List (Ob × Value)) (hg : g < w.heap.size) (hc : ∀ j u, (rowsO qs)[j]? = some u → w.cell? ⟨g, off + j, none⟩ = some u) (N : Nat) (hl : qs.length = N) (hN : N < 2199023255552) (hk : bk < w.heap.size) (hn : bn < w.heap.size) (ck : w.cell? ⟨bk, 0, none⟩ = some (.string ⟨k.toArray⟩)) (cn : w.cell? ⟨bn, 0, none⟩ = some (.string ⟨n.toArray⟩)) :
    Calls Tryz.prog 29 #[.slice (some ⟨g, off, none⟩) N cap, .func (.func 30) #[] #[.pointer (some ⟨bk, 0, none⟩), .pointer (some ⟨bn, 0, none⟩)]] w fun e w' => e = .returned (.int .i64 (findL k n (qs.map Prod.fst))) ∧ Below w.heap.size w w' := by
  have HX : Hid (qs.length = N) := hl
  clear hl
  have eg : ∀ args w, (callFunc 30 args).run Tryz.prog w = .ok (.enter 30 args) w := enters_of Tryz.func30 (by kernel_rfl) rfl
  have hp : ∀ (W : World) (q : Ob × Value), Below w.heap.size w W → Calls Tryz.prog 30 #[.agg (obC q.1 q.2), .pointer (some ⟨bk, 0, none⟩), .pointer (some ⟨bn, 0, none⟩)] W fun e w' => e = .returned (.bool (isOb k n q.1)) ∧ Below w.heap.size w w' := fun W q hb => find1_any w W q.1 q.2 k n bk bn hb hk hn ck cn
  have hrow : ∀ (W : World), Below w.heap.size w W → ∀ j q, qs[j]? = some q → ∀ i, i < 8 → ∀ u, (obC q.1 q.2)[i]? = some u → W.cell? ⟨g, off + (j * 8 + i), none⟩ = some u := fun W hW j q hj i hi u hu => by
    rw [cell_below hW _ _ hg]
    exact hc _ _ ((rowsO_at qs j q hj i hi).trans hu)
  clear hc ck cn
  go_enter Tryz.func29, Tryz.ntmps29
  go_wp2
  go_loopg [5, 8] N (fun gg _ s8 wr => ∃ j : Nat, j ≤ N ∧ N - j ≤ gg ∧ s8 = .int .i64 j ∧ Hid (Below w.heap.size w wr) ∧ Hid (∀ i, i < j → ∀ p, (qs.map Prod.fst)[i]? = some p → isOb k n p = false))
  case atStart => exact ⟨0, Nat.zero_le _, by omega, rfl, Below.refl _ w, fun i hi => absurd hi (Nat.not_lt_zero _)⟩
  case round =>
    obtain ⟨j, hj, hgg, rfl, BW, A⟩ := hrel
    by_cases hlt : j < N
    · have hltz : (j : Int) < (N : Int) := by omega
      obtain ⟨q, hq⟩ : ∃ x, qs[j]? = some x := ⟨qs[j]'(by rw [HX.out]; exact hlt), List.getElem?_eq_getElem _⟩
      have l2 := hrow wr BW.out j q hq
      have hcall := hp wr q BW.out
      have hQ : Hid ((qs.map Prod.fst)[j]? = some q.1) := by show _ = _; rw [List.getElem?_map, hq]; rfl
      clear hrow hp hq
      obtain ⟨⟨ok, on, oo, ol, oc, oat, ond, ont⟩, pv⟩ := q
      have x0 : wr.cell? ⟨g, off + j * 8, none⟩ = some (.string ⟨ok.toArray⟩) := l2 0 (by omega) _ rfl
      have x1 : wr.cell? ⟨g, off + j * 8 + 1, none⟩ = some (.string ⟨on.toArray⟩) := l2 1 (by omega) _ rfl
      have x2 : wr.cell? ⟨g, off + j * 8 + 2, none⟩ = some (.int .i64 oo) := l2 2 (by omega) _ rfl
      have x3 : wr.cell? ⟨g, off + j * 8 + 3, none⟩ = some (.int .i64 ol) := l2 3 (by omega) _ rfl
      have x4 : wr.cell? ⟨g, off + j * 8 + 4, none⟩ = some (.int .i64 oc) := l2 4 (by omega) _ rfl
      have x5 : wr.cell? ⟨g, off + j * 8 + 5, none⟩ = some pv := l2 5 (by omega) _ rfl
      have x6 : wr.cell? ⟨g, off + j * 8 + 6, none⟩ = some (.bool ond) := l2 6 (by omega) _ rfl
      have x7 : wr.cell? ⟨g, off + j * 8 + 7, none⟩ = some (.string ⟨ont.toArray⟩) := l2 7 (by omega) _ rfl
      clear l2
      unfold obC at hcall
      dsimp only at hcall hQ
      cases hB : isOb k n ⟨ok, on, oo, ol, oc, oat, ond, ont⟩ with
      | true =>
        rw [hB] at hcall
        have HB : Hid (isOb k n ⟨ok, on, oo, ol, oc, oat, ond, ont⟩ = true) := hB
        clear hB
        go_wp2_with (go_at_call 30; refine hcall.mono ?_; rintro e w' ⟨rfl, hb'⟩)
        go_ret
        refine ⟨?_, hb'⟩
        rw [findL_hit hQ.out HB.out A.out]
        rfl
      | false =>
        rw [hB] at hcall
        have HB : Hid (isOb k n ⟨ok, on, oo, ol, oc, oat, ond, ont⟩ = false) := hB
        clear hB
        go_wp2_with (go_at_call 30; refine hcall.mono ?_; rintro e w' ⟨rfl, hb'⟩)
        go_roundg (N - (j + 1))
        case measure => omega
        case rel => exact ⟨j + 1, by omega, by omega, by go_num, hb', next_no A.out hQ.out HB.out⟩
    · have hltz : ¬ (j : Int) < (N : Int) := by omega
      have : j = N := by omega
      subst this
      go_wp2
      go_ret
      refine ⟨?_, BW.out⟩
      rw [findL_none (fun i hi => A.out i (by rw [List.length_map, HX.out] at hi; omega))]
      rfl
end Go.Proofs.YtlbgppijeoonjaaGreatDoor

namespace Go.Proofs.YtlbgppijeoonjaaGreatDoor
open Go.RowKit
set_option linter.unusedVariables false

set_option maxHeartbeats 1000000 in
theorem indexFunc_nil (w : World) (a : Option Addr) (cap : Nat) (fv : Value) :
    Calls Tryz.prog 29 #[.slice a 0 cap, fv] w fun e w' => e = .returned (.int .i64 (-1)) ∧ Below w.heap.size w w' := by
  go_enter Tryz.func29, Tryz.ntmps29
  go_wp2
  go_loopg [5, 8] 0 (fun gg _ s8 wr => s8 = .int .i64 0 ∧ Hid (Below w.heap.size w wr))
  case atStart => exact ⟨rfl, Below.refl _ w⟩
  case round =>
    obtain ⟨rfl, BW⟩ := hrel
    go_wp2
    go_ret
    exact ⟨rfl, BW.out⟩
/-- slices.IndexFunc, of objects that lie in memory. -/
theorem indexFunc_any (w : World) (F : Nat → Prop) (pv : Value) (l : List Ob) (k n : List UInt8) (bk bn : Nat) (h : ObjsAt w F pv l) (hN : l.length < 2199023255552) (hk : bk < w.heap.size) (hn : bn < w.heap.size) (ck : w.cell? ⟨bk, 0, none⟩ = some (.string ⟨k.toArray⟩)) (cn : w.cell? ⟨bn, 0, none⟩ = some (.string ⟨n.toArray⟩)) :
    Calls Tryz.prog 29 #[pv, .func (.func 30) #[] #[.pointer (some ⟨bk, 0, none⟩), .pointer (some ⟨bn, 0, none⟩)]] w fun e w' => e = .returned (.int .i64 (findL k n l)) ∧ Below w.heap.size w w' := by
  cases h with
  | nil => exact indexFunc_nil w _ _ _
  | row a b c d e => exact indexFunc_row w k n _ _ _ bk bn _ b c _ rfl (by simpa using hN) hk hn ck cn
set_option maxHeartbeats 4000000 in
/-- Find, of a tree that lies in memory. -/
theorem find_any (w : World) (F : Nat → Prop) (t : Tr) (pv : Value) (k n : List UInt8) (h : ObjsAt w F pv t.objs) (hN : t.objs.length < 2199023255552) :
    Calls Tryz.prog 12 #[.agg (trC t pv), .string ⟨k.toArray⟩, .string ⟨n.toArray⟩] w fun e w' => e = .returned (.int .i64 (findL k n t.objs)) ∧ Below w.heap.size w w' := by
  have ci : ∀ W bk bn, Below w.heap.size w W → bk < W.heap.size → bn < W.heap.size → W.cell? ⟨bk, 0, none⟩ = some (.string ⟨k.toArray⟩) → W.cell? ⟨bn, 0, none⟩ = some (.string ⟨n.toArray⟩) →
      Calls Tryz.prog 29 #[pv, .func (.func 30) #[] #[.pointer (some ⟨bk, 0, none⟩), .pointer (some ⟨bn, 0, none⟩)]] W fun e w' => e = .returned (.int .i64 (findL k n t.objs)) ∧ Below w.heap.size w w' := fun W bk bn hb h1 h2 h3 h4 =>
    (indexFunc_any W F pv t.objs k n bk bn (objsAt_move hb.size (fun g hF hl => ⟨hb.block g hl, hF⟩) h) hN h1 h2 h3 h4).mono fun e w' ⟨e1, e2⟩ => ⟨e1, hb.trans (e2.mono hb.size)⟩
  obtain ⟨a, m, cap, rfl⟩ := objsAt_shape h
  clear h
  obtain ⟨tv, tc, tobs, tnd, tnt⟩ := t
  unfold trC
  dsimp only at *
  generalize findL k n tobs = r at *
  go_enter Tryz.func12, Tryz.ntmps12
  go_wp2_with (go_at_call 29; refine (ci _ _ _ ?_ ?_ ?_ ?_ ?_).mono ?_)
  · exact (((Below.refl _ w).alloc (Nat.le_refl _) _).alloc (by simp) _).alloc (by simp; omega) _
  · simp
  · simp
  · go_simp
  · go_simp
  · rintro e w' ⟨rfl, hb'⟩
    go_wp2
    go_ret
    exact ⟨rfl, hb'⟩
end Go.Proofs.YtlbgppijeoonjaaGreatDoor

