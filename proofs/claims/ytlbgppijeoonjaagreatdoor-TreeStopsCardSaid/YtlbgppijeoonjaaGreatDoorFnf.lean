import Derived.Test.YtlbgppijeoonjaaGreatDoorFne
namespace Go.Proofs.YtlbgppijeoonjaaGreatDoor
open Go.RowKit
set_option linter.unusedVariables false

set_option maxHeartbeats 1000000 in
theorem indexFunc_nil (w : World) (a : Option Addr) (cap : Nat) (fv : Value) :
    Calls Tryz.prog 29 #[.slice a 0 cap, fv] w fun e w' => e = .returned (.int .i64 (-1)) ∧ Below w.heap.size w w' := by
  go_enter Tryz.func29, Tryz.ntmps29
  go_wp2
  go_loopg [5, 8] 0 (fun gg _ s8 wr => s8 = .int .i64 0 ∧ Hid (Below w.heap.size w wr))
  case atStart => exact ⟨rfl, Below.refl _ w⟩
  case round =>
    obtain ⟨rfl, BW⟩ := hrel
    go_wp2
    go_ret
    exact ⟨rfl, BW.out⟩
/-- slices.IndexFunc, of objects that lie in memory. -/
theorem indexFunc_any (w : World) (F : Nat → Prop) (pv : Value) (l : List Ob) (k n : List UInt8) (bk bn : Nat) (h : ObjsAt w F pv l) (hN : l.length < 1099511627776) (hk : bk < w.heap.size) (hn : bn < w.heap.size) (ck : w.cell? ⟨bk, 0, none⟩ = some (.string ⟨k.toArray⟩)) (cn : w.cell? ⟨bn, 0, none⟩ = some (.string ⟨n.toArray⟩)) :
    Calls Tryz.prog 29 #[pv, .func (.func 30) #[] #[.pointer (some ⟨bk, 0, none⟩), .pointer (some ⟨bn, 0, none⟩)]] w fun e w' => e = .returned (.int .i64 (findL k n l)) ∧ Below w.heap.size w w' := by
  cases h with
  | nil => exact indexFunc_nil w _ _ _
  | row a b c d e => exact indexFunc_row w k n _ _ _ bk bn _ b c _ rfl (by simpa using hN) hk hn ck cn
set_option maxHeartbeats 4000000 in
/-- Find, of a tree that lies in memory. -/
theorem find_any (w : World) (F : Nat → Prop) (t : Tr) (pv : Value) (k n : List UInt8) (h : ObjsAt w F pv t.objs) (hN : t.objs.length < 1099511627776) :
    Calls Tryz.prog 12 #[.agg (trC t pv), .string ⟨k.toArray⟩, .string ⟨n.toArray⟩] w fun e w' => e = .returned (.int .i64 (findL k n t.objs)) ∧ Below w.heap.size w w' := by
  have ci : ∀ W bk bn, Below w.heap.size w W → bk < W.heap.size → bn < W.heap.size → W.cell? ⟨bk, 0, none⟩ = some (.string ⟨k.toArray⟩) → W.cell? ⟨bn, 0, none⟩ = some (.string ⟨n.toArray⟩) →
      Calls Tryz.prog 29 #[pv, .func (.func 30) #[] #[.pointer (some ⟨bk, 0, none⟩), .pointer (some ⟨bn, 0, none⟩)]] W fun e w' => e = .returned (.int .i64 (findL k n t.objs)) ∧ Below w.heap.size w w' := fun W bk bn hb h1 h2 h3 h4 =>
    (indexFunc_any W F pv t.objs k n bk bn (objsAt_move hb.size (fun g hF hl => ⟨hb.block g hl, hF⟩) h) hN h1 h2 h3 h4).mono fun e w' ⟨e1, e2⟩ => ⟨e1, hb.trans (e2.mono hb.size)⟩
  obtain ⟨a, m, cap, rfl⟩ := objsAt_shape h
  clear h
  obtain ⟨tv, tc, tobs, tnd, tnt⟩ := t
  unfold trC
  dsimp only at *
  generalize findL k n tobs = r at *
  go_enter Tryz.func12, Tryz.ntmps12
  go_wp2_with (go_at_call 29; refine (ci _ _ _ ?_ ?_ ?_ ?_ ?_).mono ?_)
  · exact (((Below.refl _ w).alloc (Nat.le_refl _) _).alloc (by simp) _).alloc (by simp; omega) _
  · simp
  · simp
  · go_simp
  · go_simp
  · rintro e w' ⟨rfl, hb'⟩
    go_wp2
    go_ret
    exact ⟨rfl, hb'⟩
end Go.Proofs.YtlbgppijeoonjaaGreatDoor
