import Derived.Test.YtlbgppijeoonjaaGreatDoorSmc
import Derived.Deep.LoopGhost
import Derived.Lib.SliceRun
namespace Go.Proofs.YtlbgppijeoonjaaGreatDoor
open Go.RowKit
set_option linter.unusedVariables false

/-! ### Attr, at a path that leads to an attribute -/
set_option maxHeartbeats 2000000 in
set_option maxRecDepth 100000 in
theorem within_yes (i n : Nat) (w : World) (h : i < n) :
    Calls Tryz.prog 26 #[.int .i64 (i : Int), .int .i64 (n : Int)] w fun e w' => e = .returned (.bool true) ∧ w' = w := by
  have h1 : (0 : Int) ≤ (i : Int) := by omega
  have h2 : (i : Int) < (n : Int) := by omega
  go_enter Tryz.func26, Tryz.ntmps26
  go_wp2
  go_ret
  exact ⟨ret_bool (by simp), rfl⟩
inductive WalkP : List At → List Nat → At → Prop
  | one {l : List At} {i : Nat} {a : At} : l[i]? = some a → WalkP l [i] a
  | more {l : List At} {i j : Nat} {b : At} {is : List Nat} {a : At} : l[i]? = some b → WalkP b.params (j :: is) a → WalkP l (i :: j :: is) a
set_option maxHeartbeats 2000000 in
set_option maxRecDepth 100000 in
theorem clone_zero (w : World) (a : Option Addr) (cap : Nat) :
    Calls Tryz.prog 59 #[.slice a 0 cap] w fun e w' => ∃ a' cap', e = .returned (.slice a' 0 cap') ∧ Below w.heap.size w w' := by
  have hq : ∀ (w : World) (a : Option Addr) (n c n' c' : Nat), (binOp .eql 32 (.slice a n c) (.slice none n' c')).run Tryz.prog w = .ok (.bool a.isNone) w := fun w a n c n' c' => Lib.run_eql_slice_nil w _ _ a n c n' c' Tryz.underlying32
  cases a with
  | none =>
    go_enter Tryz.func59, Tryz.ntmps59
    go_wp2
    go_ret
    exact ⟨_, _, rfl, Below.refl _ _⟩
  | some ad =>
    obtain ⟨i0, hi0, hz0, hz1, hz2⟩ := info_parts Tryz.info34
    have hown := World.ownsRow_lit (base := w.heap.size) (e := 34) (size := 12) w #[] 0 (Nat.le_refl _) (Nat.zero_le _) rfl
    go_enter Tryz.func59, Tryz.ntmps59
    go_wp2_with (at_builtin; refine wpList_append_own_at _ rfl (.tmp 5) (.tmp 6) 32 rfl w.heap.size 34 i0 (.agg zero12) 12 128 Tryz.underlying32 hi0 hz0 hz1 hz2 rfl (by decide) _ 0 _ rfl hown ad 0 cap [] rfl rfl (fun j u hj => by cases hj) (fun u hu => by cases hu) (by decide) (by decide) (by simp) ?_)
    intro v6 w6 ho6 hg6 _ hat6
    obtain ⟨av6, cv6, rfl⟩ := own_shape12 ho6
    have hb6 : Below w.heap.size w w6 := ((Below.refl w.heap.size w).alloc (Nat.le_refl _) _).grown hg6 (by simp) (fun k e => by simp [Value.ownBlock] at e; omega)
    clear ho6 hg6 hat6 hown
    go_wp2
    go_ret
    exact ⟨_, _, rfl, hb6⟩
set_option maxHeartbeats 2000000 in
set_option maxRecDepth 100000 in
theorem copied_zero (w : World) (a : Option Addr) (cap : Nat) :
    Calls Tryz.prog 27 #[.slice a 0 cap] w fun e w' => ∃ a' cap', e = .returned (.slice a' 0 cap') ∧ Below w.heap.size w w' := by
  have cc := clone_zero w a cap
  go_enter Tryz.func27, Tryz.ntmps27
  go_wp2_with fail
  refine cc.mono ?_
  rintro e w1 ⟨a', cap', rfl, hb1⟩
  clear cc
  go_wp2
  go_loopg [3, 8] 0 (fun gg _ s8 wr => s8 = .int .i64 0 ∧ Hid (Below w.heap.size w wr))
  case atStart => exact ⟨rfl, hb1⟩
  case round =>
    obtain ⟨rfl, BW⟩ := hrel
    go_wp2
    go_ret
    exact ⟨_, _, rfl, BW.out⟩
/-- What is asked of a copy. -/
def CopC (F : Nat → Prop) (l : List At) : Prop := ∀ (W : World) (lv : Value), AttrsAt W F lv l → Calls Tryz.prog 27 #[lv] W fun e w' => ∃ pv', e = .returned pv' ∧ AttrsAt w' (fun g => W.heap.size ≤ g) pv' l ∧ Below W.heap.size W w'
theorem copied_nil (F : Nat → Prop) : CopC F [] := by
  intro W lv h
  have hv : ∃ a cap, lv = .slice a 0 cap := by
    generalize hl : ([] : List At) = l at h
    cases h with
    | nil => exact ⟨_, _, rfl⟩
    | @row g off cap ps b c d e f =>
      have : ps = [] := by simpa using hl.symm
      subst this
      exact ⟨_, _, rfl⟩
  obtain ⟨a, cap, rfl⟩ := hv
  refine (copied_zero W a cap).mono ?_
  rintro e w' ⟨a', cap', rfl, hb⟩
  exact ⟨_, rfl, .nil, hb⟩
end Go.Proofs.YtlbgppijeoonjaaGreatDoor
