import Derived.Test.YtmidaeljeoifdaaGreatDoorKrm
namespace Go.Proofs.YtmidaeljeoifdaaGreatDoor
set_option maxHeartbeats 16000000
open Go.RowKit
set_option linter.unusedVariables false
def uT (k : Int) : Bool := k == 1 || k == 2
def uE (k : Int) : Bool := k == 2
def uN (k : Int) : Bool := k == 3 || k == 4
theorem usesTask_any (k : Int) (w : World) : Calls Tryz.prog 298 #[I k] w fun e w' => e = .returned (.bool (uT k)) ∧ w' = w := by
 unfold uT
 cases h1 : k == 1 <;> (go_enter Tryz.func298, Tryz.ntmps298; go_wp2; go_ret; exact ⟨ret_bool (by simp), rfl⟩)
theorem usesEvent_any (k : Int) (w : World) : Calls Tryz.prog 299 #[I k] w fun e w' => e = .returned (.bool (uE k)) ∧ w' = w := by
 unfold uE
 go_enter Tryz.func299, Tryz.ntmps299
 go_wp2
 go_ret
 exact ⟨rfl, rfl⟩
theorem usesName_any (k : Int) (w : World) : Calls Tryz.prog 300 #[I k] w fun e w' => e = .returned (.bool (uN k)) ∧ w' = w := by
 unfold uN
 cases h1 : k == 3 <;> (go_enter Tryz.func300, Tryz.ntmps300; go_wp2; go_ret; exact ⟨ret_bool (by simp), rfl⟩)
def acC (a : Ac) : Array Value := #[I a.kind, I a.task, I a.event, S a.name]
def bareB (a : Ac) : Bool := (uT a.kind || a.task == 0) && (uE a.kind || a.event == 0) && (uN a.kind || a.name.isEmpty)
theorem isBare_any (a : Ac) (w : World) : Calls Tryz.prog 282 #[.agg (acC a)] w fun e w' => Ans w (bareB a) e w' := by
 have c1 := usesTask_any a.kind
 have c2 := usesEvent_any a.kind
 have c3 := usesName_any a.kind
 have hb := below_alloc w
 obtain ⟨B, hB⟩ : ∃ B, B = bareB a := ⟨_, rfl⟩
 rw [← hB]
 unfold bareB at hB
 have HB : Hid (B = _) := hB
 clear hB
 obtain ⟨k, t, e, n⟩ := a
 unfold acC
 dsimp only at c1 c2 c3 HB ⊢
 generalize uT k = b1 at *
 generalize uE k = b2 at *
 generalize uN k = b3 at *
 cases h1 : (b1 || t == 0) with
 | false =>
  obtain ⟨rfl, ht⟩ : b1 = false ∧ (t == 0) = false := by simpa using h1
  have HE : Hid (B = false) := by show _ = _; rw [HB.out, ht]; rfl
  clear HB h1
  go_enter Tryz.func282, Tryz.ntmps282
  go_wp2_with (first | (go_at_call 298; refine (c1 _).mono ?_; rintro e w' ⟨rfl, rfl⟩))
  go_ret
  exact ⟨ret_bool HE.out.symm, hb _⟩
 | true =>
  cases h2 : (b2 || e == 0) with
  | false =>
   obtain ⟨rfl, ht⟩ : b2 = false ∧ (e == 0) = false := by simpa using h2
   have HE : Hid (B = false) := by show _ = _; rw [HB.out, h1, ht]; rfl
   clear HB h2
   cases b1 with
   | true =>
    clear h1
    go_enter Tryz.func282, Tryz.ntmps282
    go_wp2_with (first | (go_at_call 298; refine (c1 _).mono ?_; rintro e w' ⟨rfl, rfl⟩) | (go_at_call 299; refine (c2 _).mono ?_; rintro e w' ⟨rfl, rfl⟩))
    go_ret
    exact ⟨ret_bool HE.out.symm, hb _⟩
   | false =>
    have h1' : (t == 0) = true := by simpa using h1
    clear h1
    go_enter Tryz.func282, Tryz.ntmps282
    go_wp2_with (first | (go_at_call 298; refine (c1 _).mono ?_; rintro e w' ⟨rfl, rfl⟩) | (go_at_call 299; refine (c2 _).mono ?_; rintro e w' ⟨rfl, rfl⟩))
    go_ret
    exact ⟨ret_bool HE.out.symm, hb _⟩
  | true =>
   have HE : Hid (B = (b3 || n.isEmpty)) := by show _ = _; rw [HB.out, h1, h2]; rfl
   clear HB
   cases b1 <;> cases b2 <;> cases b3 <;> (simp only [Bool.false_or, Bool.true_or] at h1 h2; go_enter Tryz.func282, Tryz.ntmps282; go_wp2_with (first | (go_at_call 298; refine (c1 _).mono ?_; rintro e w' ⟨rfl, rfl⟩) | (go_at_call 299; refine (c2 _).mono ?_; rintro e w' ⟨rfl, rfl⟩) | (go_at_call 300; refine (c3 _).mono ?_; rintro e w' ⟨rfl, rfl⟩)); go_ret; exact ⟨ret_bool (by rw [HE.out]; simp), hb _⟩)
end Go.Proofs.YtmidaeljeoifdaaGreatDoor
