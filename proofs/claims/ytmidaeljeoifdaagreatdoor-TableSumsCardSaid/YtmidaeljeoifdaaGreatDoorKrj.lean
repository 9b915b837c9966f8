import Derived.Test.YtmidaeljeoifdaaGreatDoorKri
namespace Go.Proofs.YtmidaeljeoifdaaGreatDoor
set_option maxHeartbeats 16000000
open Go.RowKit
set_option linter.unusedVariables false
def lenOK (n : Int) : Bool := n == 1 || n == 2 || n == 4 || n == 8
theorem isLength_any (n : Int) (w : World) : Calls Tryz.prog 289 #[I n] w fun e w' => e = .returned (.bool (lenOK n)) ∧ w' = w := by
 unfold lenOK
 cases h1 : n == 1 with
 | true => go_enter Tryz.func289, Tryz.ntmps289; go_wp2; go_ret; exact ⟨ret_bool (by simp), rfl⟩
 | false =>
  cases h2 : n == 2 with
  | true => go_enter Tryz.func289, Tryz.ntmps289; go_wp2; go_ret; exact ⟨ret_bool (by simp), rfl⟩
  | false =>
   cases h4 : n == 4 with
   | true => go_enter Tryz.func289, Tryz.ntmps289; go_wp2; go_ret; exact ⟨ret_bool (by simp), rfl⟩
   | false => go_enter Tryz.func289, Tryz.ntmps289; go_wp2; go_ret; exact ⟨ret_bool (by simp), rfl⟩
def msgF (x : Ms) : Bool := if x.kind == 1 then (lenOK x.len && x.frm == 0 && (x.init : Int) == 0 && x.queue == 0) else if x.kind == 2 then (x.len == 0 && x.queue == 0) else if x.kind == 3 then (x.len == 0 && (x.init : Int) == 0 && inR x.queue 1 16) else false
theorem messageFieldsFit_any (w : World) (c : Cf) (v : Vs) (h : CfAt w c v) (i : Nat) (x : Ms) (hi : c.msgs[i]? = some x) :
  Calls Tryz.prog 253 #[.agg (cfC c v), I i] w fun e w' => Ans w (msgF x) e w' := by
 have hn : v.s.n = c.msgs.length := h.s.n
 have hlt : (i : Int) < v.s.n := by have := (List.getElem?_eq_some_iff.1 hi).1; omega
 obtain ⟨g, off, e, hg, a0, a1, a2, a3, a4, a5, a6, a7, a8, a9⟩ := ms_at h hi
 have hne : g ≠ w.heap.size := by omega
 have hb := below_alloc w
 have hb2 := fun o o' => (hb o).trans ((below_alloc (w.alloc o) o').mono (hb o).size)
 have c1 := isLength_any x.len
 have c2 := within_int x.queue 1 16
 obtain ⟨B, hB⟩ : ∃ B, B = msgF x := ⟨_, rfl⟩
 rw [← hB]
 have HB : Hid (B = _) := hB
 clear hB
 have f17 : ∀ h : 17 < (cfC c v).size, (cfC c v)[17] = .slice v.s.a v.s.n v.s.c := fun _ => rfl
 have hs18 : (cfC c v).size = 18 := rfl
 generalize cfC c v = C at *
 replace f17 := f17 (by omega)
 rw [e] at f17
 clear hi hn
 cases hk1 : x.kind == 1 with
 | true =>
  have HE : Hid (B = (lenOK x.len && x.frm == 0 && (x.init : Int) == 0 && x.queue == 0)) := by show _ = _; rw [HB.out, msgF, hk1]; rfl
  clear HB
  generalize lenOK x.len = b1 at *
  cases b1 with
  | false =>
   go_enter Tryz.func253, Tryz.ntmps253
   go_wp2_with (first | (go_at_call 289; refine (c1 _).mono ?_; clear c1; rintro e w' ⟨rfl, rfl⟩) | (go_at_call 193; refine (c2 _).mono ?_; clear c2; rintro e w' ⟨rfl, rfl⟩))
   go_ret
   exact ⟨ret_bool (by first | (rw [HE.out]; rfl) | rw [HE.out]), hb2 _ _⟩
  | true =>
   cases hf : x.frm == 0 with
   | false =>
    go_enter Tryz.func253, Tryz.ntmps253
    go_wp2_with (first | (go_at_call 289; refine (c1 _).mono ?_; clear c1; rintro e w' ⟨rfl, rfl⟩) | (go_at_call 193; refine (c2 _).mono ?_; clear c2; rintro e w' ⟨rfl, rfl⟩))
    go_ret
    exact ⟨ret_bool (by first | (rw [HE.out, hf]; rfl) | rw [HE.out, hf]), hb2 _ _⟩
   | true =>
    cases hi0 : (x.init : Int) == 0 with
    | false =>
     go_enter Tryz.func253, Tryz.ntmps253
     go_wp2_with (first | (go_at_call 289; refine (c1 _).mono ?_; clear c1; rintro e w' ⟨rfl, rfl⟩) | (go_at_call 193; refine (c2 _).mono ?_; clear c2; rintro e w' ⟨rfl, rfl⟩))
     go_ret
     exact ⟨ret_bool (by first | (rw [HE.out, hf, hi0]; rfl) | rw [HE.out, hf, hi0]), hb2 _ _⟩
    | true =>
     cases hq0 : x.queue == 0 with
     | false =>
      go_enter Tryz.func253, Tryz.ntmps253
      go_wp2_with (first | (go_at_call 289; refine (c1 _).mono ?_; clear c1; rintro e w' ⟨rfl, rfl⟩) | (go_at_call 193; refine (c2 _).mono ?_; clear c2; rintro e w' ⟨rfl, rfl⟩))
      go_ret
      exact ⟨ret_bool (by first | (rw [HE.out, hf, hi0, hq0]; rfl) | rw [HE.out, hf, hi0, hq0]), hb2 _ _⟩
     | true =>
      go_enter Tryz.func253, Tryz.ntmps253
      go_wp2_with (first | (go_at_call 289; refine (c1 _).mono ?_; clear c1; rintro e w' ⟨rfl, rfl⟩) | (go_at_call 193; refine (c2 _).mono ?_; clear c2; rintro e w' ⟨rfl, rfl⟩))
      go_ret
      exact ⟨ret_bool (by first | (rw [HE.out, hf, hi0, hq0]; rfl) | rw [HE.out, hf, hi0, hq0]), hb2 _ _⟩
 | false =>
  cases hk2 : x.kind == 2 with
  | true =>
   have HE : Hid (B = (x.len == 0 && x.queue == 0)) := by show _ = _; rw [HB.out, msgF, hk1, hk2]; rfl
   clear HB
   cases hl0 : x.len == 0 with
   | false =>
    go_enter Tryz.func253, Tryz.ntmps253
    go_wp2_with (first | (go_at_call 289; refine (c1 _).mono ?_; clear c1; rintro e w' ⟨rfl, rfl⟩) | (go_at_call 193; refine (c2 _).mono ?_; clear c2; rintro e w' ⟨rfl, rfl⟩))
    go_ret
    exact ⟨ret_bool (by first | (rw [HE.out, hl0]; rfl) | rw [HE.out, hl0]), hb2 _ _⟩
   | true =>
    cases hq0 : x.queue == 0 with
    | false =>
     go_enter Tryz.func253, Tryz.ntmps253
     go_wp2_with (first | (go_at_call 289; refine (c1 _).mono ?_; clear c1; rintro e w' ⟨rfl, rfl⟩) | (go_at_call 193; refine (c2 _).mono ?_; clear c2; rintro e w' ⟨rfl, rfl⟩))
     go_ret
     exact ⟨ret_bool (by first | (rw [HE.out, hl0, hq0]; rfl) | rw [HE.out, hl0, hq0]), hb2 _ _⟩
    | true =>
     go_enter Tryz.func253, Tryz.ntmps253
     go_wp2_with (first | (go_at_call 289; refine (c1 _).mono ?_; clear c1; rintro e w' ⟨rfl, rfl⟩) | (go_at_call 193; refine (c2 _).mono ?_; clear c2; rintro e w' ⟨rfl, rfl⟩))
     go_ret
     exact ⟨ret_bool (by first | (rw [HE.out, hl0, hq0]; rfl) | rw [HE.out, hl0, hq0]), hb2 _ _⟩
  | false =>
   cases hk3 : x.kind == 3 with
   | true =>
    have HE : Hid (B = (x.len == 0 && (x.init : Int) == 0 && inR x.queue 1 16)) := by show _ = _; rw [HB.out, msgF, hk1, hk2, hk3]; rfl
    clear HB
    cases hl0 : x.len == 0 with
    | false =>
     go_enter Tryz.func253, Tryz.ntmps253
     go_wp2_with (first | (go_at_call 289; refine (c1 _).mono ?_; clear c1; rintro e w' ⟨rfl, rfl⟩) | (go_at_call 193; refine (c2 _).mono ?_; clear c2; rintro e w' ⟨rfl, rfl⟩))
     go_ret
     exact ⟨ret_bool (by first | (rw [HE.out, hl0]; rfl) | rw [HE.out, hl0]), hb2 _ _⟩
    | true =>
     cases hi0 : (x.init : Int) == 0 with
     | false =>
      go_enter Tryz.func253, Tryz.ntmps253
      go_wp2_with (first | (go_at_call 289; refine (c1 _).mono ?_; clear c1; rintro e w' ⟨rfl, rfl⟩) | (go_at_call 193; refine (c2 _).mono ?_; clear c2; rintro e w' ⟨rfl, rfl⟩))
      go_ret
      exact ⟨ret_bool (by first | (rw [HE.out, hl0, hi0]; rfl) | rw [HE.out, hl0, hi0]), hb2 _ _⟩
     | true =>
      generalize inR x.queue 1 16 = b2 at *
      go_enter Tryz.func253, Tryz.ntmps253
      go_wp2_with (first | (go_at_call 289; refine (c1 _).mono ?_; clear c1; rintro e w' ⟨rfl, rfl⟩) | (go_at_call 193; refine (c2 _).mono ?_; clear c2; rintro e w' ⟨rfl, rfl⟩))
      go_ret
      exact ⟨ret_bool (by first | (rw [HE.out, hl0, hi0]; rfl) | rw [HE.out, hl0, hi0]), hb2 _ _⟩
   | false =>
    have HE : Hid (B = false) := by show _ = _; rw [HB.out, msgF, hk1, hk2, hk3]; rfl
    clear HB
    go_enter Tryz.func253, Tryz.ntmps253
    go_wp2_with (first | (go_at_call 289; refine (c1 _).mono ?_; clear c1; rintro e w' ⟨rfl, rfl⟩) | (go_at_call 193; refine (c2 _).mono ?_; clear c2; rintro e w' ⟨rfl, rfl⟩))
    go_ret
    exact ⟨ret_bool (by first | (rw [HE.out]; rfl) | rw [HE.out]), hb2 _ _⟩
end Go.Proofs.YtmidaeljeoifdaaGreatDoor
