import Derived.Test.YtmidaeljeoifdaaGreatDoorKrn
namespace Go.Proofs.YtmidaeljeoifdaaGreatDoor
set_option maxHeartbeats 16000000
open Go.RowKit
set_option linter.unusedVariables false
def idxF (x : Int) (j : Nat) : List Int → Int
 | [] => -1
 | y :: r => if x == y then (j : Int) else idxF x (j + 1) r
def hasL (l : List Int) (x : Int) : Bool := l.any (fun y => x == y)
theorem idxF_has (x : Int) (l : List Int) (j : Nat) : decide (0 ≤ idxF x j l) = hasL l x := by
 induction l generalizing j with
 | nil => rfl
 | cons y r ih =>
  rw [idxF]
  cases h : x == y with
  | true =>
   simp only [if_true]
   rw [decide_eq_true (by omega)]
   simp [hasL, h]
  | false =>
   have h2 : hasL (y :: r) x = hasL r x := by simp [hasL, h]
   rw [h2, if_neg (by decide)]
   exact ih (j + 1)
theorem index_int (w : World) (s : Sl) (l : List Int) (h : RowsAt w 1 intP s l) (x : Int) : Calls Tryz.prog 148 #[.slice s.a s.n s.c, I x] w fun e w' => e = .returned (I (idxF x 0 l)) ∧ w' = w := by
 obtain ⟨sa, sn, sc⟩ := s
 have HN : Hid (sn = l.length) := h.n
 have hc : sn ≤ sc := h.c
 have hm : sc ≤ maxLen := h.m
 dsimp only
 unfold maxLen at hm
 go_enter Tryz.func148, Tryz.ntmps148
 go_wp2
 go_loop [5, 8] (fun _ i => ∃ j : Nat, j ≤ sn ∧ i = .int .i64 j ∧ Hid (idxF x 0 l = idxF x j (l.drop j))) (fun _ i => sn - (intOf i).toNat)
 case atStart => exact ⟨0, by omega, rfl, rfl⟩
 case round =>
  obtain ⟨j, hj, rfl, HR⟩ := hrel
  by_cases hlt : j < sn
  ·have hlt' : (j : Int) < sn := by omega
   have hjl : j < l.length := by rw [← HN.out]; exact hlt
   obtain ⟨y, hy⟩ : ∃ y, l[j]? = some y := ⟨l[j], List.getElem?_eq_getElem hjl⟩
   obtain ⟨g, off, e, hg, hcx⟩ := ints_at h hy
   dsimp only at e
   subst e
   have HE : Hid (idxF x 0 l = if x == y then (j : Int) else idxF x (j + 1) (l.drop (j + 1))) := by
    show _ = _
    rw [HR.out, List.drop_eq_getElem_cons hjl, idxF]
    rw [List.getElem?_eq_getElem hjl] at hy
    rw [Option.some.inj hy]
   clear hy hjl HR
   cases hk : x == y with
   | true =>
    have HE2 : Hid (idxF x 0 l = j) := by show _ = _; rw [HE.out, hk]; rfl
    clear HE
    go_wp2
    go_ret
    exact ⟨ret_int HE2.out.symm, rfl⟩
   | false =>
    have HE2 : Hid (idxF x 0 l = idxF x (j + 1) (l.drop (j + 1))) := by show _ = _; rw [HE.out, hk]; rfl
    clear HE
    go_wp2
    go_round
    case rel => exact ⟨j + 1, by omega, by go_num, HE2⟩
    case measure => simp [intOf]; omega
  ·obtain rfl : j = sn := by omega
   have hlt' : ¬ (j : Int) < j := by omega
   have HE2 : Hid (idxF x 0 l = -1) := by show _ = _; rw [HR.out, List.drop_eq_nil_of_le (by rw [← HN.out]; exact Nat.le_refl _), idxF]
   go_wp2
   go_ret
   exact ⟨ret_int HE2.out.symm, rfl⟩
theorem contains_int (w : World) (s : Sl) (l : List Int) (h : RowsAt w 1 intP s l) (x : Int) : Calls Tryz.prog 110 #[.slice s.a s.n s.c, I x] w fun e w' => e = .returned (.bool (hasL l x)) ∧ w' = w := by
 have c1 := index_int w s l h x
 have HH : Hid (decide (0 ≤ idxF x 0 l) = hasL l x) := idxF_has x l 0
 generalize idxF x 0 l = r at *
 go_enter Tryz.func110, Tryz.ntmps110
 go_wp2_with (first | (go_at_call 148; refine c1.mono ?_; rintro e w' ⟨rfl, rfl⟩))
 go_ret
 exact ⟨ret_bool (by rw [← HH.out]), rfl⟩
def actC (a : Ac) (lo hi : Int) : Array Value := #[I a.kind, I a.task, I a.event, S a.name, I lo, I hi]
theorem hasKind_any (a : Ac) (lo hi : Int) (w : World) : Calls Tryz.prog 280 #[.agg (actC a lo hi)] w fun e w' => Ans w (inR a.kind lo hi) e w' := by
 have c1 := within_ak a.kind lo hi
 have hb := below_alloc w
 unfold actC
 go_enter Tryz.func280, Tryz.ntmps280
 go_wp2_with (first | (go_at_call 297; refine (c1 _).mono ?_; rintro e w' ⟨rfl, rfl⟩))
 go_ret
 exact ⟨rfl, hb _⟩
def calB (a : Ac) : Bool := !uN a.kind || isNm a.name
theorem isCalled_any (a : Ac) (w : World) : Calls Tryz.prog 288 #[.agg (acC a)] w fun e w' => Ans w (calB a) e w' := by
 have c1 := usesName_any a.kind
 have c2 := isName_l a.name
 have hb := below_alloc w
 unfold calB acC
 generalize uN a.kind = b1 at *
 generalize isNm a.name = b2 at *
 cases b1 <;> cases b2 <;> (go_enter Tryz.func288, Tryz.ntmps288; go_wp2_with (first | (go_at_call 300; refine (c1 _).mono ?_; rintro e w' ⟨rfl, rfl⟩) | (go_at_call 195; refine (c2 _).mono ?_; rintro e w' ⟨rfl, rfl⟩)); go_ret; exact ⟨ret_bool (by simp), hb _⟩)
end Go.Proofs.YtmidaeljeoifdaaGreatDoor
