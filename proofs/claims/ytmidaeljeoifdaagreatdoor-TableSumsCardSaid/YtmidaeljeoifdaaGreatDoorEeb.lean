import Derived.Test.YtmidaeljeoifdaaGreatDoorEea
namespace Go.Proofs.YtmidaeljeoifdaaGreatDoor.Ce
open Go.RowKit Go.Sort
set_option linter.unusedVariables false
set_option linter.unusedSimpArgs false
def useT (c : Cf) (r : Int) (k : Nat) : Option Int := (c.tasks.take k).foldl (fun t x => if usesB c x.res r = true then topAdd t x.prio else t) none
def useI (c : Cf) (r : Int) (k : Nat) : Option Int := (c.isrs.take k).foldl (fun t x => if usesB c x.res r = true then topAdd t x.prio else t) (useT c r c.tasks.length)
theorem topAdd_twice (t : Option Int) (p : Int) : topAdd (topAdd t p) p = topAdd t p := by
 cases t with
 | none => simp [topAdd]
 | some q => simp only [topAdd]; congr 1; omega
theorem addL_any (c : Cf) (p : Int) (l : List Int) (f : Nat → Option Int) (k : Nat) : addL c p l f k = if (l.any (fun x => rootN c x == (k : Int))) = true then topAdd (f k) p else f k := by
 unfold addL
 have gen : ∀ (m : List Int) (t : Option Int), m ≠ [] → m.foldl (fun t _ => topAdd t p) t = topAdd t p := by
  intro m
  induction m with
  | nil => intro t h; exact absurd rfl h
  | cons y r ih =>
   intro t _
   rw [List.foldl_cons]
   cases r with
   | nil => rfl
   | cons z r => rw [ih _ (by simp), topAdd_twice]
 cases hf : l.filter (fun id => rootN c id == (k : Int)) with
 | nil =>
  rw [if_neg]
  ·rfl
  ·intro h
   obtain ⟨x, hx, hb⟩ := List.any_eq_true.1 h
   have : x ∈ l.filter (fun id => rootN c id == (k : Int)) := List.mem_filter.2 ⟨hx, hb⟩
   rw [hf] at this
   cases this
 | cons y r =>
  rw [if_pos, gen _ _ (by simp)]
  have : y ∈ l.filter (fun id => rootN c id == (k : Int)) := by rw [hf]; simp
  obtain ⟨h1, h2⟩ := List.mem_filter.1 this
  exact List.any_eq_true.2 ⟨y, h1, h2⟩
theorem ceilE_use (c : Cf) (i : Nat) (h : 0 ≤ rootN c (i : Int)) : ceilE c i = toldI (useI c (i : Int) c.isrs.length) := by
 obtain ⟨q, hq⟩ := Int.eq_ofNat_of_zero_le h
 have hT : ∀ (l : List Tk) (f : Nat → Option Int) (t : Option Int), f q = t → l.foldl (fun f x => addL c x.prio x.res f) f q = l.foldl (fun t x => if usesB c x.res (i : Int) = true then topAdd t x.prio else t) t := by
  intro l
  induction l with
  | nil => intro f t h; exact h
  | cons x r ih =>
   intro f t h
   rw [List.foldl_cons, List.foldl_cons]
   refine ih _ _ ?_
   rw [addL_any, h]
   unfold usesB
   rw [hq]
 have hI : ∀ (l : List Is) (f : Nat → Option Int) (t : Option Int), f q = t → l.foldl (fun f x => addL c x.prio x.res f) f q = l.foldl (fun t x => if usesB c x.res (i : Int) = true then topAdd t x.prio else t) t := by
  intro l
  induction l with
  | nil => intro f t h; exact h
  | cons x r ih =>
   intro f t h
   rw [List.foldl_cons, List.foldl_cons]
   refine ih _ _ ?_
   rw [addL_any, h]
   unfold usesB
   rw [hq]
 unfold ceilE
 rw [hq]
 show toldI (topI c c.isrs.length q) = _
 unfold topI useI
 rw [hI _ _ _ (show topT c c.tasks.length q = useT c (i : Int) c.tasks.length from hT _ _ _ rfl)]
end Go.Proofs.YtmidaeljeoifdaaGreatDoor.Ce
