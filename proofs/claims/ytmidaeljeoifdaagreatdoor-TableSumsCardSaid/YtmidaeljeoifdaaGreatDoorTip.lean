import Derived.Test.YtmidaeljeoifdaaGreatDoorTim
import Derived.Test.YtmidaeljeoifdaaGreatDoorKvg
namespace Go.Proofs.YtmidaeljeoifdaaGreatDoor
open Go.RowKit Go.Shelf Go.Sort Go.Maps
set_option linter.unusedVariables false
set_option linter.unusedSimpArgs false
theorem id9 {z : Int} {n : Nat} (h : isId z n = true) : 0 ≤ z ∧ z < n := by
 unfold isId at h
 simpa using h
theorem in9 {v a b : Int} (h : inR v a b = true) : a ≤ v ∧ v ≤ b := by
 unfold inR at h
 simpa using h
theorem ris_len9 {n : Nat} : ∀ {l : List Int} {a : Int}, a < n → risF a l n = true → (l.length : Int) ≤ n - a - 1
 | [], a, ha, _ => by simp; omega
 | x :: r, a, ha, h => by
  rw [risF] at h
  simp only [Bool.and_eq_true, decide_eq_true_eq] at h
  have hx := id9 h.1.1
  have := ris_len9 hx.2 h.2
  rw [List.length_cons]
  omega
theorem ris9 {l : List Int} {n : Nat} (h : risF (-1) l n = true) : (∀ z ∈ l, 0 ≤ z ∧ z < n) ∧ l.length ≤ n := by
 refine ⟨fun z hz => id9 (ids_of_ris h z hz), ?_⟩
 have := ris_len9 (by omega) h
 omega
theorem mk_ok {c : Cf} (h : May c) (hm : ∀ x ∈ c.evs, x.mask < 4294967296) : MkOK c := by
 have nm := in9 h.m.1
 have nr := in9 h.r.1
 have ne := in9 h.e.1
 have nt := in9 h.t.1
 have nk := in9 h.k.1
 have na := in9 h.a.1
 have ni := in9 h.i.1
 have ns := in9 h.s.1
 have act : ∀ a : Ac, objB c a = true → a.kind = 2 → 0 ≤ a.event ∧ a.event < c.evs.length := fun a ho hk => by
  unfold objB at ho
  rw [hk] at ho
  exact id9 (by simpa [uE, uT] using (Bool.and_eq_true_iff.1 ho).2)
 refine ⟨hm, ⟨by omega, by omega, by omega, by omega, by omega, by omega⟩, fun x hx => ?_, fun x hx => ?_, fun x hx => ?_, fun x hx => ?_⟩
 ·obtain ⟨j, hj⟩ := List.getElem?_of_mem hx
  have q : (risF (-1) x.auto c.modes.length && risF (-1) x.res c.ress.length && risF (-1) x.evs c.evs.length && risF (-1) x.msgs c.msgs.length) = true := (h.t.2 j x hj).2.2 1 (by omega)
  simp only [Bool.and_eq_true] at q
  obtain ⟨⟨⟨q1, q2⟩, q3⟩, _⟩ := q
  have r1 := ris9 q1
  have r2 := ris9 q2
  have r3 := ris9 q3
  exact ⟨⟨by omega, by omega, by omega⟩, fun i hi => ⟨(r1.1 i hi).1, by have := (r1.1 i hi).2; omega⟩, r2.1, r3.1⟩
 ·obtain ⟨j, hj⟩ := List.getElem?_of_mem hx
  have q3 : objB c x.ac = true := (h.a.2 j x hj).2.2 3 (by omega)
  have q6 : risF (-1) x.auto c.modes.length = true := (h.a.2 j x hj).2.2 6 (by omega)
  have r6 := ris9 q6
  exact ⟨by omega, fun i hi => ⟨(r6.1 i hi).1, by have := (r6.1 i hi).2; omega⟩, act x.ac q3⟩
 ·obtain ⟨j, hj⟩ := List.getElem?_of_mem hx
  have q : (risF (-1) x.res c.ress.length && risF (-1) x.msgs c.msgs.length) = true := (h.i.2 j x hj).2.2 1 (by omega)
  have r1 := ris9 (Bool.and_eq_true_iff.1 q).1
  omega
 ·obtain ⟨j, hj⟩ := List.getElem?_of_mem hx
  exact act x.ac ((h.s.2 j x hj).2.2 5 (by omega))
end Go.Proofs.YtmidaeljeoifdaaGreatDoor
