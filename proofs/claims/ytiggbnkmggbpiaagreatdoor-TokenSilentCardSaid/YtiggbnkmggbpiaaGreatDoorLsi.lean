import Derived.Test.YtiggbnkmggbpiaaGreatDoorLsh
import Derived.Lib.LastIndexByte
import Derived.Lib.Case
namespace Go.Proofs.YtiggbnkmggbpiaaGreatDoor
open Go
set_option linter.unusedVariables false

theorem line_count (t : List UInt8) (k : Nat) : lineN t k = 1 + Lib.countByte (t.take k) 10 := by
  induction k with
  | zero => simp [lineN, Lib.countByte]
  | succ k ih =>
    rw [lineN, ih]
    unfold Lib.countByte
    rw [List.take_add_one]
    cases h : t[k]? with
    | none => simp
    | some c =>
      by_cases hc : c = 10
      · subst hc; simp [List.count_append]; omega
      · simp [List.count_append, hc]
theorem beg_last (s : ByteArray) (k : Nat) (hk : k ≤ s.size) (t : List UInt8) (ht : ∀ j, j < k → t[j]? = s.data.toList[j]?) : ((begN t k : Nat) : Int) = Lib.lastIdx s 10 k + 1 := by
  induction k with
  | zero => rfl
  | succ k ih =>
    have IH := ih (by omega) (fun j hj => ht j (by omega))
    have hk2 : k < s.data.size := hk
    have hk3 : k < s.data.toList.length := by rw [Array.length_toList]; exact hk2
    have hg : s.data[k]! = s.data.toList[k] := by rw [getElem!_pos s.data k hk2]; rfl
    have h1 := ht k (by omega)
    rw [List.getElem?_eq_getElem hk3] at h1
    rw [begN, h1, ← hg, Lib.lastIdx]
    generalize s.data[k]! = c at *
    by_cases hc : c = 10
    · subst hc
      rw [if_pos rfl]
      simp
    · have hn : ¬ ((c.toNat : Int) == 10) = true := by
        intro e
        have e' : (c.toNat : Int) = 10 := by simpa using e
        exact hc (UInt8.toNat_inj.1 (by show c.toNat = 10; omega))
      rw [if_neg (fun e => hc (Option.some.inj e)), if_neg (by simpa using hn)]
      exact IH
theorem upD : ∀ d, d < 16 → Lib.upperB (hexd d) = hexD d ∧ (hexd d).toNat < 128 := by decide
theorem hex_up (v : Nat) : Lib.toUpperA (hexG hexd v) = hexU v ∧ ∀ c ∈ hexG hexd v, c.toNat < 128 := by
  induction v using Nat.strongRecOn with
  | _ v ih =>
    unfold hexU Lib.toUpperA at *
    by_cases h : v < 16
    · have e1 : ∀ g, hexG g v = [g v] := fun g => by rw [hexG, dif_pos h]
      rw [e1, e1]
      have := upD v h
      refine ⟨by rw [List.map_cons, this.1]; rfl, fun c hc => ?_⟩
      simp at hc
      subst hc
      exact this.2
    · have e1 : ∀ g, hexG g v = hexG g (v / 16) ++ [g (v % 16)] := fun g => by rw [hexG, dif_neg h]
      rw [e1, e1]
      obtain ⟨h1, h2⟩ := ih (v / 16) (by omega)
      have := upD (v % 16) (by omega)
      refine ⟨by rw [List.map_append, h1, List.map_cons, this.1]; rfl, fun c hc => ?_⟩
      simp at hc
      rcases hc with hc | hc
      · exact h2 c hc
      · subst hc; exact this.2
end Go.Proofs.YtiggbnkmggbpiaaGreatDoor
