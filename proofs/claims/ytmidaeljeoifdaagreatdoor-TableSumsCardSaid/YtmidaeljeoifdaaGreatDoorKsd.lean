import Derived.Test.YtmidaeljeoifdaaGreatDoorKsc
namespace Go.Proofs.YtmidaeljeoifdaaGreatDoor
set_option maxRecDepth 100000
set_option maxHeartbeats 16000000
open Go.RowKit
set_option linter.unusedVariables false
def ctrE (x : Ct) : Int := if (inR x.max 1 2147483647 && inR x.base 1 2147483647 && inR x.min 1 x.max) = true then 0 else 74
theorem rcounter_any (w : World) (c : Cf) (v : Vs) (h : CfAt w c v) (i : Nat) (x : Ct) (hi : c.ctrs[i]? = some x) :
  Calls Tryz.prog 163 #[.agg (cfC c v), I i] w fun e w' => e = .returned (I (ctrE x)) ∧ Below w.heap.size w w' := by
 have hn : v.k.n = c.ctrs.length := h.k.n
 have hlt : (i : Int) < v.k.n := by have := (List.getElem?_eq_some_iff.1 hi).1; omega
 obtain ⟨g, off, e, hg, a0, a1, a2, a3⟩ := ct_at h hi
 have hne : g ≠ w.heap.size := by omega
 have hb := below_alloc w
 have hb2 := fun o o' => (hb o).trans ((below_alloc (w.alloc o) o').mono (hb o).size)
 have f14 : ∀ h : 14 < (cfC c v).size, (cfC c v)[14] = .slice v.k.a v.k.n v.k.c := fun _ => rfl
 have hs18 : (cfC c v).size = 18 := rfl
 generalize cfC c v = C at *
 replace f14 := f14 (by omega)
 rw [e] at f14
 clear hi hn
 obtain ⟨R, hR⟩ : ∃ R, R = ctrE x := ⟨_, rfl⟩
 rw [← hR]
 unfold ctrE inR at hR
 have HR : Hid (R = _) := hR
 clear hR
 by_cases h0 : (x.max : Int) < 1
 ·have HE : Hid (R = 74) := by show _ = _; rw [HR.out, if_neg (by simp; omega)]
  clear HR
  go_enter Tryz.func163, Tryz.ntmps163
  go_wp2
  go_ret
  exact ⟨ret_int HE.out.symm, hb2 _ _⟩
 ·skip
  by_cases h1 : 2147483647 < (x.max : Int)
  ·have HE : Hid (R = 74) := by show _ = _; rw [HR.out, if_neg (by simp; omega)]
   clear HR
   go_enter Tryz.func163, Tryz.ntmps163
   go_wp2
   go_ret
   exact ⟨ret_int HE.out.symm, hb2 _ _⟩
  ·skip
   by_cases h2 : (x.base : Int) < 1
   ·have HE : Hid (R = 74) := by show _ = _; rw [HR.out, if_neg (by simp; omega)]
    clear HR
    go_enter Tryz.func163, Tryz.ntmps163
    go_wp2
    go_ret
    exact ⟨ret_int HE.out.symm, hb2 _ _⟩
   ·skip
    by_cases h3 : 2147483647 < (x.base : Int)
    ·have HE : Hid (R = 74) := by show _ = _; rw [HR.out, if_neg (by simp; omega)]
     clear HR
     go_enter Tryz.func163, Tryz.ntmps163
     go_wp2
     go_ret
     exact ⟨ret_int HE.out.symm, hb2 _ _⟩
    ·skip
     by_cases h4 : (x.min : Int) < 1
     ·have HE : Hid (R = 74) := by show _ = _; rw [HR.out, if_neg (by simp; omega)]
      clear HR
      go_enter Tryz.func163, Tryz.ntmps163
      go_wp2
      go_ret
      exact ⟨ret_int HE.out.symm, hb2 _ _⟩
     ·skip
      by_cases h5 : (x.max : Int) < (x.min : Int)
      ·have HE : Hid (R = 74) := by show _ = _; rw [HR.out, if_neg (by simp; omega)]
       clear HR
       go_enter Tryz.func163, Tryz.ntmps163
       go_wp2
       go_ret
       exact ⟨ret_int HE.out.symm, hb2 _ _⟩
      ·skip
       have HE : Hid (R = 0) := by show _ = _; rw [HR.out, if_pos (by simp; omega)]
       clear HR
       go_enter Tryz.func163, Tryz.ntmps163
       go_wp2
       go_ret
       exact ⟨ret_int HE.out.symm, hb2 _ _⟩
theorem rhas_any (w : World) (s : Sl) (l : List Int) (h : RowsAt w 1 intP s l) (x : Int) : Calls Tryz.prog 270 #[.slice s.a s.n s.c, I x] w fun e w' => e = .returned (.bool (hasL l x)) ∧ w' = w := by
 obtain ⟨sa, sn, sc⟩ := s
 have HN : Hid (sn = l.length) := h.n
 have hc : sn ≤ sc := h.c
 have hm : sc ≤ maxLen := h.m
 dsimp only
 unfold maxLen at hm
 go_enter Tryz.func270, Tryz.ntmps270
 go_wp2
 go_loop [5] (fun i => ∃ j : Nat, j ≤ sn ∧ i = .int .i64 j ∧ Hid (hasL l x = hasL (l.drop j) x)) (fun i => sn - (intOf i).toNat)
 case atStart => exact ⟨0, by omega, rfl, rfl⟩
 case round =>
  obtain ⟨j, hj, rfl, HR⟩ := hrel
  by_cases hlt : j < sn
  ·have hlt' : (j : Int) < sn := by omega
   have hjl : j < l.length := by rw [← HN.out]; exact hlt
   obtain ⟨y, hy⟩ : ∃ y, l[j]? = some y := ⟨l[j], List.getElem?_eq_getElem hjl⟩
   obtain ⟨g, off, e, hg, hcx⟩ := ints_at h hy
   dsimp only at e
   subst e
   have HE : Hid (hasL l x = ((x == y) || hasL (l.drop (j + 1)) x)) := by
    show _ = _
    rw [HR.out, List.drop_eq_getElem_cons hjl]
    rw [List.getElem?_eq_getElem hjl] at hy
    rw [Option.some.inj hy]
    rfl
   clear hy hjl HR
   cases hk : y == x with
   | true =>
    have HE2 : Hid (hasL l x = true) := by show _ = _; rw [HE.out, show (x == y) = true by rw [beq_iff_eq] at hk ⊢; exact hk.symm]; rfl
    clear HE
    go_wp2
    go_ret
    exact ⟨ret_bool HE2.out.symm, rfl⟩
   | false =>
    have HE2 : Hid (hasL l x = hasL (l.drop (j + 1)) x) := by show _ = _; rw [HE.out, show (x == y) = false by rw [beq_eq_false_iff_ne] at hk ⊢; exact fun e => hk e.symm]; rfl
    clear HE
    go_wp2
    go_round
    case rel => exact ⟨j + 1, by omega, by go_num, HE2⟩
    case measure => simp [intOf]; omega
  ·obtain rfl : j = sn := by omega
   have hlt' : ¬ (j : Int) < j := by omega
   have HE2 : Hid (hasL l x = false) := by show _ = _; rw [HR.out, List.drop_eq_nil_of_le (by rw [← HN.out]; exact Nat.le_refl _)]; rfl
   go_wp2
   go_ret
   exact ⟨ret_bool HE2.out.symm, rfl⟩
end Go.Proofs.YtmidaeljeoifdaaGreatDoor
