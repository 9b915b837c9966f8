import Derived.Test.YtmidaeljeoifdaaGreatDoorKre
namespace Go.Proofs.YtmidaeljeoifdaaGreatDoor
set_option maxRecDepth 100000
set_option maxHeartbeats 16000000
open Go.RowKit
set_option linter.unusedVariables false
theorem rroot_any (w : World) (c : Cf) (v : Vs) (h : CfAt w c v) (hl : c.ress.length ≤ 8796093022208) (r : Int) :
  Calls Tryz.prog 209 #[.agg (cfC c v), I r] w fun e w' => e = .returned (I (rootF c (c.ress.length + 1) r)) ∧ Below w.heap.size w w' := by
 have hc : v.r.n ≤ v.r.c := h.r.c
 have hm : v.r.c ≤ maxLen := h.r.m
 unfold maxLen at hm
 have hn40 : v.r.n ≤ 8796093022208 := by have := h.r.n; omega
 have HN : Hid (v.r.n = c.ress.length) := h.r.n
 have hb := below_alloc w
 have f12 : ∀ h : 12 < (cfC c v).size, (cfC c v)[12] = .slice v.r.a v.r.n v.r.c := fun _ => rfl
 have hs18 : (cfC c v).size = 18 := rfl
 generalize cfC c v = C at *
 replace f12 := f12 (by omega)
 go_enter Tryz.func209, Tryz.ntmps209
 go_wp2
 go_loop [5, 6] (fun r5 i => ∃ (j : Nat) (ρ : Int), j ≤ v.r.n + 1 ∧ i = .int .i64 j ∧ r5 = .int .i64 ρ ∧ Hid (rootF c (c.ress.length + 1) r = rootF c (v.r.n + 1 - j) ρ)) (fun _ i => v.r.n + 1 - (intOf i).toNat)
 case atStart => exact ⟨0, r, by omega, rfl, rfl, by show _ = _; rw [Nat.sub_zero, HN.out]⟩
 case round =>
  obtain ⟨j, ρ, hj, rfl, rfl, HR⟩ := hrel
  by_cases hlt : j ≤ v.r.n
  ·have hlt' : (j : Int) ≤ v.r.n := by omega
   have HE : Hid (rootF c (c.ress.length + 1) r = if isId ρ v.r.n = true then (if rkind c ρ = 2 then rootF c (v.r.n + 1 - (j + 1)) (rlink c ρ) else ρ) else -1) := by
    show _ = _
    rw [HR.out, show v.r.n + 1 - j = (v.r.n + 1 - (j + 1)) + 1 by omega, rootF, HN.out]
   clear HR
   by_cases h0 : ρ < 0
   ·have HE2 : Hid (rootF c (c.ress.length + 1) r = -1) := by show _ = _; rw [HE.out, if_neg (by simp [isId]; omega)]
    clear HE
    go_wp2
    go_ret
    exact ⟨ret_int HE2.out.symm, hb _⟩
   ·by_cases h1 : (v.r.n : Int) ≤ ρ
    ·have HE2 : Hid (rootF c (c.ress.length + 1) r = -1) := by show _ = _; rw [HE.out, if_neg (by simp [isId]; omega)]
     clear HE
     go_wp2
     go_ret
     exact ⟨ret_int HE2.out.symm, hb _⟩
    ·obtain ⟨q, rfl⟩ := Int.eq_ofNat_of_zero_le (show 0 ≤ ρ by omega)
     have hql : q < c.ress.length := by rw [← HN.out]; omega
     obtain ⟨x, hx⟩ : ∃ x, c.ress[q]? = some x := ⟨_, List.getElem?_eq_getElem hql⟩
     obtain ⟨g, off, e, hg, a0, a1, a2⟩ := rs_at h hx
     have hne : g ≠ w.heap.size := by omega
     have hq' : (q : Int) < v.r.n := by omega
     have HE1 : Hid (rootF c (c.ress.length + 1) r = if x.kind = 2 then rootF c (v.r.n + 1 - (j + 1)) x.link else q) := by
      show _ = _
      rw [HE.out, if_pos (by simp [isId]; omega)]
      simp [rkind, rlink, hx]
     rw [e] at f12
     clear hx hql HE
     cases hk : x.kind == 2 with
     | true =>
      have HE2 : Hid (rootF c (c.ress.length + 1) r = rootF c (v.r.n + 1 - (j + 1)) x.link) := by show _ = _; rw [HE1.out, if_pos (by simpa using hk)]
      clear HE1
      go_wp2
      go_round
      case rel => exact ⟨j + 1, x.link, by omega, by go_num, rfl, HE2⟩
      case measure => simp [intOf]; omega
     | false =>
      have HE2 : Hid (rootF c (c.ress.length + 1) r = q) := by show _ = _; rw [HE1.out, if_neg (by simpa using hk)]
      clear HE1
      go_wp2
      go_ret
      exact ⟨ret_int HE2.out.symm, hb _⟩
  ·obtain rfl : j = v.r.n + 1 := by omega
   have hlt' : ¬ ((v.r.n + 1 : Nat) : Int) ≤ v.r.n := by omega
   have HE2 : Hid (rootF c (c.ress.length + 1) r = -1) := by show _ = _; rw [HR.out, Nat.sub_self, rootF]
   go_wp2
   go_ret
   exact ⟨ret_int HE2.out.symm, hb _⟩
end Go.Proofs.YtmidaeljeoifdaaGreatDoor
